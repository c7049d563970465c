/- aLb aNd aLc aLe aLq aHa aHb. -/
import Derived.Test.YtjinnigjfopbcaaGreatDoorJs
import Derived.Test.YtjinnigjfopbcaaGreatDoorJa1
set_option maxHeartbeats 16000000
namespace Go.Proofs.YtjinnigjfopbcaaGreatDoor
set_option linter.unusedVariables false
set_option linter.unusedSimpArgs false
open Go.RowKit
set_option maxRecDepth 20000
def xat:List It→List Value
 | []=>[]
 | t :: l=>.int .u64 t.1 :: .string t.2 :: xat l
theorem xas (l:List It):(xat l).length=l.length*2:=by
 induction l with
 | nil=>rfl
 | cons t l ih=>simp[xat,ih];omega
theorem xbT (a b:List It):xat (a++b)=xat a++xat b:=by
 induction a with
 | nil=>rfl
 | cons t l ih=>simp[xat,ih]
theorem xeR (l:List It):∀ (k:Nat) (t:It),l[k]?=some t→(xat l)[k*2]?=some (.int .u64 t.1)∧(xat l)[k*2+1]?=some (.string t.2):=by
 induction l with
 | nil=>intro k t h;simp at h
 | cons s l ih =>
  intro k t h
  cases k with
  | zero=>simp at h;subst h;simp[xat]
  | succ k =>
   have:=ih k t (by simpa using h)
   rw[show (k+1)*2=k*2+1+1 by omega]
   simpa[xat] using this
theorem xcR (l:List It):∀ u ∈ xat l,u.oneCell'=true:=by
 induction l with
 | nil=>intro u h;simp[xat] at h
 | cons t l ih =>
  intro u h
  simp only[xat,List.mem_cons] at h
  rcases h with rfl|rfl|h
  ·rfl
  ·rfl
  ·exact ih u h
def ItsAt (w:World) (v:Value) (l:List It):Prop:=∃ a cap,v=.slice a l.length cap∧l.length≤cap∧cap≤maxLen∧∀ k t,l[k]?=some t→∃ g off,a=some ⟨g,off,none⟩∧g<w.heap.size∧w.cell? ⟨g,off+k*2,none⟩=some (.int .u64 t.1)∧w.cell? ⟨g,off+k*2+1,none⟩=some (.string t.2)
theorem xdp (w:World):ItsAt w (.slice none 0 0) []:=⟨none,0,rfl,Nat.le_refl _,by simp,fun k t h=>by simp at h⟩
theorem ItsAt.below {w w':World} {v:Value} {l:List It} (h:ItsAt w v l) (hb:Below w.heap.size w w'):ItsAt w' v l:=by
 obtain⟨a,cap,rfl,h1,h2,hc⟩:=h
 refine⟨a,cap,rfl,h1,h2,fun k t ht=>?_⟩
 obtain⟨g,off,ha,hg,c0,c1⟩:=hc k t ht
 exact⟨g,off,ha,Nat.lt_of_lt_of_le hg hb.size,xal hb c0,xal hb c1⟩
def xaL (w:World) (B:Nat) (E:TypeId) (v:Value) (l:List It):Prop:=w.ownsRow B E 2 v l.length (xat l)
theorem xcQ (w:World) (B:Nat) (E:TypeId):xaL w B E (.slice none 0 0) []:=World.ownsRow_nil _ _ _ _
theorem xaL.lt {w:World} {B:Nat} {E:TypeId} {v:Value} {l:List It} (h:xaL w B E v l):∀ k,v.ownBlock=some k→B≤k∧k<w.heap.size:=World.ownsRow.lt h
theorem xaL.below {w w':World} {B:Nat} {E:TypeId} {v:Value} {l:List It} (h:xaL w B E v l) (hb:Below w.heap.size w w'):xaL w' B E v l:=by
 have hlt:=h.lt
 obtain⟨h1,h2⟩:=h
 refine⟨h1,?_⟩
 rcases h2 with h2|⟨g,cap,cur,hv,hg,hh,r⟩
 ·exact .inl h2
 ·refine .inr ⟨g,cap,cur,hv,hg,?_,r⟩
  rw[hb.block g (hlt g (by rw[hv];rfl)).2];exact hh
theorem xaL.mono {w:World} {B B':Nat} {E:TypeId} {v:Value} {l:List It} (h:xaL w B E v l) (hb:B'≤B):xaL w B' E v l:=by
 obtain⟨h1,h2⟩:=h
 refine⟨h1,?_⟩
 rcases h2 with h2|⟨g,cap,cur,hv,hg,r⟩
 ·exact .inl h2
 ·exact .inr ⟨g,cap,cur,hv,Nat.le_trans hb hg,r⟩
theorem xaL.itsAt {w:World} {B:Nat} {E:TypeId} {v:Value} {l:List It} (h:xaL w B E v l):ItsAt w v l:=by
 have hlt:=h.lt
 have h':=h
 obtain⟨h1,h2⟩:=h
 rcases h2 with ⟨rfl,hn⟩|⟨g,cap,cur,rfl,hg,hh,hle,hm,_⟩
 ·obtain rfl:l=[]:=List.eq_nil_of_length_eq_zero hn
  exact xdp w
 ·refine⟨_,cap,rfl,hle,hm,fun k t ht=>⟨g,0,rfl,(hlt g rfl).2,?_⟩⟩
  have hk:=(List.getElem?_eq_some_iff.1 ht).1
  obtain⟨f0,f1⟩:=xeR l k t ht
  rw[Nat.zero_add]
  exact⟨(World.ownsRow.cellAt h' (k*2) (by omega)).trans f0,(World.ownsRow.cellAt h' (k*2+1) (by omega)).trans f1⟩
theorem xqI:(Tryz.prog.info? 67).map (·.size)=some 2:=by kernel_rfl
theorem xdQ:(Tryz.prog.info? 64).map (fun i=>(i.zero,i.size,i.bytes))=some (some (.agg #[.int .u64 0,.string { data:=#[] }]),2,24):=by kernel_rfl
theorem xcX:(Tryz.prog.info? 67).map (fun i=>(i.zero,i.size,i.bytes))=some (some (.agg #[.int .u64 0,.string { data:=#[] }]),2,24):=by kernel_rfl
theorem xap (W:World) (B:Nat) (TS E ty:TypeId) (z:Value) (ht:Tryz.prog.underlying TS=some (.slice E)) (hI:(Tryz.prog.info? E).map (fun i=>(i.zero,i.size,i.bytes))=some (some z,2,24)) (hzs:z.cells.size=2)
  (v x:Value) (L m:List It) (hown:xaL W B E v L) (hx:ItsAt W x m) (hl:L.length+m.length≤1000000) (hb:B≤W.heap.size) :
  ∃ v' w',(Builtin.append_ #[TS,TS] ty #[v,x]).run Tryz.prog W=.ok v' w'∧xaL w' B E v' (L++m)∧W.grownBy w' v.ownBlock:=by
 obtain⟨a,cap,rfl,h1,h2,hc⟩:=hx
 have fin:∀ {w':World} {v':Value},w'.ownsRow B E 2 v' (L.length+m.length) (xat L++xat m)→xaL w' B E v' (L++m):=by
  intro w' v' h
  unfold xaL
  rw[xbT,List.length_append]
  exact h
 cases a with
 | none =>
  have hl0:m=[]:=by
   cases m with
   | nil=>rfl
   | cons t l=>obtain⟨g,off,ha,_⟩:=hc 0 t rfl;cases ha
  subst hl0
  refine⟨v,W,?_,by rw[List.append_nil];exact hown,World.grownBy.refl _ _⟩
  obtain⟨i0,hi,hz0,hz1,hz2⟩:=xao hI
  rcases hown.2 with ⟨rfl,hn⟩|⟨g,cap2,cur,rfl,hbg,hg,hnc,hcm,hcs,htake⟩
  ·simp[Builtin.append_,run_underlying ht,sizeOf,typeInfo,hi,Builtin.lenOf,Builtin.firstCells,loadCells,loadCellsFrom]
  ·simp[Builtin.append_,run_underlying ht,sizeOf,typeInfo,hi,Builtin.lenOf,Builtin.firstCells,loadCells,loadCellsFrom,hnc,storeCells]
 | some ad =>
  have hnews:∀ j u,(xat m)[j]?=some u→W.cell? (ad.add j)=some u:=by
   intro j u hu
   have hj:j<m.length*2:=by rw[← xas];exact(List.getElem?_eq_some_iff.1 hu).1
   obtain⟨t,ht⟩:∃ t,m[j / 2]?=some t:=⟨_,List.getElem?_eq_getElem (by omega)⟩
   obtain⟨g,off,ha,_,c0,c1⟩:=hc (j / 2) t ht
   obtain⟨f0,f1⟩:=xeR m (j / 2) t ht
   injection ha with ha
   subst ha
   have hadd:(⟨g,off,none⟩:Addr).add j=⟨g,off+j,none⟩:=by simp[Addr.add]
   rw[hadd]
   rcases(by omega:j=j / 2*2∨j=j / 2*2+1) with e|e
   ·rw[e,f0] at hu;rw[← hu];rw[show off+j=off+j / 2*2 from by omega];exact c0
   ·rw[e,f1] at hu;rw[← hu];rw[show off+j=off+j / 2*2+1 from by omega];exact c1
  obtain⟨i0,hi,hz0,hz1,hz2⟩:=xao hI
  obtain⟨v',w',hr,h2,h3,h4⟩:=run_append_own (P:=Tryz.prog) W B TS ty E i0 _ 2 24 ht hi hz0 hz1 hz2 hzs (by omega) v L.length (xat L) hown ad m.length cap (xat m) (xas m) hnews (xcR m) (by unfold maxLen;omega) (by omega) hb
  exact⟨v',w',hr,fin h2,h3⟩
theorem xik (w:World) (x:Nat) (s:ByteArray) (T:TypeId):ItsAt (w.alloc (.cells #[.int .u64 x,.string s] T)) (.slice (some ⟨w.heap.size,0,none⟩) 1 1) [(x,s)]:=by
 refine⟨_,1,rfl,Nat.le_refl _,by unfold maxLen;omega,fun k t ht=>⟨w.heap.size,0,rfl,by simp,?_⟩⟩
 match k,ht with
 | 0,ht=>simp only[List.getElem?_cons_zero,Option.some.injEq] at ht;subst ht;exact⟨by simp[go_sem],by simp[go_sem]⟩
 | k+1,ht=>simp at ht
def xvz (va:Value) (ts:List ByteArray) (vo:Value):Prop:=∀ a n c,va=.slice (some a) n c→ts≠[]→vo.ownBlock≠some a.block
theorem xbV.grown {w w':World} {va vo:Value} {ts:List ByteArray} (h:xbV w va ts) (hs:xvz va ts vo) (hg:w.grownBy w' vo.ownBlock):xbV w' va ts:=by
 obtain⟨a,cap,rfl,h1,h2,hc⟩:=h
 refine⟨a,cap,rfl,h1,h2,fun k t ht=>?_⟩
 obtain⟨g,off,rfl,hlt,c0⟩:=hc k t ht
 have hn:=hs ⟨g,off,none⟩ _ _ rfl (by rintro rfl;simp at ht)
 have hb:=hg.block g hlt (fun e=>hn e.symm)
 exact⟨g,off,rfl,Nat.lt_of_lt_of_le hlt hg.size,(World.cell?_of_block (a:=⟨g,off+k,none⟩) hb).trans c0⟩
theorem xoO (r:List En) (a:En) (x:Int):(xaB (r++[a])).set (r.length*4+3) (.int .u32 x)=xaB (r++[{ a with rn:=x }]):=by
 rw[xb1,xb1,List.set_append,if_neg (by rw[xbv];omega),xbv,Nat.add_sub_cancel_left]
 rfl
theorem xtR {w:World} {B g cap:Nat} {E:TypeId} {r:List En} {a:En} (h:xa1 w B E (.slice (some ⟨g,0,none⟩) (r.length+1) cap) (r++[a])) (x:Int):xa1 (w.setCell ⟨g,r.length*4+3,none⟩ (.int .u32 x)) B E (.slice (some ⟨g,0,none⟩) (r.length+1) cap) (r++[{ a with rn:=x }])∧w.grownBy (w.setCell ⟨g,r.length*4+3,none⟩ (.int .u32 x)) (some g):=by
 unfold xa1 at h ⊢
 rw[List.length_append,List.length_singleton] at h ⊢
 have h2:=World.ownsRow.stored h (r.length*4+3) (.int .u32 x)
 rw[xoO] at h2
 exact h2
def xdq (rows:List En) (e:En):Bool:=match rows.getLast? with
 | some a=>xlY a e
 | none=>false
theorem xb7 (r:List En) (a e:En):xdq (r++[a]) e=xlY a e:=by unfold xdq;rw[List.getLast?_concat]
theorem xtQ {rows:List En} {e:En} (h:xdq rows e=false):xrP rows e=rows++[e]:=by
 rcases List.eq_nil_or_concat rows with rfl|⟨r,a,rfl⟩
 ·rfl
 ·rw[List.concat_eq_append] at *
  rw[xb7] at h
  rw[xdj,h]
  rfl
theorem xpr {rows:List En} {e:En} (h:xdq rows e=true):∃ r a,rows=r++[a]∧xrP rows e=r++[{ a with rn:=a.rn+1 }]:=by
 rcases List.eq_nil_or_concat rows with rfl|⟨r,a,rfl⟩
 ·cases h
 ·rw[List.concat_eq_append] at *
  rw[xb7] at h
  exact⟨r,a,rfl,by rw[xdj,h];rfl⟩
theorem xvv {l:List En} {d:ByteArray} {e:En} (he:e ∈ l):e.rn.toNat≤(xd7 l d).length:=by
 obtain⟨a,b,rfl⟩:=List.append_of_mem he
 rw[show a++e :: b=a++([e]++b) by simp,xbM,xbM,xdS,List.length_append,List.length_append,xeS]
 omega
theorem xvz.new {W:World} {va vo vo':Value} {ts:List ByteArray} (h:xvz va ts vo) (hs:xbV W va ts) (hv:vo'.ownBlock=vo.ownBlock∨∃ g,vo'.ownBlock=some g∧W.heap.size≤g):xvz va ts vo':=by
 intro a n c e hne ho
 rcases hv with hv|⟨g,hv,hge⟩
 ·exact h a n c e hne (by rw[← hv];exact ho)
 ·obtain⟨a',cap,e2,_,_,hc⟩:=hs
  rw[e] at e2
  cases e2
  cases ts with
  | nil=>exact hne rfl
  | cons t ts =>
   obtain⟨g',off,e3,hlt,_⟩:=hc 0 t rfl
   cases e3
   rw[ho] at hv
   injection hv with hv
   simp only at hv
   omega
structure RwS (w W:World) (L:List It) (k:Nat) (va vo:Value):Prop where
 all:xbV W va (xad (L.take k)).2
 out:xa1 W w.heap.size 118 vo (xad (L.take k)).1
 sep:xvz va (xad (L.take k)).2 vo
 bel:Below w.heap.size w W
theorem RwS.below {w W W':World} {L:List It} {k:Nat} {va vo:Value} (h:RwS w W L k va vo) (hb:Below W.heap.size W W'):RwS w W' L k va vo:=⟨h.all.below hb,h.out.below hb,h.sep,h.bel.trans (hb.mono h.bel.size)⟩
def xww (o:Option ByteArray):ByteArray:=o.getD { data:=#[] }
theorem xn3 (id:Nat) (l:List It) (k:Nat) (t:It) (h:l[k]?=some t):xbA id (l.drop k)=if t.1=id then some t.2 else xbA id (l.drop (k+1)):=by
 rw[xc6 l k t h,xbA]
theorem xhQ (v:Value) (l:List It) (id:Nat) (w:World) (hv:ItsAt w v l) :
  Calls Tryz.prog 34 #[v,.int .u64 id] w fun e w'=>e=.returned (.tuple #[.string (xww (xbA id l)),.bool (xbA id l).isSome])∧w'=w:=by
 obtain⟨al,cap,rfl,hcap,hmx,hc⟩:=hv
 have HC:=lH hc
 have hmx':l.length≤maxLen:=by omega
 unfold maxLen at hmx'
 clear hc
 go_enter Tryz.func34,Tryz.ntmps34
 go_wp2_with fail
 go_loop [6] (fun i=>∃ k:Nat,k≤l.length∧i=.int .i64 k∧xbA id l=xbA id (l.drop k)) (fun i=>l.length - (intOf i).toNat)
 case atStart=>exact⟨0,Nat.zero_le _,rfl,by simp⟩
 case round =>
  obtain⟨k,hk,rfl,hf⟩:=hrel
  by_cases hlt:k<l.length
  ·obtain⟨⟨x,s⟩,htk⟩:∃ t,l[k]?=some t:=⟨_,List.getElem?_eq_getElem hlt⟩
   obtain⟨g,off,rfl,hg,c0,c1⟩:=HC.out k _ htk
   rw[xn3 id l k _ htk] at hf
   by_cases he:x=id
   ·rw[if_pos he] at hf
    have HF:=lH hf
    clear hf
    subst he
    go_wp2_with fail
    refine bodyPost_ret (results_tmp2 rfl _ _ _) rfl ⟨?_,rfl⟩
    rw[HF.out];rfl
   ·rw[if_neg he] at hf
    have HF:=lH hf
    clear hf
    have hne:((x:Int) == (id:Int))=false:=by rw[beq_eq_false_iff_ne];omega
    go_wp2_with fail
    go_round
    case rel=>exact⟨k+1,by omega,by go_num,HF.out⟩
    case measure=>simp[intOf];omega
  ·obtain rfl:k=l.length:=by omega
   rw[List.drop_length,xbA] at hf
   have HF:=lH hf
   clear hf
   go_wp2_with fail
   refine bodyPost_ret (results_tmp2 rfl _ _ _) rfl ⟨?_,rfl⟩
   rw[HF.out];rfl
def xho (l:List It) (m M:Int):Bool:=decide (M<xan l) || decide (m<(l.length:Int))
theorem xpj (v:Value) (l:List It) (m M:Int) (w:World) (hv:ItsAt w v l) (hsz:∀ t ∈ l,t.2.size≤maxLen) (hM0:0≤M) (hM1:M≤1000000) :
  Calls Tryz.prog 26 #[v,.int .i64 m,.int .i64 M] w fun e w'=>e=.returned (.bool (xho l m M))∧w'=w:=by
 obtain⟨al,cap,rfl,hcap,hmx,hc⟩:=hv
 have HC:=lH hc
 have hmx':l.length≤maxLen:=by omega
 unfold maxLen at hmx'
 clear hc
 go_enter Tryz.func26,Tryz.ntmps26
 go_wp2_with fail
 go_loop [2,7] (fun n i=>∃ k:Nat,k≤l.length∧i=.int .i64 k∧n=.int .i64 (M - (xan (l.take k):Int))∧(xan (l.take k):Int)≤M) (fun _ i=>l.length - (intOf i).toNat)
 case atStart=>exact⟨0,Nat.zero_le _,rfl,by simp[xan],by simp[xan];exact hM0⟩
 case round =>
  obtain⟨k,hk,rfl,rfl,hle⟩:=hrel
  by_cases hlt:k<l.length
  ·obtain⟨⟨x,s⟩,htk⟩:∃ t,l[k]?=some t:=⟨_,List.getElem?_eq_getElem hlt⟩
   obtain⟨g,off,rfl,hg,c0,c1⟩:=HC.out k _ htk
   have hts:=hsz _ (List.mem_of_getElem? htk)
   have h1:=xi1 l k _ htk
   have h2:=xiG l (k+1)
   have HS:=lH h1
   simp only at HS h1 hts
   unfold maxLen at hts
   generalize xan (l.take k)=q at *
   have hw:IntKind.i64.wrap (M - (q:Int) - (s.size:Int))=M - (q:Int) - (s.size:Int):=by rw[IntKind.wrap_i64] <;> omega
   by_cases hn:M - (q:Int) - (s.size:Int)<0
   ·have HO:=lH (show xho l m M=true by unfold xho;rw[Bool.or_eq_true,decide_eq_true_eq];left;omega)
    go_wp2_with fail
    go_ret
    exact⟨by rw[HO.out];rfl,rfl⟩
   ·go_wp2_with fail
    go_round
    case rel=>exact⟨k+1,by omega,by go_num,by rw[HS.out];go_num,by rw[HS.out];omega⟩
    case measure=>simp[intOf];omega
  ·obtain rfl:k=l.length:=by omega
   rw[List.take_length] at hle ⊢
   have HO:=lH (show xho l m M=decide (m<(l.length:Int)) by unfold xho;rw[decide_eq_false (by omega),Bool.false_or])
   go_wp2_with fail
   go_ret
   exact⟨by rw[HO.out];rfl,rfl⟩
def xvr (E:TypeId) (l:List It) (w:World) (e:Ending) (w':World):Prop:=∃ v,e=.returned v∧xaL w' w.heap.size E v l∧Below w.heap.size w w'
theorem xqU (v:Value) (l:List It) (id:Nat) (w:World) (hv:ItsAt w v l) (hl:l.length≤100000) :
  Calls Tryz.prog 127 #[v,.int .u64 id] w (xvr 64 (xcC id l) w):=by
 obtain⟨al,cap,rfl,hcap,hmx,hc⟩:=hv
 have HC:=lH hc
 have hmx':l.length≤maxLen:=by omega
 unfold maxLen at hmx'
 clear hc
 go_enter Tryz.func127,Tryz.ntmps127
 go_wp2_with fail
 go_loopw [5,6] (fun u i wr=>∃ k:Nat,k≤l.length∧i=.int .i64 k∧xaL wr w.heap.size 64 u (xcC id (l.take k))∧Below w.heap.size w wr) (fun _ i _=>l.length - (intOf i).toNat)
 case atStart=>exact⟨0,Nat.zero_le _,rfl,xcQ _ _ _,Below.refl _ _⟩
 case round =>
  obtain⟨k,hk,rfl,hown,hbw⟩:=hrel
  by_cases hlt:k<l.length
  ·obtain⟨⟨x,s⟩,htk⟩:∃ t,l[k]?=some t:=⟨_,List.getElem?_eq_getElem hlt⟩
   obtain⟨g,off,rfl,hg,c0,c1⟩:=HC.out k _ htk
   have HS:=lH (xoa id l k _ htk)
   have hlen:=xdR id (l.take k)
   rw[List.length_take] at hlen
   have d0:=(hbw.cell (p:=⟨g,off+k*2,none⟩) hg).trans c0
   have d1:=(hbw.cell (p:=⟨g,off+k*2+1,none⟩) hg).trans c1
   have d2:=Nat.lt_of_lt_of_le hg hbw.size
   by_cases he:x=id
   ·have HO:=lH hown
    have HB:=lH hbw
    clear hown hbw
    have hs:xcC id (l.take (k+1))=xcC id (l.take k):=by rw[HS.out,if_pos he]
    have HS2:=lH hs
    clear hs HS c0 c1
    subst he
    go_wp2_with fail
    go_roundw
    case rel=>exact⟨k+1,by omega,by go_num,by rw[HS2.out];exact HO.out,HB.out⟩
    case measure=>simp[intOf];omega
   ·have hs:xcC id (l.take (k+1))=xcC id (l.take k)++[(x,s)]:=by rw[HS.out,if_neg he]
    have HS2:=lH hs
    have hne:((x:Int) != (id:Int))=true:=by simp;omega
    have hb2:Below w.heap.size w (wr.alloc (.cells #[.int .u64 x,.string s] 64)):=hbw.alloc hbw.size _
    obtain⟨v',w',hr,hown',hgr⟩:=xap (wr.alloc (.cells #[.int .u64 x,.string s] 64)) w.heap.size 39 64 39 _ Tryz.underlying39 xdQ rfl _ _ _ [(x,s)] (hown.below (Below.alloc (Below.refl _ _) (Nat.le_refl _) _)) (xik wr x s _) (by simp;omega) hb2.size
    have HO:=lH hown'
    have HB:=lH (Below.grown hb2 hgr hb2.size (fun k hk=>(hown.lt k hk).1))
    clear hown hbw hs HS c0 c1 hb2 hown' hgr
    go_wp2_with (first|(at_builtin;refine Lib.wpList_append_run _ rfl _ _ _ _ rfl _ _ rfl rfl _ _ hr ?_)|fail)
    go_roundw
    case rel=>exact⟨k+1,by omega,by go_num,by rw[HS2.out];exact HO.out,HB.out⟩
    case measure=>simp[intOf];omega
  ·obtain rfl:k=l.length:=by omega
   rw[List.take_length] at hown
   go_wp2_with fail
   go_ret
   exact⟨_,rfl,hown,hbw⟩
theorem xeT (id:Nat) (r:List It):r.take (xfP id r).length=xfP id r:=by
 conv=>lhs;arg 2;rw[← xcs id r]
 exact List.take_left
theorem xg1 (id:Nat) (r:List It):r.drop (xfP id r).length=xg2 id r:=by
 conv=>lhs;arg 2;rw[← xcs id r]
 exact List.drop_left
theorem xrZ (id:Nat) (r:List It):(xfP id r).length≤r.length:=by
 have:=congrArg List.length (xcs id r)
 rw[List.length_append] at this
 omega
theorem xr1 (id:Nat) (r:List It):∀ k,k<(xfP id r).length→∃ t,r[k]?=some t∧t.1<id:=by
 induction r with
 | nil=>intro k h;simp[xfP] at h
 | cons x r ih =>
  intro k h
  unfold xfP at h
  rw[List.takeWhile_cons] at h
  by_cases hx:x.1<id
  ·rw[if_pos (by simpa using hx)] at h
   cases k with
   | zero=>exact⟨x,rfl,hx⟩
   | succ k=>exact ih k (by simpa[xfP] using h)
  ·rw[if_neg (by simpa using hx)] at h
   simp at h
theorem xmW (id:Nat) (r:List It):∀ t,r[(xfP id r).length]?=some t→¬ t.1<id:=by
 induction r with
 | nil=>intro t h;simp at h
 | cons x r ih =>
  intro t h
  unfold xfP at h
  rw[List.takeWhile_cons] at h
  by_cases hx:x.1<id
  ·rw[if_pos (by simpa using hx)] at h
   exact ih t (by simpa[xfP] using h)
  ·rw[if_neg (by simpa using hx)] at h
   simp at h
   subst h
   exact hx
theorem xaL.form {w:World} {B:Nat} {E:TypeId} {v:Value} {l:List It} (h:xaL w B E v l) :
  (v=.slice none 0 0∧l=[])∨∃ g cap,v=.slice (some ⟨g,0,none⟩) l.length cap∧B≤g∧g<w.heap.size∧l.length≤cap∧cap≤maxLen∧(∀ k t,l[k]?=some t→w.cell? ⟨g,k*2,none⟩=some (.int .u64 t.1)∧w.cell? ⟨g,k*2+1,none⟩=some (.string t.2)):=by
 have hlt:=h.lt
 have h':=h
 obtain⟨h1,h2⟩:=h
 rcases h2 with ⟨rfl,hn⟩|⟨g,cap,cur,rfl,hg,hh,hle,hm,_⟩
 ·exact .inl ⟨rfl,List.eq_nil_of_length_eq_zero hn⟩
 ·refine .inr ⟨g,cap,rfl,hg,(hlt g rfl).2,hle,hm,fun k t ht=>?_⟩
  have hk:=(List.getElem?_eq_some_iff.1 ht).1
  obtain⟨f0,f1⟩:=xeR l k t ht
  exact⟨(World.ownsRow.cellAt h' (k*2) (by omega)).trans f0,(World.ownsRow.cellAt h' (k*2+1) (by omega)).trans f1⟩
theorem xux {w:World} {g cap:Nat} {l:List It} (k:Nat) (hk:k≤l.length) (hg:g<w.heap.size) (h1:l.length≤cap) (h2:cap≤maxLen) (hc:∀ k t,l[k]?=some t→w.cell? ⟨g,k*2,none⟩=some (.int .u64 t.1)∧w.cell? ⟨g,k*2+1,none⟩=some (.string t.2)):ItsAt w (.slice (some ⟨g,0,none⟩) k cap) (l.take k):=by
 have e:(l.take k).length=k:=by rw[List.length_take];omega
 refine⟨_,cap,by rw[e],by omega,h2,fun j t ht=>⟨g,0,rfl,hg,?_⟩⟩
 have hj:j<k:=by have:=(List.getElem?_eq_some_iff.1 ht).1;omega
 rw[List.getElem?_take,if_pos hj] at ht
 rw[Nat.zero_add]
 exact hc j t ht
theorem xpP {w:World} {g cap:Nat} {l:List It} (k:Nat) (hk:k≤l.length) (hg:g<w.heap.size) (h1:l.length≤cap) (h2:cap≤maxLen) (hc:∀ k t,l[k]?=some t→w.cell? ⟨g,k*2,none⟩=some (.int .u64 t.1)∧w.cell? ⟨g,k*2+1,none⟩=some (.string t.2)):ItsAt w (.slice (some ⟨g,k*2,none⟩) (l.length - k) (cap - k)) (l.drop k):=by
 refine⟨_,cap - k,by rw[List.length_drop],by rw[List.length_drop];omega,by omega,fun j t ht=>⟨g,k*2,rfl,hg,?_⟩⟩
 rw[List.getElem?_drop] at ht
 have:=hc (k+j) t ht
 rw[show k*2+j*2=(k+j)*2 by omega]
 exact this
theorem xp5 {w:World} {a:Option Addr} {l:List It} (k:Nat) (hk:l.length≤k):ItsAt w (.slice a (l.length - k) 0) (l.drop k):=by
 have:l.drop k=[]:=List.drop_of_length_le hk
 rw[this]
 exact⟨a,0,by rw[show l.length - k=0 by omega];rfl,by simp,by simp,fun j t ht=>by simp at ht⟩
theorem xaL.slice {w:World} {B:Nat} {E:TypeId} {v:Value} {l:List It} (h:xaL w B E v l):∃ a cap,v=.slice a l.length cap:=by
 rcases h.form with ⟨rfl,rfl⟩|⟨g,cap,rfl,_⟩
 ·exact⟨none,0,rfl⟩
 ·exact⟨_,cap,rfl⟩
def xgN (l:List It) (id:Nat) (s:ByteArray) (w:World) (e:Ending) (w':World):Prop :=
 ∃ v',e=.returned (.tuple #[v',.int .i64 (putE l id s:Nat)])∧ItsAt w' v' (xcG l id s)∧Below w.heap.size w w'
theorem xpc (v:Value) (l:List It) (id n:Nat) (s:ByteArray) (w:World) (hv:ItsAt w v l) (hn:putE l id s=n) (h0:n≠0):∀ e,e=Ending.returned (.tuple #[v,.int .i64 (n:Nat)])→xgN l id s w e w:=by
 rintro e rfl
 refine⟨v,by rw[hn],?_,Below.refl _ _⟩
 unfold xcG
 rw[hn,if_neg h0]
 exact hv
theorem xs2 (v:Value) (l:List It) (id:Nat) (s:ByteArray) (w:World) (hv:ItsAt w v l) (hid:id<18446744073709551616) (h:putE l id s≠0):Calls Tryz.prog 65 #[v,.int .u64 id,.string s] w (xgN l id s w):=by
 have HV:=lH (xpc v l id _ s w hv rfl h)
 have HG:=lH (xhQ v l id w hv)
 obtain⟨n,hn⟩:∃ n,putE l id s=n:=⟨_,rfl⟩
 rw[hn] at HV h
 unfold putE at hn
 obtain⟨al,cap,rfl,hcap,hmx,hc⟩:=hv
 clear hc
 by_cases h1:6004799503160661≤id
 ·rw[if_pos h1] at hn
  subst hn
  have h1':(6004799503160661:Int)≤(id:Int):=by omega
  go_enter Tryz.func65,Tryz.ntmps65
  go_wp2_with fail
  exact bodyPost_ret (results_tmp2 rfl _ _ _) rfl (HV.out _ rfl)
 ·rw[if_neg h1] at hn
  have h1':¬ (6004799503160661:Int)≤(id:Int):=by omega
  by_cases h2:s.size=0
  ·rw[if_pos h2] at hn
   subst hn
   have h2':((s.size:Int) == 0)=true:=by rw[beq_iff_eq];omega
   go_enter Tryz.func65,Tryz.ntmps65
   go_wp2_with fail
   exact bodyPost_ret (results_tmp2 rfl _ _ _) rfl (HV.out _ rfl)
  ·rw[if_neg h2] at hn
   have h2':((s.size:Int) == 0)=false:=by rw[beq_eq_false_iff_ne];omega
   by_cases h3:65536<s.size
   ·rw[if_pos h3] at hn
    subst hn
    have h3':(65536:Int)<(s.size:Int):=by omega
    go_enter Tryz.func65,Tryz.ntmps65
    go_wp2_with fail
    exact bodyPost_ret (results_tmp2 rfl _ _ _) rfl (HV.out _ rfl)
   ·rw[if_neg h3] at hn
    have h3':¬ (65536:Int)<(s.size:Int):=by omega
    cases hg:xbA id l with
    | some t=>rw[hg] at hn;simp at hn;exact absurd hn.symm h
    | none =>
     rw[hg] at hn HG
     by_cases h4:2048≤l.length
     ·simp[h4] at hn
      subst hn
      have h4':decide ((2048:Int)≤(l.length:Int))=true:=decide_eq_true (by omega)
      rw[show (none:Option ByteArray).isSome=false from rfl] at HG
      generalize xww none=gt at *
      go_enter Tryz.func65,Tryz.ntmps65
      go_wp2_with fail
      refine HG.out.mono ?_
      rintro y w1 ⟨rfl,rfl⟩
      go_wp2_with fail
      exact bodyPost_ret (results_tmp2 rfl _ _ _) rfl (HV.out _ rfl)
     ·simp[h4] at hn;exact absurd hn.symm h
set_option maxRecDepth 20000 in
theorem xqu (v:Value) (l:List It) (id:Nat) (s:ByteArray) (w:World) (hv:ItsAt w v l) (hl:l.length≤100000) (h:putE l id s=0):Calls Tryz.prog 65 #[v,.int .u64 id,.string s] w (xgN l id s w):=by
 have HG:=lH (xhQ v l id w hv)
 have HD:=lH (xqU v l id w hv hl)
 have hlen:=xdR id l
 have hE:=h
 have hL:=lH (show xcG l id s=xeM id s l by unfold xcG;rw[if_pos h])
 have E:=lH h
 unfold putE at h
 by_cases h1:6004799503160661≤id
 ·rw[if_pos h1] at h;omega
 rw[if_neg h1] at h
 by_cases h2:s.size=0
 ·rw[if_pos h2] at h;omega
 rw[if_neg h2] at h
 by_cases h3:65536<s.size
 ·rw[if_pos h3] at h;omega
 rw[if_neg h3] at h
 have h1':¬ (6004799503160661:Int)≤(id:Int):=by omega
 have h2':((s.size:Int) == 0)=false:=by rw[beq_eq_false_iff_ne];omega
 have h3':¬ (65536:Int)<(s.size:Int):=by omega
 have h4:((xbA id l).isSome=true)∨((xbA id l).isSome=false∧decide ((2048:Int)≤(l.length:Int))=false):=by
  cases hg:xbA id l with
  | some t=>exact .inl rfl
  | none =>
   refine .inr ⟨rfl,decide_eq_false ?_⟩
   rw[hg] at h
   intro hq
   have:2048≤l.length:=by omega
   simp[this] at h
 obtain⟨al,cap,rfl,hcap,hmx,hc⟩:=hv
 clear hc h hE
 generalize xww (xbA id l)=gt at *
 generalize (xbA id l).isSome=gb at *
 generalize hr:xcC id l=r at *
 go_enter Tryz.func65,Tryz.ntmps65
 go_wp2_with fail
 refine HG.out.mono ?_
 rintro y w1 ⟨rfl,rfl⟩
 rcases h4 with rfl|⟨rfl,h4⟩
 all_goals
  go_wp2_with fail
  refine HD.out.mono ?_
  rintro y w2 ⟨vr,rfl,hown,hb⟩
  rcases hown.form with ⟨rfl,rfl⟩|⟨g,cap2,rfl,hB,hg,hq1,hq2,hcells⟩
  ·obtain⟨v1,w3,hr1,hown1,hgr1⟩:=xap w2 w2.heap.size 39 64 39 _ Tryz.underlying39 xdQ rfl (.slice none 0 0) (.slice none 0 0) [] [] (xcQ _ _ _) (xdp _) (by simp) (Nat.le_refl _)
   have hb1:Below w2.heap.size w2 w3:=Below.grown (Below.refl _ _) hgr1 (Nat.le_refl _) (fun k hk=>by cases hk)
   have hb2:Below w2.heap.size w2 (w3.alloc (.cells #[.int .u64 id,.string s] 64)):=hb1.alloc hb1.size _
   obtain⟨v2,w4,hr2,hown2,hgr2⟩:=xap (w3.alloc (.cells #[.int .u64 id,.string s] 64)) w2.heap.size 39 64 39 _ Tryz.underlying39 xdQ rfl v1 _ _ [(id,s)] (hown1.below (Below.alloc (Below.refl _ _) (Nat.le_refl _) _)) (xik w3 id s _) (by simp) hb2.size
   have hb3:Below w2.heap.size w2 w4:=Below.grown hb2 hgr2 hb2.size (fun k hk=>(hown1.lt k hk).1)
   obtain⟨v3,w5,hr3,hown3,hgr3⟩:=xap w4 w2.heap.size 39 64 39 _ Tryz.underlying39 xdQ rfl v2 (.slice none 0 0) _ [] hown2 (xdp _) (by simp) hb3.size
   have hb4:Below w2.heap.size w2 w5:=Below.grown hb3 hgr3 hb3.size (fun k hk=>(hown2.lt k hk).1)
   have HB:=lH (hb.trans (hb4.mono hb.size))
   have hput:xcG l id s=[]++[]++[(id,s)]++[]:=by
    rw[hL.out]
    unfold xeM
    rw[hr]
    rfl
   have HO:=lH (show ItsAt w5 v3 (xcG l id s) by rw[hput];exact hown3.itsAt)
   obtain⟨a1,cap1,rfl⟩:=hown1.slice
   obtain⟨a2,cap2',rfl⟩:=hown2.slice
   simp only[List.append_nil,List.nil_append,List.length_nil,List.length_singleton] at hr2 hr3
   clear hown1 hown2 hown3 hgr1 hgr2 hgr3 hb1 hb2 hb3 hb4 hb hput hown
   go_wp2_with fail
   go_loop [11] (fun i=>i=.int .i64 0) (fun i=>0)
   case atStart=>rfl
   case round =>
    subst hrel
    go_wp2_with (first|(at_builtin;refine Lib.wpList_append_run _ rfl _ _ _ _ rfl _ _ rfl rfl _ _ hr1 ?_;clear hr1)|(at_builtin;refine Lib.wpList_append_run _ rfl _ _ _ _ rfl _ _ rfl rfl _ _ hr2 ?_;clear hr2)|(at_builtin;refine Lib.wpList_append_run _ rfl _ _ _ _ rfl _ _ rfl rfl _ _ hr3 ?_;clear hr3)|fail)
    refine bodyPost_ret (results_tmp2 rfl _ _ _) rfl ⟨_,?_,HO.out,HB.out⟩
    rw[E.out];rfl
  ·have HC:=lH hcells
   have HLo:=lH (xr1 id r)
   have hlo:=xrZ id r
   have hLe:=lH (xmW id r)
   generalize hn:(xfP id r).length=n at *
   go_wp2_with fail
   go_loop [11] (fun i=>∃ k:Nat,k≤n∧i=.int .i64 k) (fun i=>n - (intOf i).toNat)
   case atStart=>exact⟨0,Nat.zero_le _,rfl⟩
   case round =>
    obtain⟨k,hk,rfl⟩:=hrel
    by_cases hlt:k<n
    ·obtain⟨⟨x,t⟩,htk,hx⟩:=HLo.out k hlt
     obtain⟨c0,c1⟩:=HC.out k _ htk
     have hkr:(k:Int)<(r.length:Int):=by omega
     have hx':(x:Int)<(id:Int):=by simp only at hx;omega
     go_wp2_with fail
     go_round
     case rel=>exact⟨k+1,by omega,by go_num⟩
     case measure=>simp[intOf];omega
    ·have hkn:k=n:=by omega
     subst hkn
     have hend:((k:Int)<(r.length:Int)∧∃ x t,r[k]?=some (x,t)∧¬ (x:Int)<(id:Int))∨¬ (k:Int)<(r.length:Int):=by
      by_cases hq:k<r.length
      ·obtain⟨⟨x,t⟩,ht⟩:∃ t,r[k]?=some t:=⟨_,List.getElem?_eq_getElem hq⟩
       have:=hLe.out _ ht
       exact .inl ⟨by omega,x,t,ht,by simp only at this;omega⟩
      ·exact .inr (by omega)
     have hpre:=xux k hlo hg hq1 hq2 hcells
     have hpost:=xpP k hlo hg hq1 hq2 hcells
     have hlp:(r.take k).length=k:=by rw[List.length_take];omega
     obtain⟨v1,w3,hr1,hown1,hgr1⟩:=xap w2 w2.heap.size 39 64 39 _ Tryz.underlying39 xdQ rfl (.slice none 0 0) _ [] (r.take k) (xcQ _ _ _) hpre (by simp;omega) (Nat.le_refl _)
     rw[List.nil_append] at hown1
     have hb1:Below w2.heap.size w2 w3:=Below.grown (Below.refl _ _) hgr1 (Nat.le_refl _) (fun k hk=>by cases hk)
     have hb2:Below w2.heap.size w2 (w3.alloc (.cells #[.int .u64 id,.string s] 64)):=hb1.alloc hb1.size _
     obtain⟨v2,w4,hr2,hown2,hgr2⟩:=xap (w3.alloc (.cells #[.int .u64 id,.string s] 64)) w2.heap.size 39 64 39 _ Tryz.underlying39 xdQ rfl v1 _ _ [(id,s)] (hown1.below (Below.alloc (Below.refl _ _) (Nat.le_refl _) _)) (xik w3 id s _) (by simp only[List.length_singleton];omega) hb2.size
     have hb3:Below w2.heap.size w2 w4:=Below.grown hb2 hgr2 hb2.size (fun k hk=>(hown1.lt k hk).1)
     have hlq:(r.take k++[(id,s)]).length=k+1:=by rw[List.length_append,hlp];rfl
     have hput:xcG l id s=r.take k++[(id,s)]++r.drop k:=by
      rw[hL.out]
      unfold xeM
      rw[hr,← xeT id r,← xg1 id r,hn,List.append_assoc]
      rfl
     rcases hend with ⟨e1,x,t,e2,e3⟩|e1
     ·obtain⟨c0,c1⟩:=hcells k _ e2
      obtain⟨v3,w5,hr3,hown3,hgr3⟩:=xap w4 w2.heap.size 39 64 39 _ Tryz.underlying39 xdQ rfl v2 _ _ (r.drop k) hown2 (hpost.below hb3) (by rw[List.length_drop];omega) hb3.size
      have hb4:Below w2.heap.size w2 w5:=Below.grown hb3 hgr3 hb3.size (fun k hk=>(hown2.lt k hk).1)
      have HB:=lH (hb.trans (hb4.mono hb.size))
      have HO:=lH (show ItsAt w5 v3 (xcG l id s) by rw[hput];exact hown3.itsAt)
      obtain⟨a1,cap1,rfl⟩:=hown1.slice
      obtain⟨a2,cap2',rfl⟩:=hown2.slice
      rw[hlp] at hr2
      rw[hlq] at hr3
      have HC:=lH hcells
      clear hcells hpre hpost hown1 hown2 hown3 hgr1 hgr2 hgr3 hb1 hb2 hb3 hb4 hb hput hown
      go_wp2_with (first|(at_builtin;refine Lib.wpList_append_run _ rfl _ _ _ _ rfl _ _ rfl rfl _ _ hr1 ?_;clear hr1)|(at_builtin;refine Lib.wpList_append_run _ rfl _ _ _ _ rfl _ _ rfl rfl _ _ hr2 ?_;clear hr2)|(at_builtin;refine Lib.wpList_append_run _ rfl _ _ _ _ rfl _ _ rfl rfl _ _ hr3 ?_;clear hr3)|fail)
      refine bodyPost_ret (results_tmp2 rfl _ _ _) rfl ⟨_,?_,HO.out,HB.out⟩
      rw[E.out];rfl
     ·by_cases hck:cap2=k
      ·have hpz:ItsAt w4 (.slice (some ⟨g,0,none⟩) (r.length - k) 0) (r.drop k):=xp5 k (by omega)
       obtain⟨v3,w5,hr3,hown3,hgr3⟩:=xap w4 w2.heap.size 39 64 39 _ Tryz.underlying39 xdQ rfl v2 _ _ (r.drop k) hown2 hpz (by rw[List.length_drop];omega) hb3.size
       have hb4:Below w2.heap.size w2 w5:=Below.grown hb3 hgr3 hb3.size (fun k hk=>(hown2.lt k hk).1)
       have HB:=lH (hb.trans (hb4.mono hb.size))
       have HO:=lH (show ItsAt w5 v3 (xcG l id s) by rw[hput];exact hown3.itsAt)
       obtain⟨a1,cap1,rfl⟩:=hown1.slice
       obtain⟨a2,cap2',rfl⟩:=hown2.slice
       rw[hlp] at hr2
       rw[hlq] at hr3
       have HC:=lH hcells
       clear hpz hcells hpre hpost hown1 hown2 hown3 hgr1 hgr2 hgr3 hb1 hb2 hb3 hb4 hb hput hown
       go_wp2_with (first|(at_builtin;refine Lib.wpList_append_run _ rfl _ _ _ _ rfl _ _ rfl rfl _ _ hr1 ?_;clear hr1)|(at_builtin;refine Lib.wpList_append_run _ rfl _ _ _ _ rfl _ _ rfl rfl _ _ hr2 ?_;clear hr2)|(at_builtin;refine Lib.wpList_append_run _ rfl _ _ _ _ rfl _ _ rfl rfl _ _ hr3 ?_;clear hr3)|fail)
       refine bodyPost_ret (results_tmp2 rfl _ _ _) rfl ⟨_,?_,HO.out,HB.out⟩
       rw[E.out];rfl
      ·have hdu:=hck
       obtain⟨v3,w5,hr3,hown3,hgr3⟩:=xap w4 w2.heap.size 39 64 39 _ Tryz.underlying39 xdQ rfl v2 _ _ (r.drop k) hown2 (hpost.below hb3) (by rw[List.length_drop];omega) hb3.size
       have hb4:Below w2.heap.size w2 w5:=Below.grown hb3 hgr3 hb3.size (fun k hk=>(hown2.lt k hk).1)
       have HB:=lH (hb.trans (hb4.mono hb.size))
       have HO:=lH (show ItsAt w5 v3 (xcG l id s) by rw[hput];exact hown3.itsAt)
       obtain⟨a1,cap1,rfl⟩:=hown1.slice
       obtain⟨a2,cap2',rfl⟩:=hown2.slice
       rw[hlp] at hr2
       rw[hlq] at hr3
       have HC:=lH hcells
       clear hcells hpre hpost hown1 hown2 hown3 hgr1 hgr2 hgr3 hb1 hb2 hb3 hb4 hb hput hown
       go_wp2_with (first|(at_builtin;refine Lib.wpList_append_run _ rfl _ _ _ _ rfl _ _ rfl rfl _ _ hr1 ?_;clear hr1)|(at_builtin;refine Lib.wpList_append_run _ rfl _ _ _ _ rfl _ _ rfl rfl _ _ hr2 ?_;clear hr2)|(at_builtin;refine Lib.wpList_append_run _ rfl _ _ _ _ rfl _ _ rfl rfl _ _ hr3 ?_;clear hr3)|fail)
       refine bodyPost_ret (results_tmp2 rfl _ _ _) rfl ⟨_,?_,HO.out,HB.out⟩
       rw[E.out];rfl
theorem xpb (v:Value) (l:List It) (id:Nat) (s:ByteArray) (w:World) (hv:ItsAt w v l) (hl:l.length≤100000) (hid:id<18446744073709551616):Calls Tryz.prog 65 #[v,.int .u64 id,.string s] w (xgN l id s w):=by
 by_cases h:putE l id s=0
 ·exact xqu v l id s w hv hl h
 ·exact xs2 v l id s w hv hid h
end Go.Proofs.YtjinnigjfopbcaaGreatDoor
namespace Go.Proofs.YtjinnigjfopbcaaGreatDoor
set_option linter.unusedVariables false
set_option linter.unusedSimpArgs false
theorem xjm {id:Nat} {l:List It} {t:It} (h:t ∈ xfP id l):t.1<id:=by
 unfold xfP at h
 induction l with
 | nil=>simp at h
 | cons x l ih =>
  rw[List.takeWhile_cons] at h
  split at h
  ·rename_i hx
   rcases List.mem_cons.1 h with rfl|h
   ·simpa using hx
   ·exact ih h
  ·simp at h
theorem xrS (id:Nat) (l:List It) (t:It):t ∈ l↔t ∈ xfP id l∨t ∈ xg2 id l:=by
 conv=>lhs;rw[← xcs id l]
 exact List.mem_append
theorem xo3 {id:Nat} {l:List It} (hr:xeu l):∀ t ∈ xg2 id l,id≤t.1:=by
 unfold xg2
 induction l with
 | nil=>intro t h;simp at h
 | cons x l ih =>
  intro t h
  rw[List.dropWhile_cons] at h
  split at h
  ·exact ih (List.pairwise_cons.1 hr).2 t h
  ·rename_i hx
   rcases List.mem_cons.1 h with rfl|h
   ·simpa using hx
   ·have:=(List.pairwise_cons.1 hr).1 t h
    have hx':¬ x.1<id:=by simpa using hx
    omega
theorem xgW {id:Nat} {l:List It} (hr:xeu l):xeu (xcC id l):=List.Pairwise.sublist List.filter_sublist hr
theorem xgG (id:Nat) (l:List It) (t:It):t ∈ xcC id l↔t ∈ l∧t.1≠id:=by
 unfold xcC
 rw[List.mem_filter]
 simp
theorem xcV (id:Nat) (s:ByteArray) (l:List It) (t:It):t ∈ xeM id s l↔t=(id,s)∨(t ∈ l∧t.1≠id):=by
 unfold xeM
 rw[List.mem_append,List.mem_cons,← xgG,xrS id (xcC id l) t]
 constructor
 ·rintro(h|h|h)
  ·exact .inr (.inl h)
  ·exact .inl h
  ·exact .inr (.inr h)
 ·rintro(h|h|h)
  ·exact .inr (.inl h)
  ·exact .inl h
  ·exact .inr (.inr h)
theorem xgx (id:Nat) (s:ByteArray) {l:List It} (hr:xeu l):xeu (xeM id s l):=by
 have hd:=xgW (id:=id) hr
 have hsplit:=xcs id (xcC id l)
 have hp:xeu (xfP id (xcC id l)++xg2 id (xcC id l)):=by rw[hsplit];exact hd
 unfold xeu at hp
 rw[List.pairwise_append] at hp
 unfold xeu xeM
 rw[List.pairwise_append,List.pairwise_cons]
 refine⟨hp.1,⟨fun t ht=>?_,hp.2.1⟩,fun a ha b hb=>?_⟩
 ·have h1:=xo3 hd t ht
  have h2:t ∈ xcC id l:=(xrS id _ t).2 (.inr ht)
  have h3:=(xgG id l t).1 h2
  show id<t.1
  omega
 ·rcases List.mem_cons.1 hb with rfl|hb
  ·exact xjm ha
  ·exact hp.2.2 a ha b hb
theorem xlj {id:Nat} {l:List It} {t:It} (h:t ∈ l) (ht:t.1=id):(xcC id l).length+1≤l.length:=by
 induction l with
 | nil=>simp at h
 | cons x l ih =>
  have hle:=xdR id l
  unfold xcC at hle ih ⊢
  by_cases hx:x.1=id
  ·rw[List.filter_cons_of_neg (by simpa using hx),List.length_cons]
   omega
  ·rw[List.filter_cons_of_pos (by simpa using hx),List.length_cons,List.length_cons]
   rcases List.mem_cons.1 h with rfl|h
   ·exact absurd ht hx
   ·have:=ih h;omega
theorem xjq (id:Nat) (s:ByteArray) (l:List It):(xeM id s l).length=(xcC id l).length+1:=by
 have h1:=congrArg List.length (xcs id (xcC id l))
 rw[List.length_append] at h1
 unfold xeM
 rw[List.length_append,List.length_cons]
 omega
theorem xcc (id:Nat) (l:List It):(xbA id l).isSome=true↔∃ t ∈ l,t.1=id:=by
 have h:=xcd id l
 cases hg:xbA id l with
 | none =>
  rw[hg] at h
  constructor
  ·intro hh;cases hh
  ·rintro⟨t,ht,e⟩
   exact absurd e ((h.1 rfl) t ht)
 | some s =>
  refine⟨fun _=>?_,fun _=>rfl⟩
  rcases Classical.em (∃ t ∈ l,t.1=id) with h2|h2
  ·exact h2
  ·exfalso
   have:xbA id l=none:=(xcd id l).2 (fun t ht e=>h2 ⟨t,ht,e⟩)
   rw[this] at hg
   cases hg
theorem xkE {id:Nat} {s:ByteArray} {l:List It} (h:GoodC l):GoodC (xcG l id s):=by
 unfold xcG
 split
 ·rename_i he
  unfold putE at he
  by_cases h1:6004799503160661≤id
  ·rw[if_pos h1] at he;cases he
  rw[if_neg h1] at he
  by_cases h2:s.size=0
  ·rw[if_pos h2] at he;cases he
  rw[if_neg h2] at he
  by_cases h3:65536<s.size
  ·rw[if_pos h3] at he;cases he
  rw[if_neg h3] at he
  refine⟨xgx id s h.rise,fun t ht=>?_,fun t ht=>?_,fun t ht=>?_,?_⟩
  ·rcases(xcV id s l t).1 ht with rfl|h4
   ·show id<_;omega
   ·exact h.low t h4.1
  ·rcases(xcV id s l t).1 ht with rfl|h4
   ·show 0<s.size;omega
   ·exact h.pos t h4.1
  ·rcases(xcV id s l t).1 ht with rfl|h4
   ·show s.size≤_;omega
   ·exact h.short t h4.1
  ·rw[xjq]
   have hf:=h.few
   cases hg:xbA id l with
   | none =>
    rw[hg] at he
    have h5:¬ 2048≤l.length:=by
     intro h6
     rw[if_pos (by simp[h6])] at he
     cases he
    have:=xdR id l
    omega
   | some x =>
    obtain⟨t,ht,e⟩:=(xcc id l).1 (by rw[hg];rfl)
    have:=xlj ht e
    omega
 ·exact h
theorem xeV:∀ {a b:List It},xeu a→xeu b→(∀ t,t ∈ a↔t ∈ b)→a=b
 | [],[],_,_,_=>rfl
 | [],y :: b,_,_,h=>by have:=(h y).2 (by simp);simp at this
 | x :: a,[],_,_,h=>by have:=(h x).1 (by simp);simp at this
 | x :: a,y :: b,ha,hb,h=>by
  have hx:=List.pairwise_cons.1 ha
  have hy:=List.pairwise_cons.1 hb
  have hxy:x=y:=by
   rcases List.mem_cons.1 ((h x).1 (by simp)) with e|e
   ·exact e
   ·rcases List.mem_cons.1 ((h y).2 (by simp)) with e2|e2
    ·exact e2.symm
    ·have h1:=hy.1 x e
     have h2:=hx.1 y e2
     omega
  subst hxy
  have:a=b:=xeV hx.2 hy.2 (fun t=>by
   constructor
   ·intro ht
    rcases List.mem_cons.1 ((h t).1 (List.mem_cons_of_mem _ ht)) with e|e
    ·subst e;have:=hx.1 t ht;omega
    ·exact e
   ·intro ht
    rcases List.mem_cons.1 ((h t).2 (List.mem_cons_of_mem _ ht)) with e|e
    ·subst e;have:=hy.1 t ht;omega
    ·exact e)
  rw[this]
theorem xoN (all:List It) (hg:GoodC all):∀ (rest seen acc:List It),(seen++rest).Nodup→(∀ t ∈ seen++rest,t ∈ all)→xeu acc→(∀ t,t ∈ acc↔t ∈ seen)→acc.length=seen.length→seen.length+rest.length≤2048→∃ r,ofR seen acc rest=(r,0)∧xeu r∧∀ t,t ∈ r↔t ∈ seen++rest
 | [],seen,acc,_,_,hr,hm,_,_=>⟨acc,rfl,hr,fun t=>by rw[List.append_nil];exact hm t⟩
 | t :: rest,seen,acc,hn,hin,hr,hm,hl,h2=>by
  have hta:t ∈ all:=hin t (by simp)
  have huniq:∀ u ∈ all,u.1=t.1→u=t:=by
   intro u hu e
   have hp:=hg.rise
   unfold xeu at hp
   rcases List.mem_iff_getElem.1 hu with ⟨i,hi,rfl⟩
   rcases List.mem_iff_getElem.1 hta with ⟨j,hj,rfl⟩
   rw[List.pairwise_iff_getElem] at hp
   rcases Nat.lt_trichotomy i j with h|h|h
   ·have:=hp i j hi hj h;omega
   ·subst h;rfl
   ·have:=hp j i hj hi h;omega
  have hnot:t ∉ seen:=by
   intro h
   rw[List.nodup_append] at hn
   exact hn.2.2 t h t (by simp) rfl
  have hnone:∀ l:List It,(∀ u ∈ l,u ∈ all)→t ∉ l→xbA t.1 l=none:=fun l hl hn=>(xcd t.1 l).2 (fun u hu e=>hn (huniq u (hl u hu) e ▸ hu))
  have hs:xbA t.1 seen=none:=hnone seen (fun u hu=>hin u (by simp[hu])) hnot
  have ha:xbA t.1 acc=none:=hnone acc (fun u hu=>hin u (by simp[(hm u).1 hu])) (fun h=>hnot ((hm t).1 h))
  have hacc:acc.length≤2047:=by rw[hl];simp at h2;omega
  have he:putE acc t.1 t.2=0:=by
   unfold putE
   rw[if_neg (by have:=hg.low t hta;omega),if_neg (by have:=hg.pos t hta;omega),if_neg (by have:=hg.short t hta;omega),if_neg]
   simp;omega
  rw[ofR,hs,he]
  have hdel:xcC t.1 acc=acc:=by
   unfold xcC
   rw[List.filter_eq_self]
   intro u hu
   have:=(xcd t.1 acc).1 ha u hu
   simpa using this
  have hm':∀ u,u ∈ xeM t.1 t.2 acc↔u ∈ seen++[t]:=by
   intro u
   rw[xcV,List.mem_append,List.mem_singleton]
   constructor
   ·rintro(h|⟨h,_⟩)
    ·exact .inr h
    ·exact .inl ((hm u).1 h)
   ·rintro(h|h)
    ·exact .inr ⟨(hm u).2 h,(xcd t.1 seen).1 hs u h⟩
    ·exact .inl h
  have hl':(xeM t.1 t.2 acc).length=(seen++[t]).length:=by rw[xjq,hdel,hl];simp
  have e:seen++t :: rest=(seen++[t])++rest:=by simp
  obtain⟨r,h1,h3,h4⟩:=xoN all hg rest (seen++[t]) (xeM t.1 t.2 acc) (e ▸ hn) (e ▸ hin) (xgx _ _ hr) hm' hl' (by simp at h2 ⊢;omega)
  refine⟨r,?_,h3,fun u=>by rw[e];exact h4 u⟩
  simpa using h1
theorem xum (all m:List It) (hg:GoodC all) (hp:m.Perm all):ofI m=(all,0):=by
 have hnd:all.Nodup:=List.Pairwise.imp (fun {a b} h e=>by subst e;omega) hg.rise
 obtain⟨r,h1,h2,h3⟩:=xoN all hg m [] [] (by simpa using hp.nodup_iff.2 hnd) (fun t ht=>by simpa using hp.mem_iff.1 (by simpa using ht)) List.Pairwise.nil (by simp) rfl (by have:=hg.few;have:=hp.length_eq;simp;omega)
 have:r=all:=xeV h2 hg.rise (fun t=>by rw[h3 t];simpa using hp.mem_iff)
 unfold ofI
 rw[h1,this]
end Go.Proofs.YtjinnigjfopbcaaGreatDoor
namespace Go.Proofs.YtjinnigjfopbcaaGreatDoor
set_option linter.unusedVariables false
set_option linter.unusedSimpArgs false
open Go.RowKit
set_option maxRecDepth 20000
theorem xrg (x:Int) (w:World):Calls Tryz.prog 279 #[.int .u64 x] w fun e w'=>e=.returned (.bool false)∧w'=w:=by
 go_enter Tryz.func279,Tryz.ntmps279
 go_wp2
 go_ret
 exact⟨rfl,rfl⟩
def xgH (x y:Int):Int:=if x<y then -1 else if x > y then 1 else 0
theorem xhk (x y:Int) (w:World):Calls Tryz.prog 228 #[.int .u64 x,.int .u64 y] w fun e w'=>e=.returned (.int .i64 (xgH x y))∧w'=w:=by
 have HN:=lH (fun a W=>xrg a W)
 unfold xgH
 by_cases h:x<y
 ·rw[if_pos h]
  go_enter Tryz.func228,Tryz.ntmps228
  go_wp2_with fail
  refine(HN.out _ _).mono ?_
  rintro e w1 ⟨rfl,rfl⟩
  go_wp2_with fail
  refine(HN.out _ _).mono ?_
  rintro e w1 ⟨rfl,rfl⟩
  go_wp2_with fail
  go_ret
  exact⟨rfl,rfl⟩
 ·rw[if_neg h]
  by_cases h2:x > y
  ·rw[if_pos h2]
   go_enter Tryz.func228,Tryz.ntmps228
   go_wp2_with fail
   refine(HN.out _ _).mono ?_
   rintro e w1 ⟨rfl,rfl⟩
   go_wp2_with fail
   refine(HN.out _ _).mono ?_
   rintro e w1 ⟨rfl,rfl⟩
   go_wp2_with fail
   go_ret
   exact⟨rfl,rfl⟩
  ·rw[if_neg h2]
   go_enter Tryz.func228,Tryz.ntmps228
   go_wp2_with fail
   refine(HN.out _ _).mono ?_
   rintro e w1 ⟨rfl,rfl⟩
   go_wp2_with fail
   refine(HN.out _ _).mono ?_
   rintro e w1 ⟨rfl,rfl⟩
   go_wp2_with fail
   go_ret
   exact⟨rfl,rfl⟩
theorem xru (x y:Int):decide (xgH x y<0)=decide (x<y):=by
 unfold xgH
 by_cases h:x<y
 ·simp[h]
 ·by_cases h2:x > y <;> simp[h,h2]
theorem xrF (x y:Int):decide (xgH x y=0)=decide (x=y):=by
 unfold xgH
 by_cases h:x<y
 ·simp[h];omega
 ·by_cases h2:x > y
  ·simp[h,h2];omega
  ·simp[h,h2];omega
theorem xhL (t:It) (y:Nat) (w:World):Calls Tryz.prog 151 #[.agg #[.int .u64 t.1,.string t.2],.int .u64 y] w fun e w'=>e=.returned (.int .i64 (xgH t.1 y))∧Below w.heap.size w w':=by
 have HC:=lH (fun W=>xhk t.1 y W)
 go_enter Tryz.func151,Tryz.ntmps151
 go_wp2_with fail
 refine(HC.out _).mono ?_
 rintro e w1 ⟨rfl,rfl⟩
 go_wp2_with fail
 go_ret
 exact⟨rfl,by go_grown⟩
def loC (id:Nat) (l:List It):Nat:=(xfP id l).length
theorem xkF (id:Nat) (l:List It):loC id l≤l.length:=xrZ id l
theorem xng {id:Nat} {l:List It} (hr:xeu l) (d:Nat) (t:It) (h:l[d]?=some t):t.1<id↔d<loC id l:=by
 constructor
 ·intro ht
  rcases Nat.lt_or_ge d (loC id l) with h1|h1
  ·exact h1
  ·exfalso
   have h2:(xg2 id l)[d - loC id l]?=some t:=by
    rw[← xg1 id l,List.getElem?_drop]
    show l[loC id l+(d - loC id l)]?=some t
    rw[Nat.add_sub_cancel' h1]
    exact h
   have:=xo3 hr t (List.mem_of_getElem? h2)
   omega
 ·intro hd
  obtain⟨u,hu,hlt⟩:=xr1 id l d hd
  rw[h] at hu
  cases hu
  exact hlt
theorem isC {id:Nat} {l:List It} (hr:xeu l):(xbA id l).isSome=decide (∃ t,l[loC id l]?=some t∧t.1=id):=by
 rw[Bool.eq_iff_iff,xcc,decide_eq_true_iff]
 constructor
 ·rintro⟨t,ht,he⟩
  obtain⟨d,hd⟩:=List.mem_iff_getElem?.1 ht
  have h1:=(xng (id:=id) hr d t hd)
  have h2:¬ d<loC id l:=fun h=>by have:=h1.2 h;omega
  rcases Nat.lt_or_ge (loC id l) d with h3|h3
  ·exfalso
   obtain⟨u,hu⟩:∃ u,l[loC id l]?=some u:=⟨_,List.getElem?_eq_getElem (by have:=(List.getElem?_eq_some_iff.1 hd).1;omega)⟩
   have h4:=xmW id l u hu
   have h5:u.1<t.1:=by
    obtain⟨a1,rfl⟩:=List.getElem?_eq_some_iff.1 hu
    obtain⟨a2,rfl⟩:=List.getElem?_eq_some_iff.1 hd
    exact List.pairwise_iff_getElem.1 hr _ _ a1 a2 h3
   omega
  ·have:d=loC id l:=by omega
   subst this
   exact⟨t,hd,he⟩
 ·rintro⟨t,ht,he⟩
  exact⟨t,List.mem_of_getElem? ht,he⟩
theorem xvT {id:Nat} {l:List It} (h:(xbA id l).isSome=false):xcC id l=l:=by
 unfold xcC
 rw[List.filter_eq_self]
 intro u hu
 have hn:xbA id l=none:=by cases hg:xbA id l with|none=>rfl|some x=>rw[hg] at h;cases h
 have:=(xcd id l).1 hn u hu
 simpa using this
theorem xnH {id:Nat} {l:List It} (hr:xeu l) (t:It) (h:l[loC id l]?=some t) (he:t.1=id):xcC id l=l.take (loC id l)++l.drop (loC id l+1):=by
 apply xeV (xgW hr)
 ·have e:(l.take (loC id l)++l.drop (loC id l+1)).Sublist l:=by
   conv=>rhs;rw[← List.take_append_drop (loC id l) l]
   refine List.Sublist.append (List.Sublist.refl _) ?_
   rw[xc6 l _ t h]
   exact List.sublist_cons_self _ _
  exact List.Pairwise.sublist e hr
 ·intro u
  have hl:u ∈ l↔u ∈ l.take (loC id l)∨u=t∨u ∈ l.drop (loC id l+1):=by
   conv=>lhs;rw[← List.take_append_drop (loC id l) l,xc6 l _ t h]
   rw[List.mem_append,List.mem_cons]
  rw[xgG,hl,List.mem_append]
  have hlt:∀ u ∈ l.take (loC id l),u.1<id:=by
   intro u hu
   have:u ∈ xfP id l:=by
    have e:=xeT id l
    unfold loC at hu
    rwa[e] at hu
   exact xjm this
  have hgt:∀ u ∈ l.drop (loC id l+1),id<u.1:=by
   intro u hu
   obtain⟨j,hj⟩:=List.mem_iff_getElem?.1 hu
   rw[List.getElem?_drop] at hj
   obtain⟨a1,e1⟩:=List.getElem?_eq_some_iff.1 h
   obtain⟨a2,e2⟩:=List.getElem?_eq_some_iff.1 hj
   have:=List.pairwise_iff_getElem.1 hr _ _ a1 a2 (by omega)
   rw[e1,e2] at this
   omega
  constructor
  ·rintro⟨h1|h1|h1,h2⟩
   ·exact .inl h1
   ·subst h1;exact absurd he h2
   ·exact .inr h1
  ·rintro(h1|h1)
   ·exact⟨.inl h1,by have:=hlt u h1;omega⟩
   ·exact⟨.inr (.inr h1),by have:=hgt u h1;omega⟩
theorem xrV {id:Nat} {s:ByteArray} {l:List It} (h:(xbA id l).isSome=false):xeM id s l=l.take (loC id l)++(id,s) :: l.drop (loC id l):=by
 unfold xeM
 rw[xvT h]
 unfold loC
 rw[xeT,xg1]
theorem xuo {id:Nat} {s:ByteArray} {l:List It} (hr:xeu l) (t:It) (h:l[loC id l]?=some t) (he:t.1=id):xeM id s l=l.take (loC id l)++(id,s) :: l.drop (loC id l+1):=by
 apply xeV (xgx id s hr)
 ·have hd:xeu (l.take (loC id l)++l.drop (loC id l+1)):=by rw[← xnH hr t h he];exact xgW hr
  have hlt:∀ u ∈ l.take (loC id l),u.1<id:=by
   intro u hu
   have:u ∈ xfP id l:=by
    have e:=xeT id l
    unfold loC at hu
    rwa[e] at hu
   exact xjm this
  have hgt:∀ u ∈ l.drop (loC id l+1),id<u.1:=by
   intro u hu
   obtain⟨j,hj⟩:=List.mem_iff_getElem?.1 hu
   rw[List.getElem?_drop] at hj
   obtain⟨a1,e1⟩:=List.getElem?_eq_some_iff.1 h
   obtain⟨a2,e2⟩:=List.getElem?_eq_some_iff.1 hj
   have:=List.pairwise_iff_getElem.1 hr _ _ a1 a2 (by omega)
   rw[e1,e2] at this
   omega
  unfold xeu at hd ⊢
  rw[List.pairwise_append] at hd ⊢
  rw[List.pairwise_cons]
  refine⟨hd.1,⟨fun u hu=>hgt u hu,hd.2.1⟩,fun a ha b hb=>?_⟩
  rcases List.mem_cons.1 hb with rfl|hb
  ·exact hlt a ha
  ·exact hd.2.2 a ha b hb
 ·intro u
  rw[xcV,← xgG,xnH hr t h he,List.mem_append,List.mem_append,List.mem_cons]
  constructor
  ·rintro(h1|h1|h1)
   ·exact .inr (.inl h1)
   ·exact .inl h1
   ·exact .inr (.inr h1)
  ·rintro(h1|h1|h1)
   ·exact .inr (.inl h1)
   ·exact .inl h1
   ·exact .inr (.inr h1)
theorem xrA (v:Value) (l:List It) (id:Nat) (w:World) (hr:xeu l) (hv:ItsAt w v l) (hl:l.length≤100000):Calls Tryz.prog 150 #[v,.int .u64 id,.func (.func 151) #[] #[]] w fun x w'=>x=.returned (.tuple #[.int .i64 (loC id l:Nat),.bool (xbA id l).isSome])∧Below w.heap.size w w':=by
 have HF:=lH (fun t W=>xhL t id W)
 have hle:=xkF id l
 obtain⟨al,cap,rfl,hcap,hmx,hc⟩:=hv
 have HC:=lH hc
 have HP:=lH (fun d t h=>xng (id:=id) hr d t h)
 have HL:Hid ((xbA id l).isSome=decide (∃ t,l[loC id l]?=some t∧t.1=id)):=lH (isC hr)
 generalize (xbA id l).isSome=il at *
 obtain⟨r,hr⟩:∃ r,loC id l=r:=⟨_,rfl⟩
 rw[hr] at HP HL hle ⊢
 clear hc hr
 go_enter Tryz.func150,Tryz.ntmps150
 go_wp2_with fail
 go_loopw [9,10] (fun x y wr=>∃ a b:Nat,a≤r∧r≤b∧b≤l.length∧x=.int .i64 a∧y=.int .i64 b∧Below w.heap.size w wr) (fun x y _=>(intOf y).toNat - (intOf x).toNat)
 case atStart=>exact⟨0,l.length,Nat.zero_le _,by omega,Nat.le_refl _,rfl,rfl,Below.refl _ _⟩
 case round =>
  obtain⟨a,b,h1,h2,h3,rfl,rfl,hbw⟩:=hrel
  by_cases hlt:a<b
  ·obtain⟨d,hd0⟩:∃ d:Nat,d=(a+b) / 2:=⟨_,rfl⟩
   have hm1:a≤d:=by omega
   have hm2:d<b:=by omega
   obtain⟨e,he⟩:∃ t,l[d]?=some t:=⟨_,List.getElem?_eq_getElem (by omega)⟩
   obtain⟨g,off,rfl,hg,l0,l1⟩:=HC.out d e he
   have k0:=(hbw.cell (p:=⟨g,off+d*2,none⟩) hg).trans l0
   have k1:=(hbw.cell (p:=⟨g,off+d*2+1,none⟩) hg).trans l1
   have hi0:(a:Int)<(b:Int):=by omega
   have hi2:(d:Int)<(l.length:Int):=by omega
   have hw1:IntKind.i64.wrap ((a:Int)+(b:Int))=((a+b:Nat):Int):=by rw[IntKind.wrap_i64] <;> omega
   have hw2:IntKind.u64.wrap ((a:Int)+(b:Int))=((a+b:Nat):Int):=by rw[IntKind.wrap_u64];omega
   have hP:=HP.out d e he
   have HE:=lH (HF.out e)
   have HLT:=lH (xru (e.1:Nat) (id:Int))
   clear he l0 l1
   subst hd0
   have hi2':((a:Int)+(b:Int)) / 2<(l.length:Int):=by omega
   by_cases hq:e.1<id
   ·have hd:decide (xgH (e.1:Int) (id:Int)<0)=true:=by rw[HLT.out];simpa using hq
    have hq':(a+b) / 2+1≤r:=by have:=hP.1 hq;omega
    clear hq hP
    go_wp2_with fail
    refine(HE.out _).mono ?_
    rintro x w1 ⟨rfl,hb⟩
    have HB:=lH (hbw.trans (hb.mono hbw.size))
    clear hb hbw k0 k1
    go_wp2_with fail
    go_roundw
    case rel=>exact⟨(a+b) / 2+1,b,hq',h2,h3,by go_num,rfl,HB.out⟩
    case measure=>simp[intOf];omega
   ·have hd:decide (xgH (e.1:Int) (id:Int)<0)=false:=by rw[HLT.out];simpa using hq
    have hq':r≤(a+b) / 2:=by
     rcases Nat.lt_or_ge ((a+b) / 2) r with h|h
     ·exact absurd (hP.2 h) hq
     ·exact h
    clear hq hP
    go_wp2_with fail
    refine(HE.out _).mono ?_
    rintro x w1 ⟨rfl,hb⟩
    have HB:=lH (hbw.trans (hb.mono hbw.size))
    clear hb hbw k0 k1
    go_wp2_with fail
    go_roundw
    case rel=>exact⟨a,(a+b) / 2,h1,hq',by omega,rfl,by go_num,HB.out⟩
    case measure=>simp[intOf];omega
  ·obtain rfl:a=r:=by omega
   have hlt':¬ (a:Int)<(b:Int):=by omega
   have HBW:=lH hbw
   by_cases hal:a<l.length
   ·obtain⟨e,he⟩:∃ t,l[a]?=some t:=⟨_,List.getElem?_eq_getElem hal⟩
    obtain⟨g,off,rfl,hg,l0,l1⟩:=HC.out a e he
    have k0:=(hbw.cell (p:=⟨g,off+a*2,none⟩) hg).trans l0
    have k1:=(hbw.cell (p:=⟨g,off+a*2+1,none⟩) hg).trans l1
    have hi2:(a:Int)<(l.length:Int):=by omega
    have HE:=lH (HF.out e)
    have hil:il=decide ((e.1:Int)=(id:Int)):=by
     rw[HL.out]
     apply decide_eq_decide.2
     constructor
     ·rintro⟨t,ht,h⟩
      rw[he] at ht
      cases ht
      omega
     ·intro h
      exact⟨e,he,by omega⟩
    have HIL:=lH (hil.trans (xrF _ _).symm)
    clear he l0 l1 hil hbw
    go_wp2_with fail
    refine(HE.out _).mono ?_
    rintro x w1 ⟨rfl,hb⟩
    have HB:=lH (HBW.out.trans (hb.mono HBW.out.size))
    clear hb k0 k1
    go_wp2_with fail
    go_ret2
    refine⟨?_,HB.out⟩
    rw[HIL.out]
    first|rfl|simp
   ·have hil:il=false:=by
     rw[HL.out,decide_eq_false_iff_not]
     rintro⟨t,ht,_⟩
     exact hal (List.getElem?_eq_some_iff.1 ht).1
    obtain rfl:a=l.length:=by omega
    subst hil
    have hi2:¬ (l.length:Int)<(l.length:Int):=by omega
    clear hbw
    go_wp2_with fail
    go_ret2
    exact⟨rfl,HBW.out⟩
structure ChS (w:World) (s:Value) (l:List It):Prop where
 its:ItsAt w s l
 good:GoodC l
theorem ChS.below {w w':World} {s:Value} {l:List It} (h:ChS w s l) (hb:Below w.heap.size w w'):ChS w' s l:=⟨h.its.below hb,h.good⟩
theorem ChS.form {w:World} {s:Value} {l:List It} (h:ChS w s l):∃ a n c,s=.slice a n c:=by
 obtain⟨a,c,e,_⟩:=h.its
 exact⟨_,_,_,e⟩
theorem xfo (w:World):ChS w (.slice none 0 0) []:=⟨xdp w,xfl⟩
theorem xe8 (s:Value) (l:List It) (id:Nat) (w:World) (h:ChS w s l):Calls Tryz.prog 73 #[.agg #[s],.int .u64 id] w fun e w'=>e=.returned (.tuple #[.int .i64 (loC id l:Nat),.bool (xbA id l).isSome])∧Below w.heap.size w w':=by
 have HB:=lH (fun W (hb:Below w.heap.size w W)=>xrA s l id W h.good.rise (h.its.below hb) (by have:=h.good.few;omega))
 obtain⟨a,n,c,rfl⟩:=h.form
 clear h
 go_enter Tryz.func73,Tryz.ntmps73
 go_wp2_with fail
 refine(HB.out _ (by go_grown)).mono ?_
 rintro e w1 ⟨rfl,hb⟩
 have H1:=lH (((Below.refl w.heap.size w).alloc (Nat.le_refl _) _).trans (hb.mono (by simp)))
 clear hb
 go_wp2_with fail
 go_ret2
 exact⟨rfl,H1.out⟩
end Go.Proofs.YtjinnigjfopbcaaGreatDoor
