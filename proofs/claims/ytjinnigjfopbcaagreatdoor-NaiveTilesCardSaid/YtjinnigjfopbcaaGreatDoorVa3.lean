/- aLc aHc aHi aHe aLf aHj aHk. -/
import Derived.Test.YtjinnigjfopbcaaGreatDoorVs
import Derived.Test.YtjinnigjfopbcaaGreatDoorVa2
import Derived.Lib.Overlaps
import Derived.Laws.CopyOwn
set_option maxHeartbeats 16000000
namespace Go.Proofs.YtjinnigjfopbcaaGreatDoor
set_option linter.unusedVariables false
set_option linter.unusedSimpArgs false
open Go.RowKit
set_option maxRecDepth 20000
def xrS (o:Option ByteArray):ByteArray:=o.getD { data:=#[] }
def xuO (E:TypeId) (l:List It) (w:World) (e:Ending) (w':World):Prop:=∃ v,e=.returned v∧xaV w' w.heap.size E v l∧Below w.heap.size w w'
theorem xsB (v:Value) (l:List It) (w:World) (hv:ItsAt w v l) (hl:l.length≤100000) :
  Calls Tryz.prog 24 #[v] w (xuO 64 l w):=by
 obtain⟨al,cap,rfl,hcap,hmx,hc⟩:=hv
 have HC:=lH hc
 have hmx':l.length≤maxLen:=by omega
 unfold maxLen at hmx'
 clear hc
 go_enter Tryz.func24,Tryz.ntmps24
 go_wp2_with fail
 go_loopw [3,4] (fun u i wr=>∃ k:Nat,k≤l.length∧i=.int .i64 k∧xaV wr w.heap.size 64 u (l.take k)∧Below w.heap.size w wr) (fun _ i _=>l.length - (intOf i).toNat)
 case atStart=>exact⟨0,Nat.zero_le _,rfl,xec _ _ _,Below.refl _ _⟩
 case round =>
  obtain⟨k,hk,rfl,hown,hbw⟩:=hrel
  by_cases hlt:k<l.length
  ·obtain⟨⟨x,s⟩,htk⟩:∃ t,l[k]?=some t:=⟨_,List.getElem?_eq_getElem hlt⟩
   obtain⟨g,off,rfl,hg,c0,c1⟩:=HC.out k _ htk
   have HS2:=lH (xcL l k _ htk)
   have hlen:(l.take k).length≤k:=List.length_take_le _ _
   have d0:=(hbw.cell (p:=⟨g,off+k*2,none⟩) hg).trans c0
   have d1:=(hbw.cell (p:=⟨g,off+k*2+1,none⟩) hg).trans c1
   have d2:=Nat.lt_of_lt_of_le hg hbw.size
   have hb2:Below w.heap.size w (wr.alloc (.cells #[.int .u64 x,.string s] 64)):=hbw.alloc hbw.size _
   obtain⟨v',w',hr,hown',hgr⟩:=xcp (wr.alloc (.cells #[.int .u64 x,.string s] 64)) w.heap.size 39 64 39 _ Tryz.underlying39 xui rfl _ _ _ [(x,s)] (hown.below (Below.alloc (Below.refl _ _) (Nat.le_refl _) _)) (xuq wr x s _) (by simp only[List.length_singleton];omega) hb2.size
   have HO:=lH hown'
   have HB:=lH (Below.grown hb2 hgr hb2.size (fun k hk=>(hown.lt k hk).1))
   clear hown hbw c0 c1 hb2 hown' hgr
   go_wp2_with (first|(at_builtin;refine Lib.wpList_append_run _ rfl _ _ _ _ rfl _ _ rfl rfl _ _ hr ?_)|fail)
   go_roundw
   case rel=>exact⟨k+1,by omega,by go_num,by rw[HS2.out];exact HO.out,HB.out⟩
   case measure=>simp[intOf];omega
  ·obtain rfl:k=l.length:=by omega
   rw[List.take_length] at hown
   go_wp2_with fail
   go_ret
   exact⟨_,rfl,hown,hbw⟩
theorem xqP (s:Value) (l:List It) (id:Nat) (t:ByteArray) (w:World) (h:ChS w s l) (ht:t.size≤maxLen) :
  Calls Tryz.prog 85 #[.agg #[s],.agg #[.int .u64 id,.string t],.bool (xbx id l).isSome] w fun e w'=>e=.returned (.int .i64 (putE l id t:Nat))∧Below w.heap.size w w':=by
 obtain⟨al,cap,rfl,hcap,hmx,hc⟩:=h.its
 have hfew:=h.good.few
 clear hc h
 unfold maxLen at hmx ht
 unfold putE
 obtain⟨b,hb⟩:∃ b,(xbx id l).isSome=b:=⟨_,rfl⟩
 have hb':(xbx id l).isNone=!b:=by rw[← hb];cases xbx id l <;> rfl
 rw[hb,hb']
 clear hb hb'
 by_cases h1:6004799503160661≤id
 ·have h1':(6004799503160661:Int)≤(id:Int):=by omega
  rw[if_pos h1]
  go_enter Tryz.func85,Tryz.ntmps85
  go_wp2_with fail
  go_ret
  exact⟨rfl,by go_grown⟩
 have h1':¬ (6004799503160661:Int)≤(id:Int):=by omega
 rw[if_neg h1]
 by_cases h2:t.size=0
 ·rw[if_pos h2]
  have h2':(t.toList == [])=true:=by
   have:t={ data:=#[] }:=ByteArray.ext (Array.eq_empty_of_size_eq_zero h2)
   rw[this,ByteArray.toList_eq];rfl
  go_enter Tryz.func85,Tryz.ntmps85
  go_wp2_with fail
  go_ret
  exact⟨rfl,by go_grown⟩
 rw[if_neg h2]
 have h2':(t.toList == [])=false:=by
  rw[ByteArray.toList_eq,beq_eq_false_iff_ne]
  intro e
  exact h2 (by have:=congrArg List.length e;simpa using this)
 by_cases h3:65536<t.size
 ·have h3':(65536:Int)<(t.size:Int):=by omega
  rw[if_pos h3]
  go_enter Tryz.func85,Tryz.ntmps85
  go_wp2_with fail
  go_ret
  exact⟨rfl,by go_grown⟩
 have h3':¬ (65536:Int)<(t.size:Int):=by omega
 rw[if_neg h3]
 by_cases h4:2048≤l.length
 ·have h4':(2048:Int)≤(l.length:Int):=by omega
  cases b with
  | true =>
   rw[if_neg (by simp)]
   go_enter Tryz.func85,Tryz.ntmps85
   go_wp2_with fail
   go_ret
   exact⟨rfl,by go_grown⟩
  | false =>
   rw[if_pos (by simpa using h4)]
   go_enter Tryz.func85,Tryz.ntmps85
   go_wp2_with fail
   go_ret
   exact⟨rfl,by go_grown⟩
 ·have h4':¬ (2048:Int)≤(l.length:Int):=by omega
  rw[if_neg (by simp;intro _;omega)]
  go_enter Tryz.func85,Tryz.ntmps85
  go_wp2_with fail
  go_ret
  exact⟨rfl,by go_grown⟩
theorem xtR (s:Value) (l:List It) (id:Nat) (w:World) (h:ChS w s l) (hid:id<18446744073709551616) :
  Calls Tryz.prog 30 #[.agg #[s],.int .u64 id] w fun e w'=>e=.returned (.tuple #[.string (xrS (xbx id l)),.bool (xbx id l).isSome])∧Below w.heap.size w w':=by
 have HP:=lH (fun W (hb:Below w.heap.size w W)=>xiJ s l id W (h.below hb))
 have HI:=lH (isC (id:=id) h.good.rise)
 have HG:=lH (fun t=>xz5 (id:=id) h.good.rise t)
 obtain⟨al,cap,rfl,hcap,hmx,hc⟩:=h.its
 have hfew:=h.good.few
 have HC:=lH hc
 clear hc h
 obtain⟨b,hb⟩:∃ b,(xbx id l).isSome=b:=⟨_,rfl⟩
 cases b with
 | false =>
  have hn:xrS (xbx id l)={ data:=#[] }:=by
   cases hg:xbx id l with
   | none=>rfl
   | some x=>rw[hg] at hb;cases hb
  rw[hn]
  rw[hb] at HP ⊢
  generalize loC id l=i at *
  clear hb hn HI HG HC
  go_enter Tryz.func30,Tryz.ntmps30
  go_wp2_with fail
  refine(HP.out _ (by go_grown)).mono ?_
  rintro e w1 ⟨rfl,hb⟩
  have H1:=lH (((Below.refl w.heap.size w).alloc (Nat.le_refl _) _).trans (hb.mono (by simp)))
  clear hb
  go_wp2_with fail
  go_ret2
  exact⟨rfl,H1.out⟩
 | true =>
  rw[hb] at HI HP ⊢
  obtain⟨t,ht,he⟩:=of_decide_eq_true HI.out.symm
  have hn:xrS (xbx id l)=t.2:=by rw[HG.out t ht he];rfl
  rw[hn]
  have hi:=(List.getElem?_eq_some_iff.1 ht).1
  obtain⟨g,off,rfl,hg,l0,l1⟩:=HC.out _ t ht
  generalize loC id l=i at *
  have hi2:(i:Int)<(l.length:Int):=by omega
  clear hb hn HI HG ht he
  go_enter Tryz.func30,Tryz.ntmps30
  go_wp2_with fail
  refine(HP.out _ (by go_grown)).mono ?_
  rintro e w1 ⟨rfl,hb⟩
  have hB:Below w.heap.size w w1:=(((Below.refl w.heap.size w).alloc (Nat.le_refl _) _).trans (hb.mono (by simp)))
  have k1:=(hB.cell (p:=⟨g,off+i*2+1,none⟩) hg).trans l1
  have kb:w1.cell? ⟨w.heap.size,0,none⟩=some (.slice (some ⟨g,off,none⟩) l.length cap):=xan hb (by simp[go_sem])
  have H1:=lH hB
  clear hb hB l0 l1
  go_wp2_with fail
  go_ret2
  exact⟨rfl,H1.out⟩
theorem xmx (s:Value) (l:List It) (w:World) (h:ChS w s l) :
  Calls Tryz.prog 31 #[.agg #[s]] w fun e w'=>e=.returned (.int .i64 l.length)∧Below w.heap.size w w':=by
 obtain⟨al,cap,rfl,hcap,hmx,hc⟩:=h.its
 clear h hc
 unfold maxLen at hmx
 go_enter Tryz.func31,Tryz.ntmps31
 go_wp2_with fail
 go_ret
 exact⟨rfl,by go_grown⟩
theorem xej (W:World) (g o dLen dCap:Nat) (a:Addr) (sLen sCap:Nat) (cur:List Value) (T:TypeId) (cs:List Value) (hg:W.heap[g]?=some (.cells cur.toArray T (0,0))) (hn:cs.length=Nat.min sLen dLen*2)
  (hsrc:∀ j v,cs[j]?=some v→W.cell? (a.add j)=some v) (hfit:o+cs.length≤cur.length) (h1:∀ v ∈ cs,v.oneCell'=true) :
  ∃ W',(∀ ty,(Builtin.copy_ #[34,34] ty #[.slice (some ⟨g,o,none⟩) dLen dCap,.slice (some a) sLen sCap]).run Tryz.prog W=.ok (goInt (Nat.min sLen dLen)) W')∧W'.heap[g]?=some (.cells (splice cur o cs).toArray T (0,0))∧W.grownBy W' (some g):=by
 have hl:=run_loadCells_list (P:=Tryz.prog) W a cs hsrc
 have hst:=run_storeCells_at Tryz.prog g o T cs 0 cur.toArray W hg (by simpa using hfit) h1
 obtain⟨i0,hi,hz0,hz1,hz2⟩:=xaq xeB
 have hu:=Tryz.underlying34
 refine⟨W.setRow g (cur.take o++(cs++cur.drop (o+cs.length))).toArray,fun ty=>?_,?_,?_⟩
 ·have hn':Nat.min sLen dLen*2=cs.length:=hn.symm
  simp only[Nat.add_zero] at hst
  rw[show cur.take o++(cs++cur.drop (o+cs.length))=cur.toArray.toList.take o++cs++cur.toArray.toList.drop (o+cs.length) by simp]
  simp[Builtin.copy_,run_underlying hu,Builtin.lenOf,Builtin.firstCells,sizeOf,typeInfo,hi,hz1,hn',hl,hst]
 ·exact setRow_heap W g _ _ T _ hg
 ·exact⟨rfl,rfl,rfl,by simp[World.setRow],fun k hk hne=>setRow_other W g k _ (fun e=>hne (by rw[e]))⟩
theorem xoW (w:World):(sizeOf 67).run Tryz.prog w=.ok 2 w:=by
 obtain⟨i0,hi,hz0,hz1,hz2⟩:=xaq xeB
 simp[sizeOf,typeInfo,hi,hz1]
theorem xsN (w:World) (vb b oB lb cb:Nat) (hvb:vb≠b) (x y:Value) (tA tB:TypeId) (cur:Array Value) (hA:w.heap[vb]?=some (.cells #[x,y] tA (0,0))) (hB:w.heap[b]?=some (.cells cur tB (0,0))) (hc:cur.size≠0) :
  (callFunc 163 #[.slice (some ⟨vb,0,none⟩) 1 1,.slice (some ⟨b,oB,none⟩) lb cb]).run Tryz.prog w=.ok (.value (.bool false)) w:=by
 rw[run_callFunc_extern Tryz.func163 (by kernel_rfl) (by kernel_rfl) (by kernel_rfl) (e:=Extern.SlicesOverlaps.overlaps #[34,34] #[4]) (by kernel_rfl),
  Lib.run_overlaps_apart w 34 4 67 Tryz.underlying34 2 xoW ⟨vb,0,none⟩ ⟨b,oB,none⟩ 1 1 lb cb hvb tA tB 2 cur.size (by simp[World.shape?,hA]) (by simp[World.shape?,hB]) hc (by simp[World.frozen?,hA]) (by simp[World.frozen?,hA])]
 rfl
theorem xcz {w:World} {ops:Array Oper} {rest:List Oper} {o:Oper} {a:Act} {Q:Exit→Act→World→Prop} (hgd:o.guard=none) (d s:Operand) (t t':TypeId)
  (ho:o.op=.call { callee:=.builtin .copy,args:=#[d,s],argTypes:=#[t,t'] }) (v u:Value) (hd:a.eval d=v) (hs:a.eval s=u) {v':Value} {w':World}
  (hr:(Builtin.copy_ #[t,t'] o.type #[v,u]).run Tryz.prog w=.ok v' w') (h:wpList Tryz.prog ops Q rest (a.put o.dst v') w'):wpList Tryz.prog ops Q (o :: rest) a w:=by
 refine wpList_plain hgd fun K hK=>?_
 unfold Oper.wp execOp
 simp only[ho,resolve,invoke,builtin,Sem.run_bind,Sem.run_pure,Result.andThen_ok,List.map_toArray,List.map_cons,List.map_nil,hd,hs,hr]
 exact hK _ _ h
theorem xc6 {ops:Array Oper} {o:Oper} {a:Act} {w:World} {K:Act→World→Prop} {Q:Exit→Act→World→Prop} {E:Prop}
  (hg:o.guard=none) (d x:Operand) (dT sT:TypeId) (hop:o.op=Op.call { callee:=Callee.builtin Builtin.copy,args:=#[d,x],argTypes:=#[dT,sT] })
  (v u:Value) (hd:a.eval d=v) (hx:a.eval x=u) {v':Value} {w':World} (hr:(Builtin.copy_ #[dT,sT] o.type #[v,u]).run Tryz.prog w=.ok v' w') (hK:K (a.put o.dst v') w') :
  if Region.wanted o (yielded ops a.tmps)=true then Oper.wp Tryz.prog o a w K Q else E:=by
 have hw:Region.wanted o (yielded ops a.tmps)=true:=by simp[Region.wanted,hg]
 rw[if_pos hw]
 unfold Oper.wp
 simp[execOp,hop,resolve,invoke,builtin,hd,hx,hr,Result.andThen]
 exact hK
def xnk (l:List It) (i:Nat) (t:It):List It:=l.take i++t :: l.drop i
def xfc (l:List It) (i:Nat) (t:It) (B:Nat) (s:Value) (w:World) (e:Ending) (w':World):Prop:=∃ v',e=.returned v'∧xaV w' B 67 v' (xnk l i t)∧w.grownBy w' s.ownBlock
theorem xwf (s:Value) (l:List It) (t:It) (B vb:Nat) (w:World) (ho:xaV w B 67 s l) (hx:ItsAt w (.slice (some ⟨vb,0,none⟩) 1 1) [t]) (hl:l.length≤5000) (hB:B≤w.heap.size) :
  Calls Tryz.prog 86 #[s,.int .i64 l.length,.slice (some ⟨vb,0,none⟩) 1 1] w (xfc l l.length t B s w):=by
 obtain⟨v5,w5,hr5,ho5,hg5⟩:=xcp w B 34 67 34 _ Tryz.underlying34 xeB rfl s (.slice (some ⟨vb,0,none⟩) 1 1) l [t] ho hx (by simp;omega) hB
 have HE:Hid (∀ e,e=Ending.returned v5→xfc l l.length t B s w e w5):=lH (fun e he=>⟨v5,he,by unfold xnk;rw[List.take_length,List.drop_length];exact ho5,hg5⟩)
 have hee:((l.length:Int) == (l.length:Int))=true:=by simp
 rcases ho.form with ⟨rfl,rfl⟩|⟨g,cap,rfl,_,_,hle,hm,_⟩
 ·clear ho hx ho5 hg5
  go_enter Tryz.func86,Tryz.ntmps86
  go_wp2_with (first|(at_builtin;refine Lib.wpList_append_run _ rfl _ _ _ _ rfl _ _ rfl rfl _ _ hr5 ?_)|fail)
  go_ret
  exact HE.out _ rfl
 ·unfold maxLen at hm
  generalize l.length=n at *
  have hn:(n:Int)≤(cap:Int):=by omega
  clear ho hx ho5 hg5
  by_cases hc:cap=n
  ·subst hc
   go_enter Tryz.func86,Tryz.ntmps86
   go_wp2_with (first|(at_builtin;refine Lib.wpList_append_run _ rfl _ _ _ _ rfl _ _ rfl rfl _ _ hr5 ?_)|fail)
   go_ret
   exact HE.out _ rfl
  ·go_enter Tryz.func86,Tryz.ntmps86
   go_wp2_with (first|(at_builtin;refine Lib.wpList_append_run _ rfl _ _ _ _ rfl _ _ rfl rfl _ _ hr5 ?_)|fail)
   go_ret
   exact HE.out _ rfl
theorem xgw {W:World} {ad:Addr} {n cap:Nat} {l:List It} (h:ItsAt W (.slice (some ad) n cap) l):∀ j u,(xaH l)[j]?=some u→W.cell? (ad.add j)=some u:=by
 obtain⟨a,cap',he,h1,h2,hc⟩:=h
 cases he
 intro j u hu
 have hj:j<l.length*2:=by rw[← xa0];exact(List.getElem?_eq_some_iff.1 hu).1
 obtain⟨t,ht⟩:∃ t,l[j / 2]?=some t:=⟨_,List.getElem?_eq_getElem (by omega)⟩
 obtain⟨g,off,ha,_,c0,c1⟩:=hc (j / 2) t ht
 obtain⟨f0,f1⟩:=xfD l (j / 2) t ht
 injection ha with ha
 subst ha
 have hadd:(⟨g,off,none⟩:Addr).add j=⟨g,off+j,none⟩:=by simp[Addr.add]
 rw[hadd]
 rcases(by omega:j=j / 2*2∨j=j / 2*2+1) with e|e
 ·rw[e,f0] at hu;rw[← hu];rw[show off+j=off+j / 2*2 from by omega];exact c0
 ·rw[e,f1] at hu;rw[← hu];rw[show off+j=off+j / 2*2+1 from by omega];exact c1
theorem xpA {W:World} {a:Option Addr} {n cap:Nat} {l:List It} (h:ItsAt W (.slice a n cap) l) (W':World) (hW:∀ p,W'.cell? p=W.cell? p):(Builtin.firstCells 2 n (.slice a n cap)).run Tryz.prog W'=.ok (xaH l).toArray W':=by
 have h':=h
 obtain⟨a',cap',he,h1,h2,hc⟩:=h'
 cases he
 cases a with
 | none =>
  have hl0:l=[]:=by
   cases l with
   | nil=>rfl
   | cons t l=>obtain⟨g,off,ha,_⟩:=hc 0 t rfl;cases ha
  subst hl0
  exact run_firstCells_none W' 2 0 0 cap
 | some ad=>exact run_firstCells_some W' 2 l.length ad l.length cap (xaH l) (xa0 l) (fun j u hu=>(hW _).trans (xgw h j u hu))
def xud (l:List It) (w:World) (x:Ending) (w':World):Prop:=∃ v',x=.returned v'∧ItsAt w' v' l∧Below w.heap.size w w'
theorem xij (ad:Addr) (n c:Nat) (w:World):(Op.equal 34 (.slice (some ad) n c) (.slice none 0 0)).run Tryz.prog w=.ok false w:=by
 rw[Op.equal,show Op.maxDepth=9999+1 from rfl]
 unfold Op.equalIn
 simp[go_sem]
theorem xgK (ad:Addr) (n c:Nat) (w:World):(binOp BinOp.eql 34 (.slice (some ad) n c) (.slice none 0 0)).run Tryz.prog w=.ok (.bool false) w:=by
 simp[binOp,go_sem,xij]
theorem xhx (c:Nat) (w:World):(Op.equal 34 (.slice none 0 c) (.slice none 0 0)).run Tryz.prog w=.ok true w:=by
 rw[Op.equal,show Op.maxDepth=9999+1 from rfl]
 unfold Op.equalIn
 simp[go_sem]
theorem xgO (c:Nat) (w:World):(binOp BinOp.eql 34 (.slice none 0 c) (.slice none 0 0)).run Tryz.prog w=.ok (.bool true) w:=by
 simp[binOp,go_sem,xhx]
theorem xpU (v:Value) (l:List It) (w:World) (hv:ItsAt w v l) (hl:l.length≤200000):Calls Tryz.prog 63 #[v] w (xud l w):=by
 obtain⟨i0,hi,hz0,hz1,hz2⟩:=xaq xeB
 have HI0:=lH hi
 have HZ0:=lH hz0
 have HZ1:=lH hz1
 have HZ2:=lH hz2
 clear hi hz0 hz1 hz2
 have hv':=hv
 obtain⟨a,cap,rfl,h1,h2,hc⟩:=hv'
 cases a with
 | none =>
  have hl0:l=[]:=by
   cases l with
   | nil=>rfl
   | cons t l=>obtain⟨g,off,ha,_⟩:=hc 0 t rfl;cases ha
  subst hl0
  clear hc hv
  have hneq:=fun W=>xgO cap W
  go_enter Tryz.func63,Tryz.ntmps63
  go_wp2_with fail
  go_ret
  exact⟨_,rfl,xcu _,Below.refl _ _⟩
 | some ad =>
  have HV:=lH hv
  have hneq:=fun W=>xgK ad l.length cap W
  clear hc hv
  go_enter Tryz.func63,Tryz.ntmps63
  have HO:Hid ((w.alloc (.cells #[] 67)).ownsRow w.heap.size 67 2 (.slice (some ⟨w.heap.size,0,none⟩) 0 0) 0 (xaH [])):=lH ⟨rfl,.inr ⟨w.heap.size,0,#[],rfl,Nat.le_refl _,xcr w _,Nat.le_refl _,Nat.zero_le _,rfl,rfl⟩⟩
  have HNW:=lH (xgw (HV.out.below ((Below.refl w.heap.size w).alloc (Nat.le_refl _) (.cells #[] 67))))
  go_wp2_with (first|(at_builtin;refine wpList_append_own _ rfl _ _ 34 rfl w.heap.size 67 i0 (.agg #[.int .u64 0,.string { data:=#[] }]) 2 24 Tryz.underlying34 HI0.out HZ0.out HZ1.out HZ2.out rfl (by decide) _ _ _ rfl HO.out ad l.length cap (xaH l) rfl (xa0 l) HNW.out (xd4 l) ?c4 ?c5 ?c6 ?_)|fail)
  case c4=>unfold maxLen;omega
  case c5=>omega
  case c6=>simp
  intro v' w5 hown' hgr _
  have hO:xaV w5 w.heap.size 67 v' l:=by
   have h:=hown'
   unfold xaV
   simpa[xaH] using h
  have hb5:Below w.heap.size w w5:=((Below.refl w.heap.size w).alloc (Nat.le_refl _) _).grown hgr (by simp) (fun g hg=>(World.ownsRow.lt HO.out g hg).1)
  have HO5:=lH hO
  have HB5:=lH hb5
  clear hown' hgr hO hb5
  go_wp2_with fail
  go_ret
  exact⟨_,rfl,HO5.out.itsAt,HB5.out⟩
theorem xjU (s:Value) (l:List It) (w:World) (h:ChS w s l) :
  Calls Tryz.prog 25 #[.agg #[s]] w fun e w'=>∃ v,e=.returned v∧ItsAt w' v l∧Below w.heap.size w w':=by
 have HC:=lH (fun W (hb:Below w.heap.size w W)=>xpU s l W (h.its.below hb) (by have:=h.good.few;omega))
 obtain⟨a,n,c,rfl⟩:=h.form
 clear h
 go_enter Tryz.func25,Tryz.ntmps25
 go_wp2_with fail
 refine(HC.out _ (by go_grown)).mono ?_
 rintro e w1 ⟨v',rfl,hv,hb⟩
 have H1:=lH (((Below.refl w.heap.size w).alloc (Nat.le_refl _) _).trans (hb.mono (by simp)))
 have HV:=lH hv
 clear hb hv
 go_wp2_with fail
 go_ret
 exact⟨_,rfl,HV.out,H1.out⟩
theorem ItsAt.pre {w:World} {a:Option Addr} {n cap:Nat} {l:List It} (h:ItsAt w (.slice a n cap) l) (k:Nat) (hk:k≤l.length):ItsAt w (.slice a k cap) (l.take k):=by
 obtain⟨a',cap',e,h1,h2,hc⟩:=h
 cases e
 have hl:(l.take k).length=k:=by rw[List.length_take];omega
 refine⟨_,cap,by rw[hl],by omega,h2,fun j t ht=>?_⟩
 have hj:j<k:=by have:=(List.getElem?_eq_some_iff.1 ht).1;omega
 rw[List.getElem?_take,if_pos hj] at ht
 exact hc j t ht
theorem xt6 (all acc:List It) (k:Nat) (t:It) (h:all[k]?=some t):ofR (all.take k) acc (all.drop k)=if (xbx t.1 (all.take k)).isSome then ([],22) else if putE acc t.1 t.2≠0 then ([],putE acc t.1 t.2) else ofR (all.take (k+1)) (xjQ t.1 t.2 acc) (all.drop (k+1)):=by
 rw[xmB all k t h,ofR,xcL all k t h]
theorem xkC {W:World} {b:Nat} {o:Obj} (h:W.heap[b]?=some o):b<W.heap.size:=(Array.getElem?_eq_some_iff.1 h).1
theorem xr1 (cur A D T:List Value) (hA:cur.take (A.length+D.length)=A++D) (hT:T.length=2) (hlen:A.length+D.length+2≤cur.length) :
  (splice (splice cur (A.length+2) D) A.length T).take (A.length+D.length+2)=A++(T++D)∧(splice (splice cur (A.length+2) D) A.length T).length=cur.length:=by
 have e1:(splice cur (A.length+2) D).length=cur.length:=length_splice _ _ _ (by omega)
 refine⟨?_,by rw[length_splice _ _ _ (by rw[e1,hT];omega),e1]⟩
 have hA1:cur.take A.length=A:=by
  have:=congrArg (List.take A.length) hA
  rw[List.take_take,Nat.min_eq_left (by omega),List.take_left] at this
  exact this
 have e2:(splice cur (A.length+2) D).take A.length=A:=by
  unfold splice
  rw[List.take_append_of_le_length (by rw[List.length_take];omega),List.take_take,Nat.min_eq_left (by omega),hA1]
 have e3:(splice cur (A.length+2) D).drop (A.length+T.length)=D++cur.drop (A.length+2+D.length):=by
  unfold splice
  have hl:(cur.take (A.length+2)).length=A.length+T.length:=by rw[List.length_take,hT];omega
  rw[← hl,List.drop_left]
 have e4:splice (splice cur (A.length+2) D) A.length T=(A++(T++D))++cur.drop (A.length+2+D.length):=by
  conv=>lhs;unfold splice
  have e2':=e2
  have e3':=e3
  unfold splice at e2' e3'
  rw[e2',e3']
  simp
 rw[e4,List.take_append_of_le_length (by simp[hT];omega)]
 exact List.take_of_length_le (by simp[hT];omega)
theorem xo6 (cur A D T:List Value) (hA:cur.take A.length=A) (hT:T.length=2) (hlen:A.length+D.length+2≤cur.length) :
  (splice (splice cur A.length T) (A.length+2) D).take (A.length+D.length+2)=A++(T++D)∧(splice (splice cur A.length T) (A.length+2) D).length=cur.length:=by
 have e1:(splice cur A.length T).length=cur.length:=length_splice _ _ _ (by omega)
 refine⟨?_,by rw[length_splice _ _ _ (by rw[e1];omega),e1]⟩
 have e2:splice cur A.length T=(A++T)++cur.drop (A.length+T.length):=by
  unfold splice
  rw[hA,List.append_assoc]
 have e3:(splice cur A.length T).take (A.length+2)=A++T:=by
  rw[e2,List.take_append_of_le_length (by simp[hT])]
  exact List.take_of_length_le (by simp[hT])
 have e4:splice (splice cur A.length T) (A.length+2) D=(A++(T++D))++(splice cur A.length T).drop (A.length+2+D.length):=by
  conv=>lhs;unfold splice
  have e3':=e3
  unfold splice at e3' ⊢
  rw[e3']
  simp
 rw[e4,List.take_append_of_le_length (by simp[hT];omega)]
 exact List.take_of_length_le (by simp[hT];omega)
theorem xmA (l:List It) (i:Nat) (t:It):xaH (xnk l i t)=xaH (l.take i)++([.int .u64 t.1,.string t.2]++xaH (l.drop i)):=by
 unfold xnk
 rw[xdh]
 rfl
theorem xlF (l:List It) (i:Nat) (t:It) (hi:i≤l.length):(xnk l i t).length=l.length+1:=by
 unfold xnk
 rw[List.length_append,List.length_cons,List.length_take,List.length_drop]
 omega
theorem xha (l:List It) (i:Nat):xaH (l.take i)++xaH (l.drop i)=xaH l:=by rw[← xdh,List.take_append_drop]
theorem xpz (l:List It) (t:It) (B vb g cap i:Nat) (w:World) (x:TypeId) (ho:xaV w B 67 (.slice (some ⟨g,0,none⟩) l.length cap) l) (hv:w.heap[vb]?=some (.cells #[.int .u64 t.1,.string t.2] x (0,0))) (hvb:vb≠g) (hi:i<l.length) (hroom:l.length+1≤cap) (hl:l.length≤5000) :
  Calls Tryz.prog 86 #[.slice (some ⟨g,0,none⟩) l.length cap,.int .i64 i,.slice (some ⟨vb,0,none⟩) 1 1] w (xfc l i t B (.slice (some ⟨g,0,none⟩) l.length cap) w):=by
 obtain⟨hfl,h2⟩:=ho
 rcases h2 with ⟨e,_⟩|⟨g',cap',cur,e,hBg,hg,hle,hm,hcs,htake⟩
 ·cases e
 cases e
 have hlA:(xaH (l.take i)).length=i*2:=by rw[xa0,List.length_take];omega
 have hlD:(xaH (l.drop i)).length=(l.length - i)*2:=by rw[xa0,List.length_drop]
 have hcl:cur.toList.length=cap*2:=by simpa using hcs
 obtain⟨r1,r2⟩:=xr1 cur.toList (xaH (l.take i)) (xaH (l.drop i)) [.int .u64 t.1,.string t.2] (by rw[hlA,hlD,xha,← htake];congr 1;omega) rfl (by rw[hlA,hlD,hcl];omega)
 rw[← xmA] at r1
 rw[hlA,hlD] at r1
 rw[hlA] at r2
 rw[hcl] at r2
 have hmin1:Nat.min (l.length+1 - i) (l.length - i)=l.length - i:=Nat.min_eq_right (by omega)
 have hmin2:Nat.min 1 (l.length+1 - i)=1:=Nat.min_eq_left (by omega)
 have hcell:∀ j u,(xaH (l.drop i))[j]?=some u→w.drew.cell? ((⟨g,i*2,none⟩:Addr).add j)=some u:=by
  intro j u hj
  have hjl:=(List.getElem?_eq_some_iff.1 hj).1
  have hadd:(⟨g,i*2,none⟩:Addr).add j=⟨g,i*2+j,none⟩:=by simp[Addr.add]
  rw[hadd]
  show w.cell? ⟨g,i*2+j,none⟩=some u
  have h3:cur.toList[i*2+j]?=some u:=by
   have h4:(cur.toList.take (l.length*2))[i*2+j]?=some u:=by
    rw[htake,← xha l i,List.getElem?_append_right (by omega),hlA,Nat.add_sub_cancel_left]
    exact hj
   rw[List.getElem?_take] at h4
   split at h4
   ·exact h4
   ·cases h4
  simp[World.cell?,hg]
  simpa using h3
 obtain⟨w1,hr1,hg1,hk1⟩:=xej w.drew g (i*2+2) (l.length - i) (cap - (i+1)) ⟨g,i*2,none⟩ (l.length+1 - i) (cap - i) cur.toList 67 (xaH (l.drop i)) (by show w.heap[g]?=_;simpa using hg) (by rw[hmin1,hlD]) hcell (by rw[hlD,hcl];omega) (xd4 _)
 have hv1:w1.heap[vb]?=some (.cells #[.int .u64 t.1,.string t.2] x (0,0)):=by
  have hlt:vb<w.heap.size:=xkC hv
  rw[hk1.block vb hlt (fun e=>hvb (Option.some.inj e))]
  exact hv
 obtain⟨w2,hr2,hg2,hk2⟩:=xej w1 g (i*2) (l.length+1 - i) (cap - i) ⟨vb,0,none⟩ 1 1 _ 67 [.int .u64 t.1,.string t.2] hg1 (by rw[hmin2];rfl) (by
  intro j u hj
  match j,hj with
  | 0,hj=>simp at hj;subst hj;simp[World.cell?,hv1,Addr.add]
  | 1,hj=>simp at hj;subst hj;simp[World.cell?,hv1,Addr.add]
  | j+2,hj=>simp at hj) (by rw[length_splice _ _ _ (by rw[hlD,hcl];omega),hcl];simp;omega) (by intro u hu;simp at hu;rcases hu with rfl|rfl <;> rfl)
 have hkk:w.grownBy w2 (some g):=((⟨rfl,rfl,rfl,Nat.le_refl _,fun k hk hne=>rfl⟩:w.grownBy w.drew (some g)).trans hk1).trans hk2
 have hll:(xnk l i t).length=l.length+1:=xlF l i t (by omega)
 have hown:xaV w2 B 67 (.slice (some ⟨g,0,none⟩) (l.length+1) cap) (xnk l i t):=by
  refine⟨by rw[xa0],.inr ⟨g,cap,_,by rw[hll],hBg,hg2,by rw[hll];exact hroom,hm,?_,?_⟩⟩
  ·rw[List.size_toArray];exact r2
  ·rw[hll,← r1]
   congr 1
   omega
 have HE:Hid (∀ e,e=Ending.returned (.slice (some ⟨g,0,none⟩) (l.length+1) cap)→xfc l i t B (.slice (some ⟨g,0,none⟩) l.length cap) w e w2):=lH (fun e he=>⟨_,he,hown,hkk⟩)
 have hov:∀ lb cb,(callFunc 163 #[.slice (some ⟨vb,0,none⟩) 1 1,.slice (some ⟨g,(i+1)*2,none⟩) lb cb]).run Tryz.prog w=.ok (.value (.bool false)) w:=fun lb cb=>xsN w vb g _ lb cb hvb _ _ _ _ cur hv hg (by rw[hcs];omega)
 rw[hmin1] at hr1
 rw[hmin2] at hr2
 clear hown hkk hk1 hk2 hg1 hg2 hv1 hcell r1 r2 htake hcs hcl hlA hlD hfl hmin1 hmin2 hll hg hv
 generalize l.length=n at *
 unfold maxLen at hm
 have a1:(i:Int)≤(n:Int):=by omega
 have a2:((i:Int) == (n:Int))=false:=by rw[beq_eq_false_iff_ne];omega
 have a3:decide ((cap:Int)<(n:Int)+1)=false:=by rw[decide_eq_false_iff_not];omega
 have a4:¬ (cap:Int)<(n:Int)+1:=by omega
 have a5:(n:Int)+1≤(cap:Int):=by omega
 have a6:¬ cap=i:=by omega
 have a7:¬ cap=i+1:=by omega
 have a8:IntKind.i64.wrap ((n:Int)+1)=(n:Int)+1:=by rw[IntKind.wrap_i64];omega
 have a9:IntKind.i64.wrap ((i:Int)+1)=(i:Int)+1:=by rw[IntKind.wrap_i64];omega
 have b1:(i:Int)+1≤(n:Int)+1:=by omega
 have b2:((i:Int)+1).toNat=i+1:=by omega
 have b4:(0:Int)≤(i:Int)+1:=by omega
 have b5:(i:Int)≤(n:Int)+1:=by omega
 have b3:((n:Int)+1).toNat=n+1:=by omega
 go_enter Tryz.func86,Tryz.ntmps86
 go_wp2_with (simp only[hov])
 go_region_law (refine xc6 rfl (.tmp 73) (.tmp 76) 34 34 rfl (.slice (some ⟨g,i*2+2,none⟩) (n - i) (cap - (i+1))) (.slice (some ⟨g,i*2,none⟩) (n+1 - i) (cap - i)) (by simp[Act.eval,Act.put];try omega) (by simp[Act.eval,Act.put];try omega) (hr1 _) ?_)
 go_wp2_with (at_builtin;refine xcz rfl _ _ 34 34 rfl _ _ rfl rfl (hr2 _) ?_)
 go_ret
 exact HE.out _ rfl
theorem xpY (w:World) (g n i:Nat) (l:List It) (h:ItsAt w (.slice (some ⟨g,0,none⟩) n n) l) (hi:i<n) (hn:n≤5000) :
  ∃ G W cur,(∀ ty,(Builtin.append_ #[34,3] ty #[.slice (some ⟨g,0,none⟩) i n,.int .i64 ((n:Int)+1 - (i:Int))]).run Tryz.prog w=.ok (.slice (some ⟨w.heap.size,0,none⟩) (n+1) G) W)∧W.heap[w.heap.size]?=some (.cells (cur:List Value).toArray 67 (0,0))∧cur.take (i*2)=xaH (l.take i)∧cur.length=G*2∧n+1≤G∧G≤maxLen∧Below w.heap.size w W:=by
 have hl:l.length=n:=by obtain⟨_,_,e,_⟩:=h;cases e;rfl
 obtain⟨i0,hi0,hz0,hz1,hz2⟩:=xaq xeB
 have hold:=xpA (h.pre i (by omega)) w.drew (fun p=>by simp)
 have hsum:i+(n+1 - i)=n+1:=by omega
 have hr:=fun ty=>Go.Lib.run_append_grow_zeros (P:=Tryz.prog) w 34 3 ty 67 i0 _ .i64 .i64 Tryz.underlying34 Tryz.underlying3 hi0 hz0 (some ⟨g,0,none⟩) i n (xaH (l.take i)) (by rw[hz1];exact hold) (n+1 - i) (by omega) (by omega) (by omega) (by omega) (by rw[hz2];omega) (growslice_fits (by omega) (by rw[hz2];omega))
 rw[hsum] at hr
 have hge:=grownCap_ge w (n+1) n 67
 have hle:=grownCap_le_maxLen w (n+1) n 67 (by unfold maxLen;omega)
 have hcast:((n:Int)+1 - (i:Int))=((n+1 - i:Nat):Int):=by omega
 refine⟨grownCap w (n+1) n 67,_,((xaH (l.take i)).toArray++Builtin.zeroCells (Value.agg #[.int .u64 0,.string { data:=#[] }]).cells (n+1 - i)++Builtin.zeroCells (Value.agg #[.int .u64 0,.string { data:=#[] }]).cells (grownCap w (n+1) n 67 - (n+1))).toList,fun ty=>by rw[hcast];exact hr ty,?_,?_,?_,hge,hle,((Below.refl w.heap.size w).drew).alloc (Nat.le_refl _) _⟩
 ·rw[Array.toArray_toList];exact xcr w.drew _
 ·have e1:(xaH (l.take i)).length=i*2:=by rw[xa0,List.length_take];omega
  simp only[Array.toList_append,List.append_assoc]
  rw[List.take_append_of_le_length (by simp[e1]),List.take_of_length_le (by simp[e1])]
 ·have e1:(xaH (l.take i)).length=i*2:=by rw[xa0,List.length_take];omega
  rw[Array.length_toList]
  simp only[Array.size_append,size_zeroCells]
  generalize grownCap w (n+1) n 67=G at *
  have e2:(xaH (l.take i)).toArray.size=i*2:=by simp[e1]
  rw[e2]
  show i*2+(n+1 - i)*2+(G - (n+1))*2=G*2
  omega
theorem xrT (l:List It) (t:It) (B vb g i:Nat) (w:World) (x:TypeId) (ho:ItsAt w (.slice (some ⟨g,0,none⟩) l.length l.length) l) (hv:w.heap[vb]?=some (.cells #[.int .u64 t.1,.string t.2] x (0,0))) (hi:i<l.length) (hl:l.length≤5000) (hB:B≤w.heap.size) :
  Calls Tryz.prog 86 #[.slice (some ⟨g,0,none⟩) l.length l.length,.int .i64 i,.slice (some ⟨vb,0,none⟩) 1 1] w (xfc l i t B (.slice (some ⟨g,0,none⟩) l.length l.length) w):=by
 obtain⟨G,w1,cur,hr0,hg0,hc0,hcl,hG1,hG2,hb1⟩:=xpY w g l.length i l ho hi hl
 have hlA:(xaH (l.take i)).length=i*2:=by rw[xa0,List.length_take];omega
 have hlD:(xaH (l.drop i)).length=(l.length - i)*2:=by rw[xa0,List.length_drop]
 obtain⟨r1,r2⟩:=xo6 cur (xaH (l.take i)) (xaH (l.drop i)) [.int .u64 t.1,.string t.2] (by rw[hlA,hc0]) rfl (by rw[hlA,hlD,hcl];omega)
 rw[← xmA] at r1
 rw[hlA,hlD] at r1
 rw[hlA] at r2
 rw[hcl] at r2
 have hmin1:Nat.min (l.length - i) (l.length - i)=l.length - i:=Nat.min_self _
 have hmin2:Nat.min 1 (l.length+1 - i)=1:=Nat.min_eq_left (by omega)
 have hvl:=xkC hv
 have hv1:w1.heap[vb]?=some (.cells #[.int .u64 t.1,.string t.2] x (0,0)):=(hb1.block vb hvl).trans hv
 obtain⟨w2,hr1,hg1,hk1⟩:=xej w1 w.heap.size (i*2) (l.length+1 - i) (G - i) ⟨vb,0,none⟩ 1 1 cur 67 [.int .u64 t.1,.string t.2] hg0 (by rw[hmin2];rfl) (by
  intro j u hj
  match j,hj with
  | 0,hj=>simp at hj;subst hj;simp[World.cell?,hv1,Addr.add]
  | 1,hj=>simp at hj;subst hj;simp[World.cell?,hv1,Addr.add]
  | j+2,hj=>simp at hj) (by rw[hcl];simp;omega) (by intro u hu;simp at hu;rcases hu with rfl|rfl <;> rfl)
 have hb2:Below w.heap.size w w2:=hb1.grown hk1 hb1.size (fun k hk=>by cases hk;exact Nat.le_refl _)
 have hcell:∀ j u,(xaH (l.drop i))[j]?=some u→w2.drew.cell? ((⟨g,i*2,none⟩:Addr).add j)=some u:=by
  intro j u hj
  have h3:=xgw (ho.post i (by omega)) j u hj
  rw[Nat.zero_add] at h3
  have h4:=xan hb2 h3
  simpa using h4
 obtain⟨w3,hr2,hg2,hk2⟩:=xej w2.drew w.heap.size (i*2+2) (l.length - i) (G - (i+1)) ⟨g,i*2,none⟩ (l.length - i) (l.length - i) (splice cur (i*2) [.int .u64 t.1,.string t.2]) 67 (xaH (l.drop i)) (by show w2.heap[w.heap.size]?=_;exact hg1) (by rw[hmin1,hlD]) hcell (by rw[length_splice _ _ _ (by rw[hcl];simp;omega),hlD,hcl];omega) (xd4 _)
 have hb3:Below w.heap.size w w3:=hb2.drew.grown hk2 hb2.size (fun k hk=>by cases hk;exact Nat.le_refl _)
 have hll:(xnk l i t).length=l.length+1:=xlF l i t (by omega)
 have hown:xaV w3 B 67 (.slice (some ⟨w.heap.size,0,none⟩) (l.length+1) G) (xnk l i t):=by
  refine⟨by rw[xa0],.inr ⟨w.heap.size,G,_,by rw[hll],hB,hg2,by rw[hll];exact hG1,hG2,?_,?_⟩⟩
  ·rw[List.size_toArray];exact r2
  ·rw[hll,← r1]
   congr 1
   omega
 have hkk:w.grownBy w3 (some g):=⟨hb3.os,hb3.tape,hb3.output,hb3.size,fun k hk _=>hb3.block k hk⟩
 have HE:Hid (∀ e,e=Ending.returned (.slice (some ⟨w.heap.size,0,none⟩) (l.length+1) G)→xfc l i t B (.slice (some ⟨g,0,none⟩) l.length l.length) w e w3):=lH (fun e he=>⟨_,he,hown,hkk⟩)
 rw[hmin2] at hr1
 rw[hmin1] at hr2
 generalize hB0:w.heap.size=N0 at *
 clear hown hkk hk1 hk2 hg1 hg2 hv1 hcell r1 r2 hcl hlA hlD hmin1 hmin2 hll hg0 hc0 hv ho hb1 hb2 hb3 hvl hB hB0
 generalize l.length=n at *
 unfold maxLen at hG2
 have a1:(i:Int)≤(n:Int):=by omega
 have a2:((i:Int) == (n:Int))=false:=by rw[beq_eq_false_iff_ne];omega
 have a3:decide ((n:Int)<(n:Int)+1)=true:=by rw[decide_eq_true_iff];omega
 have a5:(i:Int)≤(n:Int)+1:=by omega
 have a6:¬ n=i:=by omega
 have a7:¬ G=i:=by omega
 have a8:IntKind.i64.wrap ((n:Int)+1)=(n:Int)+1:=by rw[IntKind.wrap_i64];omega
 have a9:IntKind.i64.wrap ((i:Int)+1)=(i:Int)+1:=by rw[IntKind.wrap_i64];omega
 have a10:IntKind.i64.wrap ((n:Int)+1 - (i:Int))=(n:Int)+1 - (i:Int):=by rw[IntKind.wrap_i64];omega
 have b1:(i:Int)+1≤(n:Int)+1:=by omega
 have b2:((i:Int)+1).toNat=i+1:=by omega
 have b4:(0:Int)≤(i:Int)+1:=by omega
 have b6:¬ G=i+1:=by omega
 go_enter Tryz.func86,Tryz.ntmps86
 go_wp2_with (first
  | (at_builtin;refine Lib.wpList_append_run _ rfl _ _ _ _ rfl _ _ rfl rfl _ _ (hr0 _) ?_)
  | (at_builtin;refine xcz rfl _ _ 34 34 rfl _ _ rfl rfl (hr1 _) ?_))
 go_region_law (refine xc6 rfl (.tmp 50) (.tmp 53) 34 34 rfl (.slice (some ⟨N0,i*2+2,none⟩) (n - i) (G - (i+1))) (.slice (some ⟨g,i*2,none⟩) (n - i) (n - i)) (by simp[Act.eval,Act.put];try omega) (by simp[Act.eval,Act.put];try omega) (hr2 _) ?_)
 go_wp2_with fail
 go_ret
 exact HE.out _ rfl
theorem xns (s:Value) (l:List It) (t:It) (B vb i:Nat) (w:World) (x:TypeId) (ho:xaV w B 67 s l) (hv:w.heap[vb]?=some (.cells #[.int .u64 t.1,.string t.2] x (0,0))) (hvb:s.ownBlock≠some vb) (hi:i≤l.length) (hl:l.length≤5000) (hB:B≤w.heap.size) :
  Calls Tryz.prog 86 #[s,.int .i64 i,.slice (some ⟨vb,0,none⟩) 1 1] w (xfc l i t B s w):=by
 have hx:ItsAt w (.slice (some ⟨vb,0,none⟩) 1 1) [t]:=by
  refine⟨_,1,rfl,Nat.le_refl _,by unfold maxLen;omega,fun k u hu=>⟨vb,0,rfl,xkC hv,?_⟩⟩
  match k,hu with
  | 0,hu=>simp only[List.getElem?_cons_zero,Option.some.injEq] at hu;subst hu;exact⟨by simp[World.cell?,hv],by simp[World.cell?,hv]⟩
  | k+1,hu=>simp at hu
 by_cases he:i=l.length
 ·subst he
  exact xwf s l t B vb w ho hx hl hB
 ·rcases ho.form with ⟨rfl,rfl⟩|⟨g,cap,rfl,_,_,hle,hm,_⟩
  ·exact absurd (Nat.le_antisymm hi (Nat.zero_le _)) he
  ·by_cases hr:l.length+1≤cap
   ·exact xpz l t B vb g cap i w x ho hv (fun e=>hvb (by rw[e];rfl)) (by omega) hr hl
   ·obtain rfl:cap=l.length:=by omega
    exact xrT l t B vb g i w x ho.itsAt hv (by omega) hl hB
theorem xqU {w:World} {B g:Nat} {E:TypeId} {v x:Value} {l:List It} (h:xaV w B E v l) (ho:One w g x):v.ownBlock≠some g:=by
 intro e
 obtain⟨T,hh⟩:=ho
 rcases h.2 with ⟨rfl,_⟩|⟨g',cap,cur,rfl,_,h2,_,_,hcs,_⟩
 ·cases e
 ·cases e
  rw[hh] at h2
  cases h2
  simp at hcs
  omega
theorem One.grown {w w':World} {B g:Nat} {E:TypeId} {v x:Value} {l:List It} (ho:One w g x) (h:xaV w B E v l) (hg:w.grownBy w' v.ownBlock):One w' g x:=by
 have hl:=ho.lt
 have hn:=xqU h ho
 obtain⟨T,hh⟩:=ho
 exact⟨T,(hg.block g hl (fun e=>hn e.symm)).trans hh⟩
theorem xaV.set {w:World} {B g:Nat} {E:TypeId} {v x:Value} {l:List It} (h:xaV w B E v l) (ho:One w g x) (x':Value):xaV (w.setCell ⟨g,0,none⟩ x') B E v l:=by
 have hn:=xqU h ho
 obtain⟨h1,h2⟩:=h
 refine⟨h1,?_⟩
 rcases h2 with h2|⟨g',cap,cur,rfl,hg,hh,r⟩
 ·exact .inl h2
 ·refine .inr ⟨g',cap,cur,rfl,hg,?_,r⟩
  exact(Below.heap_setCell _ _ _ _ (fun e=>hn (by show some g'=some g;rw[e]))).trans hh
structure OfS (w W:World) (s:Value) (acc:List It):Prop where
 res:One W w.heap.size (.slice none 0 0)
 cb:One W (w.heap.size+1) s
 own:xaV W w.heap.size 67 s acc
 bel:Below w.heap.size w W
theorem OfS.below {w W W':World} {s:Value} {acc:List It} (h:OfS w W s acc) (hb:Below W.heap.size W W'):OfS w W' s acc :=
 ⟨h.res.below hb,h.cb.below hb,h.own.below hb,h.bel.trans (hb.mono h.bel.size)⟩
theorem xta (w:World):OfS w ((w.alloc (.cells #[.slice none 0 0] 36)).alloc (.cells #[.slice none 0 0] 36)) (.slice none 0 0) []:=by
 have h1:=xbn w (.slice none 0 0) 36
 have h2:=xbn (w.alloc (.cells #[.slice none 0 0] 36)) (.slice none 0 0) 36
 simp only[World.size_alloc] at h2
 exact⟨h1.alloc _,h2,xec _ _ _,by go_grown⟩
theorem xpp (id x:Nat) (t:ByteArray) (acc sn:List It) (h:∀ id,(xbx id acc).isSome=(xbx id sn).isSome):(xbx id (xjQ x t acc)).isSome=(xbx id (sn++[(x,t)])).isSome:=by
 rw[Bool.eq_iff_iff,xbS,xbS]
 have h1:=h id
 rw[Bool.eq_iff_iff,xbS,xbS] at h1
 constructor
 ·rintro⟨u,hu,he⟩
  rcases(xdP x t acc u).1 hu with rfl|⟨hu,hn⟩
  ·exact⟨_,by simp,he⟩
  ·obtain⟨u2,hu2,he2⟩:=h1.1 ⟨u,hu,he⟩
   exact⟨u2,by simp[hu2],he2⟩
 ·rintro⟨u,hu,he⟩
  by_cases hx:x=id
  ·exact⟨(x,t),(xdP x t acc _).2 (.inl rfl),hx⟩
  ·rcases List.mem_append.1 hu with hu|hu
   ·obtain⟨u2,hu2,he2⟩:=h1.2 ⟨u,hu,he⟩
    exact⟨u2,(xdP x t acc u2).2 (.inr ⟨hu2,by omega⟩),he2⟩
   ·simp at hu
    subst hu
    exact absurd he hx
theorem xqt {l:List It} {id:Nat} {t:ByteArray} (h0:putE l id t=0):t.size≤65536:=by
 unfold putE at h0
 by_cases h1:6004799503160661≤id
 ·rw[if_pos h1] at h0;cases h0
 rw[if_neg h1] at h0
 by_cases h2:t.size=0
 ·omega
 rw[if_neg h2] at h0
 by_cases h3:65536<t.size
 ·rw[if_pos h3] at h0;cases h0
 omega
theorem xtJ {l:List It} {i:Nat} {t:It} {B:Nat} {s:Value} {w w':World} {e:Ending} (h:xfc l i t B s w e w'):∃ a n c,e=.returned (.slice a n c)∧xaV w' B 67 (.slice a n c) (xnk l i t)∧w.grownBy w' s.ownBlock:=by
 obtain⟨v,rfl,ho,hb⟩:=h
 obtain⟨a,c,rfl⟩:=ho.slice
 exact⟨_,_,_,rfl,ho,hb⟩
theorem xwS (w W:World) (s:Value) (acc:List It) (i id:Nat) (t:ByteArray) (h:OfS w W s acc) (hi:i≤acc.length) (hl:acc.length≤5000) :
  Calls Tryz.prog 86 #[s,.int .i64 i,.slice (some ⟨W.heap.size,0,none⟩) 1 1] (W.alloc (.cells #[.int .u64 id,.string t] 67))
   fun e w'=>∃ a n c,e=.returned (.slice a n c)∧xaV w' w.heap.size 67 (.slice a n c) (xnk acc i (id,t))∧One w' w.heap.size (.slice none 0 0)∧One w' (w.heap.size+1) s∧Below w.heap.size w w':=by
 have h1:=h.below (xah W (.cells #[.int .u64 id,.string t] 67))
 refine(xns s acc (id,t) w.heap.size W.heap.size i _ 67 h1.own (xcr _ _) (fun e=>?_) hi hl h1.bel.size).mono (fun e w' h2=>?_)
 ·have:=(h.own.lt _ e).2
  omega
 ·obtain⟨a,n,c,rfl,ho,hg⟩:=xtJ h2
  exact⟨a,n,c,rfl,ho,h1.res.grown h1.own hg,h1.cb.grown h1.own hg,h1.bel.grown hg h1.bel.size (fun k hk=>(h1.own.lt k hk).1)⟩
theorem xri (v:Value) (l:List It) (w:World) (hv:ItsAt w v l) (hl:l.length≤10000) (hid:∀ t ∈ l,t.1<18446744073709551616) (hs:∀ t ∈ l,t.2.size≤maxLen) :
  Calls Tryz.prog 40 #[v] w fun e w'=>∃ s,e=.returned (.tuple #[.agg #[s],.int .i64 ((ofI l).2:Nat)])∧ChS w' s (ofI l).1∧Below w.heap.size w w':=by
 obtain⟨al,cap,rfl,hcap,hmx,hc⟩:=hv
 have HC:=lH hc
 have HST:=lH (xta w)
 obtain⟨R,hR⟩:∃ R,ofI l=R:=⟨_,rfl⟩
 rw[hR]
 have HRR:=lH hR
 clear hc hR
 go_enter Tryz.func40,Tryz.ntmps40
 go_wp2_with fail
 go_loopw [12] (fun x wr=>∃ (k:Nat) (acc:List It) (s:Value),k≤l.length∧x=.int .i64 k∧OfS w wr s acc∧GoodC acc∧R=ofR (l.take k) acc (l.drop k)∧∀ id,(xbx id acc).isSome=(xbx id (l.take k)).isSome) (fun x _=>l.length - (intOf x).toNat)
 case atStart=>exact⟨0,[],_,Nat.zero_le _,rfl,HST.out,xfN,HRR.out.symm,fun id=>rfl⟩
 case round =>
  obtain⟨k,acc,s,hk,rfl,hO,hgood,hR,hseen⟩:=hrel
  have HO:=lH hO
  have HGD:=lH hgood
  have HSE:=lH hseen
  have hfew:=hgood.few
  have hle:=xrh
  have cc:=hO.cb.cell
  have rr:=hO.res.cell
  have rf:=hO.res.frz
  have cA:∀ O,(wr.alloc O).cell? ⟨w.heap.size+1,0,none⟩=some s:=fun O=>(hO.cb.alloc O).cell
  clear HST HRR
  by_cases hlt:k<l.length
  ·obtain⟨⟨x,t⟩,htk⟩:∃ t,l[k]?=some t:=⟨_,List.getElem?_eq_getElem hlt⟩
   have hx:=hid _ (List.mem_of_getElem? htk)
   have ht:=hs _ (List.mem_of_getElem? htk)
   simp only at hx ht
   obtain⟨g,off,rfl,hg,c0,c1⟩:=HC.out k _ htk
   have d0:=(hO.bel.cell (p:=⟨g,off+k*2,none⟩) hg).trans c0
   have d1:=(hO.bel.cell (p:=⟨g,off+k*2+1,none⟩) hg).trans c1
   rw[xt6 l acc k _ htk,← hseen x] at hR
   have hki:(k:Int)<(l.length:Int):=by omega
   have HPL:=lH (fun X (hX:Below wr.heap.size wr X)=>xiJ s acc x X ⟨(hO.own.below hX).itsAt,hgood⟩)
   have HCK:=lH (fun X (hX:Below wr.heap.size wr X)=>xqP s acc x t X ⟨(hO.own.below hX).itsAt,hgood⟩ ht)
   obtain⟨a7,n7,p7,rfl⟩:∃ a n c,s=.slice a n c:=by obtain⟨_,_,e⟩:=hO.own.slice;exact⟨_,_,_,e⟩
   have hlo:=xrh x acc
   have HIT:=lH (xf7 wr (.int .u64 x) (.string t) 67)
   have HPN:=lH (fun hn=>xxv (id:=x) (s:=t) (l:=acc) hn)
   have HTK:=lH (xcL l k _ htk)
   obtain⟨b,hb⟩:∃ b,(xbx x acc).isSome=b:=⟨_,rfl⟩
   rw[hb] at HPL HCK hR HPN
   have hbz:=xah wr (.cells #[.int .u64 x,.string t] 67)
   have HBZ:=lH hbz
   clear c0 c1 hO hgood hseen hb hbz hle htk
   cases b with
   | true =>
    rw[if_pos rfl] at hR
    have HR:=lH hR
    clear hR
    go_wp2_with fail
    refine(HPL.out _ HBZ.out).mono ?_
    rintro e w1 ⟨rfl,hb⟩
    have H1:=lH ((HO.out.below HBZ.out).below hb)
    have r0:=H1.out.res.cell
    have r1:=H1.out.res.frz
    clear hb cc rr rf d0 d1 cA
    go_wp2_with fail
    refine bodyPost_ret (xbv rfl _ _ w.heap.size _ _ _ rfl rfl (H1.out.res.set _).cell Tryz.underlying36 rfl xbw) rfl ⟨_,by rw[HR.out];rfl,?_,H1.out.bel.setCell (p:=⟨w.heap.size,0,none⟩) (Nat.le_refl _) _⟩
    rw[HR.out]
    exact xhF _
   | false =>
    rw[if_neg (by decide)] at hR
    obtain⟨z,hz⟩:∃ z,putE acc x t=z:=⟨_,rfl⟩
    rw[hz] at hR HCK
    by_cases h0:z=0
    ·subst h0
     rw[if_neg (by simp)] at hR
     have HR:=lH hR
     have HTS:=lH (xqt hz)
     have HKE:=lH (fun W=>xsT x t W (Nat.le_trans HTS.out (by omega)))
     have HGP:Hid (GoodC (xjQ x t acc)):=by
      have h1:=xti (id:=x) (s:=t) HGD.out
      unfold xy3 at h1
      rw[if_pos hz] at h1
      exact lH h1
     have HPE:Hid (xnk acc (loC x acc) (x,t)=xjQ x t acc):=lH (HPN.out rfl).symm
     have HIN:=lH (fun X (h:OfS w X (.slice a7 n7 p7) acc)=>xwS w X (.slice a7 n7 p7) acc (loC x acc) x t h hlo (by omega))
     rw[HPE.out] at HIN
     clear hR HPN HPE
     go_wp2_with fail
     refine(HPL.out _ HBZ.out).mono ?_
     rintro e w1 ⟨rfl,hb⟩
     have H1:=lH ((HO.out.below HBZ.out).below hb)
     have I1:=lH (HIT.out.below hb)
     have hb1:=lH (HBZ.out.trans (hb.mono HBZ.out.size))
     have c1:=H1.out.cb.cell
     obtain⟨i0,i1,_,_⟩:=I1.out
     clear hb cc rr rf d0 d1 cA
     go_wp2_with fail
     refine(HCK.out _ hb1.out).mono ?_
     rintro e w2 ⟨rfl,hb⟩
     have H2:=lH (H1.out.below hb)
     have I2:=lH (I1.out.below hb)
     clear hb c1 i0 i1
     have c2:=H2.out.cb.cell
     obtain⟨i0,i1,_,_⟩:=I2.out
     go_wp2_with fail
     go_region_law (first|(go_simp;go_at_call 87;refine(HKE.out _).mono ?_;rintro e w3 ⟨rfl,hb⟩;have hb3:Below w2.heap.size w2 w3:=(by go_grown:Below w2.heap.size w2 _).trans (hb.mono (by simp));have O3:=H2.out.below hb3;have k3:=O3.cb.cell;have k4:∀ O,(w3.alloc O).cell? ⟨w.heap.size+1,0,none⟩=_:=fun O=>(O3.cb.alloc O).cell)|(go_simp;go_at_call 86;refine(HIN.out _ O3).mono ?_;rintro e w5 ⟨a9,n9,p9,rfl,ho9,hr9,hc9,hb9⟩;have k5:=hc9.cell;have k6:=hc9.frz))
     all_goals
      have H5:=lH (OfS.mk (w:=w) (hr9.set_other (by omega) (.slice a9 n9 p9)) (hc9.set (.slice a9 n9 p9)) (ho9.set hc9 (.slice a9 n9 p9)) (hb9.setCell (p:=⟨w.heap.size+1,0,none⟩) (Nat.le_succ _) (.slice a9 n9 p9)))
      go_wp2_with fail
      go_roundw
      case rel=>exact⟨k+1,_,_,by omega,by go_num,H5.out,HGP.out,HR.out,fun id=>by rw[HTK.out];exact xpp id x t acc _ HSE.out⟩
      case measure=>simp[intOf];omega
    ·rw[if_pos h0] at hR
     have hzn:(((z:Nat):Int) != 0)=true:=by simpa using h0
     have HR:=lH hR
     clear hR
     go_wp2_with fail
     refine(HPL.out _ HBZ.out).mono ?_
     rintro e w1 ⟨rfl,hb⟩
     have H1:=lH ((HO.out.below HBZ.out).below hb)
     have I1:=lH (HIT.out.below hb)
     have hb1:=lH (HBZ.out.trans (hb.mono HBZ.out.size))
     have c1:=H1.out.cb.cell
     obtain⟨i0,i1,_,_⟩:=I1.out
     clear hb cc rr rf d0 d1 cA
     go_wp2_with fail
     refine(HCK.out _ hb1.out).mono ?_
     rintro e w2 ⟨rfl,hb⟩
     have H2:=lH (H1.out.below hb)
     have r0:=H2.out.res.cell
     have r1:=H2.out.res.frz
     clear hb c1 i0 i1
     go_wp2_with fail
     refine bodyPost_ret (xbv rfl _ _ w.heap.size _ _ _ rfl rfl (H2.out.res.set _).cell Tryz.underlying36 rfl xbw) rfl ⟨_,by rw[HR.out];rfl,?_,H2.out.bel.setCell (p:=⟨w.heap.size,0,none⟩) (Nat.le_refl _) _⟩
     rw[HR.out]
     exact xhF _
  ·obtain rfl:k=l.length:=by omega
   rw[List.drop_length,ofR] at hR
   have HR:=lH hR
   obtain⟨a7,n7,p7,rfl⟩:∃ a n c,s=.slice a n c:=by obtain⟨_,_,e⟩:=hO.own.slice;exact⟨_,_,_,e⟩
   clear hR hO hgood hseen hle
   go_wp2_with fail
   refine bodyPost_ret (xbv rfl _ _ w.heap.size _ _ _ rfl rfl (HO.out.res.set _).cell Tryz.underlying36 rfl xbw) rfl ⟨_,by rw[HR.out];rfl,?_,HO.out.bel.setCell (p:=⟨w.heap.size,0,none⟩) (Nat.le_refl _) _⟩
   rw[HR.out]
   exact⟨HO.out.own.itsAt.set HO.out.res _,HGD.out⟩
end Go.Proofs.YtjinnigjfopbcaaGreatDoor
