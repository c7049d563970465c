/- bMJ bMS bUb bMT bUc bNc bNf. -/
import Derived.Test.YtjinnigjfopbcaaGreatDoorVa7
import Derived.Test.YtjinnigjfopbcaaGreatDoorVb5
import Derived.Test.YtjinnigjfopbcaaGreatDoorVs
set_option maxHeartbeats 16000000
namespace Go.Proofs.YtjinnigjfopbcaaGreatDoor
set_option linter.unusedVariables false
set_option linter.unusedSimpArgs false
open Go.RowKit Go.Shelf
set_option maxRecDepth 20000
theorem xvS:(Tryz.prog.info? 26).map (fun i=>(i.zero,i.size,i.bytes))=some (some (.int .u64 0),1,8):=by kernel_rfl
def xir (w:World) (B:Nat) (v:Value) (l:List Int):Prop:=w.ownsRow B 26 1 v l.length (l.map (Value.int .u64))
theorem xir.snoc {w':World} {B:Nat} {v':Value} {l:List Int} {c:Int} (hs:w'.ownsRow B 26 1 v' (l.length+1) (l.map (Value.int .u64)++[.int .u64 c])):xir w' B v' (l++[c]):=by
 unfold xir
 rw[List.length_append,List.map_append]
 exact hs
theorem xir.below {w w':World} {B:Nat} {v:Value} {l:List Int} (h:xir w B v l) (hb:Below w.heap.size w w'):xir w' B v l:=by
 have hlt:=World.ownsRow.lt h
 obtain⟨h1,h2⟩:=h
 refine⟨h1,?_⟩
 rcases h2 with h2|⟨g,cap,cur,hv,hg,hh,r⟩
 ·exact .inl h2
 ·refine .inr ⟨g,cap,cur,hv,hg,?_,r⟩
  rw[hb.block g (hlt g (by rw[hv];rfl)).2];exact hh
theorem xir.mono {w:World} {B B':Nat} {v:Value} {l:List Int} (h:xir w B v l) (hb:B'≤B):xir w B' v l:=by
 obtain⟨h1,h2⟩:=h
 refine⟨h1,?_⟩
 rcases h2 with h2|⟨g,cap,cur,hv,hg,r⟩
 ·exact .inl h2
 ·exact .inr ⟨g,cap,cur,hv,Nat.le_trans hb hg,r⟩
theorem xir.wordsAt {w:World} {B:Nat} {v:Value} {l:List Int} (h:xir w B v l):xgx w v l:=by
 have hlt:=World.ownsRow.lt h
 have h':=h
 obtain⟨hx,hv⟩:=h'
 rcases hv with ⟨rfl,hn⟩|⟨g,cap,cur,rfl,hB,hh,hle,hm,hcs,htk⟩
 ·obtain rfl:l=[]:=List.eq_nil_of_length_eq_zero hn
  exact⟨none,0,rfl,fun k hk=>by simp at hk⟩
 ·refine⟨_,cap,rfl,fun k hk=>⟨g,0,rfl,(hlt g rfl).2,?_⟩⟩
  have:=World.ownsRow.cellAt h k (by omega)
  rw[Nat.zero_add]
  simpa[hk] using this
theorem xlx (v:Value) (l:List Int) (w:World) (hw:xgx w v l) (hl:l.length≤100000) (hx:xzB l):Calls Tryz.prog 138 #[v] w (xlW w (encs l)):=by
 obtain⟨a,cap,rfl,hc⟩:=hw
 have HC:=lH hc;clear hc
 have HX:=lH hx;clear hx
 go_enter Tryz.func138,Tryz.ntmps138
 go_wp2_with fail
 go_loop [3,11] (fun s i=>∃ k:Nat,k≤l.length∧i=.int .i64 k∧∃ n:Nat,s=.int .i64 n∧Hid (n=(encs (l.take k)).length)∧n≤10*k) (fun _ i=>l.length - (intOf i).toNat)
 case atStart=>exact⟨0,Nat.zero_le _,rfl,0,rfl,by simp[encs,Hid],by omega⟩
 case round =>
  obtain⟨k,hk,rfl,n,rfl,HN,hn⟩:=hrel
  by_cases hlt:k<l.length
  ·obtain⟨b,off,rfl,hb,hcell⟩:=HC.out k hlt
   have bx:=HX.out k hlt
   have ht:=xiM l k hlt
   generalize l.getD k 0=x at *
   obtain⟨x0,x1⟩:=bx
   have HT:=lH ht;clear ht
   have hel:=xe4 x
   obtain⟨m,hm⟩:∃ m,(enc x).length=m:=⟨_,rfl⟩
   rw[hm] at hel
   have HM:=lH hm;clear hm
   go_wp2_with (go_at_call 210;refine(xig x _ x0 x1).mono ?_;rw[HM.out];rintro e w' ⟨rfl,rfl⟩)
   refine⟨⟨k+1,by omega,by go_num,n+m,by go_num,?_,by omega⟩,?_⟩
   ·apply lH;rw[HT.out,List.length_append,HM.out,← HN.out]
   ·simp[intOf];omega
  ·obtain rfl:k=l.length:=by omega
   have hmk:=fun W=>xkJ n W (by omega)
   have hO:=xtl w n (by omega)
   have HO:=lH hO;clear hO
   clear HN hlt hk
   go_wp2_with fail
   go_loopw [6,24] (fun v i wr=>∃ k:Nat,k≤l.length∧i=.int .i64 k∧Own wr w.heap.size v (encs (l.take k))∧Below w.heap.size w wr) (fun _ i _=>l.length - (intOf i).toNat)
   case atStart=>exact⟨0,Nat.zero_le _,rfl,by simpa[encs] using HO.out,(Below.refl _ _).alloc (Nat.le_refl _) _⟩
   case round =>
    clear HO
    obtain⟨k,hk,rfl,hown,hbw⟩:=hrel
    have hel:=xma (l.take k)
    rw[List.length_take] at hel
    have HO:=lH hown;clear hown
    have hsz:=hbw.size
    by_cases hlt:k<l.length
    ·obtain⟨b,off,rfl,hb,hcell⟩:=HC.out k hlt
     have hcell:=(hbw.cell (p:=⟨b,off+k,none⟩) hb).trans hcell
     have bx:=HX.out k hlt
     have ht:=xiM l k hlt
     generalize l.getD k 0=x at *
     obtain⟨x0,x1⟩:=bx
     have HT:=lH ht;clear ht
     have hq:(encs (l.take k)).length≤1000000:=by omega
     clear hel
     go_wp2_with fail
     refine(xoK w.heap.size _ _ x _ HO.out hsz hq x0 x1).mono ?_
     rintro e w2 ⟨v2,rfl,ho2,hb2⟩
     rw[← HT.out] at ho2
     have hb:=hbw.trans hb2
     clear hb2 hbw HO
     go_wp2_with fail
     go_roundw
     case rel=>exact⟨k+1,by omega,by go_num,ho2,hb⟩
     case measure=>simp[intOf];omega
    ·obtain rfl:k=l.length:=by omega
     clear hel
     go_wp2_with fail
     go_ret
     refine⟨_,rfl,?_,hbw⟩
     have:=HO.out
     rwa[List.take_length] at this
def xyI (w:World) (v v':Value):Prop:=v'.ownBlock=v.ownBlock∨∃ g,v'.ownBlock=some g∧w.heap.size≤g
theorem xkj (W:World) (B:Nat) (v:Value) (L:List Int) (x:Int) (hown:xir W B v L) (hl:L.length≤100000) (ad:Addr) (c:Nat) (h0:W.cell? ad=some (.int .u64 x)) (hb:B≤W.heap.size) (ty:TypeId) :
  ∃ v' w',(Builtin.append_ #[241,241] ty #[v,.slice (some ad) 1 c]).run Tryz.prog W=.ok v' w'∧xir w' B v' (L++[x])∧W.grownBy w' v.ownBlock∧xyI W v v':=by
 obtain⟨i0,hi,hz0,hz1,hz2⟩:=xaq xvS
 have hnews:∀ j u,([.int .u64 x]:List Value)[j]?=some u→W.cell? (ad.add j)=some u:=by
  intro j u hu
  match j,hu with
  | 0,hu=>simp only[List.getElem?_cons_zero,Option.some.injEq] at hu;rw[← hu,← h0];congr 1
  | j+1,hu=>simp at hu
 have hone:∀ u ∈ ([.int .u64 x]:List Value),u.oneCell'=true:=by
  intro u hu
  simp only[List.mem_cons,List.not_mem_nil,or_false] at hu
  subst hu
  rfl
 obtain⟨v',w',hr,h2,h3,h4⟩:=run_append_own (P:=Tryz.prog) W B 241 ty 26 i0 _ 1 8 Tryz.underlying241 hi hz0 hz1 hz2 rfl (by omega) v L.length (L.map (Value.int .u64)) hown ad 1 c _ rfl hnews hone (by unfold maxLen;omega) (by omega) hb
 refine⟨v',w',hr,xir.snoc h2,h3,?_⟩
 rcases hown.2 with ⟨rfl,hn⟩|⟨g,cap,cur,rfl,hbg,hg,hnc,hcm,hcs,htake⟩
 ·obtain⟨_,_,hr2,h22,_,_⟩:=run_append_own (P:=Tryz.prog) W W.heap.size 241 ty 26 i0 _ 1 8 Tryz.underlying241 hi hz0 hz1 hz2 rfl (by omega) (.slice none 0 0) L.length (L.map (Value.int .u64)) ⟨hown.1,.inl ⟨rfl,hn⟩⟩ ad 1 c _ rfl hnews hone (by unfold maxLen;omega) (by omega) (Nat.le_refl _)
  rw[hr] at hr2
  injection hr2 with e1 e2
  subst e1 e2
  rcases h22.2 with ⟨rfl,_⟩|⟨g,cap,cur,rfl,hg,_⟩
  ·exact .inl rfl
  ·exact .inr ⟨g,rfl,hg⟩
 ·by_cases hroom:L.length+1≤cap
  ·have hr2:=run_append_room (P:=Tryz.prog) W 241 ty 26 i0 Tryz.underlying241 hi g L.length cap cur hg ad 1 c [.int .u64 x] (by rw[hz1];rfl) hnews hone hroom (by rw[hz1];simp only[List.length_cons,List.length_nil];omega)
   rw[hr] at hr2
   injection hr2 with e1 e2
   rw[e1]
   exact .inl rfl
  ·have hr2:=run_append_grow (P:=Tryz.prog) W 241 ty 26 i0 _ Tryz.underlying241 hi hz0 ⟨g,0,none⟩ L.length cap (L.map (Value.int .u64)) (by rw[hz1];exact hown.1) (World.ownsRow.cells hown rfl) ad 1 c [.int .u64 x] (by rw[hz1];rfl) hnews (by omega) (by omega) (growslice_fits (by omega) (by rw[hz2];omega))
   rw[hr] at hr2
   injection hr2 with e1 e2
   rw[e1]
   exact .inr ⟨_,rfl,Nat.le_refl _⟩
def upW (val:Nat→Int) (k:Nat):List Int:=(List.range k).map val
theorem xls (val:Nat→Int) (k:Nat):upW val (k+1)=upW val k++[val k]:=by simp[upW,List.range_succ]
theorem xeM (val:Nat→Int) (k:Nat):(upW val k).length=k:=by simp[upW]
theorem KeepsS.grown {S:Nat→Prop} {W W':World} {row:Option Nat} (h:W.grownBy W' row) (hr:∀ r,row=some r→S r):KeepsS S S W W' :=
 ⟨h.size,fun b o hb ho=>(h.block b (xay ho) (fun e=>hb (hr b e.symm))).trans ho,fun _ h=>.inl h⟩
theorem xiS {β:Type} {J:β→World→Prop} (h:Go.Own J) (B:Nat):xbV (fun _=>False) B J:=fun s X Y row hs hg hr =>
 h s X Y row hs hg (fun r e=>by rcases hr r e with h|h;exact h.elim;obtain⟨_,o,h1,h2⟩:=h;exact⟨o,h1,by cases o<;>first|rfl|cases h2⟩)
def xyZ (val:Nat→Int) (n0:Nat) (w:World) (k:Nat) (S:Nat→Prop) (W:World):Prop :=
 (∃ v,Boxed W n0 241 v∧W.ownsRow (n0+1) 26 1 v (upW val k).length ((upW val k).map (Value.int .u64))∧∀ b,S b↔(b=n0∨v.ownBlock=some b))∧Below n0 w W
theorem xpB (val:Nat→Int) (w:World) (B:Nat) (hB:w.heap.size≤B):xdD (fun _=>False) B (xyZ val w.heap.size w) :=
 xbV.and (xiS (holdsRow_own (β:=Nat × (Nat→Prop)) (w.heap.size+1) w.heap.size 241 26 1 (fun s=>(upW val s.1).length) (fun s=>(upW val s.1).map (Value.int .u64)) (fun s v=>∀ b,s.2 b↔(b=w.heap.size∨v.ownBlock=some b))) B) (xbE (Nat.le_refl _) hB (fun _ h=>h.elim))
theorem xxO {val:Nat→Int} {n0 k:Nat} {w:World} {S:Nat→Prop} {W:World} (h:xyZ val n0 w k S W):∀ b,S b→b<W.heap.size:=by
 obtain⟨⟨v,hv,ho,hS⟩,hb⟩:=h
 intro b hs
 rcases(hS b).1 hs with rfl|h
 ·exact hv.lt
 ·exact(World.ownsRow.lt ho b h).2
theorem xwJ {F:Fence} {n:Nat} {P:Program} (w:World) {ops:Array Oper} {rest:List Oper} {o:Oper} {a:Act} {Q:Exit→Act→World→Prop} (hg:o.guard=none) (s x:Operand) (t:TypeId)
  (hop:o.op=Op.call { callee:=Callee.builtin Builtin.append,args:=#[s,x],argTypes:=#[t,t] }) (v:Value) (ad:Addr) (m c:Nat) (hs:a.eval s=v) (hx:a.eval x=.slice (some ad) m c) (v':Value) (w':World)
  (hrun:(Builtin.append_ #[t,t] o.type #[v,.slice (some ad) m c]).run P w=.ok v' w') (hK:wpListIn F n P ops Q rest (a.put o.dst v') w'):wpListIn F n P ops Q (o :: rest) a w:=by
 refine wpListIn_plain hg fun K hK'=>⟨?_,?_⟩
 ·simp[Oper.about,hop,resolve,Target.leads,Sem.run_pure]
 ·rw[Oper.semAt_plain F _ _ (by rw[hop];intro c hc';cases hc')]
  simp[execOp,hop,resolve,invoke,builtin,hs,hx,hrun,Result.andThen]
  exact hK' _ _ hK
attribute [local go_sem] Oper.semAt_some
set_option maxRecDepth 100000 in
theorem xkf {gf:Nat} {lb:Array Value} (val:Nat→Int) (N:Nat) (V:Nat→Prop) (w:World) (hN:N≤90000) (eg:∀ args w,(callFunc gf args).run Tryz.prog w=.ok (.enter gf args) w)
  (hseq:xuC Tryz.prog gf lb (fun k=>#[.int .u64 (val k)]) N (fun _=>False) V (fun _ _=>True) (fun _=>True) w) (hV:∀ b,V b→b<w.heap.size) :
  Calls Tryz.prog 213 #[.slice none 0 0,.func (.func gf) #[] lb] w fun x w'=>∃ v,x=.returned v∧xir w' w.heap.size v (upW val N)∧Below w.heap.size w w':=by
 have HS:=lH hseq
 have HVV:=lH hV
 clear hseq hV
 refine(callsIn_wide (n:=3)).1 ?_
 refine callsIn_of_wp_marks Tryz.func213 rfl trivial ?_ rfl
 simp only[Tryz.ntmps213,List.size_toArray,List.length_cons,List.length_nil,Nat.reduceAdd,Nat.reduceSub,Array.replicate_succ,Array.replicate_zero,List.push_toArray,List.append_toArray,List.nil_append,List.cons_append]
 gi_wp2
 refine xhB (n:=3) (val:=fun k=>.int .u64 (val k)) (p:=7) (r:=5) rfl eg HS.out ((Below.refl _ w).alloc (Nat.le_refl _) _) (fun _ h=>h.elim) ?hV
  (xyZ val w.heap.size w) (fun _ _ _=>False) ?hI (fun _ _ _ _ _ h _ _=>h) (fun k S W h=>⟨trivial,xxO h⟩) (fun b=>b=w.heap.size) ?hS0 ?h0 (fun _ _ _ _ _ _ _ _=>trivial) ?assign ?body ?done (fun _ _ _ _ _ _ h _=>h.elim)
 case hV=>intro r hr;have:=HVV.out r hr;simp;omega
 case hI=>exact xpB val w _ (by simp)
 case hS0=>rintro b rfl;exact⟨by simp,fun h=>by have:=HVV.out _ h;omega⟩
 case h0 =>
  refine⟨⟨.slice none 0 0,Boxed.new w _ _,World.ownsRow_nil _ _ _ _,fun b=>?_⟩,(Below.refl _ w).alloc (Nat.le_refl _) _⟩
  simp[Value.ownBlock]
 case assign =>
  intro lq k W' K hK
  simp only[List.setIfInBounds_toArray,List.set_cons_zero,List.set_cons_succ] at hK ⊢
  gi_wp2
  exact hK
 case body =>
  rintro lq k S W hlq hI hk
  have HI:=lH hI
  obtain⟨⟨v,hv,ho,hSS⟩,hB⟩:=hI
  have hvc:=hv.cell
  obtain⟨v',w1,hr,h1,h2,h3⟩:=xkj (W.alloc (.cells #[.int .u64 (val k)] 26)) (w.heap.size+1) v (upW val k) (val k) (World.ownsRow.alloc ho _) (by rw[xeM];omega) ⟨W.heap.size,0,none⟩ 1 (by rw[World.cell?_alloc_mark];rfl) (by have:=hB.size;have:=hv.lt;simp;omega) 241
  have hv1:Boxed w1 w.heap.size 241 v:=(hv.alloc _).kept h2 (hv.not_row (by decide) ho)
  have hf1:=hv1.frozen
  have hv1c:=hv1.cell
  have HH:=lH (And.intro h1 (And.intro h2 (And.intro h3 (And.intro hv (And.intro ho (And.intro hSS (And.intro hB hv1)))))))
  have hsz:∃ g cap,v'=.slice (some ⟨g,0,none⟩) ((upW val k).length+1) cap:=by
   have h1':=h1
   unfold xir at h1'
   rw[List.length_append] at h1'
   exact ownsRow_succ h1'
  obtain⟨g,cap,rfl⟩:=hsz
  clear h1 h2 h3 hv ho hSS hB hv1
  simp only[List.setIfInBounds_toArray,List.set_cons_zero,List.set_cons_succ]
  gi_wp2_with (first|(gi_at_builtin;refine xwJ _ rfl _ _ _ rfl _ _ _ _ rfl rfl _ _ hr ?_)|fail)
  obtain⟨h1,h2,h3,hv,ho,hSS,hB,hv1⟩:=HH.out
  have hsz:=h2.size
  have hlv:=hv.lt
  simp only[World.size_alloc] at hsz
  have ho1:=World.ownsRow.lt h1
  refine⟨fun b=>b=w.heap.size∨(Value.slice (some ⟨g,0,none⟩) ((upW val k).length+1) cap).ownBlock=some b,⟨⟨_,hv1.set _,?_,fun b=>Iff.rfl⟩,?_⟩,?_⟩
  ·rw[xls]
   exact World.ownsRow.kept h1 (grownBy_setCell' w1 w.heap.size _) (.inr (hv1.not_row (by decide) h1).symm)
  ·have hb1:Below w.heap.size w (W.alloc (.cells #[.int .u64 (val k)] 26)):=hB.alloc (by have:=hB.size;omega) _
   exact(hb1.grown h2 hb1.size (fun r e=>by have:=(World.ownsRow.lt ho r e).1;omega)).setCell (p:=⟨w.heap.size,0,none⟩) (Nat.le_refl _) _
  ·have hk2:=((KeepsS.alloc S W (.cells #[.int .u64 (val k)] 26)).trans (KeepsS.grown h2 (fun r e=>(hSS r).2 (.inr e)))).trans (KeepsS.setCell S w1 ⟨w.heap.size,0,none⟩ (.slice (some ⟨g,0,none⟩) ((upW val k).length+1) cap) ((hSS _).2 (.inl rfl)))
   refine⟨hk2.size,hk2.same,fun b hb=>?_⟩
   rcases hb with rfl|hb
   ·exact .inl ((hSS _).2 (.inl rfl))
   ·rcases h3 with h3|⟨g',h3,h3'⟩
    ·exact .inl ((hSS _).2 (.inr (h3.symm.trans hb)))
    ·rw[h3] at hb
     cases hb
     simp only[World.size_alloc] at h3'
     exact .inr (by omega)
 case done =>
  rintro D S W hD hSD hI _ hDW
  have HI:=lH hI
  obtain⟨⟨v,hv,ho,hSS⟩,hB⟩:=hI
  have hvc:=hv.cell
  have HH:=lH (And.intro hD (And.intro hDW (And.intro ho hB)))
  clear hv ho hSS hB
  gi_wp2
  obtain⟨h1,h2,h3,h4⟩:=HH.out
  refine⟨by simp,.inl ⟨_,_,rfl,run_takeDeferred h2,?_⟩⟩
  refine⟨_,results_tmp rfl _ _ _,v,rfl,?_,?_⟩
  ·exact xir.mono (ownsRow_putObj h3 _ h2 rfl) (by omega)
  ·simp only[World.size_alloc] at h1
   exact(xbE (β:=Unit) (T:=fun _=>False) (Nat.le_refl _) (B:=w.heap.size) (Nat.le_refl _) (fun _ h=>h.elim)).put (s:=()) h4 _ (by omega) h2 rfl
theorem xkM (a b:List Int):encs (a++b)=encs a++encs b:=by
 induction a with
 | nil=>rfl
 | cons x a ih=>simp[encs,ih]
theorem xpr (l:List En) (c m:Nat):encs ((List.range m).map (fun j=>xeX l c j))=xgP l c m:=by
 induction m with
 | zero=>rfl
 | succ m ih=>rw[List.range_succ,List.map_append,List.map_singleton,xge,ih,xgP]
theorem xvh (val:Nat→Int) (a b:Nat):upW val (a+b)=upW val a++(List.range b).map (fun j=>val (a+j)):=by
 unfold upW
 rw[List.range_add,List.map_append,List.map_map]
 rfl
theorem xfx (l:List En) (c:Nat):encs (upW (xe6 l) (1+(c+1)*l.length))=encs (upW (xe6 l) (1+c*l.length))++xgP l c l.length:=by
 rw[show 1+(c+1)*l.length=(1+c*l.length)+l.length from by rw[Nat.succ_mul];omega,xvh,xkM,← xpr]
 congr 2
 apply List.map_congr_left
 intro j hj
 exact xlP l c j (List.mem_range.1 hj)
theorem xh5 (l:List En):encs (upW (xe6 l) (1+4*l.length))=xcN l:=by
 rw[show 4=3+1 from rfl,xfx,show 3=2+1 from rfl,xfx,show 2=1+1 from rfl,xfx,show (1:Nat)+1*l.length=1+(0+1)*l.length from rfl,xfx]
 rw[Nat.zero_mul]
 have h1:encs (upW (xe6 l) (1+0))=enc l.length:=by
  show encs [xe6 l 0]=_
  rw[xjL]
  simp[encs]
 rw[h1]
 simp only[xcN,List.append_assoc]
theorem xil (l:List En) (hm:xas l) (hl:l.length≤5000):xzB (upW (xe6 l) (1+4*l.length)):=by
 intro k hk
 rw[xeM] at hk
 have e:(upW (xe6 l) (1+4*l.length)).getD k 0=xe6 l k:=by
  unfold upW
  rw[List.getD_eq_getElem?_getD,List.getElem?_map,List.getElem?_range hk]
  rfl
 rw[e]
 unfold xe6
 by_cases h0:k=0
 ·rw[if_pos h0];omega
 ·rw[if_neg h0]
  exact xxo (by omega) (fun j hj=>hm _ (xht l j hj))
theorem xiV {gf:Nat} {lb:Array Value} (val:Nat→Int) (N:Nat) (V:Nat→Prop) (w:World) (hN:N≤90000) (eg:∀ args w,(callFunc gf args).run Tryz.prog w=.ok (.enter gf args) w)
  (hseq:xuC Tryz.prog gf lb (fun k=>#[.int .u64 (val k)]) N (fun _=>False) V (fun _ _=>True) (fun _=>True) w) (hV:∀ b,V b→b<w.heap.size) :
  Calls Tryz.prog 139 #[.func (.func gf) #[] lb] w fun x w'=>∃ v,x=.returned v∧xir w' w.heap.size v (upW val N)∧Below w.heap.size w w':=by
 have HA:=lH (xkf val N V w hN eg hseq hV)
 clear hseq hV
 go_enter Tryz.func139,Tryz.ntmps139
 go_wp2_with fail
 refine HA.out.mono ?_
 rintro x w1 ⟨v,rfl,h⟩
 go_wp2_with fail
 go_ret
 exact⟨v,rfl,h⟩
set_option maxRecDepth 20000 in
theorem xrc (v:Value) (l:List En) (w:World) (hv:xaj w v l) (hm:xas l) (hl:l.length≤5000):Calls Tryz.prog 69 #[v] w fun x w'=>x=.returned (.tuple #[.string (xj7 l),.int .i64 (xs3 l)])∧Below w.heap.size w w':=by
 have HR:=lH (xcR v l w hv hm)
 have HV:=lH hv
 have HM:=lH hm
 obtain⟨al,cap,rfl,hcap,hmx,_⟩:=hv
 by_cases h0:xa5 l=0
 ·have HE:=lH (show xs3 l=(if 65536<(xcN l).length then 5 else 0) from by unfold xs3;rw[if_pos h0])
  have HT:=lH (show xj7 l=if xs3 l=0 then str (xcN l) else ByteArray.mk #[] from rfl)
  rw[h0] at HR
  have hlen:(xcN l).length≤200010:=by rw[xjH];have:=xjv l;omega
  by_cases h5:65536<(xcN l).length
  ·have hd:decide (65536<((xcN l).length:Int))=true:=by simp;omega
   have he:xs3 l=5:=by rw[HE.out,if_pos h5]
   have ht:xj7 l=ByteArray.mk #[]:=by rw[HT.out,if_neg (by rw[he];decide)]
   rw[he,ht]
   clear h5 he ht h0 hcap hmx hm
   go_enter Tryz.func69,Tryz.ntmps69
   go_wp2_with fail
   refine HR.out.mono ?_
   rintro x w1 ⟨rfl,hb⟩
   have HB:=lH hb
   clear hb
   go_wp2_with fail
   refine(xh1 al l.length cap w1).mono ?_
   rintro x w2 ⟨rfl,hw2⟩
   have hb2:Below w1.heap.size w1 w2:=by rw[hw2];exact(Below.refl _ _).alloc (Nat.le_refl _) _
   have hs2:w2.heap.size=w1.heap.size+1:=by rw[hw2];simp
   have hq2:w2.cell? ⟨w1.heap.size,0,none⟩=some (.slice al l.length cap):=by rw[hw2];simp
   have HV2:=HV.out.below (HB.out.trans (hb2.mono HB.out.size))
   have HB2:=lH (HB.out.trans (hb2.mono HB.out.size))
   have HC:=lH (xiV (xe6 l) (1+4*l.length) (VN l (.slice al l.length cap) w1.heap.size) w2 (by omega) (enters_of Tryz.func214 (by kernel_rfl) rfl) (xfK _ l w1.heap.size w2 HM.out HV2 hq2) (by
    rintro b (rfl|⟨hl,a,n,c,hv,rfl⟩)
    ·omega
    ·exact xfH HV2 hl hv))
   clear hw2 hb2 hs2 hq2 HV2 HB
   go_wp2_with fail
   refine HC.out.mono ?_
   rintro x w3 ⟨v3,rfl,ho,hb3⟩
   have HB3:=lH (HB2.out.trans (hb3.mono HB2.out.size))
   have HA:=lH (xlx v3 _ w3 ho.wordsAt (by rw[xeM];omega) (xil l HM.out hl))
   rw[xh5] at HA
   clear HC HB2 ho hb3
   go_wp2_with fail
   refine HA.out.mono ?_
   rintro x w4 ⟨v4,rfl,ho,hb4⟩
   have HB4:=lH (HB3.out.trans (hb4.mono HB3.out.size))
   have hba:=ho.bytesAt
   have hrs:=xhV w4 v4 (xcN l) hba
   obtain⟨a4,cap4,rfl,_⟩:=hba
   clear HA HB3 ho hb4
   clear hrs
   go_wp2_with fail
   go_ret2
   exact⟨rfl,HB4.out⟩
  ·have hd:decide (65536<((xcN l).length:Int))=false:=by simp;omega
   have he:xs3 l=0:=by rw[HE.out,if_neg h5]
   have ht:xj7 l=str (xcN l):=by rw[HT.out,if_pos he]
   rw[he,ht]
   clear h5 he ht h0 hcap hmx hm
   go_enter Tryz.func69,Tryz.ntmps69
   go_wp2_with fail
   refine HR.out.mono ?_
   rintro x w1 ⟨rfl,hb⟩
   have HB:=lH hb
   clear hb
   go_wp2_with fail
   refine(xh1 al l.length cap w1).mono ?_
   rintro x w2 ⟨rfl,hw2⟩
   have hb2:Below w1.heap.size w1 w2:=by rw[hw2];exact(Below.refl _ _).alloc (Nat.le_refl _) _
   have hs2:w2.heap.size=w1.heap.size+1:=by rw[hw2];simp
   have hq2:w2.cell? ⟨w1.heap.size,0,none⟩=some (.slice al l.length cap):=by rw[hw2];simp
   have HV2:=HV.out.below (HB.out.trans (hb2.mono HB.out.size))
   have HB2:=lH (HB.out.trans (hb2.mono HB.out.size))
   have HC:=lH (xiV (xe6 l) (1+4*l.length) (VN l (.slice al l.length cap) w1.heap.size) w2 (by omega) (enters_of Tryz.func214 (by kernel_rfl) rfl) (xfK _ l w1.heap.size w2 HM.out HV2 hq2) (by
    rintro b (rfl|⟨hl,a,n,c,hv,rfl⟩)
    ·omega
    ·exact xfH HV2 hl hv))
   clear hw2 hb2 hs2 hq2 HV2 HB
   go_wp2_with fail
   refine HC.out.mono ?_
   rintro x w3 ⟨v3,rfl,ho,hb3⟩
   have HB3:=lH (HB2.out.trans (hb3.mono HB2.out.size))
   have HA:=lH (xlx v3 _ w3 ho.wordsAt (by rw[xeM];omega) (xil l HM.out hl))
   rw[xh5] at HA
   clear HC HB2 ho hb3
   go_wp2_with fail
   refine HA.out.mono ?_
   rintro x w4 ⟨v4,rfl,ho,hb4⟩
   have HB4:=lH (HB3.out.trans (hb4.mono HB3.out.size))
   have hba:=ho.bytesAt
   have hrs:=xhV w4 v4 (xcN l) hba
   obtain⟨a4,cap4,rfl,_⟩:=hba
   clear HA HB3 ho hb4
   go_wp2_with fail
   go_ret2
   exact⟨rfl,HB4.out⟩
 ·have he:xs3 l=xa5 l:=by unfold xs3;rw[if_neg h0]
  have ht:xj7 l=ByteArray.mk #[]:=by unfold xj7;rw[if_neg (by rw[he];exact h0)]
  rw[he,ht]
  have hne:(xa5 l == 0)=false:=by simpa using h0
  generalize xa5 l=r at *
  clear h0 he ht hcap hmx hm
  go_enter Tryz.func69,Tryz.ntmps69
  go_wp2_with fail
  refine HR.out.mono ?_
  rintro x w1 ⟨rfl,hb⟩
  go_wp2_with fail
  go_ret2
  exact⟨rfl,hb⟩
theorem xp4 {P:Program} {ops:Array Oper} {Q:Exit→Act→World→Prop} {l n id:Nat} {a:Act} {w:World} (hm:P.follows .mixedOrders=true) (hops:xhR ops=true) (hQ:¬ LetsOut Q)
  (h:wpAny P .any ops Q ops.size (Array.replicate ops.size false) a w.drew):(Code.region id ops true).wpIn (Fence.wide.inRound l) n P Q a w :=
 wpIn_region_draw fun t=>by
  simp only[Region.schedule,hm,Bool.true_or,if_true]
  exact xd5 hQ hops _ _ _ (wpAny_sound ops.size t _ a _ h)
def xzC (val:Nat→Int) (n0:Nat) (w:World) (k:Nat) (S:Nat→Prop) (W:World):Prop :=
 (Boxed W n0 3 (.int .i64 ((encs (upW val k)).length:Int))∧∀ b,S b↔b=n0)∧Below w.heap.size w W
theorem xpv (val:Nat→Int) (n0:Nat) (w:World) (B:Nat) (hB:w.heap.size≤B):xdD (fun _=>False) B (xzC val n0 w) :=
 xbV.and (xiS (β:=Nat × (Nat→Prop)) (J:=fun s W=>Boxed W n0 3 (.int .i64 ((encs (upW val s.1)).length:Int))∧∀ b,s.2 b↔b=n0) (fun s X Y row hs hg hr=>⟨hs.1.kept hg (fun e'=>by
  obtain⟨o,ho,hc⟩:=hr n0 e'.symm
  rw[show X.heap[n0]?=_ from hs.1] at ho;cases ho;cases hc),hs.2⟩) B) (xbE (Nat.le_refl _) hB (fun _ h=>h.elim))
set_option maxRecDepth 100000 in
theorem xpo (v:Value) (l:List En) (w:World) (hv:xaj w v l) (hm:xas l) (hl:l.length≤5000):Calls Tryz.prog 135 #[v] w fun x w'=>x=.returned (.int .i64 (xs5 l))∧Below w.heap.size w w':=by
 have HR:=lH (xcR v l w hv hm)
 have HV:=lH hv
 have HM:=lH hm
 obtain⟨al,cap,rfl,hcap,hmx,_⟩:=hv
 by_cases h0:xa5 l=0
 ·have HE:=lH (show xs5 l=((xcN l).length:Int) from by unfold xs5;rw[if_pos h0])
  have hlen:(xcN l).length≤200010:=by rw[xjH];have:=xjv l;omega
  rw[h0] at HR
  clear h0 hcap hmx hm
  refine(callsIn_wide (n:=3)).1 ?_
  refine callsIn_of_wp_marks Tryz.func135 rfl trivial ?_ rfl
  simp only[Tryz.ntmps135,List.size_toArray,List.length_cons,List.length_nil,Nat.reduceAdd,Nat.reduceSub,Array.replicate_succ,Array.replicate_zero,List.push_toArray,List.append_toArray,List.nil_append,List.cons_append]
  gi_wp2
  refine⟨trivial,(callsIn_wide.2 HR.out).mono ?_⟩
  rintro x w1 ⟨rfl,hb⟩
  have HB:=lH hb
  clear hb
  gi_wp2
  refine⟨trivial,(callsIn_wide.2 (xh1 al l.length cap _)).mono ?_⟩
  rintro x w2 ⟨rfl,hw2⟩
  gi_wp2
  rw[← hw2]
  have hs2:w2.heap.size=w1.heap.size+2:=by rw[hw2];simp
  have hb2:Below w1.heap.size w1 w2:=by rw[hw2];exact((Below.refl _ _).alloc (Nat.le_refl _) _).alloc (by simp) _
  have hq2:w2.cell? ⟨w1.heap.size+1,0,none⟩=some (.slice al l.length cap):=by rw[hw2];simp
  have hx2:Boxed w2 w1.heap.size 3 (.int .i64 0):=by rw[hw2];exact(Boxed.new w1 _ _).alloc _
  have HV2:=HV.out.below (HB.out.trans (hb2.mono HB.out.size))
  have hBw:=HB.out.trans (hb2.mono HB.out.size)
  have hv1:∀ {a:Addr} {n c:Nat},l≠[]→Value.slice al l.length cap=.slice (some a) n c→a.block<w.heap.size:=fun hl hv=>xfH HV.out hl hv
  have hw1:=HB.out.size
  refine xhB (n:=3) (val:=fun k=>.int .u64 (xe6 l k)) (p:=10) (r:=4) rfl (enters_of Tryz.func214 (by kernel_rfl) rfl) (xfK _ l (w1.heap.size+1) w2 HM.out HV2 hq2) (Below.refl _ _) (fun _ h=>h.elim) ?hV
   (xzC (xe6 l) w1.heap.size w) (fun _ _ _=>False) ?hI (fun _ _ _ _ _ h _ _=>h) ?hG (fun b=>b=w1.heap.size) ?hS0 ?h0 (fun _ _ _ _ _ _ _ _=>trivial) ?assign ?body ?done (fun _ _ _ _ _ _ h _=>h.elim)
  case hV =>
   rintro b (rfl|⟨hl,a,n,c,hv,rfl⟩)
   ·omega
   ·exact xfH HV2 hl hv
  case hI=>exact xpv _ _ w _ hBw.size
  case hG=>exact fun k S W h=>⟨trivial,fun b hb=>by rw[(h.1.2 b).1 hb];exact h.1.1.lt⟩
  case hS0 =>
   rintro b rfl
   refine⟨by omega,?_⟩
   rintro(h|⟨hl,a,n,c,hv,h⟩)
   ·omega
   ·have:=hv1 hl hv;omega
  case h0=>exact⟨⟨hx2,fun b=>Iff.rfl⟩,hBw⟩
  case assign =>
   intro lq k W' K hK
   simp only[List.setIfInBounds_toArray,List.set_cons_zero,List.set_cons_succ] at hK ⊢
   gi_wp2
   exact hK
  case body =>
   rintro lq k S W hlq hI hk
   have hwd:=xil l HM.out hl k (by rw[xeM];exact hk)
   have hnx:(upW (xe6 l) (1+4*l.length)).getD k 0=xe6 l k:=by
    unfold upW
    rw[List.getD_eq_getElem?_getD,List.getElem?_map,List.getElem?_range hk]
    rfl
   rw[hnx] at hwd
   have hlk:=xma (upW (xe6 l) k)
   rw[xeM] at hlk
   have HI:=lH hI
   obtain⟨⟨hv,hSS⟩,hB⟩:=hI
   have hvc:=hv.cell
   have hvf:=hv.frozen
   have HSS:=lH hSS
   have hnext:Hid ((encs (upW (xe6 l) (k+1))).length=(encs (upW (xe6 l) k)).length+(enc (xe6 l k)).length):=lH (by rw[xls,xge,List.length_append])
   have hel:=(xe4 (xe6 l k)).2
   clear hnx hv hSS hB
   generalize xe6 l k=x at *
   obtain⟨m,hm⟩:∃ m,(encs (upW (xe6 l) k)).length=m:=⟨_,rfl⟩
   rw[hm] at hvc hlk
   simp only[List.setIfInBounds_toArray,List.set_cons_zero,List.set_cons_succ]
   have hdc:W.drew.cell? ⟨w1.heap.size,0,none⟩=some (.int .i64 (m:Int)):=hvc
   have hdf:W.drew.frozen? ⟨w1.heap.size,0,none⟩=false:=hvf
   have hwm:IntKind.i64.wrap ((m:Int)+((enc x).length:Int))=(m:Int)+((enc x).length:Int):=by rw[IntKind.wrap_i64] <;> omega
   have HH:=lH (And.intro hm hlk)
   clear hlk hel hvc hvf
   gi_wp2
   refine xp4 (by kernel_rfl) (by kernel_rfl) (by rintro⟨a,w,h⟩;exact h) ?_
   change wpAny _ _ _ _ _ _ _ W.drew
   refine wpAny_take (i:=1) (v:=?_) rfl (by kernel_rfl) (by kernel_rfl) (by kernel_rfl) (fun _ _ _ h=>h) (Or.inl ⟨by rfl,?y1⟩) ?_
   case y1=>intro w;go_simp;try with_reducible rfl
   try simp only[Act.put,zsA,zsB,zsC]
   refine wpAny_ready (rs:=[0,2]) (by kernel_rfl) (by simp) ?_
   refine AllReady.cons rfl (fun K hK=>?_) (AllReady.cons rfl (fun K hK=>?_) AllReady.nil)
   ·go_simp
    refine hK _ _ ?_
    clear hK K
    try simp only[Act.put,zsA,zsB,zsC]
    refine wpAny_ready (rs:=[2]) (by kernel_rfl) (by simp) ?_
    refine AllReady.cons rfl (fun K hK=>?_) AllReady.nil
    go_simp
    refine(xig x _ hwd.1 hwd.2).mono ?_
    rintro e w' ⟨rfl,rfl⟩
    go_wp2_with fail
    try simp only[Act.put,zsA,zsB,zsC]
    refine wpAny_take (i:=3) (v:=?_) rfl (by kernel_rfl) (by kernel_rfl) (by kernel_rfl) (fun _ _ _ h=>h) (Or.inl ⟨by rfl,?y3⟩) ?_
    case y3=>intro w;go_simp;try with_reducible rfl
    try simp only[Act.put,zsA,zsB,zsC]
    refine wpAny_ready (rs:=[4]) (by kernel_rfl) (by simp) ?_
    refine AllReady.cons rfl (fun K hK=>?_) AllReady.nil
    go_simp
    refine hK _ _ ?_
    clear hK K
    try simp only[Act.put,zsA,zsB,zsC]
    refine wpAny_done (by kernel_rfl) ?_ _
    refine⟨S,⟨⟨?_,HSS.out⟩,?_⟩,?_⟩
    ·have:=(HI.out.1.1.set (W:=W) (.int .i64 ((m:Int)+((enc x).length:Int))))
     rw[hnext.out,hm]
     push_cast
     exact this
    ·exact HI.out.2.drew.setCell (p:=⟨w1.heap.size,0,none⟩) hw1 _
    ·exact(KeepsS.below S (Below.drew (Below.refl _ _))).trans (KeepsS.setCell S W.drew ⟨w1.heap.size,0,none⟩ _ ((HSS.out _).2 rfl))
   ·go_simp
    refine(xig x _ hwd.1 hwd.2).mono ?_
    rintro e w' ⟨rfl,rfl⟩
    go_wp2_with fail
    try simp only[Act.put,zsA,zsB,zsC]
    refine wpAny_ready (rs:=[0]) (by kernel_rfl) (by simp) ?_
    refine AllReady.cons rfl (fun K hK=>?_) AllReady.nil
    go_simp
    refine hK _ _ ?_
    clear hK K
    try simp only[Act.put,zsA,zsB,zsC]
    refine wpAny_take (i:=3) (v:=?_) rfl (by kernel_rfl) (by kernel_rfl) (by kernel_rfl) (fun _ _ _ h=>h) (Or.inl ⟨by rfl,?y3⟩) ?_
    case y3=>intro w;go_simp;try with_reducible rfl
    try simp only[Act.put,zsA,zsB,zsC]
    refine wpAny_ready (rs:=[4]) (by kernel_rfl) (by simp) ?_
    refine AllReady.cons rfl (fun K hK=>?_) AllReady.nil
    go_simp
    refine hK _ _ ?_
    clear hK K
    try simp only[Act.put,zsA,zsB,zsC]
    refine wpAny_done (by kernel_rfl) ?_ _
    refine⟨S,⟨⟨?_,HSS.out⟩,?_⟩,?_⟩
    ·have:=(HI.out.1.1.set (W:=W) (.int .i64 ((m:Int)+((enc x).length:Int))))
     rw[hnext.out,hm]
     push_cast
     exact this
    ·exact HI.out.2.drew.setCell (p:=⟨w1.heap.size,0,none⟩) hw1 _
    ·exact(KeepsS.below S (Below.drew (Below.refl _ _))).trans (KeepsS.setCell S W.drew ⟨w1.heap.size,0,none⟩ _ ((HSS.out _).2 rfl))
  case done =>
   rintro D S W hD hSD hI _ hDW
   obtain⟨⟨hv,_⟩,hB⟩:=hI
   have hvc:=hv.cell
   have HH:=lH (And.intro hD (And.intro hDW hB))
   clear hv hB hDW
   rw[xh5] at hvc
   gi_wp2
   obtain⟨h1,h2,h3⟩:=HH.out
   refine⟨by simp,.inl ⟨_,_,rfl,run_takeDeferred h2,?_⟩⟩
   refine⟨_,results_tmp rfl _ _ _,by rw[HE.out];rfl,?_⟩
   exact(xbE (β:=Unit) (T:=fun _=>False) (Nat.le_refl _) (B:=w.heap.size) (Nat.le_refl _) (fun _ h=>h.elim)).put (s:=()) h3 _ (by omega) h2 rfl
 ·have he:xs5 l=0:=by unfold xs5;rw[if_neg h0]
  rw[he]
  have hne:(xa5 l == 0)=false:=by simpa using h0
  generalize xa5 l=r at *
  clear h0 he hcap hmx hm
  go_enter Tryz.func135,Tryz.ntmps135
  go_wp2_with fail
  refine HR.out.mono ?_
  rintro x w1 ⟨rfl,hb⟩
  go_wp2_with fail
  go_ret
  exact⟨rfl,hb⟩
end Go.Proofs.YtjinnigjfopbcaaGreatDoor
namespace Go.Proofs.YtjinnigjfopbcaaGreatDoor
set_option linter.unusedVariables false
set_option linter.unusedSimpArgs false
def gS (l:List En) (k:Nat):En:=l.getD k xcF
theorem xlR (l:List En) (k:Nat) (h:k<l.length):l[k]?=some (gS l k):=by
 rw[List.getElem?_eq_getElem h,gS,List.getD_eq_getElem?_getD,List.getElem?_eq_getElem h];rfl
def xat (l:List En):List En:=l.filter fun e=>decide (e.rn=0)
theorem xvB {l:List En} (h:xa5 l=0):xfk (-1) l=0∧l.length≤4096:=by
 unfold xa5 at h
 split at h
 ·omega
 ·exact⟨h,by omega⟩
open Go.RowKit
set_option maxRecDepth 20000
theorem xkV (l:List En) (i:Nat) (e:En) (h:l[i]?=some e):xat (l.take (i+1))=xat (l.take i)++(if e.rn=0 then [e] else []):=by
 rw[xbM l i e h]
 unfold xat
 rw[List.filter_append]
 by_cases hz:e.rn=0 <;> simp[hz]
theorem xvg:(Tryz.prog.info? 118).map (fun i=>(i.zero,i.size,i.bytes))=some (some (.agg #[.int .u64 0,.int .u64 0,.int .u32 0,.int .u32 0]),4,24):=by kernel_rfl
theorem xkS (v:Value) (l:List En) (w:World) (hv:xaj w v l) (hl:l.length*24≤140737488351232):Calls Tryz.prog 203 #[v] w (xmy (xat l) 118 w):=by
 obtain⟨a,cap,rfl,h1,h2,hc⟩:=hv
 have HC:=lH hc
 clear hc
 obtain⟨i0,hi,hz0,hz1,hz2⟩:=xaq xvg
 have HI0:=lH hi
 have HZ0:=lH hz0
 have HZ1:=lH hz1
 have HZ2:=lH hz2
 clear hi hz0 hz1 hz2
 go_enter Tryz.func203,Tryz.ntmps203
 go_wp2_with fail
 go_loopw [3,4] (fun v s wr=>∃ i:Nat,i≤l.length∧s=.int .i64 i∧xaQ wr w.heap.size 118 v (xat (l.take i))∧Below w.heap.size w wr) (fun _ s _=>l.length - (intOf s).toNat)
 case atStart=>exact⟨0,Nat.zero_le _,rfl,xaU _ _ _,Below.refl _ _⟩
 case round =>
  obtain⟨i,hi,rfl,hown,hbw⟩:=hrel
  by_cases hlt:i<l.length
  ·obtain⟨t,ht⟩:∃ t,l[i]?=some t:=⟨_,List.getElem?_eq_getElem hlt⟩
   obtain⟨g,off,rfl,hg,l0,l1,l2,l3⟩:=HC.out i t ht
   replace l0:=xad hbw l0
   replace l1:=xad hbw l1
   replace l2:=xad hbw l2
   replace l3:=xad hbw l3
   have hsz:=hbw.size
   have HTK:=lH (xkV l i t ht)
   have HOWN:Hid (wr.ownsRow w.heap.size 118 4 u3 (xat (l.take i)).length (xaw (xat (l.take i)))):=lH hown
   have hlen:(xat (l.take i)).length≤i:=by have:=List.length_filter_le (fun e=>decide (e.rn=0)) (l.take i);rw[List.length_take] at this;unfold xat;omega
   have HLEN:=lH hlen
   have hi2:(i:Int)<(l.length:Int):=by omega
   by_cases hz:t.rn=0
   ·rw[if_pos hz] at HTK
    have hd:(t.rn == 0)=true:=by simpa using hz
    clear ht hown hlen hz
    obtain⟨p,q,r,s⟩:=t
    dsimp only at l0 l1 l2 l3
    go_wp2_with (first|(at_builtin;refine wpList_append_own _ rfl _ _ 31 rfl w.heap.size 118 i0 (.agg #[.int .u64 0,.int .u64 0,.int .u32 0,.int .u32 0]) 4 24 Tryz.underlying31 HI0.out HZ0.out HZ1.out HZ2.out rfl (by decide) _ _ _ rfl (World.ownsRow.alloc HOWN.out _) ⟨wr.heap.size,0,none⟩ 1 1 [.int .u64 p,.int .u64 q,.int .u32 r,.int .u32 s] rfl rfl ?c2 ?c3 ?c4 ?c5 ?c6 ?_)|fail)
    case c3=>exact⟨rfl,rfl,rfl,rfl⟩
    case c4=>have:=HLEN.out;unfold maxLen;omega
    case c5=>have:=HLEN.out;omega
    case c6=>first|omega|(simp;omega)
    intro v' w5 hown' hgr _
    have hb5:Below w.heap.size w w5:=(hbw.alloc hsz _).grown hgr (by simp;omega) (fun g hg=>(World.ownsRow.lt HOWN.out g hg).1)
    have hO':xaQ w5 w.heap.size 118 v' (xat (l.take (i+1))):=xaJ hown' (by rw[HTK.out,List.length_append];rfl) (by rw[HTK.out,xbu];rfl)
    have HO':=lH hO'
    clear hown' hgr HOWN hO' l0 l1 l2 l3 hbw
    go_wp2_with fail
    go_roundw
    case rel=>exact⟨i+1,by omega,by go_num,HO'.out,hb5⟩
    case measure=>simp[intOf];omega
   ·rw[if_neg hz,List.append_nil] at HTK
    have hd:(t.rn == 0)=false:=by simpa using hz
    clear ht hown hlen hz
    go_wp2_with fail
    go_roundw
    case rel=>exact⟨i+1,by omega,by go_num,by rw[HTK.out];exact HOWN.out,hbw⟩
    case measure=>simp[intOf];omega
  ·obtain rfl:i=l.length:=by omega
   rw[List.take_length] at hown
   go_wp2_with fail
   go_ret
   exact⟨_,rfl,hown,hbw⟩
end Go.Proofs.YtjinnigjfopbcaaGreatDoor
namespace Go.Proofs.YtjinnigjfopbcaaGreatDoor
set_option linter.unusedVariables false
set_option linter.unusedSimpArgs false
set_option maxRecDepth 20000
def noB:ByteArray:=ByteArray.mk #[]
structure Sp where
 root:List En
 text:ByteArray
 size:Int
 err:Int
def xbk (e:En) (d:ByteArray):List En × Int :=
 if (d.size:Int)<e.off+e.ln then ([],8) else
 if (xbF (d.extract e.off.toNat (e.off+e.ln).toNat).data.toList).2.2≠0 then ([],(xbF (d.extract e.off.toNat (e.off+e.ln).toNat).data.toList).2.2) else
 if xat (xbF (d.extract e.off.toNat (e.off+e.ln).toNat).data.toList).1≠[] then ([],20) else
 if (xbF (d.extract e.off.toNat (e.off+e.ln).toNat).data.toList).1=[]∨(gS (xbF (d.extract e.off.toNat (e.off+e.ln).toNat).data.toList).1 0).id≠e.id then ([],10) else ((xbF (d.extract e.off.toNat (e.off+e.ln).toNat).data.toList).1,0)
def goJ:List En→ByteArray→List En→List En × Int
 | [],_,out=>(out,0)
 | e :: l,d,out=>if 0<e.rn then goJ l d (out++[e]) else if (xbk e d).2≠0 then ([],(xbk e d).2) else goJ l d (out++(xbk e d).1)
def xcB (root:List En) (d:ByteArray):List En × Int :=
 if xa5 root≠0 then ([],xa5 root) else if (goJ root d []).2≠0 then ([],(goJ root d []).2) else
 if xa5 (goJ root d []).1≠0 then ([],xa5 (goJ root d []).1) else ((goJ root d []).1,0)
end Go.Proofs.YtjinnigjfopbcaaGreatDoor
namespace Go.Proofs.YtjinnigjfopbcaaGreatDoor
set_option linter.unusedVariables false
set_option linter.unusedSimpArgs false
open Go.RowKit
set_option maxRecDepth 20000
open Go.RowKit
set_option maxRecDepth 20000
theorem xvb:(Tryz.prog.info? 74).map (fun i=>(i.zero,i.size,i.bytes))=some (some (.agg #[.int .u64 0,.int .u64 0,.int .u32 0,.int .u32 0]),4,24):=by kernel_rfl
def FSt (w:World) (B:Nat) (e:En) (W:World):Prop:=EAt W w.heap.size xcF∧EAt W B e∧(∀ o,W.frozen? ⟨w.heap.size,o,none⟩=false)∧Below w.heap.size w W∧w.heap.size<B
theorem FSt.later {w:World} {B:Nat} {e:En} {W W':World} (h:FSt w B e W) (hb:Below W.heap.size W W'):FSt w B e W' :=
 ⟨h.1.later hb,h.2.1.later hb,fun o=>by
  have hl:=xbz (a:=⟨w.heap.size,0,none⟩) h.1.1
  have:=h.2.2.1 o
  simp only[World.frozen?] at this ⊢
  rw[hb.block _ hl]
  exact this,h.2.2.2.1.trans (hb.mono h.2.2.2.1.size),h.2.2.2.2⟩
end Go.Proofs.YtjinnigjfopbcaaGreatDoor
namespace Go.Proofs.YtjinnigjfopbcaaGreatDoor
set_option linter.unusedVariables false
set_option linter.unusedSimpArgs false
open Go.RowKit
set_option maxRecDepth 20000
def Pcs (w:World) (vs:List Value) (ps:List (List En)):Prop:=vs.length=ps.length∧∀ (k:Nat) (x:Value) (p:List En),vs[k]?=some x→ps[k]?=some p→xaj w x p
theorem Pcs.below {w w':World} {vs:List Value} {ps:List (List En)} (h:Pcs w vs ps) (hb:Below w.heap.size w w'):Pcs w' vs ps:=⟨h.1,fun k x p hx hp=>(h.2 k x p hx hp).below hb⟩
theorem Pcs.snoc {w:World} {vs:List Value} {ps:List (List En)} (h:Pcs w vs ps) {x:Value} {p:List En} (hx:xaj w x p):Pcs w (vs++[x]) (ps++[p]):=by
 refine⟨by rw[List.length_append,List.length_append,h.1];rfl,fun k y q hy hq=>?_⟩
 rcases Nat.lt_or_ge k vs.length with hlt|hge
 ·rw[List.getElem?_append_left hlt] at hy
  rw[List.getElem?_append_left (by have:=h.1;omega)] at hq
  exact h.2 k y q hy hq
 ·rw[List.getElem?_append_right hge] at hy
  rw[List.getElem?_append_right (by have:=h.1;omega),← h.1] at hq
  have h0:k - vs.length=0:=by
   have:=(List.getElem?_eq_some_iff.1 hy).1
   simp at this
   omega
  rw[h0] at hy hq
  simp at hy hq
  rw[← hy,← hq]
  exact hx
def xqF (w:World) (v:Value) (ps:List (List En)):Prop:=∃ vs,xcU w v vs∧Pcs w vs ps
theorem xqF.below {w w':World} {v:Value} {ps:List (List En)} (h:xqF w v ps) (hb:Below w.heap.size w w'):xqF w' v ps:=by
 obtain⟨vs,h1,h2⟩:=h
 exact⟨vs,h1.below hb,h2.below hb⟩
theorem xqF.form {w:World} {v:Value} {ps:List (List En)} (h:xqF w v ps):∃ a cap,v=.slice a ps.length cap∧ps.length≤cap∧cap≤maxLen:=by
 obtain⟨vs,⟨a,cap,rfl,h1,h2,hc⟩,hl,he⟩:=h
 exact⟨a,cap,by rw[hl],by omega,h2⟩
theorem xdg (W:World) (B:Nat) (TS E ty:TypeId) (z:Value) (ht:Tryz.prog.underlying TS=some (.slice E)) (hI:(Tryz.prog.info? E).map (fun i=>(i.zero,i.size,i.bytes))=some (some z,4,24)) (hzs:z.cells.size=4)
  (v x:Value) (L m:List En) (hown:xaQ W B E v L) (hx:xaj W x m) (hl:L.length+m.length≤40000000) (hb:B≤W.heap.size) :
  ∃ v' w',(Builtin.append_ #[TS,TS] ty #[v,x]).run Tryz.prog W=.ok v' w'∧xaQ w' B E v' (L++m)∧W.grownBy w' v.ownBlock:=by
 obtain⟨a,cap,rfl,h1,h2,hc⟩:=hx
 have fin:∀ {w':World} {v':Value},w'.ownsRow B E 4 v' (L.length+m.length) (xaw L++xaw m)→xaQ w' B E v' (L++m):=by
  intro w' v' h
  unfold xaQ
  rw[xbu,List.length_append]
  exact h
 cases a with
 | none =>
  have hl0:m=[]:=by
   cases m with
   | nil=>rfl
   | cons t l=>obtain⟨g,off,ha,_⟩:=hc 0 t rfl;cases ha
  subst hl0
  refine⟨v,W,?_,by rw[List.append_nil];exact hown,World.grownBy.refl _ _⟩
  obtain⟨i0,hi,hz0,hz1,hz2⟩:=xaq hI
  rcases hown.2 with ⟨rfl,hn⟩|⟨g,cap2,cur,rfl,hbg,hg,hnc,hcm,hcs,htake⟩
  ·simp[Builtin.append_,run_underlying ht,sizeOf,typeInfo,hi,Builtin.lenOf,Builtin.firstCells,loadCells,loadCellsFrom]
  ·simp[Builtin.append_,run_underlying ht,sizeOf,typeInfo,hi,Builtin.lenOf,Builtin.firstCells,loadCells,loadCellsFrom,hnc,storeCells]
 | some ad =>
  have hnews:∀ j u,(xaw m)[j]?=some u→W.cell? (ad.add j)=some u:=by
   intro j u hu
   have hj:j<m.length*4:=by rw[← xbU];exact(List.getElem?_eq_some_iff.1 hu).1
   obtain⟨t,ht⟩:∃ t,m[j / 4]?=some t:=⟨_,List.getElem?_eq_getElem (by omega)⟩
   obtain⟨g,off,ha,_,c0,c1,c2,c3⟩:=hc (j / 4) t ht
   obtain⟨f0,f1,f2,f3⟩:=xbp m (j / 4) t ht
   injection ha with ha
   subst ha
   have hadd:(⟨g,off,none⟩:Addr).add j=⟨g,off+j,none⟩:=by simp[Addr.add]
   rw[hadd]
   rcases(by omega:j=j / 4*4∨j=j / 4*4+1∨j=j / 4*4+2∨j=j / 4*4+3) with e|e|e|e
   ·rw[e,f0] at hu;rw[← hu];rw[show off+j=off+j / 4*4 from by omega];exact c0
   ·rw[e,f1] at hu;rw[← hu];rw[show off+j=off+j / 4*4+1 from by omega];exact c1
   ·rw[e,f2] at hu;rw[← hu];rw[show off+j=off+j / 4*4+2 from by omega];exact c2
   ·rw[e,f3] at hu;rw[← hu];rw[show off+j=off+j / 4*4+3 from by omega];exact c3
  obtain⟨i0,hi,hz0,hz1,hz2⟩:=xaq hI
  obtain⟨v',w',hr,h2,h3,h4⟩:=run_append_own (P:=Tryz.prog) W B TS ty E i0 _ 4 24 ht hi hz0 hz1 hz2 hzs (by omega) v L.length (xaw L) hown ad m.length cap (xaw m) (xbU m) hnews (xdM m) (by unfold maxLen;omega) (by omega) hb
  exact⟨v',w',hr,fin h2,h3⟩
theorem xuI:(Tryz.prog.info? 118).map (fun i=>(i.zero,i.size,i.bytes))=some (some (.agg #[.int .u64 0,.int .u64 0,.int .u32 0,.int .u32 0]),4,24):=by kernel_rfl
end Go.Proofs.YtjinnigjfopbcaaGreatDoor
namespace Go.Proofs.YtjinnigjfopbcaaGreatDoor
set_option linter.unusedVariables false
set_option linter.unusedSimpArgs false
open Go.RowKit Go.Shelf
set_option maxRecDepth 20000
attribute [local go_sem] Oper.semAt_some
theorem xaj.grownR {X Y:World} {row:Option Nat} {v:Value} {l:List En} (h:xaj X v l) (hg:X.grownBy Y row) (hr:∀ r,row=some r→∃ o:Obj,X.heap[r]?=some o∧xcY o=true):xaj Y v l:=by
 obtain⟨a,cap,rfl,h1,h2,hc⟩:=h
 refine⟨a,cap,rfl,h1,h2,fun k t ht=>?_⟩
 obtain⟨g,off,rfl,hg',c0,c1,c2,c3⟩:=hc k t ht
 have hne:row≠some g:=by
  intro e
  obtain⟨o,ho,hn⟩:=hr g e
  have c:=c0
  unfold World.cell? at c
  simp only[ho] at c
  cases o <;> first|(simp[xcY] at hn;done)|(simp at c;done)
 have hb:Y.heap[g]?=X.heap[g]?:=hg.block g hg' (fun e=>hne e.symm)
 exact⟨g,off,rfl,Nat.lt_of_lt_of_le hg' hg.size,(World.cell?_of_block (a:=⟨g,off+k*4,none⟩) hb).trans c0,(World.cell?_of_block (a:=⟨g,off+k*4+1,none⟩) hb).trans c1,(World.cell?_of_block (a:=⟨g,off+k*4+2,none⟩) hb).trans c2,(World.cell?_of_block (a:=⟨g,off+k*4+3,none⟩) hb).trans c3⟩
theorem xaj.keepB {X Y:World} {v:Value} {l:List En} (h:xaj X v l) (hs:X.heap.size≤Y.heap.size) (hk:∀ a n c,v=.slice (some a) n c→a.block<X.heap.size→Y.heap[a.block]?=X.heap[a.block]?):xaj Y v l:=by
 obtain⟨a,cap,rfl,h1,h2,hc⟩:=h
 refine⟨a,cap,rfl,h1,h2,fun k t ht=>?_⟩
 obtain⟨g,off,rfl,hg',c0,c1,c2,c3⟩:=hc k t ht
 have hb:Y.heap[g]?=X.heap[g]?:=hk ⟨g,off,none⟩ _ _ rfl hg'
 exact⟨g,off,rfl,Nat.lt_of_lt_of_le hg' hs,(World.cell?_of_block (a:=⟨g,off+k*4,none⟩) hb).trans c0,(World.cell?_of_block (a:=⟨g,off+k*4+1,none⟩) hb).trans c1,(World.cell?_of_block (a:=⟨g,off+k*4+2,none⟩) hb).trans c2,(World.cell?_of_block (a:=⟨g,off+k*4+3,none⟩) hb).trans c3⟩
structure CutP (w:World) (n0:Nat) (ps:List (List En)) (vo:Value) (vs:List Value) (W:World):Prop where
 bx:Boxed W n0 238 vo
 row:xgJ W (n0+1) 27 vo vs
 pcs:Pcs W vs ps
 off:∀ (k:Nat) (a:Addr) (n c:Nat),vs[k]?=some (Value.slice (some a) n c)→n0<a.block∧a.block<W.heap.size∧vo.ownBlock≠some a.block
 bel:Below n0 w W
def xyq (n0:Nat) (vo:Value) (b:Nat):Prop:=b=n0∨vo.ownBlock=some b
section
variable {w W W2 W5:World} {n0:Nat} {ps:List (List En)} {vo:Value} {vs:List Value}
theorem CutP.lt (h:CutP w n0 ps vo vs W):∀ b,xyq n0 vo b→b<W.heap.size:=by
 rintro b (rfl|hb)
 ·exact h.bx.lt
 ·exact(h.row.lt b hb).2
theorem CutP.grown {row:Option Nat} (h:CutP w n0 ps vo vs W) (hg:W.grownBy W2 row) (hr:∀ r,row=some r→n0≤r∧∃ o:Obj,W.heap[r]?=some o∧xcY o=true):CutP w n0 ps vo vs W2:=by
 refine⟨h.bx.kept hg (fun e=>?_),World.ownsRow.kept h.row hg ?_,⟨h.pcs.1,fun k x p hx hp=>(h.pcs.2 k x p hx hp).grownR hg (fun r e=>(hr r e).2)⟩,fun k a n c hk=>?_,h.bel.grown hg (Nat.le_of_lt h.bx.lt) (fun r e=>(hr r e).1)⟩
 ·obtain⟨_,o,ho,hn⟩:=hr n0 e.symm
  rw[show W.heap[n0]?=_ from h.bx] at ho
  cases ho;cases hn
 ·rcases h.row.2 with ⟨rfl,_⟩|⟨g,cap,cur,rfl,_,hgb,_⟩
  ·exact .inl rfl
  ·refine .inr fun e'=>?_
   obtain⟨_,o,ho,hn⟩:=hr g e'.symm
   rw[hgb] at ho
   cases ho;cases hn
 ·obtain⟨o1,o2,o3⟩:=h.off k a n c hk
  exact⟨o1,Nat.lt_of_lt_of_le o2 hg.size,o3⟩
theorem CutP.step {x v5:Value} {p:List En} {o:Obj} (h:CutP w n0 ps vo vs W) (hb2:Below W.heap.size W W2) (hx:xaj W2 x p) (hxb:∀ a n c,x=.slice (some a) n c→W.heap.size≤a.block∧a.block<W2.heap.size)
  (ho5:xgJ W5 (n0+1) 27 v5 (vs++[x])) (hg5:(W2.alloc o).grownBy W5 vo.ownBlock) (hl:v5.ownBlock=vo.ownBlock∨∃ g,v5.ownBlock=some g∧(W2.alloc o).heap.size≤g) :
  CutP w n0 (ps++[p]) v5 (vs++[x]) (W5.setCell ⟨n0,0,none⟩ v5)∧KeepsS (xyq n0 vo) (xyq n0 v5) W (W5.setCell ⟨n0,0,none⟩ v5)∧Boxed W5 n0 238 vo:=by
 have hn0:n0<W.heap.size:=h.bx.lt
 have hba:Below W.heap.size W (W2.alloc o):=hb2.alloc hb2.size o
 have bx2:Boxed (W2.alloc o) n0 238 vo:=(hba.block n0 hn0).trans h.bx
 have row2:xgJ (W2.alloc o) (n0+1) 27 vo vs:=h.row.below hba
 have bx5:Boxed W5 n0 238 vo:=bx2.kept hg5 (bx2.not_row (by decide) row2)
 have hne5:some n0≠v5.ownBlock:=bx5.not_row (by decide) ho5
 have hset:∀ b,b≠n0→(W5.setCell ⟨n0,0,none⟩ v5).heap[b]?=W5.heap[b]?:=fun b hb=>Below.heap_setCell _ _ _ _ (by simpa using hb)
 have hsz:(W5.setCell ⟨n0,0,none⟩ v5).heap.size=W5.heap.size:=by simp
 have hs2:=hb2.size
 have hsa:(W2.alloc o).heap.size=W2.heap.size+1:=by simp
 have hs5:W2.heap.size+1≤W5.heap.size:=by have:=hg5.size;rw[hsa] at this;exact this
 have keepP:∀ b,b≠n0→vo.ownBlock≠some b→b<(W2.alloc o).heap.size→(W5.setCell ⟨n0,0,none⟩ v5).heap[b]?=(W2.alloc o).heap[b]?:=fun b h1 h2 h3=>(hset b h1).trans (hg5.block b h3 (fun e=>h2 e.symm))
 refine⟨⟨bx5.set v5,ho5.keep (fun k hk=>hset k (fun e=>hne5 (by rw[hk,e]))),?_,?_,?_⟩,⟨?_,?_,?_⟩,bx5⟩
 ·refine Pcs.snoc ⟨h.pcs.1,fun k y q hy hq=>((h.pcs.2 k y q hy hq).below hba).keepB (by rw[hsz,hsa];exact hs5) (fun a n c e hlt=>?_)⟩ ((hx.below ((Below.refl _ W2).alloc (Nat.le_refl _) o)).keepB (by rw[hsz,hsa];exact hs5) (fun a n c e hlt=>?_))
  ·subst e
   obtain⟨o1,o2,o3⟩:=h.off k a n c hy
   exact keepP a.block (by omega) o3 hlt
  ·have hq:=hxb a n c e
   exact keepP a.block (by omega) (fun e2=>by have:=(h.row.lt _ e2).2;omega) hlt
 ·intro k a n c hk
  rw[hsz]
  rcases Nat.lt_or_ge k vs.length with hlt|hge
  ·rw[List.getElem?_append_left hlt] at hk
   obtain⟨o1,o2,o3⟩:=h.off k a n c hk
   refine⟨o1,by omega,fun e=>?_⟩
   rcases hl with hl|⟨g,hl,hg⟩
   ·exact o3 (by rw[← hl];exact e)
   ·rw[hl] at e;cases e;rw[hsa] at hg;omega
  ·rw[List.getElem?_append_right hge] at hk
   have h0:k - vs.length=0:=by
    have:=(List.getElem?_eq_some_iff.1 hk).1
    simp at this
    omega
   rw[h0] at hk
   simp at hk
   have hq:=hxb a n c hk
   refine⟨by omega,by omega,fun e=>?_⟩
   rcases hl with hl|⟨g,hl,hg⟩
   ·rw[hl] at e
    have:=(h.row.lt _ e).2;omega
   ·rw[hl] at e;cases e;rw[hsa] at hg;omega
 ·exact((h.bel.trans (hba.mono (Nat.le_of_lt hn0))).grown hg5 (by rw[hsa];omega) (fun k hk=>by have:=(h.row.lt k hk).1;omega)).setCell (p:=⟨n0,0,none⟩) (Nat.le_refl _) v5
 ·rw[hsz];omega
 ·intro b o' hb ho
  have h1:b≠n0:=fun e=>hb (.inl e)
  have h2:vo.ownBlock≠some b:=fun e=>hb (.inr e)
  have h3:=xay ho
  exact(keepP b h1 h2 (by rw[hsa];omega)).trans ((hba.block b h3).trans ho)
 ·rintro b (rfl|hb)
  ·exact .inl (.inl rfl)
  ·rcases hl with hl|⟨g,hl,hg⟩
   ·exact .inl (.inr (by rw[← hl];exact hb))
   ·rw[hl] at hb;cases hb;rw[hsa] at hg;exact .inr (by omega)
end
def xzE (w:World) (n0:Nat) (P:List (List En)) (k:Nat) (S:Nat→Prop) (W:World):Prop:=∃ vo vs,CutP w n0 (P.take k) vo vs W∧∀ b,S b↔xyq n0 vo b
theorem xzE.lt {w:World} {n0:Nat} {P:List (List En)} {k:Nat} {S:Nat→Prop} {W:World} (h:xzE w n0 P k S W):∀ b,S b→b<W.heap.size:=by
 obtain⟨vo,vs,h,hS⟩:=h
 exact fun b hb=>h.lt b ((hS b).1 hb)
end Go.Proofs.YtjinnigjfopbcaaGreatDoor
namespace Go.Proofs.YtjinnigjfopbcaaGreatDoor
set_option linter.unusedVariables false
set_option linter.unusedSimpArgs false
open Go.RowKit
set_option maxRecDepth 20000
def bI (s:ByteArray):List Int:=s.data.toList.map (fun c=>(c.toNat:Int))
theorem xai (s:ByteArray):(bI s).length=s.size:=by unfold bI;rw[List.length_map,Array.length_toList];rfl
theorem xqn (s:ByteArray):str (bI s)=s:=by
 apply ByteArray.ext
 apply Array.ext'
 rw[xft]
 unfold bI
 rw[List.map_map]
 conv=>rhs;rw[← List.map_id s.data.toList]
 refine List.map_congr_left (fun c _=>?_)
 simp
theorem Own.slice {w:World} {B:Nat} {v:Value} {l:List Int} (h:Own w B v l):∃ a cap,v=.slice a l.length cap:=by
 obtain⟨a,cap,e,_⟩:=h.bytesAt
 exact⟨a,cap,e⟩
end Go.Proofs.YtjinnigjfopbcaaGreatDoor
