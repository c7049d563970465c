/- bNc bNa bUe bUf bNf. -/
import Derived.Test.YtjinnigjfopbcaaGreatDoorJb4
import Derived.Test.YtjinnigjfopbcaaGreatDoorJs
set_option maxHeartbeats 16000000
namespace Go.Proofs.YtjinnigjfopbcaaGreatDoor
set_option linter.unusedVariables false
set_option linter.unusedSimpArgs false
open Go.RowKit Go.Shelf
set_option maxRecDepth 20000
attribute [local go_sem] Oper.semAt_some
theorem xsX:(Tryz.prog.info? 27).map (fun i=>(i.zero,i.size,i.bytes))=some (some (.slice none 0 0),1,24):=by kernel_rfl
theorem xak.grownR {X Y:World} {row:Option Nat} {v:Value} {l:List En} (h:xak X v l) (hg:X.grownBy Y row) (hr:∀ r,row=some r→∃ o:Obj,X.heap[r]?=some o∧xd3 o=true):xak Y v l:=by
 obtain⟨a,cap,rfl,h1,h2,hc⟩:=h
 refine⟨a,cap,rfl,h1,h2,fun k t ht=>?_⟩
 obtain⟨g,off,rfl,hg',c0,c1,c2,c3⟩:=hc k t ht
 have hne:row≠some g:=by
  intro e
  obtain⟨o,ho,hn⟩:=hr g e
  have c:=c0
  unfold World.cell? at c
  simp only[ho] at c
  cases o <;> first|(simp[xd3] at hn;done)|(simp at c;done)
 have hb:Y.heap[g]?=X.heap[g]?:=hg.block g hg' (fun e=>hne e.symm)
 exact⟨g,off,rfl,Nat.lt_of_lt_of_le hg' hg.size,(World.cell?_of_block (a:=⟨g,off+k*4,none⟩) hb).trans c0,(World.cell?_of_block (a:=⟨g,off+k*4+1,none⟩) hb).trans c1,(World.cell?_of_block (a:=⟨g,off+k*4+2,none⟩) hb).trans c2,(World.cell?_of_block (a:=⟨g,off+k*4+3,none⟩) hb).trans c3⟩
theorem xak.keepB {X Y:World} {v:Value} {l:List En} (h:xak X v l) (hs:X.heap.size≤Y.heap.size) (hk:∀ a n c,v=.slice (some a) n c→a.block<X.heap.size→Y.heap[a.block]?=X.heap[a.block]?):xak Y v l:=by
 obtain⟨a,cap,rfl,h1,h2,hc⟩:=h
 refine⟨a,cap,rfl,h1,h2,fun k t ht=>?_⟩
 obtain⟨g,off,rfl,hg',c0,c1,c2,c3⟩:=hc k t ht
 have hb:Y.heap[g]?=X.heap[g]?:=hk ⟨g,off,none⟩ _ _ rfl hg'
 exact⟨g,off,rfl,Nat.lt_of_lt_of_le hg' hs,(World.cell?_of_block (a:=⟨g,off+k*4,none⟩) hb).trans c0,(World.cell?_of_block (a:=⟨g,off+k*4+1,none⟩) hb).trans c1,(World.cell?_of_block (a:=⟨g,off+k*4+2,none⟩) hb).trans c2,(World.cell?_of_block (a:=⟨g,off+k*4+3,none⟩) hb).trans c3⟩
theorem xq5 {w:World} {v:Value} {l:List En} (h:xak w v l):∃ a cap g off,v=.slice a l.length cap∧l.length≤cap∧cap≤maxLen∧(l≠[]→a=some ⟨g,off,none⟩):=by
 obtain⟨a,cap,rfl,h1,h2,hc⟩:=h
 cases l with
 | nil=>exact⟨a,cap,0,0,rfl,h1,h2,fun h=>absurd rfl h⟩
 | cons e l =>
  obtain⟨g,off,rfl,_⟩:=hc 0 e rfl
  exact⟨_,cap,g,off,rfl,h1,h2,fun _=>rfl⟩
theorem xex (W:World) (B:Nat) (ty:TypeId) (v x:Value) (vs:List Value) (b c:Nat) (hown:xd8 W B 27 v vs) (hx:W.cell? ⟨b,0,none⟩=some x) (h1:x.oneCell'=true) (hl:vs.length≤1000000) (hB:B≤W.heap.size) :
  ∃ v' w',(Builtin.append_ #[238,238] ty #[v,.slice (some ⟨b,0,none⟩) 1 c]).run Tryz.prog W=.ok v' w'∧xd8 w' B 27 v' (vs++[x])∧W.grownBy w' v.ownBlock∧(v'.ownBlock=v.ownBlock∨∃ g,v'.ownBlock=some g∧W.heap.size≤g):=by
 obtain⟨i0,hi,hz0,hz1,hz2⟩:=xao xsX
 have hnews:∀ j u,[x][j]?=some u→W.cell? ((⟨b,0,none⟩:Addr).add j)=some u:=by
  intro j u hu
  match j,hu with
  | 0,hu=>simp only[List.getElem?_cons_zero,Option.some.injEq] at hu;rw[← hu];exact hx
  | j+1,hu=>simp at hu
 have hone:∀ u ∈ [x],u.oneCell'=true:=by intro u hu;simp at hu;subst hu;exact h1
 have ht:=Tryz.underlying238
 obtain⟨v',w',hr,h2,h3,h4⟩:=run_append_own (P:=Tryz.prog) W B 238 ty 27 i0 _ 1 24 ht hi hz0 hz1 hz2 rfl (by omega) v vs.length vs hown ⟨b,0,none⟩ 1 c [x] rfl hnews hone (by unfold maxLen;omega) (by omega) hB
 refine⟨v',w',hr,xn9 h2 (by simp) rfl,h3,?_⟩
 rcases hown.2 with ⟨rfl,hn⟩|⟨g,cap,cur,rfl,hbg,hg,hnc,hcm,hcs,htake⟩
 ·obtain⟨_,_,hr2,h22,_,_⟩:=run_append_own (P:=Tryz.prog) W W.heap.size 238 ty 27 i0 _ 1 24 ht hi hz0 hz1 hz2 rfl (by omega) (.slice none 0 0) vs.length vs ⟨hown.1,.inl ⟨rfl,hn⟩⟩ ⟨b,0,none⟩ 1 c [x] rfl hnews hone (by unfold maxLen;omega) (by omega) (Nat.le_refl _)
  rw[hr] at hr2
  injection hr2 with e1 e2
  subst e1 e2
  rcases h22.2 with ⟨rfl,_⟩|⟨g,cap,cur,rfl,hg,_⟩
  ·exact .inl rfl
  ·exact .inr ⟨g,rfl,hg⟩
 ·have hL:vs.length=vs.length*i0.size:=by rw[hz1];omega
  by_cases hroom:vs.length+1≤cap
  ·have hr2:=run_append_room (P:=Tryz.prog) W 238 ty 27 i0 ht hi g vs.length cap cur hg ⟨b,0,none⟩ 1 c [x] (by rw[hz1];rfl) hnews hone hroom (by rw[hz1];simp;omega)
   rw[hr] at hr2
   injection hr2 with e1 e2
   rw[e1]
   exact .inl rfl
  ·have hr2:=run_append_grow (P:=Tryz.prog) W 238 ty 27 i0 _ ht hi hz0 ⟨g,0,none⟩ vs.length cap vs hL (World.ownsRow.cells hown rfl) ⟨b,0,none⟩ 1 c [x] (by rw[hz1];rfl) hnews (by omega) (by omega) (growslice_fits (by omega) (by rw[hz2];omega))
   rw[hr] at hr2
   injection hr2 with e1 e2
   rw[e1]
   exact .inr ⟨_,rfl,Nat.le_refl _⟩
structure CutP (w:World) (n0:Nat) (ps:List (List En)) (vo:Value) (vs:List Value) (W:World):Prop where
 bx:Boxed W n0 238 vo
 row:xd8 W (n0+1) 27 vo vs
 pcs:Pcs W vs ps
 off:∀ (k:Nat) (a:Addr) (n c:Nat),vs[k]?=some (Value.slice (some a) n c)→n0<a.block∧a.block<W.heap.size∧vo.ownBlock≠some a.block
 bel:Below n0 w W
def xmj (n0:Nat) (vo:Value) (b:Nat):Prop:=b=n0∨vo.ownBlock=some b
section
variable {w W W2 W5:World} {n0:Nat} {ps:List (List En)} {vo:Value} {vs:List Value}
theorem CutP.lt (h:CutP w n0 ps vo vs W):∀ b,xmj n0 vo b→b<W.heap.size:=by
 rintro b (rfl|hb)
 ·exact h.bx.lt
 ·exact(h.row.lt b hb).2
theorem CutP.grown {row:Option Nat} (h:CutP w n0 ps vo vs W) (hg:W.grownBy W2 row) (hr:∀ r,row=some r→n0≤r∧∃ o:Obj,W.heap[r]?=some o∧xd3 o=true):CutP w n0 ps vo vs W2:=by
 refine⟨h.bx.kept hg (fun e=>?_),World.ownsRow.kept h.row hg ?_,⟨h.pcs.1,fun k x p hx hp=>(h.pcs.2 k x p hx hp).grownR hg (fun r e=>(hr r e).2)⟩,fun k a n c hk=>?_,h.bel.grown hg (Nat.le_of_lt h.bx.lt) (fun r e=>(hr r e).1)⟩
 ·obtain⟨_,o,ho,hn⟩:=hr n0 e.symm
  rw[show W.heap[n0]?=_ from h.bx] at ho
  cases ho;cases hn
 ·rcases h.row.2 with ⟨rfl,_⟩|⟨g,cap,cur,rfl,_,hgb,_⟩
  ·exact .inl rfl
  ·refine .inr fun e'=>?_
   obtain⟨_,o,ho,hn⟩:=hr g e'.symm
   rw[hgb] at ho
   cases ho;cases hn
 ·obtain⟨o1,o2,o3⟩:=h.off k a n c hk
  exact⟨o1,Nat.lt_of_lt_of_le o2 hg.size,o3⟩
theorem CutP.step {x v5:Value} {p:List En} {o:Obj} (h:CutP w n0 ps vo vs W) (hb2:Below W.heap.size W W2) (hx:xak W2 x p) (hxb:∀ a n c,x=.slice (some a) n c→W.heap.size≤a.block∧a.block<W2.heap.size)
  (ho5:xd8 W5 (n0+1) 27 v5 (vs++[x])) (hg5:(W2.alloc o).grownBy W5 vo.ownBlock) (hl:v5.ownBlock=vo.ownBlock∨∃ g,v5.ownBlock=some g∧(W2.alloc o).heap.size≤g) :
  CutP w n0 (ps++[p]) v5 (vs++[x]) (W5.setCell ⟨n0,0,none⟩ v5)∧KeepsS (xmj n0 vo) (xmj n0 v5) W (W5.setCell ⟨n0,0,none⟩ v5)∧Boxed W5 n0 238 vo:=by
 have hn0:n0<W.heap.size:=h.bx.lt
 have hba:Below W.heap.size W (W2.alloc o):=hb2.alloc hb2.size o
 have bx2:Boxed (W2.alloc o) n0 238 vo:=(hba.block n0 hn0).trans h.bx
 have row2:xd8 (W2.alloc o) (n0+1) 27 vo vs:=h.row.below hba
 have bx5:Boxed W5 n0 238 vo:=bx2.kept hg5 (bx2.not_row (by decide) row2)
 have hne5:some n0≠v5.ownBlock:=bx5.not_row (by decide) ho5
 have hset:∀ b,b≠n0→(W5.setCell ⟨n0,0,none⟩ v5).heap[b]?=W5.heap[b]?:=fun b hb=>Below.heap_setCell _ _ _ _ (by simpa using hb)
 have hsz:(W5.setCell ⟨n0,0,none⟩ v5).heap.size=W5.heap.size:=by simp
 have hs2:=hb2.size
 have hsa:(W2.alloc o).heap.size=W2.heap.size+1:=by simp
 have hs5:W2.heap.size+1≤W5.heap.size:=by have:=hg5.size;rw[hsa] at this;exact this
 have keepP:∀ b,b≠n0→vo.ownBlock≠some b→b<(W2.alloc o).heap.size→(W5.setCell ⟨n0,0,none⟩ v5).heap[b]?=(W2.alloc o).heap[b]?:=fun b h1 h2 h3=>(hset b h1).trans (hg5.block b h3 (fun e=>h2 e.symm))
 refine⟨⟨bx5.set v5,ho5.keep (fun k hk=>hset k (fun e=>hne5 (by rw[hk,e]))),?_,?_,?_⟩,⟨?_,?_,?_⟩,bx5⟩
 ·refine Pcs.snoc ⟨h.pcs.1,fun k y q hy hq=>((h.pcs.2 k y q hy hq).below hba).keepB (by rw[hsz,hsa];exact hs5) (fun a n c e hlt=>?_)⟩ ((hx.below ((Below.refl _ W2).alloc (Nat.le_refl _) o)).keepB (by rw[hsz,hsa];exact hs5) (fun a n c e hlt=>?_))
  ·subst e
   obtain⟨o1,o2,o3⟩:=h.off k a n c hy
   exact keepP a.block (by omega) o3 hlt
  ·have hq:=hxb a n c e
   exact keepP a.block (by omega) (fun e2=>by have:=(h.row.lt _ e2).2;omega) hlt
 ·intro k a n c hk
  rw[hsz]
  rcases Nat.lt_or_ge k vs.length with hlt|hge
  ·rw[List.getElem?_append_left hlt] at hk
   obtain⟨o1,o2,o3⟩:=h.off k a n c hk
   refine⟨o1,by omega,fun e=>?_⟩
   rcases hl with hl|⟨g,hl,hg⟩
   ·exact o3 (by rw[← hl];exact e)
   ·rw[hl] at e;cases e;rw[hsa] at hg;omega
  ·rw[List.getElem?_append_right hge] at hk
   have h0:k - vs.length=0:=by
    have:=(List.getElem?_eq_some_iff.1 hk).1
    simp at this
    omega
   rw[h0] at hk
   simp at hk
   have hq:=hxb a n c hk
   refine⟨by omega,by omega,fun e=>?_⟩
   rcases hl with hl|⟨g,hl,hg⟩
   ·rw[hl] at e
    have:=(h.row.lt _ e).2;omega
   ·rw[hl] at e;cases e;rw[hsa] at hg;omega
 ·exact((h.bel.trans (hba.mono (Nat.le_of_lt hn0))).grown hg5 (by rw[hsa];omega) (fun k hk=>by have:=(h.row.lt k hk).1;omega)).setCell (p:=⟨n0,0,none⟩) (Nat.le_refl _) v5
 ·rw[hsz];omega
 ·intro b o' hb ho
  have h1:b≠n0:=fun e=>hb (.inl e)
  have h2:vo.ownBlock≠some b:=fun e=>hb (.inr e)
  have h3:=xaD ho
  exact(keepP b h1 h2 (by rw[hsa];omega)).trans ((hba.block b h3).trans ho)
 ·rintro b (rfl|hb)
  ·exact .inl (.inl rfl)
  ·rcases hl with hl|⟨g,hl,hg⟩
   ·exact .inl (.inr (by rw[← hl];exact hb))
   ·rw[hl] at hb;cases hb;rw[hsa] at hg;exact .inr (by omega)
end
def xuM (w:World) (n0:Nat) (P:List (List En)) (k:Nat) (S:Nat→Prop) (W:World):Prop:=∃ vo vs,CutP w n0 (P.take k) vo vs W∧∀ b,S b↔xmj n0 vo b
theorem xlK (w:World) (n0:Nat) (P:List (List En)) (B:Nat) (hB:n0≤B):xcN (fun _=>False) B (xuM w n0 P):=by
 rintro⟨k,S⟩ X Y row ⟨vo,vs,h,hS⟩ hg hr
 refine⟨vo,vs,h.grown hg (fun r e=>?_),hS⟩
 rcases hr r e with h|h
 ·exact h.elim
 ·exact⟨Nat.le_trans hB h.1,h.2⟩
theorem xuM.lt {w:World} {n0:Nat} {P:List (List En)} {k:Nat} {S:Nat→Prop} {W:World} (h:xuM w n0 P k S W):∀ b,S b→b<W.heap.size:=by
 obtain⟨vo,vs,h,hS⟩:=h
 exact fun b hb=>h.lt b ((hS b).1 hb)
set_option maxRecDepth 100000 in
theorem xmV (v:Value) (l:List En) (n:Int) (w:World) (hv:xak w v l) (hm:xay l) (hl:l.length≤200) (hn:-9223372036854775808≤n∧n≤9223372036854775807) :
  Calls Tryz.prog 137 #[v,.int .i64 n] w fun e w'=>∃ v',e=.returned v'∧xip w' v' (xsn n l)∧Below w.heap.size w w':=by
 by_cases h1:n<1
 ·have hz:xsn n l=[]:=by unfold xsn;rw[if_pos h1]
  have HZ:=lH hz
  have d1:decide (n<1)=true:=decide_eq_true h1
  obtain⟨av,cv,rfl⟩:=xag hv
  clear hz hv h1
  go_enter Tryz.func137,Tryz.ntmps137
  go_wp2_with fail
  go_ret
  exact⟨_,rfl,by rw[HZ.out];exact⟨[],xf5 _,xmx _⟩,Below.refl _ _⟩
 ·obtain⟨N,rfl⟩:∃ N:Nat,n=N:=⟨n.toNat,by omega⟩
  have hN:1≤N∧N≤9223372036854775807:=by omega
  have HZ:Hid (xsn (N:Int) l=xbp N l):=lH (by unfold xsn;rw[if_neg h1,Int.toNat_natCast])
  have d1:decide ((N:Int)<1)=false:=decide_eq_false h1
  have HV:=lH hv
  have HCH:=lH (fun X (hX:Below w.heap.size w X)=>xmF v l N X (hv.below hX) hN)
  obtain⟨a,cap,g,off,rfl,hcap,hmx,ha⟩:=xq5 hv
  have HSQ:=lH (fun X B0 B1 (c0:X.cell? ⟨B0,0,none⟩=some (.slice a l.length cap)) (c1:X.cell? ⟨B1,0,none⟩=some (.int .i64 N))=>xk5 l g off cap N B0 B1 a X hN ha hcap hmx (by omega) c0 c1)
  have HA:=lH ha
  have HN:=lH hN
  clear hv ha hcap hmx hN
  refine(callsIn_wide (n:=3)).1 ?_
  refine callsIn_of_wp_marks Tryz.func137 rfl trivial ?_ rfl
  simp only[Tryz.ntmps137,List.size_toArray,List.length_cons,List.length_nil,Nat.reduceAdd,Nat.reduceSub,Array.replicate_succ,Array.replicate_zero,List.push_toArray,List.append_toArray,List.nil_append,List.cons_append]
  gi_wp2
  refine⟨trivial,(callsIn_wide.2 (HCH.out _ ((Below.refl _ w).alloc (Nat.le_refl _) _))).mono ?_⟩
  rintro x w2 ⟨rfl,hc0,hc1,hb2⟩
  have hP2:CutP w w.heap.size [] (.slice none 0 0) [] w2:=⟨(hb2.block _ (by simp)).trans (Boxed.new w _ _),xqT _ _ _,xmx _,fun k a n c h=>by simp at h,((Below.refl _ w).alloc (Nat.le_refl _) _).trans (hb2.mono (by simp))⟩
  have hz2:=xba hc1
  have HP2:=lH hP2
  have HS2:=lH (HSQ.out w2 _ _ hc0 hc1)
  simp only[World.size_alloc] at hz2
  simp only[World.size_alloc] at HS2
  clear hc0 hc1 hP2 HSQ HCH hb2
  gi_wp2
  refine xeW (n:=3) (val:=fun k=>chV g off l.length N k) (p:=12) (r:=6) rfl (enters_of Tryz.func273 (by kernel_rfl) rfl) HS2.out (Below.refl _ _) (fun _ h=>h.elim) ?hV
   (xuM w w.heap.size (xbp N l)) (fun _ _ _=>False) ?hI (fun _ _ _ _ _ h _ _=>h) (fun k S W h=>⟨trivial,h.lt⟩) (fun b=>b=w.heap.size) ?hS0 ?h0 (fun _ _ _ _ _ _ _ _=>trivial) ?assign ?body ?done (fun _ _ _ _ _ _ h _=>h.elim)
  case hV=>rintro b (rfl|rfl) <;> omega
  case hI=>exact xlK w _ _ _ (by omega)
  case hS0=>rintro b rfl;exact⟨by omega,by omega⟩
  case h0=>exact⟨_,_,HP2.out,fun b=>by unfold xmj;simp[Value.ownBlock]⟩
  case assign =>
   intro lq k W' K hK
   simp only[List.setIfInBounds_toArray,List.set_cons_zero,List.set_cons_succ] at hK ⊢
   gi_wp2
   exact hK
  case body =>
   rintro lq k S W hlq ⟨vo,vs,hP,hS⟩ hk
   have hS':S=xmj w.heap.size vo:=funext fun b=>propext (hS b)
   subst hS'
   clear hS
   have hkl:=(xmy N HN.out.1 k l).1 hk
   have hat:=xsa N HN.out.1 k l hkl
   have hne:l≠[]:=by rintro rfl;simp at hkl
   have ha:=HA.out hne
   subst ha
   have hx:=xt3 (HV.out.below hP.bel) N k hkl
   have hpl:((l.drop (k*N)).take N).length≤200:=by rw[List.length_take,List.length_drop];omega
   have hnx:(xbp N l).take (k+1)=(xbp N l).take k++[(l.drop (k*N)).take N]:=by rw[List.take_add_one,hat];rfl
   have hvl:vs.length≤1000000:=by
    have:=hP.pcs.1
    rw[List.length_take] at this
    have:=xfg N HN.out.1 l
    omega
   have HCL:=lH (fun X (hX:Below W.heap.size W X)=>xgq (chV g off l.length N k) ((l.drop (k*N)).take N) X (hx.below hX) (by omega))
   have HNX:=lH hnx
   obtain⟨ax,cx,hcv⟩:=xag hx
   obtain⟨av,cv,rfl⟩:=hP.row.slice
   have HP:=lH hP
   have hdb:Below W.heap.size W W.drew:=Below.drew (Below.refl _ _)
   have hdc:=(hP.bx.cell:W.drew.cell? _=_)
   have hdf:=(hP.bx.frozen:W.drew.frozen? _=_)
   have HVL:=lH hvl
   unfold xee at HCL
   clear hkl hat hne hx hnx hP hvl hk
   generalize (l.drop (k*N)).take N=p at *
   generalize chV g off l.length N k=cvx at *
   subst hcv
   generalize p.length=pl at *
   have HCL2:=lH (HCL.out _ hdb)
   clear hdb HCL
   simp only[List.setIfInBounds_toArray,List.set_cons_zero,List.set_cons_succ]
   gi_wp2
   refine xis (by kernel_rfl) (by kernel_rfl) (by rintro⟨a,w,h⟩;exact h) ?_
   change wpAny _ _ _ _ _ _ _ W.drew
   refine wpAny_take (i:=1) (v:=?_) rfl (by kernel_rfl) (by kernel_rfl) (by kernel_rfl) (fun _ _ _ h=>h) (Or.inl ⟨by rfl,?y1⟩) ?_
   case y1=>intro w;go_simp;try with_reducible rfl
   try simp only[Act.put,zsA,zsB,zsC]
   refine wpAny_ready (rs:=[0,2]) (by kernel_rfl) (by simp) ?_
   refine AllReady.cons rfl (fun K hK=>?_) (AllReady.cons rfl (fun K hK=>?_) AllReady.nil)
   ·go_simp
    refine hK _ _ ?_
    clear hK K
    try simp only[Act.put,zsA,zsB,zsC]
    refine wpAny_ready (rs:=[2]) (by kernel_rfl) (by simp) ?_
    refine AllReady.cons rfl (fun K hK=>?_) AllReady.nil
    go_simp
    refine HCL2.out.mono ?_
    rintro e w3 ⟨v3,rfl,he3,hk3,hb3⟩
    have hbW:Below W.heap.size W w3:=(Below.drew (Below.refl _ _)).trans (hb3:Below W.heap.size W.drew w3)
    obtain⟨a3,c3,rfl⟩:=xag he3
    have hcc:=(HP.out.bx.cell)
    have hw3:w3.cell? ⟨w.heap.size,0,none⟩=some _:=xaa hbW hcc
    have hba3:Below W.heap.size W (w3.alloc (.cells #[.slice a3 p.length c3] 27)):=hbW.alloc hbW.size _
    have hw4:(w3.alloc (.cells #[.slice a3 p.length c3] 27)).cell? ⟨w.heap.size,0,none⟩=some _:=xaa hba3 hcc
    obtain⟨v5,w5,hr5,ho5,hg5,hl5⟩:=xex (w3.alloc (.cells #[.slice a3 p.length c3] 27)) (w.heap.size+1) 238 (.slice av vs.length cv) (.slice a3 p.length c3) vs w3.heap.size 1 (HP.out.row.below hba3) (by simp) rfl HVL.out (by have:=hba3.size;have:=HP.out.bx.lt;omega)
    obtain⟨hst,hkp,hb5⟩:=HP.out.step hbW he3 hk3 ho5 hg5 hl5
    have f5c:=hb5.cell
    have f5f:=hb5.frozen
    obtain⟨a5,c5,hq5⟩:=ho5.slice
    rw[List.length_append,List.length_singleton] at hq5
    subst hq5
    rw[← HNX.out] at hst
    have HN:Hid (xuM w w.heap.size (xbp N l) (k+1) (xmj w.heap.size (.slice a5 (vs.length+1) c5)) (w5.setCell ⟨w.heap.size,0,none⟩ (.slice a5 (vs.length+1) c5))∧KeepsS (xmj w.heap.size (.slice av vs.length cv)) (xmj w.heap.size (.slice a5 (vs.length+1) c5)) W (w5.setCell ⟨w.heap.size,0,none⟩ (.slice a5 (vs.length+1) c5))):=lH ⟨⟨_,_,hst,fun b=>Iff.rfl⟩,hkp⟩
    clear hst hkp hb5 ho5 hg5 hl5 he3 hk3 hb3 hbW hba3 hcc
    go_wp2_with fail
    try simp only[Act.put,zsA,zsB,zsC]
    refine wpAny_ready (rs:=[3]) (by kernel_rfl) (by simp) ?_
    refine AllReady.cons rfl (fun K hK=>?_) AllReady.nil
    go_simp
    refine hK _ _ ?_
    clear hK K
    try simp only[Act.put,zsA,zsB,zsC]
    refine wpAny_ready (rs:=[4]) (by kernel_rfl) (by simp) ?_
    refine AllReady.cons rfl (fun K hK=>?_) AllReady.nil
    refine Lib.wp_append_run _ _ _ _ _ rfl _ _ rfl rfl _ _ hr5 ?_
    refine hK _ _ ?_
    clear hK K
    try simp only[Act.put,zsA,zsB,zsC]
    refine wpAny_ready (rs:=[5]) (by kernel_rfl) (by simp) ?_
    refine AllReady.cons rfl (fun K hK=>?_) AllReady.nil
    go_simp
    refine hK _ _ ?_
    clear hK K
    try simp only[Act.put,zsA,zsB,zsC]
    refine wpAny_done (by kernel_rfl) ?_ _
    exact⟨_,HN.out⟩
   ·go_simp
    refine HCL2.out.mono ?_
    rintro e w3 ⟨v3,rfl,he3,hk3,hb3⟩
    have hbW:Below W.heap.size W w3:=(Below.drew (Below.refl _ _)).trans (hb3:Below W.heap.size W.drew w3)
    obtain⟨a3,c3,rfl⟩:=xag he3
    have hcc:=(HP.out.bx.cell)
    have hw3:w3.cell? ⟨w.heap.size,0,none⟩=some _:=xaa hbW hcc
    have hba3:Below W.heap.size W (w3.alloc (.cells #[.slice a3 p.length c3] 27)):=hbW.alloc hbW.size _
    have hw4:(w3.alloc (.cells #[.slice a3 p.length c3] 27)).cell? ⟨w.heap.size,0,none⟩=some _:=xaa hba3 hcc
    obtain⟨v5,w5,hr5,ho5,hg5,hl5⟩:=xex (w3.alloc (.cells #[.slice a3 p.length c3] 27)) (w.heap.size+1) 238 (.slice av vs.length cv) (.slice a3 p.length c3) vs w3.heap.size 1 (HP.out.row.below hba3) (by simp) rfl HVL.out (by have:=hba3.size;have:=HP.out.bx.lt;omega)
    obtain⟨hst,hkp,hb5⟩:=HP.out.step hbW he3 hk3 ho5 hg5 hl5
    have f5c:=hb5.cell
    have f5f:=hb5.frozen
    obtain⟨a5,c5,hq5⟩:=ho5.slice
    rw[List.length_append,List.length_singleton] at hq5
    subst hq5
    rw[← HNX.out] at hst
    have HN:Hid (xuM w w.heap.size (xbp N l) (k+1) (xmj w.heap.size (.slice a5 (vs.length+1) c5)) (w5.setCell ⟨w.heap.size,0,none⟩ (.slice a5 (vs.length+1) c5))∧KeepsS (xmj w.heap.size (.slice av vs.length cv)) (xmj w.heap.size (.slice a5 (vs.length+1) c5)) W (w5.setCell ⟨w.heap.size,0,none⟩ (.slice a5 (vs.length+1) c5))):=lH ⟨⟨_,_,hst,fun b=>Iff.rfl⟩,hkp⟩
    clear hst hkp hb5 ho5 hg5 hl5 he3 hk3 hb3 hbW hba3 hcc
    go_wp2_with fail
    try simp only[Act.put,zsA,zsB,zsC]
    refine wpAny_ready (rs:=[0,3]) (by kernel_rfl) (by simp) ?_
    refine AllReady.cons rfl (fun K hK=>?_) (AllReady.cons rfl (fun K hK=>?_) AllReady.nil)
    ·go_simp
     refine hK _ _ ?_
     clear hK K
     try simp only[Act.put,zsA,zsB,zsC]
     refine wpAny_ready (rs:=[3]) (by kernel_rfl) (by simp) ?_
     refine AllReady.cons rfl (fun K hK=>?_) AllReady.nil
     go_simp
     refine hK _ _ ?_
     clear hK K
     try simp only[Act.put,zsA,zsB,zsC]
     refine wpAny_ready (rs:=[4]) (by kernel_rfl) (by simp) ?_
     refine AllReady.cons rfl (fun K hK=>?_) AllReady.nil
     refine Lib.wp_append_run _ _ _ _ _ rfl _ _ rfl rfl _ _ hr5 ?_
     refine hK _ _ ?_
     clear hK K
     try simp only[Act.put,zsA,zsB,zsC]
     refine wpAny_ready (rs:=[5]) (by kernel_rfl) (by simp) ?_
     refine AllReady.cons rfl (fun K hK=>?_) AllReady.nil
     go_simp
     refine hK _ _ ?_
     clear hK K
     try simp only[Act.put,zsA,zsB,zsC]
     refine wpAny_done (by kernel_rfl) ?_ _
     exact⟨_,HN.out⟩
    ·go_simp
     refine hK _ _ ?_
     clear hK K
     try simp only[Act.put,zsA,zsB,zsC]
     refine wpAny_ready (rs:=[0]) (by kernel_rfl) (by simp) ?_
     refine AllReady.cons rfl (fun K hK=>?_) AllReady.nil
     go_simp
     refine hK _ _ ?_
     clear hK K
     try simp only[Act.put,zsA,zsB,zsC]
     refine wpAny_ready (rs:=[4]) (by kernel_rfl) (by simp) ?_
     refine AllReady.cons rfl (fun K hK=>?_) AllReady.nil
     refine Lib.wp_append_run _ _ _ _ _ rfl _ _ rfl rfl _ _ hr5 ?_
     refine hK _ _ ?_
     clear hK K
     try simp only[Act.put,zsA,zsB,zsC]
     refine wpAny_ready (rs:=[5]) (by kernel_rfl) (by simp) ?_
     refine AllReady.cons rfl (fun K hK=>?_) AllReady.nil
     go_simp
     refine hK _ _ ?_
     clear hK K
     try simp only[Act.put,zsA,zsB,zsC]
     refine wpAny_done (by kernel_rfl) ?_ _
     exact⟨_,HN.out⟩
  case done =>
   rintro D S W hD hSD ⟨vo,vs,hP,hS⟩ _ hDW
   rw[List.take_length] at hP
   obtain⟨av,cv,rfl⟩:=hP.row.slice
   have hvc:=hP.bx.cell
   have HH:=lH (And.intro hD (And.intro hDW hP))
   clear hP hS hDW hD
   gi_wp2
   obtain⟨h1,h2,h3⟩:=HH.out
   refine⟨by simp,.inl ⟨_,_,rfl,run_takeDeferred h2,?_⟩⟩
   have hR:=h3.grown (grownBy_putObj' _ D (.deferred none)) (fun r e=>by cases e;exact⟨by omega,_,h2,rfl⟩)
   exact⟨_,results_tmp rfl _ _ _,_,rfl,by rw[HZ.out];exact⟨vs,hR.row.valsAt,hR.pcs⟩,hR.bel⟩
end Go.Proofs.YtjinnigjfopbcaaGreatDoor
namespace Go.Proofs.YtjinnigjfopbcaaGreatDoor
set_option linter.unusedVariables false
set_option linter.unusedSimpArgs false
open Go.RowKit
set_option maxRecDepth 20000
theorem xkK (e:En) (w:World):Calls Tryz.prog 202 #[.agg (eC e)] w fun x w'=>x=.returned (.bool (decide (e.rn=0)))∧Below w.heap.size w w':=by
 obtain⟨i,o,l,r⟩:=e
 unfold eC
 dsimp only
 have hd:(r == 0)=decide (r=0):=by rw[Bool.eq_iff_iff];simp
 go_enter Tryz.func202,Tryz.ntmps202
 go_wp2_with fail
 go_ret
 exact⟨xin (by first|exact hd|rfl|simp),by go_grown⟩
def xxp (l:List En) (w:World) (x:Ending) (w':World):Prop:=∃ r:Int,x=.returned (.int .i64 r)∧decide (0≤r)=decide (xaj l≠[])∧Below w.heap.size w w'
theorem xjc {l:List En} (i:Nat) (e:En) (h:l[i]?=some e):xaj (l.take (i+1))=xaj (l.take i)++xaj [e]:=by
 unfold xaj
 rw[List.take_add_one,h,List.filter_append]
 rfl
theorem xjJ {l:List En} (i:Nat) (e:En) (h:l[i]?=some e) (hr:e.rn=0):xaj l≠[]:=by
 intro h0
 unfold xaj at h0
 rw[List.filter_eq_nil_iff] at h0
 exact h0 e (List.mem_of_getElem? h) (by simpa using hr)
theorem xre (v:Value) (l:List En) (w:World) (hv:xak w v l) (hl:l.length≤100000):Calls Tryz.prog 59 #[v,.func (.func 202) #[] #[]] w (xxp l w):=by
 obtain⟨a,cap,rfl,h1,h2,hc⟩:=hv
 have HC:=lH hc
 clear hc
 go_enter Tryz.func59,Tryz.ntmps59
 go_wp2_with fail
 go_loopw [8] (fun s wr=>∃ i:Nat,i≤l.length∧s=.int .i64 i∧Hid (xaj (l.take i)=[])∧Below w.heap.size w wr) (fun s _=>l.length - (intOf s).toNat)
 case atStart=>exact⟨0,Nat.zero_le _,rfl,lH rfl,Below.refl _ _⟩
 case round =>
  obtain⟨i,hi,rfl,HM,hbw⟩:=hrel
  by_cases hlt:i<l.length
  ·obtain⟨t,ht⟩:∃ t,l[i]?=some t:=⟨_,List.getElem?_eq_getElem hlt⟩
   obtain⟨g,off,rfl,hg,hcs⟩:=HC.out i t ht
   obtain⟨l0,l1,l2,l3⟩:=xdI hbw hcs
   have hi2:(i:Int)<(l.length:Int):=by omega
   have HT:=lH ht
   have HE:=lH (xkK t wr)
   have HTK:=lH (xjc i t ht)
   have HSM:=lH (xjJ i t ht)
   clear ht hcs
   obtain⟨p1,p2,p3,p4⟩:=t
   unfold eC at HE
   dsimp only at l0 l1 l2 l3 HE HTK HSM
   by_cases hp:p4=0
   ·have HP:=lH (HSM.out hp)
    rw[decide_eq_true hp] at HE
    clear hp
    go_wp2_with fail
    refine HE.out.mono ?_
    rintro e w1 ⟨rfl,hb⟩
    have hbw1:=hbw.trans (hb.mono hbw.size)
    clear hb hbw l0 l1 l2 l3 HE
    go_wp2_with fail
    go_ret
    exact⟨i,rfl,by rw[decide_eq_true HP.out,decide_eq_true (by omega)],hbw1⟩
   ·have HP:Hid (xaj (l.take (i+1))=[]):=lH (by rw[HTK.out,HM.out];unfold xaj;simp[hp])
    rw[decide_eq_false hp] at HE
    clear hp
    go_wp2_with fail
    refine HE.out.mono ?_
    rintro e w1 ⟨rfl,hb⟩
    have hbw1:=hbw.trans (hb.mono hbw.size)
    clear hb hbw l0 l1 l2 l3 HE
    go_wp2_with fail
    go_roundw
    case rel=>exact⟨i+1,by omega,by go_num,HP,hbw1⟩
    case measure=>simp[intOf];omega
  ·obtain rfl:i=l.length:=by omega
   rw[List.take_length] at HM
   go_wp2_with fail
   go_ret
   exact⟨-1,rfl,by rw[HM.out];decide,hbw⟩
theorem xib (v:Value) (l:List En) (w:World) (hv:xak w v l) (hl:l.length≤100000):Calls Tryz.prog 172 #[v,.func (.func 202) #[] #[]] w fun x w'=>x=.returned (.bool (decide (xaj l≠[])))∧Below w.heap.size w w':=by
 have HI:=lH (xre v l w hv hl)
 obtain⟨av,cv,rfl⟩:=xag hv
 clear hv
 go_enter Tryz.func172,Tryz.ntmps172
 go_wp2_with fail
 refine HI.out.mono ?_
 rintro x w1 ⟨r,rfl,hr,hb⟩
 have HR:=lH hr
 clear hr
 go_wp2_with fail
 go_ret
 exact⟨xin HR.out,hb⟩
def xo8 (l:List En) (b:Int):Int:=if b<1∨16257<b then 2 else if xaC l≠0 then xaC l else if xaj l≠[] then 14 else 0
theorem xkP (v:Value) (l:List En) (b:Int) (w:World) (hv:xak w v l) (hm:xay l) (hl:l.length≤100000) (hb:-9223372036854775808≤b∧b≤9223372036854775807) :
  Calls Tryz.prog 134 #[v,.int .i64 b] w fun x w'=>x=.returned (.int .i64 (xo8 l b))∧Below w.heap.size w w':=by
 unfold xo8
 have HR:=lH (xcm v l w hv hm)
 have HL:=lH (fun X (hX:Below w.heap.size w X)=>xib v l X (hv.below hX) hl)
 obtain⟨av,cv,rfl⟩:=xag hv
 clear hv
 by_cases h1:b<1
 ·rw[if_pos (Or.inl h1)]
  have d1:decide (b<1)=true:=decide_eq_true h1
  clear h1 HR HL
  go_enter Tryz.func134,Tryz.ntmps134
  go_wp2_with fail
  go_ret
  exact⟨rfl,Below.refl _ _⟩
 by_cases h2:16257<b
 ·rw[if_pos (Or.inr h2)]
  have d1:decide (b<1)=false:=decide_eq_false h1
  have d2:decide (16257<b)=true:=decide_eq_true h2
  clear HR HL
  go_enter Tryz.func134,Tryz.ntmps134
  go_wp2_with fail
  go_ret
  exact⟨rfl,Below.refl _ _⟩
 rw[if_neg (by omega)]
 have d1:decide (b<1)=false:=decide_eq_false h1
 have d2:decide (16257<b)=false:=decide_eq_false h2
 by_cases h3:xaC l=0
 ·rw[if_neg (by simpa using h3)]
  rw[h3] at HR
  clear h3
  by_cases h4:xaj l≠[]
  ·rw[if_pos h4]
   rw[decide_eq_true h4] at HL
   clear h4
   go_enter Tryz.func134,Tryz.ntmps134
   go_wp2_with fail
   refine HR.out.mono ?_
   rintro x w1 ⟨rfl,hb1⟩
   have HB1:=lH hb1
   clear hb1
   go_wp2_with fail
   refine(HL.out _ HB1.out).mono ?_
   rintro x w2 ⟨rfl,hb2⟩
   have HB2:=lH (HB1.out.trans (hb2.mono HB1.out.size))
   clear hb2
   go_wp2_with fail
   go_ret
   exact⟨rfl,HB2.out⟩
  ·rw[if_neg h4]
   rw[decide_eq_false h4] at HL
   clear h4
   go_enter Tryz.func134,Tryz.ntmps134
   go_wp2_with fail
   refine HR.out.mono ?_
   rintro x w1 ⟨rfl,hb1⟩
   have HB1:=lH hb1
   clear hb1
   go_wp2_with fail
   refine(HL.out _ HB1.out).mono ?_
   rintro x w2 ⟨rfl,hb2⟩
   have HB2:=lH (HB1.out.trans (hb2.mono HB1.out.size))
   clear hb2
   go_wp2_with fail
   go_ret
   exact⟨rfl,HB2.out⟩
 ·rw[if_pos h3]
  have hq:(xaC l != 0)=true:=by simpa using h3
  generalize xaC l=q at *
  clear h3
  go_enter Tryz.func134,Tryz.ntmps134
  go_wp2_with fail
  refine HR.out.mono ?_
  rintro x w1 ⟨rfl,hb1⟩
  have HB1:=lH hb1
  clear hb1
  go_wp2_with fail
  go_ret
  exact⟨rfl,HB1.out⟩
theorem xl9 (ps:List (List En)) (k:Nat) (p:List En) (h:ps[k]?=some p):xaw 0 (ps.take (k+1))=xaw 0 (ps.take k)++[⟨(gS p 0).id,(xaA (ps.take k)).length,(xaq p).length,0⟩]:=by
 rw[List.take_add_one,h,Option.toList_some,xdz,Nat.zero_add]
 rfl
theorem xkQ (ps:List (List En)) (k:Nat) (p:List En) (h:ps[k]?=some p):xaA (ps.take (k+1))=xaA (ps.take k)++xaq p:=by
 rw[List.take_add_one,h,Option.toList_some,xdO]
 simp[xaA]
theorem xtw {p:List En} (hr:xaC p=0) (hl:p.length≤1000):xjC p=0∧xmm p=str (xaq p)∧xez p=(xaq p).length:=by
 have h:=(xb5 p).2
 have h1:xjC p=0:=by unfold xjC;rw[if_pos hr,if_neg (by omega)]
 refine⟨h1,?_,?_⟩
 ·unfold xmm;rw[if_pos h1]
 ·unfold xez;rw[if_pos hr]
theorem xk0 (ps:List (List En)) (k:Nat):(xaA (ps.take k)).length≤(xaA ps).length:=by
 have h:=xdO (ps.take k) (ps.drop k)
 rw[List.take_append_drop] at h
 rw[h,List.length_append]
 omega
theorem xh8 (w:World) (e:En) (T:TypeId):xak (w.alloc (.cells (eC e) T)) (.slice (some ⟨w.heap.size,0,none⟩) 1 1) [e]:=by
 refine⟨_,1,rfl,by simp,by unfold maxLen;omega,fun k t ht=>?_⟩
 cases k with
 | zero =>
  simp at ht
  subst ht
  obtain⟨h0,h1,h2,h3⟩:=EAt.made w e T
  exact⟨w.heap.size,0,rfl,by simp,by simpa using h0,by simpa using h1,by simpa using h2,by simpa using h3⟩
 | succ k=>simp at ht
theorem xb6 {fn:Func} {t u v x:Tmp} (h:fn.results=#[.tmp t,.tmp u,.tmp v,.tmp x]) (tmps:Array Value) (P:Program) (w:World) :
  (results fn tmps).run P w=.ok (.tuple #[tmps.getD t undef,tmps.getD u undef,tmps.getD v undef,tmps.getD x undef]) w:=by
 simp[results,h]
def xmR (l:List En) (budget:Int) (w:World) (e:Ending) (w':World):Prop:=∃ v',e=.returned (.tuple #[v',.string (xam l budget).text,.int .i64 (xam l budget).size,.int .i64 (xam l budget).err])∧xak w' v' (xam l budget).root∧Below w.heap.size w w'
theorem xp7 (l:List En) (budget:Int) (f n:Nat):goS l budget (f+1) n=if xpf budget (xbp n l) then some n else goS l budget f (2*n):=rfl
theorem xiP {l:List En} (n:Nat) (hn:1≤n) (hl:l.length≤150) (budget:Int):xpf budget (xbp n l)=decide (xez (xaw 0 (xbp n l))≤budget):=by
 unfold xpf
 rw[decide_eq_true,Bool.true_and]
 intro p hp
 have h1:=(xb5 p).2
 have h2:p.length≤l.length:=by
  obtain⟨P1,P2,he⟩:=List.append_of_mem hp
  rw[← xb4 n hn l,he]
  simp
  omega
 omega
theorem xl0 {l:List En} {b:Int} (h:¬ (b<1∨16257<b)) (h1:xaC l=0) (h2:xaj l=[]) (h3:xez l≤b):xam l b=⟨l,noB,0,0⟩:=by unfold xam;rw[if_neg h,if_neg (by simpa using h1),if_neg (by simpa using h2),if_pos h3]
theorem xkY {l:List En} {b:Int} {n:Nat} (h:¬ (b<1∨16257<b)) (h1:xaC l=0) (h2:xaj l=[]) (h3:¬ xez l≤b) (h4:goS l b 13 1=some n):xam l b=⟨xaw 0 (xbp n l),str (xaA (xbp n l)),n,0⟩:=by unfold xam;rw[if_neg h,if_neg (by simpa using h1),if_neg (by simpa using h2),if_neg h3,h4]
theorem xla {l:List En} {b:Int} (h:¬ (b<1∨16257<b)) (h1:xaC l=0) (h2:xaj l=[]) (h3:¬ xez l≤b) (h4:goS l b 13 1=none):xam l b=⟨[],noB,0,15⟩:=by unfold xam;rw[if_neg h,if_neg (by simpa using h1),if_neg (by simpa using h2),if_neg h3,h4]
theorem xuf:∀ j,j<14→(2 ^ (13 - j)≤4096↔1≤j)∧1≤2 ^ (13 - j)∧2 ^ (13 - j)≤8192:=by decide
theorem xpQ:∀ j,j<13→2*2 ^ (13 - (j+1))=2 ^ (13 - j):=by decide
theorem xtP:(Tryz.prog.info? 74).map (fun i=>(i.zero,i.size,i.bytes))=some (some (.agg #[.int .u64 0,.int .u64 0,.int .u32 0,.int .u32 0]),4,24):=by kernel_rfl
theorem xtH {l:List En} {b:Int} (h:xo8 l b≠0):xam l b=⟨[],noB,0,xo8 l b⟩:=by
 unfold xo8 at h ⊢
 unfold xam
 by_cases h1:b<1∨16257<b
 ·rw[if_pos h1,if_pos h1]
 rw[if_neg h1] at h ⊢
 rw[if_neg h1]
 by_cases h2:xaC l≠0
 ·rw[if_pos h2,if_pos h2]
 rw[if_neg h2] at h ⊢
 rw[if_neg h2]
 by_cases h3:xaj l≠[]
 ·rw[if_pos h3,if_pos h3]
 rw[if_neg h3] at h
 exact absurd rfl h
theorem xqK {l:List En} {b:Int} (h:xo8 l b=0):¬ (b<1∨16257<b)∧xaC l=0∧xaj l=[]:=by
 unfold xo8 at h
 by_cases h1:b<1∨16257<b
 ·rw[if_pos h1] at h;cases h
 rw[if_neg h1] at h
 by_cases h2:xaC l≠0
 ·rw[if_pos h2] at h;exact absurd h h2
 rw[if_neg h2] at h
 by_cases h3:xaj l≠[]
 ·rw[if_pos h3] at h;cases h
 exact⟨h1,Classical.not_not.1 h2,Classical.not_not.1 h3⟩
def bI (s:ByteArray):List Int:=s.data.toList.map (fun c=>(c.toNat:Int))
theorem xpC (s:ByteArray):Lib.strCells s=(bI s).map (Value.int .u8):=by unfold Lib.strCells bI;rw[List.map_map];rfl
theorem xo1 (a b:ByteArray):bI (a++b)=bI a++bI b:=by unfold bI;rw[ByteArray.data_append,Array.toList_append,List.map_append]
theorem xdN (s:ByteArray):(bI s).length=s.size:=by unfold bI;rw[List.length_map,Array.length_toList];rfl
theorem xvF (s:ByteArray):str (bI s)=s:=by
 apply ByteArray.ext
 apply Array.ext'
 rw[xbE]
 unfold bI
 rw[List.map_map]
 conv=>rhs;rw[← List.map_id s.data.toList]
 refine List.map_congr_left (fun c _=>?_)
 simp
theorem xh7 (W:World) (B:Nat) (ty:TypeId) (v:Value) (s t:ByteArray) (hown:Own W B v (bI s)) (hl:s.size+t.size≤1000000000) (hB:B≤W.heap.size) :
  ∃ v' w',(Builtin.append_ #[23,9] ty #[v,.string t]).run Tryz.prog W=.ok v' w'∧Own w' B v' (bI (s++t))∧W.grownBy w' v.ownBlock:=by
 obtain⟨i0,hi,hz0,hz1,hz2⟩:=xao xj6
 have ho:W.ownsRow B 5 1 v s.size ((bI s).map (Value.int .u8)):=by rw[← xdN];exact hown
 obtain⟨v',w',hr,h2,h3,h4⟩:=Lib.run_append_own_string (P:=Tryz.prog) W B 23 9 ty 5 i0 Tryz.underlying23 Tryz.underlying9 hi hz0 hz1 hz2 v s.size _ ho t (by unfold maxLen;omega) (by omega) hB
 refine⟨v',w',hr,?_,h3⟩
 unfold Own
 rw[xdN,ByteArray.size_append,xo1,List.map_append,← xpC t]
 exact h2
theorem xgn {w:World} {B B':Nat} {v u:Value} {l:List En} {t:List Int} (h:xa1 w B 74 v l) (h':Own w B' u t):u.ownBlock=none∨u.ownBlock≠v.ownBlock:=by
 rcases h.2 with ⟨rfl,_⟩|⟨g,cap,cur,rfl,_,hh,_⟩
 ·cases hu:u.ownBlock with
  | none=>exact .inl rfl
  | some k=>exact .inr (by simp[Value.ownBlock])
 ·rcases h'.2 with ⟨rfl,_⟩|⟨g',cap',cur',rfl,_,hh',_⟩
  ·exact .inl rfl
  ·refine .inr (fun e=>?_)
   have e':g'=g:=by simpa[Value.ownBlock] using e
   subst e'
   rw[hh] at hh'
   have:=hh'
   simp at this
theorem xlB {w:World} {B B':Nat} {v u:Value} {l:List En} {t:List Int} (h:xa1 w B 74 v l) (h':Own w B' u t):v.ownBlock=none∨v.ownBlock≠u.ownBlock:=by
 rcases xgn h h' with h1|h1
 ·cases hv:v.ownBlock with
  | none=>exact .inl rfl
  | some k=>exact .inr (by rw[h1];simp)
 ·exact .inr (fun e=>h1 e.symm)
theorem Own.slice {w:World} {B:Nat} {v:Value} {l:List Int} (h:Own w B v l):∃ a cap,v=.slice a l.length cap:=by
 obtain⟨a,cap,e,_⟩:=h.bytesAt
 exact⟨a,cap,e⟩
theorem xmT (w:World) (B:Nat):Own w B (.slice none 0 0) []:=World.ownsRow_nil _ _ _ _
theorem xjD (v:Value) (l:List En) (b:Int) (w:World) (hv:xak w v l) (hm:xay l) (hl:l.length≤150) (hb:-9223372036854775808≤b∧b≤9223372036854775807) :
  Calls Tryz.prog 68 #[v,.int .i64 b] w (xmR l b w):=by
 unfold xmR
 have HCK:=lH (xkP v l b w hv hm (by omega) hb)
 by_cases h1:xo8 l b=0
 ·obtain⟨g1,g2,g3⟩:=xqK h1
  rw[h1] at HCK
  have HSZ:=lH (fun X (hX:Below w.heap.size w X)=>xhY v l X (hv.below hX) hm (by omega))
  by_cases h4:xez l≤b
  ·rw[xl0 g1 g2 g3 h4]
   have HCL:=lH (fun X (hX:Below w.heap.size w X)=>xgq v l X (hv.below hX) (by omega))
   unfold xee at HCL
   have d4:decide (xez l≤b)=true:=decide_eq_true h4
   obtain⟨av,cv,rfl⟩:=xag hv
   clear hv h1 g1 g2 g3 h4
   go_enter Tryz.func68,Tryz.ntmps68
   go_wp2_with fail
   go_step3
   go_wp2_with fail
   refine HCK.out.mono ?_
   rintro e w1 ⟨rfl,hb1⟩
   have HB1:=lH hb1
   clear hb1
   go_wp2_with fail
   refine(HSZ.out _ HB1.out).mono ?_
   rintro e w2 ⟨rfl,hb2⟩
   have HB2:=lH (HB1.out.trans (hb2.mono HB1.out.size))
   clear hb2
   go_wp2_with fail
   refine(HCL.out _ HB2.out).mono ?_
   rintro e w3 ⟨v3,rfl,he3,_,hb3⟩
   have HE3:=lH he3
   have HB3:=lH (HB2.out.trans (hb3.mono HB2.out.size))
   obtain⟨a3,c3,rfl⟩:=xag he3
   clear hb3 he3
   go_wp2_with fail
   try rw[Exit.noGoto_ret]
   refine bodyPost_ret (xb6 rfl _ _ _) rfl ⟨_,rfl,HE3.out,HB3.out⟩
  ·have HGO:=lH (fun(n:Nat) (hn:1≤n)=>xiP (l:=l) n hn hl b)
   have HS:=lH (fun n h=>xkY (l:=l) (b:=b) (n:=n) g1 g2 g3 h4 h)
   have HNO:=lH (fun h=>xla (l:=l) (b:=b) g1 g2 g3 h4 h)
   have HCU:=lH (fun(N:Nat) X (hN:1≤N∧N≤100000) (hX:Below w.heap.size w X)=>xmV v l N X (hv.below hX) hm (by omega) (by omega))
   have d4:decide (xez l≤b)=false:=decide_eq_false h4
   have HM:=lH hm
   have HR:=lH g2
   have HLL:=lH g3
   have hLN:l.length≤150:=hl
   obtain⟨av,cv,rfl⟩:=xag hv
   obtain⟨R,hR⟩:∃ R,xam l b=R:=⟨_,rfl⟩
   rw[hR] at HS HNO ⊢
   clear hv h1 g1 g2 g3 h4 hm hR
   go_enter Tryz.func68,Tryz.ntmps68
   go_wp2_with fail
   go_step3
   go_wp2_with fail
   refine HCK.out.mono ?_
   rintro e w1 ⟨rfl,hb1⟩
   have HB1:=lH hb1
   clear hb1
   go_wp2_with fail
   refine(HSZ.out _ HB1.out).mono ?_
   rintro e w2 ⟨rfl,hb2⟩
   have HB2:=lH (HB1.out.trans (hb2.mono HB1.out.size))
   clear hb2
   go_wp2_with fail
   go_step3
   go_wp2_with fail
   go_loopw [9] (fun i wr=>∃ (j N:Nat),i=.int .i64 (N:Int)∧j≤13∧Hid (N=2 ^ (13 - j))∧Hid (goS l b 13 1=goS l b j N)∧Hid (Below w.heap.size w wr)) (fun i _=>8192 - (intOf i).toNat)
   case atStart=>exact⟨13,1,rfl,by omega,lH (by decide),lH rfl,HB2⟩
   case round =>
    obtain⟨j,N,rfl,hj,HN,HGS,HBW⟩:=hrel
    obtain⟨t1,t2,t3⟩:=xuf j (by omega)
    rw[← HN.out] at t1 t2 t3
    cases j with
    | zero =>
     have hi1:¬ (N:Int)≤4096:=by omega
     have HF:=lH (HNO.out (HGS.out.trans rfl))
     clear HN HGS t1
     go_wp2_with fail
     try rw[Exit.noGoto_ret]
     refine bodyPost_ret (xb6 rfl _ _ _) rfl ⟨_,by rw[HF.out];rfl,by rw[HF.out];exact xbb _,HBW.out⟩
    | succ j =>
     have hi1:(N:Int)≤4096:=by omega
     have HG2:=HGS.out
     rw[xp7 l b j N,HGO.out N (by omega)] at HG2
     have hnx:=xpQ j (by omega)
     have HN2:Hid (2*N=2 ^ (13 - j)):=lH (by rw[HN.out];exact hnx)
     have HSN:=lH (HS.out N)
     have HC:=lH (HCU.out N wr ⟨by omega,by omega⟩ HBW.out)
     have HZ:xsn (N:Int) l=xbp N l:=by unfold xsn;rw[if_neg (by omega),Int.toNat_natCast]
     rw[HZ] at HC
     have hgood:=xkl N t2 HM.out HR.out HLL.out
     have hlen:=fun p hp=>xg0 N t2 l p hp
     have hfl:=xb4 N t2 l
     have hbd:=xfj (xbp N l)
     have hcl:=xfg N t2 l
     have hmay:=xiw (o:=0) (ps:=xbp N l) (by rw[hfl];exact HM.out) (fun p hp=>(hlen p hp).1) (fun p hp=>by
      have h1:=(xb5 p).2
      have h2:p.length≤l.length:=by
       obtain⟨P1,P2,he⟩:=List.append_of_mem hp
       rw[← hfl,he]
       simp
       omega
      omega) (by rw[hfl] at hbd;omega)
     have hpl:∀ p ∈ xbp N l,p.length≤150:=fun p hp=>by
      obtain⟨P1,P2,he⟩:=List.append_of_mem hp
      have:p.length≤l.length:=by rw[← hfl,he];simp;omega
      omega
     rw[hfl] at hbd
     generalize xbp N l=ps at *
     have HG:=lH hgood
     have HPL:=lH hpl
     have HMY:=lH hmay
     have HGF:=lH HG2
     have hpn:ps.length≤150:=by omega
     have htx:(xaA ps).length≤7500:=by omega
     have HTT:=lH (xk0 ps)
     have ht3:N≤4096:=by omega
     clear hgood hlen hpl hmay hfl hbd hcl HZ HG2 HGS HN hnx t1 HS HGO HCU
     go_wp2_with fail
     refine HC.out.mono ?_
     rintro e w4 ⟨pv,rfl,hpc,hb4⟩
     have HPC:=lH hpc
     have HB4:=lH (HBW.out.trans (hb4.mono HBW.out.size))
     obtain⟨ap,cp,rfl,hcp,hmp⟩:=hpc.form
     unfold maxLen at hmp
     clear hpc hb4 HC
     go_wp2_with fail
     go_loopw [10,11,36] (fun vo vb i wz=>∃ k:Nat,k≤ps.length∧i=.int .i64 k∧Hid (xa1 wz w4.heap.size 74 vo (xaw 0 (ps.take k)))∧Hid (Own wz w4.heap.size vb (bI (str (xaA (ps.take k)))))∧Hid (Below w4.heap.size w4 wz)) (fun _ _ i _=>ps.length - (intOf i).toNat)
     case atStart=>exact⟨0,Nat.zero_le _,rfl,lH (xbG _ _ _),lH (xmT _ _),lH (Below.refl _ _)⟩
     case round =>
      obtain⟨k,hk,rfl,HO,HOB,HB⟩:=hrel
      by_cases hlt:k<ps.length
      ·obtain⟨p,hp⟩:∃ p,ps[k]?=some p:=⟨_,List.getElem?_eq_getElem hlt⟩
       have hmem:=List.mem_of_getElem? hp
       obtain⟨q1,q2,q3,q4⟩:=HG.out p hmem
       obtain⟨e1,e2,e3⟩:=xtw q2 (by have:=HPL.out p hmem;omega)
       obtain⟨g,off,cap,x,hvx,hg,c0,hx⟩:=HPC.out.at k p hp
       cases hvx
       have d0:=(HB.out.cell (p:=⟨g,off+k,none⟩) hg).trans c0
       have HX:=lH (hx.below HB.out)
       have HEN:=lH (fun X (hX:Below wr.heap.size wr X)=>xit x p X ((hx.below HB.out).below hX) q1 (by have:=HPL.out p hmem;omega))
       rw[e1,e2] at HEN
       have HP:=lH hp
       have hp0:0<p.length:=List.length_pos_iff.2 q4
       obtain⟨gx,ox,cx,rfl,hcx,hgx,hcc⟩:=xfX HX.out 0 hp0
       obtain⟨x0,_,_,_⟩:=hcc 0 (gS p 0) (xke p 0 hp0)
       have hki:(k:Int)<(ps.length:Int):=by omega
       have hpi:(0:Int)<(p.length:Int):=by omega
       have htb:=(xb5 p).2
       have hpb:=HPL.out p hmem
       have htk:=HTT.out k
       have HID:=lH (q1 (gS p 0) (xrM p 0 hp0))
       obtain⟨avo,cvo,rfl⟩:=xag HO.out.ensAt
       obtain⟨avb,cvb,rfl⟩:=HOB.out.slice
       clear c0 hx hp hmem q1 q2 q3 e1 e2 e3 hcc
       go_wp2_with fail
       refine(HEN.out _ (Below.refl _ _)).mono ?_
       rintro e w5 ⟨rfl,hb5⟩
       have hB5:=HB.out.trans (hb5.mono HB.out.size)
       have x2:=(hb5.cell (p:=⟨gx,ox+0*4,none⟩) (xa3 x0)).trans x0
       simp only[Nat.zero_mul,Nat.add_zero] at x2
       have HO5:=lH (HO.out.below hb5)
       have HOB5:=lH (HOB.out.below hb5)
       have HB5:=lH hB5
       obtain⟨T,hT⟩:∃ T,(xaA (ps.take k)).length=T:=⟨_,rfl⟩
       obtain⟨q,hq⟩:∃ q,(xaq p).length=q:=⟨_,rfl⟩
       have HRS:=lH (xl9 ps k p HP.out)
       have HTS:=lH (xkQ ps k p HP.out)
       have hbl:(bI (str (xaA (ps.take k)))).length=T:=by rw[xdN,xa9,hT]
       have hs2:(str (xaq p)).size≤6010:=by rw[xa9];omega
       have hw1:IntKind.u64.wrap (T:Int)=(T:Int):=by rw[IntKind.wrap_u64];omega
       have hw2:IntKind.u32.wrap ((str (xaq p)).size:Int)=(q:Int):=by rw[xa9,hq,IntKind.wrap_u32];omega
       have hcat:str (xaA (ps.take k))++str (xaq p)=str (xaA (ps.take (k+1))):=by rw[HTS.out,xlN]
       have hszs:(str (xaA (ps.take k))).size≤7500:=by rw[xa9];omega
       rw[hT,hq] at HRS
       have HCAT:=lH hcat
       rw[hbl] at HOB5 ⊢
       have hba:Below w5.heap.size w5 (w5.alloc (.cells (eC ⟨(gS p 0).id,T,q,0⟩) 74)):=(Below.refl _ _).alloc (Nat.le_refl _) _
       obtain⟨v6,w6,hr6,ho6,hg6⟩:=xeA (w5.alloc (.cells (eC ⟨(gS p 0).id,T,q,0⟩) 74)) w4.heap.size 27 74 27 _ Tryz.underlying27 xtP rfl (.slice avo (xaw 0 (ps.take k)).length cvo) (.slice (some ⟨w5.heap.size,0,none⟩) 1 1) (xaw 0 (ps.take k)) [⟨(gS p 0).id,T,q,0⟩] (HO5.out.below hba) (xh8 _ _ _) (by rw[xbI,List.length_take];simp;omega) (Nat.le_trans hB5.size hba.size)
       rw[← HRS.out] at ho6
       have hob6:Own w6 w4.heap.size (.slice avb T cvb) (bI (str (xaA (ps.take k)))):=World.ownsRow.kept (HOB5.out.below hba) hg6 (xgn (HO5.out.below hba) (HOB5.out.below hba))
       have hb6:=(hB5.trans (hba.mono hB5.size)).grown hg6 (Nat.le_trans hB5.size hba.size) (fun r hr=>(HO5.out.lt r hr).1)
       obtain⟨v7,w7,hr7,ho7,hg7⟩:=xh7 w6 w4.heap.size 23 (.slice avb T cvb) _ (str (xaq p)) hob6 (by omega) hb6.size
       rw[hcat] at ho7
       have HOB7:=lH ho7
       have HO7:Hid (xa1 w7 w4.heap.size 74 v6 (xaw 0 (ps.take (k+1)))):=lH (World.ownsRow.kept ho6 hg7 (xlB ho6 hob6))
       have HB7:=lH (hb6.grown hg7 hb6.size (fun r hr=>(World.ownsRow.lt hob6 r hr).1))
       unfold eC at hr6
       dsimp only at hr6
       clear ho6 ho7 hg6 hg7 hba hcat hT hq hb5 hB5 d0 x0 htb htk hob6 hb6 hbl
       generalize str (xaA (ps.take k))=st at *
       generalize str (xaq p)=sp at *
       go_wp2_with (first|(at_builtin;first|refine Lib.wpList_append_run _ rfl _ _ _ _ rfl _ _ rfl rfl _ _ hr6 ?_|refine Lib.wpList_append_run _ rfl _ _ _ _ rfl _ _ rfl rfl _ _ hr7 ?_)|fail)
       go_roundw
       case rel=>exact⟨k+1,by omega,by go_num,HO7,HOB7,HB7⟩
       case measure=>simp[intOf];omega
      ·obtain rfl:k=ps.length:=by omega
       rw[List.take_length] at HO HOB
       have HSZ2:=lH (xhY u10 (xaw 0 ps) wr HO.out.ensAt HMY.out (by rw[xbI];omega))
       obtain⟨a9,c9,rfl⟩:=xag HO.out.ensAt
       by_cases hfit:xez (xaw 0 ps)≤b
       ·have hgf:=HGF.out
        rw[if_pos (decide_eq_true hfit)] at hgf
        have HF:=lH (HSN.out hgf)
        have d5:decide (xez (xaw 0 ps)≤b)=true:=decide_eq_true hfit
        clear hgf hfit
        go_wp2_with fail
        refine HSZ2.out.mono ?_
        rintro e w5 ⟨rfl,hb5⟩
        have HE5:=lH (HO.out.ensAt.below hb5)
        have hob5:=(HOB.out.below hb5)
        have HB5:=lH (HB4.out.trans ((HB.out.trans (hb5.mono HB.out.size)).mono HB4.out.size))
        have hrs:=fun X (hX:Below w5.heap.size w5 X)=>xgT X _ _ (hob5.bytesAt.below hX)
        rw[xvF] at hrs
        obtain⟨a8,c8,rfl⟩:=hob5.slice
        have HRS2:=lH hrs
        have hr0:=hrs w5 (Below.refl _ _)
        have hr1:=hrs w5.drew (Below.drew (Below.refl _ _))
        clear hb5 hob5 hrs
        go_wp2_with fail
        clear HRS2 hr0
        go_region
        all_goals (go_wp2_with fail)
        all_goals (try rw[Exit.noGoto_ret])
        all_goals refine bodyPost_ret (xb6 rfl _ _ _) rfl ⟨_,by rw[HF.out];rfl,by rw[HF.out];exact HE5.out.below (Below.drew (Below.refl _ _)),HB5.out.drew⟩
       ·have hgf:=HGF.out
        rw[if_neg (by rw[decide_eq_false hfit];simp)] at hgf
        have HG3:=lH hgf
        have d5:decide (xez (xaw 0 ps)≤b)=false:=decide_eq_false hfit
        have hw:IntKind.i64.wrap ((N:Int)*2)=((2*N:Nat):Int):=by rw[IntKind.wrap_i64] <;> omega
        clear hgf hfit
        go_wp2_with fail
        refine HSZ2.out.mono ?_
        rintro e w5 ⟨rfl,hb5⟩
        have HB5:=lH (HB4.out.trans ((HB.out.trans (hb5.mono HB.out.size)).mono HB4.out.size))
        clear hb5
        go_wp2_with fail
        go_roundw
        case rel=>exact⟨j,2*N,by first|rfl|go_num|(push_cast;rfl),by omega,HN2,HG3,HB5⟩
        case measure=>simp[intOf];omega
 ·rw[xtH h1]
  have hq:(xo8 l b != 0)=true:=by simpa using h1
  generalize xo8 l b=q at *
  obtain⟨av,cv,rfl⟩:=xag hv
  clear h1 hv
  go_enter Tryz.func68,Tryz.ntmps68
  go_wp2_with fail
  go_step3
  go_wp2_with fail
  refine HCK.out.mono ?_
  rintro e w1 ⟨rfl,hb1⟩
  have HB1:=lH hb1
  clear hb1
  go_wp2_with fail
  try rw[Exit.noGoto_ret]
  refine bodyPost_ret (xb6 rfl _ _ _) rfl ⟨_,rfl,xbb _,HB1.out⟩
end Go.Proofs.YtjinnigjfopbcaaGreatDoor
