/- Wk Wl. -/
import Derived.Test.YtjkgkmmkehnggaaGreatDoorYs
import Derived.Test.YtjkgkmmkehnggaaGreatDoorYZ2
set_option maxHeartbeats 16000000
namespace Go.Proofs.YtjkgkmmkehnggaaGreatDoor
set_option linter.unusedVariables false
set_option linter.unusedSimpArgs false
open Go.RowKit Go.Shelf Go.Maps
set_option maxRecDepth 20000
attribute [local go_sem] Oper.semAt_some
def xmt (R:List Int) (left:Lit→Bool) (ss:List Int):Prop:=ss.Nodup∧∀ x,x ∈ ss↔(x ∈ R∧left (klU x)=false)
theorem xmt.start (R:List Int):xmt R (has (xtC R)) []:=⟨List.nodup_nil,fun x=>by rw[xnU];by_cases h:x ∈ R <;> simp[h]⟩
theorem xmt.step {R ss:List Int} {left:Lit→Bool} (h:xmt R left ss) {x:Int} (hx:x ∈ R) (hl:left (klU x)=true):xmt R (fun z=>left z && !z.sameKey (klU x)) (ss++[x]):=by
 have hnew:x ∉ ss:=fun hm=>by have:=((h.2 x).1 hm).2;rw[hl] at this;cases this
 refine⟨List.nodup_append.2 ⟨h.1,by simp,fun a ha b hb=>by simp at hb;subst hb;exact fun e=>hnew (e ▸ ha)⟩,fun y=>?_⟩
 by_cases hy:y=x
 ·subst hy;simp[hx,klU,Lit.sameKey]
 ·simp[h.2 y,hy,klU,Lit.sameKey]
theorem xso {ss:List Int} (hn:ss.Nodup) (hb:∀ x ∈ ss,0≤x∧x≤255):ss.length≤256:=by
 have:=xcQ (b:=(List.range 256).map (fun k:Nat=>(k:Int))) hn (fun x hx=>List.mem_map.2 ⟨x.toNat,List.mem_range.2 (by have:=hb x hx;omega),by have:=hb x hx;omega⟩)
 simpa using this
theorem xnd {key:Value} {kl:Lit} (h:keyOf Tryz.prog 5 key=some kl):∃ x:Int,key=.int .u8 x∧kl=klU x:=by
 have hk:=Tryz.underlying5
 cases key <;> simp[keyOf,hk,mapKey] at h
 rename_i q a
 obtain⟨⟨rfl,_⟩,rfl⟩:=h
 exact⟨a,rfl,rfl⟩
theorem xBH {x y:Int} (h:Value.int .u8 x=Value.int .u8 y):x=y:=by simpa using h
theorem xlC (n:Nat) (hn:1≤n) (Bm b:Nat) (R:List Int) (w:World) (hm:w.cell? ⟨Bm,0,none⟩=some (.map (some b))) (hB:xbr w b R) :
  SeqStopsK Fence.wide n Tryz.prog 49 #[.pointer (some ⟨Bm,0,none⟩)] (fun x:Int=>#[.int .u8 x]) KeepsWalks (fun ss=>ss.Nodup∧∀ x,x ∈ ss↔x ∈ R) (fun _=>True) 256 w:=by
 intro l J Jx W hW hJ hJx hY h0
 have hB2:=hB.below hW hB.lt
 have hm2:=(hW.cell (p:=⟨Bm,0,none⟩) (World.block_lt_of_cell? w _ hm)).trans hm
 show CallsIn Fence.wide n Tryz.prog _ #[.func (.yield l) #[] #[],.pointer (some ⟨Bm,0,none⟩)] W _
 refine callsIn_of_wp Tryz.func49 rfl trivial ?_ rfl
 simp only[Tryz.ntmps49,List.size_toArray,List.length_cons,List.length_nil,Nat.reduceAdd,Nat.reduceSub,Array.replicate_succ,Array.replicate_zero,List.push_toArray,List.append_toArray,List.nil_append,List.cons_append]
 gi_wp2_with (first
  | (gi_at_range;refine wpListIn_range_own _ rfl _ 48 rfl 5 4 xCf Tryz.underlying48 _ b _ _ rfl hB2.2 ?_;intro w0 hrg0 hg0 hs0)
  | gi_in)
 gi_loopw [3] (fun _ wr=>∃ (left:Lit→Bool) (cnt:Nat) (ss:List Int),wr.ranges Tryz.prog 5 (plainElem (H:=Unit) Tryz.prog 4) b W.heap.size R.length (xtC R) left cnt∧xmt R left ss∧J ss wr)
  (fun _ wr=>wr.rangeLeft b W.heap.size)
 case atStart =>
  exact⟨_,_,[],hrg0,xmt.start R,hJ [] W w0 none h0 hg0 (fun r e=>by cases e)⟩
 case round =>
  obtain⟨left,cnt,ss,hrg,hC,hJs⟩:=hrel
  gi_wp2_with (first
   | (gi_at_next;refine wpListIn_next_ranges _ rfl _ rfl 5 xCf (plainElem (H:=Unit) Tryz.prog 4) (Value.int .u8) id (fun key kl hk=>by obtain⟨x,hx,_⟩:=xnd hk;exact⟨x,hx⟩) (fun v _ _=>⟨v,rfl⟩) b W.heap.size R.length _ _ _ rfl hrg ?_ ?_)
   | gi_in)
  ·intro hc0 hl0
   gi_wp2
   go_end0
   exact⟨⟨_,rfl⟩,.inl ⟨ss,⟨hC.1,fun x=>by rw[hC.2 x,hl0];simp⟩,hJs⟩⟩
  ·intro x c kl yd yp w2 cnt2 hkey hlk hv hat hrg2 hlt hg2 hs2 hen
   obtain⟨x',ex,rfl⟩:=xnd hkey
   obtain rfl:x=x':=xBH ex
   have hxR:x ∈ R:=by
    have:=has_true_of_atKey hat
    rw[xnU] at this
    exact of_decide_eq_true this
   have hJ2:J ss w2:=hJ ss wr w2 (some W.heap.size) hJs hg2 (fun r e=>by cases e;exact⟨Nat.le_refl _,hrg.iter_walk⟩)
   have hC2:=hC.step hxR hlk
   have hfew:=xso hC2.1 (fun y hy=>hB.1 y ((hC2.2 y).1 hy).1)
   rw[List.length_append] at hfew
   obtain⟨fn,tmps,assign,body,hy,hR⟩:=hY ss x w2 hJ2 (by simp at hfew;omega)
   clear hs2 hfew
   gi_wp2
   refine hR.mono ?_
   rintro e W3 (⟨rfl,hJ3,hk3⟩|⟨rfl,hJ3⟩)
   ·gi_wp2
    have hrg3:=hrg2.of_walks hk3
    go_roundw
    case rel=>exact⟨_,cnt2,ss++[x],hrg3,hC2,hJ3⟩
    case measure=>rw[hrg3.left_eq,hrg.left_eq];exact hlt
   ·gi_wp2
    exact bodyPost_ret (results_none rfl _ _ _) rfl ⟨⟨_,rfl⟩,.inr ⟨_,trivial,hJ3⟩⟩
theorem xqi (b:Nat) (w:World):Calls Tryz.prog 16 #[.map (some b)] w fun e w'=>e=.returned (.func (.func 49) #[] #[.pointer (some ⟨w.heap.size,0,none⟩)])∧w'=w.alloc (.cells #[.map (some b)] 48):=by
 have hmf:∀ (fn:Fn) (first cap:Array Value) (w:World),(Instr.makeFunc fn first cap).run Tryz.prog w=.ok (.func fn first cap) w:=fun _ _ _ _=>rfl
 go_enter Tryz.func16,Tryz.ntmps16
 go_wp2
 go_ret
 exact⟨rfl,rfl⟩
theorem xgo {B:Nat} {W W':World} {row:Option Nat} (h:W.grownBy W' row) (hr:∀ (j:Nat) (o:Obj),row=some j→W.heap[j]?=some o→∃ c T f,o=.cells c T f):KeepsFrom B W W' :=
 ⟨h.size,fun k o _ hk hc=>(h.block k (Array.getElem?_eq_some_iff.1 hk).1 (fun e=>by obtain⟨c,T,f,rfl⟩:=hr k o e.symm hk;cases hc)).trans hk⟩
theorem xyN:(Tryz.prog.info? 5).map (fun i=>(i.zero,i.size,i.bytes))=some (some (.int .u8 0),1,1):=by kernel_rfl
theorem xwJ (W:World) (B:Nat) (v:Value) (L:List Int) (x:Int) (hown:W.ownsRow B 5 1 v L.length (L.map (Value.int .u8))) (hl:L.length≤100000) (ad:Addr) (c:Nat) (h0:W.cell? ad=some (.int .u8 x)) (hb:B≤W.heap.size) (ty:TypeId) :
  ∃ v' w',(Builtin.append_ #[23,23] ty #[v,.slice (some ad) 1 c]).run Tryz.prog W=.ok v' w'∧w'.ownsRow B 5 1 v' (L.length+1) (L.map (Value.int .u8)++[.int .u8 x])∧W.grownBy w' v.ownBlock:=by
 obtain⟨i0,hi,hz0,hz1,hz2⟩:=xao xyN
 have hnews:∀ j u,([.int .u8 x]:List Value)[j]?=some u→W.cell? (ad.add j)=some u:=by
  intro j u hu
  match j,hu with
  | 0,hu=>simp only[List.getElem?_cons_zero,Option.some.injEq] at hu;rw[← hu,← h0];congr 1
  | j+1,hu=>simp at hu
 have hone:∀ u ∈ ([.int .u8 x]:List Value),u.oneCell'=true:=by
  intro u hu
  simp only[List.mem_cons,List.not_mem_nil,or_false] at hu
  subst hu
  rfl
 obtain⟨v',w',hr,h2,h3,h4⟩:=run_append_own (P:=Tryz.prog) W B 23 ty 5 i0 _ 1 1 Tryz.underlying23 hi hz0 hz1 hz2 rfl (by omega) v L.length (L.map (Value.int .u8)) hown ad 1 c _ rfl hnews hone (by unfold maxLen;omega) (by omega) hb
 exact⟨v',w',hr,h2,h3⟩
theorem xup {W:World} {B B':Nat} {e:TypeId} {z n:Nat} {v:Value} {xs:List Value} (h:W.ownsRow B e z v n xs) (hb:B'≤B):W.ownsRow B' e z v n xs:=by
 obtain⟨h1,h2⟩:=h
 refine⟨h1,?_⟩
 rcases h2 with h2|⟨g,cap,cur,hv,hg,r⟩
 ·exact .inl h2
 ·exact .inr ⟨g,cap,cur,hv,Nat.le_trans hb hg,r⟩
set_option maxRecDepth 100000 in
theorem xwK (b:Nat) (R:List Int) (Bm:Nat) (w:World) (hm:w.cell? ⟨Bm,0,none⟩=some (.map (some b))) (hB:xbr w b R) :
  Calls Tryz.prog 118 #[.slice none 0 0,.func (.func 49) #[] #[.pointer (some ⟨Bm,0,none⟩)]] w
   fun x w'=>∃ v ss,x=.returned v∧Own w' w.heap.size v ss∧(ss.Nodup∧∀ x,x ∈ ss↔x ∈ R)∧Below w.heap.size w w':=by
 have HS:=lH (fun n hn=>xlC n hn Bm b R w hm hB)
 have HRB:=lH hB.1
 clear hm hB
 refine(callsIn_wide (n:=3)).1 ?_
 refine callsIn_of_wp_marks Tryz.func118 rfl trivial ?_ rfl
 simp only[Tryz.ntmps118,List.size_toArray,List.length_cons,List.length_nil,Nat.reduceAdd,Nat.reduceSub,Array.replicate_succ,Array.replicate_zero,List.push_toArray,List.append_toArray,List.nil_append,List.cons_append]
 gi_wp2
 have hB0:Below w.heap.size w (w.alloc (.cells #[.slice none 0 0] 23)):=(Below.refl _ w).alloc (Nat.le_refl _) _
 refine wpIn_rangeFunc_ownH rfl (by omega) (gf:=49) (lb:=#[.pointer (some ⟨Bm,0,none⟩)]) rfl trivial (enters_of Tryz.func49 (by kernel_rfl) rfl)
  (HS.out (3 - 1) (by omega)) walksK_t walksK_b hB0 (fun _=>rfl)
  (fun pre W=>(∃ v,Boxed W w.heap.size 23 v∧W.ownsRow (w.heap.size+1) 5 1 v pre.length (pre.map (Value.int .u8))∧True)∧Below w.heap.size w W)
  (fun _ _ _=>False)
  (OwnFrom.and (Own.from (holdsRow_own (β:=List Int) (w.heap.size+1) w.heap.size 23 5 1 (fun s=>s.length) (fun s=>s.map (Value.int .u8)) (fun _ _=>True)) _) (ownFrom_below (Nat.le_refl _) (by simp)))
  (fun _ _ _ _ _ hs _ _=>hs)
  ⟨⟨.slice none 0 0,Boxed.new w _ _,World.ownsRow_nil _ _ _ _,trivial⟩,hB0⟩
  (fun x a' W=>a'={ tmps:=#[.slice none 0 0,.func (.func 49) #[] #[.pointer (some ⟨Bm,0,none⟩)],.pointer (some ⟨w.heap.size,0,none⟩),undef,.slice none 0 0,.int .u8 x,.func (.func 49) #[] #[.pointer (some ⟨Bm,0,none⟩)],.int .u8 x,undef,undef,undef,undef,undef],defers:=[] })
  (fun x a' _ X Y row hs hg hr=>hs)
  ?assign ?body ?done ?stop
 case assign =>
  rintro lp pre x W K hI hK
  have HK:=lH (hK _ W ((KeepsOthers.refl _).from _) (KeepsWalks.refl _) hI rfl)
  clear hK
  gi_wp2
  exact HK.out
 case body =>
  rintro lp pre x a' W hlp ⟨r,hr⟩ ⟨⟨v,hv,ho,-⟩,hbw⟩ rfl hlt
  have hvc:=hv.cell
  obtain⟨v',w1,hrn,h1,h2⟩:=xwJ (W.alloc (.cells #[.int .u8 x] 5)) (w.heap.size+1) v pre x (World.ownsRow.alloc ho _) (by omega) ⟨W.heap.size,0,none⟩ 1 (by rw[World.cell?_alloc_mark];rfl) (by have:=hbw.size;have:=hv.lt;simp;omega) 23
  have hv1:Boxed w1 w.heap.size 23 v:=(hv.alloc _).kept h2 (hv.not_row (by decide) ho)
  have hf1:=hv1.frozen
  have hv1c:=hv1.cell
  obtain⟨g,cap,rfl⟩:=ownsRow_succ h1
  have HH:=lH (And.intro h1 (And.intro h2 (And.intro hv (And.intro ho (And.intro hbw hv1)))))
  clear h1 h2 hv ho hbw hv1 hr
  gi_wp2_with (first|(gi_at_builtin;refine xxr _ rfl _ _ _ rfl _ _ _ _ rfl rfl _ _ hrn ?_)|fail)
  obtain⟨h1,h2,hv,ho,hbw,hv1⟩:=HH.out
  have hlv:=hv.lt
  have hsz:=hbw.size
  have hb1:Below w.heap.size w (W.alloc (.cells #[.int .u8 x] 5)):=hbw.alloc hsz _
  have hcell:∀ (j:Nat) (o:Obj),v.ownBlock=some j→(W.alloc (.cells #[.int .u8 x] 5)).heap[j]?=some o→∃ c T f,o=.cells c T f:=fun j o hj ho'=>by
   rcases ho.2 with ⟨rfl,_⟩|⟨g',cap',cur,rfl,_,hh,_⟩
   ·cases hj
   ·cases hj
    rw[Below.heap_alloc _ _ _ (Array.getElem?_eq_some_iff.1 hh).1,hh] at ho'
    cases ho'
    exact⟨_,_,_,rfl⟩
  refine⟨?_,?_,⟨_,hv1.set _,?_,trivial⟩,?_⟩
  ·refine KeepsFrom.trans ((KeepsOthers.alloc _ _).from _) (KeepsFrom.trans (xgo h2 hcell) ((KeepsOthers.setCell _ _ _).from _))
  ·exact((KeepsWalks.alloc W (.cells #[.int .u8 x] 5)).trans (KeepsWalks.of_grownBy h2 (fun j o hj ho'=>by obtain⟨c,T,f,rfl⟩:=hcell j o hj ho';rfl))).trans (KeepsWalks.setCell _ _ _)
  ·rw[List.length_append,List.map_append]
   exact World.ownsRow.kept h1 (grownBy_setCell' w1 w.heap.size _) (.inr (hv1.not_row (by decide) h1).symm)
  ·exact(hb1.grown h2 hb1.size (fun r e=>by have:=(World.ownsRow.lt ho r e).1;omega)).setCell (p:=⟨w.heap.size,0,none⟩) (Nat.le_refl _) _
 case done =>
  rintro D zs W hD hS ⟨⟨v,hv,ho,-⟩,hbw⟩ hK
  have hvc:=hv.cell
  have HH:=lH (And.intro hv (And.intro ho hbw))
  have HSS:=lH hS
  clear hv ho hbw hS
  gi_wp2
  refine⟨by simp,.inl ⟨_,_,rfl,run_takeDeferred hK,?_⟩⟩
  obtain⟨hv,ho,hbw⟩:=HH.out
  refine⟨_,results_tmp rfl _ _ _,v,zs,rfl,?_,HSS.out,hbw.grown (grownBy_putObj' _ _ _) hbw.size (fun k e=>by cases e;simp at hD;omega)⟩
  exact xup (ownsRow_putObj ho _ hK rfl) (Nat.le_succ _)
 case stop =>
  rintro D c pre W _ _ h _
  exact h.elim
end Go.Proofs.YtjkgkmmkehnggaaGreatDoor
namespace Go.Proofs.YtjkgkmmkehnggaaGreatDoor
set_option linter.unusedVariables false
set_option linter.unusedSimpArgs false
open Go.RowKit
set_option maxRecDepth 20000
theorem xv7 (x:Int) (w:World):Calls Tryz.prog 234 #[.int .u8 x] w fun e w'=>e=.returned (.bool false)∧w'=w:=by
 go_enter Tryz.func234,Tryz.ntmps234
 go_wp2
 go_ret
 exact⟨by simp,rfl⟩
theorem xrV (x y:Int) (w:World):Calls Tryz.prog 195 #[.int .u8 x,.int .u8 y] w fun e w'=>e=.returned (.bool (decide (x<y)))∧w'=w:=by
 have H:=lH (fun a=>xv7 a w)
 go_enter Tryz.func195,Tryz.ntmps195
 go_wp2_with (first|(go_at_call 234;refine(H.out _).mono ?_;rintro e w' ⟨rfl,rfl⟩)|fail)
 go_ret
 exact⟨rfl,rfl⟩
def gI (l:List Int) (k:Nat):Int:=l.getD k 0
theorem xhz (l:List Int) (k:Nat) (h:k<l.length):l[k]?=some (gI l k):=by
 rw[List.getElem?_eq_getElem h]
 unfold gI
 rw[List.getD_eq_getElem?_getD,List.getElem?_eq_getElem h]
 rfl
def InO (M:List Int) (i j:Nat):Prop:=∀ a b,a<b→b≤i→b≠j→gI M a≤gI M b
theorem xxD (M:List Int) (k:Nat) (x:Int) (i:Nat) (hk:k<M.length):gI (M.set k x) i=if i=k then x else gI M i:=by
 unfold gI
 rw[List.getD_eq_getElem?_getD,List.getD_eq_getElem?_getD,List.getElem?_set]
 by_cases h:k=i
 ·subst h;simp[hk]
 ·rw[if_neg h,if_neg (fun e=>h e.symm)]
theorem xuz {M:List Int} {i p:Nat} (h:InO M i (p+1)) (hi:i<M.length) (hp:p+1≤i) (hl:gI M (p+1)<gI M p):InO ((M.set (p+1) (gI M p)).set p (gI M (p+1))) i p:=by
 intro a b hab hb hne
 have g:∀ k,gI ((M.set (p+1) (gI M p)).set p (gI M (p+1))) k=if k=p then gI M (p+1) else if k=p+1 then gI M p else gI M k:=fun k=>by
  rw[xxD _ _ _ _ (by simp;omega),xxD _ _ _ _ (by omega)]
 rw[g,g,if_neg hne]
 by_cases hb1:b=p+1
 ·rw[if_pos hb1]
  by_cases ha:a=p
  ·rw[if_pos ha];omega
  ·rw[if_neg ha,if_neg (by omega)]
   exact h a p (by omega) (by omega) (by omega)
 ·rw[if_neg hb1]
  by_cases ha:a=p
  ·rw[if_pos ha];exact h (p+1) b (by omega) hb hb1
  ·rw[if_neg ha]
   by_cases ha1:a=p+1
   ·rw[if_pos ha1];exact h p b (by omega) hb hb1
   ·rw[if_neg ha1];exact h a b hab hb hb1
theorem xnv {M:List Int} {i j:Nat} (h:InO M i j) (hj:j≤i) (hs:j=0∨¬ gI M j<gI M (j - 1)):∀ a b,a<b→b≤i→gI M a≤gI M b:=by
 intro a b hab hb
 by_cases e:b=j
 ·subst e
  rcases hs with h0|hs
  ·omega
  ·by_cases ha:a=b - 1
   ·subst ha;omega
   ·have:=h a (b - 1) (by omega) (by omega) (by omega)
    omega
 ·exact h a b hab hb e
theorem xqv (M:List Int) (p:Nat) (hp:p+1<M.length):((M.set (p+1) (gI M p)).set p (gI M (p+1))).Perm M:=by
 have h1:=xhz M p (by omega)
 have h2:=xhz M (p+1) hp
 obtain⟨A,x,y,C,rfl,hA⟩:∃ A x y C,M=A++x :: y :: C∧A.length=p:=by
  refine⟨M.take p,gI M p,gI M (p+1),M.drop (p+2),?_,by simp;omega⟩
  have e1:M.drop p=gI M p :: M.drop (p+1):=by rw[← List.getElem_cons_drop (by omega:p<M.length)];congr 1;rw[List.getElem?_eq_getElem (by omega)] at h1;exact Option.some.inj h1
  have e2:M.drop (p+1)=gI M (p+1) :: M.drop (p+2):=by rw[← List.getElem_cons_drop hp];congr 1;rw[List.getElem?_eq_getElem hp] at h2;exact Option.some.inj h2
  rw[← e2,← e1,List.take_append_drop]
 subst hA
 have g1:gI (A++x :: y :: C) A.length=x:=by simp[gI]
 have g2:gI (A++x :: y :: C) (A.length+1)=y:=by simp[gI,List.getD_eq_getElem?_getD,List.getElem?_append_right]
 rw[g1,g2]
 have e:((A++x :: y :: C).set (A.length+1) x).set A.length y=A++y :: x :: C:=by
  rw[List.set_append_right _ _ (by omega),List.set_append_right _ _ (by omega)]
  simp
 rw[e]
 exact(List.Perm.swap x y C).append_left A
theorem Own.formU {w:World} {B:Nat} {v:Value} {l:List Int} (h:Own w B v l) :
  (v=.slice none 0 0∧l=[])∨∃ g cap,v=.slice (some ⟨g,0,none⟩) l.length cap∧B≤g∧g<w.heap.size∧l.length≤cap:=by
 have hlt:=World.ownsRow.lt h
 obtain⟨h1,h2⟩:=h
 rcases h2 with ⟨rfl,hn⟩|⟨g,cap,cur,rfl,hg,hh,hle,hm,_⟩
 ·exact .inl ⟨rfl,List.eq_nil_of_length_eq_zero hn⟩
 ·exact .inr ⟨g,cap,rfl,hg,(hlt g rfl).2,hle⟩
def xmA (B:Nat) (v:Value) (l:List Int) (w:World) (e:Ending) (w':World):Prop:=e=.returned (.tuple #[])∧∃ l':List Int,l'.Perm l∧(∀ a b,a<b→b<l'.length→gI l' a≤gI l' b)∧Own w' B v l'∧Below B w w'
theorem xmj (B:Nat) (v:Value) (l:List Int) (w:World) (hown:Own w B v l) (hl:l.length≤100000) (hB:B≤w.heap.size):Calls Tryz.prog 189 #[v,.int .i64 0,.int .i64 (l.length:Nat)] w (xmA B v l w):=by
 have hform:∃ a cap,v=.slice a l.length cap:=by
  rcases hown.formU with ⟨rfl,rfl⟩|⟨g,cap,rfl,_⟩
  ·exact⟨_,_,rfl⟩
  ·exact⟨_,_,rfl⟩
 have HO:=lH hown
 obtain⟨a,cap,rfl⟩:=hform
 clear hown
 unfold xmA
 go_enter Tryz.func189,Tryz.ntmps189
 go_wp2_with fail
 go_loopw [6] (fun s wr=>∃ (i:Nat) (M:List Int),1≤i∧(i≤l.length∨i=1)∧s=.int .i64 i∧M.length=l.length∧Hid (M.Perm l)∧Hid (∀ a b,a<b→b<i→gI M a≤gI M b)∧Hid (Own wr B (.slice a l.length cap) M)∧Below B w wr) (fun s _=>l.length+1 - (intOf s).toNat)
 case atStart=>exact⟨1,l,Nat.le_refl _,.inr rfl,rfl,rfl,lH (List.Perm.refl _),lH (fun a b h1 h2=>by omega),HO,Below.refl _ _⟩
 case round =>
  clear HO
  obtain⟨i,M,hi1,hi2,rfl,hM,HP,HS,HO,hbw⟩:=hrel
  by_cases hlt:i<l.length
  ·go_wp2_with fail
   go_loopw [7] (fun s wr=>∃ (j:Nat) (M:List Int),j≤i∧s=.int .i64 j∧M.length=l.length∧Hid (M.Perm l)∧Hid (InO M i j)∧Hid (Own wr B (.slice a l.length cap) M)∧Below B w wr) (fun s _=>(intOf s).toNat)
   case atStart=>exact⟨i,M,Nat.le_refl _,rfl,hM,HP,lH (fun x y h1 h2 h3=>HS.out x y h1 (by omega)),HO,hbw⟩
   case round =>
    clear hM HP HS HO hbw
    obtain⟨j,M,hj,rfl,hM,HP,HI,HO,hbw⟩:=hrel
    rcases HO.out.formU with ⟨_,h0⟩|⟨g,cap2,hv,hg,hgw,hle⟩
    ·rw[h0] at hM;simp at hM;omega
    injection hv with hv1 hv2 hv3
    subst hv1 hv3
    clear hv2
    have HOW:wr.ownsRow B 5 1 (.slice (some ⟨g,0,none⟩) l.length cap) l.length (M.map (Value.int .u8)):=by
     have:=HO.out
     unfold Own at this
     rwa[hM] at this
    have hc:∀ k,k<l.length→wr.cell? ⟨g,k,none⟩=some (.int .u8 (gI M k)):=fun k hk=>by
     have h1:=World.ownsRow.cellAt HOW k (by omega)
     rw[h1,List.getElem?_map,xhz M k (by omega)]
     rfl
    have hf:=World.ownsRow.frozenAt HOW
    have HL:=lH (fun x y w=>xrV x y w)
    rcases Nat.eq_zero_or_pos j with hj0|hj0
    ·subst hj0
     have HX:=lH (xnv HI.out (Nat.zero_le _) (.inl rfl))
     have hgt:decide ((0:Int)<((0:Nat):Int))=false:=by decide
     clear hc hf HI HOW
     go_upto_region 4 with fail
     go_quiet (first|(go_at_call 195;(with_reducible refine Calls.quiet_of_same (HL.out _ _ _)))|fail)
     have HB:=lH (xa9 hbw nq)
     have HOQ:=lH (HO.out.below (xa9 (Below.refl _ _) nq))
     generalize wr.drewN nq=wq at *
     clear hbw
     go_wp2_with fail
     go_roundw
     case rel=>exact⟨i+1,M,by omega,.inl (by omega),by go_num,hM,HP,lH (fun a b h1 h2=>HX.out a b h1 (by omega)),HOQ,HB.out⟩
     case measure=>simp[intOf];omega
    ·obtain⟨p,hp⟩:∃ p,p+1=j:=⟨j - 1,by omega⟩
     have c0:=hc p (by omega)
     have c1:=hc j (by omega)
     have hgt:decide ((0:Int)<(j:Int))=true:=by simp;omega
     have hpi:(j:Int) - 1=(p:Int):=by omega
     have hpw:IntKind.i64.wrap (p:Int)=(p:Int):=by rw[IntKind.wrap_i64];omega
     have hpl:p<l.length:=by omega
     have hjl:j<l.length:=by omega
     have HPJ:=lH hp
     clear hc hf hp
     by_cases hlt2:gI M j<gI M p
     ·have hd:decide (gI M j<gI M p)=true:=decide_eq_true hlt2
      have HSW:=lH (xuz (p:=p) (by rw[HPJ.out];exact HI.out) (by omega) (by omega) (by rw[HPJ.out];exact hlt2))
      have HPM:=lH ((xqv M p (by omega)).trans HP.out)
      rw[HPJ.out] at HSW HPM
      generalize gI M j=y at *
      generalize gI M p=x at *
      go_upto_region 4 with fail
      go_quiet (first|(go_at_call 195;(with_reducible refine Calls.quiet_of_same (HL.out _ _ _)))|fail)
      have HB:=lH (xa9 hbw nq)
      have hbq:=xa9 (Below.refl wr.heap.size wr) nq
      have c0:=xaa hbq c0
      have c1:=xaa hbq c1
      have HOQ:=HO.out.below hbq
      generalize wr.drewN nq=wq at *
      have HOW2:wq.ownsRow B 5 1 (.slice (some ⟨g,0,none⟩) l.length cap) l.length (M.map (Value.int .u8)):=by
       unfold Own at HOQ
       rwa[hM] at HOQ
      have hf:=World.ownsRow.frozenAt HOW2
      have HOX:=lH HOW2
      clear hbw hbq HOQ HOW2 HOW HO
      go_upto_region 6 with fail
      go_region_with fail
      all_goals
       go_wp2_with fail
       go_roundw
       case rel =>
        have q0:wq.drew.ownsRow B 5 1 (.slice (some ⟨g,0,none⟩) l.length cap) l.length (M.map (Value.int .u8)):=HOX.out
        have q1:=(World.ownsRow.stored q0 j (.int .u8 x)).1
        have q2:=(World.ownsRow.stored q1 p (.int .u8 y)).1
        have hbd:Below B w wq.drew:=Below.drew HB.out
        refine⟨p,(M.set j x).set p y,by have:=HPJ.out;omega,rfl,by simp[hM],HPM,HSW,lH ?_,(hbd.setCell (p:=⟨g,j,none⟩) hg _).setCell (p:=⟨g,p,none⟩) hg _⟩
        unfold Own
        rw[List.length_set,List.length_set,hM,List.map_set,List.map_set]
        exact q2
       case measure=>have:=HPJ.out;simp[intOf];omega
     ·have hd:decide (gI M j<gI M p)=false:=decide_eq_false hlt2
      have HX:=lH (xnv HI.out hj (.inr (by rw[show j - 1=p by omega];exact hlt2)))
      generalize gI M j=y at *
      generalize gI M p=x at *
      go_upto_region 4 with fail
      go_quiet (first|(go_at_call 195;(with_reducible refine Calls.quiet_of_same (HL.out _ _ _)))|fail)
      have HB:=lH (xa9 hbw nq)
      have HOQ:=lH (HO.out.below (xa9 (Below.refl _ _) nq))
      generalize wr.drewN nq=wq at *
      clear hbw c0 c1 HOW
      go_wp2_with fail
      go_roundw
      case rel=>exact⟨i+1,M,by omega,.inl (by omega),by go_num,hM,HP,lH (fun a b h1 h2=>HX.out a b h1 (by omega)),HOQ,HB.out⟩
      case measure=>simp[intOf];omega
  ·go_wp2_with fail
   exact bodyPost_end (results_none rfl _ _ _) rfl ⟨rfl,M,HP.out,fun a b h1 h2=>HS.out a b h1 (by omega),HO.out,hbw⟩
theorem xuL (n:Int) (w:World) (h0:0≤n) (h1:n≤1000000):Calls Tryz.prog 120 #[.int .u64 n] w fun e w'=>(∃ k:Nat,e=.returned (.int .i64 k))∧w'=w:=by
 have H:=lH (xgO n w h0 (by omega))
 go_enter Tryz.func120,Tryz.ntmps120
 go_wp2_with fail
 refine H.out.mono ?_
 rintro e w' ⟨⟨k,rfl,_⟩,rfl⟩
 go_wp2_with fail
 go_ret
 exact⟨⟨k,rfl⟩,rfl⟩
set_option maxRecDepth 100000 in
theorem xvx (B:Nat) (v:Value) (l:List Int) (k:Nat) (w:World) (hown:Own w B v l) (hl:l.length≤12) (hB:B≤w.heap.size):Calls Tryz.prog 119 #[v,.int .i64 0,.int .i64 (l.length:Nat),.int .i64 k] w (xmA B v l w):=by
 have HI:=lH (xmj B v l w hown (by omega) hB)
 have hform:∃ a cap,v=.slice a l.length cap:=by
  rcases hown.formU with ⟨rfl,rfl⟩|⟨g,cap,rfl,_⟩
  ·exact⟨_,_,rfl⟩
  ·exact⟨_,_,rfl⟩
 obtain⟨a,cap,rfl⟩:=hform
 have hd:decide ((l.length:Int)≤12)=true:=decide_eq_true (by omega)
 unfold xmA at HI ⊢
 clear hown
 go_enter Tryz.func119,Tryz.ntmps119
 go_wp2_with fail
 refine wp_loop_rounds 1 ?_
 rw[rounds_succ]
 go_wp2_with fail
 refine HI.out.mono ?_
 rintro e w1 ⟨rfl,H⟩
 have HH:=lH H
 clear H HI
 go_wp2_with fail
 exact bodyPost_ret (results_none rfl _ _ _) rfl ⟨rfl,HH.out⟩
theorem xr8 (B:Nat) (v:Value) (l:List Int) (w:World) (hown:Own w B v l) (hl:l.length≤12) (hB:B≤w.heap.size):Calls Tryz.prog 48 #[v] w (xmA B v l w):=by
 have HI:=lH (fun k=>xvx B v l k w hown hl hB)
 have hform:∃ a cap,v=.slice a l.length cap:=by
  rcases hown.formU with ⟨rfl,rfl⟩|⟨g,cap,rfl,_⟩
  ·exact⟨_,_,rfl⟩
  ·exact⟨_,_,rfl⟩
 obtain⟨a,cap,rfl⟩:=hform
 have hw5:IntKind.u64.wrap (l.length:Int)=(l.length:Int):=by rw[IntKind.wrap_u64];omega
 have HL:=lH (xuL (l.length:Nat) w (by omega) (by omega))
 unfold xmA at HI ⊢
 clear hown
 go_enter Tryz.func48,Tryz.ntmps48
 go_wp2_with fail
 refine HL.out.mono ?_
 rintro e w1 ⟨⟨k,rfl⟩,rfl⟩
 go_wp2_with fail
 refine(HI.out k).mono ?_
 rintro e w1 ⟨rfl,H⟩
 have HH:=lH H
 clear H HI
 go_wp2_with fail
 exact bodyPost_end (results_none rfl _ _ _) rfl ⟨rfl,HH.out⟩
theorem xsJ (b:Nat) (R:List Int) (Bm:Nat) (w:World) (hm:w.cell? ⟨Bm,0,none⟩=some (.map (some b))) (hB:xbr w b R) :
  Calls Tryz.prog 47 #[.func (.func 49) #[] #[.pointer (some ⟨Bm,0,none⟩)]] w
   fun x w'=>∃ v ss,x=.returned v∧Own w' w.heap.size v ss∧(ss.Nodup∧∀ x,x ∈ ss↔x ∈ R)∧Below w.heap.size w w':=by
 have HA:=lH (xwK b R Bm w hm hB)
 clear hm hB
 go_enter Tryz.func47,Tryz.ntmps47
 go_wp2_with fail
 refine HA.out.mono ?_
 rintro e w1 ⟨v,ss,rfl,H⟩
 have HH:=lH H
 clear H HA
 go_wp2_with fail
 go_ret
 exact⟨v,ss,rfl,HH.out⟩
theorem xCp {a b:List Int} (ha:a.Pairwise (·<·)) (hb:b.Pairwise (·<·)) (h:∀ q,q ∈ a↔q ∈ b):a=b:=by
 have nd:∀ {l:List Int},l.Pairwise (·<·)→l.Nodup:=fun hl=>hl.imp (fun {x y} hxy e=>by omega)
 exact List.Perm.eq_of_pairwise (le:=fun x y=>x<y) (fun x y _ _ h1 h2=>by omega) ha hb ((List.perm_ext_iff_of_nodup (nd ha) (nd hb)).2 h)
theorem xCu {l:List Int} (hn:l.Nodup) (h:∀ a b,a<b→b<l.length→gI l a≤gI l b):l.Pairwise (·<·):=by
 rw[List.pairwise_iff_getElem]
 intro i j hi hj hij
 have h1:=h i j hij hj
 have e1:=xhz l i hi
 have e2:=xhz l j hj
 rw[List.getElem?_eq_getElem hi] at e1
 rw[List.getElem?_eq_getElem hj] at e2
 rw[← Option.some.inj e1,← Option.some.inj e2] at h1
 have h2:=List.pairwise_iff_getElem.1 hn i j hi hj hij
 omega
theorem xlQ (b:Nat) (R C:List Int) (Bm:Nat) (w:World) (hm:w.cell? ⟨Bm,0,none⟩=some (.map (some b))) (hB:xbr w b R) (hC:C.Pairwise (·<·)) (hRC:∀ x,x ∈ R↔x ∈ C) (hl:C.length≤12) :
  Calls Tryz.prog 15 #[.func (.func 49) #[] #[.pointer (some ⟨Bm,0,none⟩)]] w
   fun x w'=>∃ v,x=.returned v∧Own w' w.heap.size v C∧Below w.heap.size w w':=by
 have HA:=lH (xsJ b R Bm w hm hB)
 have HC:=lH hC
 have HR:=lH hRC
 clear hm hB hC hRC
 go_enter Tryz.func15,Tryz.ntmps15
 go_wp2_with fail
 refine HA.out.mono ?_
 rintro e w1 ⟨v,ss,rfl,ho,⟨hn,hx⟩,hb⟩
 have hss:ss.length≤12:=Nat.le_trans (xcQ hn (fun x hx'=>(HR.out x).1 ((hx x).1 hx'))) hl
 have HS:=lH (xr8 w.heap.size v ss w1 ho hss hb.size)
 have hform:∃ a n cap,v=.slice a n cap:=by
  rcases ho.formU with ⟨rfl,rfl⟩|⟨g,cap,rfl,_⟩
  ·exact⟨_,_,_,rfl⟩
  ·exact⟨_,_,_,rfl⟩
 have HX:=lH (And.intro hn (And.intro hx hb))
 obtain⟨a,n,cap,rfl⟩:=hform
 unfold xmA at HS
 clear ho hn hx hb HA hss
 go_wp2_with fail
 refine HS.out.mono ?_
 rintro e w2 ⟨rfl,l',hp,hs,ho,hb2⟩
 have HF:Hid (Own w2 w.heap.size (.slice a n cap) C∧Below w.heap.size w w2):=lH (by
  have hn':=hp.nodup_iff.2 HX.out.1
  have e:l'=C:=xCp (xCu hn' hs) HC.out (fun q=>by rw[hp.mem_iff,HX.out.2.1,HR.out])
  rw[e] at ho
  exact⟨ho,HX.out.2.2.trans hb2⟩)
 clear hp hs ho hb2 HS
 go_wp2_with fail
 go_ret
 exact⟨_,rfl,HF.out⟩
end Go.Proofs.YtjkgkmmkehnggaaGreatDoor
