/- aPf aPg aHn aGe aGk. -/
import Derived.Test.YtjkgkmmkehnggaaGreatDoorYs
import Derived.Test.YtjkgkmmkehnggaaGreatDoorYa6
import Derived.Maps.OwnIn
set_option maxHeartbeats 16000000
namespace Go.Proofs.YtjkgkmmkehnggaaGreatDoor
set_option linter.unusedVariables false
set_option linter.unusedSimpArgs false
open Go.RowKit Go.Shelf
set_option maxRecDepth 20000
attribute [local go_sem] Oper.semAt_some
theorem xlL (l:List En) (e:En) (h:xa1 e∧ckN e=0):tk (e :: l)=⟨e,h⟩ :: tk l:=by simp[tk,h]
theorem xp4 (l:List En) (e:En) (h:¬ ckN e=0):tk (e :: l)=tk l:=by simp[tk,h]
def csN (l:List Ok):Int:=(l.map fun x=>x.1.rn).sum
def emN (l:List Ok):Int:=l.foldl (fun n x=>max n (x.1.off+x.1.ln)) 0
theorem xwy (l:List Ok) (x:Ok):csN (l++[x])=csN l+x.1.rn:=by simp[csN]
theorem xt3 (l:List Ok) (x:Ok):emN (l++[x])=max (emN l) (x.1.off+x.1.ln):=by simp[emN]
theorem xAK (l:List En) (hm:xaT l):csN (tk l)=xlW l:=by
 induction l with
 | nil=>rfl
 | cons e l ih =>
  have h1:=ih (fun x hx=>hm x (List.mem_cons_of_mem _ hx))
  have hme:=hm e (List.mem_cons_self ..)
  by_cases h:ckN e=0
  ·rw[xlL l e ⟨hme,h⟩]
   simp only[csN,xlW,List.map_cons,List.sum_cons,if_pos h] at h1 ⊢
   rw[h1]
  ·rw[xp4 l e h]
   simp only[csN,xlW,List.map_cons,List.sum_cons,if_neg h] at h1 ⊢
   rw[h1];omega
theorem xvI (l:List En) (hm:xaT l):∀ n:Int,(tk l).foldl (fun n x=>max n (x.1.off+x.1.ln)) n=l.foldl (fun n e=>if ckN e=0 then max n (e.off+e.ln) else n) n:=by
 induction l with
 | nil=>intro n;rfl
 | cons e l ih =>
  intro n
  have h1:=ih (fun x hx=>hm x (List.mem_cons_of_mem _ hx))
  have hme:=hm e (List.mem_cons_self ..)
  by_cases h:ckN e=0
  ·rw[xlL l e ⟨hme,h⟩,List.foldl_cons,List.foldl_cons,if_pos h]
   exact h1 _
  ·rw[xp4 l e h,List.foldl_cons,if_neg h]
   exact h1 _
theorem xBK (l:List En) (hm:xaT l):emN (tk l)=enN l:=xvI l hm 0
theorem xBz (l:List Ok):0≤csN l∧csN l≤4294967295*l.length:=by
 induction l with
 | nil=>simp[csN]
 | cons x l ih =>
  have:=x.2.1.2.2.2
  simp only[csN,List.map_cons,List.sum_cons,List.length_cons] at ih ⊢
  omega
theorem xBT (l:List Ok):0≤emN l∧emN l≤1099511627776:=by
 have key:∀ (l:List Ok) (n:Int),0≤n→n≤1099511627776→0≤l.foldl (fun n x=>max n (x.1.off+x.1.ln)) n∧l.foldl (fun n x=>max n (x.1.off+x.1.ln)) n≤1099511627776:=by
  intro l
  induction l with
  | nil=>intro n h0 h1;exact⟨h0,h1⟩
  | cons x l ih =>
   intro n h0 h1
   have:=xhl x.1 x.2.2
   have h2:=x.2.1
   unfold xa1 at h2
   refine ih (max n (x.1.off+x.1.ln)) ?_ ?_ <;> omega
 exact key l 0 (by omega) (by omega)
theorem xlv {B:Nat} (b:Nat) (e:En):OwnFrom B (fun(_:Unit) W=>EAt W b e):=fun _ X Y row hs hg hr =>
 ⟨cell_kept hs.1 hg (fun r h=>(hr r h).2),cell_kept hs.2.1 hg (fun r h=>(hr r h).2),cell_kept hs.2.2.1 hg (fun r h=>(hr r h).2),cell_kept hs.2.2.2 hg (fun r h=>(hr r h).2)⟩
set_option maxRecDepth 100000 in
theorem xpS (v:Value) (l:List En) (w:World) (hv:xam w v l) (hm:xaT l) (hl:l.length≤20000000):Calls Tryz.prog 116 #[v] w fun x w'=>x=.returned (.int .u64 (xlW l))∧Below w.heap.size w w':=by
 have HS:=lH (fun n hn Bs W hW hc=>xdC n hn Bs w W v l hm hv hW hc)
 have hlen:=Nat.le_trans (xsx l) hl
 have HE:=lH (xAK l hm)
 obtain⟨al,cap,rfl,-,-,-⟩:=hv
 refine(callsIn_wide (n:=3)).1 ?_
 refine callsIn_of_wp_marks Tryz.func116 rfl trivial ?_ rfl
 simp only[Tryz.ntmps116,List.size_toArray,List.length_cons,List.length_nil,Nat.reduceAdd,Nat.reduceSub,Array.replicate_succ,Array.replicate_zero,List.push_toArray,List.append_toArray,List.nil_append,List.cons_append]
 gi_wp2
 refine⟨trivial,(xg1 _ _ _ _ _).mono ?_⟩
 rintro x w1 ⟨rfl,rfl⟩
 gi_wp2
 have bN:=(Boxed.new w 44 (.int .u64 0)).alloc (.cells #[.slice al l.length cap] 84)
 have bA:=Boxed.new (w.alloc (.cells #[.int .u64 0] 44)) 84 (.slice al l.length cap)
 simp only[World.size_alloc] at bA
 have hB0:Below w.heap.size w ((w.alloc (.cells #[.int .u64 0] 44)).alloc (.cells #[.slice al l.length cap] 84)):=((Below.refl _ w).alloc (Nat.le_refl _) _).alloc (by simp) _
 have hsz:((w.alloc (.cells #[.int .u64 0] 44)).alloc (.cells #[.slice al l.length cap] 84)).heap.size=w.heap.size+2:=by simp
 obtain⟨W0,hW0⟩:∃ W0,(w.alloc (.cells #[.int .u64 0] 44)).alloc (.cells #[.slice al l.length cap] 84)=W0:=⟨_,rfl⟩
 rw[hW0] at bN bA hB0 hsz ⊢
 clear hW0
 refine wpIn_rangeFunc_ownH rfl (by omega) (gf:=217) (lb:=#[.pointer (some ⟨w.heap.size+1,0,none⟩)]) rfl trivial (enters_of Tryz.func217 (by kernel_rfl) rfl)
  (HS.out (3 - 1) (by omega) (w.heap.size+1) W0 hB0 bA.cell) belowK_t (belowK_b (by omega)) (Below.refl _ _) (fun _=>rfl)
  (fun pre W=>Boxed W w.heap.size 44 (.int .u64 (csN pre))∧Below w.heap.size w W)
  (fun _ _ _=>False)
  (OwnFrom.and (Own.from (boxed_own _ _ _) _) (ownFrom_below (Nat.le_refl _) (by omega)))
  (fun _ _ _ _ _ hs _ _=>hs)
  ⟨bN,hB0⟩
  (fun x a' W=>∃ Bx,w.heap.size<Bx∧EAt W Bx x.1∧a'={ tmps:=#[.slice al l.length cap,undef,.int .u64 0,.pointer (some ⟨w.heap.size,0,none⟩),.pointer (some ⟨Bx,0,none⟩),.slice al l.length cap,.func (.func 217) #[] #[.pointer (some ⟨w.heap.size+1,0,none⟩)],.agg (eC x.1),undef,undef,undef,undef,undef,undef],defers:=[] })
  (fun x a' _ X Y row hs hg hr=>by obtain⟨Bx,h1,h2,h3⟩:=hs;exact⟨Bx,h1,xlv Bx x.1 () X Y row h2 hg hr,h3⟩)
  ?assign ?body ?done ?stop
 case assign =>
  rintro lp pre x W K ⟨bN1,hB1⟩ hK
  have HX:=EAt.made W x.1 147
  have HK:=lH (hK _ (W.alloc (.cells (eC x.1) 147)) ((KeepsOthers.alloc _ _).from _) ((Below.refl _ W).alloc hB1.size _) ⟨bN1.alloc _,hB1.alloc hB1.size _⟩ ⟨W.heap.size,bN1.lt,HX,rfl⟩)
  clear hK HX
  unfold eC at HK ⊢
  gi_wp2
  exact HK.out
 case body =>
  rintro lp pre x a' W hlp ⟨r,hr⟩ ⟨bN1,hB1⟩ ⟨Bx,hBx,bX,rfl⟩ hlt
  have hbd:=xBz pre
  have hmx:=x.2.1
  unfold xa1 at hmx
  have hok:=xhl x.1 x.2.2
  have hw1:IntKind.u64.wrap x.1.rn=x.1.rn:=by rw[IntKind.wrap_u64] <;> omega
  have hw2:IntKind.u64.wrap (csN pre+x.1.rn)=csN pre+x.1.rn:=by rw[IntKind.wrap_u64] <;> omega
  have cN:=bN1.cell
  have fN:=bN1.frozen
  obtain⟨k0,k1,k2,k3⟩:=bX
  have HB:=lH bN1
  have HB1:=lH hB1
  have HSn:=lH (xwy pre x)
  clear bN1 hB1 hbd hmx hok hr
  unfold eC
  gi_wp2
  refine⟨(KeepsOthers.setCell _ _ _).from _,(Below.refl _ W).setCell (p:=⟨w.heap.size,0,none⟩) (Nat.le_refl _) _,?_,HB1.out.setCell (p:=⟨w.heap.size,0,none⟩) (Nat.le_refl _) _⟩
  rw[HSn.out]
  exact HB.out.set _
 case done =>
  rintro D zs W hD rfl ⟨bN1,hB1⟩ hK
  have cN:=bN1.cell
  have HB1:=lH hB1
  clear hB1
  gi_wp2
  refine⟨by simp,.inl ⟨_,_,rfl,run_takeDeferred hK,?_⟩⟩
  refine⟨_,results_tmp rfl _ _ _,?_,HB1.out.trans (belowK_b (w:=w) (Nat.le_refl _) W D _ _ (by omega) hK rfl rfl)⟩
  exact xd6 HE.out
 case stop =>
  rintro D c pre W _ _ h _
  exact h.elim
set_option maxRecDepth 100000 in
theorem xvj (v:Value) (l:List En) (w:World) (hv:xam w v l) (hm:xaT l) (hl:l.length≤20000000):Calls Tryz.prog 114 #[v] w fun x w'=>x=.returned (.int .u64 (enN l))∧Below w.heap.size w w':=by
 have HS:=lH (fun n hn Bs W hW hc=>xdC n hn Bs w W v l hm hv hW hc)
 have hlen:=Nat.le_trans (xsx l) hl
 have HE:=lH (xBK l hm)
 obtain⟨al,cap,rfl,-,-,-⟩:=hv
 refine(callsIn_wide (n:=3)).1 ?_
 refine callsIn_of_wp_marks Tryz.func114 rfl trivial ?_ rfl
 simp only[Tryz.ntmps114,List.size_toArray,List.length_cons,List.length_nil,Nat.reduceAdd,Nat.reduceSub,Array.replicate_succ,Array.replicate_zero,List.push_toArray,List.append_toArray,List.nil_append,List.cons_append]
 gi_wp2
 refine⟨trivial,(xg1 _ _ _ _ _).mono ?_⟩
 rintro x w1 ⟨rfl,rfl⟩
 gi_wp2
 have bN:=(Boxed.new w 44 (.int .u64 0)).alloc (.cells #[.slice al l.length cap] 84)
 have bA:=Boxed.new (w.alloc (.cells #[.int .u64 0] 44)) 84 (.slice al l.length cap)
 simp only[World.size_alloc] at bA
 have hB0:Below w.heap.size w ((w.alloc (.cells #[.int .u64 0] 44)).alloc (.cells #[.slice al l.length cap] 84)):=((Below.refl _ w).alloc (Nat.le_refl _) _).alloc (by simp) _
 have hsz:((w.alloc (.cells #[.int .u64 0] 44)).alloc (.cells #[.slice al l.length cap] 84)).heap.size=w.heap.size+2:=by simp
 obtain⟨W0,hW0⟩:∃ W0,(w.alloc (.cells #[.int .u64 0] 44)).alloc (.cells #[.slice al l.length cap] 84)=W0:=⟨_,rfl⟩
 rw[hW0] at bN bA hB0 hsz ⊢
 clear hW0
 refine wpIn_rangeFunc_ownH rfl (by omega) (gf:=217) (lb:=#[.pointer (some ⟨w.heap.size+1,0,none⟩)]) rfl trivial (enters_of Tryz.func217 (by kernel_rfl) rfl)
  (HS.out (3 - 1) (by omega) (w.heap.size+1) W0 hB0 bA.cell) belowK_t (belowK_b (by omega)) (Below.refl _ _) (fun _=>rfl)
  (fun pre W=>Boxed W w.heap.size 44 (.int .u64 (emN pre))∧Below w.heap.size w W)
  (fun _ _ _=>False)
  (OwnFrom.and (Own.from (boxed_own _ _ _) _) (ownFrom_below (Nat.le_refl _) (by omega)))
  (fun _ _ _ _ _ hs _ _=>hs)
  ⟨bN,hB0⟩
  (fun x a' W=>∃ Bx,w.heap.size<Bx∧EAt W Bx x.1∧a'={ tmps:=#[.slice al l.length cap,undef,.int .u64 0,.pointer (some ⟨w.heap.size,0,none⟩),.pointer (some ⟨Bx,0,none⟩),.slice al l.length cap,.func (.func 217) #[] #[.pointer (some ⟨w.heap.size+1,0,none⟩)],.agg (eC x.1),undef,undef,undef,undef,undef,undef,undef,undef,undef],defers:=[] })
  (fun x a' _ X Y row hs hg hr=>by obtain⟨Bx,h1,h2,h3⟩:=hs;exact⟨Bx,h1,xlv Bx x.1 () X Y row h2 hg hr,h3⟩)
  ?assign ?body ?done ?stop
 case assign =>
  rintro lp pre x W K ⟨bN1,hB1⟩ hK
  have HX:=EAt.made W x.1 147
  have HK:=lH (hK _ (W.alloc (.cells (eC x.1) 147)) ((KeepsOthers.alloc _ _).from _) ((Below.refl _ W).alloc hB1.size _) ⟨bN1.alloc _,hB1.alloc hB1.size _⟩ ⟨W.heap.size,bN1.lt,HX,rfl⟩)
  clear hK HX
  unfold eC at HK ⊢
  gi_wp2
  exact HK.out
 case body =>
  rintro lp pre x a' W hlp ⟨r,hr⟩ ⟨bN1,hB1⟩ ⟨Bx,hBx,bX,rfl⟩ hlt
  have hbd:=xBT pre
  have hmx:=x.2.1
  unfold xa1 at hmx
  have hok:=xhl x.1 x.2.2
  have hw1:IntKind.u64.wrap x.1.ln=x.1.ln:=by rw[IntKind.wrap_u64] <;> omega
  have hw2:IntKind.u64.wrap (x.1.off+x.1.ln)=x.1.off+x.1.ln:=by rw[IntKind.wrap_u64] <;> omega
  have cN:=bN1.cell
  have fN:=bN1.frozen
  obtain⟨k0,k1,k2,k3⟩:=bX
  have HB:=lH bN1
  have HB1:=lH hB1
  have HSn:=lH (xt3 pre x)
  clear bN1 hB1 hbd hmx hok hr
  unfold eC
  gi_wp2
  all_goals
   refine⟨(KeepsOthers.setCell _ _ _).from _,(Below.refl _ W).setCell (p:=⟨w.heap.size,0,none⟩) (Nat.le_refl _) _,?_,HB1.out.setCell (p:=⟨w.heap.size,0,none⟩) (Nat.le_refl _) _⟩
   rw[HSn.out]
   first
    | exact HB.out.set _
    | (rw[Int.max_eq_right (by omega)];exact HB.out.set _)
    | (rw[Int.max_eq_left (by omega)];exact HB.out.set _)
 case done =>
  rintro D zs W hD rfl ⟨bN1,hB1⟩ hK
  have cN:=bN1.cell
  have HB1:=lH hB1
  clear hB1
  gi_wp2
  refine⟨by simp,.inl ⟨_,_,rfl,run_takeDeferred hK,?_⟩⟩
  refine⟨_,results_tmp rfl _ _ _,?_,HB1.out.trans (belowK_b (w:=w) (Nat.le_refl _) W D _ _ (by omega) hK rfl rfl)⟩
  exact xd6 HE.out
 case stop =>
  rintro D c pre W _ _ h _
  exact h.elim
end Go.Proofs.YtjkgkmmkehnggaaGreatDoor
namespace Go.Proofs.YtjkgkmmkehnggaaGreatDoor
set_option linter.unusedVariables false
set_option linter.unusedSimpArgs false
open Go.RowKit Go.Shelf Go.Maps Go.WideMaps
set_option maxRecDepth 20000
attribute [local go_sem] Oper.semAt_some
def prN (l:List Ok):List (Int × Int):=(l.filter fun x=>decide (0<x.1.rn)).map fun x=>(x.1.off,x.1.ln)
theorem xmS (l:List Ok) (x:Ok):prN (l++[x])=prN l++(if 0<x.1.rn then [(x.1.off,x.1.ln)] else []):=by
 unfold prN
 rw[List.filter_append,List.map_append]
 by_cases h:0<x.1.rn <;> simp[h]
theorem xBQ (l:List En) (hm:xaT l):prN (tk l)=xhu l:=by
 induction l with
 | nil=>rfl
 | cons e l ih =>
  have h1:=ih (fun x hx=>hm x (List.mem_cons_of_mem _ hx))
  have hme:=hm e (List.mem_cons_self ..)
  by_cases h:ckN e=0
  ·rw[xlL l e ⟨hme,h⟩]
   by_cases h2:0<e.rn
   ·simp only[prN,xhu,List.filter_cons,h,h2,decide_true,Bool.and_self,if_true,List.map_cons] at h1 ⊢
    rw[h1]
   ·simp only[prN,xhu,List.filter_cons,h,h2,decide_true,decide_false,Bool.and_false,Bool.true_and,Bool.false_eq_true,if_false] at h1 ⊢
    exact h1
  ·rw[xp4 l e h,h1]
   simp[xhu,List.filter_cons,h]
theorem xs7 (l:List En) (hm:xaT l):∀ q ∈ xhu l,xtB q:=fun q hq=>by
 obtain⟨e,he,_,_,h1,h2⟩:=(xkk l q).1 hq
 have:=hm e he
 unfold xa1 at this
 unfold xtB
 rw[← h1,← h2]
 exact⟨this.2.1,this.2.2.1⟩
theorem xeL {H:Type} {P:Program} {k:TypeId} {R:Value→Option (DataW H × List MemPlace)} {w w':World} {b n B:Nat} {D:DataW H} (h:w.ownsMap P k R b n D) (hb:Below B w w') (hB:b<B):w'.ownsMap P k R b n D:=by
 obtain⟨es,clock,h1,h2⟩:=h
 exact⟨es,clock,(hb.block b hB).trans h1,h2⟩
theorem xgL {B:Nat} {W W':World} (hb:Below W.heap.size W W'):KeepsFrom B W W':=⟨hb.size,fun k o _ hk _=>(hb.block k (Array.getElem?_eq_some_iff.1 hk).1).trans hk⟩
theorem xd3 {W W':World} {b:Nat} {t:TypeId} {v:Value} (h:Boxed W b t v) (hb:Below W.heap.size W W'):Boxed W' b t v:=(hb.block b h.lt).trans h
def xvk (l:List Ok):DataW Unit:=setOf (.lit (.bool true)) ((prN l).map klN)
theorem xvs (l:List Ok) (x:Ok) (h:0<x.1.rn):xvk (l++[x])=(xvk l).put (klN (x.1.off,x.1.ln)) (.lit (.bool true)):=by
 unfold xvk
 rw[xmS,if_pos h,List.map_append]
 exact setOf_snoc _ _ _
theorem xyh (l:List Ok) (x:Ok) (h:¬ 0<x.1.rn):xvk (l++[x])=xvk l:=by
 unfold xvk
 rw[xmS,if_neg h,List.append_nil]
set_option maxRecDepth 100000 in
theorem xqq (v:Value) (l:List En) (w:World) (hv:xam w v l) (hm:xaT l) (hl:l.length≤100000):Calls Tryz.prog 90 #[v] w fun x w'=>x=.returned (.int .i64 (conN l:Nat))∧Below w.heap.size w w':=by
 have HS:=lH (fun n hn Bs W hW hc=>xdC n hn Bs w W v l hm hv hW hc)
 have hlen:=Nat.le_trans (xsx l) hl
 have HSz:Hid (Maps.size (xvk (tk l))=conN l):=lH (by unfold xvk;rw[xBQ l hm];exact xvn Unit (.lit (.bool true)) (xhu l) (xs7 l hm))
 have hmm:=@run_makeMap Tryz.prog
 obtain⟨al,cap,rfl,-,-,-⟩:=hv
 refine(callsIn_wide (n:=3)).1 ?_
 refine callsIn_of_wp_marks Tryz.func90 rfl trivial ?_ rfl
 simp only[Tryz.ntmps90,List.size_toArray,List.length_cons,List.length_nil,Nat.reduceAdd,Nat.reduceSub,Array.replicate_succ,Array.replicate_zero,List.push_toArray,List.append_toArray,List.nil_append,List.cons_append]
 gi_wp2
 refine⟨trivial,(xg1 _ _ _ _ _).mono ?_⟩
 rintro x w1 ⟨rfl,rfl⟩
 gi_wp2
 have hm0:=World.ownsMap_made w Tryz.prog 273 (plainElem (H:=Unit) Tryz.prog 4)
 have hm1:=(hm0.alloc (.cells #[.map (some w.heap.size)] 268)).alloc (.cells #[.slice al l.length cap] 84)
 have bP:=(Boxed.new (w.alloc (.map #[] 0)) 268 (.map (some w.heap.size))).alloc (.cells #[.slice al l.length cap] 84)
 have bA:=Boxed.new ((w.alloc (.map #[] 0)).alloc (.cells #[.map (some w.heap.size)] 268)) 84 (.slice al l.length cap)
 simp only[World.size_alloc] at bA bP
 have hB0:Below w.heap.size w (((w.alloc (.map #[] 0)).alloc (.cells #[.map (some w.heap.size)] 268)).alloc (.cells #[.slice al l.length cap] 84)):=(((Below.refl _ w).alloc (Nat.le_refl _) _).alloc (by simp) _).alloc (by simp;omega) _
 have hsz:(((w.alloc (.map #[] 0)).alloc (.cells #[.map (some w.heap.size)] 268)).alloc (.cells #[.slice al l.length cap] 84)).heap.size=w.heap.size+3:=by simp
 obtain⟨W0,hW0⟩:∃ W0,((w.alloc (.map #[] 0)).alloc (.cells #[.map (some w.heap.size)] 268)).alloc (.cells #[.slice al l.length cap] 84)=W0:=⟨_,rfl⟩
 rw[hW0] at bP bA hB0 hsz hm1 ⊢
 clear hW0 hm0
 refine wpIn_rangeFunc_ownH rfl (by omega) (gf:=217) (lb:=#[.pointer (some ⟨w.heap.size+1+1,0,none⟩)]) rfl trivial (enters_of Tryz.func217 (by kernel_rfl) rfl)
  (HS.out (3 - 1) (by omega) (w.heap.size+1+1) W0 hB0 bA.cell) belowK_t (belowK_b (by omega)) (Below.refl _ _) (fun _=>rfl)
  (fun pre W=>(Boxed W (w.heap.size+1) 268 (.map (some w.heap.size))∧W.ownsMap Tryz.prog 273 (plainElem (H:=Unit) Tryz.prog 4) w.heap.size pre.length (xvk pre))∧Below w.heap.size w W)
  (fun _ _ _=>False)
  (OwnFrom.and (OwnFrom.and (Own.from (boxed_own _ _ _) _) (fun s A B row hs hg hr=>hs.kept hg (fun e=>by have:=(hr _ e.symm).1;omega))) (ownFrom_below (Nat.le_refl _) (by omega)))
  (fun _ _ _ _ _ hs _ _=>hs)
  ⟨⟨bP,hm1⟩,hB0⟩
  (fun x a' W=>∃ Bx,w.heap.size+1<Bx∧EAt W Bx x.1∧a'={ tmps:=#[.slice al l.length cap,undef,.int .i64 0,.pointer (some ⟨w.heap.size+1,0,none⟩),.pointer (some ⟨Bx,0,none⟩),.map (some w.heap.size),.slice al l.length cap,.func (.func 217) #[] #[.pointer (some ⟨w.heap.size+1+1,0,none⟩)],.agg (eC x.1),undef,undef,undef,undef,undef,undef,undef,undef,undef,undef,undef],defers:=[] })
  (fun x a' _ X Y row hs hg hr=>by obtain⟨Bx,h1,h2,h3⟩:=hs;exact⟨Bx,h1,xlv Bx x.1 () X Y row h2 hg hr,h3⟩)
  ?assign ?body ?done ?stop
 case assign =>
  rintro lp pre x W K ⟨⟨bP1,hm2⟩,hB1⟩ hK
  have HX:=EAt.made W x.1 147
  have HK:=lH (hK _ (W.alloc (.cells (eC x.1) 147)) ((KeepsOthers.alloc _ _).from _) ((Below.refl _ W).alloc hB1.size _) ⟨⟨bP1.alloc _,hm2.alloc _⟩,hB1.alloc hB1.size _⟩ ⟨W.heap.size,bP1.lt,HX,rfl⟩)
  clear hK HX
  unfold eC at HK ⊢
  gi_wp2
  exact HK.out
 case body =>
  rintro lp pre x a' W hlp ⟨r,hr⟩ ⟨⟨bP1,hm2⟩,hB1⟩ ⟨Bx,hBx,bX,rfl⟩ hlt
  have hmx:=x.2.1
  unfold xa1 at hmx
  have HKey:=lH (xrT (x.1.off,x.1.ln) ⟨hmx.2.1,hmx.2.2.1⟩)
  have HP:=lH (fun W=>xm1 x.1 W)
  have HO:=lH hm2
  have HBP:=lH bP1
  have HB1:=lH hB1
  have HX:=lH bX
  have hln:pre.length<maxLen:=by unfold maxLen;omega
  clear hr hm2 bP1
  unfold eC at HP ⊢
  obtain⟨k0,k1,k2,k3⟩:=bX
  by_cases h0:x.1.rn=0
  ·have hd:decide (x.1.rn=0)=true:=by simpa using h0
   rw[hd] at HP
   have HT:=lH (xyh pre x (by omega))
   clear h0 hd hmx
   gi_wp2
   refine⟨trivial,(CallsIn.inRound lp (callsIn_wide.2 (HP.out _))).mono ?_⟩
   rintro y w1 ⟨rfl,hb⟩
   have HK1:=lH hb
   clear hb k0 k1 k2 k3
   gi_wp2
   refine⟨xgL HK1.out,HK1.out.mono hB1.size,⟨xd3 HBP.out HK1.out,?_⟩,HB1.out.trans (HK1.out.mono hB1.size)⟩
   rw[HT.out]
   exact((xeL HO.out HK1.out (by have:=hB1.size;have:=HBP.out.lt;omega)).mono (by simp))
  ·have hd:decide (x.1.rn=0)=false:=by simpa using h0
   rw[hd] at HP
   have HT:=lH (xvs pre x (by omega))
   clear h0 hd hmx
   gi_wp2
   refine⟨trivial,(CallsIn.inRound lp (callsIn_wide.2 (HP.out _))).mono ?_⟩
   rintro y w1 ⟨rfl,hb⟩
   obtain⟨c0,c1,c2,c3⟩:=EAt.later HX.out hb
   have cP:=(xd3 HBP.out hb).cell
   have hown:=xeL HO.out hb (by have:=hB1.size;have:=HBP.out.lt;omega)
   have HK1:=lH hb
   clear hb k0 k1 k2 k3
   gi_wp2_with (gi_at_mapUpdate;refine wpListIn_mapUpdate_own _ rfl _ _ _ 268 rfl 273 4 xDa Tryz.underlying268 (plainElem (H:=Unit) Tryz.prog 4) w.heap.size pre.length _ rfl hown hln _ _ _ rfl rfl HKey.out _ [] (plainElem_bool Tryz.underlying4 true) ?_;intro w2 hown2 hgrow2)
   have hKF:KeepsFrom W0.heap.size w1 w2:=KeepsFrom.of_grownBy hgrow2 (fun j e=>by cases e;omega)
   have hBW:Below w.heap.size W w2:=(HK1.out.mono hB1.size).trans ((Below.refl _ w1).grown hgrow2 (Nat.le_trans hB1.size HK1.out.size) (fun k e=>by cases e;exact Nat.le_refl _))
   refine⟨(xgL HK1.out).trans hKF,hBW,⟨?_,?_⟩,HB1.out.trans hBW⟩
   ·exact(xd3 HBP.out HK1.out).kept hgrow2 (fun e=>by have:=Option.some.inj e;omega)
   ·rw[HT.out,List.length_append]
    exact hown2
 case done =>
  rintro D zs W hD rfl ⟨⟨bP1,hown⟩,hB1⟩ hK
  have cP:=bP1.cell
  have HB1:=lH hB1
  clear hB1
  gi_wp2_with (gi_at_len;refine wpListIn_len_own _ rfl _ 268 rfl 273 4 Tryz.underlying268 _ w.heap.size _ _ rfl hown ?_)
  refine⟨by simp,.inl ⟨_,_,rfl,run_takeDeferred hK,?_⟩⟩
  refine⟨_,results_tmp rfl _ _ _,?_,HB1.out.trans (belowK_b (w:=w) (Nat.le_refl _) W D _ _ (by omega) hK rfl rfl)⟩
  exact xya (by rw[HSz.out])
 case stop =>
  rintro D c pre W _ _ h _
  exact h.elim
end Go.Proofs.YtjkgkmmkehnggaaGreatDoor
namespace Go.Proofs.YtjkgkmmkehnggaaGreatDoor
set_option linter.unusedVariables false
set_option linter.unusedSimpArgs false
open Go.RowKit Go.Shelf
set_option maxRecDepth 20000
attribute [local go_sem] Oper.semAt_some
def idC (l:List It) (k:Nat):Int:=((l.getD k (0,{ data:=#[] })).1:Int)
def txC (l:List It) (k:Nat):ByteArray:=(l.getD k (0,{ data:=#[] })).2
def VC (B0:Nat) (v:Value) (l:List It) (b:Nat):Prop:=b=B0∨(l≠[]∧∃ a n c,v=.slice (some a) n c∧b=a.block)
theorem KeepsS.its {S S':Nat→Prop} {W W':World} {v:Value} {l:List It} (h:KeepsS S S' W W') (hoff:∀ a n c,l≠[]→v=.slice (some a) n c→¬ S a.block) (hv:ItsAt W v l):ItsAt W' v l:=by
 obtain⟨a,cap,rfl,h1,h2,hc⟩:=hv
 refine⟨a,cap,rfl,h1,h2,fun k t ht=>?_⟩
 obtain⟨g,off,rfl,hg,c0,c1⟩:=hc k t ht
 have hn:=hoff ⟨g,off,none⟩ _ _ (by rintro rfl;simp at ht) rfl
 exact⟨g,off,rfl,Nat.lt_of_lt_of_le hg h.size,h.cell (p:=⟨g,off+k*2,none⟩) hn c0,h.cell (p:=⟨g,off+k*2+1,none⟩) hn c1⟩
set_option maxRecDepth 100000 in
theorem xoM (v:Value) (l:List It) (B0:Nat) (w:World) (hv:ItsAt w v l) (h1:w.cell? ⟨B0,0,none⟩=some v) :
  xCY Tryz.prog 136 #[.pointer (some ⟨B0,0,none⟩)] (fun k=>#[.int .u64 (idC l k),.string (txC l k)]) l.length (fun _=>False) (VC B0 v l) (fun _ _=>True) (fun _=>True) w:=by
 intro n lp J Jx S0 W hW hJ hJx hG hS0 hY h0
 have hoff:∀ a n c,l≠[]→v=.slice (some a) n c→¬ S0 a.block:=fun a n c hl hv hs=>(hS0 _ hs).2 (.inr ⟨hl,a,n,c,hv,rfl⟩)
 have hvW:=hv.below hW
 have hn1:¬ S0 B0:=fun h=>(hS0 _ h).2 (.inl rfl)
 have g1:=xap hW h1
 obtain⟨al,cap,rfl,hcap,hmx,_⟩:=hv
 have hml:l.length≤9223372036854775807:=by unfold maxLen at hmx;omega
 have HJ:=lH hJ
 have HG:=lH hG
 have HY:=lH hY
 have HO:=lH hoff
 have HVW:=lH hvW
 have HN:=lH hn1
 clear hJ hY hS0 hJx hoff hvW h1 hn1 hcap hmx hG
 refine callsIn_of_wp Tryz.func136 rfl trivial ?_ rfl
 simp only[Tryz.ntmps136,List.size_toArray,List.length_cons,List.length_nil,Nat.reduceAdd,Nat.reduceSub,Array.replicate_succ,Array.replicate_zero,List.push_toArray,List.append_toArray,List.nil_append,List.cons_append]
 gi_wp2
 gi_loopw [8] (fun i wr=>∃ k:Nat,k≤l.length∧i=.int .i64 k∧∃ S,Hid (J k S wr)∧Hid (KeepsS S0 S W wr)) (fun i _=>l.length - (intOf i).toNat)
 case atStart=>exact⟨0,Nat.zero_le _,rfl,S0,lH h0,lH (.refl _ _)⟩
 case round =>
  obtain⟨k,hk,rfl,S,HJs,HK⟩:=hrel
  by_cases hlt:k<l.length
  ·obtain⟨⟨x,t⟩,he⟩:∃ t,l[k]?=some t:=⟨_,List.getElem?_eq_getElem hlt⟩
   have hi2:(k:Int)<(l.length:Int):=by omega
   have hV:=HK.out.its HO.out HVW.out
   obtain⟨al',cap',hav,_,_,hc⟩:=hV
   obtain⟨g,off,rfl,hg,l0,l1⟩:=hc k _ he
   have hid:idC l k=(x:Int):=by unfold idC;rw[List.getD_eq_getElem?_getD,he];rfl
   have htx:txC l k=t:=by unfold txC;rw[List.getD_eq_getElem?_getD,he];rfl
   have HKX:=lH (KeepsS.alloc S wr (.cells #[.int .u64 x,.string t] 46))
   have HJX:=lH (HJ.out.alloc (s:=(k,S)) HJs.out (.cells #[.int .u64 x,.string t] 46))
   cases hav
   obtain⟨fn,tmps,assign,body,hy,hR⟩:=HY.out k S _ HJX.out hlt
   rw[hid,htx] at hy
   have HR:=lH hR
   clear hR he hc g1 hid htx HJs
   gi_wp2
   refine⟨xbM,HR.out.mono ?_⟩
   rintro x W3 (⟨rfl,S3,hJ3,hk3⟩|⟨rfl,hJx3,_⟩)
   ·have HJ3:=lH hJ3
    have HK3:=lH ((HK.out.trans HKX.out).trans hk3)
    clear hJ3 hk3 hy HR l0 l1
    gi_wp2
    go_roundw
    case rel=>exact⟨k+1,by omega,by go_num,S3,HJ3,HK3⟩
    case measure=>simp[intOf];omega
   ·have HJ3:=lH hJx3
    clear hJx3 hy HR l0 l1
    gi_wp2
    refine bodyPost_ret (results_none rfl _ _ _) rfl ?_
    exact⟨⟨_,rfl⟩,.inr ⟨k+1,by omega,HJ3.out⟩⟩
  ·obtain rfl:k=l.length:=by omega
   clear g1
   gi_wp2
   go_end0
   exact⟨⟨_,rfl⟩,.inl ⟨S,HJs.out,trivial⟩⟩
theorem xoE (s:Value) (l:List It) (w:World) (h:ChS w s l) :
  Calls Tryz.prog 68 #[.agg #[s]] w fun e w'=>e=.returned (.func (.func 136) #[] #[.pointer (some ⟨w.heap.size,0,none⟩)])∧w'.cell? ⟨w.heap.size,0,none⟩=some s∧Below w.heap.size w w':=by
 obtain⟨a,n,c,rfl⟩:=h.form
 clear h
 go_enter Tryz.func68,Tryz.ntmps68
 go_wp2_with fail
 go_ret
 exact⟨rfl,by simp[go_sem],by go_grown⟩
end Go.Proofs.YtjkgkmmkehnggaaGreatDoor
namespace Go.Proofs.YtjkgkmmkehnggaaGreatDoor
set_option linter.unusedVariables false
set_option linter.unusedSimpArgs false
open Go.RowKit
set_option maxRecDepth 20000
def xtA (s:ByteArray) (t:Kt):Bool:=decide (t.2=s)
def xDq (s:ByteArray) (l:List Kt) (w:World) (e:Ending) (w':World):Prop:=∃ r:Int,e=.returned (.int .i64 r)∧((r=-1∧∀ t ∈ l,xtA s t=false)∨∃ i:Nat,r=i∧i<l.length∧(∀ t ∈ l.take i,xtA s t=false)∧∃ t,l[i]?=some t∧xtA s t=true)∧Below w.heap.size w w'
theorem xy9 (v:Value) (l:List Kt) (s:ByteArray) (w:World) (hv:xrK w v l) (hl:l.length≤100000):Calls Tryz.prog 211 #[v,.func (.func 210) #[.string s] #[]] w (xDq s l w):=by
 obtain⟨a,cap,rfl,h1,h2,hc⟩:=hv
 have HC:=lH hc
 clear hc
 go_enter Tryz.func211,Tryz.ntmps211
 go_wp2_with fail
 go_loopw [8] (fun x wr=>∃ i:Nat,i≤l.length∧x=.int .i64 i∧Hid (∀ t ∈ l.take i,xtA s t=false)∧Below w.heap.size w wr) (fun x _=>l.length - (intOf x).toNat)
 case atStart=>exact⟨0,Nat.zero_le _,rfl,lH (fun t ht=>by simp at ht),Below.refl _ _⟩
 case round =>
  obtain⟨i,hi,rfl,HM,hbw⟩:=hrel
  by_cases hlt:i<l.length
  ·obtain⟨t,ht⟩:∃ t,l[i]?=some t:=⟨_,List.getElem?_eq_getElem hlt⟩
   obtain⟨g,off,rfl,hg,l0,l1,l2⟩:=HC.out i t ht
   replace l0:=(hbw.cell (p:=⟨g,off+i*3,none⟩) hg).trans l0
   replace l1:=(hbw.cell (p:=⟨g,off+i*3+1,none⟩) hg).trans l1
   replace l2:=(hbw.cell (p:=⟨g,off+i*3+2,none⟩) hg).trans l2
   have hi2:(i:Int)<(l.length:Int):=by omega
   have HT:=lH ht
   have HE:=lH (xBv s t wr)
   have HTK:Hid (l.take (i+1)=l.take i++[t]):=lH (by rw[List.take_add_one,ht];rfl)
   clear ht
   by_cases hp:xtA s t=true
   ·have HP:=lH hp
    rw[show decide (t.2=s)=true from hp] at HE
    clear hp
    go_wp2_with fail
    refine HE.out.mono ?_
    rintro e w1 ⟨rfl,hb⟩
    have hbw1:=hbw.trans (hb.mono hbw.size)
    clear hb hbw l0 l1 l2 HE
    go_wp2_with fail
    go_ret
    exact⟨i,rfl,.inr ⟨i,rfl,hlt,HM.out,_,HT.out,HP.out⟩,hbw1⟩
   ·replace hp:xtA s t=false:=by simpa using hp
    have HP:=lH hp
    rw[show decide (t.2=s)=false from hp] at HE
    clear hp
    go_wp2_with fail
    refine HE.out.mono ?_
    rintro e w1 ⟨rfl,hb⟩
    have hbw1:=hbw.trans (hb.mono hbw.size)
    clear hb hbw l0 l1 l2 HE
    go_wp2_with fail
    go_roundw
    case rel =>
     refine⟨i+1,by omega,by go_num,lH (fun t ht=>?_),hbw1⟩
     rw[HTK.out] at ht
     rcases List.mem_append.1 ht with ht|ht
     ·exact HM.out t ht
     ·rw[List.mem_singleton] at ht;rw[ht];exact HP.out
    case measure=>simp[intOf];omega
  ·obtain rfl:i=l.length:=by omega
   rw[List.take_length] at HM
   go_wp2_with fail
   go_ret
   exact⟨-1,rfl,.inl ⟨rfl,HM.out⟩,hbw⟩
theorem xr4 {s:ByteArray} {l:List ByteArray} (h:∀ t ∈ grp (bkt s) (plc l 0),xtA s t=false):xaK s l 0=none:=by
 rw[← xnY]
 have:=xzK (fun t=>decide (t.2=s)) _ h
 rw[this];rfl
theorem xrO {s:ByteArray} {l:List ByteArray} {i:Nat} {t:Kt} (hi:(grp (bkt s) (plc l 0))[i]?=some t) (hp:xtA s t=true) (hn:∀ x ∈ (grp (bkt s) (plc l 0)).take i,xtA s x=false):xaK s l 0=some t.1∧t.2=s:=by
 refine⟨?_,by simpa[xtA] using hp⟩
 rw[← xnY]
 have:=xoi (fun t=>decide (t.2=s)) _ i t hi hp hn
 rw[this];rfl
def xmy (l:List ByteArray) (s:ByteArray):Value:=.tuple #[.agg #[.int .u64 (xB4 (xaK s l 0):Nat),.int .u32 (xDp (xaK s l 0) s:Nat)],.bool (xaK s l 0).isSome]
set_option maxRecDepth 20000 in
theorem xuy (w:World) (pb:Nat) (va vm:Value) (G:Int→Value) (l:List ByteArray) (h:PoolAt w pb va vm G l) (s:ByteArray):Calls Tryz.prog 138 #[.pointer (some ⟨pb,0,none⟩),.int .i64 (bkt s),.string s] w fun e w'=>e=.returned (xmy l s)∧Below w.heap.size w w':=by
 have hr:=xkt s
 have hw:(Lit.int .i64 (bkt s)).wf=true:=wf_i64 (by omega) (by omega)
 have hf:=h.good.few
 have hlg:(grp (bkt s) (plc l 0)).length≤100000:=by have:=xq1 (bkt s) (plc l 0);rw[xdy] at this;omega
 have hb1:Below w.heap.size w (w.alloc (.cells #[.int .u64 0,.int .u32 0] 144)):=(Below.refl _ _).alloc (Nat.le_refl _) _
 have h1:=h.below hb1
 have hk0:=(h.grps (bkt s)).ktsAt
 have hk1:=hk0.below hb1
 have hlook:=h1.look (bkt s) hw
 have HI:=lH (xy9 _ _ s _ hk1 hlg)
 have HK:=lH hk0
 have HB:=lH hb1
 obtain⟨c0,c1,_,_⟩:=h1.two
 have ht2:=xfg w (.int .u64 0) (.int .u32 0) 144
 clear h h1 hk0 hk1 hb1 hlg hw hr hf
 generalize hG:G (bkt s)=gv at *
 clear hG
 go_enter Tryz.func138,Tryz.ntmps138
 go_wp2_with fail
 generalize w.alloc (.cells #[.int .u64 0,.int .u32 0] 144)=W at *
 refine HI.out.mono ?_
 rintro e w1 ⟨r,rfl,hr,hb⟩
 have hbb:=Below.trans HB.out (hb.mono HB.out.size)
 have h2:=ht2.below hb
 have H2:=lH h2
 have HBB:=lH hbb
 obtain⟨k0,k1,k2,k3⟩:=h2
 have hwn:w.heap.size<w1.heap.size:=xbx k0
 rcases hr with ⟨rfl,hno⟩|⟨i,rfl,hi,hno,t,ht,hp⟩
 ·have HN:=lH (xr4 hno)
  clear hno HK HI hlook hb hbb
  go_wp2_with fail
  refine bodyPost_ret (xhQ rfl _ _ w.heap.size _ _ _ _ rfl rfl (H2.out.set _ _).1 (H2.out.set _ _).2.1 Tryz.underlying144 rfl xcC) rfl ⟨?_,?_⟩
  ·unfold xmy
   rw[HN.out]
   rfl
  ·exact(HBB.out.setCell (p:=⟨w.heap.size,0,none⟩) (Nat.le_refl _) _).setCell (p:=⟨w.heap.size,1,none⟩) (Nat.le_refl _) _
 ·have HS:=lH (xrO ht hp hno)
  obtain⟨al,cap,rfl,hcap,hmx,hc⟩:=HK.out
  obtain⟨g,off,rfl,hg,d0,d1,d2⟩:=hc i t ht
  have hne:g≠w.heap.size:=by omega
  replace d0:=(hbb.cell (p:=⟨g,off+i*3,none⟩) hg).trans d0
  replace d1:=(hbb.cell (p:=⟨g,off+i*3+1,none⟩) hg).trans d1
  have hi2:(i:Int)<((grp (bkt s) (plc l 0)).length:Int):=by omega
  clear hc hno HK HI hlook hb hbb ht hp d2
  go_wp2_with fail
  refine bodyPost_ret (xhQ rfl _ _ w.heap.size _ _ _ _ rfl rfl (H2.out.set _ _).1 (H2.out.set _ _).2.1 Tryz.underlying144 rfl xcC) rfl ⟨?_,?_⟩
  ·unfold xmy
   rw[HS.out.1,HS.out.2]
   rfl
  ·exact(HBB.out.setCell (p:=⟨w.heap.size,0,none⟩) (Nat.le_refl _) _).setCell (p:=⟨w.heap.size,1,none⟩) (Nat.le_refl _) _
theorem xcY.belowG {w w':World} {v:Value} {l:List ByteArray} {S:Nat→Prop} (h:xcY w v l S) (hb:Below w.heap.size w w'):xcY w' v l S:=h.keep hb.size (fun b hS=>hb.block b (h.lt b hS))
theorem xsr {s:ByteArray} (h:s.size=0):s.toList.isEmpty=true:=by
 have hse:s={ data:=#[] }:=ByteArray.ext (Array.eq_empty_of_size_eq_zero h)
 rw[ByteArray.toList_eq,hse];rfl
theorem xuX {s:ByteArray} (h:¬ s.size=0):s.toList.isEmpty=false:=by
 rw[ByteArray.toList_eq,List.isEmpty_eq_false_iff]
 intro e
 apply h
 show s.data.size=0
 rw[← Array.length_toList,e];rfl
theorem xiH {l:List ByteArray} {s:ByteArray} {e:Nat} (h:eV l s=e) (h0:e≠0):xdb l s=false∧xcp l s=l∧offA l s=0∧lenA l s=0:=by
 have h1:xdb l s=false:=by unfold xdb;rw[h,decide_eq_false h0];rfl
 refine⟨h1,by unfold xcp;rw[h1];rfl,?_,?_⟩
 ·unfold offA;rw[h1,h,if_neg h0];rfl
 ·unfold lenA;rw[h,if_neg h0]
theorem xyD {l:List ByteArray} {s:ByteArray} {k:Nat} (h:eV l s=0) (hf:xaK s l 0=some k):xdb l s=false∧xcp l s=l∧offA l s=k∧lenA l s=s.size:=by
 have h1:xdb l s=false:=by unfold xdb;rw[hf];simp
 refine⟨h1,by unfold xcp;rw[h1];rfl,?_,?_⟩
 ·unfold offA;rw[h1,h,hf];rfl
 ·unfold lenA;rw[h,if_pos rfl]
theorem xzx {l:List ByteArray} {s:ByteArray} (h:eV l s=0) (hf:xaK s l 0=none):xdb l s=true∧xcp l s=l++[s]∧offA l s=totF l∧lenA l s=s.size:=by
 have h1:xdb l s=true:=by unfold xdb;rw[h,hf];rfl
 refine⟨h1,by unfold xcp;rw[h1];rfl,?_,?_⟩
 ·unfold offA;rw[h1];rfl
 ·unfold lenA;rw[h,if_pos rfl]
def xzp (l:List ByteArray) (s:ByteArray):Value:=.tuple #[.agg #[.int .u64 (offA l s:Nat),.int .u32 (lenA l s:Nat)],.bool (xdb l s),.int .i64 (eV l s:Nat)]
theorem xiZ {l:List ByteArray} {s:ByteArray} {e:Nat} (h:eV l s=e) (h0:e≠0):xzp l s=.tuple #[.agg #[.int .u64 0,.int .u32 0],.bool false,.int .i64 e]:=by
 obtain⟨h1,_,h3,h4⟩:=xiH h h0
 unfold xzp;rw[h1,h3,h4,h];rfl
set_option maxRecDepth 20000 in
theorem xvE (v:Value) (l:List ByteArray) (S:Nat→Prop) (s:ByteArray) (w:World) (h:xcY w v l S) (hs:s.size≤maxLen) :
  Calls Tryz.prog 69 #[v,.string s] w fun e w'=>e=.returned (xzp l s)∧∃ S',xcY w' v (xcp l s) S'∧Kept S S' w w':=by
 have hgood:=h.good
 have hb0:=xbu w (.cells #[.int .u64 0,.int .u32 0] 144)
 have ht2:=xfg w (.int .u64 0) (.int .u32 0) 144
 have HS:=lH h
 have HT:=lH (And.intro ht2 hb0)
 have hsm:=hs
 unfold maxLen at hsm
 by_cases h0:s.size=0
 ·have he:eV l s=2:=by unfold eV;rw[if_pos h0]
  have hd:=xsr h0
  have HR:=lH (xiZ he (by omega))
  have HN:=lH (xiH he (by omega)).2.1
  obtain⟨pb,va,vm,G,rfl,hP,hSS⟩:=h
  clear hP hSS he ht2 hb0 hgood
  go_enter Tryz.func69,Tryz.ntmps69
  go_wp2_with fail
  generalize w.alloc (.cells #[.int .u64 0,.int .u32 0] 144)=W at *
  refine bodyPost_ret (xcm rfl _ _ w.heap.size _ _ _ _ _ rfl rfl rfl HT.out.1.1 HT.out.1.2.1 Tryz.underlying144 rfl xcC) rfl ⟨by rw[HR.out];rfl,S,?_,?_⟩
  ·rw[HN.out]
   exact HS.out.belowG HT.out.2
  ·exact Kept.below _ HT.out.2
 ·have hd:=xuX h0
  by_cases h6:65536<s.size
  ·have he:eV l s=5:=by unfold eV;rw[if_neg h0,if_pos h6]
   have h6':(65536:Int)<(s.size:Int):=by omega
   have HR:=lH (xiZ he (by omega))
   have HN:=lH (xiH he (by omega)).2.1
   obtain⟨pb,va,vm,G,rfl,hP,hSS⟩:=h
   clear hP hSS he ht2 hb0 hgood
   go_enter Tryz.func69,Tryz.ntmps69
   go_wp2_with fail
   generalize w.alloc (.cells #[.int .u64 0,.int .u32 0] 144)=W at *
   refine bodyPost_ret (xcm rfl _ _ w.heap.size _ _ _ _ _ rfl rfl rfl HT.out.1.1 HT.out.1.2.1 Tryz.underlying144 rfl xcC) rfl ⟨by rw[HR.out];rfl,S,?_,?_⟩
   ·rw[HN.out]
    exact HS.out.belowG HT.out.2
   ·exact Kept.below _ HT.out.2
  ·have h6':¬ (65536:Int)<(s.size:Int):=by omega
   have heq:eV l s=if (xaK s l 0).isSome then 0 else if 2048≤l.length then 7 else 0:=by unfold eV;rw[if_neg h0,if_neg h6]
   obtain⟨pb,va,vm,G,rfl,hP,hSS⟩:=h
   obtain⟨al,cap,hva⟩:∃ al cap,va=.slice al l.length cap:=by
    obtain⟨al,cap,hva,_⟩:=hP.all.ktsAt
    rw[xdy] at hva
    exact⟨al,cap,hva⟩
   subst hva
   have HB:=lH (fun W=>xj3 s hs W)
   have HL:=lH (fun X (hX:Below (w.alloc (.cells #[.int .u64 0,.int .u32 0] 144)).heap.size (w.alloc (.cells #[.int .u64 0,.int .u32 0] 144)) X)=>xuy X pb _ vm G l ((hP.below hb0).below hX) s)
   have HP:=lH (And.intro hP hSS)
   have hlen:=hgood.few
   clear hP hSS ht2 hb0
   cases hfd:xaK s l 0 with
   | some k =>
    rw[hfd] at heq
    have he:eV l s=0:=heq
    have HA:=lH (xyD he hfd)
    have HE:=lH he
    have HLR:Hid (xmy l s=.tuple #[.agg #[.int .u64 (k:Nat),.int .u32 s.size],.bool true]):=lH (by unfold xmy;rw[hfd];rfl)
    rw[HLR.out] at HL
    clear heq he hfd
    go_enter Tryz.func69,Tryz.ntmps69
    go_wp2_with fail
    generalize w.alloc (.cells #[.int .u64 0,.int .u32 0] 144)=W at *
    refine(HB.out _).mono ?_
    rintro e w1 ⟨rfl,hb1⟩
    have HB1:=lH hb1
    clear hb1
    go_wp2_with fail
    refine(HL.out _ HB1.out).mono ?_
    rintro e w2 ⟨rfl,hb2⟩
    have hbb:=HB1.out.trans (hb2.mono HB1.out.size)
    have h2:=HT.out.1.below hbb
    have H2:=lH h2
    have HBB:=lH (HT.out.2.trans (hbb.mono HT.out.2.size))
    obtain⟨k0,k1,k2,k3⟩:=h2
    have hwl:w.heap.size<w2.heap.size:=xbx k0
    have hwn:w.heap.size≠w2.heap.size:=by omega
    clear hb2 hbb
    go_wp2_with fail
    refine bodyPost_ret (xcm rfl _ _ w.heap.size _ _ _ _ _ rfl rfl rfl ((H2.out.set _ _).alloc _).1 ((H2.out.set _ _).alloc _).2.1 Tryz.underlying144 rfl xcC) rfl ⟨?_,S,?_,?_⟩
    ·unfold xzp
     rw[HA.out.1,HA.out.2.2.1,HA.out.2.2.2,HE.out];rfl
    ·rw[HA.out.2.1]
     exact HS.out.belowG (((HBB.out.setCell (p:=⟨w.heap.size,0,none⟩) (Nat.le_refl _) _).setCell (p:=⟨w.heap.size,1,none⟩) (Nat.le_refl _) _).alloc (by simpa using HBB.out.size) _)
    ·exact Kept.below _ (((HBB.out.setCell (p:=⟨w.heap.size,0,none⟩) (Nat.le_refl _) _).setCell (p:=⟨w.heap.size,1,none⟩) (Nat.le_refl _) _).alloc (by simpa using HBB.out.size) _)
   | none =>
    rw[hfd] at heq
    have HLR:Hid (xmy l s=.tuple #[.agg #[.int .u64 0,.int .u32 0],.bool false]):=lH (by unfold xmy;rw[hfd];rfl)
    rw[HLR.out] at HL
    by_cases hfull:2048≤l.length
    ·have he:eV l s=7:=by rw[heq,if_pos hfull];rfl
     have HR:=lH (xiZ he (by omega))
     have HN:=lH (xiH he (by omega)).2.1
     have hf':(2048:Int)≤(l.length:Int):=by omega
     clear heq he hfd
     go_enter Tryz.func69,Tryz.ntmps69
     go_wp2_with fail
     generalize w.alloc (.cells #[.int .u64 0,.int .u32 0] 144)=W at *
     refine(HB.out _).mono ?_
     rintro e w1 ⟨rfl,hb1⟩
     have HB1:=lH hb1
     clear hb1
     go_wp2_with fail
     refine(HL.out _ HB1.out).mono ?_
     rintro e w2 ⟨rfl,hb2⟩
     have hbb:=HB1.out.trans (hb2.mono HB1.out.size)
     have H2:=lH (HT.out.1.below hbb)
     have hbw:=HT.out.2.trans (hbb.mono HT.out.2.size)
     have HBB:=lH hbw
     obtain⟨c0,c1,c2,c3⟩:=(HP.out.1.below hbw).two
     obtain⟨k0,k1,k2,k3⟩:=H2.out
     have hwl:w.heap.size<w2.heap.size:=xbx k0
     have hwn:w.heap.size≠w2.heap.size:=by omega
     have hpn:pb<w.heap.size:=HP.out.1.two.lt
     have hpn2:pb≠w2.heap.size:=by omega
     have dA:∀ O,(w2.alloc O).cell? ⟨pb,0,none⟩=some (.slice al l.length cap):=fun O=>xap (xbu w2 O) c0
     clear hb2 hbb hbw
     go_wp2_with fail
     refine bodyPost_ret (xcm rfl _ _ w.heap.size _ _ _ _ _ rfl rfl rfl ((H2.out.set _ _).alloc _).1 ((H2.out.set _ _).alloc _).2.1 Tryz.underlying144 rfl xcC) rfl ⟨?_,S,?_,?_⟩
     ·rw[HR.out];rfl
     ·rw[HN.out]
      exact HS.out.belowG (((HBB.out.setCell (p:=⟨w.heap.size,0,none⟩) (Nat.le_refl _) _).setCell (p:=⟨w.heap.size,1,none⟩) (Nat.le_refl _) _).alloc (by simpa using HBB.out.size) _)
     ·exact Kept.below _ (((HBB.out.setCell (p:=⟨w.heap.size,0,none⟩) (Nat.le_refl _) _).setCell (p:=⟨w.heap.size,1,none⟩) (Nat.le_refl _) _).alloc (by simpa using HBB.out.size) _)
    ·have he:eV l s=0:=by rw[heq,if_neg hfull];rfl
     have HA:=lH (xzx he hfd)
     have HE:=lH he
     have hf':¬ (2048:Int)≤(l.length:Int):=by omega
     have hnl:=(xdQ s l 0).1 hfd
     have hg2:GoodP (l++[s]):=by
      refine⟨fun t ht=>?_,fun t ht=>?_,?_,by simp;omega⟩
      ·rcases List.mem_append.1 ht with h|h
       ·exact hgood.pos t h
       ·rw[List.mem_singleton] at h;rw[h];omega
      ·rcases List.mem_append.1 ht with h|h
       ·exact hgood.short t h
       ·rw[List.mem_singleton] at h;rw[h];omega
      ·rw[List.nodup_append]
       exact⟨hgood.once,by simp,fun a ha b hb=>by rw[List.mem_singleton] at hb;rw[hb];intro e;exact hnl (e ▸ ha)⟩
     have HG:=lH hg2
     clear heq he hfd hnl hg2
     go_enter Tryz.func69,Tryz.ntmps69
     go_wp2_with fail
     generalize w.alloc (.cells #[.int .u64 0,.int .u32 0] 144)=W at *
     refine(HB.out _).mono ?_
     rintro e w1 ⟨rfl,hb1⟩
     have HB1:=lH hb1
     clear hb1
     go_wp2_with fail
     refine(HL.out _ HB1.out).mono ?_
     rintro e w2 ⟨rfl,hb2⟩
     have hbb:=HB1.out.trans (hb2.mono HB1.out.size)
     have h2:=HT.out.1.below hbb
     have hbw:=HT.out.2.trans (hbb.mono HT.out.2.size)
     have hp2:=HP.out.1.below hbw
     obtain⟨c0,c1,c2,c3⟩:=hp2.two
     have hwl:w.heap.size<w2.heap.size:=h2.lt
     have hpn:pb<w.heap.size:=HP.out.1.two.lt
     have hpn2:pb≠w2.heap.size:=by omega
     have dA:∀ O,(w2.alloc O).cell? ⟨pb,0,none⟩=some (.slice al l.length cap):=fun O=>xap (xbu w2 O) c0
     have HX:=lH (fun O=>And.intro (hp2.below (xbu w2 O)) (And.intro (h2.alloc O) (hbw.alloc hbw.size O)))
     have HLA:=lH (fun O=>xzL (w2.alloc O) pb _ vm G l (hp2.below (xbu w2 O)) s HG.out)
     clear hb2 hbb hbw h2 hp2
     go_wp2_with fail
     refine(HLA.out _).mono ?_
     rintro e w3 ⟨rfl,va',vm',G',hp3,hk3⟩
     obtain⟨hx1,hx2,hx3⟩:=HX.out (.cells #[.int .u64 0,.int .u32 0] 144)
     have hnS:¬ xfX pb (.slice al l.length cap) vm G w.heap.size:=fun hb=>by have:=HP.out.1.lt _ hb;omega
     have h3:=hx2.keep (hk3.same _ hx2.lt hnS)
     have hnS3:¬ xfX pb va' vm' G' w.heap.size:=fun hb=>by
      rcases hk3.own _ hb with h|h
      ·exact hnS h
      ·have:(w2.alloc (.cells #[.int .u64 0,.int .u32 0] 144)).heap.size=w2.heap.size+1:=by simp
       omega
     have H3:=lH h3
     have HP3:=lH (hp3.set2 w.heap.size hnS3)
     have HK3:=lH (((Kept.below (xfX pb (.slice al l.length cap) vm G) hx3).trans hk3).set2 w.heap.size (Nat.le_refl _))
     obtain⟨k0,k1,k2,k3⟩:=h3
     clear hp3 hk3 hx1 hx2 hx3 HX HLA
     go_wp2_with fail
     refine bodyPost_ret (xcm rfl _ _ w.heap.size _ _ _ _ _ rfl rfl rfl (H3.out.set _ _).1 (H3.out.set _ _).2.1 Tryz.underlying144 rfl xcC) rfl ⟨?_,xfX pb va' vm' G',?_,?_⟩
     ·unfold xzp
      rw[HA.out.1,HA.out.2.2.1,HA.out.2.2.2,HE.out];rfl
     ·rw[HA.out.2.1]
      exact⟨pb,va',vm',G',rfl,HP3.out _ _,fun b=>Iff.rfl⟩
     ·have hk:=HK3.out (.int .u64 (totF l:Nat)) (.int .u32 s.size)
      exact⟨hk.os,hk.tape,hk.output,hk.size,fun b hb hn=>hk.same b hb (fun h=>hn ((HP.out.2 b).2 h)),fun b hb=>by
       rcases hk.own b hb with h|h
       ·exact .inl ((HP.out.2 b).2 h)
       ·exact .inr h⟩
end Go.Proofs.YtjkgkmmkehnggaaGreatDoor
