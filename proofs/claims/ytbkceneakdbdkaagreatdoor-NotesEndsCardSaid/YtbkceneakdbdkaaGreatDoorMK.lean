/- Several texts, one behind the other: Nk, Nl. -/
import Derived.Test.YtbkceneakdbdkaaGreatDoorMI
import Derived.Deep.RegionHeld3
/- The document's Same. -/
namespace Go.Proofs.YtbkceneakdbdkaaGreatDoor
open Go.RowKit
set_option maxRecDepth 20000
set_option linter.unusedVariables false
set_option linter.unusedSimpArgs false
theorem takeH {P : Program} {ops : Array Oper} {Q : Exit → Act → World → Prop} {md : Region.Mode} {S : World → Prop} {i d : Nat} {oi : Oper} {v : Value} {fuel : Nat} {listed : Array Bool} {a : Act} {w : World} (hi : ops[i]? = some oi) (hd : oi.dst = some d)
    (hs : Region.noSelect ops = true) (hf : Region.free md ops listed i = true) (hr : (Region.ready md ops listed).contains i = true)
    (hQ : ∀ c a w, Q (.panic c) (a.put (some d) v) w → Q (.panic c) a w) (hy : YieldsIf P ops S oi v a) (hS : S w)
    (h : wpAnyH P md ops Q S fuel (listed.setIfInBounds i true) (a.put (some d) v) w) : wpAnyH P md ops Q S (fuel + 1) listed a w :=
  wpAnyH_take hi hs hf hr (by rw [hd]; exact hQ) hy hS (by rw [hd]; exact h)
theorem yieldsIf_row {ops : Array Oper} {S : World → Prop} {op : Oper} {a : Act} (hw : Region.wanted op (yielded ops a.tmps) = true) (ty : TypeId) (x : Operand) (ho : op.op = .load ty x)
    (g : Nat) (hx : a.eval x = .pointer (some ⟨g, 0, none⟩)) (T : TypeId) (A : Array Value) (hl : ∀ w : World, w.heap[g]? = some (.cells A T (0, 0)) → (loadVar ty ⟨g, 0, none⟩).run Tryz.prog w = .ok (.agg A) w)
    (hS : ∀ w, S w → w.heap[g]? = some (.cells A T (0, 0))) : YieldsIf Tryz.prog ops S op (.agg A) a :=
  .inl ⟨hw, fun w hw' => by
    unfold execOp
    simp only [ho, hx, Instr.loadAt, Instr.sureAddr, Sem.run_bind, Sem.run_pure, Result.andThen_ok, hl w (hS w hw')]⟩
theorem hk_later {w w' : World} {b : Nat} {o : Obj} (hb : Below w.heap.size w w') (h : w.heap[b]? = some o) : w'.heap[b]? = some o :=
  (hb.block b (Array.getElem?_eq_some_iff.1 h).1).trans h
theorem heap_new17 (w : World) (o : Obj) : (w.alloc o).heap[w.heap.size]? = some o := by
  show (w.heap.push o)[w.heap.size]? = _
  simp
theorem heap_old17 {w : World} {o : Obj} {k : Nat} (h : k < w.heap.size) : (w.alloc o).heap[k]? = w.heap[k]? := ((Below.refl w.heap.size w).alloc (Nat.le_refl _) o).block k h
theorem keep_s2 {w w' w1 : World} {A1 A2 : Array Value} (hb : Below w'.heap.size w' w1) (h : w'.heap[w.heap.size]? = some (.cells A1 25 (0, 0)) ∧ w'.heap[w.heap.size + 1]? = some (.cells A2 25 (0, 0)) ∧ Below w.heap.size w w') : w1.heap[w.heap.size]? = some (.cells A1 25 (0, 0)) ∧ w1.heap[w.heap.size + 1]? = some (.cells A2 25 (0, 0)) ∧ Below w.heap.size w w1 :=
  ⟨hk_later hb h.1, hk_later hb h.2.1, h.2.2.trans (hb.mono h.2.2.size)⟩
theorem node_sz (v : Nt) : (Tryz.prog.info? 25).map (·.size) = some (ntCells v).toArray.size := by
  cases v
  rfl
def sameV (a b : Js) : Bool := decide (chkV 1 a = 0 ∧ chkV 1 b = 0 ∧ str (printV a) = str (printV b))
theorem ret_b {a b : Bool} (h : a = b) : Ending.returned (.bool a) = .returned (.bool b) := by rw [h]
set_option maxHeartbeats 2000000 in
theorem rsame_any (v1 v2 : Nt) (w : World) (i1 : v1.In w) (i2 : v2.In w) (l1 : 0 ≤ wgV 200 v1) (l2 : 0 ≤ wgV 200 v2) : Calls Tryz.prog 18 #[ntA v1, ntA v2] w fun x w' => x = .returned (.bool (sameV (toJ v1) (toJ v2))) ∧ Below w.heap.size w w' := by
  have f1 := fit_of 200 v1 l1
  have f2 := fit_of 200 v2 l2
  have HC1 := Lib.hid (fun W (hb : Below w.heap.size w W) => rcheck_any v1 W (i1.below hb) f1)
  have HC2 := Lib.hid (fun W (hb : Below w.heap.size w W) => rcheck_any v2 W (i2.below hb) f2)
  have HJ1 := Lib.hid (fun W (hb : Below w.heap.size w W) hc => json_any v1 1 W (i1.below hb) f1 hc (len_light l1 hc))
  have HJ2 := Lib.hid (fun W (hb : Below w.heap.size w W) hc => json_any v2 1 W (i2.below hb) f2 hc (len_light l2 hc))
  have Z1 := Lib.hid (node_sz v1)
  have Z2 := Lib.hid (node_sz v2)
  clear i1 i2 l1 l2 f1 f2
  unfold ntA at HC1 HC2 HJ1 HJ2 ⊢
  generalize (ntCells v1).toArray = A1 at *
  generalize (ntCells v2).toArray = A2 at *
  generalize toJ v1 = y1 at *
  generalize toJ v2 = y2 at *
  obtain ⟨B, hB⟩ : ∃ B, sameV y1 y2 = B := ⟨_, rfl⟩
  rw [hB]
  unfold sameV at hB
  have HBB := Lib.hid hB
  clear hB
  obtain ⟨c1, hc1⟩ : ∃ c, chkV 1 y1 = c := ⟨_, rfl⟩
  obtain ⟨c2, hc2⟩ : ∃ c, chkV 1 y2 = c := ⟨_, rfl⟩
  rw [hc1] at HC1 HJ1 HBB
  rw [hc2] at HC2 HJ2 HBB
  clear hc1 hc2
  by_cases e1 : c1 = 0
  case neg =>
    have hd : (c1 == 0) = false := by simpa using e1
    have hf : B = false := by rw [← HBB.out]; simp [e1]
    subst hf
    clear e1
    obtain ⟨W0, hW0⟩ : ∃ W0, (w.alloc (.cells A1 25)).alloc (.cells A2 25) = W0 := ⟨_, rfl⟩
    have H0 : W0.heap[w.heap.size]? = some (.cells A1 25 (0, 0)) ∧ W0.heap[w.heap.size + 1]? = some (.cells A2 25 (0, 0)) ∧ Below w.heap.size w W0 := by
      subst hW0
      refine ⟨(heap_old17 (by simp)).trans (heap_new17 w _), ?_, ((Below.refl _ w).alloc (Nat.le_refl _) _).alloc (by simp) _⟩
      have := heap_new17 (w.alloc (.cells A1 25)) (.cells A2 25)
      rwa [World.size_alloc] at this
    have HS0 := keep_s2 (Below.drew (Below.refl _ _)) H0
    go_enter Tryz.func18, Tryz.ntmps18
    go_upto_region 1 with fail
    try rw [hW0]
    clear hW0 H0
    refine wp_region_held_drew (S := fun w' => w'.heap[w.heap.size]? = some (.cells A1 25 (0, 0)) ∧ w'.heap[w.heap.size + 1]? = some (.cells A2 25 (0, 0)) ∧ Below w.heap.size w w') (by kernel_rfl) HS0 (fun hH0 => ?_)
    refine takeH (i := 0) (d := 5) rfl rfl (by kernel_rfl) (by kernel_rfl) (by kernel_rfl) (fun _ _ _ h => h) (yieldsIf_row (by rfl) 25 _ rfl _ rfl 25 A1 (fun w h => run_loadVar_row w _ _ 25 A1 (0, 0) _ h Tryz.underlying25 rfl Z1.out) (fun _ H => H.1)) hH0 ?_
    try simp only [Act.put, List.setIfInBounds_toArray, List.set_cons_zero, List.set_cons_succ]
    refine wpAnyH_ready (rs := [1]) (by kernel_rfl) (by simp) ?_
    refine AllReadyH.cons rfl (fun K hK => ?_) AllReadyH.nil
    go_simp
    refine (HC1.out _ hH0.2.2).mono ?_
    rintro e w' ⟨rfl, hb⟩
    go_wp2_with fail
    refine hK.out _ _ (keep_s2 hb hH0) (fun hH1 => ?_)
    clear hK K hb hH0
    try simp only [Act.put, List.setIfInBounds_toArray, List.set_cons_zero, List.set_cons_succ]
    refine takeH (i := 2) (d := 7) (v := ?_) rfl rfl (by kernel_rfl) (by kernel_rfl) (by kernel_rfl) (fun _ _ _ h => h) (Or.inl ⟨by rfl, ?y2⟩) hH1 ?_
    case y2 => intro w hSw; go_simp; try with_reducible rfl
    try simp only [Act.put, List.setIfInBounds_toArray, List.set_cons_zero, List.set_cons_succ]
    refine takeH (i := 3) (d := 8) (v := ?_) rfl rfl (by kernel_rfl) (by kernel_rfl) (by kernel_rfl) (fun _ _ _ h => h) (Or.inl ⟨by rfl, ?y3⟩) hH1 ?_
    case y3 => intro w hSw; go_simp; try with_reducible rfl
    try simp only [Act.put, List.setIfInBounds_toArray, List.set_cons_zero, List.set_cons_succ]
    refine takeH (i := 4) (d := 9) (v := undef) rfl rfl (by kernel_rfl) (by kernel_rfl) (by kernel_rfl) (fun _ _ _ h => h) (Or.inr ⟨by rfl, rfl⟩) hH1 ?_
    try simp only [Act.put, List.setIfInBounds_toArray, List.set_cons_zero, List.set_cons_succ]
    refine takeH (i := 5) (d := 10) (v := undef) rfl rfl (by kernel_rfl) (by kernel_rfl) (by kernel_rfl) (fun _ _ _ h => h) (Or.inr ⟨by rfl, rfl⟩) hH1 ?_
    try simp only [Act.put, List.setIfInBounds_toArray, List.set_cons_zero, List.set_cons_succ]
    refine takeH (i := 6) (d := 11) (v := undef) rfl rfl (by kernel_rfl) (by kernel_rfl) (by kernel_rfl) (fun _ _ _ h => h) (Or.inr ⟨by rfl, rfl⟩) hH1 ?_
    try simp only [Act.put, List.setIfInBounds_toArray, List.set_cons_zero, List.set_cons_succ]
    refine takeH (i := 7) (d := 12) (v := ?_) rfl rfl (by kernel_rfl) (by kernel_rfl) (by kernel_rfl) (fun _ _ _ h => h) (Or.inl ⟨by rfl, ?y7⟩) hH1 ?_
    case y7 => intro w hSw; go_simp; try with_reducible rfl
    try simp only [Act.put, List.setIfInBounds_toArray, List.set_cons_zero, List.set_cons_succ]
    refine takeH (i := 8) (d := 13) (v := ?_) rfl rfl (by kernel_rfl) (by kernel_rfl) (by kernel_rfl) (fun _ _ _ h => h) (Or.inl ⟨by rfl, ?y8⟩) hH1 ?_
    case y8 => intro w hSw; go_simp; try with_reducible rfl
    try simp only [Act.put, List.setIfInBounds_toArray, List.set_cons_zero, List.set_cons_succ]
    refine takeH (i := 9) (d := 14) (v := undef) rfl rfl (by kernel_rfl) (by kernel_rfl) (by kernel_rfl) (fun _ _ _ h => h) (Or.inr ⟨by rfl, rfl⟩) hH1 ?_
    try simp only [Act.put, List.setIfInBounds_toArray, List.set_cons_zero, List.set_cons_succ]
    refine takeH (i := 11) (d := 16) (v := undef) rfl rfl (by kernel_rfl) (by kernel_rfl) (by kernel_rfl) (fun _ _ _ h => h) (Or.inr ⟨by rfl, rfl⟩) hH1 ?_
    try simp only [Act.put, List.setIfInBounds_toArray, List.set_cons_zero, List.set_cons_succ]
    refine takeH (i := 10) (d := 15) (v := undef) rfl rfl (by kernel_rfl) (by kernel_rfl) (by kernel_rfl) (fun _ _ _ h => h) (Or.inr ⟨by rfl, rfl⟩) hH1 ?_
    try simp only [Act.put, List.setIfInBounds_toArray, List.set_cons_zero, List.set_cons_succ]
    refine takeH (i := 12) (d := 17) (v := undef) rfl rfl (by kernel_rfl) (by kernel_rfl) (by kernel_rfl) (fun _ _ _ h => h) (Or.inr ⟨by rfl, rfl⟩) hH1 ?_
    try simp only [Act.put, List.setIfInBounds_toArray, List.set_cons_zero, List.set_cons_succ]
    refine takeH (i := 13) (d := 18) (v := undef) rfl rfl (by kernel_rfl) (by kernel_rfl) (by kernel_rfl) (fun _ _ _ h => h) (Or.inr ⟨by rfl, rfl⟩) hH1 ?_
    try simp only [Act.put, List.setIfInBounds_toArray, List.set_cons_zero, List.set_cons_succ]
    refine takeH (i := 14) (d := 19) (v := ?_) rfl rfl (by kernel_rfl) (by kernel_rfl) (by kernel_rfl) (fun _ _ _ h => h) (Or.inl ⟨by rfl, ?y14⟩) hH1 ?_
    case y14 => intro w hSw; go_simp; try with_reducible rfl
    try simp only [Act.put, List.setIfInBounds_toArray, List.set_cons_zero, List.set_cons_succ]
    refine takeH (i := 15) (d := 4) (v := ?_) rfl rfl (by kernel_rfl) (by kernel_rfl) (by kernel_rfl) (fun _ _ _ h => h) (Or.inl ⟨by rfl, ?y15⟩) hH1 ?_
    case y15 => intro w hSw; go_simp; try with_reducible rfl
    try simp only [Act.put, List.setIfInBounds_toArray, List.set_cons_zero, List.set_cons_succ]
    refine wpAnyH_done (by kernel_rfl) ?_ _
    go_wp2_with fail
    go_ret
    exact ⟨ret_b rfl, hH1.2.2⟩
  subst e1
  by_cases e2 : c2 = 0
  case neg =>
    have hd : (c2 == 0) = false := by simpa using e2
    have hf : B = false := by rw [← HBB.out]; simp [e2]
    subst hf
    clear e2
    obtain ⟨W0, hW0⟩ : ∃ W0, (w.alloc (.cells A1 25)).alloc (.cells A2 25) = W0 := ⟨_, rfl⟩
    have H0 : W0.heap[w.heap.size]? = some (.cells A1 25 (0, 0)) ∧ W0.heap[w.heap.size + 1]? = some (.cells A2 25 (0, 0)) ∧ Below w.heap.size w W0 := by
      subst hW0
      refine ⟨(heap_old17 (by simp)).trans (heap_new17 w _), ?_, ((Below.refl _ w).alloc (Nat.le_refl _) _).alloc (by simp) _⟩
      have := heap_new17 (w.alloc (.cells A1 25)) (.cells A2 25)
      rwa [World.size_alloc] at this
    have HS0 := keep_s2 (Below.drew (Below.refl _ _)) H0
    go_enter Tryz.func18, Tryz.ntmps18
    go_upto_region 1 with fail
    try rw [hW0]
    clear hW0 H0
    refine wp_region_held_drew (S := fun w' => w'.heap[w.heap.size]? = some (.cells A1 25 (0, 0)) ∧ w'.heap[w.heap.size + 1]? = some (.cells A2 25 (0, 0)) ∧ Below w.heap.size w w') (by kernel_rfl) HS0 (fun hH0 => ?_)
    refine takeH (i := 0) (d := 5) rfl rfl (by kernel_rfl) (by kernel_rfl) (by kernel_rfl) (fun _ _ _ h => h) (yieldsIf_row (by rfl) 25 _ rfl _ rfl 25 A1 (fun w h => run_loadVar_row w _ _ 25 A1 (0, 0) _ h Tryz.underlying25 rfl Z1.out) (fun _ H => H.1)) hH0 ?_
    try simp only [Act.put, List.setIfInBounds_toArray, List.set_cons_zero, List.set_cons_succ]
    refine wpAnyH_ready (rs := [1]) (by kernel_rfl) (by simp) ?_
    refine AllReadyH.cons rfl (fun K hK => ?_) AllReadyH.nil
    go_simp
    refine (HC1.out _ hH0.2.2).mono ?_
    rintro e w' ⟨rfl, hb⟩
    go_wp2_with fail
    refine hK.out _ _ (keep_s2 hb hH0) (fun hH1 => ?_)
    clear hK K hb hH0
    try simp only [Act.put, List.setIfInBounds_toArray, List.set_cons_zero, List.set_cons_succ]
    refine takeH (i := 2) (d := 7) (v := ?_) rfl rfl (by kernel_rfl) (by kernel_rfl) (by kernel_rfl) (fun _ _ _ h => h) (Or.inl ⟨by rfl, ?y2⟩) hH1 ?_
    case y2 => intro w hSw; go_simp; try with_reducible rfl
    try simp only [Act.put, List.setIfInBounds_toArray, List.set_cons_zero, List.set_cons_succ]
    refine takeH (i := 3) (d := 8) (v := ?_) rfl rfl (by kernel_rfl) (by kernel_rfl) (by kernel_rfl) (fun _ _ _ h => h) (Or.inl ⟨by rfl, ?y3⟩) hH1 ?_
    case y3 => intro w hSw; go_simp; try with_reducible rfl
    try simp only [Act.put, List.setIfInBounds_toArray, List.set_cons_zero, List.set_cons_succ]
    refine takeH (i := 4) (d := 9) rfl rfl (by kernel_rfl) (by kernel_rfl) (by kernel_rfl) (fun _ _ _ h => h) (yieldsIf_row (by rfl) 25 _ rfl _ rfl 25 A2 (fun w h => run_loadVar_row w _ _ 25 A2 (0, 0) _ h Tryz.underlying25 rfl Z2.out) (fun _ H => H.2.1)) hH1 ?_
    try simp only [Act.put, List.setIfInBounds_toArray, List.set_cons_zero, List.set_cons_succ]
    refine wpAnyH_ready (rs := [5]) (by kernel_rfl) (by simp) ?_
    refine AllReadyH.cons rfl (fun K hK => ?_) AllReadyH.nil
    go_simp
    refine (HC2.out _ hH1.2.2).mono ?_
    rintro e w' ⟨rfl, hb⟩
    go_wp2_with fail
    refine hK.out _ _ (keep_s2 hb hH1) (fun hH2 => ?_)
    clear hK K hb hH1
    try simp only [Act.put, List.setIfInBounds_toArray, List.set_cons_zero, List.set_cons_succ]
    refine takeH (i := 6) (d := 11) (v := ?_) rfl rfl (by kernel_rfl) (by kernel_rfl) (by kernel_rfl) (fun _ _ _ h => h) (Or.inl ⟨by rfl, ?y6⟩) hH2 ?_
    case y6 => intro w hSw; go_simp; try with_reducible rfl
    try simp only [Act.put, List.setIfInBounds_toArray, List.set_cons_zero, List.set_cons_succ]
    refine takeH (i := 7) (d := 12) (v := ?_) rfl rfl (by kernel_rfl) (by kernel_rfl) (by kernel_rfl) (fun _ _ _ h => h) (Or.inl ⟨by rfl, ?y7⟩) hH2 ?_
    case y7 => intro w hSw; go_simp; try with_reducible rfl
    try simp only [Act.put, List.setIfInBounds_toArray, List.set_cons_zero, List.set_cons_succ]
    refine takeH (i := 8) (d := 13) (v := ?_) rfl rfl (by kernel_rfl) (by kernel_rfl) (by kernel_rfl) (fun _ _ _ h => h) (Or.inl ⟨by rfl, ?y8⟩) hH2 ?_
    case y8 => intro w hSw; go_simp; try with_reducible rfl
    try simp only [Act.put, List.setIfInBounds_toArray, List.set_cons_zero, List.set_cons_succ]
    refine takeH (i := 9) (d := 14) (v := undef) rfl rfl (by kernel_rfl) (by kernel_rfl) (by kernel_rfl) (fun _ _ _ h => h) (Or.inr ⟨by rfl, rfl⟩) hH2 ?_
    try simp only [Act.put, List.setIfInBounds_toArray, List.set_cons_zero, List.set_cons_succ]
    refine takeH (i := 11) (d := 16) (v := undef) rfl rfl (by kernel_rfl) (by kernel_rfl) (by kernel_rfl) (fun _ _ _ h => h) (Or.inr ⟨by rfl, rfl⟩) hH2 ?_
    try simp only [Act.put, List.setIfInBounds_toArray, List.set_cons_zero, List.set_cons_succ]
    refine takeH (i := 10) (d := 15) (v := undef) rfl rfl (by kernel_rfl) (by kernel_rfl) (by kernel_rfl) (fun _ _ _ h => h) (Or.inr ⟨by rfl, rfl⟩) hH2 ?_
    try simp only [Act.put, List.setIfInBounds_toArray, List.set_cons_zero, List.set_cons_succ]
    refine takeH (i := 12) (d := 17) (v := undef) rfl rfl (by kernel_rfl) (by kernel_rfl) (by kernel_rfl) (fun _ _ _ h => h) (Or.inr ⟨by rfl, rfl⟩) hH2 ?_
    try simp only [Act.put, List.setIfInBounds_toArray, List.set_cons_zero, List.set_cons_succ]
    refine takeH (i := 13) (d := 18) (v := undef) rfl rfl (by kernel_rfl) (by kernel_rfl) (by kernel_rfl) (fun _ _ _ h => h) (Or.inr ⟨by rfl, rfl⟩) hH2 ?_
    try simp only [Act.put, List.setIfInBounds_toArray, List.set_cons_zero, List.set_cons_succ]
    refine takeH (i := 14) (d := 19) (v := ?_) rfl rfl (by kernel_rfl) (by kernel_rfl) (by kernel_rfl) (fun _ _ _ h => h) (Or.inl ⟨by rfl, ?y14⟩) hH2 ?_
    case y14 => intro w hSw; go_simp; try with_reducible rfl
    try simp only [Act.put, List.setIfInBounds_toArray, List.set_cons_zero, List.set_cons_succ]
    refine takeH (i := 15) (d := 4) (v := ?_) rfl rfl (by kernel_rfl) (by kernel_rfl) (by kernel_rfl) (fun _ _ _ h => h) (Or.inl ⟨by rfl, ?y15⟩) hH2 ?_
    case y15 => intro w hSw; go_simp; try with_reducible rfl
    try simp only [Act.put, List.setIfInBounds_toArray, List.set_cons_zero, List.set_cons_succ]
    refine wpAnyH_done (by kernel_rfl) ?_ _
    go_wp2_with fail
    go_ret
    exact ⟨ret_b rfl, hH2.2.2⟩
  subst e2
  have HK1 := Lib.hid (fun W hb => HJ1.out W hb rfl)
  have HK2 := Lib.hid (fun W hb => HJ2.out W hb rfl)
  clear HJ1 HJ2
  generalize str (printV y1) = X1 at *
  generalize str (printV y2) = X2 at *
  by_cases e3 : X1 = X2
  case neg =>
    have hq := str_no e3
    have hf : B = false := by rw [← HBB.out]; simp [e3]
    subst hf
    clear e3
    obtain ⟨W0, hW0⟩ : ∃ W0, (w.alloc (.cells A1 25)).alloc (.cells A2 25) = W0 := ⟨_, rfl⟩
    have H0 : W0.heap[w.heap.size]? = some (.cells A1 25 (0, 0)) ∧ W0.heap[w.heap.size + 1]? = some (.cells A2 25 (0, 0)) ∧ Below w.heap.size w W0 := by
      subst hW0
      refine ⟨(heap_old17 (by simp)).trans (heap_new17 w _), ?_, ((Below.refl _ w).alloc (Nat.le_refl _) _).alloc (by simp) _⟩
      have := heap_new17 (w.alloc (.cells A1 25)) (.cells A2 25)
      rwa [World.size_alloc] at this
    have HS0 := keep_s2 (Below.drew (Below.refl _ _)) H0
    go_enter Tryz.func18, Tryz.ntmps18
    go_upto_region 1 with fail
    try rw [hW0]
    clear hW0 H0
    refine wp_region_held_drew (S := fun w' => w'.heap[w.heap.size]? = some (.cells A1 25 (0, 0)) ∧ w'.heap[w.heap.size + 1]? = some (.cells A2 25 (0, 0)) ∧ Below w.heap.size w w') (by kernel_rfl) HS0 (fun hH0 => ?_)
    refine takeH (i := 0) (d := 5) rfl rfl (by kernel_rfl) (by kernel_rfl) (by kernel_rfl) (fun _ _ _ h => h) (yieldsIf_row (by rfl) 25 _ rfl _ rfl 25 A1 (fun w h => run_loadVar_row w _ _ 25 A1 (0, 0) _ h Tryz.underlying25 rfl Z1.out) (fun _ H => H.1)) hH0 ?_
    try simp only [Act.put, List.setIfInBounds_toArray, List.set_cons_zero, List.set_cons_succ]
    refine wpAnyH_ready (rs := [1]) (by kernel_rfl) (by simp) ?_
    refine AllReadyH.cons rfl (fun K hK => ?_) AllReadyH.nil
    go_simp
    refine (HC1.out _ hH0.2.2).mono ?_
    rintro e w' ⟨rfl, hb⟩
    go_wp2_with fail
    refine hK.out _ _ (keep_s2 hb hH0) (fun hH1 => ?_)
    clear hK K hb hH0
    try simp only [Act.put, List.setIfInBounds_toArray, List.set_cons_zero, List.set_cons_succ]
    refine takeH (i := 2) (d := 7) (v := ?_) rfl rfl (by kernel_rfl) (by kernel_rfl) (by kernel_rfl) (fun _ _ _ h => h) (Or.inl ⟨by rfl, ?y2⟩) hH1 ?_
    case y2 => intro w hSw; go_simp; try with_reducible rfl
    try simp only [Act.put, List.setIfInBounds_toArray, List.set_cons_zero, List.set_cons_succ]
    refine takeH (i := 3) (d := 8) (v := ?_) rfl rfl (by kernel_rfl) (by kernel_rfl) (by kernel_rfl) (fun _ _ _ h => h) (Or.inl ⟨by rfl, ?y3⟩) hH1 ?_
    case y3 => intro w hSw; go_simp; try with_reducible rfl
    try simp only [Act.put, List.setIfInBounds_toArray, List.set_cons_zero, List.set_cons_succ]
    refine takeH (i := 4) (d := 9) rfl rfl (by kernel_rfl) (by kernel_rfl) (by kernel_rfl) (fun _ _ _ h => h) (yieldsIf_row (by rfl) 25 _ rfl _ rfl 25 A2 (fun w h => run_loadVar_row w _ _ 25 A2 (0, 0) _ h Tryz.underlying25 rfl Z2.out) (fun _ H => H.2.1)) hH1 ?_
    try simp only [Act.put, List.setIfInBounds_toArray, List.set_cons_zero, List.set_cons_succ]
    refine wpAnyH_ready (rs := [5]) (by kernel_rfl) (by simp) ?_
    refine AllReadyH.cons rfl (fun K hK => ?_) AllReadyH.nil
    go_simp
    refine (HC2.out _ hH1.2.2).mono ?_
    rintro e w' ⟨rfl, hb⟩
    go_wp2_with fail
    refine hK.out _ _ (keep_s2 hb hH1) (fun hH2 => ?_)
    clear hK K hb hH1
    try simp only [Act.put, List.setIfInBounds_toArray, List.set_cons_zero, List.set_cons_succ]
    refine takeH (i := 6) (d := 11) (v := ?_) rfl rfl (by kernel_rfl) (by kernel_rfl) (by kernel_rfl) (fun _ _ _ h => h) (Or.inl ⟨by rfl, ?y6⟩) hH2 ?_
    case y6 => intro w hSw; go_simp; try with_reducible rfl
    try simp only [Act.put, List.setIfInBounds_toArray, List.set_cons_zero, List.set_cons_succ]
    refine takeH (i := 7) (d := 12) (v := ?_) rfl rfl (by kernel_rfl) (by kernel_rfl) (by kernel_rfl) (fun _ _ _ h => h) (Or.inl ⟨by rfl, ?y7⟩) hH2 ?_
    case y7 => intro w hSw; go_simp; try with_reducible rfl
    try simp only [Act.put, List.setIfInBounds_toArray, List.set_cons_zero, List.set_cons_succ]
    refine takeH (i := 8) (d := 13) (v := ?_) rfl rfl (by kernel_rfl) (by kernel_rfl) (by kernel_rfl) (fun _ _ _ h => h) (Or.inl ⟨by rfl, ?y8⟩) hH2 ?_
    case y8 => intro w hSw; go_simp; try with_reducible rfl
    try simp only [Act.put, List.setIfInBounds_toArray, List.set_cons_zero, List.set_cons_succ]
    refine takeH (i := 9) (d := 14) rfl rfl (by kernel_rfl) (by kernel_rfl) (by kernel_rfl) (fun _ _ _ h => h) (yieldsIf_row (by rfl) 25 _ rfl _ rfl 25 A1 (fun w h => run_loadVar_row w _ _ 25 A1 (0, 0) _ h Tryz.underlying25 rfl Z1.out) (fun _ H => H.1)) hH2 ?_
    try simp only [Act.put, List.setIfInBounds_toArray, List.set_cons_zero, List.set_cons_succ]
    refine takeH (i := 11) (d := 16) rfl rfl (by kernel_rfl) (by kernel_rfl) (by kernel_rfl) (fun _ _ _ h => h) (yieldsIf_row (by rfl) 25 _ rfl _ rfl 25 A2 (fun w h => run_loadVar_row w _ _ 25 A2 (0, 0) _ h Tryz.underlying25 rfl Z2.out) (fun _ H => H.2.1)) hH2 ?_
    try simp only [Act.put, List.setIfInBounds_toArray, List.set_cons_zero, List.set_cons_succ]
    refine wpAnyH_ready (rs := [10]) (by kernel_rfl) (by simp) ?_
    refine AllReadyH.cons rfl (fun K hK => ?_) AllReadyH.nil
    go_simp
    refine (HK1.out _ hH2.2.2).mono ?_
    rintro e w' ⟨rfl, hb⟩
    go_wp2_with fail
    refine hK.out _ _ (keep_s2 hb hH2) (fun hH3 => ?_)
    clear hK K hb hH2
    try simp only [Act.put, List.setIfInBounds_toArray, List.set_cons_zero, List.set_cons_succ]
    refine wpAnyH_ready (rs := [12]) (by kernel_rfl) (by simp) ?_
    refine AllReadyH.cons rfl (fun K hK => ?_) AllReadyH.nil
    go_simp
    refine (HK2.out _ hH3.2.2).mono ?_
    rintro e w' ⟨rfl, hb⟩
    go_wp2_with fail
    refine hK.out _ _ (keep_s2 hb hH3) (fun hH4 => ?_)
    clear hK K hb hH3
    try simp only [Act.put, List.setIfInBounds_toArray, List.set_cons_zero, List.set_cons_succ]
    refine takeH (i := 13) (d := 18) (v := ?_) rfl rfl (by kernel_rfl) (by kernel_rfl) (by kernel_rfl) (fun _ _ _ h => h) (Or.inl ⟨by rfl, ?y13⟩) hH4 ?_
    case y13 => intro w hSw; go_simp; try with_reducible rfl
    try simp only [Act.put, List.setIfInBounds_toArray, List.set_cons_zero, List.set_cons_succ]
    refine takeH (i := 14) (d := 19) (v := ?_) rfl rfl (by kernel_rfl) (by kernel_rfl) (by kernel_rfl) (fun _ _ _ h => h) (Or.inl ⟨by rfl, ?y14⟩) hH4 ?_
    case y14 => intro w hSw; go_simp; try with_reducible rfl
    try simp only [Act.put, List.setIfInBounds_toArray, List.set_cons_zero, List.set_cons_succ]
    refine takeH (i := 15) (d := 4) (v := ?_) rfl rfl (by kernel_rfl) (by kernel_rfl) (by kernel_rfl) (fun _ _ _ h => h) (Or.inl ⟨by rfl, ?y15⟩) hH4 ?_
    case y15 => intro w hSw; go_simp; try with_reducible rfl
    try simp only [Act.put, List.setIfInBounds_toArray, List.set_cons_zero, List.set_cons_succ]
    refine wpAnyH_done (by kernel_rfl) ?_ _
    go_wp2_with fail
    go_ret
    exact ⟨ret_b rfl, hH4.2.2⟩
  have hq := str_yes e3
  have hf : B = true := by rw [← HBB.out]; simp [e3]
  subst hf
  clear e3
  obtain ⟨W0, hW0⟩ : ∃ W0, (w.alloc (.cells A1 25)).alloc (.cells A2 25) = W0 := ⟨_, rfl⟩
  have H0 : W0.heap[w.heap.size]? = some (.cells A1 25 (0, 0)) ∧ W0.heap[w.heap.size + 1]? = some (.cells A2 25 (0, 0)) ∧ Below w.heap.size w W0 := by
    subst hW0
    refine ⟨(heap_old17 (by simp)).trans (heap_new17 w _), ?_, ((Below.refl _ w).alloc (Nat.le_refl _) _).alloc (by simp) _⟩
    have := heap_new17 (w.alloc (.cells A1 25)) (.cells A2 25)
    rwa [World.size_alloc] at this
  have HS0 := keep_s2 (Below.drew (Below.refl _ _)) H0
  go_enter Tryz.func18, Tryz.ntmps18
  go_upto_region 1 with fail
  try rw [hW0]
  clear hW0 H0
  refine wp_region_held_drew (S := fun w' => w'.heap[w.heap.size]? = some (.cells A1 25 (0, 0)) ∧ w'.heap[w.heap.size + 1]? = some (.cells A2 25 (0, 0)) ∧ Below w.heap.size w w') (by kernel_rfl) HS0 (fun hH0 => ?_)
  refine takeH (i := 0) (d := 5) rfl rfl (by kernel_rfl) (by kernel_rfl) (by kernel_rfl) (fun _ _ _ h => h) (yieldsIf_row (by rfl) 25 _ rfl _ rfl 25 A1 (fun w h => run_loadVar_row w _ _ 25 A1 (0, 0) _ h Tryz.underlying25 rfl Z1.out) (fun _ H => H.1)) hH0 ?_
  try simp only [Act.put, List.setIfInBounds_toArray, List.set_cons_zero, List.set_cons_succ]
  refine wpAnyH_ready (rs := [1]) (by kernel_rfl) (by simp) ?_
  refine AllReadyH.cons rfl (fun K hK => ?_) AllReadyH.nil
  go_simp
  refine (HC1.out _ hH0.2.2).mono ?_
  rintro e w' ⟨rfl, hb⟩
  go_wp2_with fail
  refine hK.out _ _ (keep_s2 hb hH0) (fun hH1 => ?_)
  clear hK K hb hH0
  try simp only [Act.put, List.setIfInBounds_toArray, List.set_cons_zero, List.set_cons_succ]
  refine takeH (i := 2) (d := 7) (v := ?_) rfl rfl (by kernel_rfl) (by kernel_rfl) (by kernel_rfl) (fun _ _ _ h => h) (Or.inl ⟨by rfl, ?y2⟩) hH1 ?_
  case y2 => intro w hSw; go_simp; try with_reducible rfl
  try simp only [Act.put, List.setIfInBounds_toArray, List.set_cons_zero, List.set_cons_succ]
  refine takeH (i := 3) (d := 8) (v := ?_) rfl rfl (by kernel_rfl) (by kernel_rfl) (by kernel_rfl) (fun _ _ _ h => h) (Or.inl ⟨by rfl, ?y3⟩) hH1 ?_
  case y3 => intro w hSw; go_simp; try with_reducible rfl
  try simp only [Act.put, List.setIfInBounds_toArray, List.set_cons_zero, List.set_cons_succ]
  refine takeH (i := 4) (d := 9) rfl rfl (by kernel_rfl) (by kernel_rfl) (by kernel_rfl) (fun _ _ _ h => h) (yieldsIf_row (by rfl) 25 _ rfl _ rfl 25 A2 (fun w h => run_loadVar_row w _ _ 25 A2 (0, 0) _ h Tryz.underlying25 rfl Z2.out) (fun _ H => H.2.1)) hH1 ?_
  try simp only [Act.put, List.setIfInBounds_toArray, List.set_cons_zero, List.set_cons_succ]
  refine wpAnyH_ready (rs := [5]) (by kernel_rfl) (by simp) ?_
  refine AllReadyH.cons rfl (fun K hK => ?_) AllReadyH.nil
  go_simp
  refine (HC2.out _ hH1.2.2).mono ?_
  rintro e w' ⟨rfl, hb⟩
  go_wp2_with fail
  refine hK.out _ _ (keep_s2 hb hH1) (fun hH2 => ?_)
  clear hK K hb hH1
  try simp only [Act.put, List.setIfInBounds_toArray, List.set_cons_zero, List.set_cons_succ]
  refine takeH (i := 6) (d := 11) (v := ?_) rfl rfl (by kernel_rfl) (by kernel_rfl) (by kernel_rfl) (fun _ _ _ h => h) (Or.inl ⟨by rfl, ?y6⟩) hH2 ?_
  case y6 => intro w hSw; go_simp; try with_reducible rfl
  try simp only [Act.put, List.setIfInBounds_toArray, List.set_cons_zero, List.set_cons_succ]
  refine takeH (i := 7) (d := 12) (v := ?_) rfl rfl (by kernel_rfl) (by kernel_rfl) (by kernel_rfl) (fun _ _ _ h => h) (Or.inl ⟨by rfl, ?y7⟩) hH2 ?_
  case y7 => intro w hSw; go_simp; try with_reducible rfl
  try simp only [Act.put, List.setIfInBounds_toArray, List.set_cons_zero, List.set_cons_succ]
  refine takeH (i := 8) (d := 13) (v := ?_) rfl rfl (by kernel_rfl) (by kernel_rfl) (by kernel_rfl) (fun _ _ _ h => h) (Or.inl ⟨by rfl, ?y8⟩) hH2 ?_
  case y8 => intro w hSw; go_simp; try with_reducible rfl
  try simp only [Act.put, List.setIfInBounds_toArray, List.set_cons_zero, List.set_cons_succ]
  refine takeH (i := 9) (d := 14) rfl rfl (by kernel_rfl) (by kernel_rfl) (by kernel_rfl) (fun _ _ _ h => h) (yieldsIf_row (by rfl) 25 _ rfl _ rfl 25 A1 (fun w h => run_loadVar_row w _ _ 25 A1 (0, 0) _ h Tryz.underlying25 rfl Z1.out) (fun _ H => H.1)) hH2 ?_
  try simp only [Act.put, List.setIfInBounds_toArray, List.set_cons_zero, List.set_cons_succ]
  refine takeH (i := 11) (d := 16) rfl rfl (by kernel_rfl) (by kernel_rfl) (by kernel_rfl) (fun _ _ _ h => h) (yieldsIf_row (by rfl) 25 _ rfl _ rfl 25 A2 (fun w h => run_loadVar_row w _ _ 25 A2 (0, 0) _ h Tryz.underlying25 rfl Z2.out) (fun _ H => H.2.1)) hH2 ?_
  try simp only [Act.put, List.setIfInBounds_toArray, List.set_cons_zero, List.set_cons_succ]
  refine wpAnyH_ready (rs := [10]) (by kernel_rfl) (by simp) ?_
  refine AllReadyH.cons rfl (fun K hK => ?_) AllReadyH.nil
  go_simp
  refine (HK1.out _ hH2.2.2).mono ?_
  rintro e w' ⟨rfl, hb⟩
  go_wp2_with fail
  refine hK.out _ _ (keep_s2 hb hH2) (fun hH3 => ?_)
  clear hK K hb hH2
  try simp only [Act.put, List.setIfInBounds_toArray, List.set_cons_zero, List.set_cons_succ]
  refine wpAnyH_ready (rs := [12]) (by kernel_rfl) (by simp) ?_
  refine AllReadyH.cons rfl (fun K hK => ?_) AllReadyH.nil
  go_simp
  refine (HK2.out _ hH3.2.2).mono ?_
  rintro e w' ⟨rfl, hb⟩
  go_wp2_with fail
  refine hK.out _ _ (keep_s2 hb hH3) (fun hH4 => ?_)
  clear hK K hb hH3
  try simp only [Act.put, List.setIfInBounds_toArray, List.set_cons_zero, List.set_cons_succ]
  refine takeH (i := 13) (d := 18) (v := ?_) rfl rfl (by kernel_rfl) (by kernel_rfl) (by kernel_rfl) (fun _ _ _ h => h) (Or.inl ⟨by rfl, ?y13⟩) hH4 ?_
  case y13 => intro w hSw; go_simp; try with_reducible rfl
  try simp only [Act.put, List.setIfInBounds_toArray, List.set_cons_zero, List.set_cons_succ]
  refine takeH (i := 14) (d := 19) (v := ?_) rfl rfl (by kernel_rfl) (by kernel_rfl) (by kernel_rfl) (fun _ _ _ h => h) (Or.inl ⟨by rfl, ?y14⟩) hH4 ?_
  case y14 => intro w hSw; go_simp; try with_reducible rfl
  try simp only [Act.put, List.setIfInBounds_toArray, List.set_cons_zero, List.set_cons_succ]
  refine takeH (i := 15) (d := 4) (v := ?_) rfl rfl (by kernel_rfl) (by kernel_rfl) (by kernel_rfl) (fun _ _ _ h => h) (Or.inl ⟨by rfl, ?y15⟩) hH4 ?_
  case y15 => intro w hSw; go_simp; try with_reducible rfl
  try simp only [Act.put, List.setIfInBounds_toArray, List.set_cons_zero, List.set_cons_succ]
  refine wpAnyH_done (by kernel_rfl) ?_ _
  go_wp2_with fail
  go_ret
  exact ⟨ret_b rfl, hH4.2.2⟩
end Go.Proofs.YtbkceneakdbdkaaGreatDoor
/- The document's Find. -/
namespace Go.Proofs.YtbkceneakdbdkaaGreatDoor
open Go.RowKit
set_option maxRecDepth 20000
set_option linter.unusedVariables false
set_option linter.unusedSimpArgs false
def findL (name : ByteArray) : List ByteArray → Nl → Option Nt
  | n :: ns, .cons h t => if n = name then some h else findL name ns t
  | _, _ => none
def findV (name : ByteArray) : Nt → Option Nt
  | .mk k _ _ _ names _ kids => if k = 6 then findL name names kids else none
theorem findL_end (name : ByteArray) (names : List ByteArray) (kids : Nl) : findL name (names.drop kids.len) (kids.drop kids.len) = none := by
  rw [Nl.drop_len]
  cases names.drop kids.len <;> rfl
theorem findL_step {names : List ByteArray} {i : Nat} {u : ByteArray} {kids : Nl} {v : Nt} (name : ByteArray) (hu : names[i]? = some u) (hv : kids.at? i = some v) :
    findL name (names.drop i) (kids.drop i) = if u = name then some v else findL name (names.drop (i + 1)) (kids.drop (i + 1)) := by
  rw [drop_step hu, Nl.drop_at kids i v hv, findL]
/-- What Find returns: a value that lies in memory, and whether it was found. -/
def Found (o : Option Nt) (w : World) (x : Ending) : Prop := ∃ z : Nt, x = .returned (.tuple #[ntA z, .bool o.isSome]) ∧ z.In w ∧ (o = some z ∨ o = none ∧ z = default)
def zeroN : Nt := .mk 0 0 ByteArray.empty (.slice none 0 0) [] (.slice none 0 0) .nil
theorem zero_in (w : World) : zeroN.In w := by
  unfold zeroN
  rw [Nt.In]
  exact ⟨by omega, by omega, Nat.zero_le _, ⟨none, 0, rfl, Nat.le_refl _, Nat.zero_le _, fun k s hk => by simp at hk⟩, none, 0, rfl, Nat.le_refl _, Nat.zero_le _, by rw [Nl.In]; trivial⟩
theorem results_c1 {fn : Func} {p q : Tmp} {ty : TypeId} (h : fn.results = #[.cell p ty, .tmp q]) (tmps : Array Value) (w : World) (g : Nat) (cs : Array Value) (v : Value)
    (hp : tmps.getD p undef = .pointer (some ⟨g, 0, none⟩)) (hq : tmps.getD q undef = v) (hl : (loadVar ty ⟨g, 0, none⟩).run Tryz.prog w = .ok (.agg cs) w) :
    (results fn tmps).run Tryz.prog w = .ok (.tuple #[.agg cs, v]) w := by
  have hp' : tmps[p]?.getD undef = .pointer (some ⟨g, 0, none⟩) := by simpa using hp
  have hq' : tmps[q]?.getD undef = v := by simpa using hq
  simp [results, h, hp', hq', asAddr, hl]
theorem load_box2 (w : World) (A B : Array Value) (hB : B.size = 5) : (loadVar 25 ⟨w.heap.size + 1, 0, none⟩).run Tryz.prog ((w.alloc (.cells A 25)).alloc (.cells B 25)) = .ok (.agg B) ((w.alloc (.cells A 25)).alloc (.cells B 25)) := by
  have h := heap_new17 (w.alloc (.cells A 25)) (.cells B 25)
  rw [World.size_alloc] at h
  exact run_loadVar_row _ _ _ _ B (0, 0) _ h Tryz.underlying25 rfl (by rw [hB]; rfl)
theorem below2 (w : World) (o1 o2 : Obj) : Below w.heap.size w ((w.alloc o1).alloc o2) := ((Below.refl _ w).alloc (Nat.le_refl _) _).alloc (by simp) _
set_option maxHeartbeats 2000000 in
theorem rfind_any (v : Nt) (name : ByteArray) (w : World) (hin : v.In w) (hf : Fit v) (hn : name.size ≤ maxLen) : Calls Tryz.prog 12 #[ntA v, .string name] w fun x w' => Found (findV name v) w' x ∧ Below w.heap.size w w' := by
  obtain ⟨k, n, s, nv, names, kv, kids⟩ := v
  rw [Nt.In] at hin
  obtain ⟨⟨k0, k1⟩, ⟨n0, n1⟩, hs, ⟨na, ncap, rfl, nl, nm, hnn⟩, a, cap, rfl, kl, km, hk⟩ := hin
  rw [Fit] at hf
  have hln := hf.2.1
  have HN := Lib.hid hnn
  have HI := Lib.hid hk
  obtain ⟨R, hR⟩ : ∃ R, findV name (.mk k n s (.slice na names.length ncap) names (.slice a kids.len cap) kids) = R := ⟨_, rfl⟩
  rw [hR]
  rw [findV] at hR
  show Calls _ _ #[.agg #[.int .u8 k, .int .i64 n, .string s, .slice na names.length ncap, .slice a kids.len cap], .string name] _ _
  have hns : (names.length : Int) ≤ 9223372036854775807 := by rw [maxL] at *; omega
  have hks : (kids.len : Int) ≤ 9223372036854775807 := by rw [maxL] at *; omega
  clear hnn hk hf
  have HX := Lib.hid (BoxAt.made w k n s (.slice na names.length ncap) (.slice a kids.len cap) 25)
  by_cases h6 : k = 6
  · subst h6
    rw [if_pos rfl] at hR
    have hl2 : kids.len ≤ names.length := by have := hln rfl; omega
    have HR := Lib.hid hR
    clear hln hR
    go_enter Tryz.func12, Tryz.ntmps12
    go_wp2_with fail
    go_loop [6] (fun z => ∃ i : Nat, i ≤ kids.len ∧ z = .int .i64 i ∧ Hid (findL name (names.drop i) (kids.drop i) = R)) (fun z => kids.len - (intOf z).toNat)
    case atStart => exact ⟨0, Nat.zero_le _, rfl, Lib.hid (by rw [Nl.drop_zero]; exact HR.out)⟩
    case round =>
      obtain ⟨i, hi, rfl, HW⟩ := hrel
      by_cases hlt : i < kids.len
      · have hi2 : (i : Int) < (kids.len : Int) := by omega
        have hi3 : (i : Int) < (names.length : Int) := by omega
        obtain ⟨v, hv⟩ := Nl.lt_at kids i hlt
        obtain ⟨u, hu⟩ : ∃ u, names[i]? = some u := ⟨_, List.getElem?_eq_getElem (by omega)⟩
        obtain ⟨⟨g, off, rfl, hg, hc⟩, hin⟩ := Nl.in_at kids 0 i v HI.out hv
        obtain ⟨gn, on, rfl, hgn, hcn, _⟩ := HN.out i u hu
        rw [Nat.zero_add] at hc
        have HD := Lib.hid (findL_step name hu hv)
        obtain ⟨k', n', s', nv', names', kv', kids'⟩ := v
        have e0 := hc 0 (by omega)
        have e1 := hc 1 (by omega)
        have e2 := hc 2 (by omega)
        have e3 := hc 3 (by omega)
        have e4 := hc 4 (by omega)
        simp only [ntCells, Nat.add_zero, List.getElem?_cons_zero, List.getElem?_cons_succ] at e0 e1 e2 e3 e4
        have hin2 := hin
        rw [Nt.In] at hin2
        obtain ⟨_, _, _, ⟨na', nc', rfl, _⟩, a', c', rfl, _⟩ := hin2
        have HIN := Lib.hid hin
        clear hc hin hv hu
        by_cases hun : u = name
        · have hq := str_yes hun
          have HU := Lib.hid hun
          clear hun
          go_wp2_with fail
          have hR1 : R = some (.mk k' n' s' (.slice na' names'.length nc') names' (.slice a' kids'.len c') kids') := by rw [← HW.out, HD.out, if_pos HU.out]
          subst hR1
          refine bodyPost_ret (results_c1 rfl _ _ (w.heap.size + 1) _ (.bool true) rfl rfl (load_box2 w _ _ rfl)) rfl ⟨⟨_, rfl, Nt.In.below (below2 _ _ _) HIN.out, .inl rfl⟩, below2 _ _ _⟩
        · have hq := str_no hun
          have HU := Lib.hid hun
          clear hun
          go_wp2_with fail
          go_roundw
          case rel => exact ⟨i + 1, by omega, by go_num, Lib.hid (by rw [← HW.out, HD.out, if_neg HU.out])⟩
          case measure => simp [intOf]; omega
      · obtain rfl : i = kids.len := by omega
        have hx : R = none := by have := HW.out; rw [findL_end] at this; exact this.symm
        go_wp2_with fail
        subst hx
        refine bodyPost_ret (results_c1 rfl _ _ (w.heap.size + 1) _ (.bool false) rfl rfl (load_box2 w _ _ rfl)) rfl ⟨⟨default, rfl, zero_in _, .inr ⟨rfl, rfl⟩⟩, below2 _ _ _⟩
  · rw [if_neg h6] at hR
    subst hR
    have hd6 : (k == 6) = false := by simpa using h6
    clear hln h6
    go_enter Tryz.func12, Tryz.ntmps12
    go_wp2_with fail
    go_loop [6] (fun z => z = .int .i64 0) (fun _ => 0)
    case atStart => rfl
    case round =>
      subst hrel
      by_cases hlt : 0 < kids.len
      · have hi2 : (0 : Int) < (kids.len : Int) := by omega
        have hd0 : decide ((0 : Int) < (kids.len : Int)) = true := by simpa using hlt
        go_wp2_with fail
        refine bodyPost_ret (results_c1 rfl _ _ (w.heap.size + 1) _ (.bool false) rfl rfl (load_box2 w _ _ rfl)) rfl ⟨⟨default, rfl, zero_in _, .inr ⟨rfl, rfl⟩⟩, below2 _ _ _⟩
      · have hd0 : decide ((0 : Int) < (kids.len : Int)) = false := by simp; omega
        go_wp2_with fail
        refine bodyPost_ret (results_c1 rfl _ _ (w.heap.size + 1) _ (.bool false) rfl rfl (load_box2 w _ _ rfl)) rfl ⟨⟨default, rfl, zero_in _, .inr ⟨rfl, rfl⟩⟩, below2 _ _ _⟩
end Go.Proofs.YtbkceneakdbdkaaGreatDoor
