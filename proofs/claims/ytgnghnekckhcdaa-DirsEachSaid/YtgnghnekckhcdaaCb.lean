/- The program's numbers of an entry in a row: mark; and what a number is worth: id, half, offset. -/
import Derived.Test.YtgnghnekckhcdaaCa
namespace Go.Proofs.Ytgnghnekckhcdaa
open Go.RowKit
set_option linter.unusedVariables false
set_option linter.unusedSimpArgs false
theorem kcb {w w' w1 : World} {a : Addr} {v : Value} (hb : Below w'.heap.size w' w1) (h : w'.cell? a = some v ∧ Below w.heap.size w w') : w1.cell? a = some v ∧ Below w.heap.size w w1 := ⟨ecell_later hb h.1, h.2.trans (hb.mono h.2.size)⟩
theorem kbb {w w' w1 : World} (hb : Below w'.heap.size w' w1) (h : Below w.heap.size w w') : Below w.heap.size w w1 := h.trans (hb.mono h.size)
set_option maxRecDepth 20000 in
set_option maxHeartbeats 1000000 in
theorem pmark_any (v : Value) (l : List En) (w : World) (i : Nat) (hv : EnsAt w v l) (hm : MaysN l) (hi : i < l.length) : Calls Try.prog 53 #[v, .int .i64 (i : Int)] w fun x w' => x = .returned (.int .u64 (colN l 3 i)) ∧ Below w.heap.size w w' := by
  have HV := Lib.hid hv
  have HM := Lib.hid hm
  obtain ⟨g, off, cap, rfl, hg, hml, hc⟩ := ens_cells hv i hi
  obtain ⟨_, c1, _, _⟩ := hc i hi
  have hi2 : (i : Int) < (l.length : Int) := by omega
  rw [col3]
  have HW := Lib.hid (wrapU ((gE l i).off + 1))
  by_cases hz : i = 0
  · rw [if_neg (by omega)]
    have hdz : decide (0 < (i : Int)) = false := by simp; omega
    have hdn : decide (0 < i) = false := by simp; omega
    generalize (gE l i).off = x at *
    have HS0 : w.cell? ⟨g, off + i * 4 + 1, none⟩ = some (.int .u64 x) ∧ Below w.heap.size w w := ⟨c1, Below.refl _ _⟩
    have HSd := kcb (Below.drew (Below.refl _ _)) HS0
    clear hc hv hm HS0 hz
    go_enter Try.func53, Try.ntmps53
    go_wp2_with fail
    refine wp_region_held_drew (S := fun w' => w'.cell? ⟨g, off + i * 4 + 1, none⟩ = some (.int .u64 x) ∧ Below w.heap.size w w') (by kernel_rfl) HSd (fun hH0 => ?_)
    refine takeH (i := 0) (d := 5) (v := ?_) rfl rfl (by kernel_rfl) (by kernel_rfl) (by kernel_rfl) (fun _ _ _ h => h) (Or.inl ⟨by rfl, ?y0⟩) hH0 ?_
    case y0 => intro w hSw; go_simp; try with_reducible rfl
    try simp only [Act.put, List.setIfInBounds_toArray, List.set_cons_zero, List.set_cons_succ]
    refine takeH (i := 1) (d := 6) (v := ?_) rfl rfl (by kernel_rfl) (by kernel_rfl) (by kernel_rfl) (fun _ _ _ h => h) (Or.inl ⟨by rfl, ?y1⟩) hH0 ?_
    case y1 => intro w hSw; go_simp; try with_reducible rfl
    try simp only [Act.put, List.setIfInBounds_toArray, List.set_cons_zero, List.set_cons_succ]
    refine takeH (i := 2) (d := 7) (v := ?_) rfl rfl (by kernel_rfl) (by kernel_rfl) (by kernel_rfl) (fun _ _ _ h => h) (Or.inl ⟨by rfl, ?y2⟩) hH0 ?_
    case y2 => intro w hSw; go_simp; try with_reducible rfl
    try simp only [Act.put, List.setIfInBounds_toArray, List.set_cons_zero, List.set_cons_succ]
    refine takeH (i := 3) (d := 8) (v := undef) rfl rfl (by kernel_rfl) (by kernel_rfl) (by kernel_rfl) (fun _ _ _ h => h) (Or.inr ⟨by rfl, rfl⟩) hH0 ?_
    try simp only [Act.put, List.setIfInBounds_toArray, List.set_cons_zero, List.set_cons_succ]
    refine takeH (i := 4) (d := 9) (v := undef) rfl rfl (by kernel_rfl) (by kernel_rfl) (by kernel_rfl) (fun _ _ _ h => h) (Or.inr ⟨by rfl, rfl⟩) hH0 ?_
    try simp only [Act.put, List.setIfInBounds_toArray, List.set_cons_zero, List.set_cons_succ]
    refine takeH (i := 5) (d := 10) (v := undef) rfl rfl (by kernel_rfl) (by kernel_rfl) (by kernel_rfl) (fun _ _ _ h => h) (Or.inr ⟨by rfl, rfl⟩) hH0 ?_
    try simp only [Act.put, List.setIfInBounds_toArray, List.set_cons_zero, List.set_cons_succ]
    refine takeH (i := 6) (d := 11) (v := undef) rfl rfl (by kernel_rfl) (by kernel_rfl) (by kernel_rfl) (fun _ _ _ h => h) (Or.inr ⟨by rfl, rfl⟩) hH0 ?_
    try simp only [Act.put, List.setIfInBounds_toArray, List.set_cons_zero, List.set_cons_succ]
    refine takeH (i := 7) (d := 12) (v := undef) rfl rfl (by kernel_rfl) (by kernel_rfl) (by kernel_rfl) (fun _ _ _ h => h) (Or.inr ⟨by rfl, rfl⟩) hH0 ?_
    try simp only [Act.put, List.setIfInBounds_toArray, List.set_cons_zero, List.set_cons_succ]
    refine takeH (i := 8) (d := 13) (v := undef) rfl rfl (by kernel_rfl) (by kernel_rfl) (by kernel_rfl) (fun _ _ _ h => h) (Or.inr ⟨by rfl, rfl⟩) hH0 ?_
    try simp only [Act.put, List.setIfInBounds_toArray, List.set_cons_zero, List.set_cons_succ]
    refine takeH (i := 9) (d := 14) (v := undef) rfl rfl (by kernel_rfl) (by kernel_rfl) (by kernel_rfl) (fun _ _ _ h => h) (Or.inr ⟨by rfl, rfl⟩) hH0 ?_
    try simp only [Act.put, List.setIfInBounds_toArray, List.set_cons_zero, List.set_cons_succ]
    refine takeH (i := 10) (d := 15) (v := undef) rfl rfl (by kernel_rfl) (by kernel_rfl) (by kernel_rfl) (fun _ _ _ h => h) (Or.inr ⟨by rfl, rfl⟩) hH0 ?_
    try simp only [Act.put, List.setIfInBounds_toArray, List.set_cons_zero, List.set_cons_succ]
    refine takeH (i := 11) (d := 16) (v := undef) rfl rfl (by kernel_rfl) (by kernel_rfl) (by kernel_rfl) (fun _ _ _ h => h) (Or.inr ⟨by rfl, rfl⟩) hH0 ?_
    try simp only [Act.put, List.setIfInBounds_toArray, List.set_cons_zero, List.set_cons_succ]
    refine takeH (i := 12) (d := 17) (v := ?_) rfl rfl (by kernel_rfl) (by kernel_rfl) (by kernel_rfl) (fun _ _ _ h => h) (Or.inl ⟨by rfl, ?y12⟩) hH0 ?_
    case y12 => intro w hSw; go_simp; try with_reducible rfl
    try simp only [Act.put, List.setIfInBounds_toArray, List.set_cons_zero, List.set_cons_succ]
    refine wpAnyH_done (by kernel_rfl) ?_ _
    obtain ⟨q1, q2⟩ := hH0
    go_wp2_with fail
    go_ret
    exact ⟨ret_u64 HW.out, by first | exact q2 | exact kbb (Below.drew (Below.refl _ _)) q2⟩
  · obtain ⟨j, hj⟩ : ∃ j, i = j + 1 := ⟨i - 1, by omega⟩
    have HB := Lib.hid (fun W (hb : Below w.heap.size w W) => pbehN_any _ l W j (HV.out.below hb) HM.out (by omega) i hj (by omega))
    rw [show i - 1 = j from by omega]
    have hdz : decide (0 < (i : Int)) = true := by simp; omega
    have hdn : decide (0 < i) = true := by simp; omega
    have hp : 0 < i := by omega
    by_cases he : (gE l i).off = nxE l j
    · rw [if_pos ⟨hp, he⟩]
      generalize (gE l i).off = x at *
      have hbe : (x == nxE l j) = true := by simpa using he
      generalize nxE l j = y at *
      have HS0 : w.cell? ⟨g, off + i * 4 + 1, none⟩ = some (.int .u64 x) ∧ Below w.heap.size w w := ⟨c1, Below.refl _ _⟩
      have HSd := kcb (Below.drew (Below.refl _ _)) HS0
      clear hc hv hm HS0 hz he hj
      go_enter Try.func53, Try.ntmps53
      go_wp2_with fail
      refine wp_region_held_drew (S := fun w' => w'.cell? ⟨g, off + i * 4 + 1, none⟩ = some (.int .u64 x) ∧ Below w.heap.size w w') (by kernel_rfl) HSd (fun hH0 => ?_)
      refine takeH (i := 0) (d := 5) (v := ?_) rfl rfl (by kernel_rfl) (by kernel_rfl) (by kernel_rfl) (fun _ _ _ h => h) (Or.inl ⟨by rfl, ?y0⟩) hH0 ?_
      case y0 => intro w hSw; go_simp; try with_reducible rfl
      try simp only [Act.put, List.setIfInBounds_toArray, List.set_cons_zero, List.set_cons_succ]
      refine takeH (i := 1) (d := 6) (v := ?_) rfl rfl (by kernel_rfl) (by kernel_rfl) (by kernel_rfl) (fun _ _ _ h => h) (Or.inl ⟨by rfl, ?y1⟩) hH0 ?_
      case y1 => intro w hSw; go_simp; try with_reducible rfl
      try simp only [Act.put, List.setIfInBounds_toArray, List.set_cons_zero, List.set_cons_succ]
      refine takeH (i := 2) (d := 7) (v := ?_) rfl rfl (by kernel_rfl) (by kernel_rfl) (by kernel_rfl) (fun _ _ _ h => h) (Or.inl ⟨by rfl, ?y2⟩) hH0 ?_
      case y2 => intro w hSw; go_simp; try with_reducible rfl
      try simp only [Act.put, List.setIfInBounds_toArray, List.set_cons_zero, List.set_cons_succ]
      refine takeH (i := 3) (d := 8) (v := ?_) rfl rfl (by kernel_rfl) (by kernel_rfl) (by kernel_rfl) (fun _ _ _ h => h) (Or.inl ⟨by rfl, ?y3⟩) hH0 ?_
      case y3 => intro w hSw; go_simp; try with_reducible rfl
      try simp only [Act.put, List.setIfInBounds_toArray, List.set_cons_zero, List.set_cons_succ]
      refine takeH (i := 4) (d := 9) (v := ?_) rfl rfl (by kernel_rfl) (by kernel_rfl) (by kernel_rfl) (fun _ _ _ h => h) (Or.inl ⟨by rfl, ?y4⟩) hH0 ?_
      case y4 => intro w hSw; go_simp; try with_reducible rfl
      try simp only [Act.put, List.setIfInBounds_toArray, List.set_cons_zero, List.set_cons_succ]
      refine takeH (i := 5) (d := 10) (v := ?_) rfl rfl (by kernel_rfl) (by kernel_rfl) (by kernel_rfl) (fun _ _ _ h => h) (Or.inl ⟨by rfl, ?y5⟩) hH0 ?_
      case y5 => intro w hSw; go_simp; try with_reducible rfl
      try simp only [Act.put, List.setIfInBounds_toArray, List.set_cons_zero, List.set_cons_succ]
      refine takeH (i := 6) (d := 11) (v := ?_) rfl rfl (by kernel_rfl) (by kernel_rfl) (by kernel_rfl) (fun _ _ _ h => h) (Or.inl ⟨by rfl, ?y6⟩) hH0 ?_
      case y6 => intro w hSw; go_simp; try with_reducible rfl
      try simp only [Act.put, List.setIfInBounds_toArray, List.set_cons_zero, List.set_cons_succ]
      refine takeH (i := 7) (d := 12) (v := ?_) rfl rfl (by kernel_rfl) (by kernel_rfl) (by kernel_rfl) (fun _ _ _ h => h) (Or.inl ⟨by rfl, ?y7⟩) hH0 ?_
      case y7 => intro w hSw; go_simp; try with_reducible rfl
      try simp only [Act.put, List.setIfInBounds_toArray, List.set_cons_zero, List.set_cons_succ]
      refine takeH (i := 8) (d := 13) (v := ?_) rfl rfl (by kernel_rfl) (by kernel_rfl) (by kernel_rfl) (fun _ _ _ h => h) (Or.inl ⟨by rfl, ?y8⟩) hH0 ?_
      case y8 => intro w hSw; go_simp; try with_reducible rfl
      try simp only [Act.put, List.setIfInBounds_toArray, List.set_cons_zero, List.set_cons_succ]
      refine takeH (i := 9) (d := 14) (v := ?_) rfl rfl (by kernel_rfl) (by kernel_rfl) (by kernel_rfl) (fun _ _ _ h => h) (Or.inl ⟨by rfl, ?y9⟩) hH0 ?_
      case y9 => intro w hSw; go_simp; try with_reducible rfl
      try simp only [Act.put, List.setIfInBounds_toArray, List.set_cons_zero, List.set_cons_succ]
      refine wpAnyH_ready (rs := [10]) (by kernel_rfl) (by simp) ?_
      refine AllReadyH.cons rfl (fun K hK => ?_) AllReadyH.nil
      go_simp
      refine (HB.out _ hH0.2).mono ?_
      rintro e w' ⟨rfl, hb⟩
      go_wp2_with fail
      refine hK.out _ _ (kcb hb hH0) (fun hH1 => ?_)
      clear hK K hb hH0
      try simp only [Act.put, List.setIfInBounds_toArray, List.set_cons_zero, List.set_cons_succ]
      refine takeH (i := 11) (d := 16) (v := ?_) rfl rfl (by kernel_rfl) (by kernel_rfl) (by kernel_rfl) (fun _ _ _ h => h) (Or.inl ⟨by rfl, ?y11⟩) hH1 ?_
      case y11 => intro w hSw; go_simp; try with_reducible rfl
      try simp only [Act.put, List.setIfInBounds_toArray, List.set_cons_zero, List.set_cons_succ]
      refine takeH (i := 12) (d := 17) (v := ?_) rfl rfl (by kernel_rfl) (by kernel_rfl) (by kernel_rfl) (fun _ _ _ h => h) (Or.inl ⟨by rfl, ?y12⟩) hH1 ?_
      case y12 => intro w hSw; go_simp; try with_reducible rfl
      try simp only [Act.put, List.setIfInBounds_toArray, List.set_cons_zero, List.set_cons_succ]
      refine wpAnyH_done (by kernel_rfl) ?_ _
      obtain ⟨q1, q2⟩ := hH1
      go_wp2_with fail
      go_ret
      exact ⟨rfl, by first | exact q2 | exact kbb (Below.drew (Below.refl _ _)) q2⟩
    · rw [if_neg (fun h => he h.2)]
      generalize (gE l i).off = x at *
      have hbe : (x == nxE l j) = false := by simpa using he
      generalize nxE l j = y at *
      have HS0 : w.cell? ⟨g, off + i * 4 + 1, none⟩ = some (.int .u64 x) ∧ Below w.heap.size w w := ⟨c1, Below.refl _ _⟩
      have HSd := kcb (Below.drew (Below.refl _ _)) HS0
      clear hc hv hm HS0 hz he hj
      go_enter Try.func53, Try.ntmps53
      go_wp2_with fail
      refine wp_region_held_drew (S := fun w' => w'.cell? ⟨g, off + i * 4 + 1, none⟩ = some (.int .u64 x) ∧ Below w.heap.size w w') (by kernel_rfl) HSd (fun hH0 => ?_)
      refine takeH (i := 0) (d := 5) (v := ?_) rfl rfl (by kernel_rfl) (by kernel_rfl) (by kernel_rfl) (fun _ _ _ h => h) (Or.inl ⟨by rfl, ?y0⟩) hH0 ?_
      case y0 => intro w hSw; go_simp; try with_reducible rfl
      try simp only [Act.put, List.setIfInBounds_toArray, List.set_cons_zero, List.set_cons_succ]
      refine takeH (i := 1) (d := 6) (v := ?_) rfl rfl (by kernel_rfl) (by kernel_rfl) (by kernel_rfl) (fun _ _ _ h => h) (Or.inl ⟨by rfl, ?y1⟩) hH0 ?_
      case y1 => intro w hSw; go_simp; try with_reducible rfl
      try simp only [Act.put, List.setIfInBounds_toArray, List.set_cons_zero, List.set_cons_succ]
      refine takeH (i := 2) (d := 7) (v := ?_) rfl rfl (by kernel_rfl) (by kernel_rfl) (by kernel_rfl) (fun _ _ _ h => h) (Or.inl ⟨by rfl, ?y2⟩) hH0 ?_
      case y2 => intro w hSw; go_simp; try with_reducible rfl
      try simp only [Act.put, List.setIfInBounds_toArray, List.set_cons_zero, List.set_cons_succ]
      refine takeH (i := 3) (d := 8) (v := ?_) rfl rfl (by kernel_rfl) (by kernel_rfl) (by kernel_rfl) (fun _ _ _ h => h) (Or.inl ⟨by rfl, ?y3⟩) hH0 ?_
      case y3 => intro w hSw; go_simp; try with_reducible rfl
      try simp only [Act.put, List.setIfInBounds_toArray, List.set_cons_zero, List.set_cons_succ]
      refine takeH (i := 4) (d := 9) (v := ?_) rfl rfl (by kernel_rfl) (by kernel_rfl) (by kernel_rfl) (fun _ _ _ h => h) (Or.inl ⟨by rfl, ?y4⟩) hH0 ?_
      case y4 => intro w hSw; go_simp; try with_reducible rfl
      try simp only [Act.put, List.setIfInBounds_toArray, List.set_cons_zero, List.set_cons_succ]
      refine takeH (i := 5) (d := 10) (v := ?_) rfl rfl (by kernel_rfl) (by kernel_rfl) (by kernel_rfl) (fun _ _ _ h => h) (Or.inl ⟨by rfl, ?y5⟩) hH0 ?_
      case y5 => intro w hSw; go_simp; try with_reducible rfl
      try simp only [Act.put, List.setIfInBounds_toArray, List.set_cons_zero, List.set_cons_succ]
      refine takeH (i := 6) (d := 11) (v := ?_) rfl rfl (by kernel_rfl) (by kernel_rfl) (by kernel_rfl) (fun _ _ _ h => h) (Or.inl ⟨by rfl, ?y6⟩) hH0 ?_
      case y6 => intro w hSw; go_simp; try with_reducible rfl
      try simp only [Act.put, List.setIfInBounds_toArray, List.set_cons_zero, List.set_cons_succ]
      refine takeH (i := 7) (d := 12) (v := ?_) rfl rfl (by kernel_rfl) (by kernel_rfl) (by kernel_rfl) (fun _ _ _ h => h) (Or.inl ⟨by rfl, ?y7⟩) hH0 ?_
      case y7 => intro w hSw; go_simp; try with_reducible rfl
      try simp only [Act.put, List.setIfInBounds_toArray, List.set_cons_zero, List.set_cons_succ]
      refine takeH (i := 8) (d := 13) (v := ?_) rfl rfl (by kernel_rfl) (by kernel_rfl) (by kernel_rfl) (fun _ _ _ h => h) (Or.inl ⟨by rfl, ?y8⟩) hH0 ?_
      case y8 => intro w hSw; go_simp; try with_reducible rfl
      try simp only [Act.put, List.setIfInBounds_toArray, List.set_cons_zero, List.set_cons_succ]
      refine takeH (i := 9) (d := 14) (v := ?_) rfl rfl (by kernel_rfl) (by kernel_rfl) (by kernel_rfl) (fun _ _ _ h => h) (Or.inl ⟨by rfl, ?y9⟩) hH0 ?_
      case y9 => intro w hSw; go_simp; try with_reducible rfl
      try simp only [Act.put, List.setIfInBounds_toArray, List.set_cons_zero, List.set_cons_succ]
      refine wpAnyH_ready (rs := [10]) (by kernel_rfl) (by simp) ?_
      refine AllReadyH.cons rfl (fun K hK => ?_) AllReadyH.nil
      go_simp
      refine (HB.out _ hH0.2).mono ?_
      rintro e w' ⟨rfl, hb⟩
      go_wp2_with fail
      refine hK.out _ _ (kcb hb hH0) (fun hH1 => ?_)
      clear hK K hb hH0
      try simp only [Act.put, List.setIfInBounds_toArray, List.set_cons_zero, List.set_cons_succ]
      refine takeH (i := 11) (d := 16) (v := ?_) rfl rfl (by kernel_rfl) (by kernel_rfl) (by kernel_rfl) (fun _ _ _ h => h) (Or.inl ⟨by rfl, ?y11⟩) hH1 ?_
      case y11 => intro w hSw; go_simp; try with_reducible rfl
      try simp only [Act.put, List.setIfInBounds_toArray, List.set_cons_zero, List.set_cons_succ]
      refine takeH (i := 12) (d := 17) (v := ?_) rfl rfl (by kernel_rfl) (by kernel_rfl) (by kernel_rfl) (fun _ _ _ h => h) (Or.inl ⟨by rfl, ?y12⟩) hH1 ?_
      case y12 => intro w hSw; go_simp; try with_reducible rfl
      try simp only [Act.put, List.setIfInBounds_toArray, List.set_cons_zero, List.set_cons_succ]
      refine wpAnyH_done (by kernel_rfl) ?_ _
      obtain ⟨q1, q2⟩ := hH1
      go_wp2_with fail
      go_ret
      exact ⟨ret_u64 HW.out, by first | exact q2 | exact kbb (Below.drew (Below.refl _ _)) q2⟩
/-- What a number of column c is worth. -/
def worN (l : List En) (c k : Nat) (x : Int) : Int := if c = 0 then (putF l 0 k x).id else if c = 3 then (putF l 3 k x).off else x
theorem phalf_any (l : List En) (c i : Nat) (x : Int) (w : World) (hc : c = 1 ∨ c = 2) (hx : 0 ≤ x ∧ x ≤ 18446744073709551615) : Calls Try.prog 31 #[.int .i64 (i : Int), .int .u64 x] w fun y w' => y = .returned (.tuple #[.int .u64 (if wrgN l c i x = 0 then worN l c i x else 0), .int .i64 (wrgN l c i x)]) ∧ Below w.heap.size w w' := by
  have h0 : wrgN l c i x = if 4294967295 < x then 11 else 0 := by
    unfold wrgN
    rcases hc with rfl | rfl <;> simp
  have h1 : worN l c i x = x := by unfold worN; rcases hc with rfl | rfl <;> simp
  by_cases h : 4294967295 < x
  · have hd : decide (4294967295 < x) = true := by simpa using h
    rw [if_pos h] at h0
    rw [h0, if_neg (by decide)]
    clear h0 h1
    go_enter Try.func31, Try.ntmps31
    go_wp2_with fail
    go_ret2
    exact ⟨rfl, Below.refl _ _⟩
  · have hd : decide (4294967295 < x) = false := by simpa using h
    rw [if_neg h] at h0
    rw [h0, if_pos rfl, h1]
    clear h0 h1
    go_enter Try.func31, Try.ntmps31
    go_wp2_with fail
    go_ret2
    exact ⟨rfl, Below.refl _ _⟩
theorem pidN_any (v : Value) (l : List En) (w : World) (i : Nat) (x : Int) (hv : EnsAt w v l) (hm : MaysN l) (hi : i < l.length) (hx : 0 ≤ x ∧ x ≤ 18446744073709551615) : Calls Try.prog 30 #[v, .int .i64 (i : Int), .int .u64 x] w fun y w' => y = .returned (.tuple #[.int .u64 (if wrgN l 0 i x = 0 then worN l 0 i x else 0), .int .i64 (wrgN l 0 i x)]) ∧ Below w.heap.size w w' := by
  obtain ⟨g, off, cap, rfl, hg, hml, hc⟩ := ens_cells hv i hi
  have hi2 : (i : Int) < (l.length : Int) := by omega
  have h1 : worN l 0 i x = if 0 < i then ((gE l (i - 1)).id + x) % 18446744073709551616 else x := by unfold worN; rw [if_pos rfl, put0]
  have h0 : wrgN l 0 i x = if 0 < i ∧ 18446744073709551616 ≤ (gE l (i - 1)).id + x then 11 else 0 := by unfold wrgN; simp
  by_cases hz : i = 0
  · have hz0 : ((i : Int) == 0) = true := by simpa using hz
    rw [if_neg (fun h => by omega)] at h0
    rw [if_neg (by omega)] at h1
    rw [h0, if_pos rfl, h1]
    clear hc hm hv h0 h1
    go_enter Try.func30, Try.ntmps30
    go_wp2_with fail
    go_ret2
    exact ⟨rfl, Below.refl _ _⟩
  · obtain ⟨j, rfl⟩ : ∃ j, i = j + 1 := ⟨i - 1, by omega⟩
    rw [Nat.add_sub_cancel] at h0 h1
    rw [if_pos (by omega : 0 < j + 1)] at h1
    obtain ⟨d0, _, _, _⟩ := hc j (by omega)
    obtain ⟨hme, _⟩ := hm _ (gE_mem l j (by omega))
    have hij : ((j + 1 : Nat) : Int) - 1 = (j : Int) := by omega
    have hwj : IntKind.i64.wrap (j : Int) = (j : Int) := by rw [IntKind.wrap_i64] <;> omega
    have hj2 : (j : Int) < (l.length : Int) := by omega
    have hne : (((j + 1 : Nat) : Int) == 0) = false := by simp; omega
    have hp : 0 < j + 1 := by omega
    generalize hi' : j + 1 = i at *
    generalize (gE l j).id = y at *
    by_cases ho : 18446744073709551616 ≤ y + x
    · rw [if_pos ⟨hp, ho⟩] at h0
      rw [h0, if_neg (by decide)]
      have hlt : decide ((y + x) % 18446744073709551616 < x) = true := by simp; omega
      have HW := wrapU (y + x)
      generalize (y + x) % 18446744073709551616 = z at *
      clear hc hm hv hi' h0 h1 hi hz
      go_enter Try.func30, Try.ntmps30
      go_wp2_with fail
      go_ret2
      exact ⟨rfl, Below.refl _ _⟩
    · rw [if_neg (fun h => ho h.2)] at h0
      rw [h0, if_pos rfl, h1]
      have hlt : decide ((y + x) % 18446744073709551616 < x) = false := by simp; omega
      have HW := wrapU (y + x)
      generalize (y + x) % 18446744073709551616 = z at *
      clear hc hm hv hi' h0 h1 hi hz
      go_enter Try.func30, Try.ntmps30
      go_wp2_with fail
      go_ret2
      exact ⟨rfl, Below.refl _ _⟩
end Go.Proofs.Ytgnghnekckhcdaa
