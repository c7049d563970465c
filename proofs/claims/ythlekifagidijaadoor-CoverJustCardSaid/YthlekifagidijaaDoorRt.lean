/- The contract of the document's touch: do two intervals meet, or stand side by side? -/
import Derived.Test.YthlekifagidijaaDoorRl
namespace Go.Proofs.YthlekifagidijaaDoor
open Go.RowKit
set_option linter.unusedVariables false
set_option linter.unusedSimpArgs false
set_option maxHeartbeats 2000000 in
theorem touch_any (p q s t : Int) (p0 : 0 ≤ p) (p1 : p ≤ 18446744073709551615) (q0 : 0 ≤ q) (q1 : q ≤ 18446744073709551615) (s0 : 0 ≤ s) (s1 : s ≤ 18446744073709551615) (t0 : 0 ≤ t) (t1 : t ≤ 18446744073709551615) (w : World) : Calls Tryd.prog 54 #[.agg #[.int .u64 p, .int .u64 q], .agg #[.int .u64 s, .int .u64 t]] w fun e w' => e = .returned (.bool (touchB (p, q) (s, t))) ∧ Below w.heap.size w w' := by
  by_cases c1 : s ≤ q
  · by_cases d1 : p ≤ t
    · rw [show touchB (p, q) (s, t) = true from by unfold touchB; rw [decide_eq_true (show s ≤ q + 1 by omega), decide_eq_true (show p ≤ t + 1 by omega)]; rfl]
      go_enter Tryd.func54, Tryd.ntmps54
      go_wp2_with fail
      go_ret
      exact ⟨rfl, by go_grown⟩
    · have d2 : decide (p ≤ t) = false := decide_eq_false d1
      have hlt : t < p := by omega
      by_cases d3 : t + 1 = p
      · subst d3
        rw [show touchB (t + 1, q) (s, t) = true from by unfold touchB; rw [decide_eq_true (show s ≤ q + 1 by omega), decide_eq_true (show t + 1 ≤ t + 1 by omega)]; rfl]
        clear d1
        go_enter Tryd.func54, Tryd.ntmps54
        go_wp2_with fail
        go_ret
        exact ⟨rfl, by go_grown⟩
      · have d4 : (t + 1 == p) = false := by rw [beq_eq_false_iff_ne]; exact d3
        rw [show touchB (p, q) (s, t) = false from by unfold touchB; rw [decide_eq_false (show ¬ p ≤ t + 1 by omega), Bool.and_false]]
        go_enter Tryd.func54, Tryd.ntmps54
        go_wp2_with fail
        go_ret
        exact ⟨rfl, by go_grown⟩
  · have c2 : decide (s ≤ q) = false := decide_eq_false c1
    have hlt2 : q < s := by omega
    by_cases c3 : q + 1 = s
    · subst c3
      clear c1
      by_cases d1 : p ≤ t
      · rw [show touchB (p, q) (q + 1, t) = true from by unfold touchB; rw [decide_eq_true (show q + 1 ≤ q + 1 by omega), decide_eq_true (show p ≤ t + 1 by omega)]; rfl]
        go_enter Tryd.func54, Tryd.ntmps54
        go_wp2_with fail
        go_ret
        exact ⟨rfl, by go_grown⟩
      · have d2 : decide (p ≤ t) = false := decide_eq_false d1
        have hlt : t < p := by omega
        by_cases d3 : t + 1 = p
        · subst d3
          rw [show touchB (t + 1, q) (q + 1, t) = true from by unfold touchB; rw [decide_eq_true (show q + 1 ≤ q + 1 by omega), decide_eq_true (show t + 1 ≤ t + 1 by omega)]; rfl]
          clear d1
          go_enter Tryd.func54, Tryd.ntmps54
          go_wp2_with fail
          go_ret
          exact ⟨rfl, by go_grown⟩
        · have d4 : (t + 1 == p) = false := by rw [beq_eq_false_iff_ne]; exact d3
          rw [show touchB (p, q) (q + 1, t) = false from by unfold touchB; rw [decide_eq_false (show ¬ p ≤ t + 1 by omega), Bool.and_false]]
          go_enter Tryd.func54, Tryd.ntmps54
          go_wp2_with fail
          go_ret
          exact ⟨rfl, by go_grown⟩
    · have c4 : (q + 1 == s) = false := by rw [beq_eq_false_iff_ne]; exact c3
      rw [show touchB (p, q) (s, t) = false from by unfold touchB; rw [decide_eq_false (show ¬ s ≤ q + 1 by omega), Bool.false_and]]
      go_enter Tryd.func54, Tryd.ntmps54
      go_wp2_with fail
      go_ret
      exact ⟨rfl, by go_grown⟩
end Go.Proofs.YthlekifagidijaaDoor
