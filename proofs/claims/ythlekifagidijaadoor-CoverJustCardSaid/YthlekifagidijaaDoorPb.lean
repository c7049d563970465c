/- Contracts of the program's holds, misses and square. -/
import Derived.Test.YthlekifagidijaaDoorPa
import Derived.Test.YthlekifagidijaaDoorJn
import Derived.BigRegion
namespace Go.Proofs.YthlekifagidijaaDoor
open Go.RowKit
set_option linter.unusedVariables false
set_option linter.unusedSimpArgs false
def HoldR (x0 y0 x1 y1 u0 v0 u1 v1 : Int) : Prop := x0 ≤ u0 ∧ u1 ≤ x1 ∧ y0 ≤ v0 ∧ v1 ≤ y1
def MissR (x0 y0 x1 y1 u0 v0 u1 v1 : Int) : Prop := u1 < x0 ∨ x1 < u0 ∨ v1 < y0 ∨ y1 < v0
instance (x0 y0 x1 y1 u0 v0 u1 v1 : Int) : Decidable (HoldR x0 y0 x1 y1 u0 v0 u1 v1) := by unfold HoldR; infer_instance
instance (x0 y0 x1 y1 u0 v0 u1 v1 : Int) : Decidable (MissR x0 y0 x1 y1 u0 v0 u1 v1) := by unfold MissR; infer_instance
set_option maxHeartbeats 1000000 in
theorem holds_any (z x0 y0 x1 y1 u u0 v0 u1 v1 : Int) (w : World) : Calls Tryd.prog 31 #[.agg #[.int .i64 z, .int .i64 x0, .int .i64 y0, .int .i64 x1, .int .i64 y1], .agg #[.int .i64 u, .int .i64 u0, .int .i64 v0, .int .i64 u1, .int .i64 v1]] w fun e w' => e = .returned (.bool (decide (HoldR x0 y0 x1 y1 u0 v0 u1 v1))) ∧ Below w.heap.size w w' := by
  by_cases g1 : x0 ≤ u0
  · by_cases g2 : u1 ≤ x1
    · by_cases g3 : y0 ≤ v0
      · by_cases g4 : v1 ≤ y1
        · rw [decide_eq_true (show HoldR x0 y0 x1 y1 u0 v0 u1 v1 from ⟨g1, g2, g3, g4⟩)]
          go_enter Tryd.func31, Tryd.ntmps31
          go_wp2_with fail
          go_ret
          exact ⟨rfl, by go_grown⟩
        · rw [decide_eq_false (show ¬ HoldR x0 y0 x1 y1 u0 v0 u1 v1 from fun h => g4 h.2.2.2)]
          have g5 : decide (v1 ≤ y1) = false := decide_eq_false g4
          go_enter Tryd.func31, Tryd.ntmps31
          go_wp2_with fail
          go_ret
          exact ⟨rfl, by go_grown⟩
      · rw [decide_eq_false (show ¬ HoldR x0 y0 x1 y1 u0 v0 u1 v1 from fun h => g3 h.2.2.1)]
        have g5 : decide (y0 ≤ v0) = false := decide_eq_false g3
        go_enter Tryd.func31, Tryd.ntmps31
        go_wp2_with fail
        go_ret
        exact ⟨rfl, by go_grown⟩
    · rw [decide_eq_false (show ¬ HoldR x0 y0 x1 y1 u0 v0 u1 v1 from fun h => g2 h.2.1)]
      have g5 : decide (u1 ≤ x1) = false := decide_eq_false g2
      go_enter Tryd.func31, Tryd.ntmps31
      go_wp2_with fail
      go_ret
      exact ⟨rfl, by go_grown⟩
  · rw [decide_eq_false (show ¬ HoldR x0 y0 x1 y1 u0 v0 u1 v1 from fun h => g1 h.1)]
    have g5 : decide (x0 ≤ u0) = false := decide_eq_false g1
    go_enter Tryd.func31, Tryd.ntmps31
    go_wp2_with fail
    go_ret
    exact ⟨rfl, by go_grown⟩
set_option maxHeartbeats 1000000 in
theorem misses_any (z x0 y0 x1 y1 u u0 v0 u1 v1 : Int) (w : World) : Calls Tryd.prog 49 #[.agg #[.int .i64 z, .int .i64 x0, .int .i64 y0, .int .i64 x1, .int .i64 y1], .agg #[.int .i64 u, .int .i64 u0, .int .i64 v0, .int .i64 u1, .int .i64 v1]] w fun e w' => e = .returned (.bool (decide (MissR x0 y0 x1 y1 u0 v0 u1 v1))) ∧ Below w.heap.size w w' := by
  by_cases g1 : u1 < x0
  · rw [decide_eq_true (show MissR x0 y0 x1 y1 u0 v0 u1 v1 from .inl g1)]
    have g5 : decide (u1 < x0) = true := decide_eq_true g1
    go_enter Tryd.func49, Tryd.ntmps49
    go_wp2_with fail
    go_ret
    exact ⟨rfl, by go_grown⟩
  · by_cases g2 : x1 < u0
    · rw [decide_eq_true (show MissR x0 y0 x1 y1 u0 v0 u1 v1 from .inr (.inl g2))]
      have g5 : decide (x1 < u0) = true := decide_eq_true g2
      go_enter Tryd.func49, Tryd.ntmps49
      go_wp2_with fail
      go_ret
      exact ⟨rfl, by go_grown⟩
    · by_cases g3 : v1 < y0
      · rw [decide_eq_true (show MissR x0 y0 x1 y1 u0 v0 u1 v1 from .inr (.inr (.inl g3)))]
        have g5 : decide (v1 < y0) = true := decide_eq_true g3
        go_enter Tryd.func49, Tryd.ntmps49
        go_wp2_with fail
        go_ret
        exact ⟨rfl, by go_grown⟩
      · by_cases g4 : y1 < v0
        · rw [decide_eq_true (show MissR x0 y0 x1 y1 u0 v0 u1 v1 from .inr (.inr (.inr g4)))]
          go_enter Tryd.func49, Tryd.ntmps49
          go_wp2_with fail
          go_ret
          exact ⟨rfl, by go_grown⟩
        · rw [decide_eq_false (show ¬ MissR x0 y0 x1 y1 u0 v0 u1 v1 from fun h => by unfold MissR at h; omega)]
          go_enter Tryd.func49, Tryd.ntmps49
          go_wp2_with fail
          go_ret
          exact ⟨rfl, by go_grown⟩
end Go.Proofs.YthlekifagidijaaDoor
