/- Contracts of the document's own Signed and Unsigned: they answer as the program's do, for every number and every number of bytes. -/
import Derived.Test.YtodjdeilaimjaaaA
namespace Go.Proofs.Ytodjdeilaimjaaa
open Go.RowKit
set_option linter.unusedVariables false
theorem rsigned_arg (x n : Int) (w : World) (h : n < 1 ∨ 8 < n) : Calls Try.prog 55 #[.int .u64 x, .int .i64 n] w fun e w' => e = .returned (.tuple #[.int .i64 0, .int .i64 2]) ∧ w = w' := by
  rcases h with h | h
  · go_enter Try.func55, Try.ntmps55
    go_wp2
    go_ret2
    exact ⟨rfl, rfl⟩
  · have h1 : ¬ n < 1 := by omega
    go_enter Try.func55, Try.ntmps55
    go_wp2
    go_ret2
    exact ⟨rfl, rfl⟩
theorem rsigned_8 (x : Int) (w : World) : Calls Try.prog 55 #[.int .u64 x, .int .i64 8] w fun e w' => e = .returned (.tuple #[.int .i64 (sgn x 8), .int .i64 0]) ∧ w = w' := by
  have HF : Hid (wrap64 x = sgn x 8) := by
    apply Lib.hid
    unfold wrap64 sgn
    simp only [Int.reduceMul, Int.reduceSub, Int.reduceToNat, Int.reducePow]
    split <;> omega
  go_enter Try.func55, Try.ntmps55
  go_wp2
  go_ret2
  exact ⟨ret2 HF.out rfl, rfl⟩
theorem widths7 {n : Int} (h0 : 1 ≤ n) (h1 : n < 8) : n = 1 ∨ n = 2 ∨ n = 3 ∨ n = 4 ∨ n = 5 ∨ n = 6 ∨ n = 7 := by omega
set_option maxHeartbeats 1000000 in
theorem rsigned_lo (x n : Int) (w : World) (x0 : 0 ≤ x) (h0 : 1 ≤ n) (h1 : n < 8) : Calls Try.prog 55 #[.int .u64 x, .int .i64 n] w fun e w' => e = .returned (.tuple #[.int .i64 (sgn x n), .int .i64 0]) ∧ w = w' := by
  rcases widths7 h0 h1 with rfl | rfl | rfl | rfl | rfl | rfl | rfl
  all_goals
    go_enter Try.func55, Try.ntmps55
    go_wp2
    all_goals
      go_ret2
      refine ⟨ret2 ?_ rfl, rfl⟩
      unfold sgn
      simp only [Int.reduceMul, Int.reduceSub, Int.reduceToNat, Int.reducePow]
      split <;> omega
theorem rsigned_yes (x n : Int) (w : World) (x0 : 0 ≤ x) (h0 : 1 ≤ n) (h1 : n ≤ 8) : Calls Try.prog 55 #[.int .u64 x, .int .i64 n] w fun e w' => e = .returned (.tuple #[.int .i64 (sgn x n), .int .i64 0]) ∧ w = w' := by
  by_cases h : n = 8
  · subst h; exact rsigned_8 x w
  · exact rsigned_lo x n w x0 h0 (by omega)
theorem runsigned_arg (v n : Int) (w : World) (h : n < 1 ∨ 8 < n) : Calls Try.prog 40 #[.int .i64 v, .int .i64 n] w fun e w' => e = .returned (.tuple #[.int .u64 0, .int .i64 2]) ∧ w = w' := by
  rcases h with h | h
  · go_enter Try.func40, Try.ntmps40
    go_wp2
    go_ret2
    exact ⟨rfl, rfl⟩
  · have h1 : ¬ n < 1 := by omega
    go_enter Try.func40, Try.ntmps40
    go_wp2
    go_ret2
    exact ⟨rfl, rfl⟩
theorem runsigned_8 (v : Int) (w : World) (v0 : -9223372036854775808 ≤ v) (v1 : v ≤ 9223372036854775807) : Calls Try.prog 40 #[.int .i64 v, .int .i64 8] w fun e w' => e = .returned (.tuple #[.int .u64 (low v 8), .int .i64 0]) ∧ w = w' := by
  have HF : Hid (IntKind.u64.wrap v = low v 8) := by
    apply Lib.hid
    rw [wrap_u64]; unfold low
    simp only [Int.reduceMul, Int.reduceToNat, Int.reducePow]
  clear v0 v1
  go_enter Try.func40, Try.ntmps40
  go_wp2
  go_ret2
  exact ⟨ret2 HF.out rfl, rfl⟩
set_option maxHeartbeats 2000000 in
theorem runsigned_lo (v n : Int) (w : World) (h0 : 1 ≤ n) (h1 : n < 8) (h : inr v n = true) : Calls Try.prog 40 #[.int .i64 v, .int .i64 n] w fun e w' => e = .returned (.tuple #[.int .u64 (low v n), .int .i64 0]) ∧ w = w' := by
  rw [inr_iff] at h
  obtain ⟨ha, hb⟩ := h
  rcases widths7 h0 h1 with rfl | rfl | rfl | rfl | rfl | rfl | rfl
  all_goals
    simp only [Int.reduceMul, Int.reduceSub, Int.reduceToNat, Int.reducePow] at ha hb
    go_enter Try.func40, Try.ntmps40
    go_wp2
    all_goals
      go_ret2
      refine ⟨ret2 ?_ rfl, rfl⟩
      unfold low
      simp only [Int.reduceMul, Int.reduceToNat, Int.reducePow]
      omega
set_option maxHeartbeats 2000000 in
theorem runsigned_no (v n : Int) (w : World) (v0 : -9223372036854775808 ≤ v) (v1 : v ≤ 9223372036854775807) (h0 : 1 ≤ n) (h1 : n ≤ 8) (h : inr v n = false) : Calls Try.prog 40 #[.int .i64 v, .int .i64 n] w fun e w' => e = .returned (.tuple #[.int .u64 0, .int .i64 8]) ∧ w = w' := by
  have h : ¬ (-(2 ^ (8 * n - 1).toNat) ≤ v ∧ v < 2 ^ (8 * n - 1).toNat) := by rw [← inr_iff, h]; simp
  have h8 : n < 8 := by
    rcases Int.lt_or_eq_of_le h1 with g | rfl
    · exact g
    · simp only [Int.reduceMul, Int.reduceSub, Int.reduceToNat, Int.reducePow] at h; omega
  rcases widths7 h0 h8 with rfl | rfl | rfl | rfl | rfl | rfl | rfl
  all_goals
    simp only [Int.reduceMul, Int.reduceSub, Int.reduceToNat, Int.reducePow] at h
    clear v0 v1
    rcases Classical.not_and_iff_not_or_not.1 h with ha | ha
    all_goals
      clear h
      go_enter Try.func40, Try.ntmps40
      go_wp2
      go_ret2
      exact ⟨rfl, rfl⟩
theorem runsigned_yes (v n : Int) (w : World) (v0 : -9223372036854775808 ≤ v) (v1 : v ≤ 9223372036854775807) (h0 : 1 ≤ n) (h1 : n ≤ 8) (h : inr v n = true) : Calls Try.prog 40 #[.int .i64 v, .int .i64 n] w fun e w' => e = .returned (.tuple #[.int .u64 (low v n), .int .i64 0]) ∧ w = w' := by
  by_cases h8 : n = 8
  · subst h8; exact runsigned_8 v w v0 v1
  · exact runsigned_lo v n w h0 (by omega) h
end Go.Proofs.Ytodjdeilaimjaaa
