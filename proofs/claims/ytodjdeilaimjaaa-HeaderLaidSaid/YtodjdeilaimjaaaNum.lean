/- Plain arithmetic of numbers of n bytes (n from 1 to 8): what the two shifts of Signed and Unsigned come to. No Go in sight. -/
import Derived.IntWalk
namespace Go.Proofs.Ytodjdeilaimjaaa
open Go.RowKit
set_option linter.unusedVariables false
/-- The number with a sign that the lowest n bytes of x stand for. -/
def sgn (x n : Int) : Int := if x % 2 ^ (8 * n).toNat < 2 ^ (8 * n - 1).toNat then x % 2 ^ (8 * n).toNat else x % 2 ^ (8 * n).toNat - 2 ^ (8 * n).toNat
/-- May v be a number with a sign of n bytes? -/
def inr (v n : Int) : Bool := decide (-(2 ^ (8 * n - 1).toNat) ≤ v) && decide (v < 2 ^ (8 * n - 1).toNat)
/-- The lowest n bytes of v. -/
def low (v n : Int) : Int := v % 2 ^ (8 * n).toNat

theorem widths {n : Int} (h0 : 1 ≤ n) (h1 : n ≤ 8) : n = 1 ∨ n = 2 ∨ n = 3 ∨ n = 4 ∨ n = 5 ∨ n = 6 ∨ n = 7 ∨ n = 8 := by omega

theorem wrap_u64 (n : Int) : IntKind.u64.wrap n = n % 18446744073709551616 := by
  simp only [IntKind.wrap, IntKind.bits, IntKind.signed, Bool.false_and, Int.reducePow]; simp
theorem shifts_signed (x n : Int) (h0 : 1 ≤ n) (h1 : n ≤ 8) :
    wrap64 (IntKind.u64.wrap (x * 2 ^ (8 * (8 - n)).toNat)) / 2 ^ (8 * (8 - n)).toNat = sgn x n := by
  unfold sgn
  rw [wrap_u64]
  unfold wrap64
  rcases widths h0 h1 with rfl | rfl | rfl | rfl | rfl | rfl | rfl | rfl <;> simp only [Int.reduceMul, Int.reduceSub, Int.reduceToNat, Int.reducePow, Int.mul_one] <;> split <;> omega

theorem shifts_low (v n : Int) (h0 : 1 ≤ n) (h1 : n ≤ 8) :
    IntKind.u64.wrap (v * 2 ^ (8 * (8 - n)).toNat) / 2 ^ (8 * (8 - n)).toNat = low v n := by
  unfold low
  rw [wrap_u64]
  rcases widths h0 h1 with rfl | rfl | rfl | rfl | rfl | rfl | rfl | rfl <;> simp only [Int.reduceMul, Int.reduceSub, Int.reduceToNat, Int.reducePow, Int.mul_one] <;> omega

theorem low_wrap (v n : Int) (h0 : 1 ≤ n) (h1 : n ≤ 8) : low (IntKind.u64.wrap v) n = low v n := by
  unfold low
  rw [wrap_u64]
  rcases widths h0 h1 with rfl | rfl | rfl | rfl | rfl | rfl | rfl | rfl <;> simp only [Int.reduceMul, Int.reduceToNat, Int.reducePow] <;> omega

theorem inr_iff (v n : Int) : inr v n = true ↔ -(2 ^ (8 * n - 1).toNat) ≤ v ∧ v < 2 ^ (8 * n - 1).toNat := by unfold inr; simp

theorem sgn_back (v n : Int) (h0 : 1 ≤ n) (h1 : n ≤ 8) (h : inr v n = true) : sgn v n = v := by
  rw [inr_iff] at h
  unfold sgn
  rcases widths h0 h1 with rfl | rfl | rfl | rfl | rfl | rfl | rfl | rfl <;> simp only [Int.reduceMul, Int.reduceSub, Int.reduceToNat, Int.reducePow] at h ⊢ <;> split <;> omega

theorem sgn_inr (x n : Int) (h0 : 1 ≤ n) (h1 : n ≤ 8) : inr (sgn x n) n = true := by
  rw [inr_iff]
  unfold sgn
  rcases widths h0 h1 with rfl | rfl | rfl | rfl | rfl | rfl | rfl | rfl <;> simp only [Int.reduceMul, Int.reduceSub, Int.reduceToNat, Int.reducePow] <;> split <;> omega

theorem sgn_low (x n : Int) : sgn (low x n) n = sgn x n := by
  unfold sgn low
  rw [Int.emod_emod_of_dvd _ (Int.dvd_refl _)]

theorem low_sgn (x n : Int) (h0 : 1 ≤ n) (h1 : n ≤ 8) : low (sgn x n) n = low x n := by
  unfold sgn low
  rcases widths h0 h1 with rfl | rfl | rfl | rfl | rfl | rfl | rfl | rfl <;> simp only [Int.reduceMul, Int.reduceSub, Int.reduceToNat, Int.reducePow] <;> split <;> omega

theorem sgn_wrap (v n : Int) (h0 : 1 ≤ n) (h1 : n ≤ 8) : sgn (IntKind.u64.wrap v) n = sgn v n := by
  rw [← sgn_low _ _, low_wrap _ _ h0 h1, sgn_low _ _]

/-- Back to the number itself, just if it may be one of n bytes. -/
theorem sgn_ne (v n : Int) (h0 : 1 ≤ n) (h1 : n ≤ 8) (h : inr v n = false) : sgn v n ≠ v := by
  intro e
  have := sgn_inr v n h0 h1
  rw [e, h] at this
  cases this

theorem low_bd (v n : Int) (h0 : 1 ≤ n) (h1 : n ≤ 8) : 0 ≤ low v n ∧ low v n ≤ 18446744073709551615 := by
  unfold low
  rcases widths h0 h1 with rfl | rfl | rfl | rfl | rfl | rfl | rfl | rfl <;> simp only [Int.reduceMul, Int.reduceToNat, Int.reducePow] <;> omega

theorem low_small (v n : Int) (h0 : 1 ≤ n) (h1 : n < 8) : low v n / 2 ^ (8 * n).toNat = 0 := by
  unfold low
  rcases widths h0 (by omega) with rfl | rfl | rfl | rfl | rfl | rfl | rfl | rfl <;> simp only [Int.reduceMul, Int.reduceToNat, Int.reducePow] <;> omega

theorem sgn_bd (v n : Int) (h0 : 1 ≤ n) (h1 : n ≤ 8) : -9223372036854775808 ≤ sgn v n ∧ sgn v n ≤ 9223372036854775807 := by
  unfold sgn
  rcases widths h0 h1 with rfl | rfl | rfl | rfl | rfl | rfl | rfl | rfl <;> simp only [Int.reduceMul, Int.reduceSub, Int.reduceToNat, Int.reducePow] <;> split <;> omega
end Go.Proofs.Ytodjdeilaimjaaa
