/- The contract of varint's first: the number with which a text begins and how many bytes it has, or what is wrong with it. -/
import Derived.Test.YtpjgemjceikhfaaG
import Derived.OwnWalk
namespace Go.Proofs.Ytpjgemjceikhfaa
open Go.RowKit
set_option linter.unusedVariables false
def fstX (l : List UInt8) : Int := if errV l = 0 then valV l else 0
def fstN (l : List UInt8) : Int := if errV l = 0 then cntV l else 0
theorem fst_ok (l : List UInt8) (h : errV l = 0) : fstX l = valV l ∧ fstN l = cntV l := by unfold fstX fstN; rw [if_pos h, if_pos h]; exact ⟨rfl, rfl⟩
theorem fst_no (l : List UInt8) (e : Int) (he : errV l = e) (h : e ≠ 0) : fstX l = 0 ∧ fstN l = 0 := by unfold fstX fstN; rw [if_neg (by omega), if_neg (by omega)]; exact ⟨rfl, rfl⟩
theorem list_at (t : ByteArray) (k : Nat) (h : k < t.size) : t.data.toList.getD k 0 = t[k] := by
  have : k < t.data.size := h
  simp [List.getD, Array.getElem?_eq_getElem this]; rfl
theorem two_pow7 (k : Nat) : (2 : Int) ^ (7 * k) = p7 k := by rw [← two7]; simp
theorem or7 (k : Nat) (y c : Int) (y0 : 0 ≤ y) (y1 : y < p7 k) (c0 : 0 ≤ c) (c1 : c * p7 k < 18446744073709551616) (y2 : y < 18446744073709551616) : bits BinOp.or IntKind.u64 y (c * p7 k) = y + c * p7 k := by
  have hp := p7_pos k
  have hz : 0 ≤ c * p7 k := Int.mul_nonneg c0 (by omega)
  rw [u64_or _ _ y0 y2 hz c1]
  have e := two7 k
  have h1 : (c * p7 k).toNat = c.toNat * 2 ^ (7 * k) := by
    rw [← e]
    have : c = (c.toNat : Int) := by omega
    rw [this, ← Int.natCast_mul, Int.toNat_natCast, Int.toNat_natCast]
  have h2 : y.toNat < 2 ^ (7 * k) := by omega
  rw [Nat.or_comm, nat_join (7 * k) _ _ (by rw [h1]; exact Nat.mul_mod_left _ _) h2]
  omega
theorem or7w (k : Nat) (y c : Int) (y0 : 0 ≤ y) (y1 : y < p7 k) (c0 : 0 ≤ c) (c1 : c * p7 k < 18446744073709551616) (y2 : y < 18446744073709551616) : bits BinOp.or IntKind.u64 y (IntKind.u64.wrap (c * 2 ^ (7 * k))) = y + c * p7 k := by
  have hz : 0 ≤ c * p7 k := Int.mul_nonneg c0 (by have := p7_pos k; omega)
  rw [two_pow7, IntWalk.u64_in _ (by omega), or7 k y c y0 y1 c0 c1 y2]
theorem stop_at (l : List UInt8) (k : Nat) (c : Nat) (hk : k ≤ lead 10 l) (hlt : k < l.length) (h10 : k < 10) (hc : (l.getD k 0).toNat = c) (h : c < 128) :
    (k = 9 ∧ 1 < c → errV l = 11) ∧ (¬ (k = 9 ∧ 1 < c) → 0 < k ∧ c = 0 → errV l = 4) ∧ (¬ (k = 9 ∧ 1 < c) → ¬ (0 < k ∧ c = 0) → errV l = 0 ∧ cntV l = k + 1 ∧ valV l = numV (l.take k) + c * p7 k ∧ numV (l.take k) < p7 k ∧ 0 ≤ numV (l.take k) ∧ (c : Int) * p7 k < 18446744073709551616 ∧ numV (l.take k) < 18446744073709551616) := by
  have hl := lead_at l k hk (by omega)
  have he : errV l = if k = 10 then 11 else if k = l.length then 3 else if k = 9 ∧ 1 < c then 11 else if 0 < k ∧ c = 0 then 4 else 0 := by
    unfold errV; rw [hl, hc]
  rw [if_neg (by omega), if_neg (by omega)] at he
  refine ⟨fun a => by rw [he, if_pos a], fun a b => by rw [he, if_neg a, if_pos b], fun a b => ?_⟩
  have hb := numV_bd (l.take k)
  have hlen : (l.take k).length = k := by simp; omega
  rw [hlen] at hb
  have h9 := p7_mono k 9 (by omega)
  have ht := p7_top.2
  refine ⟨by rw [he, if_neg a, if_neg b], by unfold cntV; rw [hl]; simp, ?_, hb.2, hb.1, ?_, by omega⟩
  · unfold valV
    rw [hl, numV_take l k hlt, hc]
    congr 2
    omega
  · by_cases hk9 : k = 9
    · subst hk9; rw [ht]; omega
    · have h8 := p7_mono k 8 (by omega)
      have e8 : p7 8 = 72057594037927936 := by decide
      have : (c : Int) * p7 k ≤ 127 * p7 k := Int.mul_le_mul_of_nonneg_right (by omega) (by have := p7_pos k; omega)
      omega
/-- What is or-ed in one round. -/
theorem round_val (l : List UInt8) (k : Nat) (y : Int) (c : Nat) (hk : k ≤ lead 10 l) (hlt : k < l.length) (hc : (l.getD k 0).toNat = c) (h : 128 ≤ c) (hy : k ≤ 9 → y = numV (l.take k)) (h9 : k + 1 ≤ 9) : bits BinOp.or IntKind.u64 y (IntKind.u64.wrap (((c : Int) - 128) * 2 ^ (7 * k))) = numV (l.take (k + 1)) := by
  have hb := numV_bd (l.take k)
  have hlen : (l.take k).length = k := by simp; omega
  rw [hlen] at hb
  have hx := byte_lt (l.getD k 0)
  have h8 := p7_mono k 8 (by omega)
  have e8 : p7 8 = 72057594037927936 := by decide
  have : ((c : Int) - 128) * p7 k ≤ 127 * p7 k := Int.mul_le_mul_of_nonneg_right (by omega) (by have := p7_pos k; omega)
  rw [hy (by omega), or7w k _ _ hb.1 hb.2 (by omega) (by omega) (by omega), numV_take l k hlt, hc]
  congr 2
  omega
end Go.Proofs.Ytpjgemjceikhfaa
