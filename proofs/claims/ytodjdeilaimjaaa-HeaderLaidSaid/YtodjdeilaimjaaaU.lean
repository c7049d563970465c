/- Contracts of the document's own Number, Num, Bytes, Rest and End in the program's own terms, for every scan and every number. -/
import Derived.Test.YtodjdeilaimjaaaT
namespace Go.Proofs.Ytodjdeilaimjaaa
open Go.RowKit
set_option linter.unusedVariables false
theorem left_in (t : ByteArray) (p n : Int) (h0 : 0 ≤ p) (h1 : p ≤ t.size) (hm : t.size ≤ maxLen) : leftV t p n = if (t.size : Int) - p < n then 3 else 0 := by
  unfold maxLen at hm
  unfold leftV
  rw [IntWalk.wrap64_in _ (by omega)]
theorem takeBad_q (t : ByteArray) (p q n : Int) (b : Bool) (h : q ≠ 0) : takeBad t p q n b = q := by simp [takeBad, firstOf, h]
theorem takeBad_place (t : ByteArray) (p n : Int) (b : Bool) (h : p < 0 ∨ t.size < p) : takeBad t p 0 n b = 2 := by
  have : placedV t p = 2 := if_neg (by omega)
  simp [takeBad, firstOf, this]
theorem placed_zero (t : ByteArray) (p : Int) (h0 : 0 ≤ p) (h1 : p ≤ t.size) : placedV t p = 0 := if_pos ⟨h0, h1⟩
theorem mul_byte (x : Int) (c : Nat) (x0 : 0 ≤ x) (x1 : x < 72057594037927936) (hc : c < 256) : IntKind.u64.wrap (256 * x + IntKind.u64.wrap c) = c + 256 * x := by
  rw [wrap_u64, wrap_u64]; omega
theorem rnumber_any (t : ByteArray) (w : World) (h8 : t.size ≤ 8) :
    Calls Try.prog 54 #[.string t] w fun e w' => e = .returned (.int .u64 (numB t.data.toList)) ∧ w = w' := by
  go_enter Try.func54, Try.ntmps54
  go_wp2
  go_loop [3, 4] (fun x i => ∃ k : Nat, k ≤ t.size ∧ i = .int .i64 ((k : Int) - 1) ∧ x = .int .u64 (numB (t.data.toList.drop k))) (fun _ i => (intOf i + 1).toNat)
  case atStart => exact ⟨t.size, Nat.le_refl _, rfl, by rw [List.drop_of_length_le (by simp)]; rfl⟩
  case round =>
    obtain ⟨k, hk, rfl, rfl⟩ := hrel
    by_cases hlt : 1 ≤ k
    · have hbd : 0 ≤ numB (t.data.toList.drop k) ∧ numB (t.data.toList.drop k) < 72057594037927936 := by
        have := numB_bd (t.data.toList.drop k)
        have := pow256_le (t.data.toList.drop k).length (by simp; omega)
        omega
      generalize hx : numB (t.data.toList.drop k) = x at *
      have HX := Lib.hid hx; clear hx
      have hs := numB_step t.data.toList k hlt (by simpa using hk)
      rw [HX.out] at hs
      have hc : t[k - 1].toNat < 256 := byte_bd _
      have HS := Lib.hid hs; clear hs
      have HC := Lib.hid hc; clear hc
      go_wp2
      refine ⟨⟨k - 1, by omega, ?_, ?_⟩, ?_⟩
      · congr 1; omega
      · rw [mul_byte x _ hbd.1 hbd.2 HC.out]; exact congrArg _ HS.out.symm
      · simp [intOf]; omega
    · obtain rfl : k = 0 := by omega
      go_wp2
      go_ret
      exact ⟨by simp, rfl⟩
theorem numBad_take (t : ByteArray) (p q n : Int) (b : Bool) (h : b = true ↔ (n < 1 ∨ 8 < n)) : takeBad t p q n b = numBad t p q n := by
  have e : wrongV b = wideV n := by
    cases b with
    | true => have := h.1 rfl; exact (if_neg (by omega) : wideV n = 2).symm
    | false =>
      have hn : 1 ≤ n ∧ n ≤ 8 := by
        have : ¬ (n < 1 ∨ 8 < n) := fun g => by have := h.2 g; cases this
        omega
      exact (if_pos hn : wideV n = 0).symm
  unfold takeBad numBad
  rw [e]
theorem bytesBad_take (t : ByteArray) (p q n : Int) (b : Bool) (h : b = true ↔ n < 0) : takeBad t p q n b = bytesBad t p q n := by
  have e : wrongV b = countedV n := by
    cases b with
    | true => have := h.1 rfl; exact (if_pos this : countedV n = 2).symm
    | false =>
      have hn : ¬ n < 0 := fun g => by have := h.2 g; cases this
      exact (if_neg hn : countedV n = 0).symm
  unfold takeBad bytesBad
  rw [e]
end Go.Proofs.Ytodjdeilaimjaaa
