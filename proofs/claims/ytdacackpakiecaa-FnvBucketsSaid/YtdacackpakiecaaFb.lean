/- Adding a byte: the program's and the document's. -/
import Derived.Test.YtdacackpakiecaaFa
import Derived.Test.YtdacackpakiecaaRows
import Derived.ProofKit
import Derived.Outline
import Derived.WalkSpells
import Derived.WalkLawsBesides
namespace Go.Proofs.Ytdacackpakiecaa
open Go.RowKit
set_option linter.unusedVariables false
set_option linter.unusedSimpArgs false
theorem ret_int {k : IntKind} {a b : Int} (h : a = b) : Ending.returned (.int k a) = .returned (.int k b) := by rw [h]
theorem digit_facts (s b k : Nat) (hs : s < 18446744073709551616) (hb : b < 256) (hk : k < 8) :
    b / 2 ^ k < 256 ∧ 1 ≤ 2 ^ k ∧ 2 ^ k ≤ 128 ∧ b / 2 ^ (k + 1) = b / 2 ^ k / 2 ∧ 2 ^ (k + 1) = 2 * 2 ^ k ∧ (s ^^^ (b % 2 ^ k)) < 18446744073709551616 ∧ (s ^^^ (b % 2 ^ (k + 1))) < 18446744073709551616 := by
  have h1 : 2 ^ (k + 1) = 2 * 2 ^ k := by rw [Nat.pow_succ, Nat.mul_comm]
  have h2 := Nat.two_pow_pos k
  have h3 : 2 ^ k ≤ 2 ^ 7 := Nat.pow_le_pow_right (by omega) (by omega)
  have hl := Nat.div_le_self b (2 ^ k)
  have m1 := Nat.mod_lt b h2
  have m2 := Nat.mod_lt b (Nat.two_pow_pos (k + 1))
  have e : (2 : Nat) ^ 7 = 128 := by decide
  rw [e] at h3
  refine ⟨by omega, by omega, h3, ?_, h1, xor_lt _ _ hs (by omega), xor_lt _ _ hs (by omega)⟩
  rw [Nat.div_div_eq_div_mul, Nat.pow_succ]
theorem add_any (s b : Nat) (hs : s < 18446744073709551616) (hb : b < 256) (w : World) :
    Calls Try.prog 10 #[.int .u64 s, .int .u8 b] w fun e w' => e = .returned (.int .u64 (addF s b)) ∧ w' = w := by
  have h1 := bits_xor_u64_nat s b hs (by omega)
  have h2 := xor_lt s b hs (by omega)
  have hw : IntKind.u64.wrap (b : Int) = (b : Int) := by rw [IntKind.wrap_u64]; omega
  go_enter Try.func10, Try.ntmps10
  go_wp2
  go_ret
  refine ⟨ret_int ?_, rfl⟩
  rw [IntKind.wrap_u64]
  unfold addF
  generalize (s ^^^ b) = y
  omega
set_option maxHeartbeats 2000000 in
theorem radd_any (s b : Nat) (hs : s < 18446744073709551616) (hb : b < 256) (w : World) :
    Calls Try.prog 11 #[.int .u64 s, .int .u8 b] w fun e w' => e = .returned (.int .u64 (addF s b)) ∧ w' = w := by
  go_enter Try.func11, Try.ntmps11
  go_wp2
  go_loop [1, 5, 6, 7] (fun c x o i => ∃ k : Nat, k ≤ 8 ∧ c = .int .u8 ((b / 2 ^ k : Nat) : Int) ∧ x = .int .u64 ((s ^^^ (b % 2 ^ k) : Nat) : Int) ∧ o = .int .u64 ((2 ^ k : Nat) : Int) ∧ i = .int .i64 k) (fun _ _ _ i => 8 - (intOf i).toNat)
  case atStart => exact ⟨0, by omega, by simp, by simp [Nat.mod_one], by simp, by simp⟩
  case round =>
    obtain ⟨k, hk, rfl, rfl, rfl, rfl⟩ := hrel
    by_cases hk8 : k < 8
    · obtain ⟨f1, f2, f3, f4, f5, f6, f7⟩ := digit_facts s b k hs hb hk8
      have hX := xor_digit k s b
      have HX := Lib.hid hX
      have HL := Lib.hid (xor_digit_ge k s b)
      clear hX
      have H5 := Lib.hid f5
      have H4 := Lib.hid f4
      clear f4 f5
      generalize b / 2 ^ k = c at *
      generalize s ^^^ (b % 2 ^ k) = x at *
      have hd0 : (s : Int) / ((2 ^ k : Nat) : Int) = ((s / 2 ^ k : Nat) : Int) := by omega
      have d1 : s / 2 ^ k < 18446744073709551616 := by have := Nat.div_le_self s (2 ^ k); omega
      generalize s / 2 ^ k = d at *
      generalize 2 ^ k = o at *
      have o0 : ¬ (o : Int) = 0 := by omega
      have hj : ((8 - (intOf (Value.int IntKind.i64 ((k : Int) + 1))).toNat) < 8 - (intOf (Value.int IntKind.i64 (k : Int))).toNat) := by simp [intOf]; omega
      have HJ := Lib.hid hj
      clear hj
      by_cases c1 : c % 2 = 1
      · by_cases s1 : d % 2 = 1
        · have hy := HL.out s1
          have hw : IntKind.u64.wrap ((x : Int) - (o : Int)) = ((x - o : Nat) : Int) := by rw [IntKind.wrap_u64]; omega
          have HW := Lib.hid hw
          clear hw
          go_wp2
          exact ⟨⟨k + 1, by omega, by rw [H4.out]; simp, by rw [HX.out, if_pos c1, if_pos s1]; congr 1; omega, by rw [H5.out]; simp, by simp⟩, HJ.out⟩
        · have hz : x + o < 18446744073709551616 := by
            have := HX.out
            rw [if_pos c1, if_neg s1] at this
            omega
          have hw : IntKind.u64.wrap ((x : Int) + (o : Int)) = ((x + o : Nat) : Int) := by rw [IntKind.wrap_u64]; omega
          have HW := Lib.hid hw
          clear hw
          go_wp2
          exact ⟨⟨k + 1, by omega, by rw [H4.out]; simp, by rw [HX.out, if_pos c1, if_neg s1]; congr 1, by rw [H5.out]; simp, by simp⟩, HJ.out⟩
      · go_wp2
        exact ⟨⟨k + 1, by omega, by rw [H4.out]; simp, by rw [HX.out, if_neg c1], by rw [H5.out]; simp, by simp⟩, HJ.out⟩
    · obtain rfl : k = 8 := by omega
      have h8 : b % 2 ^ 8 = b := Nat.mod_eq_of_lt (by omega)
      rw [h8]
      generalize b / 2 ^ 8 = c
      generalize hy : s ^^^ b = y
      have HY := Lib.hid hy
      clear hy
      go_wp2
      go_ret
      refine ⟨ret_int ?_, rfl⟩
      rw [IntKind.wrap_u64]
      unfold addF
      rw [HY.out]
      omega
end Go.Proofs.Ytdacackpakiecaa
