/- Adding a byte: the program's and the document's. -/
import Derived.Test.YtegboojhebhlnaaFa
import Derived.Test.YtegboojhebhlnaaKb
import Derived.Test.YtegboojhebhlnaaRows
import Derived.ProofKit
import Derived.Outline
import Derived.WalkSpells
import Derived.WalkLawsBesides
namespace Go.Proofs.Ytegboojhebhlnaa
open Go.RowKit
set_option linter.unusedVariables false
set_option linter.unusedSimpArgs false
theorem digit_facts (s b k : Nat) (hs : s < 18446744073709551616) (hb : b < 256) (hk : k < 8) :
    b / 2 ^ k < 256 ∧ 1 ≤ 2 ^ k ∧ 2 ^ k ≤ 128 ∧ b / 2 ^ (k + 1) = b / 2 ^ k / 2 ∧ 2 ^ (k + 1) = 2 * 2 ^ k ∧ (s ^^^ (b % 2 ^ k)) < 18446744073709551616 ∧ (s ^^^ (b % 2 ^ (k + 1))) < 18446744073709551616 := by
  have h1 : 2 ^ (k + 1) = 2 * 2 ^ k := by rw [Nat.pow_succ, Nat.mul_comm]
  have h2 := Nat.two_pow_pos k
  have h3 : 2 ^ k ≤ 2 ^ 7 := Nat.pow_le_pow_right (by omega) (by omega)
  have hl := Nat.div_le_self b (2 ^ k)
  have m1 := Nat.mod_lt b h2
  have m2 := Nat.mod_lt b (Nat.two_pow_pos (k + 1))
  have e : (2 : Nat) ^ 7 = 128 := by decide
  rw [e] at h3
  refine ⟨by omega, by omega, h3, ?_, h1, xor_lt _ _ hs (by omega), xor_lt _ _ hs (by omega)⟩
  rw [Nat.div_div_eq_div_mul, Nat.pow_succ]
theorem fadd_any (s b : Nat) (hs : s < 18446744073709551616) (hb : b < 256) (w : World) :
    Calls Try.prog 50 #[.int .u64 s, .int .u8 b] w fun e w' => e = .returned (.int .u64 (addF s b)) ∧ w' = w := by
  have h1 := bits_xor_u64_nat s b hs (by omega)
  have h2 := xor_lt s b hs (by omega)
  have hw : IntKind.u64.wrap (b : Int) = (b : Int) := by rw [IntKind.wrap_u64]; omega
  go_enter Try.func50, Try.ntmps50
  go_wp2
  go_ret
  refine ⟨ret_int ?_, rfl⟩
  rw [IntKind.wrap_u64]
  unfold addF
  generalize (s ^^^ b) = y
  omega
end Go.Proofs.Ytegboojhebhlnaa
