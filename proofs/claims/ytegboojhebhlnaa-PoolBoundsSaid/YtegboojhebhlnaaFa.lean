/- Plain arithmetic of FNV-1a, no Go: what a byte makes of a sum, digit by digit, and that what is unlike stays unlike. -/
import Derived.WalkKit
import Derived.Laws.Bits64
import Derived.Lib.Hide
namespace Go.Proofs.Ytegboojhebhlnaa
def addF (s b : Nat) : Nat := (s ^^^ b) * 1099511628211 % 18446744073709551616
def sumF (x : Nat) (l : List UInt8) : Nat := l.foldl (fun x c => addF x c.toNat) x
def fSt : Nat := 14695981039346656037
def bktF (s : Nat) (n : Int) : Int := if n < 1 then 0 else (s : Int) % n
theorem addF_lt (s b : Nat) : addF s b < 18446744073709551616 := Nat.mod_lt _ (by decide)
theorem sumF_cons (x : Nat) (l : List UInt8) (c : UInt8) : sumF x (c :: l) = sumF (addF x c.toNat) l := by
  unfold sumF; rw [List.foldl_cons]
theorem sumF_nil (x : Nat) : sumF x [] = x := by
  unfold sumF; rw [List.foldl_nil]
theorem sumF_lt (l : List UInt8) : ∀ x, x < 18446744073709551616 → sumF x l < 18446744073709551616 := by
  induction l with
  | nil => intro x h; rw [sumF_nil]; exact h
  | cons c l ih => intro x _; rw [sumF_cons]; exact ih _ (addF_lt _ _)
theorem sumF_append (x : Nat) (a b : List UInt8) : sumF x (a ++ b) = sumF (sumF x a) b := by
  unfold sumF; rw [List.foldl_append]
theorem sumF_snoc (x : Nat) (a : List UInt8) (c : UInt8) : sumF x (a ++ [c]) = addF (sumF x a) c.toNat := by
  unfold sumF; rw [List.foldl_append, List.foldl_cons, List.foldl_nil]
theorem mul_back_gen (x p q M : Nat) (h1 : p * q % M = 1) (hx : x < M) : (x * p % M) * q % M = x := by
  rw [Nat.mul_mod, Nat.mod_mod, ← Nat.mul_mod, Nat.mul_assoc, Nat.mul_mod, h1, Nat.mul_one, Nat.mod_mod, Nat.mod_eq_of_lt hx]
theorem prime_back : 1099511628211 * 14886173955864302971 % 18446744073709551616 = 1 := by decide +kernel
theorem mul_back (x : Nat) (hx : x < 18446744073709551616) : (x * 1099511628211 % 18446744073709551616) * 14886173955864302971 % 18446744073709551616 = x :=
  mul_back_gen x _ _ _ prime_back hx
theorem xor_lt (s b : Nat) (hs : s < 18446744073709551616) (hb : b < 18446744073709551616) : s ^^^ b < 18446744073709551616 := by
  have := Nat.xor_lt_two_pow (n := 64) (x := s) (y := b) (by omega) (by omega)
  omega
theorem addF_inj (s t b c : Nat) (hs : s < 18446744073709551616) (ht : t < 18446744073709551616) (hb : b < 18446744073709551616) (hc : c < 18446744073709551616) (h : addF s b = addF t c) : s ^^^ b = t ^^^ c := by
  have h1 := mul_back (s ^^^ b) (xor_lt s b hs hb)
  have h2 := mul_back (t ^^^ c) (xor_lt t c ht hc)
  unfold addF at h
  rw [h, h2] at h1
  exact h1.symm
theorem xor_back (s b : Nat) : (s ^^^ b) ^^^ b = s := by
  rw [Nat.xor_assoc, Nat.xor_self, Nat.xor_zero]
theorem xor_back' (s b : Nat) : s ^^^ (s ^^^ b) = b := by
  rw [← Nat.xor_assoc, Nat.xor_self, Nat.zero_xor]
theorem addF_left (s t b : Nat) (hs : s < 18446744073709551616) (ht : t < 18446744073709551616) (hb : b < 18446744073709551616) (h : addF s b = addF t b) : s = t := by
  have := congrArg (· ^^^ b) (addF_inj s t b b hs ht hb hb h)
  simpa only [xor_back] using this
theorem addF_right (s b c : Nat) (hs : s < 18446744073709551616) (hb : b < 18446744073709551616) (hc : c < 18446744073709551616) (h : addF s b = addF s c) : b = c := by
  have := congrArg (s ^^^ ·) (addF_inj s s b c hs hs hb hc h)
  simpa only [xor_back'] using this
theorem sumF_left (l : List UInt8) : ∀ x y, x < 18446744073709551616 → y < 18446744073709551616 → sumF x l = sumF y l → x = y := by
  induction l with
  | nil => intro x y _ _ h; rwa [sumF_nil, sumF_nil] at h
  | cons c l ih =>
    intro x y hx hy h
    have hc : c.toNat < 256 := c.toNat_lt
    rw [sumF_cons, sumF_cons] at h
    exact addF_left x y c.toNat hx hy (by omega) (ih _ _ (addF_lt _ _) (addF_lt _ _) h)
/-- A byte that is another one is told. -/
theorem sumF_unlike (a b : List UInt8) (c d : UInt8) (h : c ≠ d) : sumF fSt (a ++ c :: b) ≠ sumF fSt (a ++ d :: b) := by
  intro he
  rw [sumF_append, sumF_append, sumF_cons, sumF_cons] at he
  have h0 := sumF_lt a fSt (by decide)
  have h1 := sumF_left b _ _ (addF_lt _ _) (addF_lt _ _) he
  have hc : c.toNat < 256 := c.toNat_lt
  have hd : d.toNat < 256 := d.toNat_lt
  exact h (UInt8.toNat_inj.1 (addF_right _ _ _ h0 (by omega) (by omega) h1))
/-- Exclusive or, digit by digit. -/
theorem xor_two (s b : Nat) : s ^^^ b = 2 * (s / 2 ^^^ b / 2) + (s % 2 + b % 2) % 2 := by
  have h1 : (s ^^^ b) / 2 = s / 2 ^^^ b / 2 := Nat.xor_div_two
  have h2 := @Nat.xor_mod_two_eq_one s b
  omega
theorem xor_digit_ge (i : Nat) (s c : Nat) (h : s / 2 ^ i % 2 = 1) : 2 ^ i ≤ (s ^^^ c % 2 ^ i) := by
  apply Classical.byContradiction
  intro hlt
  have ht : (s ^^^ c % 2 ^ i) < 2 ^ i := by omega
  have hb : Nat.testBit (s ^^^ c % 2 ^ i) i = false := Nat.testBit_lt_two_pow ht
  have hq : Nat.testBit (c % 2 ^ i) i = false := Nat.testBit_lt_two_pow (Nat.mod_lt _ (Nat.two_pow_pos i))
  rw [Nat.testBit_xor, hq, Nat.testBit_eq_decide_div_mod_eq] at hb
  simp at hb
  omega
theorem xor_digit (i : Nat) : ∀ s c : Nat, s ^^^ (c % 2 ^ (i + 1)) = if c / 2 ^ i % 2 = 1 then (if s / 2 ^ i % 2 = 1 then (s ^^^ (c % 2 ^ i)) - 2 ^ i else (s ^^^ (c % 2 ^ i)) + 2 ^ i) else s ^^^ (c % 2 ^ i) := by
  induction i with
  | zero =>
    intro s c
    have h := xor_two s (c % 2)
    rw [show c % 2 / 2 = 0 by omega, Nat.xor_zero] at h
    simp only [Nat.zero_add, Nat.pow_one, Nat.pow_zero, Nat.div_one, Nat.mod_one, Nat.xor_zero]
    split <;> (try split) <;> omega
  | succ i ih =>
    intro s c
    have h1 := xor_two s (c % 2 ^ (i + 2))
    have h2 := xor_two s (c % 2 ^ (i + 1))
    have e1 : c % 2 ^ (i + 2) / 2 = c / 2 % 2 ^ (i + 1) := by
      rw [show 2 ^ (i + 2) = 2 * 2 ^ (i + 1) by rw [Nat.pow_succ 2 (i + 1), Nat.mul_comm], Nat.mod_mul_right_div_self]
    have e2 : c % 2 ^ (i + 1) / 2 = c / 2 % 2 ^ i := by
      rw [show 2 ^ (i + 1) = 2 * 2 ^ i by rw [Nat.pow_succ, Nat.mul_comm], Nat.mod_mul_right_div_self]
    have e3 : c % 2 ^ (i + 2) % 2 = c % 2 := Nat.mod_mod_of_dvd _ ⟨2 ^ (i + 1), by rw [Nat.pow_succ 2 (i + 1), Nat.mul_comm]⟩
    have e4 : c % 2 ^ (i + 1) % 2 = c % 2 := Nat.mod_mod_of_dvd _ ⟨2 ^ i, by rw [Nat.pow_succ, Nat.mul_comm]⟩
    have e5 : ∀ x : Nat, x / 2 ^ (i + 1) = x / 2 / 2 ^ i := fun x => by rw [Nat.div_div_eq_div_mul, Nat.pow_succ, Nat.mul_comm]
    rw [e1, e3] at h1
    rw [e2, e4] at h2
    have h := ih (s / 2) (c / 2)
    rw [e5 c, e5 s, h1, h2, h]
    have hp : 2 ^ (i + 1) = 2 * 2 ^ i := by rw [Nat.pow_succ, Nat.mul_comm]
    split
    · split
      · rename_i hs1
        have hge := xor_digit_ge i (s / 2) (c / 2) hs1
        omega
      · omega
    · rfl
end Go.Proofs.Ytegboojhebhlnaa
