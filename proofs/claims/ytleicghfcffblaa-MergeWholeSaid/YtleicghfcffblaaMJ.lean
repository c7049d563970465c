/- Several texts, one behind the other: Fa, Fb, Fc. -/
import Derived.WalkKit
import Derived.Laws.Bits64
import Derived.Lib.Hide
import Derived.Test.YtleicghfcffblaaMA
import Derived.Test.YtleicghfcffblaaRows
import Derived.ProofKit
import Derived.Outline
import Derived.WalkSpells
import Derived.WalkLawsBesides
import Derived.Deep.QuietTactic
import Derived.BigQuiet
import Derived.Below
/- Plain arithmetic of FNV-1a, no Go: what a byte makes of a sum, digit by digit, and that what is unlike stays unlike. -/
namespace Go.Proofs.Ytleicghfcffblaa
def addF (s b : Nat) : Nat := (s ^^^ b) * 1099511628211 % 18446744073709551616
def sumF (x : Nat) (l : List UInt8) : Nat := l.foldl (fun x c => addF x c.toNat) x
def fSt : Nat := 14695981039346656037
def bktF (s : Nat) (n : Int) : Int := if n < 1 then 0 else (s : Int) % n
theorem addF_lt (s b : Nat) : addF s b < 18446744073709551616 := Nat.mod_lt _ (by decide)
theorem sumF_cons (x : Nat) (l : List UInt8) (c : UInt8) : sumF x (c :: l) = sumF (addF x c.toNat) l := by
  unfold sumF; rw [List.foldl_cons]
theorem sumF_nil (x : Nat) : sumF x [] = x := by
  unfold sumF; rw [List.foldl_nil]
theorem sumF_lt (l : List UInt8) : ∀ x, x < 18446744073709551616 → sumF x l < 18446744073709551616 := by
  induction l with
  | nil => intro x h; rw [sumF_nil]; exact h
  | cons c l ih => intro x _; rw [sumF_cons]; exact ih _ (addF_lt _ _)
theorem sumF_append (x : Nat) (a b : List UInt8) : sumF x (a ++ b) = sumF (sumF x a) b := by
  unfold sumF; rw [List.foldl_append]
theorem sumF_snoc (x : Nat) (a : List UInt8) (c : UInt8) : sumF x (a ++ [c]) = addF (sumF x a) c.toNat := by
  unfold sumF; rw [List.foldl_append, List.foldl_cons, List.foldl_nil]
theorem mul_back_gen (x p q M : Nat) (h1 : p * q % M = 1) (hx : x < M) : (x * p % M) * q % M = x := by
  rw [Nat.mul_mod, Nat.mod_mod, ← Nat.mul_mod, Nat.mul_assoc, Nat.mul_mod, h1, Nat.mul_one, Nat.mod_mod, Nat.mod_eq_of_lt hx]
theorem prime_back : 1099511628211 * 14886173955864302971 % 18446744073709551616 = 1 := by decide +kernel
theorem mul_back (x : Nat) (hx : x < 18446744073709551616) : (x * 1099511628211 % 18446744073709551616) * 14886173955864302971 % 18446744073709551616 = x :=
  mul_back_gen x _ _ _ prime_back hx
theorem xor_lt (s b : Nat) (hs : s < 18446744073709551616) (hb : b < 18446744073709551616) : s ^^^ b < 18446744073709551616 := by
  have := Nat.xor_lt_two_pow (n := 64) (x := s) (y := b) (by omega) (by omega)
  omega
theorem addF_inj (s t b c : Nat) (hs : s < 18446744073709551616) (ht : t < 18446744073709551616) (hb : b < 18446744073709551616) (hc : c < 18446744073709551616) (h : addF s b = addF t c) : s ^^^ b = t ^^^ c := by
  have h1 := mul_back (s ^^^ b) (xor_lt s b hs hb)
  have h2 := mul_back (t ^^^ c) (xor_lt t c ht hc)
  unfold addF at h
  rw [h, h2] at h1
  exact h1.symm
theorem xor_back (s b : Nat) : (s ^^^ b) ^^^ b = s := by
  rw [Nat.xor_assoc, Nat.xor_self, Nat.xor_zero]
theorem xor_back' (s b : Nat) : s ^^^ (s ^^^ b) = b := by
  rw [← Nat.xor_assoc, Nat.xor_self, Nat.zero_xor]
theorem addF_left (s t b : Nat) (hs : s < 18446744073709551616) (ht : t < 18446744073709551616) (hb : b < 18446744073709551616) (h : addF s b = addF t b) : s = t := by
  have := congrArg (· ^^^ b) (addF_inj s t b b hs ht hb hb h)
  simpa only [xor_back] using this
theorem addF_right (s b c : Nat) (hs : s < 18446744073709551616) (hb : b < 18446744073709551616) (hc : c < 18446744073709551616) (h : addF s b = addF s c) : b = c := by
  have := congrArg (s ^^^ ·) (addF_inj s s b c hs hs hb hc h)
  simpa only [xor_back'] using this
theorem sumF_left (l : List UInt8) : ∀ x y, x < 18446744073709551616 → y < 18446744073709551616 → sumF x l = sumF y l → x = y := by
  induction l with
  | nil => intro x y _ _ h; rwa [sumF_nil, sumF_nil] at h
  | cons c l ih =>
    intro x y hx hy h
    have hc : c.toNat < 256 := c.toNat_lt
    rw [sumF_cons, sumF_cons] at h
    exact addF_left x y c.toNat hx hy (by omega) (ih _ _ (addF_lt _ _) (addF_lt _ _) h)
/-- A byte that is another one is told. -/
theorem sumF_unlike (a b : List UInt8) (c d : UInt8) (h : c ≠ d) : sumF fSt (a ++ c :: b) ≠ sumF fSt (a ++ d :: b) := by
  intro he
  rw [sumF_append, sumF_append, sumF_cons, sumF_cons] at he
  have h0 := sumF_lt a fSt (by decide)
  have h1 := sumF_left b _ _ (addF_lt _ _) (addF_lt _ _) he
  have hc : c.toNat < 256 := c.toNat_lt
  have hd : d.toNat < 256 := d.toNat_lt
  exact h (UInt8.toNat_inj.1 (addF_right _ _ _ h0 (by omega) (by omega) h1))
/-- Exclusive or, digit by digit. -/
theorem xor_two (s b : Nat) : s ^^^ b = 2 * (s / 2 ^^^ b / 2) + (s % 2 + b % 2) % 2 := by
  have h1 : (s ^^^ b) / 2 = s / 2 ^^^ b / 2 := Nat.xor_div_two
  have h2 := @Nat.xor_mod_two_eq_one s b
  omega
theorem xor_digit_ge (i : Nat) (s c : Nat) (h : s / 2 ^ i % 2 = 1) : 2 ^ i ≤ (s ^^^ c % 2 ^ i) := by
  apply Classical.byContradiction
  intro hlt
  have ht : (s ^^^ c % 2 ^ i) < 2 ^ i := by omega
  have hb : Nat.testBit (s ^^^ c % 2 ^ i) i = false := Nat.testBit_lt_two_pow ht
  have hq : Nat.testBit (c % 2 ^ i) i = false := Nat.testBit_lt_two_pow (Nat.mod_lt _ (Nat.two_pow_pos i))
  rw [Nat.testBit_xor, hq, Nat.testBit_eq_decide_div_mod_eq] at hb
  simp at hb
  omega
theorem xor_digit (i : Nat) : ∀ s c : Nat, s ^^^ (c % 2 ^ (i + 1)) = if c / 2 ^ i % 2 = 1 then (if s / 2 ^ i % 2 = 1 then (s ^^^ (c % 2 ^ i)) - 2 ^ i else (s ^^^ (c % 2 ^ i)) + 2 ^ i) else s ^^^ (c % 2 ^ i) := by
  induction i with
  | zero =>
    intro s c
    have h := xor_two s (c % 2)
    rw [show c % 2 / 2 = 0 by omega, Nat.xor_zero] at h
    simp only [Nat.zero_add, Nat.pow_one, Nat.pow_zero, Nat.div_one, Nat.mod_one, Nat.xor_zero]
    split <;> (try split) <;> omega
  | succ i ih =>
    intro s c
    have h1 := xor_two s (c % 2 ^ (i + 2))
    have h2 := xor_two s (c % 2 ^ (i + 1))
    have e1 : c % 2 ^ (i + 2) / 2 = c / 2 % 2 ^ (i + 1) := by
      rw [show 2 ^ (i + 2) = 2 * 2 ^ (i + 1) by rw [Nat.pow_succ 2 (i + 1), Nat.mul_comm], Nat.mod_mul_right_div_self]
    have e2 : c % 2 ^ (i + 1) / 2 = c / 2 % 2 ^ i := by
      rw [show 2 ^ (i + 1) = 2 * 2 ^ i by rw [Nat.pow_succ, Nat.mul_comm], Nat.mod_mul_right_div_self]
    have e3 : c % 2 ^ (i + 2) % 2 = c % 2 := Nat.mod_mod_of_dvd _ ⟨2 ^ (i + 1), by rw [Nat.pow_succ 2 (i + 1), Nat.mul_comm]⟩
    have e4 : c % 2 ^ (i + 1) % 2 = c % 2 := Nat.mod_mod_of_dvd _ ⟨2 ^ i, by rw [Nat.pow_succ, Nat.mul_comm]⟩
    have e5 : ∀ x : Nat, x / 2 ^ (i + 1) = x / 2 / 2 ^ i := fun x => by rw [Nat.div_div_eq_div_mul, Nat.pow_succ, Nat.mul_comm]
    rw [e1, e3] at h1
    rw [e2, e4] at h2
    have h := ih (s / 2) (c / 2)
    rw [e5 c, e5 s, h1, h2, h]
    have hp : 2 ^ (i + 1) = 2 * 2 ^ i := by rw [Nat.pow_succ, Nat.mul_comm]
    split
    · split
      · rename_i hs1
        have hge := xor_digit_ge i (s / 2) (c / 2) hs1
        omega
      · omega
    · rfl
end Go.Proofs.Ytleicghfcffblaa
/- Adding a byte: the program's and the document's. -/
namespace Go.Proofs.Ytleicghfcffblaa
open Go.RowKit
set_option maxRecDepth 20000
set_option linter.unusedVariables false
set_option linter.unusedSimpArgs false
theorem digit_facts (s b k : Nat) (hs : s < 18446744073709551616) (hb : b < 256) (hk : k < 8) :
    b / 2 ^ k < 256 ∧ 1 ≤ 2 ^ k ∧ 2 ^ k ≤ 128 ∧ b / 2 ^ (k + 1) = b / 2 ^ k / 2 ∧ 2 ^ (k + 1) = 2 * 2 ^ k ∧ (s ^^^ (b % 2 ^ k)) < 18446744073709551616 ∧ (s ^^^ (b % 2 ^ (k + 1))) < 18446744073709551616 := by
  have h1 : 2 ^ (k + 1) = 2 * 2 ^ k := by rw [Nat.pow_succ, Nat.mul_comm]
  have h2 := Nat.two_pow_pos k
  have h3 : 2 ^ k ≤ 2 ^ 7 := Nat.pow_le_pow_right (by omega) (by omega)
  have hl := Nat.div_le_self b (2 ^ k)
  have m1 := Nat.mod_lt b h2
  have m2 := Nat.mod_lt b (Nat.two_pow_pos (k + 1))
  have e : (2 : Nat) ^ 7 = 128 := by decide
  rw [e] at h3
  refine ⟨by omega, by omega, h3, ?_, h1, xor_lt _ _ hs (by omega), xor_lt _ _ hs (by omega)⟩
  rw [Nat.div_div_eq_div_mul, Nat.pow_succ]
theorem fadd_any (s b : Nat) (hs : s < 18446744073709551616) (hb : b < 256) (w : World) :
    Calls Try.prog 90 #[.int .u64 s, .int .u8 b] w fun e w' => e = .returned (.int .u64 (addF s b)) ∧ w' = w := by
  have h1 := bits_xor_u64_nat s b hs (by omega)
  have h2 := xor_lt s b hs (by omega)
  have hw : IntKind.u64.wrap (b : Int) = (b : Int) := by rw [IntKind.wrap_u64]; omega
  go_enter Try.func90, Try.ntmps90
  go_wp2
  go_ret
  refine ⟨ret_int ?_, rfl⟩
  rw [IntKind.wrap_u64]
  unfold addF
  generalize (s ^^^ b) = y
  omega
end Go.Proofs.Ytleicghfcffblaa
/- A text's sum: the program's and the document's. -/
namespace Go.Proofs.Ytleicghfcffblaa
open Go.RowKit
set_option maxRecDepth 20000
set_option linter.unusedVariables false
set_option linter.unusedSimpArgs false
theorem take_snoc (s : ByteArray) (k : Nat) (h : k < s.size) : s.data.toList.take (k + 1) = s.data.toList.take k ++ [s[k]] := by
  rw [List.take_succ_eq_append_getElem (by simpa using h)]; rfl
theorem sum_step (x : Nat) (s : ByteArray) (k : Nat) (h : k < s.size) : sumF x (s.data.toList.take (k + 1)) = addF (sumF x (s.data.toList.take k)) s[k].toNat := by
  rw [take_snoc s k h, sumF_snoc]
theorem sum_whole (x : Nat) (s : ByteArray) : sumF x (s.data.toList.take s.size) = sumF x s.data.toList := by
  rw [List.take_of_length_le (by simp)]
set_option maxHeartbeats 1000000 in
theorem of_any (x0 : Nat) (hx0 : x0 < 18446744073709551616) (s : ByteArray) (hs : s.size ≤ maxLen) (w : World) :
    Calls Try.prog 91 #[.agg #[.int .u64 x0, .func (.func 90) #[] #[]], .string s] w fun e w' => e = .returned (.int .u64 (sumF x0 s.data.toList)) ∧ Below w.heap.size w w' := by
  have hs' := hs
  unfold maxLen at hs
  go_enter Try.func91, Try.ntmps91
  go_wp2
  go_loopw [5, 11] (fun x i wr => ∃ k : Nat, k ≤ s.size ∧ i = .int .i64 k ∧ x = .int .u64 (sumF x0 (s.data.toList.take k) : Nat) ∧ wr.cell? ⟨w.heap.size, 1, none⟩ = some (.func (.func 90) #[] #[]) ∧ w.heap.size < wr.heap.size ∧ Below w.heap.size w wr) (fun _ i _ => s.size - (intOf i).toNat)
  case atStart => exact ⟨0, Nat.zero_le _, rfl, by rw [List.take_zero, sumF_nil], by simp [go_sem], by simp, Below.alloc (Below.refl _ _) (Nat.le_refl _) _⟩
  case round =>
    obtain ⟨k, hk, rfl, rfl, hc, hz, hbw⟩ := hrel
    by_cases hlt : k < s.size
    · have HS := Lib.hid (sum_step x0 s k hlt)
      have hx := sumF_lt (s.data.toList.take k) x0 hx0
      have hb : s[k].toNat < 256 := s[k].toNat_lt
      generalize sumF x0 (s.data.toList.take k) = x at *
      have HA := Lib.hid (fadd_any x s[k].toNat hx hb)
      go_wp2_with fail
      go_quiet ((go_at_call 90; (with_reducible refine Calls.quiet_of_same (HA.out _))))
      have hd : Below w.heap.size w (wr.drewN nq) := hbw.trans ⟨rfl, rfl, rfl, Nat.le_refl _, fun _ _ => rfl⟩
      have hc' : (wr.drewN nq).cell? ⟨w.heap.size, 1, none⟩ = some (.func (.func 90) #[] #[]) := hc
      have hz' : w.heap.size < (wr.drewN nq).heap.size := hz
      clear hc hz hbw HA
      generalize wr.drewN nq = wn at *
      go_wp2_with fail
      go_roundw
      case rel => exact ⟨k + 1, by omega, by go_num, by rw [HS.out], hc', hz', hd⟩
      case measure => simp [intOf]; omega
    · obtain rfl : k = s.size := by omega
      have HW := Lib.hid (sum_whole x0 s)
      generalize sumF x0 (s.data.toList.take s.size) = x at *
      go_wp2
      go_ret
      exact ⟨ret_int (by rw [HW.out]), hbw⟩
theorem sum_any (s : ByteArray) (hs : s.size ≤ maxLen) (w : World) :
    Calls Try.prog 85 #[.string s] w fun e w' => e = .returned (.int .u64 (sumF fSt s.data.toList)) ∧ Below w.heap.size w w' := by
  have HO := Lib.hid (fun W => of_any fSt (by decide) s hs W)
  have he : ((fSt : Nat) : Int) = 14695981039346656037 := rfl
  rw [he] at HO
  clear he
  go_enter Try.func85, Try.ntmps85
  go_wp2_with fail
  refine (HO.out _).mono ?_
  rintro y w1 ⟨rfl, hb⟩
  have HB := Lib.hid hb
  clear hb
  go_wp2_with fail
  go_ret
  exact ⟨rfl, HB.out⟩
theorem bkt_bound (x : Nat) (n : Int) (h1 : 1 ≤ n) : 0 ≤ (x : Int) % n ∧ (x : Int) % n < n := ⟨Int.emod_nonneg _ (by omega), Int.emod_lt_of_pos _ (by omega)⟩
theorem bucket_any (s : ByteArray) (hs : s.size ≤ maxLen) (n : Int) (n0 : -9223372036854775808 ≤ n) (n1 : n ≤ 9223372036854775807) (w : World) :
    Calls Try.prog 76 #[.string s, .int .i64 n] w fun e w' => e = .returned (.int .i64 (bktF (sumF fSt s.data.toList) n)) ∧ Below w.heap.size w w' := by
  have HS := Lib.hid (fun W => sum_any s hs W)
  have hx := sumF_lt s.data.toList fSt (by decide)
  generalize sumF fSt s.data.toList = x at *
  by_cases h1 : n < 1
  · have HB := Lib.hid (show bktF x n = 0 by unfold bktF; rw [if_pos h1])
    go_enter Try.func76, Try.ntmps76
    go_wp2_with fail
    go_ret
    exact ⟨ret_int HB.out.symm, Below.refl _ _⟩
  · have HB := Lib.hid (show bktF x n = (x : Int) % n by unfold bktF; rw [if_neg h1])
    have HQ := Lib.hid (bkt_bound x n (by omega))
    have hw : IntKind.u64.wrap n = n := by rw [IntKind.wrap_u64]; omega
    have hn : ¬ n = 0 := by omega
    go_enter Try.func76, Try.ntmps76
    go_wp2_with fail
    refine (HS.out _).mono ?_
    rintro y w1 ⟨rfl, hb⟩
    have HBl := Lib.hid hb
    clear hb HS
    go_wp2_with fail
    go_ret
    exact ⟨ret_int (by rw [HB.out]; have := HQ.out; unfold wrap64; omega), HBl.out⟩
end Go.Proofs.Ytleicghfcffblaa
