/- Contracts of the checks that little's scans hand on, of step and of number. -/
import Derived.Test.YtodjdeilaimjaaaC
import Derived.RegionTactic
import Derived.Handy
namespace Go.Proofs.Ytodjdeilaimjaaa
open Go.RowKit
set_option linter.unusedVariables false
def placedV (t : ByteArray) (p : Int) : Int := if 0 ≤ p ∧ p ≤ t.size then 0 else 2
def wideV (n : Int) : Int := if 1 ≤ n ∧ n ≤ 8 then 0 else 2
def countedV (n : Int) : Int := if n < 0 then 2 else 0
def leftV (t : ByteArray) (p n : Int) : Int := if wrap64 (t.size - p) < n then 3 else 0
def spentV (t : ByteArray) (p : Int) : Int := if p < t.size then 4 else 0
theorem placed_any (t : ByteArray) (p b : Int) (w : World) : Calls Try.prog 44 #[.agg #[.string t, .int .i64 p, .int .i64 b]] w fun e w' => e = .returned (.int .i64 (placedV t p)) ∧ Below w.heap.size w w' := by
  by_cases h : 0 ≤ p ∧ p ≤ t.size
  · rw [show placedV t p = 0 from if_pos h]
    exact placed_yes t p b w h.1 h.2
  · rw [show placedV t p = 2 from if_neg h]
    exact placed_no t p b w (by omega)
theorem wide_any (t : ByteArray) (p b n : Int) (w : World) : Calls Try.prog 48 #[.agg #[.string t, .int .i64 p, .int .i64 b, .int .i64 n]] w fun e w' => e = .returned (.int .i64 (wideV n)) ∧ Below w.heap.size w w' := by
  by_cases h : 1 ≤ n ∧ n ≤ 8
  · have H : Hid (wideV n = 0) := if_pos h
    go_enter Try.func48, Try.ntmps48
    go_wp2_with (go_at_call 56; refine (isw_yes _ _ (by omega) (by omega)).mono ?_; rintro e w' ⟨rfl, rfl⟩)
    go_ret
    exact ⟨ret_int H.out.symm, (Below.refl _ _).alloc (Nat.le_refl _) _⟩
  · have H : Hid (wideV n = 2) := if_neg h
    have h' : n < 1 ∨ 8 < n := by omega
    clear h
    go_enter Try.func48, Try.ntmps48
    go_wp2_with (go_at_call 56; refine (isw_no _ _ (by omega)).mono ?_; rintro e w' ⟨rfl, rfl⟩)
    go_ret
    exact ⟨ret_int H.out.symm, (Below.refl _ _).alloc (Nat.le_refl _) _⟩
theorem counted_any (t : ByteArray) (p b n : Int) (w : World) : Calls Try.prog 45 #[.agg #[.string t, .int .i64 p, .int .i64 b, .int .i64 n]] w fun e w' => e = .returned (.int .i64 (countedV n)) ∧ Below w.heap.size w w' := by
  by_cases h : n < 0
  · have H : Hid (countedV n = 2) := if_pos h
    go_enter Try.func45, Try.ntmps45
    go_wp2
    go_ret
    exact ⟨ret_int H.out.symm, (Below.refl _ _).alloc (Nat.le_refl _) _⟩
  · have H : Hid (countedV n = 0) := if_neg h
    go_enter Try.func45, Try.ntmps45
    go_wp2
    go_ret
    exact ⟨ret_int H.out.symm, (Below.refl _ _).alloc (Nat.le_refl _) _⟩
theorem left_any (t : ByteArray) (p b n : Int) (w : World) : Calls Try.prog 46 #[.agg #[.string t, .int .i64 p, .int .i64 b, .int .i64 n]] w fun e w' => e = .returned (.int .i64 (leftV t p n)) ∧ Below w.heap.size w w' := by
  by_cases h : wrap64 (t.size - p) < n
  · have H : Hid (leftV t p n = 3) := if_pos h
    go_enter Try.func46, Try.ntmps46
    go_wp2
    all_goals
      go_ret
      exact ⟨ret_int H.out.symm, (Below.refl _ _).alloc (Nat.le_refl _) _⟩
  · have H : Hid (leftV t p n = 0) := if_neg h
    go_enter Try.func46, Try.ntmps46
    go_wp2
    all_goals
      go_ret
      exact ⟨ret_int H.out.symm, (Below.refl _ _).alloc (Nat.le_refl _) _⟩
theorem step_any (t : ByteArray) (p b n : Int) (w : World) (p0 : 0 ≤ p) (n0 : 0 ≤ n) (hp : p + n ≤ t.size) (hm : t.size ≤ maxLen) :
    Calls Try.prog 47 #[.agg #[.string t, .int .i64 p, .int .i64 b], .int .i64 n] w fun e w' => e = .returned (.tuple #[.string (t.extract p.toNat (p + n).toNat), .agg #[.string t, .int .i64 (p + n), .int .i64 b]]) ∧ Below w.heap.size w w' := by
  unfold maxLen at hm
  go_enter Try.func47, Try.ntmps47
  go_wp2
  go_region
  all_goals
    go_wp2
    refine bodyPost_ret (v := .tuple #[.string (t.extract p.toNat (p + n).toNat), .agg #[.string t, .int .i64 (p + n), .int .i64 b]]) (by simp [results, Try.results47, go_sem]) rfl ⟨rfl, ?_⟩
    go_grown
/-- The number of some bytes, the least one first. -/
def numB : List UInt8 → Int
  | [] => 0
  | c :: t => c.toNat + 256 * numB t
def pow256 : Nat → Int
  | 0 => 1
  | k + 1 => 256 * pow256 k
theorem numB_bd (l : List UInt8) : 0 ≤ numB l ∧ numB l < pow256 l.length := by
  induction l with
  | nil => simp [numB, pow256]
  | cons c t ih =>
    have : c.toNat < 256 := c.toNat_lt
    simp only [numB, pow256, List.length_cons]
    omega
theorem pow256_le (k : Nat) (h : k ≤ 7) : pow256 k ≤ 72057594037927936 := by
  rcases (by omega : k = 0 ∨ k = 1 ∨ k = 2 ∨ k = 3 ∨ k = 4 ∨ k = 5 ∨ k = 6 ∨ k = 7) with rfl | rfl | rfl | rfl | rfl | rfl | rfl | rfl <;> decide
theorem byte_bd (c : UInt8) : c.toNat < 256 := c.toNat_lt
theorem or_byte (x : Int) (c : Nat) (x0 : 0 ≤ x) (x1 : x < 72057594037927936) (hc : c < 256) : bits BinOp.or IntKind.u64 (x * 256) (IntKind.u64.wrap c) = c + 256 * x := by
  rw [wrap_u64]
  rw [u64_or _ _ (by omega) (by omega) (by omega) (by omega)]
  rw [nat_join 8 _ _ (by omega) (by omega)]
  omega
theorem numB_step (l : List UInt8) (k : Nat) (h1 : 1 ≤ k) (hk : k ≤ l.length) : numB (l.drop (k - 1)) = (l[k - 1]'(by omega)).toNat + 256 * numB (l.drop k) := by
  rw [List.drop_eq_getElem_cons (by omega : k - 1 < l.length)]
  simp only [numB]
  rw [show k - 1 + 1 = k from by omega]
theorem number_any (t : ByteArray) (w : World) (h8 : t.size ≤ 8) :
    Calls Try.prog 49 #[.string t] w fun e w' => e = .returned (.int .u64 (numB t.data.toList)) ∧ w = w' := by
  go_enter Try.func49, Try.ntmps49
  go_wp2
  go_loop [3, 4] (fun x i => ∃ k : Nat, k ≤ t.size ∧ i = .int .i64 ((k : Int) - 1) ∧ x = .int .u64 (numB (t.data.toList.drop k))) (fun _ i => (intOf i + 1).toNat)
  case atStart => exact ⟨t.size, Nat.le_refl _, rfl, by rw [List.drop_of_length_le (by simp)]; rfl⟩
  case round =>
    obtain ⟨k, hk, rfl, rfl⟩ := hrel
    by_cases hlt : 1 ≤ k
    · have hbd : 0 ≤ numB (t.data.toList.drop k) ∧ numB (t.data.toList.drop k) < 72057594037927936 := by
        have := numB_bd (t.data.toList.drop k)
        have := pow256_le (t.data.toList.drop k).length (by simp; omega)
        omega
      generalize hx : numB (t.data.toList.drop k) = x at *
      have HX := Lib.hid hx; clear hx
      have hs := numB_step t.data.toList k hlt (by simpa using hk)
      rw [HX.out] at hs
      have hc : t[k - 1].toNat < 256 := byte_bd _
      have ho := or_byte x (t[k - 1].toNat) hbd.1 hbd.2 hc
      have HS := Lib.hid (ho.trans hs.symm); clear hs ho hc
      go_wp2
      refine ⟨⟨k - 1, by omega, ?_, ?_⟩, ?_⟩
      · congr 1; omega
      · exact congrArg _ HS.out
      · simp [intOf]; omega
    · obtain rfl : k = 0 := by omega
      go_wp2
      go_ret
      exact ⟨by simp, rfl⟩
end Go.Proofs.Ytodjdeilaimjaaa
