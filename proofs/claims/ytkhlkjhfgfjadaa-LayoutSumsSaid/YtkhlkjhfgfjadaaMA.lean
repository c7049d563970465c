/- Several texts, one behind the other: Num, A, B, C, D, E, F, P, W, Q, T, U. -/
import Derived.IntWalk
import Derived.Test.YtkhlkjhfgfjadaaRows
import Derived.WalkKit
import Derived.Outline
import Derived.WalkSpells
import Derived.WalkLawsBesides
import Derived.Lib.Hide
import Derived.RegionTactic
import Derived.Handy
import Derived.Deep.RegionWith
import Derived.Laws.CopyOwn
import Derived.Laws.MakeOwn
import Derived.Laws.BytesString
import Derived.Lib.SlBytesConst
import Derived.Laws.IdiomStrings
/- Plain arithmetic of numbers of n bytes (n from 1 to 8): what the two shifts of Signed and Unsigned come to. No Go in sight. -/
namespace Go.Proofs.Ytkhlkjhfgfjadaa
open Go.RowKit
set_option maxRecDepth 20000
set_option linter.unusedVariables false
/-- The number with a sign that the lowest n bytes of x stand for. -/
def sgn (x n : Int) : Int := if x % 2 ^ (8 * n).toNat < 2 ^ (8 * n - 1).toNat then x % 2 ^ (8 * n).toNat else x % 2 ^ (8 * n).toNat - 2 ^ (8 * n).toNat
/-- May v be a number with a sign of n bytes? -/
def inr (v n : Int) : Bool := decide (-(2 ^ (8 * n - 1).toNat) ≤ v) && decide (v < 2 ^ (8 * n - 1).toNat)
/-- The lowest n bytes of v. -/
def low (v n : Int) : Int := v % 2 ^ (8 * n).toNat

theorem widths {n : Int} (h0 : 1 ≤ n) (h1 : n ≤ 8) : n = 1 ∨ n = 2 ∨ n = 3 ∨ n = 4 ∨ n = 5 ∨ n = 6 ∨ n = 7 ∨ n = 8 := by omega

theorem wrap_u64 (n : Int) : IntKind.u64.wrap n = n % 18446744073709551616 := by
  simp only [IntKind.wrap, IntKind.bits, IntKind.signed, Bool.false_and, Int.reducePow]; simp
theorem shifts_signed (x n : Int) (h0 : 1 ≤ n) (h1 : n ≤ 8) :
    wrap64 (IntKind.u64.wrap (x * 2 ^ (8 * (8 - n)).toNat)) / 2 ^ (8 * (8 - n)).toNat = sgn x n := by
  unfold sgn
  rw [wrap_u64]
  unfold wrap64
  rcases widths h0 h1 with rfl | rfl | rfl | rfl | rfl | rfl | rfl | rfl <;> simp only [Int.reduceMul, Int.reduceSub, Int.reduceToNat, Int.reducePow, Int.mul_one] <;> split <;> omega

theorem shifts_low (v n : Int) (h0 : 1 ≤ n) (h1 : n ≤ 8) :
    IntKind.u64.wrap (v * 2 ^ (8 * (8 - n)).toNat) / 2 ^ (8 * (8 - n)).toNat = low v n := by
  unfold low
  rw [wrap_u64]
  rcases widths h0 h1 with rfl | rfl | rfl | rfl | rfl | rfl | rfl | rfl <;> simp only [Int.reduceMul, Int.reduceSub, Int.reduceToNat, Int.reducePow, Int.mul_one] <;> omega

theorem low_wrap (v n : Int) (h0 : 1 ≤ n) (h1 : n ≤ 8) : low (IntKind.u64.wrap v) n = low v n := by
  unfold low
  rw [wrap_u64]
  rcases widths h0 h1 with rfl | rfl | rfl | rfl | rfl | rfl | rfl | rfl <;> simp only [Int.reduceMul, Int.reduceToNat, Int.reducePow] <;> omega

theorem inr_iff (v n : Int) : inr v n = true ↔ -(2 ^ (8 * n - 1).toNat) ≤ v ∧ v < 2 ^ (8 * n - 1).toNat := by unfold inr; simp

theorem sgn_back (v n : Int) (h0 : 1 ≤ n) (h1 : n ≤ 8) (h : inr v n = true) : sgn v n = v := by
  rw [inr_iff] at h
  unfold sgn
  rcases widths h0 h1 with rfl | rfl | rfl | rfl | rfl | rfl | rfl | rfl <;> simp only [Int.reduceMul, Int.reduceSub, Int.reduceToNat, Int.reducePow] at h ⊢ <;> split <;> omega

theorem sgn_inr (x n : Int) (h0 : 1 ≤ n) (h1 : n ≤ 8) : inr (sgn x n) n = true := by
  rw [inr_iff]
  unfold sgn
  rcases widths h0 h1 with rfl | rfl | rfl | rfl | rfl | rfl | rfl | rfl <;> simp only [Int.reduceMul, Int.reduceSub, Int.reduceToNat, Int.reducePow] <;> split <;> omega

theorem sgn_low (x n : Int) : sgn (low x n) n = sgn x n := by
  unfold sgn low
  rw [Int.emod_emod_of_dvd _ (Int.dvd_refl _)]

theorem low_sgn (x n : Int) (h0 : 1 ≤ n) (h1 : n ≤ 8) : low (sgn x n) n = low x n := by
  unfold sgn low
  rcases widths h0 h1 with rfl | rfl | rfl | rfl | rfl | rfl | rfl | rfl <;> simp only [Int.reduceMul, Int.reduceSub, Int.reduceToNat, Int.reducePow] <;> split <;> omega

theorem sgn_wrap (v n : Int) (h0 : 1 ≤ n) (h1 : n ≤ 8) : sgn (IntKind.u64.wrap v) n = sgn v n := by
  rw [← sgn_low _ _, low_wrap _ _ h0 h1, sgn_low _ _]

/-- Back to the number itself, just if it may be one of n bytes. -/
theorem sgn_ne (v n : Int) (h0 : 1 ≤ n) (h1 : n ≤ 8) (h : inr v n = false) : sgn v n ≠ v := by
  intro e
  have := sgn_inr v n h0 h1
  rw [e, h] at this
  cases this

theorem low_bd (v n : Int) (h0 : 1 ≤ n) (h1 : n ≤ 8) : 0 ≤ low v n ∧ low v n ≤ 18446744073709551615 := by
  unfold low
  rcases widths h0 h1 with rfl | rfl | rfl | rfl | rfl | rfl | rfl | rfl <;> simp only [Int.reduceMul, Int.reduceToNat, Int.reducePow] <;> omega

theorem low_small (v n : Int) (h0 : 1 ≤ n) (h1 : n < 8) : low v n / 2 ^ (8 * n).toNat = 0 := by
  unfold low
  rcases widths h0 (by omega) with rfl | rfl | rfl | rfl | rfl | rfl | rfl | rfl <;> simp only [Int.reduceMul, Int.reduceToNat, Int.reducePow] <;> omega

theorem sgn_bd (v n : Int) (h0 : 1 ≤ n) (h1 : n ≤ 8) : -9223372036854775808 ≤ sgn v n ∧ sgn v n ≤ 9223372036854775807 := by
  unfold sgn
  rcases widths h0 h1 with rfl | rfl | rfl | rfl | rfl | rfl | rfl | rfl <;> simp only [Int.reduceMul, Int.reduceSub, Int.reduceToNat, Int.reducePow] <;> split <;> omega
end Go.Proofs.Ytkhlkjhfgfjadaa
/- Contracts of Signed and Unsigned, the program's and the document's own: what each answers, for every number and every number of bytes. -/
namespace Go.Proofs.Ytkhlkjhfgfjadaa
open Go.RowKit
set_option maxRecDepth 20000
set_option linter.unusedVariables false
theorem ret2 {k l : IntKind} {a b c d : Int} (h : a = b) (g : c = d) : Ending.returned (.tuple #[.int k a, .int l c]) = .returned (.tuple #[.int k b, .int l d]) := by rw [h, g]

theorem isw_yes (n : Int) (w : World) (h0 : 1 ≤ n) (h1 : n ≤ 8) : Calls Try.prog 74 #[.int .i64 n] w fun e w' => e = .returned (.bool true) ∧ w = w' := by
  go_enter Try.func74, Try.ntmps74
  go_wp2
  go_ret
  exact ⟨rfl, rfl⟩
theorem isw_no (n : Int) (w : World) (h : n < 1 ∨ 8 < n) : Calls Try.prog 74 #[.int .i64 n] w fun e w' => e = .returned (.bool false) ∧ w = w' := by
  rcases h with h | h
  · go_enter Try.func74, Try.ntmps74
    go_wp2
    go_ret
    exact ⟨rfl, rfl⟩
  · have h1 : 1 ≤ n := by omega
    have h2 : decide (n ≤ 8) = false := by simp; omega
    go_enter Try.func74, Try.ntmps74
    go_wp2
    go_ret
    exact ⟨rfl, rfl⟩
theorem signed_yes (x n : Int) (w : World) (h0 : 1 ≤ n) (h1 : n ≤ 8) : Calls Try.prog 75 #[.int .u64 x, .int .i64 n] w fun e w' => e = .returned (.tuple #[.int .i64 (sgn x n), .int .i64 0]) ∧ w = w' := by
  go_enter Try.func75, Try.ntmps75
  go_wp2_with (go_at_call 74; refine (isw_yes _ _ (by omega) (by omega)).mono ?_; rintro e w' ⟨rfl, rfl⟩)
  go_ret2
  exact ⟨ret2 (shifts_signed x n h0 h1) rfl, rfl⟩
theorem signed_no (x n : Int) (w : World) (h : n < 1 ∨ 8 < n) : Calls Try.prog 75 #[.int .u64 x, .int .i64 n] w fun e w' => e = .returned (.tuple #[.int .i64 0, .int .i64 2]) ∧ w = w' := by
  go_enter Try.func75, Try.ntmps75
  go_wp2_with (go_at_call 74; refine (isw_no _ _ (by omega)).mono ?_; rintro e w' ⟨rfl, rfl⟩)
  go_ret2
  exact ⟨rfl, rfl⟩
end Go.Proofs.Ytkhlkjhfgfjadaa
/- Contracts of the document's own Signed and Unsigned: they answer as the program's do, for every number and every number of bytes. -/
namespace Go.Proofs.Ytkhlkjhfgfjadaa
open Go.RowKit
set_option maxRecDepth 20000
set_option linter.unusedVariables false
theorem rsigned_arg (x n : Int) (w : World) (h : n < 1 ∨ 8 < n) : Calls Try.prog 72 #[.int .u64 x, .int .i64 n] w fun e w' => e = .returned (.tuple #[.int .i64 0, .int .i64 2]) ∧ w = w' := by
  rcases h with h | h
  · go_enter Try.func72, Try.ntmps72
    go_wp2
    go_ret2
    exact ⟨rfl, rfl⟩
  · have h1 : ¬ n < 1 := by omega
    go_enter Try.func72, Try.ntmps72
    go_wp2
    go_ret2
    exact ⟨rfl, rfl⟩
theorem rsigned_8 (x : Int) (w : World) : Calls Try.prog 72 #[.int .u64 x, .int .i64 8] w fun e w' => e = .returned (.tuple #[.int .i64 (sgn x 8), .int .i64 0]) ∧ w = w' := by
  have HF : Hid (wrap64 x = sgn x 8) := by
    apply Lib.hid
    unfold wrap64 sgn
    simp only [Int.reduceMul, Int.reduceSub, Int.reduceToNat, Int.reducePow]
    split <;> omega
  go_enter Try.func72, Try.ntmps72
  go_wp2
  go_ret2
  exact ⟨ret2 HF.out rfl, rfl⟩
theorem widths7 {n : Int} (h0 : 1 ≤ n) (h1 : n < 8) : n = 1 ∨ n = 2 ∨ n = 3 ∨ n = 4 ∨ n = 5 ∨ n = 6 ∨ n = 7 := by omega
set_option maxHeartbeats 1000000 in
theorem rsigned_lo (x n : Int) (w : World) (x0 : 0 ≤ x) (h0 : 1 ≤ n) (h1 : n < 8) : Calls Try.prog 72 #[.int .u64 x, .int .i64 n] w fun e w' => e = .returned (.tuple #[.int .i64 (sgn x n), .int .i64 0]) ∧ w = w' := by
  rcases widths7 h0 h1 with rfl | rfl | rfl | rfl | rfl | rfl | rfl
  all_goals
    go_enter Try.func72, Try.ntmps72
    go_wp2
    all_goals
      go_ret2
      refine ⟨ret2 ?_ rfl, rfl⟩
      unfold sgn
      simp only [Int.reduceMul, Int.reduceSub, Int.reduceToNat, Int.reducePow]
      split <;> omega
theorem rsigned_yes (x n : Int) (w : World) (x0 : 0 ≤ x) (h0 : 1 ≤ n) (h1 : n ≤ 8) : Calls Try.prog 72 #[.int .u64 x, .int .i64 n] w fun e w' => e = .returned (.tuple #[.int .i64 (sgn x n), .int .i64 0]) ∧ w = w' := by
  by_cases h : n = 8
  · subst h; exact rsigned_8 x w
  · exact rsigned_lo x n w x0 h0 (by omega)
theorem runsigned_arg (v n : Int) (w : World) (h : n < 1 ∨ 8 < n) : Calls Try.prog 58 #[.int .i64 v, .int .i64 n] w fun e w' => e = .returned (.tuple #[.int .u64 0, .int .i64 2]) ∧ w = w' := by
  rcases h with h | h
  · go_enter Try.func58, Try.ntmps58
    go_wp2
    go_ret2
    exact ⟨rfl, rfl⟩
  · have h1 : ¬ n < 1 := by omega
    go_enter Try.func58, Try.ntmps58
    go_wp2
    go_ret2
    exact ⟨rfl, rfl⟩
theorem runsigned_8 (v : Int) (w : World) (v0 : -9223372036854775808 ≤ v) (v1 : v ≤ 9223372036854775807) : Calls Try.prog 58 #[.int .i64 v, .int .i64 8] w fun e w' => e = .returned (.tuple #[.int .u64 (low v 8), .int .i64 0]) ∧ w = w' := by
  have HF : Hid (IntKind.u64.wrap v = low v 8) := by
    apply Lib.hid
    rw [wrap_u64]; unfold low
    simp only [Int.reduceMul, Int.reduceToNat, Int.reducePow]
  clear v0 v1
  go_enter Try.func58, Try.ntmps58
  go_wp2
  go_ret2
  exact ⟨ret2 HF.out rfl, rfl⟩
set_option maxHeartbeats 2000000 in
theorem runsigned_lo (v n : Int) (w : World) (h0 : 1 ≤ n) (h1 : n < 8) (h : inr v n = true) : Calls Try.prog 58 #[.int .i64 v, .int .i64 n] w fun e w' => e = .returned (.tuple #[.int .u64 (low v n), .int .i64 0]) ∧ w = w' := by
  rw [inr_iff] at h
  obtain ⟨ha, hb⟩ := h
  rcases widths7 h0 h1 with rfl | rfl | rfl | rfl | rfl | rfl | rfl
  all_goals
    simp only [Int.reduceMul, Int.reduceSub, Int.reduceToNat, Int.reducePow] at ha hb
    go_enter Try.func58, Try.ntmps58
    go_wp2
    all_goals
      go_ret2
      refine ⟨ret2 ?_ rfl, rfl⟩
      unfold low
      simp only [Int.reduceMul, Int.reduceToNat, Int.reducePow]
      omega
set_option maxHeartbeats 2000000 in
theorem runsigned_no (v n : Int) (w : World) (v0 : -9223372036854775808 ≤ v) (v1 : v ≤ 9223372036854775807) (h0 : 1 ≤ n) (h1 : n ≤ 8) (h : inr v n = false) : Calls Try.prog 58 #[.int .i64 v, .int .i64 n] w fun e w' => e = .returned (.tuple #[.int .u64 0, .int .i64 8]) ∧ w = w' := by
  have h : ¬ (-(2 ^ (8 * n - 1).toNat) ≤ v ∧ v < 2 ^ (8 * n - 1).toNat) := by rw [← inr_iff, h]; simp
  have h8 : n < 8 := by
    rcases Int.lt_or_eq_of_le h1 with g | rfl
    · exact g
    · simp only [Int.reduceMul, Int.reduceSub, Int.reduceToNat, Int.reducePow] at h; omega
  rcases widths7 h0 h8 with rfl | rfl | rfl | rfl | rfl | rfl | rfl
  all_goals
    simp only [Int.reduceMul, Int.reduceSub, Int.reduceToNat, Int.reducePow] at h
    clear v0 v1
    rcases Classical.not_and_iff_not_or_not.1 h with ha | ha
    all_goals
      clear h
      go_enter Try.func58, Try.ntmps58
      go_wp2
      go_ret2
      exact ⟨rfl, rfl⟩
theorem runsigned_yes (v n : Int) (w : World) (v0 : -9223372036854775808 ≤ v) (v1 : v ≤ 9223372036854775807) (h0 : 1 ≤ n) (h1 : n ≤ 8) (h : inr v n = true) : Calls Try.prog 58 #[.int .i64 v, .int .i64 n] w fun e w' => e = .returned (.tuple #[.int .u64 (low v n), .int .i64 0]) ∧ w = w' := by
  by_cases h8 : n = 8
  · subst h8; exact runsigned_8 v w v0 v1
  · exact runsigned_lo v n w h0 (by omega) h
end Go.Proofs.Ytkhlkjhfgfjadaa
/- Contracts of little's checks held and placed, and of first: over a row of function values that each answer a number whatever the world, first answers the first that is not 0. -/
namespace Go.Proofs.Ytkhlkjhfgfjadaa
open Go.RowKit
set_option maxRecDepth 20000
theorem held_any (t : ByteArray) (p b : Int) (w : World) : Calls Try.prog 60 #[.agg #[.string t, .int .i64 p, .int .i64 b]] w fun e w' => e = .returned (.int .i64 b) ∧ Below w.heap.size w w' := by
  go_enter Try.func60, Try.ntmps60
  go_wp2
  go_ret
  exact ⟨rfl, (Below.refl _ _).alloc (Nat.le_refl _) _⟩
theorem placed_yes (t : ByteArray) (p b : Int) (w : World) (h0 : 0 ≤ p) (h1 : p ≤ t.size) : Calls Try.prog 61 #[.agg #[.string t, .int .i64 p, .int .i64 b]] w fun e w' => e = .returned (.int .i64 0) ∧ Below w.heap.size w w' := by
  go_enter Try.func61, Try.ntmps61
  go_wp2
  go_ret
  exact ⟨rfl, (Below.refl _ _).alloc (Nat.le_refl _) _⟩
theorem placed_no (t : ByteArray) (p b : Int) (w : World) (h : p < 0 ∨ t.size < p) : Calls Try.prog 61 #[.agg #[.string t, .int .i64 p, .int .i64 b]] w fun e w' => e = .returned (.int .i64 2) ∧ Below w.heap.size w w' := by
  rcases h with h | h
  · go_enter Try.func61, Try.ntmps61
    go_wp2
    go_ret
    exact ⟨rfl, (Below.refl _ _).alloc (Nat.le_refl _) _⟩
  · have h0 : ¬ p < 0 := by omega
    go_enter Try.func61, Try.ntmps61
    go_wp2
    go_ret
    exact ⟨rfl, (Below.refl _ _).alloc (Nat.le_refl _) _⟩
/-- The first of the answers that is not 0. -/
def firstOf : List Int → Int
  | [] => 0
  | r :: t => if r = 0 then firstOf t else r
def Upto (rs : List Int) (k : Nat) : Prop := firstOf (rs.drop k) = firstOf rs
theorem firstOf_zero (rs : List Int) (k : Nat) (h : k < rs.length) (hz : rs.getD k 0 = 0) : firstOf (rs.drop (k + 1)) = firstOf (rs.drop k) := by
  rw [List.drop_eq_getElem_cons h]
  have : rs[k] = 0 := by simpa [h] using hz
  simp [firstOf, this]
theorem firstOf_hit (rs : List Int) (k : Nat) (h : k < rs.length) (hz : rs.getD k 0 ≠ 0) : rs.getD k 0 = firstOf (rs.drop k) := by
  rw [List.drop_eq_getElem_cons h]
  have e : rs.getD k 0 = rs[k] := by simp [h]
  rw [e] at hz ⊢
  simp [firstOf, hz]
/-- The i-th check, at its cell, answers r, whatever the world. -/
def Asks (w : World) (b i : Nat) (r : Int) : Prop := ∃ f caps, w.cell? ⟨b, i, none⟩ = some (.func (.func f) caps #[]) ∧ (∀ W, Sem.run Try.prog (callFunc f caps) W = .ok (.enter f caps) W) ∧ ∀ W, Calls Try.prog f caps W fun e W' => e = .returned (.int .i64 r) ∧ Below W.heap.size W W'
theorem ret_int {k : IntKind} {a b : Int} (h : a = b) : Ending.returned (.int k a) = .returned (.int k b) := by rw [h]
theorem first_any (b len : Nat) (rs : List Int) (w : World) (hb : b < w.heap.size) (hl : rs.length = len) (hm : len ≤ 4) (hA : ∀ i, i < len → Asks w b i (rs.getD i 0)) :
    Calls Try.prog 59 #[.slice (some ⟨b, 0, none⟩) len len] w fun e w' => e = .returned (.int .i64 (firstOf rs)) ∧ Below w.heap.size w w' := by
  have HA := Lib.hid hA; clear hA
  have HL := Lib.hid hl; clear hl
  go_enter Try.func59, Try.ntmps59
  go_wp2
  go_loopw [8] (fun i wr => ∃ k : Nat, k ≤ len ∧ i = .int .i64 k ∧ Upto rs k ∧ Below w.heap.size w wr) (fun i _ => len - (intOf i).toNat)
  case atStart => exact ⟨0, Nat.zero_le _, rfl, by simp [Upto], Below.refl _ _⟩
  case round =>
    obtain ⟨k, hk, rfl, hu, hbw⟩ := hrel
    by_cases hlt : k < len
    · obtain ⟨f, caps, hcell, hrun, hc⟩ := HA.out k hlt
      have hcell' := (hbw.cell (p := ⟨b, k, none⟩) hb).trans hcell
      clear hcell
      have HC := Lib.hid hc; clear hc
      by_cases hz : rs.getD k 0 = 0
      · have hU : Upto rs (k + 1) := (firstOf_zero rs k (by rw [HL.out]; exact hlt) hz).trans hu
        have hz' : (rs.getD k 0 != 0) = false := by simp only [hz]; rfl
        have HZ := Lib.hid hz; clear hz
        generalize rs.getD k 0 = r at *
        go_wp2_with (with_reducible (refine (HC.out _).mono ?_); rintro e w1 ⟨rfl, hb1⟩)
        go_roundw
        case rel => exact ⟨k + 1, by omega, by go_num, hU, hbw.trans (hb1.mono hbw.size)⟩
        case measure => simp [intOf]; omega
      · have hU : rs.getD k 0 = firstOf rs := (firstOf_hit rs k (by rw [HL.out]; exact hlt) hz).trans hu
        have hz' : (rs.getD k 0 != 0) = true := by simp only [bne_iff_ne, ne_eq]; exact hz
        have HU := Lib.hid hU; clear hU
        clear hz
        generalize rs.getD k 0 = r at *
        go_wp2_with (with_reducible (refine (HC.out _).mono ?_); rintro e w1 ⟨rfl, hb1⟩)
        go_ret
        exact ⟨ret_int HU.out, hbw.trans (hb1.mono hbw.size)⟩
    · obtain rfl : k = len := by omega
      go_wp2
      go_ret
      refine ⟨ret_int ?_, hbw⟩
      rw [← hu, ← HL.out, List.drop_length]; rfl
end Go.Proofs.Ytkhlkjhfgfjadaa
/- Contracts of the checks that little's scans hand on, of step and of number. -/
namespace Go.Proofs.Ytkhlkjhfgfjadaa
open Go.RowKit
set_option maxRecDepth 20000
set_option linter.unusedVariables false
def placedV (t : ByteArray) (p : Int) : Int := if 0 ≤ p ∧ p ≤ t.size then 0 else 2
def wideV (n : Int) : Int := if 1 ≤ n ∧ n ≤ 8 then 0 else 2
def countedV (n : Int) : Int := if n < 0 then 2 else 0
def leftV (t : ByteArray) (p n : Int) : Int := if wrap64 (t.size - p) < n then 3 else 0
def spentV (t : ByteArray) (p : Int) : Int := if p < t.size then 4 else 0
theorem placed_any (t : ByteArray) (p b : Int) (w : World) : Calls Try.prog 61 #[.agg #[.string t, .int .i64 p, .int .i64 b]] w fun e w' => e = .returned (.int .i64 (placedV t p)) ∧ Below w.heap.size w w' := by
  by_cases h : 0 ≤ p ∧ p ≤ t.size
  · rw [show placedV t p = 0 from if_pos h]
    exact placed_yes t p b w h.1 h.2
  · rw [show placedV t p = 2 from if_neg h]
    exact placed_no t p b w (by omega)
theorem wide_any (t : ByteArray) (p b n : Int) (w : World) : Calls Try.prog 65 #[.agg #[.string t, .int .i64 p, .int .i64 b, .int .i64 n]] w fun e w' => e = .returned (.int .i64 (wideV n)) ∧ Below w.heap.size w w' := by
  by_cases h : 1 ≤ n ∧ n ≤ 8
  · have H : Hid (wideV n = 0) := if_pos h
    go_enter Try.func65, Try.ntmps65
    go_wp2_with (go_at_call 74; refine (isw_yes _ _ (by omega) (by omega)).mono ?_; rintro e w' ⟨rfl, rfl⟩)
    go_ret
    exact ⟨ret_int H.out.symm, (Below.refl _ _).alloc (Nat.le_refl _) _⟩
  · have H : Hid (wideV n = 2) := if_neg h
    have h' : n < 1 ∨ 8 < n := by omega
    clear h
    go_enter Try.func65, Try.ntmps65
    go_wp2_with (go_at_call 74; refine (isw_no _ _ (by omega)).mono ?_; rintro e w' ⟨rfl, rfl⟩)
    go_ret
    exact ⟨ret_int H.out.symm, (Below.refl _ _).alloc (Nat.le_refl _) _⟩
theorem counted_any (t : ByteArray) (p b n : Int) (w : World) : Calls Try.prog 62 #[.agg #[.string t, .int .i64 p, .int .i64 b, .int .i64 n]] w fun e w' => e = .returned (.int .i64 (countedV n)) ∧ Below w.heap.size w w' := by
  by_cases h : n < 0
  · have H : Hid (countedV n = 2) := if_pos h
    go_enter Try.func62, Try.ntmps62
    go_wp2
    go_ret
    exact ⟨ret_int H.out.symm, (Below.refl _ _).alloc (Nat.le_refl _) _⟩
  · have H : Hid (countedV n = 0) := if_neg h
    go_enter Try.func62, Try.ntmps62
    go_wp2
    go_ret
    exact ⟨ret_int H.out.symm, (Below.refl _ _).alloc (Nat.le_refl _) _⟩
theorem left_any (t : ByteArray) (p b n : Int) (w : World) : Calls Try.prog 63 #[.agg #[.string t, .int .i64 p, .int .i64 b, .int .i64 n]] w fun e w' => e = .returned (.int .i64 (leftV t p n)) ∧ Below w.heap.size w w' := by
  by_cases h : wrap64 (t.size - p) < n
  · have H : Hid (leftV t p n = 3) := if_pos h
    go_enter Try.func63, Try.ntmps63
    go_wp2
    all_goals
      go_ret
      exact ⟨ret_int H.out.symm, (Below.refl _ _).alloc (Nat.le_refl _) _⟩
  · have H : Hid (leftV t p n = 0) := if_neg h
    go_enter Try.func63, Try.ntmps63
    go_wp2
    all_goals
      go_ret
      exact ⟨ret_int H.out.symm, (Below.refl _ _).alloc (Nat.le_refl _) _⟩
theorem step_any (t : ByteArray) (p b n : Int) (w : World) (p0 : 0 ≤ p) (n0 : 0 ≤ n) (hp : p + n ≤ t.size) (hm : t.size ≤ maxLen) :
    Calls Try.prog 64 #[.agg #[.string t, .int .i64 p, .int .i64 b], .int .i64 n] w fun e w' => e = .returned (.tuple #[.string (t.extract p.toNat (p + n).toNat), .agg #[.string t, .int .i64 (p + n), .int .i64 b]]) ∧ Below w.heap.size w w' := by
  unfold maxLen at hm
  go_enter Try.func64, Try.ntmps64
  go_wp2
  go_region
  all_goals
    go_wp2
    refine bodyPost_ret (v := .tuple #[.string (t.extract p.toNat (p + n).toNat), .agg #[.string t, .int .i64 (p + n), .int .i64 b]]) (by simp [results, Try.results64, go_sem]) rfl ⟨rfl, ?_⟩
    go_grown
/-- The number of some bytes, the least one first. -/
def numB : List UInt8 → Int
  | [] => 0
  | c :: t => c.toNat + 256 * numB t
def pow256 : Nat → Int
  | 0 => 1
  | k + 1 => 256 * pow256 k
theorem numB_bd (l : List UInt8) : 0 ≤ numB l ∧ numB l < pow256 l.length := by
  induction l with
  | nil => simp [numB, pow256]
  | cons c t ih =>
    have : c.toNat < 256 := c.toNat_lt
    simp only [numB, pow256, List.length_cons]
    omega
theorem pow256_le (k : Nat) (h : k ≤ 7) : pow256 k ≤ 72057594037927936 := by
  rcases (by omega : k = 0 ∨ k = 1 ∨ k = 2 ∨ k = 3 ∨ k = 4 ∨ k = 5 ∨ k = 6 ∨ k = 7) with rfl | rfl | rfl | rfl | rfl | rfl | rfl | rfl <;> decide
theorem byte_bd (c : UInt8) : c.toNat < 256 := c.toNat_lt
theorem or_byte (x : Int) (c : Nat) (x0 : 0 ≤ x) (x1 : x < 72057594037927936) (hc : c < 256) : bits BinOp.or IntKind.u64 (x * 256) (IntKind.u64.wrap c) = c + 256 * x := by
  rw [wrap_u64]
  rw [u64_or _ _ (by omega) (by omega) (by omega) (by omega)]
  rw [nat_join 8 _ _ (by omega) (by omega)]
  omega
theorem numB_step (l : List UInt8) (k : Nat) (h1 : 1 ≤ k) (hk : k ≤ l.length) : numB (l.drop (k - 1)) = (l[k - 1]'(by omega)).toNat + 256 * numB (l.drop k) := by
  rw [List.drop_eq_getElem_cons (by omega : k - 1 < l.length)]
  simp only [numB]
  rw [show k - 1 + 1 = k from by omega]
theorem number_any (t : ByteArray) (w : World) (h8 : t.size ≤ 8) :
    Calls Try.prog 66 #[.string t] w fun e w' => e = .returned (.int .u64 (numB t.data.toList)) ∧ w = w' := by
  go_enter Try.func66, Try.ntmps66
  go_wp2
  go_loop [3, 4] (fun x i => ∃ k : Nat, k ≤ t.size ∧ i = .int .i64 ((k : Int) - 1) ∧ x = .int .u64 (numB (t.data.toList.drop k))) (fun _ i => (intOf i + 1).toNat)
  case atStart => exact ⟨t.size, Nat.le_refl _, rfl, by rw [List.drop_of_length_le (by simp)]; rfl⟩
  case round =>
    obtain ⟨k, hk, rfl, rfl⟩ := hrel
    by_cases hlt : 1 ≤ k
    · have hbd : 0 ≤ numB (t.data.toList.drop k) ∧ numB (t.data.toList.drop k) < 72057594037927936 := by
        have := numB_bd (t.data.toList.drop k)
        have := pow256_le (t.data.toList.drop k).length (by simp; omega)
        omega
      generalize hx : numB (t.data.toList.drop k) = x at *
      have HX := Lib.hid hx; clear hx
      have hs := numB_step t.data.toList k hlt (by simpa using hk)
      rw [HX.out] at hs
      have hc : t[k - 1].toNat < 256 := byte_bd _
      have ho := or_byte x (t[k - 1].toNat) hbd.1 hbd.2 hc
      have HS := Lib.hid (ho.trans hs.symm); clear hs ho hc
      go_wp2
      refine ⟨⟨k - 1, by omega, ?_, ?_⟩, ?_⟩
      · congr 1; omega
      · exact congrArg _ HS.out
      · simp [intOf]; omega
    · obtain rfl : k = 0 := by omega
      go_wp2
      go_ret
      exact ⟨by simp, rfl⟩
end Go.Proofs.Ytkhlkjhfgfjadaa
/- Contracts of little's Num and of first at the rows that Num, Bytes, Rest and End hand it, for every scan and every number. -/
namespace Go.Proofs.Ytkhlkjhfgfjadaa
open Go.RowKit
set_option maxRecDepth 20000
set_option linter.unusedVariables false
theorem asks_held (w : World) (b i : Nat) (t : ByteArray) (p q : Int) (h : w.cell? ⟨b, i, none⟩ = some (.func (.func 60) #[.agg #[.string t, .int .i64 p, .int .i64 q]] #[])) : Asks w b i q :=
  ⟨60, _, h, fun _ => by kernel_rfl, fun W => held_any t p q W⟩
theorem asks_placed (w : World) (b i : Nat) (t : ByteArray) (p q : Int) (h : w.cell? ⟨b, i, none⟩ = some (.func (.func 61) #[.agg #[.string t, .int .i64 p, .int .i64 q]] #[])) : Asks w b i (placedV t p) :=
  ⟨61, _, h, fun _ => by kernel_rfl, fun W => placed_any t p q W⟩
theorem asks_wide (w : World) (b i : Nat) (t : ByteArray) (p q n : Int) (h : w.cell? ⟨b, i, none⟩ = some (.func (.func 65) #[.agg #[.string t, .int .i64 p, .int .i64 q, .int .i64 n]] #[])) : Asks w b i (wideV n) :=
  ⟨65, _, h, fun _ => by kernel_rfl, fun W => wide_any t p q n W⟩
theorem asks_left (w : World) (b i : Nat) (t : ByteArray) (p q n : Int) (h : w.cell? ⟨b, i, none⟩ = some (.func (.func 63) #[.agg #[.string t, .int .i64 p, .int .i64 q, .int .i64 n]] #[])) : Asks w b i (leftV t p n) :=
  ⟨63, _, h, fun _ => by kernel_rfl, fun W => left_any t p q n W⟩
theorem asks_counted (w : World) (b i : Nat) (t : ByteArray) (p q n : Int) (h : w.cell? ⟨b, i, none⟩ = some (.func (.func 62) #[.agg #[.string t, .int .i64 p, .int .i64 q, .int .i64 n]] #[])) : Asks w b i (countedV n) :=
  ⟨62, _, h, fun _ => by kernel_rfl, fun W => counted_any t p q n W⟩
theorem cell_new (W : World) (b : Nat) (cs : Array Value) (T : TypeId) (hb : b = W.heap.size) (i : Nat) (v : Value) (h : cs[i]? = some v) : (W.alloc (.cells cs T)).cell? ⟨b, i, none⟩ = some v := by
  rw [World.cell?_alloc_at _ _ _ _ hb]; exact h
theorem bcell {B : Nat} {W w1 : World} (hb : Below B W w1) : (∀ b o, b < B → w1.cell? ⟨b, o, none⟩ = W.cell? ⟨b, o, none⟩) ∧ (∀ b o, b < B → w1.frozen? ⟨b, o, none⟩ = W.frozen? ⟨b, o, none⟩) :=
  ⟨fun b o h => hb.cell (p := ⟨b, o, none⟩) h, fun b o h => hb.frozen (p := ⟨b, o, none⟩) h⟩
def scanV (t : ByteArray) (p q : Int) : Value := .agg #[.string t, .int .i64 p, .int .i64 q]
def wishV (t : ByteArray) (p q n : Int) : Value := .agg #[.string t, .int .i64 p, .int .i64 q, .int .i64 n]
def numBad (t : ByteArray) (p q n : Int) : Int := firstOf [q, placedV t p, wideV n, leftV t p n]
def bytesBad (t : ByteArray) (p q n : Int) : Int := firstOf [q, placedV t p, countedV n, leftV t p n]
def restBad (t : ByteArray) (p q : Int) : Int := firstOf [q, placedV t p]
def endV (t : ByteArray) (p q : Int) : Int := firstOf [q, placedV t p, spentV t p]
theorem first_num (W : World) (b : Nat) (hb : b = W.heap.size) (t : ByteArray) (p q n : Int) :
    Calls Try.prog 59 #[.slice (some ⟨b, 0, none⟩) 4 4] (W.alloc (.cells #[.func (.func 60) #[.agg #[.string t, .int .i64 p, .int .i64 q]] #[], .func (.func 61) #[.agg #[.string t, .int .i64 p, .int .i64 q]] #[], .func (.func 65) #[.agg #[.string t, .int .i64 p, .int .i64 q, .int .i64 n]] #[], .func (.func 63) #[.agg #[.string t, .int .i64 p, .int .i64 q, .int .i64 n]] #[]] 111))
      fun e w' => e = .returned (.int .i64 (numBad t p q n)) ∧ Below (b + 1) (W.alloc (.cells #[.func (.func 60) #[.agg #[.string t, .int .i64 p, .int .i64 q]] #[], .func (.func 61) #[.agg #[.string t, .int .i64 p, .int .i64 q]] #[], .func (.func 65) #[.agg #[.string t, .int .i64 p, .int .i64 q, .int .i64 n]] #[], .func (.func 63) #[.agg #[.string t, .int .i64 p, .int .i64 q, .int .i64 n]] #[]] 111)) w' := by
  refine (first_any b 4 [q, placedV t p, wideV n, leftV t p n] _ (by rw [World.size_alloc]; omega) rfl (by omega) ?_).mono ?_
  · intro i hi
    rcases (by omega : i = 0 ∨ i = 1 ∨ i = 2 ∨ i = 3) with rfl | rfl | rfl | rfl
    · exact asks_held _ _ _ t p q (cell_new _ _ _ _ hb _ _ rfl)
    · exact asks_placed _ _ _ t p q (cell_new _ _ _ _ hb _ _ rfl)
    · exact asks_wide _ _ _ t p q n (cell_new _ _ _ _ hb _ _ rfl)
    · exact asks_left _ _ _ t p q n (cell_new _ _ _ _ hb _ _ rfl)
  · rintro e w' ⟨rfl, h⟩
    exact ⟨rfl, h.mono (by rw [World.size_alloc]; omega)⟩
theorem first_bytes (W : World) (b : Nat) (hb : b = W.heap.size) (t : ByteArray) (p q n : Int) :
    Calls Try.prog 59 #[.slice (some ⟨b, 0, none⟩) 4 4] (W.alloc (.cells #[.func (.func 60) #[.agg #[.string t, .int .i64 p, .int .i64 q]] #[], .func (.func 61) #[.agg #[.string t, .int .i64 p, .int .i64 q]] #[], .func (.func 62) #[.agg #[.string t, .int .i64 p, .int .i64 q, .int .i64 n]] #[], .func (.func 63) #[.agg #[.string t, .int .i64 p, .int .i64 q, .int .i64 n]] #[]] 111))
      fun e w' => e = .returned (.int .i64 (bytesBad t p q n)) ∧ Below (b + 1) (W.alloc (.cells #[.func (.func 60) #[.agg #[.string t, .int .i64 p, .int .i64 q]] #[], .func (.func 61) #[.agg #[.string t, .int .i64 p, .int .i64 q]] #[], .func (.func 62) #[.agg #[.string t, .int .i64 p, .int .i64 q, .int .i64 n]] #[], .func (.func 63) #[.agg #[.string t, .int .i64 p, .int .i64 q, .int .i64 n]] #[]] 111)) w' := by
  refine (first_any b 4 [q, placedV t p, countedV n, leftV t p n] _ (by rw [World.size_alloc]; omega) rfl (by omega) ?_).mono ?_
  · intro i hi
    rcases (by omega : i = 0 ∨ i = 1 ∨ i = 2 ∨ i = 3) with rfl | rfl | rfl | rfl
    · exact asks_held _ _ _ t p q (cell_new _ _ _ _ hb _ _ rfl)
    · exact asks_placed _ _ _ t p q (cell_new _ _ _ _ hb _ _ rfl)
    · exact asks_counted _ _ _ t p q n (cell_new _ _ _ _ hb _ _ rfl)
    · exact asks_left _ _ _ t p q n (cell_new _ _ _ _ hb _ _ rfl)
  · rintro e w' ⟨rfl, h⟩
    exact ⟨rfl, h.mono (by rw [World.size_alloc]; omega)⟩
theorem first_rest (W : World) (b : Nat) (hb : b = W.heap.size) (t : ByteArray) (p q : Int) :
    Calls Try.prog 59 #[.slice (some ⟨b, 0, none⟩) 2 2] (W.alloc (.cells #[.func (.func 60) #[.agg #[.string t, .int .i64 p, .int .i64 q]] #[], .func (.func 61) #[.agg #[.string t, .int .i64 p, .int .i64 q]] #[]] 111))
      fun e w' => e = .returned (.int .i64 (restBad t p q)) ∧ Below (b + 1) (W.alloc (.cells #[.func (.func 60) #[.agg #[.string t, .int .i64 p, .int .i64 q]] #[], .func (.func 61) #[.agg #[.string t, .int .i64 p, .int .i64 q]] #[]] 111)) w' := by
  refine (first_any b 2 [q, placedV t p] _ (by rw [World.size_alloc]; omega) rfl (by omega) ?_).mono ?_
  · intro i hi
    rcases (by omega : i = 0 ∨ i = 1) with rfl | rfl
    · exact asks_held _ _ _ t p q (cell_new _ _ _ _ hb _ _ rfl)
    · exact asks_placed _ _ _ t p q (cell_new _ _ _ _ hb _ _ rfl)
  · rintro e w' ⟨rfl, h⟩
    exact ⟨rfl, h.mono (by rw [World.size_alloc]; omega)⟩
theorem num_no (t : ByteArray) (p q n : Int) (w : World) (h : numBad t p q n ≠ 0) : Calls Try.prog 43 #[.agg #[.string t, .int .i64 p, .int .i64 q], .int .i64 n] w
    fun e w' => e = .returned (.tuple #[.int .u64 0, .agg #[.string t, .int .i64 p, .int .i64 (numBad t p q n)]]) ∧ Below w.heap.size w w' := by
  have hne : (numBad t p q n != 0) = true := by simp only [bne_iff_ne, ne_eq]; exact h
  clear h
  go_enter Try.func43, Try.ntmps43
  go_wp2_with fail
  refine (first_num _ _ (by simp) t p q n).mono ?_
  rintro e w1 ⟨rfl, hb⟩
  have hz : w.heap.size + 4 ≤ w1.heap.size := by have := hb.size; simp at this; omega
  have hbw : Below w.heap.size w w1 := Below.trans (by go_grown) (hb.mono (by omega))
  have c0 : w1.cell? ⟨w.heap.size, 0, none⟩ = some (.string t) := ((bcell hb).1 _ _ (by omega)).trans (by simp [go_sem])
  have c1 : w1.cell? ⟨w.heap.size, 1, none⟩ = some (.int .i64 p) := ((bcell hb).1 _ _ (by omega)).trans (by simp [go_sem])
  have c2 : w1.cell? ⟨w.heap.size, 2, none⟩ = some (.int .i64 q) := ((bcell hb).1 _ _ (by omega)).trans (by simp [go_sem])
  have c3 : w1.cell? ⟨w.heap.size + 1, 0, none⟩ = some (.string { data := #[] }) := ((bcell hb).1 _ _ (by omega)).trans (by simp [go_sem])
  have c4 : w1.cell? ⟨w.heap.size + 1, 1, none⟩ = some (.int .i64 0) := ((bcell hb).1 _ _ (by omega)).trans (by simp [go_sem])
  have c5 : w1.cell? ⟨w.heap.size + 1, 2, none⟩ = some (.int .i64 0) := ((bcell hb).1 _ _ (by omega)).trans (by simp [go_sem])
  have f0 : ∀ o, w1.frozen? ⟨w.heap.size, o, none⟩ = false := fun o => ((bcell hb).2 _ _ (by omega)).trans (by simp [go_sem])
  have f1 : ∀ o, w1.frozen? ⟨w.heap.size + 1, o, none⟩ = false := fun o => ((bcell hb).2 _ _ (by omega)).trans (by simp [go_sem])
  clear hb
  obtain ⟨r, hr⟩ : ∃ r, numBad t p q n = r := ⟨_, rfl⟩
  have HR := Lib.hid hr
  rw [hr] at hne ⊢
  clear hr
  go_wp2_with fail
  go_region
  go_wp2
  refine bodyPost_ret (v := .tuple #[.int .u64 0, .agg #[.string t, .int .i64 p, .int .i64 r]]) (by simp [results, Try.results43, go_sem, c3, c4, c5]) rfl ⟨by rw [HR.out], ?_⟩
  go_grown
set_option maxHeartbeats 1000000 in
theorem num_yes (t : ByteArray) (p n : Int) (w : World) (hm : t.size ≤ maxLen) (h : numBad t p 0 n = 0) (p0 : 0 ≤ p) (n0 : 1 ≤ n) (n1 : n ≤ 8) (hp : p + n ≤ t.size) : Calls Try.prog 43 #[.agg #[.string t, .int .i64 p, .int .i64 0], .int .i64 n] w
    fun e w' => e = .returned (.tuple #[.int .u64 (numB (t.extract p.toNat (p + n).toNat).data.toList), .agg #[.string t, .int .i64 (p + n), .int .i64 0]]) ∧ Below w.heap.size w w' := by
  have H := Lib.hid h; clear h
  have HM := Lib.hid hm; clear hm
  go_enter Try.func43, Try.ntmps43
  go_wp2_with fail
  refine (first_num _ _ (by simp) t p 0 n).mono ?_
  rintro e w1 ⟨rfl, hb⟩
  have hz : w.heap.size + 4 ≤ w1.heap.size := by have := hb.size; simp at this; omega
  have hbw : Below w.heap.size w w1 := Below.trans (by go_grown) (hb.mono (by omega))
  have c0 : w1.cell? ⟨w.heap.size, 0, none⟩ = some (.string t) := ((bcell hb).1 _ _ (by omega)).trans (by simp [go_sem])
  have c1 : w1.cell? ⟨w.heap.size, 1, none⟩ = some (.int .i64 p) := ((bcell hb).1 _ _ (by omega)).trans (by simp [go_sem])
  have c2 : w1.cell? ⟨w.heap.size, 2, none⟩ = some (.int .i64 0) := ((bcell hb).1 _ _ (by omega)).trans (by simp [go_sem])
  have c3 : w1.cell? ⟨w.heap.size + 1, 0, none⟩ = some (.string { data := #[] }) := ((bcell hb).1 _ _ (by omega)).trans (by simp [go_sem])
  have c4 : w1.cell? ⟨w.heap.size + 1, 1, none⟩ = some (.int .i64 0) := ((bcell hb).1 _ _ (by omega)).trans (by simp [go_sem])
  have c5 : w1.cell? ⟨w.heap.size + 1, 2, none⟩ = some (.int .i64 0) := ((bcell hb).1 _ _ (by omega)).trans (by simp [go_sem])
  have f0 : ∀ o, w1.frozen? ⟨w.heap.size, o, none⟩ = false := fun o => ((bcell hb).2 _ _ (by omega)).trans (by simp [go_sem])
  have f1 : ∀ o, w1.frozen? ⟨w.heap.size + 1, o, none⟩ = false := fun o => ((bcell hb).2 _ _ (by omega)).trans (by simp [go_sem])
  clear hb
  rw [H.out]
  go_wp2_with fail
  refine (step_any t p 0 n _ (by omega) (by omega) (by omega) HM.out).mono ?_
  rintro e w2 ⟨rfl, hb⟩
  have hz2 : w1.heap.size ≤ w2.heap.size := by have := hb.size; rw [World.size_setCell] at this; exact this
  have hbw2 : Below w.heap.size w w2 := Below.trans (by go_grown) (hb.mono (by rw [World.size_setCell]; omega))
  have d0 : w2.cell? ⟨w.heap.size, 0, none⟩ = some (.string t) := ((bcell hb).1 _ _ (by rw [World.size_setCell]; omega)).trans (by simp [go_sem, c0])
  have d1 : w2.cell? ⟨w.heap.size, 1, none⟩ = some (.int .i64 p) := ((bcell hb).1 _ _ (by rw [World.size_setCell]; omega)).trans (by simp [go_sem, c1])
  have d2 : w2.cell? ⟨w.heap.size, 2, none⟩ = some (.int .i64 0) := ((bcell hb).1 _ _ (by rw [World.size_setCell]; omega)).trans (by simp [go_sem, c2])
  have d3 : w2.cell? ⟨w.heap.size + 1, 0, none⟩ = some (.string { data := #[] }) := ((bcell hb).1 _ _ (by rw [World.size_setCell]; omega)).trans (by simp [go_sem, c3])
  have d4 : w2.cell? ⟨w.heap.size + 1, 1, none⟩ = some (.int .i64 0) := ((bcell hb).1 _ _ (by rw [World.size_setCell]; omega)).trans (by simp [go_sem, c4])
  have d5 : w2.cell? ⟨w.heap.size + 1, 2, none⟩ = some (.int .i64 0) := ((bcell hb).1 _ _ (by rw [World.size_setCell]; omega)).trans (by simp [go_sem, c5])
  have g0 : ∀ o, w2.frozen? ⟨w.heap.size, o, none⟩ = false := fun o => ((bcell hb).2 _ _ (by rw [World.size_setCell]; omega)).trans (by simp [go_sem, f0])
  have g1 : ∀ o, w2.frozen? ⟨w.heap.size + 1, o, none⟩ = false := fun o => ((bcell hb).2 _ _ (by rw [World.size_setCell]; omega)).trans (by simp [go_sem, f1])
  clear hb c0 c1 c2 c3 c4 c5 f0 f1 hbw
  have hx : (t.extract p.toNat (p + n).toNat).size ≤ 8 := by simp; omega
  obtain ⟨x, he⟩ : ∃ x, t.extract p.toNat (p + n).toNat = x := ⟨_, rfl⟩
  rw [he] at hx ⊢
  have HE := Lib.hid he; clear he
  go_wp2_with fail
  go_region_with (go_at_call 66; refine (number_any x _ hx).mono ?_; rintro e w' ⟨rfl, rfl⟩)
  all_goals
    go_wp2
    refine bodyPost_ret (v := .tuple #[.int .u64 (numB x.data.toList), .agg #[.string t, .int .i64 (p + n), .int .i64 0]]) (by simp [results, Try.results43, go_sem, d3, d4, d5]) rfl ⟨by rw [HE.out], ?_⟩
    go_grown
end Go.Proofs.Ytkhlkjhfgfjadaa
/- Contracts of little's Bytes, Rest and End, for every scan and every number. -/
namespace Go.Proofs.Ytkhlkjhfgfjadaa
open Go.RowKit
set_option maxRecDepth 20000
set_option linter.unusedVariables false
theorem ret_str {a b : ByteArray} (h : a = b) : Ending.returned (.string a) = .returned (.string b) := by rw [h]
theorem bytes_no (t : ByteArray) (p q n : Int) (w : World) (h : bytesBad t p q n ≠ 0) : Calls Try.prog 42 #[.agg #[.string t, .int .i64 p, .int .i64 q], .int .i64 n] w
    fun e w' => e = .returned (.tuple #[.string { data := #[] }, .agg #[.string t, .int .i64 p, .int .i64 (bytesBad t p q n)]]) ∧ Below w.heap.size w w' := by
  have hne : (bytesBad t p q n != 0) = true := by simp only [bne_iff_ne, ne_eq]; exact h
  clear h
  go_enter Try.func42, Try.ntmps42
  go_wp2_with fail
  refine (first_bytes _ _ (by simp) t p q n).mono ?_
  rintro e w1 ⟨rfl, hb⟩
  have hz : w.heap.size + 4 ≤ w1.heap.size := by have := hb.size; simp at this; omega
  have hbw : Below w.heap.size w w1 := Below.trans (by go_grown) (hb.mono (by omega))
  have c0 : w1.cell? ⟨w.heap.size, 0, none⟩ = some (.string t) := ((bcell hb).1 _ _ (by omega)).trans (by simp [go_sem])
  have c1 : w1.cell? ⟨w.heap.size, 1, none⟩ = some (.int .i64 p) := ((bcell hb).1 _ _ (by omega)).trans (by simp [go_sem])
  have c2 : w1.cell? ⟨w.heap.size, 2, none⟩ = some (.int .i64 q) := ((bcell hb).1 _ _ (by omega)).trans (by simp [go_sem])
  have c3 : w1.cell? ⟨w.heap.size + 1, 0, none⟩ = some (.string { data := #[] }) := ((bcell hb).1 _ _ (by omega)).trans (by simp [go_sem])
  have c4 : w1.cell? ⟨w.heap.size + 1, 1, none⟩ = some (.int .i64 0) := ((bcell hb).1 _ _ (by omega)).trans (by simp [go_sem])
  have c5 : w1.cell? ⟨w.heap.size + 1, 2, none⟩ = some (.int .i64 0) := ((bcell hb).1 _ _ (by omega)).trans (by simp [go_sem])
  have f0 : ∀ o, w1.frozen? ⟨w.heap.size, o, none⟩ = false := fun o => ((bcell hb).2 _ _ (by omega)).trans (by simp [go_sem])
  have f1 : ∀ o, w1.frozen? ⟨w.heap.size + 1, o, none⟩ = false := fun o => ((bcell hb).2 _ _ (by omega)).trans (by simp [go_sem])
  clear hb
  obtain ⟨r, hr⟩ : ∃ r, bytesBad t p q n = r := ⟨_, rfl⟩
  have HR := Lib.hid hr
  rw [hr] at hne ⊢
  clear hr
  go_wp2_with fail
  go_region
  go_wp2
  refine bodyPost_ret (v := .tuple #[.string { data := #[] }, .agg #[.string t, .int .i64 p, .int .i64 r]]) (by simp [results, Try.results42, go_sem, c3, c4, c5]) rfl ⟨by rw [HR.out], ?_⟩
  go_grown
theorem bytes_yes (t : ByteArray) (p n : Int) (w : World) (hm : t.size ≤ maxLen) (h : bytesBad t p 0 n = 0) (p0 : 0 ≤ p) (n0 : 0 ≤ n) (hp : p + n ≤ t.size) : Calls Try.prog 42 #[.agg #[.string t, .int .i64 p, .int .i64 0], .int .i64 n] w
    fun e w' => e = .returned (.tuple #[.string (t.extract p.toNat (p + n).toNat), .agg #[.string t, .int .i64 (p + n), .int .i64 0]]) ∧ Below w.heap.size w w' := by
  have H := Lib.hid h; clear h
  have HM := Lib.hid hm; clear hm
  go_enter Try.func42, Try.ntmps42
  go_wp2_with fail
  refine (first_bytes _ _ (by simp) t p 0 n).mono ?_
  rintro e w1 ⟨rfl, hb⟩
  have hz : w.heap.size + 4 ≤ w1.heap.size := by have := hb.size; simp at this; omega
  have hbw : Below w.heap.size w w1 := Below.trans (by go_grown) (hb.mono (by omega))
  have c0 : w1.cell? ⟨w.heap.size, 0, none⟩ = some (.string t) := ((bcell hb).1 _ _ (by omega)).trans (by simp [go_sem])
  have c1 : w1.cell? ⟨w.heap.size, 1, none⟩ = some (.int .i64 p) := ((bcell hb).1 _ _ (by omega)).trans (by simp [go_sem])
  have c2 : w1.cell? ⟨w.heap.size, 2, none⟩ = some (.int .i64 0) := ((bcell hb).1 _ _ (by omega)).trans (by simp [go_sem])
  have c3 : w1.cell? ⟨w.heap.size + 1, 0, none⟩ = some (.string { data := #[] }) := ((bcell hb).1 _ _ (by omega)).trans (by simp [go_sem])
  have c4 : w1.cell? ⟨w.heap.size + 1, 1, none⟩ = some (.int .i64 0) := ((bcell hb).1 _ _ (by omega)).trans (by simp [go_sem])
  have c5 : w1.cell? ⟨w.heap.size + 1, 2, none⟩ = some (.int .i64 0) := ((bcell hb).1 _ _ (by omega)).trans (by simp [go_sem])
  have f0 : ∀ o, w1.frozen? ⟨w.heap.size, o, none⟩ = false := fun o => ((bcell hb).2 _ _ (by omega)).trans (by simp [go_sem])
  have f1 : ∀ o, w1.frozen? ⟨w.heap.size + 1, o, none⟩ = false := fun o => ((bcell hb).2 _ _ (by omega)).trans (by simp [go_sem])
  clear hb
  rw [H.out]
  go_wp2_with fail
  refine (step_any t p 0 n _ (by omega) (by omega) (by omega) HM.out).mono ?_
  rintro e w2 ⟨rfl, hb⟩
  have hz2 : w1.heap.size ≤ w2.heap.size := by have := hb.size; rw [World.size_setCell] at this; exact this
  have hbw2 : Below w.heap.size w w2 := Below.trans (by go_grown) (hb.mono (by rw [World.size_setCell]; omega))
  have d3 : w2.cell? ⟨w.heap.size + 1, 0, none⟩ = some (.string { data := #[] }) := ((bcell hb).1 _ _ (by rw [World.size_setCell]; omega)).trans (by simp [go_sem, c3])
  have d4 : w2.cell? ⟨w.heap.size + 1, 1, none⟩ = some (.int .i64 0) := ((bcell hb).1 _ _ (by rw [World.size_setCell]; omega)).trans (by simp [go_sem, c4])
  have d5 : w2.cell? ⟨w.heap.size + 1, 2, none⟩ = some (.int .i64 0) := ((bcell hb).1 _ _ (by rw [World.size_setCell]; omega)).trans (by simp [go_sem, c5])
  have g1 : ∀ o, w2.frozen? ⟨w.heap.size + 1, o, none⟩ = false := fun o => ((bcell hb).2 _ _ (by rw [World.size_setCell]; omega)).trans (by simp [go_sem, f1])
  clear hb c0 c1 c2 c3 c4 c5 f0 f1 hbw
  obtain ⟨x, he⟩ : ∃ x, t.extract p.toNat (p + n).toNat = x := ⟨_, rfl⟩
  rw [he]
  have HE := Lib.hid he; clear he
  go_wp2_with fail
  refine bodyPost_ret (v := .tuple #[.string x, .agg #[.string t, .int .i64 (p + n), .int .i64 0]]) (by simp [results, Try.results42, go_sem, d3, d4, d5]) rfl ⟨by rw [HE.out], ?_⟩
  go_grown
end Go.Proofs.Ytkhlkjhfgfjadaa
/- The contract of little's Put: for any bytes, any number of bytes and any number, a new row of the call's own holds the bytes and behind them the lowest n bytes of the number; what was there stays. -/
namespace Go.Proofs.Ytkhlkjhfgfjadaa
open Go.RowKit
set_option maxRecDepth 20000
set_option linter.unusedVariables false
theorem Try.info5 : (Try.prog.info? 5).map (fun i => (i.zero, i.size, i.bytes)) = some (some (.int .u8 0), 1, 1) := by kernel_rfl
/-- The lowest k bytes of x, the least one first. -/
def leB : Nat → Int → List Int
  | 0, _ => []
  | k + 1, x => x % 256 :: leB k (x / 256)
/-- x without its lowest k bytes. -/
def shr : Nat → Int → Int
  | 0, x => x
  | k + 1, x => shr k (x / 256)
theorem leB_len (k : Nat) (x : Int) : (leB k x).length = k := by
  induction k generalizing x with
  | zero => rfl
  | succ k ih => simp [leB, ih]
theorem shr_succ (k : Nat) (x : Int) : shr (k + 1) x = shr k x / 256 := by
  induction k generalizing x with
  | zero => rfl
  | succ k ih => exact ih (x / 256)
theorem leB_succ (k : Nat) (x : Int) : leB (k + 1) x = leB k x ++ [shr k x % 256] := by
  induction k generalizing x with
  | zero => rfl
  | succ k ih =>
    show x % 256 :: leB (k + 1) (x / 256) = x % 256 :: leB k (x / 256) ++ [shr k (x / 256) % 256]
    rw [ih]; rfl
theorem shr_bd (k : Nat) (x : Int) (h0 : 0 ≤ x) (h1 : x ≤ 18446744073709551615) : 0 ≤ shr k x ∧ shr k x ≤ 18446744073709551615 := by
  induction k generalizing x with
  | zero => exact ⟨h0, h1⟩
  | succ k ih => exact ih (x / 256) (by omega) (by omega)
theorem add_block (x : Addr) (j : Nat) : (x.add j).block = x.block := by unfold Addr.add; split <;> rfl
/-- The bytes l stand where the slice v leads. -/
def BytesAt (w : World) (v : Value) (l : List Int) : Prop :=
  ∃ a cap, v = .slice a l.length cap ∧ l.length ≤ cap ∧ cap ≤ maxLen ∧ (0 < l.length → ∃ x : Addr, a = some x ∧ x.block < w.heap.size ∧ ∀ i, i < l.length → w.cell? (x.add i) = some (.int .u8 (l.getD i 0)))
/-- A row of the call's own: from block B on, the bytes l. -/
def Own (w : World) (B : Nat) (v : Value) (l : List Int) : Prop := w.ownsRow B 5 1 v l.length (l.map (Value.int .u8))
theorem Own.snoc {w' : World} {B : Nat} {v' : Value} {l : List Int} {c : Int} (hs : w'.ownsRow B 5 1 v' (l.length + 1) (l.map (Value.int .u8) ++ [.int .u8 c])) : Own w' B v' (l ++ [c]) := by
  unfold Own
  rw [List.length_append, List.map_append]
  exact hs
theorem own_of_splice {w2 : World} {g m : Nat} {l : List Int} (h : w2.heap[g]? = some (.cells (splice (List.replicate (l.length + m) (Value.int .u8 0)) 0 (l.map (Value.int .u8))).toArray 5 (0, 0))) (hl : l.length + m ≤ maxLen) : Own w2 g (.slice (some ⟨g, 0, none⟩) l.length (l.length + m)) l := by
  refine ⟨by simp, .inr ⟨g, l.length + m, _, rfl, Nat.le_refl _, h, by omega, hl, ?_, ?_⟩⟩
  · rw [List.size_toArray, length_splice _ _ _ (by simp)]; simp
  · simp [splice]
def PutEnd (w : World) (l : List Int) (e : Ending) (w' : World) : Prop := ∃ v, e = .returned v ∧ Own w' w.heap.size v l ∧ Below w.heap.size w w'
theorem put_any (v : Value) (l : List Int) (n x : Int) (m : Nat) (w : World) (hb : BytesAt w v l) (hl : l.length ≤ 1000000) (hn : n = m ∧ 1 ≤ m ∧ m ≤ 8 ∨ m = 0 ∧ (n < 1 ∨ 8 < n)) (x0 : 0 ≤ x) (x1 : x ≤ 18446744073709551615) :
    Calls Try.prog 52 #[v, .int .i64 n, .int .u64 x] w (PutEnd w (l ++ leB m x)) := by
  obtain ⟨a, cap, rfl, hc1, hc2, hcell⟩ := hb
  obtain ⟨i0, hi, hz0, hz1, hz2⟩ := info_parts Try.info5
  have HM : ∀ (L : Nat) (W : World), L ≤ 1000000 → (Instr.makeSlice 60 (.int .i64 (L : Int)) (.int .i64 ((L : Int) + (m : Int)))).run Try.prog W = .ok (.slice (some ⟨W.heap.size, 0, none⟩) L (L + m)) (W.alloc (.cells (madeCells #[.int .u8 0] ((L + m) * 1)) 5)) := by
    intro L W hL
    have := run_make (P := Try.prog) W 60 5 i0 (.int .u8 0) Try.underlying60 hi hz0 .i64 .i64 (L : Int) ((L : Int) + (m : Int)) (by omega) (by omega) (by rw [hz2]; omega) (by omega)
    rw [this, hz1]
    simp only [Int.toNat_natCast]
    rw [show ((L : Int) + (m : Int)).toNat = L + m from by omega]
    rfl
  have hmk := HM l.length
  clear HM
  have hG : (w.alloc (.cells (madeCells #[.int .u8 0] (l.length + m)) 5)).heap[w.heap.size]? = some (.cells (List.replicate (l.length + m) (Value.int .u8 0)).toArray 5 (0, 0)) := by
    rw [heap_alloc_new]
    have := toList_madeCells_one (.int .u8 0) (l.length + m)
    rw [← this]
  have hpos : 0 < (l.map (Value.int .u8)).length → ∃ ad, a = some ad ∧ ∀ j u, (l.map (Value.int .u8))[j]? = some u → (w.alloc (.cells (madeCells #[.int .u8 0] (l.length + m)) 5)).cell? (ad.add j) = some u := by
    intro h
    obtain ⟨y, hy, hyb, hyc⟩ := hcell (by simpa using h)
    refine ⟨y, hy, fun j u hj => ?_⟩
    have hjl : j < l.length := by
      have := (List.getElem?_eq_some_iff.1 hj).1
      simpa using this
    have hu : u = .int .u8 (l.getD j 0) := by simpa [hjl] using hj.symm
    rw [hu, ← hyc j hjl]
    exact ((Below.refl w.heap.size w).alloc (Nat.le_refl _) _).cell (p := y.add j) (by rw [add_block]; exact hyb)
  have HG := Lib.hid hG; clear hG
  have HP := Lib.hid hpos; clear hpos
  clear hcell
  have hml : l.length + 8 ≤ maxLen := by unfold maxLen; omega
  rcases hn with ⟨rfl, hm1, hm8⟩ | ⟨rfl, hn⟩
  · go_enter Try.func52, Try.ntmps52
    go_wp2_with (first | (go_at_call 74; refine (isw_yes _ _ (by omega) (by omega)).mono ?_; rintro e w' ⟨rfl, rfl⟩) | (with_reducible refine wpList_copy_splice rfl (.tmp 18) (.tmp 19) 60 60 rfl 5 Try.underlying60 (by kernel_rfl) _ _ _ _ _ _ rfl rfl w.heap.size 0 (List.replicate (l.length + m) (Value.int .u8 0)) 5 HG.out (l.map (Value.int .u8)) (by simp) (fun h => ⟨rfl, HP.out h⟩) (by simp) (ints_oneCell _ _) w.heap.size w ((Below.refl _ _).alloc (Nat.le_refl _) _) (Nat.le_refl _) ?_; intro w2 HG2 HB2) | fail)
    have hO := own_of_splice HG2.out (by omega)
    clear HG2 HG HP hmk
    go_loopw [7, 2, 22] (fun v x' i wr => ∃ (k : Nat) (y : Int), k ≤ m ∧ i = .int .i64 k ∧ x' = .int .u64 y ∧ 0 ≤ y ∧ y ≤ 18446744073709551615 ∧ Hid (shr k x = y) ∧ Own wr w.heap.size v (l ++ leB k x) ∧ Below w.heap.size w wr) (fun _ _ i _ => m - (intOf i).toNat)
    case atStart => exact ⟨0, x, Nat.zero_le _, rfl, rfl, x0, x1, rfl, by simpa [leB] using hO, HB2⟩
    case round =>
      obtain ⟨k, y, hk, rfl, rfl, y0, y1, HY, hown, hbw⟩ := hrel
      have hlen : (l ++ leB k x).length = l.length + k := by rw [List.length_append, leB_len]
      have HL := Lib.hid hlen; clear hlen
      have hsz := hbw.size
      by_cases hlt : k < m
      · go_wp2_with (first | (at_builtin; refine wpList_append_own _ rfl _ _ 60 rfl w.heap.size 5 i0 (.int .u8 0) 1 1 Try.underlying60 hi hz0 hz1 hz2 rfl (by decide) _ _ _ rfl (World.ownsRow.alloc hown _) ⟨wr.heap.size, 0, none⟩ 1 1 [.int .u8 (y % 256)] rfl rfl ?c1 ?c2 ?c3 ?c4 ?c5 ?_) | fail)
        case c1 =>
          intro j u hj
          match j, hj with
          | 0, hj => simp at hj; subst hj; simp [Addr.add]
        case c2 => intro u hu; simp at hu; subst hu; rfl
        case c3 => rw [HL.out]; unfold maxLen; omega
        case c4 => rw [HL.out]; omega
        case c5 => rw [World.size_alloc]; omega
        intro v' w1 hown' hgrow _
        have hbel : Below w.heap.size w w1 := (hbw.alloc (by omega) _).grown hgrow (by rw [World.size_alloc]; omega) (fun g hg => (World.ownsRow.lt hown g hg).1)
        have hO' : Own w1 w.heap.size v' (l ++ leB (k + 1) x) := by
          rw [leB_succ, HY.out, ← List.append_assoc]
          exact Own.snoc (by simpa using hown')
        have HY' : Hid (shr (k + 1) x = y / 256) := by
          have := shr_succ k x
          rw [HY.out] at this
          exact Lib.hid this
        clear hown' hgrow hown hbw HY
        go_wp2
        go_roundw
        case rel => exact ⟨k + 1, y / 256, by omega, by go_num, rfl, by omega, by omega, HY', hO', hbel⟩
        case measure => simp [intOf]; omega
      · obtain rfl : k = m := by omega
        go_wp2
        go_ret
        exact ⟨_, rfl, hown, hbw⟩
  · simp only [Nat.add_zero] at HG HP
    have hmk0 : ∀ (W : World), (Instr.makeSlice 60 (.int .i64 (l.length : Int)) (.int .i64 (l.length : Int))).run Try.prog W = .ok (.slice (some ⟨W.heap.size, 0, none⟩) l.length l.length) (W.alloc (.cells (madeCells #[.int .u8 0] l.length) 5)) := by
      intro W
      have := hmk W hl
      simpa using this
    clear hmk
    go_enter Try.func52, Try.ntmps52
    go_wp2_with (first | (go_at_call 74; refine (isw_no _ _ (by omega)).mono ?_; rintro e w' ⟨rfl, rfl⟩) | (with_reducible refine wpList_copy_splice rfl (.tmp 18) (.tmp 19) 60 60 rfl 5 Try.underlying60 (by kernel_rfl) _ _ _ _ _ _ rfl rfl w.heap.size 0 (List.replicate l.length (Value.int .u8 0)) 5 HG.out (l.map (Value.int .u8)) (by simp) (fun h => ⟨rfl, HP.out h⟩) (by simp) (ints_oneCell _ _) w.heap.size w ((Below.refl _ _).alloc (Nat.le_refl _) _) (Nat.le_refl _) ?_; intro w2 HG2 HB2) | fail)
    have hO := own_of_splice (m := 0) HG2.out (by omega)
    clear HG2 HG HP hmk0
    refine wp_loop_rounds 1 ?_
    rw [rounds_succ]
    go_wp2
    go_ret
    exact ⟨_, rfl, by simpa [leB] using hO, HB2⟩
end Go.Proofs.Ytkhlkjhfgfjadaa
/- The contract of 'awake', which every law of this layer ends in: it returns true, whatever the world, and what was there stays. -/
namespace Go.Proofs.Ytkhlkjhfgfjadaa
open Go.RowKit
set_option maxRecDepth 20000
set_option linter.unusedVariables false
/-- The text of some bytes. -/
def str (l : List Int) : ByteArray := l.foldl (fun r n => r.push (UInt8.ofNat n.toNat)) ByteArray.empty
theorem str_data (l : List Int) (r : ByteArray) : (l.foldl (fun r n => r.push (UInt8.ofNat n.toNat)) r).data.toList = r.data.toList ++ l.map (fun n => UInt8.ofNat n.toNat) := by
  induction l generalizing r with
  | nil => simp
  | cons n l ih => rw [List.foldl_cons, ih]; simp [ByteArray.push]
theorem str_list (l : List Int) : (str l).data.toList = l.map (fun n => UInt8.ofNat n.toNat) := by
  unfold str; rw [str_data]; simp
theorem str_size (l : List Int) : (str l).size = l.length := by
  have := congrArg List.length (str_list l)
  simpa using this
theorem run_str (w : World) (v : Value) (l : List Int) (h : BytesAt w v l) : (convert 60 9 v).run Try.prog w = .ok (.string (str l)) w := by
  obtain ⟨a, cap, rfl, h1, h2, hc⟩ := h
  rw [run_convert_bytes_string w 60 9 5 a l.length cap Try.underlying60 Try.underlying5 Try.underlying9]
  by_cases h0 : 0 < l.length
  · obtain ⟨x, rfl, hb, hx⟩ := hc h0
    refine run_bytesToString w x l.length cap l ?_
    have := run_loadCells_list (P := Try.prog) (w := w) x (l.map (Value.int .u8)) (by
      intro j v hj
      have hjl : j < l.length := by have := (List.getElem?_eq_some_iff.1 hj).1; simpa using this
      rw [hx j hjl]
      simpa [hjl] using hj)
    simpa using this
  · obtain rfl : l = [] := List.eq_nil_of_length_eq_zero (by omega)
    cases a with
    | none => rfl
    | some x =>
      have := run_loadCells_list (P := Try.prog) (w := w) x [] (by intro j v hj; simp at hj)
      exact run_bytesToString w x 0 cap [] (by simpa using this)
theorem Own.bytesAt {w : World} {B : Nat} {v : Value} {l : List Int} (h : Own w B v l) : BytesAt w v l := by
  have hlt := World.ownsRow.lt h
  have h' := h
  obtain ⟨hx, hv⟩ := h'
  rcases hv with ⟨rfl, hn⟩ | ⟨g, cap, cur, rfl, hB, hh, hle, hm, hcs, htk⟩
  · obtain rfl : l = [] := List.eq_nil_of_length_eq_zero hn
    exact ⟨none, 0, rfl, Nat.le_refl _, by simp, fun h => by simp at h⟩
  · refine ⟨_, cap, rfl, hle, hm, fun _ => ⟨_, rfl, (hlt g rfl).2, fun i hi => ?_⟩⟩
    have := World.ownsRow.cellAt h i (by omega)
    have e : (⟨g, 0, none⟩ : Addr).add i = ⟨g, i, none⟩ := by simp [Addr.add]; omega
    rw [e]
    simpa [hi] using this
theorem BytesAt.below {w w' : World} {v : Value} {l : List Int} (h : BytesAt w v l) (hb : Below w.heap.size w w') : BytesAt w' v l := by
  obtain ⟨a, cap, rfl, h1, h2, hc⟩ := h
  refine ⟨a, cap, rfl, h1, h2, fun h0 => ?_⟩
  obtain ⟨x, rfl, hx, hcell⟩ := hc h0
  refine ⟨x, rfl, Nat.lt_of_lt_of_le hx hb.size, fun i hi => ?_⟩
  rw [← hcell i hi]
  exact hb.cell (p := x.add i) (by rw [add_block]; exact hx)
theorem bytes_lit (w : World) (c : Int) : BytesAt (w.alloc (.cells #[.int .u8 c] 5 (1, 2))) (.slice (some ⟨w.heap.size, 0, none⟩) 1 1) [c] :=
  ⟨_, 1, rfl, Nat.le_refl _, by unfold maxLen; omega, fun _ => ⟨_, rfl, by simp, fun i hi => by
    have h0 : i = 0 := by simp at hi; exact hi
    subst h0
    rw [show (⟨w.heap.size, 0, none⟩ : Addr).add 0 = ⟨w.heap.size, 0, none⟩ from rfl, World.cell?_alloc_mark]; rfl⟩⟩
end Go.Proofs.Ytkhlkjhfgfjadaa
/- The contract of the document's own Put: for any bytes, any number of bytes and any number, a row of the call's own holds the bytes and behind them the lowest n bytes of the number; what was there stays. -/
namespace Go.Proofs.Ytkhlkjhfgfjadaa
open Go.RowKit
set_option maxRecDepth 20000
set_option linter.unusedVariables false
theorem take_snoc (l : List Int) (k : Nat) (h : k < l.length) : l.take (k + 1) = l.take k ++ [l.getD k 0] := by
  rw [List.take_succ_eq_append_getElem h]; simp [h]
theorem own_nil (w : World) (B : Nat) : Own w B (.slice none 0 0) [] := World.ownsRow_nil _ _ _ _
/-- What an append of one byte leaves. -/
theorem own_step {w wr w1 : World} {v v' : Value} {l : List Int} {c : Int} {k : Nat} (hlen : l.length = k) (hsz : w.heap.size ≤ wr.heap.size) (hbw : Below w.heap.size w wr) (hown : Own wr w.heap.size v l)
    (hown' : w1.ownsRow w.heap.size 5 1 v' (l.length + 1) (l.map (Value.int .u8) ++ [.int .u8 c])) (hgrow : (wr.alloc (.cells #[.int .u8 c] 5)).grownBy w1 v.ownBlock) :
    Own w1 w.heap.size v' (l ++ [c]) ∧ Below w.heap.size w w1 :=
  ⟨Own.snoc hown', (hbw.alloc (by omega) _).grown hgrow (by rw [World.size_alloc]; omega) (fun g hg => (World.ownsRow.lt hown g hg).1)⟩
theorem shr_hid (k : Nat) (x y : Int) (h : shr k x = y) : shr (k + 1) x = y / 256 := by rw [shr_succ, h]
set_option maxRecDepth 20000 in
theorem rput_any (v : Value) (l : List Int) (n x : Int) (m : Nat) (w : World) (hb : BytesAt w v l) (hl : l.length ≤ 1000000) (hn : n = m ∧ 1 ≤ m ∧ m ≤ 8 ∨ m = 0 ∧ (n < 1 ∨ 8 < n)) (x0 : 0 ≤ x) (x1 : x ≤ 18446744073709551615) :
    Calls Try.prog 57 #[v, .int .i64 n, .int .u64 x] w (PutEnd w (l ++ leB m x)) := by
  have hb0 := hb
  obtain ⟨a, cap, rfl, hc1, hc2, hcell⟩ := hb
  have HC : ∀ k, k < l.length → ∃ b off, a = some ⟨b, off, none⟩ ∧ b < w.heap.size ∧ w.cell? ⟨b, off + k, none⟩ = some (.int .u8 (l.getD k 0)) := by
    intro k hk
    obtain ⟨⟨b, off, s⟩, ha, hxb, hx⟩ := hcell (by omega)
    have h0 := hx k hk
    have hs : s = none := by
      have := World.cell?_spot (hx 0 (by omega))
      rwa [show (⟨b, off, s⟩ : Addr).add 0 = ⟨b, off, s⟩ from rfl] at this
    subst hs
    refine ⟨b, off, ha, hxb, ?_⟩
    rw [← h0]
    unfold Addr.add
    split
    · rename_i h; subst h; rfl
    · rfl
  have H := Lib.hid HC; clear HC hcell hb0
  obtain ⟨i0, hi, hz0, hz1, hz2⟩ := info_parts Try.info5
  rcases hn with ⟨rfl, hm1, hm8⟩ | ⟨rfl, hn⟩
  · go_enter Try.func57, Try.ntmps57
    go_wp2_with fail
    go_loopw [7, 8] (fun v i wr => ∃ k : Nat, k ≤ l.length ∧ i = .int .i64 k ∧ Own wr w.heap.size v (l.take k) ∧ Below w.heap.size w wr) (fun _ i _ => l.length - (intOf i).toNat)
    case atStart => exact ⟨0, Nat.zero_le _, rfl, own_nil _ _, Below.refl _ _⟩
    case round =>
      obtain ⟨k, hk, rfl, hown, hbw⟩ := hrel
      have hsz := hbw.size
      by_cases hlt : k < l.length
      · obtain ⟨b, off, rfl, hbl, hcx⟩ := H.out k hlt
        have hcy := (hbw.cell (p := ⟨b, off + k, none⟩) hbl).trans hcx
        clear hcx
        obtain ⟨c, hc⟩ : ∃ c, l.getD k 0 = c := ⟨_, rfl⟩
        rw [hc] at hcy
        have hlen : (l.take k).length = k := by simp; omega
        have HT : Hid (l.take (k + 1) = l.take k ++ [c]) := Lib.hid (hc ▸ take_snoc l k hlt)
        have HL := Lib.hid hlen
        clear hc hlen
        generalize hL : l.take k = L at *
        have HLL := Lib.hid hL; clear hL
        go_wp2_with (first | (at_builtin; refine wpList_append_own _ rfl _ _ 60 rfl w.heap.size 5 i0 (.int .u8 0) 1 1 Try.underlying60 hi hz0 hz1 hz2 rfl (by decide) _ _ _ rfl (World.ownsRow.alloc hown _) ⟨wr.heap.size, 0, none⟩ 1 1 [.int .u8 c] rfl rfl ?c1 ?c2 ?c3 ?c4 ?c5 ?_) | fail)
        case c1 =>
          intro j u hj
          match j, hj with
          | 0, hj => simp at hj; subst hj; simp [Addr.add]
        case c2 => intro u hu; simp at hu; subst hu; rfl
        case c3 => rw [HL.out]; unfold maxLen; omega
        case c4 => rw [HL.out]; omega
        case c5 => rw [World.size_alloc]; omega
        intro v' w1 hown' hgrow _
        have hst := own_step HL.out hsz hbw hown hown' hgrow
        rw [← HT.out] at hst
        clear hown' hgrow hown hbw hcy
        go_wp2_with fail
        go_roundw
        case rel => exact ⟨k + 1, by omega, by go_num, hst.1, hst.2⟩
        case measure => simp [intOf]; omega
      · obtain rfl : k = l.length := by omega
        rw [List.take_length] at hown
        go_wp2_with fail
        clear H hlt hk
        go_loopw [7, 2, 9] (fun v x' i w2 => ∃ (k : Nat) (y : Int), k ≤ m ∧ i = .int .i64 k ∧ x' = .int .u64 y ∧ 0 ≤ y ∧ y ≤ 18446744073709551615 ∧ Hid (shr k x = y) ∧ Own w2 w.heap.size v (l ++ leB k x) ∧ Below w.heap.size w w2) (fun _ _ i _ => m - (intOf i).toNat)
        case atStart => exact ⟨0, x, Nat.zero_le _, rfl, rfl, x0, x1, rfl, by simpa [leB] using hown, hbw⟩
        case round =>
          clear hown hbw hsz
          obtain ⟨k, y, hk, rfl, rfl, y0, y1, HY, hown, hbw⟩ := hrel
          have hlen : (l ++ leB k x).length = l.length + k := by rw [List.length_append, leB_len]
          have HL := Lib.hid hlen; clear hlen
          have hsz := hbw.size
          by_cases hlt : k < m
          · obtain ⟨L, hL⟩ : ∃ L, l ++ leB k x = L := ⟨_, rfl⟩
            have HLL := Lib.hid hL
            rw [hL] at hown
            have HL2 := HL.out; rw [hL] at HL2
            have HT : Hid (l ++ leB (k + 1) x = L ++ [y % 256]) := Lib.hid (by rw [leB_succ, HY.out, ← List.append_assoc, hL])
            have HL3 := Lib.hid HL2
            clear hL HL2
            go_wp2_with (first | (at_builtin; refine wpList_append_own _ rfl _ _ 60 rfl w.heap.size 5 i0 (.int .u8 0) 1 1 Try.underlying60 hi hz0 hz1 hz2 rfl (by decide) _ _ _ rfl (World.ownsRow.alloc hown _) ⟨wr.heap.size, 0, none⟩ 1 1 [.int .u8 (y % 256)] rfl rfl ?d1 ?d2 ?d3 ?d4 ?d5 ?_) | fail)
            case d1 =>
              intro j u hj
              match j, hj with
              | 0, hj => simp at hj; subst hj; simp [Addr.add]
            case d2 => intro u hu; simp at hu; subst hu; rfl
            case d3 => rw [HL3.out]; unfold maxLen; omega
            case d4 => rw [HL3.out]; omega
            case d5 => rw [World.size_alloc]; omega
            intro v' w1 hown' hgrow _
            have hst := own_step HL3.out hsz hbw hown hown' hgrow
            rw [← HT.out] at hst
            have HY' : Hid (shr (k + 1) x = y / 256) := Lib.hid (shr_hid k x y HY.out)
            clear hown' hgrow hown hbw HY HL3 HT HLL
            go_wp2_with fail
            go_roundw
            case rel => exact ⟨k + 1, y / 256, by omega, by go_num, rfl, by omega, by omega, HY', hst.1, hst.2⟩
            case measure => simp [intOf]; omega
          · obtain rfl : k = m := by omega
            go_wp2_with fail
            go_ret
            exact ⟨_, rfl, hown, hbw⟩
  · go_enter Try.func57, Try.ntmps57
    go_wp2_with fail
    go_loopw [7, 8] (fun v i wr => ∃ k : Nat, k ≤ l.length ∧ i = .int .i64 k ∧ Own wr w.heap.size v (l.take k) ∧ Below w.heap.size w wr) (fun _ i _ => l.length - (intOf i).toNat)
    case atStart => exact ⟨0, Nat.zero_le _, rfl, own_nil _ _, Below.refl _ _⟩
    case round =>
      obtain ⟨k, hk, rfl, hown, hbw⟩ := hrel
      have hsz := hbw.size
      by_cases hlt : k < l.length
      · obtain ⟨b, off, rfl, hbl, hcx⟩ := H.out k hlt
        have hcy := (hbw.cell (p := ⟨b, off + k, none⟩) hbl).trans hcx
        clear hcx
        obtain ⟨c, hc⟩ : ∃ c, l.getD k 0 = c := ⟨_, rfl⟩
        rw [hc] at hcy
        have hlen : (l.take k).length = k := by simp; omega
        have HT : Hid (l.take (k + 1) = l.take k ++ [c]) := Lib.hid (hc ▸ take_snoc l k hlt)
        have HL := Lib.hid hlen
        clear hc hlen
        generalize hL : l.take k = L at *
        have HLL := Lib.hid hL; clear hL
        go_wp2_with (first | (at_builtin; refine wpList_append_own _ rfl _ _ 60 rfl w.heap.size 5 i0 (.int .u8 0) 1 1 Try.underlying60 hi hz0 hz1 hz2 rfl (by decide) _ _ _ rfl (World.ownsRow.alloc hown _) ⟨wr.heap.size, 0, none⟩ 1 1 [.int .u8 c] rfl rfl ?e1 ?e2 ?e3 ?e4 ?e5 ?_) | fail)
        case e1 =>
          intro j u hj
          match j, hj with
          | 0, hj => simp at hj; subst hj; simp [Addr.add]
        case e2 => intro u hu; simp at hu; subst hu; rfl
        case e3 => rw [HL.out]; unfold maxLen; omega
        case e4 => rw [HL.out]; omega
        case e5 => rw [World.size_alloc]; omega
        intro v' w1 hown' hgrow _
        have hst := own_step HL.out hsz hbw hown hown' hgrow
        rw [← HT.out] at hst
        clear hown' hgrow hown hbw hcy
        go_wp2_with fail
        go_roundw
        case rel => exact ⟨k + 1, by omega, by go_num, hst.1, hst.2⟩
        case measure => simp [intOf]; omega
      · obtain rfl : k = l.length := by omega
        rw [List.take_length] at hown
        go_wp2_with fail
        clear H hlt hk
        have hfin : Own wr w.heap.size u7 (l ++ leB 0 x) := by simpa [leB] using hown
        rcases hn with hn | hn
        · refine wp_loop_rounds 1 ?_
          rw [rounds_succ]
          go_wp2_with fail
          go_ret
          exact ⟨_, rfl, hfin, hbw⟩
        · refine wp_loop_rounds 1 ?_
          rw [rounds_succ]
          have hd : decide (n ≤ 8) = false := by simp; omega
          go_wp2_with fail
          go_ret
          exact ⟨_, rfl, hfin, hbw⟩
end Go.Proofs.Ytkhlkjhfgfjadaa
/- Contracts of the document's own take, Num, Bytes, Rest and End, and of own and Back: they answer as the program's do, for every scan and every number. -/
namespace Go.Proofs.Ytkhlkjhfgfjadaa
open Go.RowKit
set_option maxRecDepth 20000
set_option linter.unusedVariables false
def wrongV (b : Bool) : Int := if b then 2 else 0
def takeBad (t : ByteArray) (p q n : Int) (b : Bool) : Int := firstOf [q, placedV t p, wrongV b, leftV t p n]
def TakeNo (t : ByteArray) (p r : Int) (w : World) (e : Ending) (w' : World) : Prop := e = .returned (.tuple #[.string { data := #[] }, .agg #[.string t, .int .i64 p, .int .i64 r]]) ∧ Below w.heap.size w w'
/-- Two blocks of three cells that the call laid read on behind a callee that only makes memory. -/
theorem kept2 {w w1 : World} {A B C D E F : Value} {T U : TypeId} (hb : Below ((w.alloc (.cells #[A, B, C] T)).alloc (.cells #[D, E, F] U)).heap.size ((w.alloc (.cells #[A, B, C] T)).alloc (.cells #[D, E, F] U)) w1) :
    w.heap.size + 2 ≤ w1.heap.size ∧ Below w.heap.size w w1 ∧
    w1.cell? ⟨w.heap.size, 0, none⟩ = some A ∧ w1.cell? ⟨w.heap.size, 1, none⟩ = some B ∧ w1.cell? ⟨w.heap.size, 2, none⟩ = some C ∧
    w1.cell? ⟨w.heap.size + 1, 0, none⟩ = some D ∧ w1.cell? ⟨w.heap.size + 1, 1, none⟩ = some E ∧ w1.cell? ⟨w.heap.size + 1, 2, none⟩ = some F ∧
    (∀ o, w1.frozen? ⟨w.heap.size, o, none⟩ = false) ∧ (∀ o, w1.frozen? ⟨w.heap.size + 1, o, none⟩ = false) := by
  have hz : ((w.alloc (.cells #[A, B, C] T)).alloc (.cells #[D, E, F] U)).heap.size = w.heap.size + 2 := by rw [World.size_alloc, World.size_alloc]
  have hs := hb.size
  rw [hz] at hs hb
  refine ⟨hs, Below.trans (by go_grown) (hb.mono (by omega)), ?_, ?_, ?_, ?_, ?_, ?_, ?_, ?_⟩
  · exact ((bcell hb).1 _ _ (by omega)).trans (by simp [go_sem])
  · exact ((bcell hb).1 _ _ (by omega)).trans (by simp [go_sem])
  · exact ((bcell hb).1 _ _ (by omega)).trans (by simp [go_sem])
  · exact ((bcell hb).1 _ _ (by omega)).trans (by simp [go_sem])
  · exact ((bcell hb).1 _ _ (by omega)).trans (by simp [go_sem])
  · exact ((bcell hb).1 _ _ (by omega)).trans (by simp [go_sem])
  · exact fun o => ((bcell hb).2 _ _ (by omega)).trans (by simp [go_sem])
  · exact fun o => ((bcell hb).2 _ _ (by omega)).trans (by simp [go_sem])
end Go.Proofs.Ytkhlkjhfgfjadaa
/- Contracts of the document's own Number, Num, Bytes, Rest and End in the program's own terms, for every scan and every number. -/
namespace Go.Proofs.Ytkhlkjhfgfjadaa
open Go.RowKit
set_option maxRecDepth 20000
set_option linter.unusedVariables false
theorem left_in (t : ByteArray) (p n : Int) (h0 : 0 ≤ p) (h1 : p ≤ t.size) (hm : t.size ≤ maxLen) : leftV t p n = if (t.size : Int) - p < n then 3 else 0 := by
  unfold maxLen at hm
  unfold leftV
  rw [IntWalk.wrap64_in _ (by omega)]
theorem takeBad_q (t : ByteArray) (p q n : Int) (b : Bool) (h : q ≠ 0) : takeBad t p q n b = q := by simp [takeBad, firstOf, h]
theorem takeBad_place (t : ByteArray) (p n : Int) (b : Bool) (h : p < 0 ∨ t.size < p) : takeBad t p 0 n b = 2 := by
  have : placedV t p = 2 := if_neg (by omega)
  simp [takeBad, firstOf, this]
theorem placed_zero (t : ByteArray) (p : Int) (h0 : 0 ≤ p) (h1 : p ≤ t.size) : placedV t p = 0 := if_pos ⟨h0, h1⟩
theorem mul_byte (x : Int) (c : Nat) (x0 : 0 ≤ x) (x1 : x < 72057594037927936) (hc : c < 256) : IntKind.u64.wrap (256 * x + IntKind.u64.wrap c) = c + 256 * x := by
  rw [wrap_u64, wrap_u64]; omega
theorem rnumber_any (t : ByteArray) (w : World) (h8 : t.size ≤ 8) :
    Calls Try.prog 71 #[.string t] w fun e w' => e = .returned (.int .u64 (numB t.data.toList)) ∧ w = w' := by
  go_enter Try.func71, Try.ntmps71
  go_wp2
  go_loop [3, 4] (fun x i => ∃ k : Nat, k ≤ t.size ∧ i = .int .i64 ((k : Int) - 1) ∧ x = .int .u64 (numB (t.data.toList.drop k))) (fun _ i => (intOf i + 1).toNat)
  case atStart => exact ⟨t.size, Nat.le_refl _, rfl, by rw [List.drop_of_length_le (by simp)]; rfl⟩
  case round =>
    obtain ⟨k, hk, rfl, rfl⟩ := hrel
    by_cases hlt : 1 ≤ k
    · have hbd : 0 ≤ numB (t.data.toList.drop k) ∧ numB (t.data.toList.drop k) < 72057594037927936 := by
        have := numB_bd (t.data.toList.drop k)
        have := pow256_le (t.data.toList.drop k).length (by simp; omega)
        omega
      generalize hx : numB (t.data.toList.drop k) = x at *
      have HX := Lib.hid hx; clear hx
      have hs := numB_step t.data.toList k hlt (by simpa using hk)
      rw [HX.out] at hs
      have hc : t[k - 1].toNat < 256 := byte_bd _
      have HS := Lib.hid hs; clear hs
      have HC := Lib.hid hc; clear hc
      go_wp2
      refine ⟨⟨k - 1, by omega, ?_, ?_⟩, ?_⟩
      · congr 1; omega
      · rw [mul_byte x _ hbd.1 hbd.2 HC.out]; exact congrArg _ HS.out.symm
      · simp [intOf]; omega
    · obtain rfl : k = 0 := by omega
      go_wp2
      go_ret
      exact ⟨by simp, rfl⟩
theorem numBad_take (t : ByteArray) (p q n : Int) (b : Bool) (h : b = true ↔ (n < 1 ∨ 8 < n)) : takeBad t p q n b = numBad t p q n := by
  have e : wrongV b = wideV n := by
    cases b with
    | true => have := h.1 rfl; exact (if_neg (by omega) : wideV n = 2).symm
    | false =>
      have hn : 1 ≤ n ∧ n ≤ 8 := by
        have : ¬ (n < 1 ∨ 8 < n) := fun g => by have := h.2 g; cases this
        omega
      exact (if_pos hn : wideV n = 0).symm
  unfold takeBad numBad
  rw [e]
theorem bytesBad_take (t : ByteArray) (p q n : Int) (b : Bool) (h : b = true ↔ n < 0) : takeBad t p q n b = bytesBad t p q n := by
  have e : wrongV b = countedV n := by
    cases b with
    | true => have := h.1 rfl; exact (if_pos this : countedV n = 2).symm
    | false =>
      have hn : ¬ n < 0 := fun g => by have := h.2 g; cases this
      exact (if_neg hn : countedV n = 0).symm
  unfold takeBad bytesBad
  rw [e]
end Go.Proofs.Ytkhlkjhfgfjadaa
