/- Several texts, one behind the other: Num, A, C, D, E, F. -/
import Derived.IntWalk
import Derived.Test.YtbkodaijigcebaaRows
import Derived.WalkKit
import Derived.Outline
import Derived.WalkSpells
import Derived.WalkLawsBesides
import Derived.Lib.Hide
import Derived.RegionTactic
import Derived.Handy
import Derived.Deep.RegionWith
/- Plain arithmetic of numbers of n bytes (n from 1 to 8): what the two shifts of Signed and Unsigned come to. No Go in sight. -/
namespace Go.Proofs.Ytbkodaijigcebaa
open Go.RowKit
set_option maxRecDepth 20000
set_option linter.unusedVariables false
/-- The number with a sign that the lowest n bytes of x stand for. -/
def sgn (x n : Int) : Int := if x % 2 ^ (8 * n).toNat < 2 ^ (8 * n - 1).toNat then x % 2 ^ (8 * n).toNat else x % 2 ^ (8 * n).toNat - 2 ^ (8 * n).toNat
/-- May v be a number with a sign of n bytes? -/
def inr (v n : Int) : Bool := decide (-(2 ^ (8 * n - 1).toNat) ≤ v) && decide (v < 2 ^ (8 * n - 1).toNat)
/-- The lowest n bytes of v. -/
def low (v n : Int) : Int := v % 2 ^ (8 * n).toNat

theorem widths {n : Int} (h0 : 1 ≤ n) (h1 : n ≤ 8) : n = 1 ∨ n = 2 ∨ n = 3 ∨ n = 4 ∨ n = 5 ∨ n = 6 ∨ n = 7 ∨ n = 8 := by omega

theorem wrap_u64 (n : Int) : IntKind.u64.wrap n = n % 18446744073709551616 := by
  simp only [IntKind.wrap, IntKind.bits, IntKind.signed, Bool.false_and, Int.reducePow]; simp
theorem shifts_signed (x n : Int) (h0 : 1 ≤ n) (h1 : n ≤ 8) :
    wrap64 (IntKind.u64.wrap (x * 2 ^ (8 * (8 - n)).toNat)) / 2 ^ (8 * (8 - n)).toNat = sgn x n := by
  unfold sgn
  rw [wrap_u64]
  unfold wrap64
  rcases widths h0 h1 with rfl | rfl | rfl | rfl | rfl | rfl | rfl | rfl <;> simp only [Int.reduceMul, Int.reduceSub, Int.reduceToNat, Int.reducePow, Int.mul_one] <;> split <;> omega

theorem shifts_low (v n : Int) (h0 : 1 ≤ n) (h1 : n ≤ 8) :
    IntKind.u64.wrap (v * 2 ^ (8 * (8 - n)).toNat) / 2 ^ (8 * (8 - n)).toNat = low v n := by
  unfold low
  rw [wrap_u64]
  rcases widths h0 h1 with rfl | rfl | rfl | rfl | rfl | rfl | rfl | rfl <;> simp only [Int.reduceMul, Int.reduceSub, Int.reduceToNat, Int.reducePow, Int.mul_one] <;> omega

theorem low_wrap (v n : Int) (h0 : 1 ≤ n) (h1 : n ≤ 8) : low (IntKind.u64.wrap v) n = low v n := by
  unfold low
  rw [wrap_u64]
  rcases widths h0 h1 with rfl | rfl | rfl | rfl | rfl | rfl | rfl | rfl <;> simp only [Int.reduceMul, Int.reduceToNat, Int.reducePow] <;> omega

theorem inr_iff (v n : Int) : inr v n = true ↔ -(2 ^ (8 * n - 1).toNat) ≤ v ∧ v < 2 ^ (8 * n - 1).toNat := by unfold inr; simp

theorem sgn_back (v n : Int) (h0 : 1 ≤ n) (h1 : n ≤ 8) (h : inr v n = true) : sgn v n = v := by
  rw [inr_iff] at h
  unfold sgn
  rcases widths h0 h1 with rfl | rfl | rfl | rfl | rfl | rfl | rfl | rfl <;> simp only [Int.reduceMul, Int.reduceSub, Int.reduceToNat, Int.reducePow] at h ⊢ <;> split <;> omega

theorem sgn_inr (x n : Int) (h0 : 1 ≤ n) (h1 : n ≤ 8) : inr (sgn x n) n = true := by
  rw [inr_iff]
  unfold sgn
  rcases widths h0 h1 with rfl | rfl | rfl | rfl | rfl | rfl | rfl | rfl <;> simp only [Int.reduceMul, Int.reduceSub, Int.reduceToNat, Int.reducePow] <;> split <;> omega

theorem sgn_low (x n : Int) : sgn (low x n) n = sgn x n := by
  unfold sgn low
  rw [Int.emod_emod_of_dvd _ (Int.dvd_refl _)]

theorem low_sgn (x n : Int) (h0 : 1 ≤ n) (h1 : n ≤ 8) : low (sgn x n) n = low x n := by
  unfold sgn low
  rcases widths h0 h1 with rfl | rfl | rfl | rfl | rfl | rfl | rfl | rfl <;> simp only [Int.reduceMul, Int.reduceSub, Int.reduceToNat, Int.reducePow] <;> split <;> omega

theorem sgn_wrap (v n : Int) (h0 : 1 ≤ n) (h1 : n ≤ 8) : sgn (IntKind.u64.wrap v) n = sgn v n := by
  rw [← sgn_low _ _, low_wrap _ _ h0 h1, sgn_low _ _]

/-- Back to the number itself, just if it may be one of n bytes. -/
theorem sgn_ne (v n : Int) (h0 : 1 ≤ n) (h1 : n ≤ 8) (h : inr v n = false) : sgn v n ≠ v := by
  intro e
  have := sgn_inr v n h0 h1
  rw [e, h] at this
  cases this

theorem low_bd (v n : Int) (h0 : 1 ≤ n) (h1 : n ≤ 8) : 0 ≤ low v n ∧ low v n ≤ 18446744073709551615 := by
  unfold low
  rcases widths h0 h1 with rfl | rfl | rfl | rfl | rfl | rfl | rfl | rfl <;> simp only [Int.reduceMul, Int.reduceToNat, Int.reducePow] <;> omega

theorem low_small (v n : Int) (h0 : 1 ≤ n) (h1 : n < 8) : low v n / 2 ^ (8 * n).toNat = 0 := by
  unfold low
  rcases widths h0 (by omega) with rfl | rfl | rfl | rfl | rfl | rfl | rfl | rfl <;> simp only [Int.reduceMul, Int.reduceToNat, Int.reducePow] <;> omega

theorem sgn_bd (v n : Int) (h0 : 1 ≤ n) (h1 : n ≤ 8) : -9223372036854775808 ≤ sgn v n ∧ sgn v n ≤ 9223372036854775807 := by
  unfold sgn
  rcases widths h0 h1 with rfl | rfl | rfl | rfl | rfl | rfl | rfl | rfl <;> simp only [Int.reduceMul, Int.reduceSub, Int.reduceToNat, Int.reducePow] <;> split <;> omega
end Go.Proofs.Ytbkodaijigcebaa
/- Contracts of Signed and Unsigned, the program's and the document's own: what each answers, for every number and every number of bytes. -/
namespace Go.Proofs.Ytbkodaijigcebaa
open Go.RowKit
set_option maxRecDepth 20000
set_option linter.unusedVariables false
theorem ret2 {k l : IntKind} {a b c d : Int} (h : a = b) (g : c = d) : Ending.returned (.tuple #[.int k a, .int l c]) = .returned (.tuple #[.int k b, .int l d]) := by rw [h, g]

end Go.Proofs.Ytbkodaijigcebaa
/- Contracts of little's checks held and placed, and of first: over a row of function values that each answer a number whatever the world, first answers the first that is not 0. -/
namespace Go.Proofs.Ytbkodaijigcebaa
open Go.RowKit
set_option maxRecDepth 20000
theorem held_any (t : ByteArray) (p b : Int) (w : World) : Calls Try.prog 75 #[.agg #[.string t, .int .i64 p, .int .i64 b]] w fun e w' => e = .returned (.int .i64 b) ∧ Below w.heap.size w w' := by
  go_enter Try.func75, Try.ntmps75
  go_wp2
  go_ret
  exact ⟨rfl, (Below.refl _ _).alloc (Nat.le_refl _) _⟩
theorem placed_yes (t : ByteArray) (p b : Int) (w : World) (h0 : 0 ≤ p) (h1 : p ≤ t.size) : Calls Try.prog 76 #[.agg #[.string t, .int .i64 p, .int .i64 b]] w fun e w' => e = .returned (.int .i64 0) ∧ Below w.heap.size w w' := by
  go_enter Try.func76, Try.ntmps76
  go_wp2
  go_ret
  exact ⟨rfl, (Below.refl _ _).alloc (Nat.le_refl _) _⟩
theorem placed_no (t : ByteArray) (p b : Int) (w : World) (h : p < 0 ∨ t.size < p) : Calls Try.prog 76 #[.agg #[.string t, .int .i64 p, .int .i64 b]] w fun e w' => e = .returned (.int .i64 2) ∧ Below w.heap.size w w' := by
  rcases h with h | h
  · go_enter Try.func76, Try.ntmps76
    go_wp2
    go_ret
    exact ⟨rfl, (Below.refl _ _).alloc (Nat.le_refl _) _⟩
  · have h0 : ¬ p < 0 := by omega
    go_enter Try.func76, Try.ntmps76
    go_wp2
    go_ret
    exact ⟨rfl, (Below.refl _ _).alloc (Nat.le_refl _) _⟩
/-- The first of the answers that is not 0. -/
def firstOf : List Int → Int
  | [] => 0
  | r :: t => if r = 0 then firstOf t else r
def Upto (rs : List Int) (k : Nat) : Prop := firstOf (rs.drop k) = firstOf rs
theorem firstOf_zero (rs : List Int) (k : Nat) (h : k < rs.length) (hz : rs.getD k 0 = 0) : firstOf (rs.drop (k + 1)) = firstOf (rs.drop k) := by
  rw [List.drop_eq_getElem_cons h]
  have : rs[k] = 0 := by simpa [h] using hz
  simp [firstOf, this]
theorem firstOf_hit (rs : List Int) (k : Nat) (h : k < rs.length) (hz : rs.getD k 0 ≠ 0) : rs.getD k 0 = firstOf (rs.drop k) := by
  rw [List.drop_eq_getElem_cons h]
  have e : rs.getD k 0 = rs[k] := by simp [h]
  rw [e] at hz ⊢
  simp [firstOf, hz]
/-- The i-th check, at its cell, answers r, whatever the world. -/
def Asks (w : World) (b i : Nat) (r : Int) : Prop := ∃ f caps, w.cell? ⟨b, i, none⟩ = some (.func (.func f) caps #[]) ∧ (∀ W, Sem.run Try.prog (callFunc f caps) W = .ok (.enter f caps) W) ∧ ∀ W, Calls Try.prog f caps W fun e W' => e = .returned (.int .i64 r) ∧ Below W.heap.size W W'
theorem ret_int {k : IntKind} {a b : Int} (h : a = b) : Ending.returned (.int k a) = .returned (.int k b) := by rw [h]
theorem first_any (b len : Nat) (rs : List Int) (w : World) (hb : b < w.heap.size) (hl : rs.length = len) (hm : len ≤ 4) (hA : ∀ i, i < len → Asks w b i (rs.getD i 0)) :
    Calls Try.prog 74 #[.slice (some ⟨b, 0, none⟩) len len] w fun e w' => e = .returned (.int .i64 (firstOf rs)) ∧ Below w.heap.size w w' := by
  have HA := Lib.hid hA; clear hA
  have HL := Lib.hid hl; clear hl
  go_enter Try.func74, Try.ntmps74
  go_wp2
  go_loopw [8] (fun i wr => ∃ k : Nat, k ≤ len ∧ i = .int .i64 k ∧ Upto rs k ∧ Below w.heap.size w wr) (fun i _ => len - (intOf i).toNat)
  case atStart => exact ⟨0, Nat.zero_le _, rfl, by simp [Upto], Below.refl _ _⟩
  case round =>
    obtain ⟨k, hk, rfl, hu, hbw⟩ := hrel
    by_cases hlt : k < len
    · obtain ⟨f, caps, hcell, hrun, hc⟩ := HA.out k hlt
      have hcell' := (hbw.cell (p := ⟨b, k, none⟩) hb).trans hcell
      clear hcell
      have HC := Lib.hid hc; clear hc
      by_cases hz : rs.getD k 0 = 0
      · have hU : Upto rs (k + 1) := (firstOf_zero rs k (by rw [HL.out]; exact hlt) hz).trans hu
        have hz' : (rs.getD k 0 != 0) = false := by simp only [hz]; rfl
        have HZ := Lib.hid hz; clear hz
        generalize rs.getD k 0 = r at *
        go_wp2_with (with_reducible (refine (HC.out _).mono ?_); rintro e w1 ⟨rfl, hb1⟩)
        go_roundw
        case rel => exact ⟨k + 1, by omega, by go_num, hU, hbw.trans (hb1.mono hbw.size)⟩
        case measure => simp [intOf]; omega
      · have hU : rs.getD k 0 = firstOf rs := (firstOf_hit rs k (by rw [HL.out]; exact hlt) hz).trans hu
        have hz' : (rs.getD k 0 != 0) = true := by simp only [bne_iff_ne, ne_eq]; exact hz
        have HU := Lib.hid hU; clear hU
        clear hz
        generalize rs.getD k 0 = r at *
        go_wp2_with (with_reducible (refine (HC.out _).mono ?_); rintro e w1 ⟨rfl, hb1⟩)
        go_ret
        exact ⟨ret_int HU.out, hbw.trans (hb1.mono hbw.size)⟩
    · obtain rfl : k = len := by omega
      go_wp2
      go_ret
      refine ⟨ret_int ?_, hbw⟩
      rw [← hu, ← HL.out, List.drop_length]; rfl
end Go.Proofs.Ytbkodaijigcebaa
/- Contracts of the checks that little's scans hand on, of step and of number. -/
namespace Go.Proofs.Ytbkodaijigcebaa
open Go.RowKit
set_option maxRecDepth 20000
set_option linter.unusedVariables false
def placedV (t : ByteArray) (p : Int) : Int := if 0 ≤ p ∧ p ≤ t.size then 0 else 2
def wideV (n : Int) : Int := if 1 ≤ n ∧ n ≤ 8 then 0 else 2
def countedV (n : Int) : Int := if n < 0 then 2 else 0
def leftV (t : ByteArray) (p n : Int) : Int := if wrap64 (t.size - p) < n then 3 else 0
def spentV (t : ByteArray) (p : Int) : Int := if p < t.size then 4 else 0
theorem placed_any (t : ByteArray) (p b : Int) (w : World) : Calls Try.prog 76 #[.agg #[.string t, .int .i64 p, .int .i64 b]] w fun e w' => e = .returned (.int .i64 (placedV t p)) ∧ Below w.heap.size w w' := by
  by_cases h : 0 ≤ p ∧ p ≤ t.size
  · rw [show placedV t p = 0 from if_pos h]
    exact placed_yes t p b w h.1 h.2
  · rw [show placedV t p = 2 from if_neg h]
    exact placed_no t p b w (by omega)
theorem counted_any (t : ByteArray) (p b n : Int) (w : World) : Calls Try.prog 92 #[.agg #[.string t, .int .i64 p, .int .i64 b, .int .i64 n]] w fun e w' => e = .returned (.int .i64 (countedV n)) ∧ Below w.heap.size w w' := by
  by_cases h : n < 0
  · have H : Hid (countedV n = 2) := if_pos h
    go_enter Try.func92, Try.ntmps92
    go_wp2
    go_ret
    exact ⟨ret_int H.out.symm, (Below.refl _ _).alloc (Nat.le_refl _) _⟩
  · have H : Hid (countedV n = 0) := if_neg h
    go_enter Try.func92, Try.ntmps92
    go_wp2
    go_ret
    exact ⟨ret_int H.out.symm, (Below.refl _ _).alloc (Nat.le_refl _) _⟩
theorem left_any (t : ByteArray) (p b n : Int) (w : World) : Calls Try.prog 93 #[.agg #[.string t, .int .i64 p, .int .i64 b, .int .i64 n]] w fun e w' => e = .returned (.int .i64 (leftV t p n)) ∧ Below w.heap.size w w' := by
  by_cases h : wrap64 (t.size - p) < n
  · have H : Hid (leftV t p n = 3) := if_pos h
    go_enter Try.func93, Try.ntmps93
    go_wp2
    all_goals
      go_ret
      exact ⟨ret_int H.out.symm, (Below.refl _ _).alloc (Nat.le_refl _) _⟩
  · have H : Hid (leftV t p n = 0) := if_neg h
    go_enter Try.func93, Try.ntmps93
    go_wp2
    all_goals
      go_ret
      exact ⟨ret_int H.out.symm, (Below.refl _ _).alloc (Nat.le_refl _) _⟩
theorem spent_any (t : ByteArray) (p b : Int) (w : World) : Calls Try.prog 77 #[.agg #[.string t, .int .i64 p, .int .i64 b]] w fun e w' => e = .returned (.int .i64 (spentV t p)) ∧ Below w.heap.size w w' := by
  by_cases h : p < t.size
  · have H : Hid (spentV t p = 4) := if_pos h
    go_enter Try.func77, Try.ntmps77
    go_wp2
    go_ret
    exact ⟨ret_int H.out.symm, (Below.refl _ _).alloc (Nat.le_refl _) _⟩
  · have H : Hid (spentV t p = 0) := if_neg h
    go_enter Try.func77, Try.ntmps77
    go_wp2
    go_ret
    exact ⟨ret_int H.out.symm, (Below.refl _ _).alloc (Nat.le_refl _) _⟩
theorem step_any (t : ByteArray) (p b n : Int) (w : World) (p0 : 0 ≤ p) (n0 : 0 ≤ n) (hp : p + n ≤ t.size) (hm : t.size ≤ maxLen) :
    Calls Try.prog 94 #[.agg #[.string t, .int .i64 p, .int .i64 b], .int .i64 n] w fun e w' => e = .returned (.tuple #[.string (t.extract p.toNat (p + n).toNat), .agg #[.string t, .int .i64 (p + n), .int .i64 b]]) ∧ Below w.heap.size w w' := by
  unfold maxLen at hm
  go_enter Try.func94, Try.ntmps94
  go_wp2
  go_region
  all_goals
    go_wp2
    refine bodyPost_ret (v := .tuple #[.string (t.extract p.toNat (p + n).toNat), .agg #[.string t, .int .i64 (p + n), .int .i64 b]]) (by simp [results, Try.results94, go_sem]) rfl ⟨rfl, ?_⟩
    go_grown
/-- The number of some bytes, the least one first. -/
def numB : List UInt8 → Int
  | [] => 0
  | c :: t => c.toNat + 256 * numB t
def pow256 : Nat → Int
  | 0 => 1
  | k + 1 => 256 * pow256 k
theorem numB_bd (l : List UInt8) : 0 ≤ numB l ∧ numB l < pow256 l.length := by
  induction l with
  | nil => simp [numB, pow256]
  | cons c t ih =>
    have : c.toNat < 256 := c.toNat_lt
    simp only [numB, pow256, List.length_cons]
    omega
theorem pow256_le (k : Nat) (h : k ≤ 7) : pow256 k ≤ 72057594037927936 := by
  rcases (by omega : k = 0 ∨ k = 1 ∨ k = 2 ∨ k = 3 ∨ k = 4 ∨ k = 5 ∨ k = 6 ∨ k = 7) with rfl | rfl | rfl | rfl | rfl | rfl | rfl | rfl <;> decide
theorem byte_bd (c : UInt8) : c.toNat < 256 := c.toNat_lt
theorem or_byte (x : Int) (c : Nat) (x0 : 0 ≤ x) (x1 : x < 72057594037927936) (hc : c < 256) : bits BinOp.or IntKind.u64 (x * 256) (IntKind.u64.wrap c) = c + 256 * x := by
  rw [wrap_u64]
  rw [u64_or _ _ (by omega) (by omega) (by omega) (by omega)]
  rw [nat_join 8 _ _ (by omega) (by omega)]
  omega
theorem numB_step (l : List UInt8) (k : Nat) (h1 : 1 ≤ k) (hk : k ≤ l.length) : numB (l.drop (k - 1)) = (l[k - 1]'(by omega)).toNat + 256 * numB (l.drop k) := by
  rw [List.drop_eq_getElem_cons (by omega : k - 1 < l.length)]
  simp only [numB]
  rw [show k - 1 + 1 = k from by omega]
end Go.Proofs.Ytbkodaijigcebaa
/- Contracts of little's Num and of first at the rows that Num, Bytes, Rest and End hand it, for every scan and every number. -/
namespace Go.Proofs.Ytbkodaijigcebaa
open Go.RowKit
set_option maxRecDepth 20000
set_option linter.unusedVariables false
theorem asks_held (w : World) (b i : Nat) (t : ByteArray) (p q : Int) (h : w.cell? ⟨b, i, none⟩ = some (.func (.func 75) #[.agg #[.string t, .int .i64 p, .int .i64 q]] #[])) : Asks w b i q :=
  ⟨75, _, h, fun _ => by kernel_rfl, fun W => held_any t p q W⟩
theorem asks_placed (w : World) (b i : Nat) (t : ByteArray) (p q : Int) (h : w.cell? ⟨b, i, none⟩ = some (.func (.func 76) #[.agg #[.string t, .int .i64 p, .int .i64 q]] #[])) : Asks w b i (placedV t p) :=
  ⟨76, _, h, fun _ => by kernel_rfl, fun W => placed_any t p q W⟩
theorem asks_left (w : World) (b i : Nat) (t : ByteArray) (p q n : Int) (h : w.cell? ⟨b, i, none⟩ = some (.func (.func 93) #[.agg #[.string t, .int .i64 p, .int .i64 q, .int .i64 n]] #[])) : Asks w b i (leftV t p n) :=
  ⟨93, _, h, fun _ => by kernel_rfl, fun W => left_any t p q n W⟩
theorem asks_counted (w : World) (b i : Nat) (t : ByteArray) (p q n : Int) (h : w.cell? ⟨b, i, none⟩ = some (.func (.func 92) #[.agg #[.string t, .int .i64 p, .int .i64 q, .int .i64 n]] #[])) : Asks w b i (countedV n) :=
  ⟨92, _, h, fun _ => by kernel_rfl, fun W => counted_any t p q n W⟩
theorem asks_spent (w : World) (b i : Nat) (t : ByteArray) (p q : Int) (h : w.cell? ⟨b, i, none⟩ = some (.func (.func 77) #[.agg #[.string t, .int .i64 p, .int .i64 q]] #[])) : Asks w b i (spentV t p) :=
  ⟨77, _, h, fun _ => by kernel_rfl, fun W => spent_any t p q W⟩
theorem cell_new (W : World) (b : Nat) (cs : Array Value) (T : TypeId) (hb : b = W.heap.size) (i : Nat) (v : Value) (h : cs[i]? = some v) : (W.alloc (.cells cs T)).cell? ⟨b, i, none⟩ = some v := by
  rw [World.cell?_alloc_at _ _ _ _ hb]; exact h
theorem bcell {B : Nat} {W w1 : World} (hb : Below B W w1) : (∀ b o, b < B → w1.cell? ⟨b, o, none⟩ = W.cell? ⟨b, o, none⟩) ∧ (∀ b o, b < B → w1.frozen? ⟨b, o, none⟩ = W.frozen? ⟨b, o, none⟩) :=
  ⟨fun b o h => hb.cell (p := ⟨b, o, none⟩) h, fun b o h => hb.frozen (p := ⟨b, o, none⟩) h⟩
def scanV (t : ByteArray) (p q : Int) : Value := .agg #[.string t, .int .i64 p, .int .i64 q]
def wishV (t : ByteArray) (p q n : Int) : Value := .agg #[.string t, .int .i64 p, .int .i64 q, .int .i64 n]
def numBad (t : ByteArray) (p q n : Int) : Int := firstOf [q, placedV t p, wideV n, leftV t p n]
def bytesBad (t : ByteArray) (p q n : Int) : Int := firstOf [q, placedV t p, countedV n, leftV t p n]
def restBad (t : ByteArray) (p q : Int) : Int := firstOf [q, placedV t p]
def endV (t : ByteArray) (p q : Int) : Int := firstOf [q, placedV t p, spentV t p]
theorem first_bytes (W : World) (b : Nat) (hb : b = W.heap.size) (t : ByteArray) (p q n : Int) :
    Calls Try.prog 74 #[.slice (some ⟨b, 0, none⟩) 4 4] (W.alloc (.cells #[.func (.func 75) #[.agg #[.string t, .int .i64 p, .int .i64 q]] #[], .func (.func 76) #[.agg #[.string t, .int .i64 p, .int .i64 q]] #[], .func (.func 92) #[.agg #[.string t, .int .i64 p, .int .i64 q, .int .i64 n]] #[], .func (.func 93) #[.agg #[.string t, .int .i64 p, .int .i64 q, .int .i64 n]] #[]] 94))
      fun e w' => e = .returned (.int .i64 (bytesBad t p q n)) ∧ Below (b + 1) (W.alloc (.cells #[.func (.func 75) #[.agg #[.string t, .int .i64 p, .int .i64 q]] #[], .func (.func 76) #[.agg #[.string t, .int .i64 p, .int .i64 q]] #[], .func (.func 92) #[.agg #[.string t, .int .i64 p, .int .i64 q, .int .i64 n]] #[], .func (.func 93) #[.agg #[.string t, .int .i64 p, .int .i64 q, .int .i64 n]] #[]] 94)) w' := by
  refine (first_any b 4 [q, placedV t p, countedV n, leftV t p n] _ (by rw [World.size_alloc]; omega) rfl (by omega) ?_).mono ?_
  · intro i hi
    rcases (by omega : i = 0 ∨ i = 1 ∨ i = 2 ∨ i = 3) with rfl | rfl | rfl | rfl
    · exact asks_held _ _ _ t p q (cell_new _ _ _ _ hb _ _ rfl)
    · exact asks_placed _ _ _ t p q (cell_new _ _ _ _ hb _ _ rfl)
    · exact asks_counted _ _ _ t p q n (cell_new _ _ _ _ hb _ _ rfl)
    · exact asks_left _ _ _ t p q n (cell_new _ _ _ _ hb _ _ rfl)
  · rintro e w' ⟨rfl, h⟩
    exact ⟨rfl, h.mono (by rw [World.size_alloc]; omega)⟩
theorem first_rest (W : World) (b : Nat) (hb : b = W.heap.size) (t : ByteArray) (p q : Int) :
    Calls Try.prog 74 #[.slice (some ⟨b, 0, none⟩) 2 2] (W.alloc (.cells #[.func (.func 75) #[.agg #[.string t, .int .i64 p, .int .i64 q]] #[], .func (.func 76) #[.agg #[.string t, .int .i64 p, .int .i64 q]] #[]] 94))
      fun e w' => e = .returned (.int .i64 (restBad t p q)) ∧ Below (b + 1) (W.alloc (.cells #[.func (.func 75) #[.agg #[.string t, .int .i64 p, .int .i64 q]] #[], .func (.func 76) #[.agg #[.string t, .int .i64 p, .int .i64 q]] #[]] 94)) w' := by
  refine (first_any b 2 [q, placedV t p] _ (by rw [World.size_alloc]; omega) rfl (by omega) ?_).mono ?_
  · intro i hi
    rcases (by omega : i = 0 ∨ i = 1) with rfl | rfl
    · exact asks_held _ _ _ t p q (cell_new _ _ _ _ hb _ _ rfl)
    · exact asks_placed _ _ _ t p q (cell_new _ _ _ _ hb _ _ rfl)
  · rintro e w' ⟨rfl, h⟩
    exact ⟨rfl, h.mono (by rw [World.size_alloc]; omega)⟩
theorem first_end (W : World) (b : Nat) (hb : b = W.heap.size) (t : ByteArray) (p q : Int) :
    Calls Try.prog 74 #[.slice (some ⟨b, 0, none⟩) 3 3] (W.alloc (.cells #[.func (.func 75) #[.agg #[.string t, .int .i64 p, .int .i64 q]] #[], .func (.func 76) #[.agg #[.string t, .int .i64 p, .int .i64 q]] #[], .func (.func 77) #[.agg #[.string t, .int .i64 p, .int .i64 q]] #[]] 94))
      fun e w' => e = .returned (.int .i64 (endV t p q)) ∧ Below (b + 1) (W.alloc (.cells #[.func (.func 75) #[.agg #[.string t, .int .i64 p, .int .i64 q]] #[], .func (.func 76) #[.agg #[.string t, .int .i64 p, .int .i64 q]] #[], .func (.func 77) #[.agg #[.string t, .int .i64 p, .int .i64 q]] #[]] 94)) w' := by
  refine (first_any b 3 [q, placedV t p, spentV t p] _ (by rw [World.size_alloc]; omega) rfl (by omega) ?_).mono ?_
  · intro i hi
    rcases (by omega : i = 0 ∨ i = 1 ∨ i = 2) with rfl | rfl | rfl
    · exact asks_held _ _ _ t p q (cell_new _ _ _ _ hb _ _ rfl)
    · exact asks_placed _ _ _ t p q (cell_new _ _ _ _ hb _ _ rfl)
    · exact asks_spent _ _ _ t p q (cell_new _ _ _ _ hb _ _ rfl)
  · rintro e w' ⟨rfl, h⟩
    exact ⟨rfl, h.mono (by rw [World.size_alloc]; omega)⟩
end Go.Proofs.Ytbkodaijigcebaa
/- Contracts of little's Bytes, Rest and End, for every scan and every number. -/
namespace Go.Proofs.Ytbkodaijigcebaa
open Go.RowKit
set_option maxRecDepth 20000
set_option linter.unusedVariables false
theorem ret_str {a b : ByteArray} (h : a = b) : Ending.returned (.string a) = .returned (.string b) := by rw [h]
theorem bytes_no (t : ByteArray) (p q n : Int) (w : World) (h : bytesBad t p q n ≠ 0) : Calls Try.prog 91 #[.agg #[.string t, .int .i64 p, .int .i64 q], .int .i64 n] w
    fun e w' => e = .returned (.tuple #[.string { data := #[] }, .agg #[.string t, .int .i64 p, .int .i64 (bytesBad t p q n)]]) ∧ Below w.heap.size w w' := by
  have hne : (bytesBad t p q n != 0) = true := by simp only [bne_iff_ne, ne_eq]; exact h
  clear h
  go_enter Try.func91, Try.ntmps91
  go_wp2_with fail
  refine (first_bytes _ _ (by simp) t p q n).mono ?_
  rintro e w1 ⟨rfl, hb⟩
  have hz : w.heap.size + 4 ≤ w1.heap.size := by have := hb.size; simp at this; omega
  have hbw : Below w.heap.size w w1 := Below.trans (by go_grown) (hb.mono (by omega))
  have c0 : w1.cell? ⟨w.heap.size, 0, none⟩ = some (.string t) := ((bcell hb).1 _ _ (by omega)).trans (by simp [go_sem])
  have c1 : w1.cell? ⟨w.heap.size, 1, none⟩ = some (.int .i64 p) := ((bcell hb).1 _ _ (by omega)).trans (by simp [go_sem])
  have c2 : w1.cell? ⟨w.heap.size, 2, none⟩ = some (.int .i64 q) := ((bcell hb).1 _ _ (by omega)).trans (by simp [go_sem])
  have c3 : w1.cell? ⟨w.heap.size + 1, 0, none⟩ = some (.string { data := #[] }) := ((bcell hb).1 _ _ (by omega)).trans (by simp [go_sem])
  have c4 : w1.cell? ⟨w.heap.size + 1, 1, none⟩ = some (.int .i64 0) := ((bcell hb).1 _ _ (by omega)).trans (by simp [go_sem])
  have c5 : w1.cell? ⟨w.heap.size + 1, 2, none⟩ = some (.int .i64 0) := ((bcell hb).1 _ _ (by omega)).trans (by simp [go_sem])
  have f0 : ∀ o, w1.frozen? ⟨w.heap.size, o, none⟩ = false := fun o => ((bcell hb).2 _ _ (by omega)).trans (by simp [go_sem])
  have f1 : ∀ o, w1.frozen? ⟨w.heap.size + 1, o, none⟩ = false := fun o => ((bcell hb).2 _ _ (by omega)).trans (by simp [go_sem])
  clear hb
  obtain ⟨r, hr⟩ : ∃ r, bytesBad t p q n = r := ⟨_, rfl⟩
  have HR := Lib.hid hr
  rw [hr] at hne ⊢
  clear hr
  go_wp2_with fail
  go_region
  go_wp2
  refine bodyPost_ret (v := .tuple #[.string { data := #[] }, .agg #[.string t, .int .i64 p, .int .i64 r]]) (by simp [results, Try.results91, go_sem, c3, c4, c5]) rfl ⟨by rw [HR.out], ?_⟩
  go_grown
theorem bytes_yes (t : ByteArray) (p n : Int) (w : World) (hm : t.size ≤ maxLen) (h : bytesBad t p 0 n = 0) (p0 : 0 ≤ p) (n0 : 0 ≤ n) (hp : p + n ≤ t.size) : Calls Try.prog 91 #[.agg #[.string t, .int .i64 p, .int .i64 0], .int .i64 n] w
    fun e w' => e = .returned (.tuple #[.string (t.extract p.toNat (p + n).toNat), .agg #[.string t, .int .i64 (p + n), .int .i64 0]]) ∧ Below w.heap.size w w' := by
  have H := Lib.hid h; clear h
  have HM := Lib.hid hm; clear hm
  go_enter Try.func91, Try.ntmps91
  go_wp2_with fail
  refine (first_bytes _ _ (by simp) t p 0 n).mono ?_
  rintro e w1 ⟨rfl, hb⟩
  have hz : w.heap.size + 4 ≤ w1.heap.size := by have := hb.size; simp at this; omega
  have hbw : Below w.heap.size w w1 := Below.trans (by go_grown) (hb.mono (by omega))
  have c0 : w1.cell? ⟨w.heap.size, 0, none⟩ = some (.string t) := ((bcell hb).1 _ _ (by omega)).trans (by simp [go_sem])
  have c1 : w1.cell? ⟨w.heap.size, 1, none⟩ = some (.int .i64 p) := ((bcell hb).1 _ _ (by omega)).trans (by simp [go_sem])
  have c2 : w1.cell? ⟨w.heap.size, 2, none⟩ = some (.int .i64 0) := ((bcell hb).1 _ _ (by omega)).trans (by simp [go_sem])
  have c3 : w1.cell? ⟨w.heap.size + 1, 0, none⟩ = some (.string { data := #[] }) := ((bcell hb).1 _ _ (by omega)).trans (by simp [go_sem])
  have c4 : w1.cell? ⟨w.heap.size + 1, 1, none⟩ = some (.int .i64 0) := ((bcell hb).1 _ _ (by omega)).trans (by simp [go_sem])
  have c5 : w1.cell? ⟨w.heap.size + 1, 2, none⟩ = some (.int .i64 0) := ((bcell hb).1 _ _ (by omega)).trans (by simp [go_sem])
  have f0 : ∀ o, w1.frozen? ⟨w.heap.size, o, none⟩ = false := fun o => ((bcell hb).2 _ _ (by omega)).trans (by simp [go_sem])
  have f1 : ∀ o, w1.frozen? ⟨w.heap.size + 1, o, none⟩ = false := fun o => ((bcell hb).2 _ _ (by omega)).trans (by simp [go_sem])
  clear hb
  rw [H.out]
  go_wp2_with fail
  refine (step_any t p 0 n _ (by omega) (by omega) (by omega) HM.out).mono ?_
  rintro e w2 ⟨rfl, hb⟩
  have hz2 : w1.heap.size ≤ w2.heap.size := by have := hb.size; rw [World.size_setCell] at this; exact this
  have hbw2 : Below w.heap.size w w2 := Below.trans (by go_grown) (hb.mono (by rw [World.size_setCell]; omega))
  have d3 : w2.cell? ⟨w.heap.size + 1, 0, none⟩ = some (.string { data := #[] }) := ((bcell hb).1 _ _ (by rw [World.size_setCell]; omega)).trans (by simp [go_sem, c3])
  have d4 : w2.cell? ⟨w.heap.size + 1, 1, none⟩ = some (.int .i64 0) := ((bcell hb).1 _ _ (by rw [World.size_setCell]; omega)).trans (by simp [go_sem, c4])
  have d5 : w2.cell? ⟨w.heap.size + 1, 2, none⟩ = some (.int .i64 0) := ((bcell hb).1 _ _ (by rw [World.size_setCell]; omega)).trans (by simp [go_sem, c5])
  have g1 : ∀ o, w2.frozen? ⟨w.heap.size + 1, o, none⟩ = false := fun o => ((bcell hb).2 _ _ (by rw [World.size_setCell]; omega)).trans (by simp [go_sem, f1])
  clear hb c0 c1 c2 c3 c4 c5 f0 f1 hbw
  obtain ⟨x, he⟩ : ∃ x, t.extract p.toNat (p + n).toNat = x := ⟨_, rfl⟩
  rw [he]
  have HE := Lib.hid he; clear he
  go_wp2_with fail
  refine bodyPost_ret (v := .tuple #[.string x, .agg #[.string t, .int .i64 (p + n), .int .i64 0]]) (by simp [results, Try.results91, go_sem, d3, d4, d5]) rfl ⟨by rw [HE.out], ?_⟩
  go_grown
theorem rest_no (t : ByteArray) (p q : Int) (w : World) (h : restBad t p q ≠ 0) : Calls Try.prog 89 #[.agg #[.string t, .int .i64 p, .int .i64 q]] w
    fun e w' => e = .returned (.string { data := #[] }) ∧ Below w.heap.size w w' := by
  have hne : (restBad t p q != 0) = true := by simp only [bne_iff_ne, ne_eq]; exact h
  clear h
  go_enter Try.func89, Try.ntmps89
  go_wp2_with fail
  refine (first_rest _ _ (by simp) t p q).mono ?_
  rintro e w1 ⟨rfl, hb⟩
  have hz : w.heap.size + 2 ≤ w1.heap.size := by have := hb.size; simp at this; omega
  have hbw : Below w.heap.size w w1 := Below.trans (by go_grown) (hb.mono (by omega))
  have c0 : w1.cell? ⟨w.heap.size, 0, none⟩ = some (.string t) := ((bcell hb).1 _ _ (by omega)).trans (by simp [go_sem])
  have c1 : w1.cell? ⟨w.heap.size, 1, none⟩ = some (.int .i64 p) := ((bcell hb).1 _ _ (by omega)).trans (by simp [go_sem])
  have c2 : w1.cell? ⟨w.heap.size, 2, none⟩ = some (.int .i64 q) := ((bcell hb).1 _ _ (by omega)).trans (by simp [go_sem])
  clear hb
  go_wp2_with fail
  go_ret
  exact ⟨rfl, hbw⟩
theorem rest_yes (t : ByteArray) (p : Int) (w : World) (hm : t.size ≤ maxLen) (h : restBad t p 0 = 0) (p0 : 0 ≤ p) (hp : p ≤ t.size) : Calls Try.prog 89 #[.agg #[.string t, .int .i64 p, .int .i64 0]] w
    fun e w' => e = .returned (.string (t.extract p.toNat t.size)) ∧ Below w.heap.size w w' := by
  have H := Lib.hid h; clear h
  unfold maxLen at hm
  go_enter Try.func89, Try.ntmps89
  go_wp2_with fail
  refine (first_rest _ _ (by simp) t p 0).mono ?_
  rintro e w1 ⟨rfl, hb⟩
  have hz : w.heap.size + 2 ≤ w1.heap.size := by have := hb.size; simp at this; omega
  have hbw : Below w.heap.size w w1 := Below.trans (by go_grown) (hb.mono (by omega))
  have c0 : w1.cell? ⟨w.heap.size, 0, none⟩ = some (.string t) := ((bcell hb).1 _ _ (by omega)).trans (by simp [go_sem])
  have c1 : w1.cell? ⟨w.heap.size, 1, none⟩ = some (.int .i64 p) := ((bcell hb).1 _ _ (by omega)).trans (by simp [go_sem])
  have c2 : w1.cell? ⟨w.heap.size, 2, none⟩ = some (.int .i64 0) := ((bcell hb).1 _ _ (by omega)).trans (by simp [go_sem])
  clear hb
  rw [H.out]
  go_wp2_with fail
  go_ret
  exact ⟨rfl, hbw⟩
theorem end_any (t : ByteArray) (p q : Int) (w : World) : Calls Try.prog 47 #[.agg #[.string t, .int .i64 p, .int .i64 q]] w
    fun e w' => e = .returned (.int .i64 (endV t p q)) ∧ Below w.heap.size w w' := by
  go_enter Try.func47, Try.ntmps47
  go_wp2_with fail
  refine (first_end _ _ (by simp) t p q).mono ?_
  rintro e w1 ⟨rfl, hb⟩
  have hz : w.heap.size + 2 ≤ w1.heap.size := by have := hb.size; simp at this; omega
  have hbw : Below w.heap.size w w1 := Below.trans (by go_grown) (hb.mono (by omega))
  have c0 : w1.cell? ⟨w.heap.size, 0, none⟩ = some (.string t) := ((bcell hb).1 _ _ (by omega)).trans (by simp [go_sem])
  have c1 : w1.cell? ⟨w.heap.size, 1, none⟩ = some (.int .i64 p) := ((bcell hb).1 _ _ (by omega)).trans (by simp [go_sem])
  have c2 : w1.cell? ⟨w.heap.size, 2, none⟩ = some (.int .i64 q) := ((bcell hb).1 _ _ (by omega)).trans (by simp [go_sem])
  clear hb
  go_wp2_with fail
  go_ret
  exact ⟨rfl, hbw⟩
end Go.Proofs.Ytbkodaijigcebaa
