/- Contracts of little's checks held and placed, and of first: over a row of function values that each answer a number whatever the world, first answers the first that is not 0. -/
import Derived.Test.YtodjdeilaimjaaaA
namespace Go.Proofs.Ytodjdeilaimjaaa
open Go.RowKit
theorem held_any (t : ByteArray) (p b : Int) (w : World) : Calls Try.prog 43 #[.agg #[.string t, .int .i64 p, .int .i64 b]] w fun e w' => e = .returned (.int .i64 b) ∧ Below w.heap.size w w' := by
  go_enter Try.func43, Try.ntmps43
  go_wp2
  go_ret
  exact ⟨rfl, (Below.refl _ _).alloc (Nat.le_refl _) _⟩
theorem placed_yes (t : ByteArray) (p b : Int) (w : World) (h0 : 0 ≤ p) (h1 : p ≤ t.size) : Calls Try.prog 44 #[.agg #[.string t, .int .i64 p, .int .i64 b]] w fun e w' => e = .returned (.int .i64 0) ∧ Below w.heap.size w w' := by
  go_enter Try.func44, Try.ntmps44
  go_wp2
  go_ret
  exact ⟨rfl, (Below.refl _ _).alloc (Nat.le_refl _) _⟩
theorem placed_no (t : ByteArray) (p b : Int) (w : World) (h : p < 0 ∨ t.size < p) : Calls Try.prog 44 #[.agg #[.string t, .int .i64 p, .int .i64 b]] w fun e w' => e = .returned (.int .i64 2) ∧ Below w.heap.size w w' := by
  rcases h with h | h
  · go_enter Try.func44, Try.ntmps44
    go_wp2
    go_ret
    exact ⟨rfl, (Below.refl _ _).alloc (Nat.le_refl _) _⟩
  · have h0 : ¬ p < 0 := by omega
    go_enter Try.func44, Try.ntmps44
    go_wp2
    go_ret
    exact ⟨rfl, (Below.refl _ _).alloc (Nat.le_refl _) _⟩
/-- The first of the answers that is not 0. -/
def firstOf : List Int → Int
  | [] => 0
  | r :: t => if r = 0 then firstOf t else r
def Upto (rs : List Int) (k : Nat) : Prop := firstOf (rs.drop k) = firstOf rs
theorem firstOf_zero (rs : List Int) (k : Nat) (h : k < rs.length) (hz : rs.getD k 0 = 0) : firstOf (rs.drop (k + 1)) = firstOf (rs.drop k) := by
  rw [List.drop_eq_getElem_cons h]
  have : rs[k] = 0 := by simpa [h] using hz
  simp [firstOf, this]
theorem firstOf_hit (rs : List Int) (k : Nat) (h : k < rs.length) (hz : rs.getD k 0 ≠ 0) : rs.getD k 0 = firstOf (rs.drop k) := by
  rw [List.drop_eq_getElem_cons h]
  have e : rs.getD k 0 = rs[k] := by simp [h]
  rw [e] at hz ⊢
  simp [firstOf, hz]
/-- The i-th check, at its cell, answers r, whatever the world. -/
def Asks (w : World) (b i : Nat) (r : Int) : Prop := ∃ f caps, w.cell? ⟨b, i, none⟩ = some (.func (.func f) caps #[]) ∧ (∀ W, Sem.run Try.prog (callFunc f caps) W = .ok (.enter f caps) W) ∧ ∀ W, Calls Try.prog f caps W fun e W' => e = .returned (.int .i64 r) ∧ Below W.heap.size W W'
theorem ret_int {k : IntKind} {a b : Int} (h : a = b) : Ending.returned (.int k a) = .returned (.int k b) := by rw [h]
theorem first_any (b len : Nat) (rs : List Int) (w : World) (hb : b < w.heap.size) (hl : rs.length = len) (hm : len ≤ 4) (hA : ∀ i, i < len → Asks w b i (rs.getD i 0)) :
    Calls Try.prog 42 #[.slice (some ⟨b, 0, none⟩) len len] w fun e w' => e = .returned (.int .i64 (firstOf rs)) ∧ Below w.heap.size w w' := by
  have HA := Lib.hid hA; clear hA
  have HL := Lib.hid hl; clear hl
  go_enter Try.func42, Try.ntmps42
  go_wp2
  go_loopw [8] (fun i wr => ∃ k : Nat, k ≤ len ∧ i = .int .i64 k ∧ Upto rs k ∧ Below w.heap.size w wr) (fun i _ => len - (intOf i).toNat)
  case atStart => exact ⟨0, Nat.zero_le _, rfl, by simp [Upto], Below.refl _ _⟩
  case round =>
    obtain ⟨k, hk, rfl, hu, hbw⟩ := hrel
    by_cases hlt : k < len
    · obtain ⟨f, caps, hcell, hrun, hc⟩ := HA.out k hlt
      have hcell' := (hbw.cell (p := ⟨b, k, none⟩) hb).trans hcell
      clear hcell
      have HC := Lib.hid hc; clear hc
      by_cases hz : rs.getD k 0 = 0
      · have hU : Upto rs (k + 1) := (firstOf_zero rs k (by rw [HL.out]; exact hlt) hz).trans hu
        have hz' : (rs.getD k 0 != 0) = false := by simp only [hz]; rfl
        have HZ := Lib.hid hz; clear hz
        generalize rs.getD k 0 = r at *
        go_wp2_with (with_reducible (refine (HC.out _).mono ?_); rintro e w1 ⟨rfl, hb1⟩)
        go_roundw
        case rel => exact ⟨k + 1, by omega, by go_num, hU, hbw.trans (hb1.mono hbw.size)⟩
        case measure => simp [intOf]; omega
      · have hU : rs.getD k 0 = firstOf rs := (firstOf_hit rs k (by rw [HL.out]; exact hlt) hz).trans hu
        have hz' : (rs.getD k 0 != 0) = true := by simp only [bne_iff_ne, ne_eq]; exact hz
        have HU := Lib.hid hU; clear hU
        clear hz
        generalize rs.getD k 0 = r at *
        go_wp2_with (with_reducible (refine (HC.out _).mono ?_); rintro e w1 ⟨rfl, hb1⟩)
        go_ret
        exact ⟨ret_int HU.out, hbw.trans (hb1.mono hbw.size)⟩
    · obtain rfl : k = len := by omega
      go_wp2
      go_ret
      refine ⟨ret_int ?_, hbw⟩
      rw [← hu, ← HL.out, List.drop_length]; rfl
end Go.Proofs.Ytodjdeilaimjaaa
