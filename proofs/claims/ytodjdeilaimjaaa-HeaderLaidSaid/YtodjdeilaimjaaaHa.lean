/- Contracts of the small functions of both sides: flag, End, fits, between, sorted numbers; each computes what its plain function says. -/
import Derived.Test.YtodjdeilaimjaaaHp
import Derived.Test.YtodjdeilaimjaaaW
import Derived.BigQuiet
import Derived.Deep.RegionWith
namespace Go.Proofs.Ytodjdeilaimjaaa
open Go.RowKit
set_option linter.unusedVariables false
theorem flag_any (b : Bool) (w : World) : Calls Try.prog 23 #[.bool b] w fun e w' => e = .returned (.int .u8 (cl01 b)) ∧ w = w' := by
  cases b
  · go_enter Try.func23, Try.ntmps23
    go_wp2
    go_ret
    exact ⟨rfl, rfl⟩
  · go_enter Try.func23, Try.ntmps23
    go_wp2
    go_ret
    exact ⟨rfl, rfl⟩
theorem end_sec (f l : Int) (w : World) : Calls Try.prog 15 #[.agg #[.int .u64 f, .int .u64 l]] w fun e w' => e = .returned (.int .u64 (IntKind.u64.wrap (f + l))) ∧ Below w.heap.size w w' := by
  go_enter Try.func15, Try.ntmps15
  go_wp2
  go_ret
  exact ⟨rfl, (Below.refl _ _).alloc (Nat.le_refl _) _⟩
theorem ret_bool {a b : Bool} (h : a = b) : Ending.returned (.bool a) = .returned (.bool b) := by rw [h]
theorem between_any (n lo hi : Int) (w : World) : Calls Try.prog 31 #[.int .i64 n, .int .i64 lo, .int .i64 hi] w fun e w' => e = .returned (.bool (decide (lo ≤ n) && decide (n ≤ hi))) ∧ w = w' := by
  cases h : decide (lo ≤ n)
  · go_enter Try.func31, Try.ntmps31
    go_wp2
    go_ret
    exact ⟨rfl, rfl⟩
  · go_enter Try.func31, Try.ntmps31
    go_wp2
    go_ret
    exact ⟨rfl, rfl⟩
theorem fits_any (f l : Int) (w : World) (hf : U64 f) (hl : U64 l) : Calls Try.prog 27 #[.agg #[.int .u64 f, .int .u64 l]] w fun e w' => e = .returned (.bool (secB f l)) ∧ Below w.heap.size w w' := by
  unfold U64 at hf hl
  by_cases h : f ≤ 1099511627776
  · have hd : decide (f ≤ 1099511627776) = true := by simpa using h
    have hw : IntKind.u64.wrap (1099511627776 - f) = 1099511627776 - f := by rw [wrap_u64]; omega
    have he : Hid (decide (l ≤ 1099511627776 - f) = secB f l) := by
      apply Lib.hid
      unfold secB
      rw [hd, Bool.true_and, Bool.eq_iff_iff, Bool.and_eq_true, decide_eq_true_eq, decide_eq_true_eq, decide_eq_true_eq]
      omega
    clear h hf hl
    go_enter Try.func27, Try.ntmps27
    go_wp2
    go_ret
    exact ⟨ret_bool he.out, (Below.refl _ _).alloc (Nat.le_refl _) _⟩
  · have hd : decide (f ≤ 1099511627776) = false := by simpa using h
    have he : Hid (false = secB f l) := by
      apply Lib.hid
      unfold secB
      rw [hd, Bool.false_and]
    clear h hf hl
    go_enter Try.func27, Try.ntmps27
    go_wp2
    go_ret
    exact ⟨ret_bool he.out, (Below.refl _ _).alloc (Nat.le_refl _) _⟩
theorem rfits_any (f l : Int) (w : World) (hf : U64 f) (hl : U64 l) : Calls Try.prog 30 #[.agg #[.int .u64 f, .int .u64 l]] w fun e w' => e = .returned (.bool (secB f l)) ∧ Below w.heap.size w w' := by
  unfold U64 at hf hl
  by_cases h : f ≤ 1099511627776
  · have hd : decide (f ≤ 1099511627776) = true := by simpa using h
    by_cases g : l ≤ 1099511627776
    · have hg : decide (l ≤ 1099511627776) = true := by simpa using g
      have hw : IntKind.u64.wrap (f + l) = f + l := by rw [wrap_u64]; omega
      have he : Hid (decide (f + l ≤ 1099511627776) = secB f l) := by
        apply Lib.hid
        unfold secB
        rw [hd, hg, Bool.true_and, Bool.true_and]
      clear h g hf hl
      go_enter Try.func30, Try.ntmps30
      go_wp2
      go_ret
      exact ⟨ret_bool he.out, (Below.refl _ _).alloc (Nat.le_refl _) _⟩
    · have hg : decide (l ≤ 1099511627776) = false := by simpa using g
      have he : Hid (false = secB f l) := by
        apply Lib.hid
        unfold secB
        rw [hd, hg, Bool.true_and, Bool.false_and]
      clear h g hf hl
      go_enter Try.func30, Try.ntmps30
      go_wp2
      go_ret
      exact ⟨ret_bool he.out, (Below.refl _ _).alloc (Nat.le_refl _) _⟩
  · have hd : decide (f ≤ 1099511627776) = false := by simpa using h
    have he : Hid (false = secB f l) := by
      apply Lib.hid
      unfold secB
      rw [hd, Bool.false_and]
    clear h hf hl
    go_enter Try.func30, Try.ntmps30
    go_wp2
    go_ret
    exact ⟨ret_bool he.out, (Below.refl _ _).alloc (Nat.le_refl _) _⟩
theorem nan_any (x : Int) (w : World) : Calls Try.prog 60 #[.int .i64 x] w fun e w' => e = .returned (.bool false) ∧ w = w' := by
  have h : (x != x) = false := by simp
  go_enter Try.func60, Try.ntmps60
  go_wp2
  go_ret
  exact ⟨rfl, rfl⟩
theorem less_any (x y : Int) (w : World) : Calls Try.prog 59 #[.int .i64 x, .int .i64 y] w fun e w' => e = .returned (.bool (decide (x < y))) ∧ w = w' := by
  go_enter Try.func59, Try.ntmps59
  go_wp2_with (go_at_call 60; refine (nan_any _ _).mono ?_; rintro e w' ⟨rfl, rfl⟩)
  go_ret
  exact ⟨rfl, rfl⟩
theorem less_q (x y : Int) (w : World) : Calls Try.prog 59 #[.int .i64 x, .int .i64 y] w fun e w' => e = .returned (.bool (decide (x < y))) ∧ w' = w := (less_any x y w).mono fun _ _ ⟨h, g⟩ => ⟨h, g.symm⟩
/-- A row of ints of some kind that stands where the slice v leads. -/
def NumsAt (k : IntKind) (w : World) (v : Value) (l : List Int) : Prop :=
  ∃ b cap, v = .slice (some ⟨b, 0, none⟩) l.length cap ∧ l.length ≤ cap ∧ cap ≤ maxLen ∧ b < w.heap.size ∧ ∀ i, i < l.length → w.cell? ⟨b, i, none⟩ = some (.int k (l.getD i 0))
theorem NumsAt.below {k : IntKind} {w w' : World} {v : Value} {l : List Int} (h : NumsAt k w v l) (hb : Below w.heap.size w w') : NumsAt k w' v l := by
  obtain ⟨b, cap, h1, h2, h3, h4, h5⟩ := h
  exact ⟨b, cap, h1, h2, h3, Nat.lt_of_lt_of_le h4 hb.size, fun i hi => (hb.cell (p := ⟨b, i, none⟩) h4).trans (h5 i hi)⟩
/-- None is below the one ahead of it. -/
def riseP (l : List Int) : Prop := ∀ i, i + 1 < l.length → l.getD i 0 ≤ l.getD (i + 1) 0
theorem below_drewN {B : Nat} {w w' : World} (h : Below B w w') (n : Nat) : Below B w (w'.drewN n) := h.trans ⟨rfl, rfl, rfl, Nat.le_refl _, fun _ _ => rfl⟩
theorem sorted_any (v : Value) (l : List Int) (w : World) (hv : NumsAt .i64 w v l) : Calls Try.prog 57 #[v] w fun e w' => ∃ b, e = .returned (.bool b) ∧ (b = true ↔ riseP l) ∧ Below w.heap.size w w' := by
  obtain ⟨b, cap, rfl, hc1, hc2, hb, hcell⟩ := hv
  have HC := Lib.hid hcell; clear hcell
  have hml : l.length ≤ 9223372036854775807 := by unfold maxLen at hc2; omega
  have hw : IntKind.i64.wrap ((l.length : Int) - 1) = (l.length : Int) - 1 := by rw [IntKind.wrap_i64] <;> omega
  go_enter Try.func57, Try.ntmps57
  go_wp2_with fail
  go_loopw [3] (fun i wr => ∃ k : Nat, k ≤ l.length ∧ i = .int .i64 ((k : Int) - 1) ∧ (∀ j, k ≤ j + 1 → j + 1 < l.length → l.getD j 0 ≤ l.getD (j + 1) 0) ∧ Below w.heap.size w wr) (fun i _ => (intOf i + 1).toNat)
  case atStart => exact ⟨l.length, Nat.le_refl _, rfl, fun j h1 h2 => by omega, Below.refl _ _⟩
  case round =>
    obtain ⟨k, hk, rfl, hr, hbw⟩ := hrel
    have HR := Lib.hid hr; clear hr
    by_cases h2 : 2 ≤ k
    · obtain ⟨j, rfl⟩ : ∃ j, k = j + 2 := ⟨k - 2, by omega⟩
      have e1 : ((j + 2 : Nat) : Int) - 1 = ((j + 1 : Nat) : Int) := by omega
      rw [e1]
      clear e1
      have c1 := (hbw.cell (p := ⟨b, j + 1, none⟩) hb).trans (HC.out (j + 1) (by omega))
      have c0 := (hbw.cell (p := ⟨b, j, none⟩) hb).trans (HC.out j (by omega))
      obtain ⟨y, hy⟩ : ∃ y, l.getD (j + 1) 0 = y := ⟨_, rfl⟩
      obtain ⟨x, hx⟩ : ∃ x, l.getD j 0 = x := ⟨_, rfl⟩
      rw [hy] at c1
      rw [hx] at c0
      have HX := Lib.hid hx
      have HY := Lib.hid hy
      clear hx hy
      obtain ⟨i, hi⟩ : ∃ i, j + 1 = i := ⟨_, rfl⟩
      rw [hi] at c1 ⊢
      have hgt : decide (0 < (i : Int)) = true := by simp; omega
      have hsub : (i : Int) - 1 = (j : Int) := by omega
      have hwj : IntKind.i64.wrap (j : Int) = (j : Int) := by rw [IntKind.wrap_i64] <;> omega
      have hi1 : i < l.length := by omega
      have HI := Lib.hid hi; clear hi
      have hj1 : j < l.length := by omega
      by_cases hlt : y < x
      · have hd : decide (y < x) = true := by simpa using hlt
        have HB := Lib.hid hbw; clear hbw
        go_wp2_with fail
        go_quiet (first | (go_at_call 59; (with_reducible refine Calls.quiet_of_same (less_q _ _ _))) | fail)
        go_wp2_with fail
        go_ret
        refine ⟨false, rfl, ⟨fun h => (by cases h), fun h => ?_⟩, below_drewN HB.out nq⟩
        have hle := h j (by rw [HI.out]; exact hi1)
        rw [HX.out, HY.out] at hle
        omega
      · have hd : decide (y < x) = false := by simpa using hlt
        go_wp2_with fail
        go_quiet (first | (go_at_call 59; (with_reducible refine Calls.quiet_of_same (less_q _ _ _))) | fail)
        go_wp2_with fail
        go_roundw
        case rel =>
          refine ⟨i, by omega, by congr 1; omega, fun m h1 h3 => ?_, below_drewN hbw nq⟩
          rcases Nat.lt_or_ge m i with h4 | h4
          · obtain rfl : m = j := by have := HI.out; omega
            rw [HX.out, HY.out]
            exact hlt
          · exact HR.out m (by have := HI.out; omega) h3
        case measure => simp [intOf]; omega
    · go_wp2_with fail
      go_ret
      exact ⟨true, rfl, ⟨fun _ m hm => HR.out m (by omega) hm, fun _ => rfl⟩, hbw⟩
theorem rises_any (v : Value) (l : List Int) (w : World) (hv : NumsAt .i64 w v l) : Calls Try.prog 41 #[v] w fun e w' => ∃ b, e = .returned (.bool b) ∧ (b = true ↔ riseP l) ∧ Below w.heap.size w w' := by
  have HV := Lib.hid hv; clear hv
  go_enter Try.func41, Try.ntmps41
  go_wp2_with fail
  refine (sorted_any v l w HV.out).mono ?_
  rintro e w1 ⟨b, rfl, hb, hbw⟩
  go_wp2_with fail
  go_ret
  exact ⟨b, rfl, hb, hbw⟩
end Go.Proofs.Ytodjdeilaimjaaa
