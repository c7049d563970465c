/- The contract of the program's Place: a tile's place, as the plain arithmetic tells it, or what is wrong. -/
import Derived.Test.YthlekifagidijaaDoorC
import Derived.Deep.QuietTactic
import Derived.Deep.RegionWith
import Derived.BigQuiet
namespace Go.Proofs.YthlekifagidijaaDoor
open Go.RowKit
set_option linter.unusedVariables false
theorem le_mul_pos (D a : Int) (h : 0 ≤ D) (ha : 1 ≤ a) : D ≤ D * a := by
  have := Int.mul_le_mul_of_nonneg_left ha h
  omega
/-- The four quarters: number, right, upper, swapped, turned. -/
def Quart (n : Nat) (r u : Int) (s t : Bool) : Prop :=
  (n = 0 ∧ r = 0 ∧ u = 0 ∧ s = true ∧ t = false) ∨ (n = 1 ∧ r = 0 ∧ u = 1 ∧ s = false ∧ t = false) ∨ (n = 2 ∧ r = 1 ∧ u = 1 ∧ s = false ∧ t = false) ∨ (n = 3 ∧ r = 1 ∧ u = 0 ∧ s = true ∧ t = true)
theorem quarter_of (m : Nat) (X Y : Int) (hi : In (m + 1) X Y) : ∃ (n : Nat) (r u : Int) (s t : Bool) (X' Y' : Int), Quart n r u s t ∧ X.tdiv (p2 m) = r ∧ Y.tdiv (p2 m) = u ∧ X.tmod (p2 m) = X' ∧ Y.tmod (p2 m) = Y' ∧
    0 ≤ X' ∧ X' < p2 m ∧ 0 ≤ Y' ∧ Y' < p2 m ∧ In m (thX s t (p2 m) X' Y') (thY s t (p2 m) X' Y') ∧ hpl (m + 1) X Y = n * p4 m + hpl m (thX s t (p2 m) X' Y') (thY s t (p2 m) X' Y') := by
  obtain ⟨x0, x1, y0, y1⟩ := hi
  have hp := p2_pos m
  simp only [p2] at x1 y1
  rw [hpl_succ]
  unfold In
  by_cases hx : X < p2 m
  · obtain ⟨e1, e2⟩ := quot_rest (p2 m) 0 X (by omega) (by omega) (by omega) (by omega)
    rw [if_pos hx]
    by_cases hy : Y < p2 m
    · obtain ⟨f1, f2⟩ := quot_rest (p2 m) 0 Y (by omega) (by omega) (by omega) (by omega)
      refine ⟨0, 0, 0, true, false, X, Y, Or.inl ⟨rfl, rfl, rfl, rfl, rfl⟩, e1, f1, by omega, by omega, by omega, by omega, by omega, by omega, ?_, ?_⟩
      · simp only [thX, thY, if_true, Bool.false_eq_true, if_false]; omega
      · rw [if_pos hy]; simp only [thX, thY, if_true, Bool.false_eq_true, if_false]; simp
    · obtain ⟨f1, f2⟩ := quot_rest (p2 m) 1 Y (by omega) (by omega) (by omega) (by omega)
      refine ⟨1, 0, 1, false, false, X, Y - p2 m, Or.inr (Or.inl ⟨rfl, rfl, rfl, rfl, rfl⟩), e1, f1, by omega, by omega, by omega, by omega, by omega, by omega, ?_, ?_⟩
      · simp only [thX, thY, Bool.false_eq_true, if_false]; omega
      · rw [if_neg hy]; simp only [thX, thY, Bool.false_eq_true, if_false]; simp
  · obtain ⟨e1, e2⟩ := quot_rest (p2 m) 1 X (by omega) (by omega) (by omega) (by omega)
    rw [if_neg hx]
    by_cases hy : p2 m ≤ Y
    · obtain ⟨f1, f2⟩ := quot_rest (p2 m) 1 Y (by omega) (by omega) (by omega) (by omega)
      refine ⟨2, 1, 1, false, false, X - p2 m, Y - p2 m, Or.inr (Or.inr (Or.inl ⟨rfl, rfl, rfl, rfl, rfl⟩)), e1, f1, by omega, by omega, by omega, by omega, by omega, by omega, ?_, ?_⟩
      · simp only [thX, thY, Bool.false_eq_true, if_false]; omega
      · rw [if_pos hy]; simp only [thX, thY, Bool.false_eq_true, if_false]; simp
    · obtain ⟨f1, f2⟩ := quot_rest (p2 m) 0 Y (by omega) (by omega) (by omega) (by omega)
      refine ⟨3, 1, 0, true, true, X - p2 m, Y, Or.inr (Or.inr (Or.inr ⟨rfl, rfl, rfl, rfl, rfl⟩)), e1, f1, by omega, by omega, by omega, by omega, by omega, by omega, ?_, ?_⟩
      · simp only [thX, thY, if_true]; omega
      · rw [if_neg hy]; simp only [thX, thY, if_true]; simp
theorem Quart.bd {n : Nat} {r u : Int} {s t : Bool} (h : Quart n r u s t) : n < 4 ∧ 0 ≤ r ∧ r ≤ 1 ∧ 0 ≤ u ∧ u ≤ 1 := by
  rcases h with ⟨rfl, rfl, rfl, _⟩ | ⟨rfl, rfl, rfl, _⟩ | ⟨rfl, rfl, rfl, _⟩ | ⟨rfl, rfl, rfl, _⟩ <;> omega
theorem Quart.cell {n : Nat} {r u : Int} {s t : Bool} (h : Quart n r u s t) {W : World} (hq : QTab W) : QCell W n r u s t := by
  rcases h with ⟨rfl, rfl, rfl, rfl, rfl⟩ | ⟨rfl, rfl, rfl, rfl, rfl⟩ | ⟨rfl, rfl, rfl, rfl, rfl⟩ | ⟨rfl, rfl, rfl, rfl, rfl⟩
  · exact hq.2.1
  · exact hq.2.2.1
  · exact hq.2.2.2.1
  · exact hq.2.2.2.2
theorem number_quart {n : Nat} {r u : Int} {s t : Bool} (h : Quart n r u s t) (w : World) (hq : QTab w) : Calls Tryd.prog 61 #[.int .i64 r, .int .i64 u] w fun e w' => e = .returned (.int .i64 n) ∧ w = w' := by
  have e : (n : Int) = numV r u := by
    rcases h with ⟨rfl, rfl, rfl, rfl, rfl⟩ | ⟨rfl, rfl, rfl, rfl, rfl⟩ | ⟨rfl, rfl, rfl, rfl, rfl⟩ | ⟨rfl, rfl, rfl, rfl, rfl⟩ <;> rfl
  rw [e]
  have := h.bd
  exact number_any r u (by omega) (by omega) w hq
def PlRel (k : Nat) (x0 y0 : Int) (w : World) (x y s d i : Value) (wr : World) : Prop :=
  ∃ (m : Nat) (X Y D : Int), m ≤ k ∧ i = .int .i64 ((k : Int) - m) ∧ s = .int .i64 (p2 m) ∧ x = .int .i64 X ∧ y = .int .i64 Y ∧ d = .int .u64 D ∧ In m X Y ∧ 0 ≤ D ∧ D * p4 m + hpl m X Y = hpl k x0 y0 ∧ Below w.heap.size w wr
set_option maxHeartbeats 2000000 in
theorem place_in (k : Nat) (hk : k ≤ 26) (x0 y0 : Int) (hin : In k x0 y0) (w : World) (hq : QTab w) : Calls Tryd.prog 46 #[.int .i64 k, .int .i64 x0, .int .i64 y0] w fun e w' => e = .returned (.tuple #[.int .u64 (hpl k x0 y0), .int .i64 0]) ∧ Below w.heap.size w w' := by
  have hs : sideV k = p2 k := by unfold sideV; rw [if_pos (by unfold Zoom; omega), toN]
  have hp := p2_pos k
  have hin' := hin
  obtain ⟨a0, a1, b0, b1⟩ := hin'
  have hb := hpl_bd k x0 y0 hin
  have ht := p4_top k hk
  have HIN := Lib.hid hin
  clear hin
  go_enter Tryd.func46, Tryd.ntmps46
  go_wp2_with fail
  refine (side_any _ _).mono ?_
  rw [hs]
  rintro e w' ⟨rfl, rfl⟩
  go_wp2_with fail
  go_loopw [1, 2, 8, 9, 32] (fun x y s d i wr => PlRel k x0 y0 w x y s d i wr) (fun x y s d i _ => k - (intOf i).toNat)
  case atStart => exact ⟨k, x0, y0, 0, Nat.le_refl _, by simp, rfl, rfl, rfl, rfl, HIN.out, Int.le_refl _, by omega, Below.refl _ _⟩
  case round =>
    obtain ⟨m, X, Y, D, hm, rfl, rfl, rfl, rfl, rfl, hi, hd, he, hbw⟩ := hrel
    have hQ := hq.below hbw
    have hlo := hpl_bd m X Y hi
    have h4 := p4_pos m
    have h5 := le_mul_pos D (p4 m) hd h4
    cases m with
    | zero =>
      go_wp2_with fail
      go_ret2
      exact ⟨by simp [p4, hpl] at he ⊢; omega, hbw⟩
    | succ m =>
      have h2t := p2_top m (by omega)
      have h2 := p2_pos m
      have hh := half m
      rw [show p2 (m + 1) = 2 * p2 m from rfl]
      obtain ⟨n, r, u, s, t, X', Y', hqt, e1, e2, e3, e4, X0, X1, Y0, Y1, hi', he'⟩ := quarter_of m X Y hi
      generalize hS : p2 m = S at *
      have hnext : (D * 4 + n) * p4 m + hpl m (thX s t S X' Y') (thY s t S X' Y') = hpl k x0 y0 := by
        rw [← he, he', p4, Int.add_mul, Int.mul_assoc]; omega
      have hD : D * 4 + n < 18014398509481984 := by
        rcases hqt with ⟨rfl, _⟩ | ⟨rfl, _⟩ | ⟨rfl, _⟩ | ⟨rfl, _⟩ <;> omega
      have HN := Lib.hid hnext; clear hnext
      have HI := Lib.hid hi'; clear hi'
      clear he' he hlo hi h5 hb
      have HQ := Lib.hid hQ; clear hQ
      have hqb := hqt.bd
      have HT := Lib.hid hqt; clear hqt
      have wr1 : IntKind.i64.wrap r = r := IntWalk.i64_in _ (by omega)
      have wu1 : IntKind.i64.wrap u = u := IntWalk.i64_in _ (by omega)
      have wx1 : IntKind.i64.wrap X' = X' := IntWalk.i64_in _ (by omega)
      have wy1 : IntKind.i64.wrap Y' = Y' := IntWalk.i64_in _ (by omega)
      go_wp2_with fail
      go_region_with (go_at_call 61; refine (number_quart HT.out _ (HQ.out.below (by go_grown))).mono ?_; rintro e w' ⟨rfl, rfl⟩)
      all_goals
        go_wp2_with fail
        obtain ⟨c0, c1, c2, c3⟩ := HT.out.cell HQ.out
        rw [Nat.mul_comm 4 n] at c0 c1 c2 c3
        have hn4 : (n : Int) < 4 := by omega
        go_region_with (go_at_call 62; refine (through_any r u s t S X' Y' (by omega) (by omega) (by omega) _).mono ?_; rintro e w' ⟨rfl, hb2⟩)
        all_goals
          go_wp2_with fail
          refine ⟨⟨m, _, _, _, by omega, by congr 1; omega, by rw [hS], rfl, rfl, rfl, HI.out, by omega, HN.out, hbw.drew.drew.trans (hb2.mono hbw.size)⟩, ?_⟩
          simp only [intOf]; omega
/-- Where a tile's place is told, and what is wrong where none is. -/
def Tile (z x y : Int) : Prop := Zoom z ∧ In z.toNat x y
def plD (z x y : Int) : Int := if Zoom z ∧ 0 ≤ x ∧ x < sideV z ∧ 0 ≤ y ∧ y < sideV z then hpl z.toNat x y else 0
def plE (z x y : Int) : Int := if Zoom z then (if 0 ≤ x ∧ x < sideV z ∧ 0 ≤ y ∧ y < sideV z then 0 else 8) else 2
theorem sideV_in (z : Int) (h : Zoom z) : sideV z = p2 z.toNat := if_pos h
theorem sideV_no (z : Int) (h : ¬ Zoom z) : sideV z = 0 := if_neg h
theorem place_any (z x y : Int) (w : World) (hq : QTab w) : Calls Tryd.prog 46 #[.int .i64 z, .int .i64 x, .int .i64 y] w fun e w' => e = .returned (.tuple #[.int .u64 (plD z x y), .int .i64 (plE z x y)]) ∧ Below w.heap.size w w' := by
  by_cases hz : Zoom z
  · have hs := sideV_in z hz
    have hp := p2_pos z.toNat
    by_cases ht : 0 ≤ x ∧ x < sideV z ∧ 0 ≤ y ∧ y < sideV z
    · rw [show plD z x y = hpl z.toNat x y from if_pos ⟨hz, ht⟩, show plE z x y = 0 from by unfold plE; rw [if_pos hz, if_pos ht]]
      obtain ⟨k, rfl⟩ : ∃ k : Nat, z = k := ⟨z.toNat, by unfold Zoom at hz; omega⟩
      rw [hs, toN] at ht
      exact place_in k (by unfold Zoom at hz; omega) x y ht w hq
    · rw [show plD z x y = 0 from if_neg (fun h => ht h.2), show plE z x y = 8 from by unfold plE; rw [if_pos hz, if_neg ht]]
      generalize p2 z.toNat = S at *
      rw [hs] at ht
      have HT := Lib.hid ht; clear ht
      have h0 := (side_any z w)
      rw [hs] at h0
      by_cases c1 : x < 0
      · go_enter Tryd.func46, Tryd.ntmps46
        go_wp2_with fail
        refine h0.mono ?_
        rintro e w' ⟨rfl, rfl⟩
        go_wp2_with fail
        go_ret2
        exact ⟨rfl, Below.refl _ _⟩
      · by_cases c2 : S ≤ x
        · go_enter Tryd.func46, Tryd.ntmps46
          go_wp2_with fail
          refine h0.mono ?_
          rintro e w' ⟨rfl, rfl⟩
          go_wp2_with fail
          go_ret2
          exact ⟨rfl, Below.refl _ _⟩
        · by_cases c3 : y < 0
          · go_enter Tryd.func46, Tryd.ntmps46
            go_wp2_with fail
            refine h0.mono ?_
            rintro e w' ⟨rfl, rfl⟩
            go_wp2_with fail
            go_ret2
            exact ⟨rfl, Below.refl _ _⟩
          · have c4 : S ≤ y := by have := HT.out; omega
            go_enter Tryd.func46, Tryd.ntmps46
            go_wp2_with fail
            refine h0.mono ?_
            rintro e w' ⟨rfl, rfl⟩
            go_wp2_with fail
            go_ret2
            exact ⟨rfl, Below.refl _ _⟩
  · rw [show plD z x y = 0 from if_neg (fun h => hz h.1), show plE z x y = 2 from by unfold plE; rw [if_neg hz]]
    have h0 := (side_any z w)
    rw [sideV_no z hz] at h0
    go_enter Tryd.func46, Tryd.ntmps46
    go_wp2_with fail
    refine h0.mono ?_
    rintro e w' ⟨rfl, rfl⟩
    go_wp2_with fail
    go_ret2
    exact ⟨rfl, Below.refl _ _⟩
end Go.Proofs.YthlekifagidijaaDoor
