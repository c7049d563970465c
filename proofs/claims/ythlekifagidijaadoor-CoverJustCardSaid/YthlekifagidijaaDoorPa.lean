/- Contracts of the program's fits, Check and Size of a rectangle. -/
import Derived.Test.YthlekifagidijaaDoorRh
import Derived.Test.YthlekifagidijaaDoorV
namespace Go.Proofs.YthlekifagidijaaDoor
open Go.RowKit
set_option linter.unusedVariables false
set_option linter.unusedSimpArgs false
def fitB (a b s : Int) : Bool := decide (0 ≤ a) && (decide (a ≤ b) && decide (b < s))
theorem fits_any (a b s : Int) (w : World) : Calls Tryd.prog 29 #[.int .i64 a, .int .i64 b, .int .i64 s] w fun e w' => e = .returned (.bool (fitB a b s)) ∧ w = w' := by
  unfold fitB
  by_cases g1 : 0 ≤ a
  · by_cases g2 : a ≤ b
    · by_cases g3 : b < s
      · rw [decide_eq_true g1, decide_eq_true g2, decide_eq_true g3]
        go_enter Tryd.func29, Tryd.ntmps29
        go_wp2
        go_ret
        exact ⟨rfl, rfl⟩
      · rw [decide_eq_true g1, decide_eq_true g2, decide_eq_false g3]
        go_enter Tryd.func29, Tryd.ntmps29
        go_wp2
        go_ret
        exact ⟨rfl, rfl⟩
    · rw [decide_eq_true g1, decide_eq_false g2]
      have g4 : decide (a ≤ b) = false := decide_eq_false g2
      go_enter Tryd.func29, Tryd.ntmps29
      go_wp2
      go_ret
      exact ⟨rfl, rfl⟩
  · rw [decide_eq_false g1]
    have g4 : decide (0 ≤ a) = false := decide_eq_false g1
    go_enter Tryd.func29, Tryd.ntmps29
    go_wp2
    go_ret
    exact ⟨rfl, rfl⟩
theorem fit_rect (z x0 y0 x1 y1 : Int) : RectIn z x0 y0 x1 y1 ↔ (fitB x0 x1 (sideV z) = true ∧ fitB y0 y1 (sideV z) = true) := by
  unfold RectIn fitB
  simp only [Bool.and_eq_true, decide_eq_true_eq]
  omega
theorem check_any (z x0 y0 x1 y1 : Int) (w : World) : Calls Tryd.prog 8 #[.agg #[.int .i64 z, .int .i64 x0, .int .i64 y0, .int .i64 x1, .int .i64 y1]] w fun e w' => e = .returned (.int .i64 (ckE z x0 y0 x1 y1)) ∧ Below w.heap.size w w' := by
  by_cases hz : Zoom z
  · obtain ⟨k, hk, rfl⟩ := zoom_nat z hz
    have hs := zsideV_in k hz
    rw [toN] at hs
    have hr := fit_rect k x0 y0 x1 y1
    rw [hs] at hr
    have ht := p2_top k hk
    have hp := p2_pos k
    have h1 := fun w => fits_any x0 x1 (p2 k) w
    have h2 := fun w => fits_any y0 y1 (p2 k) w
    by_cases f1 : fitB x0 x1 (p2 k) = true
    · by_cases f2 : fitB y0 y1 (p2 k) = true
      · rw [show ckE k x0 y0 x1 y1 = 0 from by unfold ckE; rw [if_pos hz, if_pos (hr.2 ⟨f1, f2⟩)]]
        rw [f1] at h1
        rw [f2] at h2
        have H1 := Lib.hid h1
        have H2 := Lib.hid h2
        have HP := Lib.hid (p2_pow k)
        clear h1 h2 f1 f2 hr hs hz
        generalize p2 k = P at *
        go_enter Tryd.func8, Tryd.ntmps8
        go_wp2_with fail
        rw [show wrap64 (2 ^ k) = P from by rw [HP.out, IntWalk.wrap64_in _ (by omega)]]
        refine (H1.out _).mono ?_
        rintro e w' ⟨rfl, rfl⟩
        go_wp2_with fail
        refine (H2.out _).mono ?_
        rintro e w' ⟨rfl, rfl⟩
        go_wp2_with fail
        go_ret
        exact ⟨rfl, by go_grown⟩
      · rw [show ckE k x0 y0 x1 y1 = 8 from by unfold ckE; rw [if_pos hz, if_neg (fun h => f2 (hr.1 h).2)]]
        rw [f1] at h1
        rw [show fitB y0 y1 (p2 k) = false from by simpa using f2] at h2
        have H1 := Lib.hid h1
        have H2 := Lib.hid h2
        have HP := Lib.hid (p2_pow k)
        clear h1 h2 f1 f2 hr hs hz
        generalize p2 k = P at *
        go_enter Tryd.func8, Tryd.ntmps8
        go_wp2_with fail
        rw [show wrap64 (2 ^ k) = P from by rw [HP.out, IntWalk.wrap64_in _ (by omega)]]
        refine (H1.out _).mono ?_
        rintro e w' ⟨rfl, rfl⟩
        go_wp2_with fail
        refine (H2.out _).mono ?_
        rintro e w' ⟨rfl, rfl⟩
        go_wp2_with fail
        go_ret
        exact ⟨rfl, by go_grown⟩
    · rw [show ckE k x0 y0 x1 y1 = 8 from by unfold ckE; rw [if_pos hz, if_neg (fun h => f1 (hr.1 h).1)]]
      rw [show fitB x0 x1 (p2 k) = false from by simpa using f1] at h1
      have H1 := Lib.hid h1
      have HP := Lib.hid (p2_pow k)
      clear h1 h2 f1 hr hs hz
      generalize p2 k = P at *
      go_enter Tryd.func8, Tryd.ntmps8
      go_wp2_with fail
      rw [show wrap64 (2 ^ k) = P from by rw [HP.out, IntWalk.wrap64_in _ (by omega)]]
      refine (H1.out _).mono ?_
      rintro e w' ⟨rfl, rfl⟩
      go_wp2_with fail
      go_ret
      exact ⟨rfl, by go_grown⟩
  · rw [show ckE z x0 y0 x1 y1 = 2 from by unfold ckE; rw [if_neg hz]]
    unfold Zoom at hz
    by_cases h0 : z < 0
    · go_enter Tryd.func8, Tryd.ntmps8
      go_wp2_with fail
      go_ret
      exact ⟨rfl, by go_grown⟩
    · have h26 : 26 < z := by omega
      go_enter Tryd.func8, Tryd.ntmps8
      go_wp2_with fail
      go_ret
      exact ⟨rfl, by go_grown⟩
theorem size_any (z x0 y0 x1 y1 : Int) (w : World) : Calls Tryd.prog 10 #[.agg #[.int .i64 z, .int .i64 x0, .int .i64 y0, .int .i64 x1, .int .i64 y1]] w fun e w' => e = .returned (.int .i64 (szV z x0 y0 x1 y1)) ∧ Below w.heap.size w w' := by
  have h0 := fun w => check_any z x0 y0 x1 y1 w
  by_cases h : ckE z x0 y0 x1 y1 = 0
  · rw [show szV z x0 y0 x1 y1 = (x1 - x0 + 1) * (y1 - y0 + 1) from if_pos h]
    obtain ⟨_, _, r1, r2, r3, r4, r5, r6⟩ := ck_in z x0 y0 x1 y1 h
    rw [h] at h0
    have H0 := Lib.hid h0
    have m0 := Int.mul_nonneg (show 0 ≤ x1 - x0 + 1 by omega) (show 0 ≤ y1 - y0 + 1 by omega)
    have m1 := Int.mul_le_mul (show x1 - x0 + 1 ≤ 67108864 by omega) (show y1 - y0 + 1 ≤ 67108864 by omega) (show 0 ≤ y1 - y0 + 1 by omega) (by omega)
    clear h0 h
    go_enter Tryd.func10, Tryd.ntmps10
    go_wp2_with fail
    refine (H0.out _).mono ?_
    rintro e w1 ⟨rfl, hb⟩
    obtain ⟨c0, c1, c2, c3, c4, _, hb1⟩ := kept5 hb
    clear hb
    go_wp2_with fail
    go_ret
    exact ⟨rfl, hb1⟩
  · rw [show szV z x0 y0 x1 y1 = 0 from if_neg h]
    have hne : (ckE z x0 y0 x1 y1 != 0) = true := by simpa using h
    have H0 := Lib.hid h0
    clear h0 h
    generalize ckE z x0 y0 x1 y1 = E at *
    go_enter Tryd.func10, Tryd.ntmps10
    go_wp2_with fail
    refine (H0.out _).mono ?_
    rintro e w1 ⟨rfl, hb⟩
    obtain ⟨c0, c1, c2, c3, c4, _, hb1⟩ := kept5 hb
    clear hb
    go_wp2_with fail
    go_ret
    exact ⟨rfl, hb1⟩
end Go.Proofs.YthlekifagidijaaDoor
