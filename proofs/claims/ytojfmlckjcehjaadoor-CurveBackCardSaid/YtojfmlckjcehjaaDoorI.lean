/- The walk of CurveSteps: the tile behind a tile is its neighbour, and has the next place; just the one at the end of the first row has none. -/
import Derived.Test.YtojfmlckjcehjaaDoorG
namespace Go.Proofs.YtojfmlckjcehjaaDoor
open Go.RowKit
set_option linter.unusedVariables false
/-- A tile's place and what is wrong, by the square. -/
theorem pl_tile (z x y : Int) (hz : Zoom z) (h : In z.toNat x y) : plD z x y = hpl z.toNat x y ∧ plE z x y = 0 := by
  have h' := h
  unfold In at h'
  rw [← sideV_in z hz] at h'
  exact ⟨if_pos ⟨hz, h'⟩, by unfold plE; rw [if_pos hz, if_pos h']⟩
theorem steps_facts (z x y : Int) (he : plE z x y = 0) (hl : plD z x y + 1 < p4 z.toNat) :
    nxE z x y = 0 ∧ plD z (nxX z x y) (nxY z x y) = plD z x y + 1 ∧ plE z (nxX z x y) (nxY z x y) = 0 ∧ Near (x, y) (nxX z x y, nxY z x y) ∧ In z.toNat x y ∧ In z.toNat (nxX z x y) (nxY z x y) := by
  obtain ⟨hz, hin, e, b0, b1⟩ := pl_in z x y he
  have ex : nxX z x y = (hptX z.toNat (plD z x y + 1)).1 := by unfold nxX; rw [if_pos he]; exact (pt_in z _ hz hl).1
  have ey : nxY z x y = (hptX z.toNat (plD z x y + 1)).2 := by unfold nxY; rw [if_pos he]; exact (pt_in z _ hz hl).2.1
  have hi := hpt_in z.toNat (plD z x y + 1) (by omega) hl
  have hh := hpl_hpt z.toNat (plD z x y + 1) (by omega) hl
  have hn := hpt_near z.toNat (plD z x y) b0 hl
  rw [e, hpt_hpl z.toNat x y hin, ← e] at hn
  rw [ex, ey]
  obtain ⟨f1, f2⟩ := pl_tile z _ _ hz hi
  exact ⟨by unfold nxE; rw [if_pos he, if_pos hl], by rw [f1, hh], f2, hn, hin, hi⟩
theorem steps_last (z x y : Int) (he : plE z x y = 0) (hl : ¬ plD z x y + 1 < p4 z.toNat) : nxE z x y = 6 ∧ y = 0 ∧ x = sideV z - 1 := by
  obtain ⟨hz, hin, e, b0, b1⟩ := pl_in z x y he
  have hd : plD z x y = p4 z.toNat - 1 := by omega
  have := hpt_last z.toNat
  rw [← hd, e, hpt_hpl z.toNat x y hin] at this
  simp only [Prod.mk.injEq] at this
  rw [sideV_in z hz]
  exact ⟨by unfold nxE; rw [if_pos he, if_neg hl], this.2, this.1⟩
theorem steps_walk (z x y : Int) (w : World) (hq : QTab w) : Calls Tryd.prog 6 #[.int .i64 z, .int .i64 x, .int .i64 y] w fun e w' => e = .returned (.bool true) ∧ Below w.heap.size w w' := by
  have H1 := Lib.hid (fun w hq => place_any z x y w hq)
  have H3 := Lib.hid (fun w hq => next_any z x y w hq)
  by_cases he : plE z x y = 0
  · by_cases hl : plD z x y + 1 < p4 z.toNat
    · obtain ⟨f1, f2, f3, f4, f5, f6⟩ := steps_facts z x y he hl
      obtain ⟨hz, _, _, b0, b1⟩ := pl_in z x y he
      have h4 := p4_top z.toNat (by unfold Zoom at hz; omega)
      have h2 := p2_top z.toNat (by unfold Zoom at hz; omega)
      rw [he] at H1
      rw [f1] at H3
      have H2 := Lib.hid (fun w hq => place_any z (nxX z x y) (nxY z x y) w hq)
      rw [f2, f3] at H2
      clear f1 f2 f3 he
      unfold In at f5 f6
      generalize nxX z x y = a at *
      generalize nxY z x y = b at *
      generalize plD z x y = D at *
      generalize p4 z.toNat = A at *
      generalize p2 z.toNat = S at *
      have H4 := Lib.hid (fun w => worth_any (a - x) (by omega) (by omega) w)
      have H5 := Lib.hid (fun w => worth_any (b - y) (by omega) (by omega) w)
      have hsum : (if a - x < 0 then -(a - x) else a - x) + (if b - y < 0 then -(b - y) else b - y) = 1 := by
        unfold Near at f4; dsimp only at f4
        split <;> split <;> omega
      have hb1 : 0 ≤ (if a - x < 0 then -(a - x) else a - x) ∧ (if a - x < 0 then -(a - x) else a - x) ≤ 1 := by
        unfold Near at f4; dsimp only at f4
        split <;> omega
      generalize (if a - x < 0 then -(a - x) else a - x) = p at *
      generalize (if b - y < 0 then -(b - y) else b - y) = q at *
      clear f4
      go_enter Tryd.func6, Tryd.ntmps6
      go_wp2_with fail
      refine (H1.out w hq).mono ?_
      rintro e w1 ⟨rfl, hb⟩
      go_wp2_with fail
      refine (H3.out w1 (hq.below hb)).mono ?_
      rintro e w2 ⟨rfl, hb2⟩
      replace hb := hb.trans (hb2.mono hb.size)
      clear hb2
      go_wp2_with fail
      refine (H2.out w2 (hq.below hb)).mono ?_
      rintro e w3 ⟨rfl, hb2⟩
      replace hb := hb.trans (hb2.mono hb.size)
      clear hb2
      go_wp2_with fail
      refine (H4.out w3).mono ?_
      rintro e w' ⟨rfl, rfl⟩
      go_wp2_with fail
      refine (H5.out w3).mono ?_
      rintro e w' ⟨rfl, rfl⟩
      go_wp2_with fail
      refine (awake_any w3 (hq.below hb)).mono ?_
      rintro e w4 ⟨rfl, hb2⟩
      replace hb := hb.trans (hb2.mono hb.size)
      clear hb2
      go_wp2_with fail
      go_ret
      exact ⟨rfl, hb⟩
    · obtain ⟨f1, rfl, rfl⟩ := steps_last z x y he hl
      obtain ⟨hz, _, _, b0, b1⟩ := pl_in z _ _ he
      have h2 := p2_top z.toNat (by unfold Zoom at hz; omega)
      have h2p := p2_pos z.toNat
      have H5 := Lib.hid (fun w => side_any z w)
      rw [he] at H1
      rw [f1] at H3
      have hS := sideV_in z hz
      clear he hl f1 b0 b1
      generalize nxX z (sideV z - 1) 0 = a at *
      generalize nxY z (sideV z - 1) 0 = b at *
      generalize plD z (sideV z - 1) 0 = D at *
      generalize sideV z = S at *
      rw [← hS] at h2 h2p
      clear hS
      go_enter Tryd.func6, Tryd.ntmps6
      go_wp2_with fail
      refine (H1.out w hq).mono ?_
      rintro e w1 ⟨rfl, hb⟩
      go_wp2_with fail
      refine (H3.out w1 (hq.below hb)).mono ?_
      rintro e w2 ⟨rfl, hb2⟩
      replace hb := hb.trans (hb2.mono hb.size)
      clear hb2
      go_wp2_with fail
      refine (H5.out w2).mono ?_
      rintro e w' ⟨rfl, rfl⟩
      go_wp2_with fail
      refine (awake_any w2 (hq.below hb)).mono ?_
      rintro e w4 ⟨rfl, hb2⟩
      replace hb := hb.trans (hb2.mono hb.size)
      clear hb2
      go_wp2_with fail
      go_ret
      exact ⟨rfl, hb⟩
  · have e1 : nxX z x y = 0 := if_neg he
    have e2 : nxY z x y = 0 := if_neg he
    have e3 : nxE z x y = plE z x y := if_neg he
    rw [e1, e2, e3] at H3
    clear e1 e2 e3
    generalize plE z x y = E at *
    generalize plD z x y = D at *
    go_enter Tryd.func6, Tryd.ntmps6
    go_wp2_with fail
    refine (H1.out w hq).mono ?_
    rintro e w1 ⟨rfl, hb⟩
    go_wp2_with fail
    refine (H3.out w1 (hq.below hb)).mono ?_
    rintro e w2 ⟨rfl, hb2⟩
    replace hb := hb.trans (hb2.mono hb.size)
    clear hb2
    go_wp2_with fail
    refine (awake_any w2 (hq.below hb)).mono ?_
    rintro e w4 ⟨rfl, hb2⟩
    replace hb := hb.trans (hb2.mono hb.size)
    clear hb2
    go_wp2_with fail
    go_ret
    exact ⟨rfl, hb⟩
end Go.Proofs.YtojfmlckjcehjaaDoor
