/- The walk of CurveBack: each tile of a square has a place below as many as there are, and is its place's; each such place is its tile's. -/
import Derived.Test.YtojfmlckjcehjaaDoorI
import Derived.Deep.DeepCutAuto
namespace Go.Proofs.YtojfmlckjcehjaaDoor
open Go.RowKit
set_option linter.unusedVariables false
theorem back_no (z x y d : Int) (hz : ¬ Zoom z) (w : World) (hq : QTab w) : Calls Tryd.prog 5 #[.agg #[.int .i64 z, .int .i64 x, .int .i64 y], .int .u64 d] w fun e w' => e = .returned (.bool true) ∧ Below w.heap.size w w' := by
  have H0 := Lib.hid (fun w => side_any z w)
  rw [sideV_no z hz] at H0
  have hz' : z < 0 ∨ 26 < z := by unfold Zoom at hz; omega
  rcases hz' with h | h
  · go_enter Tryd.func5, Tryd.ntmps5
    go_wp2_with fail
    go_region
    all_goals
      go_wp2_with fail
      refine (H0.out _).mono ?_
      rintro e w' ⟨rfl, rfl⟩
      go_wp2_with fail
      refine (awake_any _ (hq.below (by go_grown))).mono ?_
      rintro e w4 ⟨rfl, hb2⟩
      have hb : Below w.heap.size w w4 := Below.trans (by go_grown) (hb2.mono (by simp [World.size_alloc]))
      clear hb2
      go_wp2_with fail
      go_ret
      exact ⟨rfl, hb⟩
  · go_enter Tryd.func5, Tryd.ntmps5
    go_wp2_with fail
    go_region
    all_goals
      go_wp2_with fail
      refine (H0.out _).mono ?_
      rintro e w' ⟨rfl, rfl⟩
      go_wp2_with fail
      refine (awake_any _ (hq.below (by go_grown))).mono ?_
      rintro e w4 ⟨rfl, hb2⟩
      have hb : Below w.heap.size w w4 := Below.trans (by go_grown) (hb2.mono (by simp [World.size_alloc]))
      clear hb2
      go_wp2_with fail
      go_ret
      exact ⟨rfl, hb⟩
/-- A tile comes back of its place; a place of its tile. -/
theorem tile_back (z x y : Int) (he : plE z x y = 0) : ptX z (plD z x y) = x ∧ ptY z (plD z x y) = y ∧ ptE z (plD z x y) = 0 := by
  obtain ⟨hz, hin, e, b0, b1⟩ := pl_in z x y he
  obtain ⟨f1, f2, f3⟩ := pt_in z _ hz b1
  have h := hpt_hpl z.toNat x y hin
  rw [← e] at h
  rw [f1, f2, f3, h]
  exact ⟨rfl, rfl, rfl⟩
theorem place_back (z d : Int) (hz : Zoom z) (d0 : 0 ≤ d) (d1 : d < p4 z.toNat) : plD z (ptX z d) (ptY z d) = d ∧ plE z (ptX z d) (ptY z d) = 0 ∧ ptE z d = 0 := by
  obtain ⟨f1, f2, f3⟩ := pt_in z d hz d1
  rw [f1, f2, f3]
  obtain ⟨g1, g2⟩ := pl_tile z _ _ hz (hpt_in z.toNat d d0 d1)
  exact ⟨by rw [g1]; exact hpl_hpt z.toNat d d0 d1, g2, rfl⟩
set_option maxRecDepth 100000 in
set_option maxHeartbeats 1000000 in
theorem back_yes (z x y d : Int) (hz : Zoom z) (d0 : 0 ≤ d) (w : World) (hq : QTab w) : Calls Tryd.prog 5 #[.agg #[.int .i64 z, .int .i64 x, .int .i64 y], .int .u64 d] w fun e w' => e = .returned (.bool true) ∧ Below w.heap.size w w' := by
  have hS := sideV_in z hz
  have h2 := p2_pos z.toNat
  have h2t := p2_top z.toNat (by unfold Zoom at hz; omega)
  have h4 := p4_pos z.toNat
  have h4t := p4_top z.toNat (by unfold Zoom at hz; omega)
  have hsq := p2_sq z.toNat
  have hpw := p2_pow z.toNat
  have H0 := Lib.hid (fun w => side_any z w)
  rw [hS] at H0
  have H1 := Lib.hid (fun w hq => place_any z x y w hq)
  have H2 := Lib.hid (fun w hq => point_any z d d0 w hq)
  have hb : d < p4 z.toNat → plD z (ptX z d) (ptY z d) = d ∧ plE z (ptX z d) (ptY z d) = 0 ∧ ptE z d = 0 := fun h => place_back z d hz d0 h
  have hf : p4 z.toNat ≤ d → ptX z d = 0 ∧ ptY z d = 0 ∧ ptE z d = 8 := fun h => pt_far z d hz (by omega)
  have hpe : plE z x y = if 0 ≤ x ∧ x < p2 z.toNat ∧ 0 ≤ y ∧ y < p2 z.toNat then 0 else 8 := by unfold plE; rw [if_pos hz, hS]
  have h3 := hz
  obtain ⟨z0, z1⟩ := h3
  have H3 := Lib.hid (fun w hq => place_any z (ptX z d) (ptY z d) w hq)
  have hbd : 0 ≤ plD z x y ∧ plD z x y < p4 z.toNat := by
    by_cases he : plE z x y = 0
    · exact (pl_in z x y he).2.2.2
    · rw [(pl_no z x y he).1]; omega
  have hback := tile_back z x y
  have HP := Lib.hid (fun w hq => point_any z (plD z x y) hbd.1 w hq)
  clear hS hz
  obtain ⟨b0, b1⟩ := hbd
  generalize p2 z.toNat = S at *
  generalize p4 z.toNat = A at *
  generalize plE z x y = E at *
  generalize plD z x y = D at *
  have HB := Lib.hid hb; clear hb
  have HF := Lib.hid hf; clear hf
  have HE := Lib.hid hpe; clear hpe
  have HK := Lib.hid hback; clear hback
  go_enter Tryd.func5, Tryd.ntmps5
  go_wp2_with fail
  go_region
  go_wp2_with fail
  refine (H0.out _).mono ?_
  rintro e w' ⟨rfl, rfl⟩
  go_wp2_with fail
  refine (H1.out _ (hq.below (by go_grown))).mono ?_
  rintro e w1 ⟨rfl, hb2⟩
  have hb : Below w.heap.size w w1 := Below.trans (by go_grown) (hb2.mono (by simp [World.size_alloc]))
  clear hb2
  go_upto_region 8 with fail
  go_cut [77] (fun t wx => t = .bool false ∧ w1 = wx)
  case first =>
    by_cases hin : 0 ≤ x ∧ x < S ∧ 0 ≤ y ∧ y < S
    · have he : (E == 0) = true := by rw [HE.out, if_pos hin]; rfl
      have hAD : decide (A ≤ D) = false := decide_eq_false (by omega)
      obtain ⟨c1, c2, c3, c4⟩ := hin
      go_wp2_with fail
      go_meet
      case rel => exact ⟨rfl, rfl⟩
    · have he : (E == 0) = false := by rw [HE.out, if_neg hin]; rfl
      have hAD : decide (A ≤ D) = false := decide_eq_false (by omega)
      have hin := Lib.hid hin
      by_cases c1 : x < 0
      · go_wp2_with fail
        go_meet
        case rel => exact ⟨rfl, rfl⟩
      · by_cases c2 : S ≤ x
        · go_wp2_with fail
          go_meet
          case rel => exact ⟨rfl, rfl⟩
        · by_cases c3 : y < 0
          · go_wp2_with fail
            go_meet
            case rel => exact ⟨rfl, rfl⟩
          · have c4 : decide (y < S) = false := decide_eq_false (by have := hin.out; omega)
            go_wp2_with fail
            go_meet
            case rel => exact ⟨rfl, rfl⟩
  case rest =>
    obtain ⟨rfl, rfl⟩ := hcut
    go_upto_if 79 with fail
    go_cut [11, 12, 13] (fun a b c wx => Below w.heap.size w wx)
    case first =>
      by_cases he : E = 0
      · obtain ⟨k1, k2, k3⟩ := HK.out he
        rw [k1, k2, k3] at HP
        clear k1 k2 k3
        replace he : (E == 0) = true := by rw [he]; rfl
        go_wp2_with fail
        refine (HP.out _ (hq.below hb)).mono ?_
        rintro e w2 ⟨rfl, hb2⟩
        replace hb := hb.trans (hb2.mono hb.size)
        clear hb2
        go_wp2_with fail
        go_meet
        case rel => exact hb
      · replace he : (E == 0) = false := by simpa using he
        go_wp2_with fail
        go_meet
        case rel => exact hb
    case rest =>
      replace hb := hcut
      clear hcut
      generalize wc = wa at *
      by_cases hd : d < A
      · obtain ⟨k1, k2, k3⟩ := HB.out hd
        rw [k3] at H2
        rw [k1, k2] at H3
        clear k1 k2 k3
        generalize ptX z d = a at *
        generalize ptY z d = b at *
        go_wp2_with fail
        refine (H2.out _ (hq.below hb)).mono ?_
        rintro e w1 ⟨rfl, hb2⟩
        replace hb := hb.trans (hb2.mono hb.size)
        clear hb2
        go_wp2_with fail
        refine (H3.out _ (hq.below hb)).mono ?_
        rintro e w2 ⟨rfl, hb2⟩
        replace hb := hb.trans (hb2.mono hb.size)
        clear hb2
        go_wp2_with fail
        refine (awake_any _ (hq.below hb)).mono ?_
        rintro e w3 ⟨rfl, hb2⟩
        replace hb := hb.trans (hb2.mono hb.size)
        clear hb2
        go_wp2_with fail
        go_ret
        exact ⟨rfl, hb⟩
      · obtain ⟨k1, k2, k3⟩ := HF.out (by omega)
        rw [k1, k2, k3] at H2
        clear k1 k2 k3
        go_wp2_with fail
        refine (H2.out _ (hq.below hb)).mono ?_
        rintro e w1 ⟨rfl, hb2⟩
        replace hb := hb.trans (hb2.mono hb.size)
        clear hb2
        go_wp2_with fail
        refine (awake_any _ (hq.below hb)).mono ?_
        rintro e w3 ⟨rfl, hb2⟩
        replace hb := hb.trans (hb2.mono hb.size)
        clear hb2
        go_wp2_with fail
        go_ret
        exact ⟨rfl, hb⟩
theorem back_walk (z x y d : Int) (d0 : 0 ≤ d) (w : World) (hq : QTab w) : Calls Tryd.prog 5 #[.agg #[.int .i64 z, .int .i64 x, .int .i64 y], .int .u64 d] w fun e w' => e = .returned (.bool true) ∧ Below w.heap.size w w' := by
  by_cases hz : Zoom z
  · exact back_yes z x y d hz d0 w hq
  · exact back_no z x y d hz w hq
end Go.Proofs.YtojfmlckjcehjaaDoor
