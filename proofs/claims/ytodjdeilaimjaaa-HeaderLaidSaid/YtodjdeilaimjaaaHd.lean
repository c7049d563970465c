/- Contracts of Check, the program's: it computes what its plain function says. -/
import Derived.Test.YtodjdeilaimjaaaHc
namespace Go.Proofs.Ytodjdeilaimjaaa
open Go.RowKit
set_option linter.unusedVariables false
set_option maxRecDepth 20000 in
theorem check_any (h : Hd) (w : World) (hm : MayH h) : Calls Try.prog 11 #[.agg (cH h)] w fun e w' => e = .returned (.int .i64 (ckH h)) ∧ Below w.heap.size w w' := by
  have HM := Lib.hid hm; clear hm
  have H0 := HAt.made w h 32
  go_enter Try.func11, Try.ntmps11
  go_wp2_with (first | (refine load_head (by rfl) _ rfl _ rfl _ h (by assumption) ?_) | fail)
  refine (sections_h h _).mono ?_
  rintro e w1 ⟨rfl, hb⟩
  have H1 := H0.below hb (by rw [World.size_alloc]; omega)
  have hz1 : w.heap.size < w1.heap.size := by have := hb.size; rw [World.size_alloc] at this; omega
  have u1 : Below w.heap.size w w1 := Below.trans (by go_grown) (hb.mono (by rw [World.size_alloc]; omega))
  have HH1 := Lib.hid H1
  have HU := Lib.hid u1
  clear hb H0 H1 u1
  go_wp2_with fail
  go_loopw [7] (fun i wr => ∃ k : Nat, k ≤ 4 ∧ i = .int .i64 k ∧ Hid (SecsUp h k) ∧ Below w1.heap.size w1 wr) (fun i _ => 4 - (intOf i).toNat)
  case atStart => exact ⟨0, by omega, rfl, Lib.hid ⟨by omega, by omega, by omega, by omega⟩, Below.refl _ _⟩
  case round =>
    obtain ⟨k, hk, rfl, HS, hbw⟩ := hrel
    have hIX := fun W => idx_sec (.int .u64 h.rf) (.int .u64 h.rl) (.int .u64 h.mf) (.int .u64 h.ml) (.int .u64 h.lf) (.int .u64 h.ll) (.int .u64 h.df) (.int .u64 h.dl) W
    have hzr := hbw.size
    have HHr := Lib.hid (HH1.out.below hbw hz1)
    have HUr := Lib.hid (HU.out.trans (hbw.mono (by omega)))
    rcases (by omega : k = 0 ∨ k = 1 ∨ k = 2 ∨ k = 3 ∨ k = 4) with rfl | rfl | rfl | rfl | rfl
    · have hI := fun W => (hIX W).1
      clear hIX
      have HF := Lib.hid (fun W => fits_any h.rf h.rl W HM.out.1 HM.out.2.1)
      obtain ⟨b, hs⟩ : ∃ b, secB h.rf h.rl = b := ⟨_, rfl⟩
      rw [hs] at HF
      cases b
      · have hc : Hid (8 = ckH h) := Lib.hid (ck_secs h (by unfold SecsB; simp only [hs]; simp)).symm
        clear hs
        go_wp2_with fail
        refine (HF.out _).mono ?_
        rintro e w2 ⟨rfl, hb⟩
        have u2 : Below w.heap.size w w2 := (HUr.out.alloc (by omega) _).trans (hb.mono (by rw [World.size_alloc]; omega))
        clear hb
        go_wp2_with fail
        go_ret
        exact ⟨ret_int hc.out, u2⟩
      · have HS2 : Hid (SecsUp h 1) := Lib.hid ⟨fun _ => hs, fun hh => by omega, fun hh => by omega, fun hh => by omega⟩
        clear hs
        go_wp2_with fail
        refine (HF.out _).mono ?_
        rintro e w2 ⟨rfl, hb⟩
        have u2 : Below w1.heap.size w1 w2 := (hbw.alloc hzr _).trans (hb.mono (by rw [World.size_alloc]; omega))
        clear hb
        go_wp2_with fail
        go_roundw
        case rel => exact ⟨1, by omega, by rfl, HS2, u2⟩
        case measure => simp [intOf]
    · have hI := fun W => (hIX W).2.1
      clear hIX
      have HF := Lib.hid (fun W => fits_any h.mf h.ml W HM.out.2.2.1 HM.out.2.2.2.1)
      obtain ⟨b, hs⟩ : ∃ b, secB h.mf h.ml = b := ⟨_, rfl⟩
      rw [hs] at HF
      cases b
      · have hc : Hid (8 = ckH h) := Lib.hid (ck_secs h (by unfold SecsB; simp only [hs, HS.out.1 (by omega)]; simp)).symm
        clear hs
        go_wp2_with fail
        refine (HF.out _).mono ?_
        rintro e w2 ⟨rfl, hb⟩
        have u2 : Below w.heap.size w w2 := (HUr.out.alloc (by omega) _).trans (hb.mono (by rw [World.size_alloc]; omega))
        clear hb
        go_wp2_with fail
        go_ret
        exact ⟨ret_int hc.out, u2⟩
      · have HS2 : Hid (SecsUp h 2) := Lib.hid ⟨fun _ => HS.out.1 (by omega), fun hh => hs, fun hh => by omega, fun hh => by omega⟩
        clear hs
        go_wp2_with fail
        refine (HF.out _).mono ?_
        rintro e w2 ⟨rfl, hb⟩
        have u2 : Below w1.heap.size w1 w2 := (hbw.alloc hzr _).trans (hb.mono (by rw [World.size_alloc]; omega))
        clear hb
        go_wp2_with fail
        go_roundw
        case rel => exact ⟨2, by omega, by rfl, HS2, u2⟩
        case measure => simp [intOf]
    · have hI := fun W => (hIX W).2.2.1
      clear hIX
      have HF := Lib.hid (fun W => fits_any h.lf h.ll W HM.out.2.2.2.2.1 HM.out.2.2.2.2.2.1)
      obtain ⟨b, hs⟩ : ∃ b, secB h.lf h.ll = b := ⟨_, rfl⟩
      rw [hs] at HF
      cases b
      · have hc : Hid (8 = ckH h) := Lib.hid (ck_secs h (by unfold SecsB; simp only [hs, HS.out.1 (by omega), HS.out.2.1 (by omega)]; simp)).symm
        clear hs
        go_wp2_with fail
        refine (HF.out _).mono ?_
        rintro e w2 ⟨rfl, hb⟩
        have u2 : Below w.heap.size w w2 := (HUr.out.alloc (by omega) _).trans (hb.mono (by rw [World.size_alloc]; omega))
        clear hb
        go_wp2_with fail
        go_ret
        exact ⟨ret_int hc.out, u2⟩
      · have HS2 : Hid (SecsUp h 3) := Lib.hid ⟨fun _ => HS.out.1 (by omega), fun hh => HS.out.2.1 (by omega), fun hh => hs, fun hh => by omega⟩
        clear hs
        go_wp2_with fail
        refine (HF.out _).mono ?_
        rintro e w2 ⟨rfl, hb⟩
        have u2 : Below w1.heap.size w1 w2 := (hbw.alloc hzr _).trans (hb.mono (by rw [World.size_alloc]; omega))
        clear hb
        go_wp2_with fail
        go_roundw
        case rel => exact ⟨3, by omega, by rfl, HS2, u2⟩
        case measure => simp [intOf]
    · have hI := fun W => (hIX W).2.2.2
      clear hIX
      have HF := Lib.hid (fun W => fits_any h.df h.dl W HM.out.2.2.2.2.2.2.1 HM.out.2.2.2.2.2.2.2.1)
      obtain ⟨b, hs⟩ : ∃ b, secB h.df h.dl = b := ⟨_, rfl⟩
      rw [hs] at HF
      cases b
      · have hc : Hid (8 = ckH h) := Lib.hid (ck_secs h (by unfold SecsB; simp only [hs, HS.out.1 (by omega), HS.out.2.1 (by omega), HS.out.2.2.1 (by omega)]; simp)).symm
        clear hs
        go_wp2_with fail
        refine (HF.out _).mono ?_
        rintro e w2 ⟨rfl, hb⟩
        have u2 : Below w.heap.size w w2 := (HUr.out.alloc (by omega) _).trans (hb.mono (by rw [World.size_alloc]; omega))
        clear hb
        go_wp2_with fail
        go_ret
        exact ⟨ret_int hc.out, u2⟩
      · have HS2 : Hid (SecsUp h 4) := Lib.hid ⟨fun _ => HS.out.1 (by omega), fun hh => HS.out.2.1 (by omega), fun hh => HS.out.2.2.1 (by omega), fun hh => hs⟩
        clear hs
        go_wp2_with fail
        refine (HF.out _).mono ?_
        rintro e w2 ⟨rfl, hb⟩
        have u2 : Below w1.heap.size w1 w2 := (hbw.alloc hzr _).trans (hb.mono (by rw [World.size_alloc]; omega))
        clear hb
        go_wp2_with fail
        go_roundw
        case rel => exact ⟨4, by omega, by rfl, HS2, u2⟩
        case measure => simp [intOf]
    · have hS : SecsB h = true := secs_all h HS.out
      have c12 := at12 HHr.out
      have c13 := at13 HHr.out
      have c14 := at14 HHr.out
      clear hIX HM
      have hHr := HHr.out
      by_cases k1 : h.inn ≤ 4
      · have d1 : decide (4 < h.inn) = false := by simp; omega
        by_cases k2 : h.out ≤ 4
        · have d2 : decide (4 < h.out) = false := by simp; omega
          by_cases k3 : h.knd ≤ 5
          · have d3 : decide (5 < h.knd) = false := by simp; omega
            have hK : KindB h = true := by unfold KindB; simp [k1, k2, k3]
            have HZ := Lib.hid (fun W => zooms_h h W)
            have HD := Lib.hid (fun W => degrees_h h W)
            clear k1 k2 k3
            obtain ⟨b, hz⟩ : ∃ b, ZoomsB h = b := ⟨_, rfl⟩
            rw [hz] at HZ
            cases b
            · have hc : Hid (8 = ckH h) := Lib.hid (ck_zooms h hS hK hz).symm
              clear hS hK hz
              go_wp2_with (first | (refine load_head (by rfl) _ rfl _ rfl _ h (by assumption) ?_) | fail)
              refine (HZ.out _).mono ?_
              rintro e w2 ⟨rfl, hb⟩
              have u2 := HUr.out.trans (hb.mono (by omega))
              clear hb
              go_wp2_with fail
              go_ret
              exact ⟨ret_int hc.out, u2⟩
            · obtain ⟨b, hg⟩ : ∃ b, DegB h = b := ⟨_, rfl⟩
              rw [hg] at HD
              cases b
              · have hc : Hid (8 = ckH h) := Lib.hid (ck_deg h hS hK hz hg).symm
                clear hS hK hz hg
                go_wp2_with (first | (refine load_head (by rfl) _ rfl _ rfl _ h (by assumption) ?_) | fail)
                refine (HZ.out _).mono ?_
                rintro e w2 ⟨rfl, hb⟩
                have u2 := HUr.out.trans (hb.mono (by omega))
                have h2 := hHr.later hb
                have hz2 := hb.size
                clear hb hHr
                go_wp2_with (first | (refine load_head (by rfl) _ rfl _ rfl _ h (by assumption) ?_) | fail)
                refine (HD.out _).mono ?_
                rintro e w3 ⟨rfl, hb⟩
                have u3 := u2.trans (hb.mono (by omega))
                clear hb
                go_wp2_with fail
                go_ret
                exact ⟨ret_int hc.out, u3⟩
              · have hc : Hid (0 = ckH h) := Lib.hid (ck_ok h hS hK hz hg).symm
                clear hS hK hz hg
                go_wp2_with (first | (refine load_head (by rfl) _ rfl _ rfl _ h (by assumption) ?_) | fail)
                refine (HZ.out _).mono ?_
                rintro e w2 ⟨rfl, hb⟩
                have u2 := HUr.out.trans (hb.mono (by omega))
                have h2 := hHr.later hb
                have hz2 := hb.size
                clear hb hHr
                go_wp2_with (first | (refine load_head (by rfl) _ rfl _ rfl _ h (by assumption) ?_) | fail)
                refine (HD.out _).mono ?_
                rintro e w3 ⟨rfl, hb⟩
                have u3 := u2.trans (hb.mono (by omega))
                clear hb
                go_wp2_with fail
                go_ret
                exact ⟨ret_int hc.out, u3⟩
          · have d3 : decide (5 < h.knd) = true := by simp; omega
            have hc : Hid (14 = ckH h) := Lib.hid (ck_kind h hS (by unfold KindB; simp [k3])).symm
            clear hS k1 k2 k3
            go_wp2_with fail
            go_ret
            exact ⟨ret_int hc.out, HUr.out⟩
        · have d2 : decide (4 < h.out) = true := by simp; omega
          have hc : Hid (14 = ckH h) := Lib.hid (ck_kind h hS (by unfold KindB; simp [k2])).symm
          clear hS k1 k2
          go_wp2_with fail
          go_ret
          exact ⟨ret_int hc.out, HUr.out⟩
      · have d1 : decide (4 < h.inn) = true := by simp; omega
        have hc : Hid (14 = ckH h) := Lib.hid (ck_kind h hS (by unfold KindB; simp [k1])).symm
        clear hS k1
        go_wp2_with fail
        go_ret
        exact ⟨ret_int hc.out, HUr.out⟩
end Go.Proofs.Ytodjdeilaimjaaa
