/- Contracts of Range and of the document's Up. -/
import Derived.Test.YthlekifagidijaaDoorV3
namespace Go.Proofs.YthlekifagidijaaDoor
open Go.RowKit
set_option linter.unusedVariables false
theorem range_any (z x y u : Int) (w : World) (hq : QTab w) : Calls Tryd.prog 50 #[.agg #[.int .i64 z, .int .i64 x, .int .i64 y], .int .i64 u] w fun e w' => e = .returned (.tuple #[.int .u64 (rgF z x y u), .int .u64 (rgT z x y u), .int .i64 (rgE z x y u)]) ∧ Below w.heap.size w w' := by
  have h0 := fun w hq => place_any z x y w hq
  by_cases hr : rgE z x y u = 0
  · obtain ⟨k, n, hkn, rfl, rfl, hin, he, hf, ht, p0, p1⟩ := rg_in z x y u hr
    have hb := hpl_bd k x y hin
    have hsum : bas (k + n) + (hpl k x y * p4 n + p4 n) ≤ bas (k + n + 1) := by rw [bas_succ]; omega
    have htop := bas_top (k + n + 1) (by omega)
    have hbn := bas_nn (k + n)
    have hp := p4_pos n
    have hmul := Int.mul_nonneg p0 (show 0 ≤ p4 n by omega)
    have hlow := le_mul_pos (hpl k x y) (p4 n) p0 hp
    rw [he, (pl_of k (by omega) x y hin).2] at h0
    rw [hf, ht, hr]
    have H0 := Lib.hid h0
    have ha := fun w => ahead_any (k + n : Nat) (by omega) (by omega) w
    rw [toN, show ((k + n : Nat) : Int) = (k : Int) + n from by omega] at ha
    have HA := Lib.hid ha
    rw [show ((k + n : Nat) : Int) = (k : Int) + n from by omega]
    clear h0 ha hf ht he hr hin p1
    generalize hpl k x y = D at *
    generalize hM : D * p4 n = M at *
    generalize bas (k + n) = B at *
    generalize bas (k + n + 1) = B1 at *
    generalize hP : p4 n = P at *
    have HM := Lib.hid hM
    have HP := Lib.hid hP
    clear hM hP
    go_enter Tryd.func50, Tryd.ntmps50
    go_wp2_with fail
    refine (H0.out _ (hq.below (by go_grown))).mono ?_
    rintro e w1 ⟨rfl, hb⟩
    obtain ⟨hs, hb1, c0, c1, c2, f⟩ := kept3 hb
    clear hb
    go_wp2_with fail
    refine (HA.out _).mono ?_
    rintro e w' ⟨rfl, rfl⟩
    rw [show k + n - k = n from by omega, p4_pow, HP.out, IntWalk.u64_in P (by omega)]
    have hM := HM.out
    clear HM
    go_wp2_with fail
    go_ret3
    exact ⟨rfl, hb1⟩
  · have hf : rgF z x y u = 0 := if_neg hr
    have ht : rgT z x y u = 0 := if_neg hr
    rw [hf, ht]
    by_cases he : plE z x y = 0
    · have hu : u < z ∨ 26 < u := by
        by_cases h : u < z ∨ 26 < u
        · exact h
        · exact absurd (by unfold rgE; rw [if_pos he, if_neg h]) hr
      have h8 : rgE z x y u = 8 := by unfold rgE; rw [if_pos he, if_pos hu]
      rw [h8]
      rw [he] at h0
      have H0 := Lib.hid h0
      clear h0 hf ht hr h8 he
      generalize plD z x y = D at *
      by_cases hu1 : u < z
      · clear hu
        go_enter Tryd.func50, Tryd.ntmps50
        go_wp2_with fail
        refine (H0.out _ (hq.below (by go_grown))).mono ?_
        rintro e w1 ⟨rfl, hb⟩
        obtain ⟨hs, hb1, c0, c1, c2, f⟩ := kept3 hb
        clear hb
        go_wp2_with fail
        go_ret3
        exact ⟨rfl, hb1⟩
      · have hu2 : 26 < u := by omega
        clear hu
        go_enter Tryd.func50, Tryd.ntmps50
        go_wp2_with fail
        refine (H0.out _ (hq.below (by go_grown))).mono ?_
        rintro e w1 ⟨rfl, hb⟩
        obtain ⟨hs, hb1, c0, c1, c2, f⟩ := kept3 hb
        clear hb
        go_wp2_with fail
        go_ret3
        exact ⟨rfl, hb1⟩
    · rw [show rgE z x y u = plE z x y from if_neg he]
      have hne : (plE z x y != 0) = true := by simpa using he
      have H0 := Lib.hid h0
      clear h0 hf ht hr
      generalize plE z x y = E at *
      generalize plD z x y = D at *
      go_enter Tryd.func50, Tryd.ntmps50
      go_wp2_with fail
      refine (H0.out _ (hq.below (by go_grown))).mono ?_
      rintro e w1 ⟨rfl, hb⟩
      obtain ⟨hs, hb1, c0, c1, c2, f⟩ := kept3 hb
      clear hb
      go_wp2_with fail
      go_ret3
      exact ⟨rfl, hb1⟩
end Go.Proofs.YthlekifagidijaaDoor
