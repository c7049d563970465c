/- Contracts of Check, the document's: it computes what its plain function says. -/
import Derived.Test.YtodjdeilaimjaaaHc
namespace Go.Proofs.Ytodjdeilaimjaaa
open Go.RowKit
set_option linter.unusedVariables false
theorem sec_false {h : Hd} (e : ¬ SecsB h = true) : SecsB h = false := by simpa using e
set_option maxRecDepth 20000 in
theorem rcheck_any (h : Hd) (w : World) (hm : MayH h) : Calls Try.prog 12 #[.agg (cH h)] w fun e w' => e = .returned (.int .i64 (ckH h)) ∧ Below w.heap.size w w' := by
  have F0 := Lib.hid (fun W => rfits_any h.rf h.rl W hm.1 hm.2.1)
  have F1 := Lib.hid (fun W => rfits_any h.mf h.ml W hm.2.2.1 hm.2.2.2.1)
  have F2 := Lib.hid (fun W => rfits_any h.lf h.ll W hm.2.2.2.2.1 hm.2.2.2.2.2.1)
  have F3 := Lib.hid (fun W => rfits_any h.df h.dl W hm.2.2.2.2.2.2.1 hm.2.2.2.2.2.2.2.1)
  obtain ⟨b0, h0⟩ : ∃ b, secB h.rf h.rl = b := ⟨_, rfl⟩
  obtain ⟨b1, h1⟩ : ∃ b, secB h.mf h.ml = b := ⟨_, rfl⟩
  obtain ⟨b2, h2⟩ : ∃ b, secB h.lf h.ll = b := ⟨_, rfl⟩
  obtain ⟨b3, h3⟩ : ∃ b, secB h.df h.dl = b := ⟨_, rfl⟩
  have hS : Hid (SecsB h = (b0 && (b1 && (b2 && b3)))) := Lib.hid (by unfold SecsB; rw [h0, h1, h2, h3])
  rw [h0] at F0; rw [h1] at F1; rw [h2] at F2; rw [h3] at F3
  clear h0 h1 h2 h3 hm
  have Z0 := Lib.hid (fun W => between_any h.z0 0 h.z1 W)
  have Z2 := Lib.hid (fun W => between_any h.zm 0 26 W)
  have D0 := Lib.hid (fun W => between_any h.lo0 (-1800000000) h.lo1 W)
  have D2 := Lib.hid (fun W => between_any h.la0 (-900000000) h.la1 W)
  have D4 := Lib.hid (fun W => between_any h.lon (-1800000000) 1800000000 W)
  have D5 := Lib.hid (fun W => between_any h.lat (-900000000) 900000000 W)
  obtain ⟨z0, hz0⟩ : ∃ b, (decide (0 ≤ h.z0) && decide (h.z0 ≤ h.z1)) = b := ⟨_, rfl⟩
  obtain ⟨z2, hz2⟩ : ∃ b, (decide (0 ≤ h.zm) && decide (h.zm ≤ 26)) = b := ⟨_, rfl⟩
  obtain ⟨d0, hd0⟩ : ∃ b, (decide (-1800000000 ≤ h.lo0) && decide (h.lo0 ≤ h.lo1)) = b := ⟨_, rfl⟩
  obtain ⟨d2, hd2⟩ : ∃ b, (decide (-900000000 ≤ h.la0) && decide (h.la0 ≤ h.la1)) = b := ⟨_, rfl⟩
  obtain ⟨d4, hd4⟩ : ∃ b, (decide (-1800000000 ≤ h.lon) && decide (h.lon ≤ 1800000000)) = b := ⟨_, rfl⟩
  obtain ⟨d5, hd5⟩ : ∃ b, (decide (-900000000 ≤ h.lat) && decide (h.lat ≤ 900000000)) = b := ⟨_, rfl⟩
  rw [hz0] at Z0; rw [hz2] at Z2; rw [hd0] at D0; rw [hd2] at D2; rw [hd4] at D4; rw [hd5] at D5
  have HZ : Hid (ZoomsB h = (z0 && (decide (h.z1 ≤ 26) && z2))) := Lib.hid (by unfold ZoomsB; rw [hz0, hz2])
  have HD : Hid (DegB h = (d0 && (decide (h.lo1 ≤ 1800000000) && (d2 && (decide (h.la1 ≤ 900000000) && (d4 && d5)))))) := Lib.hid (by unfold DegB; rw [hd0, hd2, hd4, hd5])
  clear hz0 hz2 hd0 hd2 hd4 hd5
  have H0 := HAt.made w h 26
  have a0 := at0 H0
  have a1 := at1 H0
  have HB0 := Lib.hid H0
  have U0 : Below w.heap.size w (w.alloc (.cells (cH h) 26)) := (Below.refl _ _).alloc (Nat.le_refl _) _
  have Z : w.heap.size ≤ (w.alloc (.cells (cH h) 26)).heap.size := by rw [World.size_alloc]; omega
  clear H0
  go_enter Try.func12, Try.ntmps12
  go_wp2_with fail
  refine (F0.out _).mono ?_
  rintro e w1 ⟨rfl, hb⟩
  have U1 := U0.trans (hb.mono Z)
  have HB1 := Lib.hid (HB0.out.later hb)
  replace Z : w.heap.size ≤ w1.heap.size := Nat.le_trans Z hb.size
  clear hb U0 HB0 a0 a1
  have a2 := at2 HB1.out
  have a3 := at3 HB1.out
  cases b0
  · have hc := Lib.hid (ck_secs h (by rw [hS.out]; simp)).symm
    go_wp2_with fail
    go_ret
    exact ⟨ret_int hc.out, U1⟩
  · go_wp2_with fail
    refine (F1.out _).mono ?_
    rintro e w2 ⟨rfl, hb⟩
    have U2 := U1.trans (hb.mono Z)
    have HB2 := Lib.hid (HB1.out.later hb)
    replace Z : w.heap.size ≤ w2.heap.size := Nat.le_trans Z hb.size
    clear hb U1 HB1 a2 a3
    have a4 := at4 HB2.out
    have a5 := at5 HB2.out
    cases b1
    · have hc := Lib.hid (ck_secs h (by rw [hS.out]; simp)).symm
      go_wp2_with fail
      go_ret
      exact ⟨ret_int hc.out, U2⟩
    · go_wp2_with fail
      refine (F2.out _).mono ?_
      rintro e w3 ⟨rfl, hb⟩
      have U3 := U2.trans (hb.mono Z)
      have HB3 := Lib.hid (HB2.out.later hb)
      replace Z : w.heap.size ≤ w3.heap.size := Nat.le_trans Z hb.size
      clear hb U2 HB2 a4 a5
      have a6 := at6 HB3.out
      have a7 := at7 HB3.out
      cases b2
      · have hc := Lib.hid (ck_secs h (by rw [hS.out]; simp)).symm
        go_wp2_with fail
        go_ret
        exact ⟨ret_int hc.out, U3⟩
      · go_wp2_with fail
        refine (F3.out _).mono ?_
        rintro e w4 ⟨rfl, hb⟩
        have U4 := U3.trans (hb.mono Z)
        have HB4 := Lib.hid (HB3.out.later hb)
        replace Z : w.heap.size ≤ w4.heap.size := Nat.le_trans Z hb.size
        clear hb U3 HB3 a6 a7
        have a12 := at12 HB4.out
        have a13 := at13 HB4.out
        have a14 := at14 HB4.out
        have a15 := at15 HB4.out
        have a16 := at16 HB4.out
        have a17 := at17 HB4.out
        have a18 := at18 HB4.out
        have a19 := at19 HB4.out
        have a20 := at20 HB4.out
        have a21 := at21 HB4.out
        have a22 := at22 HB4.out
        have a23 := at23 HB4.out
        cases b3
        · have hc := Lib.hid (ck_secs h (by rw [hS.out]; simp)).symm
          go_wp2_with fail
          go_ret
          exact ⟨ret_int hc.out, U4⟩
        · by_cases k1 : h.inn ≤ 4
          · have e4 : decide (4 < h.inn) = false := by simp; omega
            by_cases k2 : h.out ≤ 4
            · have e5 : decide (4 < h.out) = false := by simp; omega
              by_cases k3 : h.knd ≤ 5
              · have e6 : decide (5 < h.knd) = false := by simp; omega
                go_wp2_with fail
                refine (Z0.out _).mono ?_
                rintro e w' ⟨rfl, rfl⟩
                cases z0
                · have hc := Lib.hid (ck_zooms h (by rw [hS.out]; simp) (by unfold KindB; simp [k1, k2, k3]) (by rw [HZ.out]; simp)).symm
                  go_wp2_with fail
                  go_ret
                  exact ⟨ret_int hc.out, U4⟩
                · by_cases y1 : h.z1 ≤ 26
                  · have ey1 : decide (26 < h.z1) = false := by simp; omega
                    go_wp2_with fail
                    refine (Z2.out _).mono ?_
                    rintro e w' ⟨rfl, rfl⟩
                    cases z2
                    · have hc := Lib.hid (ck_zooms h (by rw [hS.out]; simp) (by unfold KindB; simp [k1, k2, k3]) (by rw [HZ.out]; simp)).symm
                      go_wp2_with fail
                      go_ret
                      exact ⟨ret_int hc.out, U4⟩
                    · go_wp2_with fail
                      refine (D0.out _).mono ?_
                      rintro e w' ⟨rfl, rfl⟩
                      cases d0
                      · have hc := Lib.hid (ck_deg h (by rw [hS.out]; simp) (by unfold KindB; simp [k1, k2, k3]) (by rw [HZ.out]; simp [y1]) (by rw [HD.out]; simp)).symm
                        go_wp2_with fail
                        go_ret
                        exact ⟨ret_int hc.out, U4⟩
                      · by_cases x1 : h.lo1 ≤ 1800000000
                        · have ex1 : decide (1800000000 < h.lo1) = false := by simp; omega
                          go_wp2_with fail
                          refine (D2.out _).mono ?_
                          rintro e w' ⟨rfl, rfl⟩
                          cases d2
                          · have hc := Lib.hid (ck_deg h (by rw [hS.out]; simp) (by unfold KindB; simp [k1, k2, k3]) (by rw [HZ.out]; simp [y1]) (by rw [HD.out]; simp)).symm
                            go_wp2_with fail
                            go_ret
                            exact ⟨ret_int hc.out, U4⟩
                          · by_cases x2 : h.la1 ≤ 900000000
                            · have ex2 : decide (900000000 < h.la1) = false := by simp; omega
                              go_wp2_with fail
                              refine (D4.out _).mono ?_
                              rintro e w' ⟨rfl, rfl⟩
                              cases d4
                              · have hc := Lib.hid (ck_deg h (by rw [hS.out]; simp) (by unfold KindB; simp [k1, k2, k3]) (by rw [HZ.out]; simp [y1]) (by rw [HD.out]; simp)).symm
                                go_wp2_with fail
                                go_ret
                                exact ⟨ret_int hc.out, U4⟩
                              · go_wp2_with fail
                                refine (D5.out _).mono ?_
                                rintro e w' ⟨rfl, rfl⟩
                                cases d5
                                · have hc := Lib.hid (ck_deg h (by rw [hS.out]; simp) (by unfold KindB; simp [k1, k2, k3]) (by rw [HZ.out]; simp [y1]) (by rw [HD.out]; simp)).symm
                                  go_wp2_with fail
                                  go_ret
                                  exact ⟨ret_int hc.out, U4⟩
                                · have hc := Lib.hid (ck_ok h (by rw [hS.out]; simp) (by unfold KindB; simp [k1, k2, k3]) (by rw [HZ.out]; simp [y1]) (by rw [HD.out]; simp [x1, x2])).symm
                                  go_wp2_with fail
                                  go_ret
                                  exact ⟨ret_int hc.out, U4⟩
                            · have ex2 : decide (900000000 < h.la1) = true := by simp; omega
                              have hc := Lib.hid (ck_deg h (by rw [hS.out]; simp) (by unfold KindB; simp [k1, k2, k3]) (by rw [HZ.out]; simp [y1]) (by rw [HD.out]; simp [x2])).symm
                              go_wp2_with fail
                              go_ret
                              exact ⟨ret_int hc.out, U4⟩
                        · have ex1 : decide (1800000000 < h.lo1) = true := by simp; omega
                          have hc := Lib.hid (ck_deg h (by rw [hS.out]; simp) (by unfold KindB; simp [k1, k2, k3]) (by rw [HZ.out]; simp [y1]) (by rw [HD.out]; simp [x1])).symm
                          go_wp2_with fail
                          go_ret
                          exact ⟨ret_int hc.out, U4⟩
                  · have ey1 : decide (26 < h.z1) = true := by simp; omega
                    have hc := Lib.hid (ck_zooms h (by rw [hS.out]; simp) (by unfold KindB; simp [k1, k2, k3]) (by rw [HZ.out]; simp [y1])).symm
                    go_wp2_with fail
                    go_ret
                    exact ⟨ret_int hc.out, U4⟩
              · have e6 : decide (5 < h.knd) = true := by simp; omega
                have hc := Lib.hid (ck_kind h (by rw [hS.out]; simp) (by unfold KindB; simp [k3])).symm
                go_wp2_with fail
                go_ret
                exact ⟨ret_int hc.out, U4⟩
            · have e5 : decide (4 < h.out) = true := by simp; omega
              have hc := Lib.hid (ck_kind h (by rw [hS.out]; simp) (by unfold KindB; simp [k2])).symm
              go_wp2_with fail
              go_ret
              exact ⟨ret_int hc.out, U4⟩
          · have e4 : decide (4 < h.inn) = true := by simp; omega
            have hc := Lib.hid (ck_kind h (by rw [hS.out]; simp) (by unfold KindB; simp [k1])).symm
            go_wp2_with fail
            go_ret
            exact ⟨ret_int hc.out, U4⟩
end Go.Proofs.Ytodjdeilaimjaaa
