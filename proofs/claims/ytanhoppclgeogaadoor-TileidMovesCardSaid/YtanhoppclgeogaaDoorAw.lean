/- The contract of awake: what every right program tells of some tiles. -/
import Derived.Test.YtanhoppclgeogaaDoorDn
namespace Go.Proofs.YtanhoppclgeogaaDoor
open Go.RowKit
set_option linter.unusedVariables false
set_option linter.unusedSimpArgs false
set_option maxHeartbeats 2000000 in
set_option maxRecDepth 20000 in
theorem awake_any (w : World) (hq : QTab w) : Calls Tryd.prog 16 #[] w fun e w' => e = .returned (.bool true) ∧ Below w.heap.size w w' := by
  have h1 := fun w hq => id_any 1 1 0 w hq
  have h2 := fun w hq => of_any 5 (by decide) w hq
  have h3 := fun w hq => of_any 6004799503160661 (by decide) w hq
  have h4 := fun w hq => down_any 0 0 0 w hq
  have h5 := fun w hq => range_any 1 0 0 2 w hq
  have h6 := fun w => base_any 27 w
  have h7 := fun w => zoom_any 4 (by decide) w
  have h8 := fun w => zoom_any 6004799503160661 (by decide) w
  have h9 := fun w hq => over_any 0 0 0 3 7 1 w hq
  rw [show idD 1 1 0 = 4 from by decide, show plE 1 1 0 = 0 from by decide] at h1
  rw [show ofZ 5 = 2 from by decide, show ofX 5 = 0 from by decide, show ofY 5 = 0 from by decide, show ofE 5 = 0 from by decide] at h2
  obtain ⟨g1, g2, g3, g4⟩ := of_no 6004799503160661 (by omega)
  rw [g1, g2, g3, g4] at h3
  rw [show dnE 0 0 0 = 0 from by decide, show dnL 0 0 0 = [(1, 0, 0), (1, 0, 1), (1, 1, 1), (1, 1, 0)] from by decide] at h4
  rw [show rgF 1 0 0 2 = 5 from by decide, show rgT 1 0 0 2 = 8 from by decide, show rgE 1 0 0 2 = 0 from by decide] at h5
  rw [show baD 27 = 6004799503160661 from by decide, show baE 27 = 0 from by decide] at h6
  rw [show zofV 4 = 1 from by decide] at h7
  rw [zofV_no 6004799503160661 (by omega)] at h8
  rw [show ovB 0 0 0 3 7 1 = true from by decide] at h9
  have H1 := Lib.hid h1; clear h1
  have H2 := Lib.hid h2; clear h2
  have H3 := Lib.hid h3; clear h3
  have H4 := Lib.hid h4; clear h4
  have H5 := Lib.hid h5; clear h5
  have H6 := Lib.hid h6; clear h6
  have H7 := Lib.hid h7; clear h7
  have H8 := Lib.hid h8; clear h8
  have H9 := Lib.hid h9; clear h9
  clear g1 g2 g3 g4
  go_enter Tryd.func16, Tryd.ntmps16
  go_wp2_with fail
  refine (H1.out _ hq).mono ?_
  rintro e w1 ⟨rfl, hb⟩
  go_wp2_with fail
  refine (H2.out _ (hq.below hb)).mono ?_
  rintro e w2 ⟨rfl, hb2⟩
  replace hb := hb.trans (hb2.mono hb.size)
  clear hb2
  go_wp2_with fail
  have hz := hb.size
  refine (H3.out _ (hq.below (by go_grown))).mono ?_
  rintro e w3 ⟨rfl, hb3⟩
  obtain ⟨hs3, hb3', t0, t1, t2, tf⟩ := kept3 hb3
  replace hb := hb.trans (hb3'.mono hb.size)
  have hsz := hb.size
  clear hb3 hb3' tf
  go_wp2_with fail
  refine (H4.out _ (hq.below (by go_grown))).mono ?_
  rintro e w4 ⟨v, rfl, hv, hb4⟩
  obtain ⟨hs4, hb4', _⟩ := kept3 hb4
  replace t0 := cell_later hb4' t0
  replace t1 := cell_later hb4' t1
  replace t2 := cell_later hb4' t2
  replace hb := hb.trans (hb4'.mono hb.size)
  clear hb4 hb4'
  obtain ⟨a, cap, rfl, hle, hm, hc⟩ := hv
  obtain ⟨g, off, rfl, hg, l0, l1, l2⟩ := hc 3 (1, 1, 0) rfl
  simp only [List.length_cons, List.length_nil, Nat.reduceMul, Nat.reduceAdd, Nat.zero_add] at l0 l1 l2 hle ⊢
  clear hc
  go_wp2_with fail
  refine (H5.out _ (hq.below hb)).mono ?_
  rintro e w5 ⟨rfl, hb5⟩
  replace t0 := cell_later hb5 t0
  replace t1 := cell_later hb5 t1
  replace t2 := cell_later hb5 t2
  replace l0 := cell_later hb5 l0
  replace l1 := cell_later hb5 l1
  replace l2 := cell_later hb5 l2
  replace hb := hb.trans (hb5.mono hb.size)
  clear hb5
  go_wp2_with fail
  refine (H6.out _).mono ?_
  rintro e w' ⟨rfl, rfl⟩
  go_wp2_with fail
  refine (H7.out _).mono ?_
  rintro e w' ⟨rfl, rfl⟩
  go_wp2_with fail
  refine (H8.out _).mono ?_
  rintro e w' ⟨rfl, rfl⟩
  go_wp2_with fail
  refine (H9.out _ (hq.below hb)).mono ?_
  rintro e w6 ⟨rfl, hb6⟩
  replace hb := hb.trans (hb6.mono hb.size)
  clear hb6
  go_wp2_with fail
  go_ret
  exact ⟨rfl, hb⟩
end Go.Proofs.YtanhoppclgeogaaDoor
