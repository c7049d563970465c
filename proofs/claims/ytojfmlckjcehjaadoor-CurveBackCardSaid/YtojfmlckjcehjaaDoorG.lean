/- The contract of awake: what every right program tells of some tiles. -/
import Derived.Test.YtojfmlckjcehjaaDoorF
namespace Go.Proofs.YtojfmlckjcehjaaDoor
open Go.RowKit
set_option linter.unusedVariables false
theorem awake_any (w : World) (hq : QTab w) : Calls Tryd.prog 14 #[] w fun e w' => e = .returned (.bool true) ∧ Below w.heap.size w w' := by
  have h1 := fun w hq => place_any 2 3 0 w hq
  have h2 := fun w hq => point_any 1 2 (by decide) w hq
  have h3 := fun w hq => place_any 27 0 0 w hq
  have h4 := fun w hq => place_any 1 2 0 w hq
  have h5 := fun w hq => next_any 1 0 1 w hq
  have h6 := fun w hq => next_any 1 1 0 w hq
  have h7 := fun w => side_any 3 w
  have h8 := fun w => side_any 27 w
  rw [show plD 2 3 0 = 15 from by decide, show plE 2 3 0 = 0 from by decide] at h1
  rw [show ptX 1 2 = 1 from by decide, show ptY 1 2 = 1 from by decide, show ptE 1 2 = 0 from by decide] at h2
  rw [show plD 27 0 0 = 0 from by decide, show plE 27 0 0 = 2 from by decide] at h3
  rw [show plD 1 2 0 = 0 from by decide, show plE 1 2 0 = 8 from by decide] at h4
  rw [show nxX 1 0 1 = 1 from by decide, show nxY 1 0 1 = 1 from by decide, show nxE 1 0 1 = 0 from by decide] at h5
  rw [show nxX 1 1 0 = 0 from by decide, show nxY 1 1 0 = 0 from by decide, show nxE 1 1 0 = 6 from by decide] at h6
  rw [show sideV 3 = 8 from by decide] at h7
  rw [show sideV 27 = 0 from by decide] at h8
  have H1 := Lib.hid h1; clear h1
  have H2 := Lib.hid h2; clear h2
  have H3 := Lib.hid h3; clear h3
  have H4 := Lib.hid h4; clear h4
  have H5 := Lib.hid h5; clear h5
  have H6 := Lib.hid h6; clear h6
  have H7 := Lib.hid h7; clear h7
  have H8 := Lib.hid h8; clear h8
  go_enter Tryd.func14, Tryd.ntmps14
  go_wp2_with fail
  refine (H1.out w hq).mono ?_
  rintro e w1 ⟨rfl, hb⟩
  go_wp2_with fail
  refine (H2.out w1 (hq.below hb)).mono ?_
  rintro e w2 ⟨rfl, hb2⟩
  replace hb := hb.trans (hb2.mono hb.size)
  clear hb2
  go_wp2_with fail
  refine (H3.out w2 (hq.below hb)).mono ?_
  rintro e w3 ⟨rfl, hb2⟩
  replace hb := hb.trans (hb2.mono hb.size)
  clear hb2
  go_wp2_with fail
  refine (H4.out w3 (hq.below hb)).mono ?_
  rintro e w4 ⟨rfl, hb2⟩
  replace hb := hb.trans (hb2.mono hb.size)
  clear hb2
  go_wp2_with fail
  refine (H5.out w4 (hq.below hb)).mono ?_
  rintro e w5 ⟨rfl, hb2⟩
  replace hb := hb.trans (hb2.mono hb.size)
  clear hb2
  go_wp2_with fail
  refine (H6.out w5 (hq.below hb)).mono ?_
  rintro e w6 ⟨rfl, hb2⟩
  replace hb := hb.trans (hb2.mono hb.size)
  clear hb2
  go_wp2_with fail
  refine (H7.out _).mono ?_
  rintro e w' ⟨rfl, rfl⟩
  go_wp2_with fail
  refine (H8.out _).mono ?_
  rintro e w' ⟨rfl, rfl⟩
  go_wp2_with fail
  go_ret
  exact ⟨rfl, hb⟩
end Go.Proofs.YtojfmlckjcehjaaDoor
