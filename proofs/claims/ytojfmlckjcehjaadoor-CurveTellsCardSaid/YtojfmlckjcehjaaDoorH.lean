/- The walks of CurveTells and CurvePoints: both sides tell the same numbers. -/
import Derived.Test.YtojfmlckjcehjaaDoorG
namespace Go.Proofs.YtojfmlckjcehjaaDoor
open Go.RowKit
set_option linter.unusedVariables false
theorem tells_walk (z x y : Int) (w : World) (hq : QTab w) : Calls Tryd.prog 3 #[.int .i64 z, .int .i64 x, .int .i64 y] w fun e w' => e = .returned (.bool true) ∧ Below w.heap.size w w' := by
  have H1 := Lib.hid (fun w hq => place_any z x y w hq)
  have H2 := Lib.hid (fun w => rplace_any z x y w)
  have H3 := Lib.hid (fun w hq => next_any z x y w hq)
  have H4 := Lib.hid (fun w => rnext_any z x y w)
  have H5 := Lib.hid (fun w => side_any z w)
  have H6 := Lib.hid (fun w => rside_any z w)
  generalize plD z x y = a at *
  generalize plE z x y = b at *
  generalize nxX z x y = c at *
  generalize nxY z x y = d at *
  generalize nxE z x y = f at *
  generalize sideV z = s at *
  go_enter Tryd.func3, Tryd.ntmps3
  go_wp2_with fail
  refine (H1.out w hq).mono ?_
  rintro e w1 ⟨rfl, hb⟩
  go_wp2_with fail
  refine (H2.out w1).mono ?_
  rintro e w' ⟨rfl, rfl⟩
  go_wp2_with fail
  refine (H3.out w1 (hq.below hb)).mono ?_
  rintro e w2 ⟨rfl, hb2⟩
  replace hb := hb.trans (hb2.mono hb.size)
  clear hb2
  go_wp2_with fail
  refine (H4.out w2).mono ?_
  rintro e w' ⟨rfl, rfl⟩
  go_wp2_with fail
  refine (H5.out w2).mono ?_
  rintro e w' ⟨rfl, rfl⟩
  go_wp2_with fail
  refine (H6.out w2).mono ?_
  rintro e w' ⟨rfl, rfl⟩
  go_wp2_with fail
  refine (awake_any w2 (hq.below hb)).mono ?_
  rintro e w3 ⟨rfl, hb2⟩
  replace hb := hb.trans (hb2.mono hb.size)
  clear hb2
  go_wp2_with fail
  go_ret
  exact ⟨rfl, hb⟩
theorem points_walk (z d : Int) (d0 : 0 ≤ d) (w : World) (hq : QTab w) : Calls Tryd.prog 4 #[.int .i64 z, .int .u64 d] w fun e w' => e = .returned (.bool true) ∧ Below w.heap.size w w' := by
  have H1 := Lib.hid (fun w hq => point_any z d d0 w hq)
  have H2 := Lib.hid (fun w => rpoint_any z d d0 w)
  generalize ptX z d = a at *
  generalize ptY z d = b at *
  generalize ptE z d = c at *
  go_enter Tryd.func4, Tryd.ntmps4
  go_wp2_with fail
  refine (H1.out w hq).mono ?_
  rintro e w1 ⟨rfl, hb⟩
  go_wp2_with fail
  refine (H2.out w1).mono ?_
  rintro e w' ⟨rfl, rfl⟩
  go_wp2_with fail
  refine (awake_any w1 (hq.below hb)).mono ?_
  rintro e w3 ⟨rfl, hb2⟩
  replace hb := hb.trans (hb2.mono hb.size)
  clear hb2
  go_wp2_with fail
  go_ret
  exact ⟨rfl, hb⟩
end Go.Proofs.YtojfmlckjcehjaaDoor
