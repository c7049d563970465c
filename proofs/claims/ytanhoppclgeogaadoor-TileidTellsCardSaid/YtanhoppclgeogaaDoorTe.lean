/- The walk of TileidTells: both sides tell the same identifier, tile, zoom and number of tiles ahead. -/
import Derived.Test.YtanhoppclgeogaaDoorAw
namespace Go.Proofs.YtanhoppclgeogaaDoor
open Go.RowKit
set_option linter.unusedVariables false
set_option linter.unusedSimpArgs false
set_option maxHeartbeats 2000000 in
set_option maxRecDepth 20000 in
theorem tells_walk (z x y d u : Int) (dd : 0 ≤ d) (w : World) (hq : QTab w) : Calls Tryd.prog 3 #[.agg #[.int .i64 z, .int .i64 x, .int .i64 y], .int .u64 d, .int .i64 u] w fun e w' => e = .returned (.bool true) ∧ Below w.heap.size w w' := by
  have H1 := Lib.hid (fun w hq => id_any z x y w hq)
  have H2 := Lib.hid (fun w => rid_any z x y w)
  have H3 := Lib.hid (fun w hq => of_any d dd w hq)
  have H4 := Lib.hid (fun w => rof_any d dd w)
  have H5 := Lib.hid (fun w => base_any u w)
  have H6 := Lib.hid (fun w => rbase_any u w)
  have H7 := Lib.hid (fun w => zoom_any d dd w)
  have H8 := Lib.hid (fun w => rzoom_any d dd w)
  generalize idD z x y = A at *
  generalize plE z x y = E at *
  generalize ofZ d = p at *
  generalize ofX d = q at *
  generalize ofY d = r at *
  generalize ofE d = F at *
  generalize baD u = B at *
  generalize baE u = G at *
  generalize zofV d = Z at *
  go_enter Tryd.func3, Tryd.ntmps3
  go_wp2_with fail
  refine (H1.out _ (hq.below (by go_grown))).mono ?_
  rintro e w1 ⟨rfl, hb⟩
  obtain ⟨hs, hb1, c0, c1, c2, cf⟩ := kept3 hb
  clear hb cf
  go_wp2_with fail
  refine (H2.out _).mono ?_
  rintro e w2 ⟨rfl, hb⟩
  have hb2 := hb1.trans (hb.mono hb1.size)
  have hs2 := hb.size
  clear hb hb1 c0 c1 c2
  go_wp2_with fail
  refine (H3.out _ (hq.below hb2)).mono ?_
  rintro e w3 ⟨rfl, hb⟩
  have hb3 := hb2.trans (hb.mono hb2.size)
  have hs3 := hb.size
  clear hb hb2
  go_wp2_with fail
  refine (H4.out _).mono ?_
  rintro e w4 ⟨rfl, hb⟩
  obtain ⟨hs4, hb4, c0, c1, c2, cf⟩ := kept3 hb
  have hb5 := hb3.trans (hb4.mono hb3.size)
  have hs5 := hb5.size
  clear hb hb4 cf
  go_upto_region 5 with fail
  obtain ⟨W, hW⟩ : ∃ W, w4.alloc (.cells #[.int .i64 p, .int .i64 q, .int .i64 r] 23) = W := ⟨_, rfl⟩
  have hbW : Below w4.heap.size w4 W := by rw [← hW]; exact (Below.refl _ _).alloc (Nat.le_refl _) _
  obtain ⟨d0, d1, d2, df⟩ : Spot W w4.heap.size p q r := by rw [← hW]; exact spot_new w4 p q r _
  replace c0 := cell_later hbW c0
  replace c1 := cell_later hbW c1
  replace c2 := cell_later hbW c2
  have hb6 := hb5.trans (hbW.mono hb5.size)
  rw [hW]
  clear hW hbW df hb5 hb3
  go_wp2_with fail
  refine (H5.out _).mono ?_
  rintro e w' ⟨rfl, rfl⟩
  go_wp2_with fail
  refine (H6.out _).mono ?_
  rintro e w' ⟨rfl, rfl⟩
  go_wp2_with fail
  refine (H7.out _).mono ?_
  rintro e w' ⟨rfl, rfl⟩
  go_wp2_with fail
  refine (H8.out _).mono ?_
  rintro e w' ⟨rfl, rfl⟩
  go_wp2_with fail
  refine (awake_any _ (hq.below hb6)).mono ?_
  rintro e w5 ⟨rfl, hb5⟩
  have hu5 := hb6.trans (hb5.mono hb6.size)
  go_wp2_with fail
  go_ret
  exact ⟨rfl, hu5⟩
end Go.Proofs.YtanhoppclgeogaaDoor
