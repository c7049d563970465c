/- Contracts of the document's Check, Size and Has of a rectangle. -/
import Derived.Test.YthlekifagidijaaDoorB
import Derived.Test.YthlekifagidijaaDoorRs
import Derived.Handy
namespace Go.Proofs.YthlekifagidijaaDoor
open Go.RowKit
set_option linter.unusedVariables false
set_option linter.unusedSimpArgs false
/-- A rectangle as a value. -/
def RectIn (z x0 y0 x1 y1 : Int) : Prop := 0 ≤ x0 ∧ x0 ≤ x1 ∧ x1 < sideV z ∧ 0 ≤ y0 ∧ y0 ≤ y1 ∧ y1 < sideV z
instance (z x0 y0 x1 y1 : Int) : Decidable (RectIn z x0 y0 x1 y1) := by unfold RectIn; infer_instance
def ckE (z x0 y0 x1 y1 : Int) : Int := if Zoom z then (if RectIn z x0 y0 x1 y1 then 0 else 8) else 2
theorem zsideV_no (z : Int) (h : ¬ Zoom z) : sideV z = 0 := if_neg h
theorem zsideV_in (z : Int) (h : Zoom z) : sideV z = p2 z.toNat := if_pos h
set_option maxHeartbeats 2000000 in
theorem rcheck_any (z x0 y0 x1 y1 : Int) (w : World) : Calls Tryd.prog 9 #[.agg #[.int .i64 z, .int .i64 x0, .int .i64 y0, .int .i64 x1, .int .i64 y1]] w fun e w' => e = .returned (.int .i64 (ckE z x0 y0 x1 y1)) ∧ Below w.heap.size w w' := by
  have H0 := Lib.hid (fun w => rside_any z w)
  by_cases hz : Zoom z
  · have hS : 1 ≤ sideV z ∧ sideV z ≤ 67108864 := by
      rw [zsideV_in z hz]
      unfold Zoom at hz
      exact ⟨p2_pos _, p2_top _ (by omega)⟩
    by_cases hr : RectIn z x0 y0 x1 y1
    · rw [show ckE z x0 y0 x1 y1 = 0 from by unfold ckE; rw [if_pos hz, if_pos hr]]
      obtain ⟨r1, r2, r3, r4, r5, r6⟩ := hr
      generalize sideV z = S at *
      go_enter Tryd.func9, Tryd.ntmps9
      go_wp2_with fail
      refine (H0.out _).mono ?_
      rintro e w' ⟨rfl, rfl⟩
      go_wp2_with fail
      go_ret
      exact ⟨rfl, by go_grown⟩
    · rw [show ckE z x0 y0 x1 y1 = 8 from by unfold ckE; rw [if_pos hz, if_neg hr]]
      unfold RectIn at hr
      generalize sideV z = S at *
      have HR := Lib.hid hr
      clear hr
      by_cases q1 : x0 < 0
      · go_enter Tryd.func9, Tryd.ntmps9
        go_wp2_with fail
        refine (H0.out _).mono ?_
        rintro e w' ⟨rfl, rfl⟩
        go_wp2_with fail
        go_ret
        exact ⟨rfl, by go_grown⟩
      · by_cases q2 : x1 < x0
        · go_enter Tryd.func9, Tryd.ntmps9
          go_wp2_with fail
          refine (H0.out _).mono ?_
          rintro e w' ⟨rfl, rfl⟩
          go_wp2_with fail
          go_ret
          exact ⟨rfl, by go_grown⟩
        · by_cases q3 : S ≤ x1
          · go_enter Tryd.func9, Tryd.ntmps9
            go_wp2_with fail
            refine (H0.out _).mono ?_
            rintro e w' ⟨rfl, rfl⟩
            go_wp2_with fail
            go_ret
            exact ⟨rfl, by go_grown⟩
          · by_cases q4 : y0 < 0
            · go_enter Tryd.func9, Tryd.ntmps9
              go_wp2_with fail
              refine (H0.out _).mono ?_
              rintro e w' ⟨rfl, rfl⟩
              go_wp2_with fail
              go_ret
              exact ⟨rfl, by go_grown⟩
            · by_cases q5 : y1 < y0
              · go_enter Tryd.func9, Tryd.ntmps9
                go_wp2_with fail
                refine (H0.out _).mono ?_
                rintro e w' ⟨rfl, rfl⟩
                go_wp2_with fail
                go_ret
                exact ⟨rfl, by go_grown⟩
              · have q6 : S ≤ y1 := by have := HR.out; omega
                go_enter Tryd.func9, Tryd.ntmps9
                go_wp2_with fail
                refine (H0.out _).mono ?_
                rintro e w' ⟨rfl, rfl⟩
                go_wp2_with fail
                go_ret
                exact ⟨rfl, by go_grown⟩
  · rw [show ckE z x0 y0 x1 y1 = 2 from by unfold ckE; rw [if_neg hz]]
    rw [zsideV_no z hz] at H0
    go_enter Tryd.func9, Tryd.ntmps9
    go_wp2_with fail
    refine (H0.out _).mono ?_
    rintro e w' ⟨rfl, rfl⟩
    go_wp2_with fail
    go_ret
    exact ⟨rfl, by go_grown⟩
end Go.Proofs.YthlekifagidijaaDoor
