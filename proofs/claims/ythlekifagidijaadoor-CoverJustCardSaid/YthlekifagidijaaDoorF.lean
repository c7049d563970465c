/- Contracts of the document's Place, Point and Next: the same numbers as the program's. -/
import Derived.Test.YthlekifagidijaaDoorE
namespace Go.Proofs.YthlekifagidijaaDoor
open Go.RowKit
set_option linter.unusedVariables false
theorem rplace_any (z x y : Int) (w : World) : Calls Tryd.prog 52 #[.int .i64 z, .int .i64 x, .int .i64 y] w fun e w' => e = .returned (.tuple #[.int .u64 (plD z x y), .int .i64 (plE z x y)]) ∧ w = w' := by
  by_cases hz : Zoom z
  · have hs := sideV_in z hz
    have hp := p2_pos z.toNat
    by_cases ht : 0 ≤ x ∧ x < sideV z ∧ 0 ≤ y ∧ y < sideV z
    · rw [show plD z x y = hpl z.toNat x y from if_pos ⟨hz, ht⟩, show plE z x y = 0 from by unfold plE; rw [if_pos hz, if_pos ht]]
      rw [hs] at ht
      have HP := Lib.hid (fun w => ref_place z.toNat (by unfold Zoom at hz; omega) x y ht w)
      have h0 := (rside_any z w)
      rw [hs] at h0
      obtain ⟨t0, t1, t2, t3⟩ := ht
      generalize hpl z.toNat x y = D at *
      generalize p2 z.toNat = S at *
      go_enter Tryd.func52, Tryd.ntmps52
      go_wp2_with fail
      refine h0.mono ?_
      rintro e w' ⟨rfl, rfl⟩
      go_wp2_with fail
      refine (HP.out _).mono ?_
      rintro e w' ⟨rfl, rfl⟩
      go_wp2_with fail
      go_ret2
      exact ⟨rfl, rfl⟩
    · rw [show plD z x y = 0 from if_neg (fun h => ht h.2), show plE z x y = 8 from by unfold plE; rw [if_pos hz, if_neg ht]]
      generalize p2 z.toNat = S at *
      rw [hs] at ht
      have HT := Lib.hid ht; clear ht
      have h0 := (rside_any z w)
      rw [hs] at h0
      by_cases c1 : x < 0
      · go_enter Tryd.func52, Tryd.ntmps52
        go_wp2_with fail
        refine h0.mono ?_
        rintro e w' ⟨rfl, rfl⟩
        go_wp2_with fail
        go_ret2
        exact ⟨rfl, rfl⟩
      · by_cases c2 : S ≤ x
        · go_enter Tryd.func52, Tryd.ntmps52
          go_wp2_with fail
          refine h0.mono ?_
          rintro e w' ⟨rfl, rfl⟩
          go_wp2_with fail
          go_ret2
          exact ⟨rfl, rfl⟩
        · by_cases c3 : y < 0
          · go_enter Tryd.func52, Tryd.ntmps52
            go_wp2_with fail
            refine h0.mono ?_
            rintro e w' ⟨rfl, rfl⟩
            go_wp2_with fail
            go_ret2
            exact ⟨rfl, rfl⟩
          · have c4 : S ≤ y := by have := HT.out; omega
            go_enter Tryd.func52, Tryd.ntmps52
            go_wp2_with fail
            refine h0.mono ?_
            rintro e w' ⟨rfl, rfl⟩
            go_wp2_with fail
            go_ret2
            exact ⟨rfl, rfl⟩
  · rw [show plD z x y = 0 from if_neg (fun h => hz h.1), show plE z x y = 2 from by unfold plE; rw [if_neg hz]]
    have h0 := (rside_any z w)
    rw [sideV_no z hz] at h0
    go_enter Tryd.func52, Tryd.ntmps52
    go_wp2_with fail
    refine h0.mono ?_
    rintro e w' ⟨rfl, rfl⟩
    go_wp2_with fail
    go_ret2
    exact ⟨rfl, rfl⟩
end Go.Proofs.YthlekifagidijaaDoor
