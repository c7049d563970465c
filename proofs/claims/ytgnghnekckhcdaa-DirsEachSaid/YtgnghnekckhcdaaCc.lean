/- The program's numbers of an entry in a row: what an offset's number is worth. -/
import Derived.Test.YtgnghnekckhcdaaCb
namespace Go.Proofs.Ytgnghnekckhcdaa
open Go.RowKit
set_option linter.unusedVariables false
set_option linter.unusedSimpArgs false
set_option maxRecDepth 20000 in
set_option maxHeartbeats 1000000 in
theorem poff_any (v : Value) (l : List En) (w : World) (i : Nat) (x : Int) (hv : EnsAt w v l) (hm : MaysN l) (hi : i < l.length) (hx : 0 ≤ x ∧ x ≤ 18446744073709551615) : Calls Try.prog 32 #[v, .int .i64 (i : Int), .int .u64 x] w fun y w' => y = .returned (.tuple #[.int .u64 (if wrgN l 3 i x = 0 then worN l 3 i x else 0), .int .i64 (wrgN l 3 i x)]) ∧ Below w.heap.size w w' := by
  have h1 : worN l 3 i x = if x = 0 then nxE l (i - 1) else x - 1 := by unfold worN; rw [if_neg (by decide), if_pos rfl, put3]
  have h0 : wrgN l 3 i x = if i = 0 ∧ x = 0 then 4 else if 0 < i ∧ 0 < x ∧ x - 1 = nxE l (i - 1) then 4 else 0 := by unfold wrgN; simp
  have hml : l.length ≤ 9223372036854775807 := by obtain ⟨_, _, _, _, _, h, _⟩ := ens_cells hv i hi; exact h
  have HV := Lib.hid hv
  have HM := Lib.hid hm
  have HI := Lib.hid hi
  have HX := Lib.hid hx
  by_cases hz : i = 0
  · have hz0 : ((i : Int) == 0) = true := by simpa using hz
    have hdz : decide (0 < (i : Int)) = false := by simp; omega
    have hdn : decide (0 < i) = false := by simp; omega
    by_cases hx0 : x = 0
    · have hxe : (x == 0) = true := by simpa using hx0
      rw [if_pos ⟨hz, hx0⟩] at h0
      rw [h0, if_neg (by decide)]
      clear hv hm hx h0 h1 hz hx0 hi hml
      go_enter Try.func32, Try.ntmps32
      go_wp2_with fail
      go_ret2
      exact ⟨rfl, Below.refl _ _⟩
    · have hxe : (x == 0) = false := by simpa using hx0
      rw [if_neg (fun h => hx0 h.2), if_neg (fun h => by omega)] at h0
      rw [if_neg hx0] at h1
      rw [h0, if_pos rfl, h1]
      have hw : IntKind.u64.wrap (x - 1) = x - 1 := by rw [wrapU]; omega
      clear hv hm hx h0 h1 hz hx0 hi hml
      go_enter Try.func32, Try.ntmps32
      go_wp2_with fail
      go_ret2
      exact ⟨rfl, Below.refl _ _⟩
  · have hz0 : ((i : Int) == 0) = false := by simpa using hz
    have hdz : decide (0 < (i : Int)) = true := by simp; omega
    have hdn : decide (0 < i) = true := by simp; omega
    obtain ⟨j, hj⟩ : ∃ j, i = j + 1 := ⟨i - 1, by omega⟩
    rw [show i - 1 = j from by omega] at h0 h1
    have HB := Lib.hid (fun W (hb : Below w.heap.size w W) => pbehN_any v l W j (HV.out.below hb) HM.out (by omega) i hj (by omega))
    by_cases hx0 : x = 0
    · have hxe : (x == 0) = true := by simpa using hx0
      rw [if_neg (fun h => hz h.1), if_neg (fun h => by omega)] at h0
      rw [if_pos hx0] at h1
      rw [h0, if_pos rfl, h1]
      generalize nxE l j = q at *
      clear hv hm hx h0 h1 hz hx0 hi hj hml
      go_enter Try.func32, Try.ntmps32
      go_wp2_with (go_at_call 61; refine (HB.out _ (Below.refl _ _)).mono ?_; rintro y w1 ⟨rfl, hb⟩)
      go_ret2
      exact ⟨rfl, hb⟩
    · have hxe : (x == 0) = false := by simpa using hx0
      rw [if_neg (fun h => hz h.1)] at h0
      rw [if_neg hx0] at h1
      have hw : IntKind.u64.wrap (x - 1) = x - 1 := by rw [wrapU]; omega
      by_cases he : x - 1 = nxE l j
      · rw [if_pos ⟨by omega, by omega, he⟩] at h0
        rw [h0, if_neg (by decide)]
        have hbe : (x - 1 == nxE l j) = true := by simpa using he
        generalize nxE l j = q at *
        clear hv hm hx h0 h1 hz hx0 hi he hj hml
        go_enter Try.func32, Try.ntmps32
        go_wp2_with (go_at_call 61; refine (HB.out _ (Below.refl _ _)).mono ?_; rintro y w1 ⟨rfl, hb⟩)
        go_ret2
        exact ⟨rfl, hb⟩
      · rw [if_neg (fun h => he h.2.2)] at h0
        rw [h0, if_pos rfl, h1]
        have hbe : (x - 1 == nxE l j) = false := by simpa using he
        generalize nxE l j = q at *
        clear hv hm hx h0 h1 hz hx0 hi he hj hml
        go_enter Try.func32, Try.ntmps32
        go_wp2_with (go_at_call 61; refine (HB.out _ (Below.refl _ _)).mono ?_; rintro y w1 ⟨rfl, hb⟩)
        go_ret2
        exact ⟨rfl, hb⟩
end Go.Proofs.Ytgnghnekckhcdaa
