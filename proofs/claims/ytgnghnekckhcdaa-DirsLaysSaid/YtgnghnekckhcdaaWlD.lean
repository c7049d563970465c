/- The walk of DirsLays. -/
import Derived.Test.YtgnghnekckhcdaaAk8
namespace Go.Proofs.Ytgnghnekckhcdaa
open Go.RowKit
set_option linter.unusedVariables false
set_option linter.unusedSimpArgs false
set_option maxRecDepth 100000 in
set_option maxHeartbeats 2000000 in
theorem lays_law (v : Value) (l : List En) (w : World) (h : EnsAt w v l) (m : MaysN l) : Calls Try.prog 3 #[v] w fun x w' => x = .returned (.bool true) ∧ Below w.heap.size w w' := by
  have HA := Lib.hid awakeD_any
  have H0 := Lib.hid h
  have HM := Lib.hid m
  obtain ⟨al, cap, rfl, -, -, -⟩ := h
  clear m
  by_cases g1 : 300 < l.length
  · have d1 : decide (300 < (l.length : Int)) = true := by simp; omega
    clear g1
    go_enter Try.func3, Try.ntmps3
    go_wp2_with fail
    refine (HA.out _).mono ?_
    rintro y w1 ⟨rfl, hb⟩
    have HB1 := Lib.hid hb
    have HN1 := Lib.hid hb
    clear hb
    go_wp2_with fail
    go_ret
    exact ⟨rfl, HB1.out⟩
  · have d1 : decide (300 < (l.length : Int)) = false := by simp; omega
    have HL : Hid (l.length ≤ 300) := Lib.hid (by omega)
    clear g1
    go_enter Try.func3, Try.ntmps3
    go_wp2_with fail
    refine (ownN_any _ l _ H0.out (by have := HL.out; omega)).mono ?_
    rintro y w1 ⟨v1, rfl, ho, hb⟩
    have HV1 := Lib.hid ho
    clear ho
    have HB1 := Lib.hid hb
    have HN1 := Lib.hid hb
    clear hb
    obtain ⟨al1, cap1, hs1, -, -, -⟩ := HV1.out.ensAt
    subst hs1
    go_wp2_with fail
    refine (pencD_any _ l _ HV1.out.ensAt HM.out (by have := HL.out; omega)).mono ?_
    rintro y w2 ⟨rfl, hb⟩
    have HB2 := Lib.hid (HB1.out.trans (hb.mono HB1.out.size))
    have HN2 := Lib.hid hb
    clear hb
    go_wp2_with fail
    refine (rencD_any _ l _ (H0.out.below HB2.out) HM.out (by have := HL.out; omega)).mono ?_
    rintro y w3 ⟨rfl, hb⟩
    have HB3 := Lib.hid (HB2.out.trans (hb.mono HB2.out.size))
    have HN3 := Lib.hid hb
    clear hb
    go_wp2_with fail
    refine (ownN_any _ l _ (H0.out.below HB3.out) (by have := HL.out; omega)).mono ?_
    rintro y w4 ⟨v4, rfl, ho, hb⟩
    have HV4 := Lib.hid ho
    clear ho
    have HB4 := Lib.hid (HB3.out.trans (hb.mono HB3.out.size))
    have HN4 := Lib.hid hb
    clear hb
    obtain ⟨al4, cap4, hs4, -, -, -⟩ := HV4.out.ensAt
    subst hs4
    go_wp2_with fail
    refine (psizD_any _ l _ HV4.out.ensAt HM.out (by have := HL.out; omega)).mono ?_
    rintro y w5 ⟨rfl, hb⟩
    have HB5 := Lib.hid (HB4.out.trans (hb.mono HB4.out.size))
    have HN5 := Lib.hid hb
    clear hb
    go_wp2_with fail
    refine (rsizD_any _ l _ (H0.out.below HB5.out) HM.out (by have := HL.out; omega)).mono ?_
    rintro y w6 ⟨rfl, hb⟩
    have HB6 := Lib.hid (HB5.out.trans (hb.mono HB5.out.size))
    have HN6 := Lib.hid hb
    clear hb
    go_wp2_with fail
    refine (HA.out _).mono ?_
    rintro y w7 ⟨rfl, hb⟩
    have HB7 := Lib.hid (HB6.out.trans (hb.mono HB6.out.size))
    have HN7 := Lib.hid hb
    clear hb
    go_wp2_with fail
    go_ret
    exact ⟨rfl, HB7.out⟩
end Go.Proofs.Ytgnghnekckhcdaa
