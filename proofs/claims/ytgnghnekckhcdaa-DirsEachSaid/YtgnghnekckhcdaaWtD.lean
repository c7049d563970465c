/- The walk of DirsTakes. -/
import Derived.Test.YtgnghnekckhcdaaAk8
namespace Go.Proofs.Ytgnghnekckhcdaa
open Go.RowKit
set_option linter.unusedVariables false
set_option linter.unusedSimpArgs false
theorem decD_len (t : List UInt8) : (decD t).1.length ≤ 4096 := by
  by_cases h : (decD t).2.2 = 0
  · exact rowN_len (decD_back t h).1
  · rw [(decD_bad t).1 h]; simp
set_option maxRecDepth 100000 in
set_option maxHeartbeats 2000000 in
theorem takes_law (t : ByteArray) (w : World) (hm : t.size ≤ maxLen) : Calls Try.prog 4 #[.string t] w fun x w' => x = .returned (.bool true) ∧ Below w.heap.size w w' := by
  have HA := Lib.hid awakeD_any
  by_cases g1 : 1500 < t.size
  · have d1 : decide (1500 < (t.size : Int)) = true := by simp; omega
    clear g1
    go_enter Try.func4, Try.ntmps4
    go_wp2_with fail
    refine (HA.out _).mono ?_
    rintro y w1 ⟨rfl, hb⟩
    have HB1 := Lib.hid hb
    have HN1 := Lib.hid hb
    clear hb
    go_wp2_with fail
    go_ret
    exact ⟨rfl, HB1.out⟩
  · have d1 : decide (1500 < (t.size : Int)) = false := by simp; omega
    have hp := fun W => pdecD_any t W hm
    have hr := fun W => rdecD_any t W hm
    have hl := decD_len t.data.toList
    obtain ⟨D, hD⟩ : ∃ D, decD t.data.toList = D := ⟨_, rfl⟩
    simp only [hD] at hp hr hl
    obtain ⟨l, a, e⟩ := D
    have HL := Lib.hid hl
    have HP := Lib.hid hp
    have HR := Lib.hid hr
    clear g1 hD hl hp hr
    go_enter Try.func4, Try.ntmps4
    go_wp2_with fail
    refine (HP.out _).mono ?_
    rintro y w1 ⟨v1, rfl, ho, hb⟩
    have HV1 := Lib.hid ho
    clear ho
    have HB1 := Lib.hid hb
    have HN1 := Lib.hid hb
    clear hb
    go_wp2_with fail
    refine (HR.out _).mono ?_
    rintro y w2 ⟨v2, rfl, ho, hb⟩
    have HV2 := Lib.hid ho
    clear ho
    have HB2 := Lib.hid (HB1.out.trans (hb.mono HB1.out.size))
    have HN2 := Lib.hid hb
    clear hb
    go_wp2_with fail
    refine (backN_any _ l _ (HV1.out.ensAt.below HN2.out) (by have := HL.out; omega)).mono ?_
    rintro y w3 ⟨v3, rfl, ho, hb⟩
    have HV3 := Lib.hid ho
    clear ho
    have HB3 := Lib.hid (HB2.out.trans (hb.mono HB2.out.size))
    have HN3 := Lib.hid hb
    clear hb
    go_wp2_with fail
    refine (rsameN_any _ _ l l _ HV3.out.ensAt (HV2.out.ensAt.below HN3.out)).mono ?_
    rintro y w4 ⟨rfl, hb⟩
    have HB4 := Lib.hid (HB3.out.trans (hb.mono HB3.out.size))
    have HN4 := Lib.hid hb
    clear hb
    go_wp2_with fail
    refine (HA.out _).mono ?_
    rintro y w5 ⟨rfl, hb⟩
    have HB5 := Lib.hid (HB4.out.trans (hb.mono HB4.out.size))
    have HN5 := Lib.hid hb
    clear hb
    go_wp2_with fail
    go_ret
    exact ⟨rfl, HB5.out⟩
end Go.Proofs.Ytgnghnekckhcdaa
