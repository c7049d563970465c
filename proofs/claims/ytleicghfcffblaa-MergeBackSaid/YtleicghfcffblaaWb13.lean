/- The walk of MergeBack. -/
import Derived.Test.YtleicghfcffblaaAw13
import Derived.Test.YtleicghfcffblaaNe
namespace Go.Proofs.Ytleicghfcffblaa
open Go.RowKit
set_option maxRecDepth 20000
set_option linter.unusedVariables false
set_option linter.unusedSimpArgs false
set_option maxHeartbeats 2000000 in
theorem mergeback_law (v : Value) (l : List En) (data : ByteArray) (w : World) (hv : EnsAt w v l) (hm : MaysN l) (hsz : data.size ≤ maxLen) :
    Calls Try.prog 4 #[v, .string data] w fun e w' => e = .returned (.bool true) ∧ Below w.heap.size w w' := by
  have HA := Lib.hid awake13_any
  by_cases g1 : 200 < l.length
  · obtain ⟨al, cap, rfl, _⟩ := hv
    have d1 : decide (200 < (l.length : Int)) = true := by simp; omega
    clear g1
    go_enter Try.func4, Try.ntmps4
    go_wp2_with fail
    refine (HA.out _).mono ?_
    rintro x w1 ⟨rfl, hb⟩
    go_wp2_with fail
    go_ret
    exact ⟨rfl, hb⟩
  by_cases g2 : 500 < data.size
  · obtain ⟨al, cap, rfl, _⟩ := hv
    have d1 : decide (200 < (l.length : Int)) = false := by simp; omega
    have d2 : decide (500 < (data.size : Int)) = true := by simp; omega
    clear g1 g2
    go_enter Try.func4, Try.ntmps4
    go_wp2_with fail
    refine (HA.out _).mono ?_
    rintro x w1 ⟨rfl, hb⟩
    go_wp2_with fail
    go_ret
    exact ⟨rfl, hb⟩
  have d1 : decide (200 < (l.length : Int)) = false := by simp; omega
  have d2 : decide (500 < (data.size : Int)) = false := by simp; omega
  obtain ⟨r, hr⟩ : ∃ r, backN l data = r := ⟨_, rfl⟩
  have HB := Lib.hid (fun x W hx => back13_any x l data W hx hm (by omega))
  have HR := Lib.hid (fun W hx => rback13_any v l data W hx hm (by omega))
  unfold RBackEnd at HR
  simp only [hr] at HB HR
  have HL := Lib.hid (fun x W hx => least13_any x l W hx hm)
  have HQ := Lib.hid (fun W hx => rleast_any v l W hx hm)
  have HV := Lib.hid hv
  have HO := Lib.hid (ownN_any v l w hv (by omega))
  obtain ⟨al, cap, rfl, _⟩ := hv
  clear g1 g2 hm hsz hr
  go_enter Try.func4, Try.ntmps4
  go_wp2_with fail
  refine HO.out.mono ?_
  rintro e w1 ⟨x, rfl, hx, hb1⟩
  have H1 := Lib.hid (And.intro hx.ensAt (And.intro (HV.out.below hb1) hb1))
  clear hx hb1 HO HV
  go_wp2_with fail
  refine (HB.out _ _ H1.out.1).mono ?_
  rintro e w2 ⟨s, rfl, hs, hb2⟩
  obtain ⟨a7, n7, p7, rfl⟩ := hs.form
  have hba : Below w2.heap.size w2 (w2.alloc (.cells #[.slice a7 n7 p7] 27)) := (Below.refl _ _).alloc (Nat.le_refl _) _
  have hbx := hb2.trans (hba.mono hb2.size)
  have ho := one_new w2 (.slice a7 n7 p7) 27
  have H2 := Lib.hid (And.intro (H1.out.1.below hbx) (And.intro (H1.out.2.1.below hbx) (And.intro (H1.out.2.2.trans (hbx.mono H1.out.2.2.size)) (And.intro (hs.below hba) ho))))
  clear hs hba hbx hb2 ho H1 HB
  go_wp2_with fail
  refine (HR.out _ H2.out.2.1).mono ?_
  rintro e w3 ⟨d, rfl, hd, hb3⟩
  have H3 := Lib.hid (And.intro (H2.out.1.below hb3) (And.intro (H2.out.2.1.below hb3) (And.intro (H2.out.2.2.1.trans (hb3.mono H2.out.2.2.1.size)) (And.intro (H2.out.2.2.2.1.below hb3) hd))))
  have q3 := (H2.out.2.2.2.2.below hb3).cell
  clear hd hb3 H2 HR
  go_wp2_with fail
  refine (items_any _ _ _ H3.out.2.2.2.1).mono ?_
  rintro e w4 ⟨y, rfl, hy, hb4⟩
  have hfew := H3.out.2.2.2.1.good.few
  have H4 := Lib.hid (And.intro (H3.out.1.below hb4) (And.intro (H3.out.2.1.below hb4) (And.intro (H3.out.2.2.1.trans (hb4.mono H3.out.2.2.1.size)) (And.intro (H3.out.2.2.2.2.below hb4) hy))))
  clear hy hb4 q3 H3
  go_wp2_with fail
  refine (back_any _ _ _ H4.out.2.2.2.2 (by omega)).mono ?_
  rintro e w5 ⟨z, rfl, hz, hb5⟩
  have H5 := Lib.hid (And.intro (H4.out.1.below hb5) (And.intro (H4.out.2.1.below hb5) (And.intro (H4.out.2.2.1.trans (hb5.mono H4.out.2.2.1.size)) (And.intro (H4.out.2.2.2.1.below hb5) hz.itsAt))))
  clear hz hb5 H4
  have HSM := Lib.hid (rsame_any _ _ _ _ _ H5.out.2.2.2.2 H5.out.2.2.2.1)
  rw [decide_eq_true rfl] at HSM
  go_wp2_with fail
  refine HSM.out.mono ?_
  rintro e w6 ⟨rfl, hb6⟩
  have H6 := Lib.hid (And.intro (H5.out.1.below hb6) (And.intro (H5.out.2.1.below hb6) (H5.out.2.2.1.trans (hb6.mono H5.out.2.2.1.size))))
  clear hb6 H5 HSM
  have hq : decide (r.2 = r.2) = true := decide_eq_true rfl
  go_wp2_with fail
  refine (HL.out _ _ H6.out.1).mono ?_
  rintro e w7 ⟨rfl, hb7⟩
  have H7 := Lib.hid (And.intro (H6.out.2.1.below hb7) (H6.out.2.2.trans (hb7.mono H6.out.2.2.size)))
  clear hb7 H6
  go_wp2_with fail
  refine (HQ.out _ H7.out.1).mono ?_
  rintro e w8 ⟨rfl, hb8⟩
  have H8 := Lib.hid (H7.out.2.trans (hb8.mono H7.out.2.size))
  clear hb8 H7
  generalize leastN l = b at *
  have hqb : decide (b = b) = true := decide_eq_true rfl
  cases b <;>
  · go_wp2_with fail
    refine (HA.out _).mono ?_
    rintro e w9 ⟨rfl, hb9⟩
    have H9 := Lib.hid (H8.out.trans (hb9.mono H8.out.size))
    go_wp2_with fail
    go_ret
    exact ⟨rfl, H9.out⟩
end Go.Proofs.Ytleicghfcffblaa
