/- The walk of MergeTells. -/
import Derived.Test.YtleicghfcffblaaAw13
namespace Go.Proofs.Ytleicghfcffblaa
open Go.RowKit
set_option maxRecDepth 20000
set_option linter.unusedVariables false
set_option linter.unusedSimpArgs false
set_option maxHeartbeats 2000000 in
theorem mergetells_law (v : Value) (l : List It) (w : World) (hv : ItsAt w v l) (hid : ∀ t ∈ l, t.1 < 18446744073709551616) (hsz : ∀ t ∈ l, t.2.size ≤ maxLen) :
    Calls Try.prog 3 #[v] w fun e w' => e = .returned (.bool true) ∧ Below w.heap.size w w' := by
  have HA := Lib.hid awake13_any
  have HOV := Lib.hid (over_any v l 60 3000 w hv hsz (by omega) (by omega))
  have HOW := Lib.hid (fun (hl : l.length ≤ 10000) => own_any v l w hv hl hid hsz)
  obtain ⟨ov, hov⟩ : ∃ ov, overI l 60 3000 = ov := ⟨_, rfl⟩
  rw [hov] at HOV
  clear hv hid hsz
  cases ov with
  | true =>
    clear hov
    go_enter Try.func3, Try.ntmps3
    go_wp2_with fail
    refine HOV.out.mono ?_
    rintro e w1 ⟨rfl, rfl⟩
    go_wp2_with fail
    refine (HA.out _).mono ?_
    rintro e w2 ⟨rfl, hb⟩
    have HB := Lib.hid hb
    clear hb
    go_wp2_with fail
    go_ret
    exact ⟨rfl, HB.out⟩
  | false =>
    have hl60 : l.length ≤ 60 := by
      unfold overI at hov
      rw [Bool.or_eq_false_iff] at hov
      have := hov.2
      simp at this
      omega
    clear hov
    go_enter Try.func3, Try.ntmps3
    go_wp2_with fail
    refine HOV.out.mono ?_
    rintro e w1 ⟨rfl, hw⟩
    subst hw
    go_wp2_with fail
    refine (HOW.out (by omega)).mono ?_
    rintro e w2 ⟨s, d, rfl, hch, hd, hb⟩
    obtain ⟨L, hL⟩ : ∃ L, ownI l = L := ⟨_, rfl⟩
    rw [hL] at hch hd
    obtain ⟨a7, n7, p7, rfl⟩ := hch.form
    have hba : Below w2.heap.size w2 (w2.alloc (.cells #[.slice a7 n7 p7] 27)) := (Below.refl _ _).alloc (Nat.le_refl _) _
    have H2 := Lib.hid (And.intro (hch.below hba) (And.intro (hd.below hba) (hb.trans (hba.mono hb.size))))
    clear hL hch hd hb hba HOV HOW
    go_wp2_with fail
    refine (rows13_any _ L _ H2.out.1).mono ?_
    rintro e w3 ⟨v3, rfl, hv3, hb3⟩
    have H3 := Lib.hid (And.intro hv3 (And.intro (H2.out.2.1.below hb3) (H2.out.2.2.trans (hb3.mono H2.out.2.2.size))))
    have HG := Lib.hid H2.out.1.good
    clear hv3 hb3 H2
    go_wp2_with fail
    refine (rrows_any d L _ H3.out.2.1 HG.out).mono ?_
    rintro e w4 ⟨v4, rfl, hv4, hb4⟩
    have H4 := Lib.hid (And.intro (H3.out.1.below hb4) (And.intro hv4 (H3.out.2.2.trans (hb4.mono H3.out.2.2.size))))
    have hfew := (back_whole HG.out).2.2.2.2.1
    have hfw := HG.out.few
    clear hv4 hb4 H3
    go_wp2_with fail
    refine (ebackN_any v3 (rowsS L).1 _ H4.out.1 (by omega)).mono ?_
    rintro e w5 ⟨v5, rfl, ho5, hb5⟩
    have H5 := Lib.hid (And.intro ho5.ensAt (And.intro (H4.out.2.1.below hb5) (H4.out.2.2.trans (hb5.mono H4.out.2.2.size))))
    clear ho5 hb5 H4
    have HSM := Lib.hid (rsameN_any v5 v4 (rowsS L).1 (rowsS L).1 w5 H5.out.1 H5.out.2.1)
    rw [decide_eq_true rfl] at HSM
    generalize catF (rowsS L).2 = tx at *
    have hq := str_yes (rfl : tx = tx)
    go_wp2_with fail
    refine HSM.out.mono ?_
    rintro e w6 ⟨rfl, hb6⟩
    have H6 := Lib.hid (H5.out.2.2.trans (hb6.mono H5.out.2.2.size))
    clear hb6 H5
    go_wp2_with fail
    refine (HA.out _).mono ?_
    rintro e w7 ⟨rfl, hb7⟩
    have H7 := Lib.hid (H6.out.trans (hb7.mono H6.out.size))
    clear hb7 H6
    go_wp2_with fail
    go_ret
    exact ⟨rfl, H7.out⟩
end Go.Proofs.Ytleicghfcffblaa
