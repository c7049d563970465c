/- The walk of MergeFew. -/
import Derived.Test.YtleicghfcffblaaAw13
import Derived.Test.YtleicghfcffblaaMM
import Derived.Test.YtleicghfcffblaaHl
import Derived.Test.YtleicghfcffblaaPg
namespace Go.Proofs.Ytleicghfcffblaa
open Go.RowKit
set_option maxRecDepth 20000
set_option linter.unusedVariables false
set_option linter.unusedSimpArgs false
set_option maxHeartbeats 2000000 in
theorem mergefew_law (v : Value) (l : List En) (data : ByteArray) (w : World) (hv : EnsAt w v l) (hm : MaysN l) (hsz : data.size ≤ maxLen) :
    Calls Try.prog 6 #[v, .string data] w fun e w' => e = .returned (.bool true) ∧ Below w.heap.size w w' := by
  have HA := Lib.hid awake13_any
  by_cases g1 : 100 < l.length
  · obtain ⟨al, cap, rfl, _⟩ := hv
    have d1 : decide (100 < (l.length : Int)) = true := by simp; omega
    clear g1
    go_enter Try.func6, Try.ntmps6
    go_wp2_with fail
    refine (HA.out _).mono ?_
    rintro x w1 ⟨rfl, hb⟩
    go_wp2_with fail
    go_ret
    exact ⟨rfl, hb⟩
  by_cases g2 : 500 < data.size
  · obtain ⟨al, cap, rfl, _⟩ := hv
    have d1 : decide (100 < (l.length : Int)) = false := by simp; omega
    have d2 : decide (500 < (data.size : Int)) = true := by simp; omega
    clear g1 g2
    go_enter Try.func6, Try.ntmps6
    go_wp2_with fail
    refine (HA.out _).mono ?_
    rintro x w1 ⟨rfl, hb⟩
    go_wp2_with fail
    go_ret
    exact ⟨rfl, hb⟩
  have d1 : decide (100 < (l.length : Int)) = false := by simp; omega
  have d2 : decide (500 < (data.size : Int)) = false := by simp; omega
  have hl100 : l.length ≤ 100 := by omega
  have HB := Lib.hid (fun x W hx => back13_any x l data W hx hm (by omega))
  have HM := Lib.hid hm
  have HO := Lib.hid (ownN_any v l w hv (by omega))
  obtain ⟨al, cap, rfl, _⟩ := hv
  by_cases hz : (backN l data).2 = 0
  · obtain ⟨C, hC⟩ : ∃ C, (backN l data).1 = C := ⟨_, rfl⟩
    have hbn : backN l data = (C, 0) := by rw [← hC, ← hz]
    rw [hbn] at HB
    have HF := Lib.hid (back_few hm hbn)
    clear g1 g2 hm hsz hz hC hbn
    go_enter Try.func6, Try.ntmps6
    go_wp2_with fail
    refine HO.out.mono ?_
    rintro e w1 ⟨x, rfl, hx, hb1⟩
    have H1 := Lib.hid (And.intro hx.ensAt hb1)
    obtain ⟨ax, capx, rfl, _⟩ := hx.ensAt
    clear hx hb1 HO
    go_wp2_with fail
    refine (HB.out _ _ H1.out.1).mono ?_
    rintro e w2 ⟨s, rfl, hs, hb2⟩
    obtain ⟨a7, n7, p7, rfl⟩ := hs.form
    have hba : Below w2.heap.size w2 (w2.alloc (.cells #[.slice a7 n7 p7] 27)) := (Below.refl _ _).alloc (Nat.le_refl _) _
    have hbx := hb2.trans (hba.mono hb2.size)
    have ho := one_new w2 (.slice a7 n7 p7) 27
    have H2 := Lib.hid (And.intro (H1.out.1.below hbx) (And.intro (H1.out.2.trans (hbx.mono H1.out.2.size)) (And.intro (hs.below hba) ho)))
    clear hs hba hbx hb2 ho H1 HB
    go_wp2_with fail
    refine (rows13_any _ C _ H2.out.2.2.1).mono ?_
    rintro e w3 ⟨r3, rfl, hr3, hb3⟩
    have H3 := Lib.hid (And.intro (H2.out.1.below hb3) (And.intro (H2.out.2.1.trans (hb3.mono H2.out.2.1.size)) (And.intro (H2.out.2.2.1.below hb3) (And.intro (H2.out.2.2.2.below hb3) hr3))))
    obtain ⟨ar, capr, rfl, _⟩ := hr3
    clear hb3 H2
    have ht : totF (rowsS C).2 ≤ 134217728 := by
      have h1 := HF.out.2.2.2.1
      have h2 := bytesI_bound C HF.out.1.short
      have h3 := HF.out.1.few
      omega
    have hcs := catF_size (rowsS C).2
    have hbd := HF.out.2.2.2.1
    have hrl := HF.out.2.2.1
    have HB2 := Lib.hid (back13_any _ (rowsS C).1 (catF (rowsS C).2) _ H3.out.2.2.2.2 HF.out.2.2.2.2.2.2 (by omega))
    rw [HF.out.2.1] at HB2
    generalize catF (rowsS C).2 = all at *
    generalize hR : (rowsS C).1 = R at *
    have q3 := H3.out.2.2.2.1.cell
    go_wp2_with fail
    refine HB2.out.mono ?_
    rintro e w4 ⟨s', rfl, hs', hb4⟩
    obtain ⟨a8, n8, p8, rfl⟩ := hs'.form
    have hba : Below w4.heap.size w4 (w4.alloc (.cells #[.slice a8 n8 p8] 27)) := (Below.refl _ _).alloc (Nat.le_refl _) _
    have hbx := hb4.trans (hba.mono hb4.size)
    have ho := one_new w4 (.slice a8 n8 p8) 27
    have H4 := Lib.hid (And.intro (H3.out.1.below hbx) (And.intro (H3.out.2.1.trans (hbx.mono H3.out.2.1.size)) (And.intro (H3.out.2.2.1.below hbx) (And.intro (H3.out.2.2.2.1.below hbx) (And.intro (H3.out.2.2.2.2.below hbx) (And.intro (hs'.below hba) ho))))))
    clear hs' hba hbx hb4 ho H3 HB2 q3
    have q4 := H4.out.2.2.2.1.cell
    have q5 := H4.out.2.2.2.2.2.2.cell
    have HSM := Lib.hid (same_any _ _ _ _ _ H4.out.2.2.1 H4.out.2.2.2.2.2.1)
    rw [decide_eq_true rfl] at HSM
    go_wp2_with fail
    refine HSM.out.mono ?_
    rintro e w5 ⟨rfl, hb5⟩
    have H5 := Lib.hid (And.intro (H4.out.1.below hb5) (And.intro (H4.out.2.1.trans (hb5.mono H4.out.2.1.size)) (And.intro (H4.out.2.2.1.below hb5) (And.intro (H4.out.2.2.2.1.below hb5) (H4.out.2.2.2.2.1.below hb5)))))
    clear hb5 H4 HSM q4 q5
    have q5 := H5.out.2.2.2.1.cell
    go_wp2_with fail
    refine (bytes_any _ _ _ H5.out.2.2.1).mono ?_
    rintro e w6 ⟨rfl, hb6⟩
    have H6 := Lib.hid (And.intro (H5.out.1.below hb6) (And.intro (H5.out.2.1.trans (hb6.mono H5.out.2.1.size)) (And.intro (H5.out.2.2.1.below hb6) (And.intro (H5.out.2.2.2.1.below hb6) (H5.out.2.2.2.2.below hb6)))))
    clear hb6 H5 q5
    go_wp2_with fail
    refine (pcont_any _ R _ H6.out.2.2.2.2 HF.out.2.2.2.2.2.2 (by omega)).mono ?_
    rintro e w7 ⟨rfl, hb7⟩
    have H7 := Lib.hid (And.intro (H6.out.1.below hb7) (And.intro (H6.out.2.1.trans (hb7.mono H6.out.2.1.size)) (And.intro (H6.out.2.2.1.below hb7) (H6.out.2.2.2.1.below hb7))))
    clear hb7 H6
    go_wp2_with fail
    refine (pcont_any _ l _ H7.out.1 HM.out (by omega)).mono ?_
    rintro e w8 ⟨rfl, hb8⟩
    have H8 := Lib.hid (And.intro (H7.out.1.below hb8) (And.intro (H7.out.2.1.trans (hb8.mono H7.out.2.1.size)) (And.intro (H7.out.2.2.1.below hb8) (H7.out.2.2.2.below hb8))))
    clear hb8 H7
    have q8 := H8.out.2.2.2.cell
    have d5 := HF.out.2.2.2.2.1
    go_wp2_with fail
    refine (len_anyC _ _ _ H8.out.2.2.1).mono ?_
    rintro e w9 ⟨rfl, hb9⟩
    have H9 := Lib.hid (And.intro (H8.out.1.below hb9) (H8.out.2.1.trans (hb9.mono H8.out.2.1.size)))
    clear hb9 H8 q8
    have HCN := Lib.hid (pcount_any _ l _ H9.out.1 HM.out (by omega))
    rw [HF.out.2.2.2.2.2.1] at HCN
    have hCl := HF.out.1.few
    have hw9 : IntKind.u64.wrap (C.length : Int) = (C.length : Int) := by rw [IntKind.wrap_u64] <;> omega
    have d6 : decide ((C.length : Int) = (C.length : Int)) = true := decide_eq_true rfl
    go_wp2_with fail
    refine HCN.out.mono ?_
    rintro e w10 ⟨rfl, hb10⟩
    have H10 := Lib.hid (H9.out.2.trans (hb10.mono H9.out.2.size))
    clear hb10 H9 HCN
    go_wp2_with fail
    refine (HA.out _).mono ?_
    rintro e w11 ⟨rfl, hb11⟩
    have H11 := Lib.hid (H10.out.trans (hb11.mono H10.out.size))
    go_wp2_with fail
    go_ret
    exact ⟨rfl, H11.out⟩
  · have he := backN_err hz
    obtain ⟨z, hzz⟩ : ∃ z, (backN l data).2 = z := ⟨_, rfl⟩
    rw [hzz] at hz HB
    rw [he] at HB
    have d3 : decide (z = 0) = false := decide_eq_false hz
    clear g1 g2 hm hsz hzz he
    go_enter Try.func6, Try.ntmps6
    go_wp2_with fail
    refine HO.out.mono ?_
    rintro e w1 ⟨x, rfl, hx, hb1⟩
    have H1 := Lib.hid (And.intro hx.ensAt hb1)
    clear hx hb1 HO
    go_wp2_with fail
    refine (HB.out _ _ H1.out.1).mono ?_
    rintro e w2 ⟨s, rfl, hs, hb2⟩
    obtain ⟨a7, n7, p7, rfl⟩ := hs.form
    have hba : Below w2.heap.size w2 (w2.alloc (.cells #[.slice a7 n7 p7] 27)) := (Below.refl _ _).alloc (Nat.le_refl _) _
    have hbx := hb2.trans (hba.mono hb2.size)
    have H2 := Lib.hid (And.intro (hs.below hba) (H1.out.2.trans (hbx.mono H1.out.2.size)))
    clear hs hba hbx hb2 H1 HB
    go_wp2_with fail
    refine (len_anyC _ _ _ H2.out.1).mono ?_
    rintro e w3 ⟨rfl, hb3⟩
    have H3 := Lib.hid (H2.out.2.trans (hb3.mono H2.out.2.size))
    clear hb3 H2
    go_wp2_with fail
    refine (HA.out _).mono ?_
    rintro e w4 ⟨rfl, hb4⟩
    have H4 := Lib.hid (H3.out.trans (hb4.mono H3.out.size))
    go_wp2_with fail
    go_ret
    exact ⟨rfl, H4.out⟩
end Go.Proofs.Ytleicghfcffblaa
