/- The walk of DirsCut. -/
import Derived.Test.YtgnghnekckhcdaaWtD
namespace Go.Proofs.Ytgnghnekckhcdaa
open Go.RowKit
set_option linter.unusedVariables false
set_option linter.unusedSimpArgs false
theorem ext_take (t : ByteArray) (p : Nat) : (t.extract 0 p).data.toList = t.data.toList.take p := by
  rw [ByteArray.data_extract, Array.toList_extract]
  simp
theorem enc_ok (l : List En) (h : encB l = 0) : rowN l = 0 ∧ encT l = str (textI l) ∧ (textI l).length ≤ 65536 := by
  have h' := h
  unfold encB at h'
  split at h'
  · rename_i hr
    split at h'
    · omega
    · exact ⟨hr, by unfold encT; rw [if_pos h], by omega⟩
  · rename_i hr
    exact absurd h' hr
theorem enc_no (l : List En) (h : encB l ≠ 0) : encT l = ByteArray.mk #[] := by unfold encT; rw [if_neg h]
theorem str_textD (l : List En) : (str (textI l)).data.toList = textD l := by rw [str_list, textD_cols]; rfl
set_option maxRecDepth 100000 in
set_option maxHeartbeats 2000000 in
theorem cut_law (v : Value) (l : List En) (cut : Int) (w : World) (h : EnsAt w v l) (m : MaysN l) (c0 : 0 ≤ cut) (c1 : cut ≤ 65535) : Calls Try.prog 6 #[v, .int .u16 cut] w fun x w' => x = .returned (.bool true) ∧ Below w.heap.size w w' := by
  have HA := Lib.hid awakeD_any
  have H0 := Lib.hid h
  have HM := Lib.hid m
  obtain ⟨al, cap, rfl, -, -, -⟩ := h
  clear m
  by_cases g1 : 300 < l.length
  · have d1 : decide (300 < (l.length : Int)) = true := by simp; omega
    clear g1
    go_enter Try.func6, Try.ntmps6
    go_wp2_with fail
    refine (HA.out _).mono ?_
    rintro y w1 ⟨rfl, hb⟩
    have HB1 := Lib.hid hb
    have HN1 := Lib.hid hb
    clear hb
    go_wp2_with fail
    go_ret
    exact ⟨rfl, HB1.out⟩
  have d1 : decide (300 < (l.length : Int)) = false := by simp; omega
  have HL : Hid (l.length ≤ 300) := Lib.hid (by omega)
  have he := fun (v : Value) (W : World) (h : EnsAt W v l) => pencD_any v l W h HM.out (by have := HL.out; omega)
  clear g1
  by_cases g2 : encB l = 0
  · obtain ⟨hr, ht, hb⟩ := enc_ok l g2
    have hs0 := str_textD l
    have hz := (textD_len l).1
    rw [← hs0] at hz
    obtain ⟨S, hS⟩ : ∃ S, str (textI l) = S := ⟨_, rfl⟩
    rw [hS] at ht hs0 hz
    have hsz : S.data.toList.length = S.size := by simp
    rw [hsz] at hz
    simp only [g2, ht] at he
    have hn0 : (S.size : Int) ≠ 0 := by omega
    obtain ⟨p, hp⟩ : ∃ p : Nat, cut.tmod (S.size : Int) = (p : Int) := ⟨(cut.tmod (S.size : Int)).toNat, by rw [Int.tmod_eq_emod_of_nonneg c0]; have := Int.emod_nonneg cut hn0; omega⟩
    have hp2 : cut % (S.size : Int) = (p : Int) := by rw [← hp, Int.tmod_eq_emod_of_nonneg c0]
    have hpl : p < S.size := by have := Int.emod_lt_of_pos cut (b := (S.size : Int)) (by omega); omega
    have hS16 : S.size ≤ 65536 := by rw [← hsz, hs0, ← textI_len]; exact hb
    have hcw : IntKind.i64.wrap cut = cut := by rw [IntKind.wrap_i64] <;> omega
    have hpw : IntKind.i64.wrap (p : Int) = (p : Int) := by rw [IntKind.wrap_i64] <;> omega
    have hdc := decD_cut l HM.out hr p (by rw [← hs0, hsz]; exact hpl) (by rw [← hs0, hsz]; exact hS16)
    rw [← hs0, ← ext_take] at hdc
    have hd := fun W => pdecD_any (S.extract 0 p) W (by rw [ByteArray.size_extract]; unfold maxLen; omega)
    obtain ⟨D, hD⟩ : ∃ D, decD (S.extract 0 p).data.toList = D := ⟨_, rfl⟩
    rw [hD] at hdc
    simp only [hD] at hd
    obtain ⟨l', a, e⟩ := D
    obtain ⟨e1, e2, e3⟩ := hdc
    dsimp only at e1 e2 e3
    subst e1
    subst e2
    have hle : decide ((a : Int) ≤ (p : Int)) = true := by simp; omega
    have hle2 : decide (a ≤ p) = true := by simp; omega
    have hpp : (p : Int) ≤ (S.size : Int) := by omega
    have hemp : S.toList.isEmpty = false := by
      rw [ByteArray.toList_eq, List.isEmpty_eq_false_iff]
      intro h
      rw [h] at hsz
      simp at hsz
      omega
    have HE := Lib.hid he
    have HD := Lib.hid hd
    clear he hd g2 hr ht hb hs0 hz hS hsz hD hS16 e3
    go_enter Try.func6, Try.ntmps6
    go_wp2_with fail
    refine (ownN_any _ l _ H0.out (by have := HL.out; omega)).mono ?_
    rintro y w1 ⟨v1, rfl, ho, hb⟩
    have HV1 := Lib.hid ho
    clear ho
    have HB1 := Lib.hid hb
    have HN1 := Lib.hid hb
    clear hb
    obtain ⟨al1, cap1, hs1, -, -, -⟩ := HV1.out.ensAt
    subst hs1
    go_wp2_with fail
    refine (HE.out _ _ HV1.out.ensAt).mono ?_
    rintro y w2 ⟨rfl, hb⟩
    have HB2 := Lib.hid (HB1.out.trans (hb.mono HB1.out.size))
    have HN2 := Lib.hid hb
    clear hb
    go_wp2_with fail
    refine (HD.out _).mono ?_
    rintro y w3 ⟨v3, rfl, ho, hb⟩
    have HV3 := Lib.hid ho
    clear ho
    have HB3 := Lib.hid (HB2.out.trans (hb.mono HB2.out.size))
    have HN3 := Lib.hid hb
    clear hb
    obtain ⟨al3, cap3, hs3, -, -, -⟩ := HV3.out.ensAt
    subst hs3
    go_wp2_with fail
    refine (HA.out _).mono ?_
    rintro y w4 ⟨rfl, hb⟩
    have HB4 := Lib.hid (HB3.out.trans (hb.mono HB3.out.size))
    have HN4 := Lib.hid hb
    clear hb
    go_wp2_with fail
    go_ret
    exact ⟨rfl, HB4.out⟩
  · have ht := enc_no l g2
    obtain ⟨r, hr⟩ : ∃ r, encB l = r := ⟨_, rfl⟩
    rw [hr] at g2
    have hne : (r != 0) = true := by simpa using g2
    simp only [hr, ht] at he
    have HE := Lib.hid he
    clear he g2 hr ht
    go_enter Try.func6, Try.ntmps6
    go_wp2_with fail
    refine (ownN_any _ l _ H0.out (by have := HL.out; omega)).mono ?_
    rintro y w1 ⟨v1, rfl, ho, hb⟩
    have HV1 := Lib.hid ho
    clear ho
    have HB1 := Lib.hid hb
    have HN1 := Lib.hid hb
    clear hb
    obtain ⟨al1, cap1, hs1, -, -, -⟩ := HV1.out.ensAt
    subst hs1
    go_wp2_with fail
    refine (HE.out _ _ HV1.out.ensAt).mono ?_
    rintro y w2 ⟨rfl, hb⟩
    have HB2 := Lib.hid (HB1.out.trans (hb.mono HB1.out.size))
    have HN2 := Lib.hid hb
    clear hb
    go_wp2_with fail
    refine (HA.out _).mono ?_
    rintro y w3 ⟨rfl, hb⟩
    have HB3 := Lib.hid (HB2.out.trans (hb.mono HB2.out.size))
    have HN3 := Lib.hid hb
    clear hb
    go_wp2_with fail
    go_ret
    exact ⟨rfl, HB3.out⟩
end Go.Proofs.Ytgnghnekckhcdaa
