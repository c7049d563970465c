/- The walk of DirsBack. -/
import Derived.Test.YtgnghnekckhcdaaWcD
namespace Go.Proofs.Ytgnghnekckhcdaa
open Go.RowKit
set_option linter.unusedVariables false
set_option linter.unusedSimpArgs false
theorem str_same (l : List En) (t : ByteArray) (h : textD l = t.data.toList) : str (textI l) = t := by
  apply ByteArray.ext
  apply Array.toList_inj.1
  rw [str_textD, h]
theorem enc_back (t : ByteArray) (l : List En) (hr : rowN l = 0) (ht : textD l = t.data.toList) (hs : t.size ≤ 65536) : encB l = 0 ∧ encT l = t := by
  have hl : (textI l).length = t.size := by rw [textI_len, ht]; simp
  have h0 : encB l = 0 := by unfold encB; rw [if_pos hr, if_neg (by omega)]
  exact ⟨h0, by unfold encT; rw [if_pos h0]; exact str_same l t ht⟩
set_option maxRecDepth 100000 in
set_option maxHeartbeats 2000000 in
theorem back_law (v : Value) (l : List En) (t : ByteArray) (w : World) (h : EnsAt w v l) (m : MaysN l) (ht : t.size ≤ maxLen) : Calls Try.prog 5 #[v, .string t] w fun x w' => x = .returned (.bool true) ∧ Below w.heap.size w w' := by
  have HA := Lib.hid awakeD_any
  have H0 := Lib.hid h
  have HM := Lib.hid m
  obtain ⟨al, cap, rfl, -, -, -⟩ := h
  clear m
  by_cases g1 : 300 < l.length
  · have d1 : decide (300 < (l.length : Int)) = true := by simp; omega
    clear g1
    go_enter Try.func5, Try.ntmps5
    go_wp2_with fail
    refine (HA.out _).mono ?_
    rintro y w1 ⟨rfl, hb⟩
    have HB1 := Lib.hid hb
    have HN1 := Lib.hid hb
    clear hb
    go_wp2_with fail
    go_ret
    exact ⟨rfl, HB1.out⟩
  have d1 : decide (300 < (l.length : Int)) = false := by simp; omega
  have HL : Hid (l.length ≤ 300) := Lib.hid (by omega)
  by_cases g2 : 1500 < t.size
  · have d2 : decide (1500 < (t.size : Int)) = true := by simp; omega
    clear g1 g2
    go_enter Try.func5, Try.ntmps5
    go_wp2_with fail
    refine (HA.out _).mono ?_
    rintro y w1 ⟨rfl, hb⟩
    have HB1 := Lib.hid hb
    have HN1 := Lib.hid hb
    clear hb
    go_wp2_with fail
    go_ret
    exact ⟨rfl, HB1.out⟩
  have d2 : decide (1500 < (t.size : Int)) = false := by simp; omega
  have he := fun (v : Value) (W : World) (h : EnsAt W v l) => pencD_any v l W h HM.out (by have := HL.out; omega)
  have hz := fun (v : Value) (W : World) (h : EnsAt W v l) => psizD_any v l W h HM.out (by have := HL.out; omega)
  have hp := fun W => pdecD_any t W ht
  have hl2 := decD_len t.data.toList
  have hbk := decD_back t.data.toList
  have hbd := decD_bad t.data.toList
  have htl : t.data.toList.length = t.size := by simp
  obtain ⟨D, hD⟩ : ∃ D, decD t.data.toList = D := ⟨_, rfl⟩
  simp only [hD] at hp hl2 hbk hbd
  obtain ⟨y, a, e⟩ := D
  dsimp only at hl2 hbk hbd
  rw [htl] at hbk hbd
  have hale : decide ((a : Int) ≤ (t.size : Int)) = true := by simp; omega
  have hale2 : decide (a ≤ t.size) = true := by simp; omega
  have HP := Lib.hid hp
  have HBK := Lib.hid hbk
  have HBD := Lib.hid hbd.1
  clear hp hbk hbd hD g1 g2 ht
  by_cases f1 : encB l = 0
  · obtain ⟨hr, ht, hb⟩ := enc_ok l f1
    have hs0 := str_textD l
    have hsd : sizD l = (textI l).length := by unfold sizD; rw [if_pos hr]
    have hss := str_size (textI l)
    obtain ⟨S, hS⟩ : ∃ S, str (textI l) = S := ⟨_, rfl⟩
    rw [hS] at ht hs0 hss
    have hsz : S.data.toList.length = S.size := by simp
    have hS16 : S.size ≤ 65536 := by omega
    rw [← hss] at hsd
    simp only [f1, ht] at he
    simp only [hsd] at hz
    have hlen3 : (textD l).length ≤ 12010 := by have := (textD_len l).2; have := HL.out; omega
    have h1 := decD_text l HM.out hr (by omega)
    have h2 := decD_more l HM.out hr [0] (by simp) (by simp only [List.length_cons, List.length_nil]; omega)
    rw [← hs0, hsz] at h1 h2
    have happ : (S ++ ByteArray.mk #[0]).data.toList = S.data.toList ++ [0] := by simp
    rw [← happ] at h2
    have hq := fun W => pdecD_any S W (by unfold maxLen; omega)
    have hq2 := fun W => pdecD_any (S ++ ByteArray.mk #[0]) W (by rw [ByteArray.size_append, show (ByteArray.mk #[0]).size = 1 from rfl]; unfold maxLen; omega)
    simp only [h1] at hq
    simp only [h2] at hq2
    have HQ := Lib.hid hq
    have HQ2 := Lib.hid hq2
    have HE := Lib.hid he
    have HZ := Lib.hid hz
    have hSz1 : S.size + 1 ≤ 65537 := by omega
    clear hq hq2 he hz f1 hr ht hb hs0 hsd hss hS hsz hlen3 h1 h2 happ
    by_cases f2 : e = 0
    · subst f2
      obtain ⟨b1, b2, b3, b4, b5⟩ := HBK.out rfl
      subst b4
      have hle := hl2
      obtain ⟨q1, q2⟩ := enc_back t y b1 b3 (by omega)
      have hn := fun (v : Value) (W : World) (h : EnsAt W v y) => pencD_any v y W h b2 (by omega)
      simp only [q1, q2] at hn
      have HN := Lib.hid hn
      clear hn q1 q2 b1 b3 b5 hle
      go_enter Try.func5, Try.ntmps5
      go_wp2_with fail
      refine (ownN_any _ l _ H0.out (by have := HL.out; omega)).mono ?_
      rintro y w1 ⟨v1, rfl, ho, hb⟩
      have HV1 := Lib.hid ho
      clear ho
      have HB1 := Lib.hid hb
      have HN1 := Lib.hid hb
      clear hb
      obtain ⟨al1, cap1, hs1, -, -, -⟩ := HV1.out.ensAt
      subst hs1
      go_wp2_with fail
      refine (HE.out _ _ HV1.out.ensAt).mono ?_
      rintro y w2 ⟨rfl, hb⟩
      have HB2 := Lib.hid (HB1.out.trans (hb.mono HB1.out.size))
      have HN2 := Lib.hid hb
      clear hb
      go_wp2_with fail
      refine (HQ.out _).mono ?_
      rintro y w3 ⟨v3, rfl, ho, hb⟩
      have HV3 := Lib.hid ho
      clear ho
      have HB3 := Lib.hid (HB2.out.trans (hb.mono HB2.out.size))
      have HN3 := Lib.hid hb
      clear hb
      obtain ⟨al3, cap3, hs3, -, -, -⟩ := HV3.out.ensAt
      subst hs3
      go_wp2_with fail
      refine (psame_any _ _ l l _ (HV1.out.ensAt.below (HN2.out.trans (HN3.out.mono HN2.out.size))) HV3.out.ensAt).mono ?_
      rintro y w4 ⟨rfl, hb⟩
      have HB4 := Lib.hid (HB3.out.trans (hb.mono HB3.out.size))
      have HN4 := Lib.hid hb
      clear hb
      go_wp2_with fail
      refine (HZ.out _ _ (HV1.out.ensAt.below (HN2.out.trans ((HN3.out.trans (HN4.out.mono HN3.out.size)).mono HN2.out.size)))).mono ?_
      rintro y w5 ⟨rfl, hb⟩
      have HB5 := Lib.hid (HB4.out.trans (hb.mono HB4.out.size))
      have HN5 := Lib.hid hb
      clear hb
      go_wp2_with fail
      refine (HQ2.out _).mono ?_
      rintro y w6 ⟨v6, rfl, ho, hb⟩
      have HV6 := Lib.hid ho
      clear ho
      have HB6 := Lib.hid (HB5.out.trans (hb.mono HB5.out.size))
      have HN6 := Lib.hid hb
      clear hb
      obtain ⟨al6, cap6, hs6, -, -, -⟩ := HV6.out.ensAt
      subst hs6
      go_wp2_with fail
      refine (HP.out _).mono ?_
      rintro y w7 ⟨v7, rfl, ho, hb⟩
      have HV7 := Lib.hid ho
      clear ho
      have HB7 := Lib.hid (HB6.out.trans (hb.mono HB6.out.size))
      have HN7 := Lib.hid hb
      clear hb
      obtain ⟨al7, cap7, hs7, -, -, -⟩ := HV7.out.ensAt
      subst hs7
      go_wp2_with fail
      refine (HN.out _ _ HV7.out.ensAt).mono ?_
      rintro y w8 ⟨rfl, hb⟩
      have HB8 := Lib.hid (HB7.out.trans (hb.mono HB7.out.size))
      have HN8 := Lib.hid hb
      clear hb
      go_wp2_with fail
      refine (HA.out _).mono ?_
      rintro y w9 ⟨rfl, hb⟩
      have HB9 := Lib.hid (HB8.out.trans (hb.mono HB8.out.size))
      have HN9 := Lib.hid hb
      clear hb
      go_wp2_with fail
      go_ret
      exact ⟨rfl, HB9.out⟩
    · have hy := HBD.out f2
      subst hy
      have hne2 : (e != 0) = true := by simpa using f2
      clear f2
      go_enter Try.func5, Try.ntmps5
      go_wp2_with fail
      refine (ownN_any _ l _ H0.out (by have := HL.out; omega)).mono ?_
      rintro y w1 ⟨v1, rfl, ho, hb⟩
      have HV1 := Lib.hid ho
      clear ho
      have HB1 := Lib.hid hb
      have HN1 := Lib.hid hb
      clear hb
      obtain ⟨al1, cap1, hs1, -, -, -⟩ := HV1.out.ensAt
      subst hs1
      go_wp2_with fail
      refine (HE.out _ _ HV1.out.ensAt).mono ?_
      rintro y w2 ⟨rfl, hb⟩
      have HB2 := Lib.hid (HB1.out.trans (hb.mono HB1.out.size))
      have HN2 := Lib.hid hb
      clear hb
      go_wp2_with fail
      refine (HQ.out _).mono ?_
      rintro y w3 ⟨v3, rfl, ho, hb⟩
      have HV3 := Lib.hid ho
      clear ho
      have HB3 := Lib.hid (HB2.out.trans (hb.mono HB2.out.size))
      have HN3 := Lib.hid hb
      clear hb
      obtain ⟨al3, cap3, hs3, -, -, -⟩ := HV3.out.ensAt
      subst hs3
      go_wp2_with fail
      refine (psame_any _ _ l l _ (HV1.out.ensAt.below (HN2.out.trans (HN3.out.mono HN2.out.size))) HV3.out.ensAt).mono ?_
      rintro y w4 ⟨rfl, hb⟩
      have HB4 := Lib.hid (HB3.out.trans (hb.mono HB3.out.size))
      have HN4 := Lib.hid hb
      clear hb
      go_wp2_with fail
      refine (HZ.out _ _ (HV1.out.ensAt.below (HN2.out.trans ((HN3.out.trans (HN4.out.mono HN3.out.size)).mono HN2.out.size)))).mono ?_
      rintro y w5 ⟨rfl, hb⟩
      have HB5 := Lib.hid (HB4.out.trans (hb.mono HB4.out.size))
      have HN5 := Lib.hid hb
      clear hb
      go_wp2_with fail
      refine (HQ2.out _).mono ?_
      rintro y w6 ⟨v6, rfl, ho, hb⟩
      have HV6 := Lib.hid ho
      clear ho
      have HB6 := Lib.hid (HB5.out.trans (hb.mono HB5.out.size))
      have HN6 := Lib.hid hb
      clear hb
      obtain ⟨al6, cap6, hs6, -, -, -⟩ := HV6.out.ensAt
      subst hs6
      go_wp2_with fail
      refine (HP.out _).mono ?_
      rintro y w7 ⟨v7, rfl, ho, hb⟩
      have HV7 := Lib.hid ho
      clear ho
      have HB7 := Lib.hid (HB6.out.trans (hb.mono HB6.out.size))
      have HN7 := Lib.hid hb
      clear hb
      obtain ⟨al7, cap7, hs7, -, -, -⟩ := HV7.out.ensAt
      subst hs7
      go_wp2_with fail
      refine (HA.out _).mono ?_
      rintro y w8 ⟨rfl, hb⟩
      have HB8 := Lib.hid (HB7.out.trans (hb.mono HB7.out.size))
      have HN8 := Lib.hid hb
      clear hb
      go_wp2_with fail
      go_ret
      exact ⟨rfl, HB8.out⟩
  · have ht := enc_no l f1
    obtain ⟨r, hr⟩ : ∃ r, encB l = r := ⟨_, rfl⟩
    rw [hr] at f1
    have hne1 : (r == 0) = false := by simpa using f1
    simp only [hr, ht] at he
    have HE := Lib.hid he
    clear he f1 hr ht
    by_cases f2 : e = 0
    · subst f2
      obtain ⟨b1, b2, b3, b4, b5⟩ := HBK.out rfl
      subst b4
      have hle := hl2
      obtain ⟨q1, q2⟩ := enc_back t y b1 b3 (by omega)
      have hn := fun (v : Value) (W : World) (h : EnsAt W v y) => pencD_any v y W h b2 (by omega)
      simp only [q1, q2] at hn
      have HN := Lib.hid hn
      clear hn q1 q2 b1 b3 b5 hle
      go_enter Try.func5, Try.ntmps5
      go_wp2_with fail
      refine (ownN_any _ l _ H0.out (by have := HL.out; omega)).mono ?_
      rintro y w1 ⟨v1, rfl, ho, hb⟩
      have HV1 := Lib.hid ho
      clear ho
      have HB1 := Lib.hid hb
      have HN1 := Lib.hid hb
      clear hb
      obtain ⟨al1, cap1, hs1, -, -, -⟩ := HV1.out.ensAt
      subst hs1
      go_wp2_with fail
      refine (HE.out _ _ HV1.out.ensAt).mono ?_
      rintro y w2 ⟨rfl, hb⟩
      have HB2 := Lib.hid (HB1.out.trans (hb.mono HB1.out.size))
      have HN2 := Lib.hid hb
      clear hb
      go_wp2_with fail
      refine (HP.out _).mono ?_
      rintro y w3 ⟨v3, rfl, ho, hb⟩
      have HV3 := Lib.hid ho
      clear ho
      have HB3 := Lib.hid (HB2.out.trans (hb.mono HB2.out.size))
      have HN3 := Lib.hid hb
      clear hb
      obtain ⟨al3, cap3, hs3, -, -, -⟩ := HV3.out.ensAt
      subst hs3
      go_wp2_with fail
      refine (HN.out _ _ HV3.out.ensAt).mono ?_
      rintro y w4 ⟨rfl, hb⟩
      have HB4 := Lib.hid (HB3.out.trans (hb.mono HB3.out.size))
      have HN4 := Lib.hid hb
      clear hb
      go_wp2_with fail
      refine (HA.out _).mono ?_
      rintro y w5 ⟨rfl, hb⟩
      have HB5 := Lib.hid (HB4.out.trans (hb.mono HB4.out.size))
      have HN5 := Lib.hid hb
      clear hb
      go_wp2_with fail
      go_ret
      exact ⟨rfl, HB5.out⟩
    · have hy := HBD.out f2
      subst hy
      have hne2 : (e != 0) = true := by simpa using f2
      clear f2
      go_enter Try.func5, Try.ntmps5
      go_wp2_with fail
      refine (ownN_any _ l _ H0.out (by have := HL.out; omega)).mono ?_
      rintro y w1 ⟨v1, rfl, ho, hb⟩
      have HV1 := Lib.hid ho
      clear ho
      have HB1 := Lib.hid hb
      have HN1 := Lib.hid hb
      clear hb
      obtain ⟨al1, cap1, hs1, -, -, -⟩ := HV1.out.ensAt
      subst hs1
      go_wp2_with fail
      refine (HE.out _ _ HV1.out.ensAt).mono ?_
      rintro y w2 ⟨rfl, hb⟩
      have HB2 := Lib.hid (HB1.out.trans (hb.mono HB1.out.size))
      have HN2 := Lib.hid hb
      clear hb
      go_wp2_with fail
      refine (HP.out _).mono ?_
      rintro y w3 ⟨v3, rfl, ho, hb⟩
      have HV3 := Lib.hid ho
      clear ho
      have HB3 := Lib.hid (HB2.out.trans (hb.mono HB2.out.size))
      have HN3 := Lib.hid hb
      clear hb
      obtain ⟨al3, cap3, hs3, -, -, -⟩ := HV3.out.ensAt
      subst hs3
      go_wp2_with fail
      refine (HA.out _).mono ?_
      rintro y w4 ⟨rfl, hb⟩
      have HB4 := Lib.hid (HB3.out.trans (hb.mono HB3.out.size))
      have HN4 := Lib.hid hb
      clear hb
      go_wp2_with fail
      go_ret
      exact ⟨rfl, HB4.out⟩
end Go.Proofs.Ytgnghnekckhcdaa
