/- Plain: what the laws ask of a split row. -/
import Derived.Test.YtbkodaijigcebaaUe
namespace Go.Proofs.Ytbkodaijigcebaa
open Go.RowKit
set_option maxRecDepth 20000
set_option linter.unusedVariables false
set_option linter.unusedSimpArgs false
theorem empty_no14 {s : ByteArray} (h : 0 < s.size) : s.toList.isEmpty = false := by
  rw [ByteArray.toList_eq, List.isEmpty_eq_false_iff]
  intro e
  have h2 : s.data.size = 0 := by rw [← Array.length_toList, e]; rfl
  have h3 : s.size = s.data.size := rfl
  omega
theorem part_len {l : List En} (n : Nat) (hn : 1 ≤ n) : ∀ p ∈ cutN n l, p.length ≤ l.length := fun p hp => by
  obtain ⟨P1, P2, he⟩ := List.append_of_mem hp
  have := congrArg List.length (cut_flat n hn l)
  rw [he] at this
  simp at this
  omega
theorem texts_few {l : List En} (n : Nat) (hn : 1 ≤ n) (hl : l.length ≤ 150) : (textsI (cutN n l)).length ≤ 7500 := by
  have h1 := textsI_bd (cutN n l)
  rw [cut_flat n hn] at h1
  have h2 := cut_len n hn l
  omega
theorem roots_mayN {l : List En} (n : Nat) (hn : 1 ≤ n) (hm : MaysN l) (hl : l.length ≤ 150) : MaysN (rootsN 0 (cutN n l)) := by
  have ht := texts_few n hn hl
  refine roots_may (by rw [cut_flat n hn]; exact hm) (fun p hp => (cut_mem n hn l p hp).1) (fun p hp => ?_) (by omega)
  have h1 := (textI_bd p).2
  have h2 := part_len n hn p hp
  omega
structure BackF (l : List En) (b : Int) (S : Sp) : Prop where
  row : rowN S.root = 0
  enc : encB S.root = 0
  fit : ((encT S.root).size : Int) ≤ b
  join : joinN S.root S.text = (l, 0)
  may : MaysN S.root
  len : S.root.length ≤ 150
  tx : S.text.size ≤ 7500
  way : (S.size = 0 ∧ S.text = noB ∧ leavesN S.root = []) ∨ (1 ≤ S.size ∧ 0 < S.text.size ∧ leavesN S.root = S.root ∧ enN S.root = S.text.size)
theorem siz_nil : sizD [] = 1 := by decide
theorem back_facts {l : List En} {b : Int} (hm : MaysN l) (hl : l.length ≤ 150) (h : (splitN l b).err = 0) : BackF l b (splitN l b) := by
  have hj := join_split hm (by omega) h
  obtain ⟨b0, b1, h1, h2, h3⟩ := split_ok h
  rcases h3 with ⟨h4, h3⟩ | ⟨h4, n, hn, hf, h3⟩
  · rw [h3] at hj ⊢
    obtain ⟨e1, e2, e3⟩ := enc_few h1 (by omega)
    exact ⟨h1, e1, by rw [e2, str_size]; omega, hj, hm, hl, by show (0 : Nat) ≤ _; omega, .inl ⟨rfl, rfl, h2⟩⟩
  · rw [h3] at hj ⊢
    have hr := roots_rowN n hn hm h1 (by omega)
    have hlen : (rootsN 0 (cutN n l)).length ≤ 150 := by rw [rootsN_len]; have := cut_len n hn l; omega
    obtain ⟨e1, e2, e3⟩ := enc_few hr (by omega)
    unfold fitN at hf
    rw [Bool.and_eq_true] at hf
    have hsz := of_decide_eq_true hf.2
    have hne : l ≠ [] := by
      rintro rfl
      rw [siz_nil] at h4
      omega
    have hcn : cutN n l ≠ [] := by rw [cutN_step n hn l hne]; simp
    have hend := roots_end (cutN n l) 0 (fun e he => (rowG_above _ _ (roots_mayN n hn hm hl) (row_G hr).1 e he).2) hcn
    have htx : 0 < (textsI (cutN n l)).length := by
      rw [cutN_step n hn l hne, textsI_cons, List.length_append]
      have := (textI_bd (l.take n)).1
      omega
    exact ⟨hr, e1, by rw [e2, str_size]; rw [e3] at hsz; exact hsz, hj, roots_mayN n hn hm hl, hlen, by rw [str_size]; exact texts_few n hn hl, .inr ⟨by show (1 : Int) ≤ (n : Int); omega, by rw [str_size]; exact htx, leaves_roots 0 _, by rw [hend, str_size, Nat.zero_add]⟩⟩
/-- What LeavesFind asks of a split row. -/
theorem find_facts {l : List En} {b : Int} (hm : MaysN l) (hl : l.length ≤ 150) (h : (splitN l b).err = 0) (h0 : (splitN l b).size ≠ 0) (q : Int) :
    ((findN (splitN l b).root q).2 = false ∧ (findN l q).2 = false) ∨
    ∃ (m : List En) (o z k : Nat), findN (splitN l b).root q = (⟨(gS m 0).id, o, z, 0⟩, true) ∧ findN l q = findN m q ∧ o + z ≤ (splitN l b).text.size ∧ z ≤ 65536 ∧ decD ((splitN l b).text.extract o (o + z)).data.toList = (m, k, 0) ∧ MaysN m ∧ m.length ≤ 150 ∧ (m.length : Int) ≤ (splitN l b).size := by
  obtain ⟨b0, b1, h1, h2, h3⟩ := split_ok h
  rcases h3 with ⟨h4, h3⟩ | ⟨h4, n, hn, hf, h3⟩
  · rw [h3] at h0; exact absurd rfl h0
  · rw [h3]
    have hpl : ∀ p ∈ cutN n l, (textI p).length ≤ 65536 := fun p hp => by
      have h1 := (textI_bd p).2
      have h2 := part_len n hn p hp
      omega
    rcases find_root n hn hm h1 (by omega) hpl q with ⟨g1, g2⟩ | ⟨P1, m, P2, g1, g2, g3⟩
    · exact .inl ⟨g1, g2⟩
    · right
      have hmem : m ∈ cutN n l := by rw [g1]; simp
      obtain ⟨c1, c2, c3, c4⟩ := cut_good n hn hm h1 h2 m hmem
      have ht : textsI (cutN n l) = textsI P1 ++ textI m ++ textsI P2 := by rw [g1, textsI_append, textsI_cons, List.append_assoc]
      refine ⟨m, (textsI P1).length, (textI m).length, (textD m).length, g2, g3, ?_, hpl m hmem, ?_, c1, ?_, ?_⟩
      · rw [str_size, ht]
        simp
      · show decD ((str (textsI (cutN n l))).extract _ _).data.toList = _
        rw [ht, str_mid, str_bytes]
        exact decD_text m c1 c2 (by rw [← textI_len]; exact hpl m hmem)
      · have := part_len n hn m hmem; omega
      · have := (cut_mem n hn l m hmem).2
        show (m.length : Int) ≤ (n : Int)
        omega
end Go.Proofs.Ytbkodaijigcebaa
