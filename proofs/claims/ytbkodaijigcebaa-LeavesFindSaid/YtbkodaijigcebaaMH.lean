/- Several texts, one behind the other: Du, Dv, Dw. -/
import Derived.Test.YtbkodaijigcebaaMC
import Derived.Test.YtbkodaijigcebaaMG
import Derived.Test.YtbkodaijigcebaaMF
/- The contract of the document's own text of a directory. -/
namespace Go.Proofs.Ytbkodaijigcebaa
open Go.RowKit
set_option maxRecDepth 20000
set_option linter.unusedVariables false
set_option linter.unusedSimpArgs false
theorem gE_at {l : List En} {k : Nat} {e : En} (h : l[k]? = some e) : gE l k = e := by
  unfold gE; rw [List.getD_eq_getElem?_getD, h]; rfl
theorem sz_cols (l : List En) (c k : Nat) (hk : k ≤ 5000) : (str (colsI l c k)).size ≤ 50000 := by
  rw [str_size]; have := colsI_len l c k; omega
theorem sz_enc (x : Int) : (str (enc x)).size ≤ 10 := by rw [str_size]; exact (enc_len _).2
theorem cols_next (l : List En) (c k : Nat) (x : Int) (h : colN l c k = x) : str (colsI l c k) ++ str (enc x) = str (colsI l c (k + 1)) := by
  rw [str_append, colsI, h]
theorem textI_str (l : List En) : str (textI l) = str (enc l.length) ++ str (colsI l 0 l.length) ++ str (colsI l 1 l.length) ++ str (colsI l 2 l.length) ++ str (colsI l 3 l.length) := by
  simp only [textI, str_append, List.append_assoc]
set_option maxRecDepth 20000 in
set_option maxHeartbeats 1000000 in
theorem rtext_any (v : Value) (l : List En) (w : World) (hv : EnsAt w v l) (hm : MaysN l) (hl : l.length ≤ 5000) : Calls Try.prog 53 #[v] w fun x w' => x = .returned (.string (str (textI l))) ∧ Below w.heap.size w w' := by
  obtain ⟨al, cap, rfl, hcap, _, hc⟩ := hv
  have HC := Lib.hid hc
  have HM := Lib.hid hm
  clear hc hm
  go_enter Try.func53, Try.ntmps53
  go_wp2_with fail
  go_loopw [3, 4, 5, 6, 7] (fun s0 s1 s2 s3 i wr => ∃ k : Nat, k ≤ l.length ∧ i = .int .i64 k ∧ s0 = .string (str (colsI l 0 k)) ∧ s1 = .string (str (colsI l 1 k)) ∧ s2 = .string (str (colsI l 2 k)) ∧ s3 = .string (str (colsI l 3 k)) ∧ Below w.heap.size w wr) (fun _ _ _ _ i _ => l.length - (intOf i).toNat)
  case atStart => exact ⟨0, Nat.zero_le _, rfl, rfl, rfl, rfl, rfl, Below.refl _ _⟩
  case round =>
    obtain ⟨k, hk, rfl, rfl, rfl, rfl, rfl, hbw⟩ := hrel
    by_cases hlt : k < l.length
    · obtain ⟨e, he⟩ : ∃ t, l[k]? = some t := ⟨_, List.getElem?_eq_getElem hlt⟩
      obtain ⟨g, off, rfl, hg, l0, l1, l2, l3⟩ := HC.out k e he
      have hme := HM.out e (List.mem_of_getElem? he)
      have hge := gE_at he
      obtain ⟨⟨l0, l1, l2, l3⟩, _⟩ := keep1E (Below.refl _ _) ⟨cells4 hbw ⟨l0, l1, l2, l3⟩, hbw⟩
      have z0 := sz_cols l 0 k (by omega)
      have z1 := sz_cols l 1 k (by omega)
      have z2 := sz_cols l 2 k (by omega)
      have z3 := sz_cols l 3 k (by omega)
      have hi2 : (k : Int) < (l.length : Int) := by omega
      have hcl := (⟨⟨l0, l1, l2, l3⟩, hbw⟩ : (_ ∧ _ ∧ _ ∧ _) ∧ _)
      have HCL := Lib.hid hcl
      have S1 : Hid (str (colsI l 1 k) ++ str (enc e.rn) = str (colsI l 1 (k + 1))) := Lib.hid (cols_next l 1 k _ (by rw [col1, hge]))
      have S2 : Hid (str (colsI l 2 k) ++ str (enc e.ln) = str (colsI l 2 (k + 1))) := Lib.hid (cols_next l 2 k _ (by rw [col2, hge]))
      have q0 := sz_enc e.rn
      have q1 := sz_enc e.ln
      have r0 : IntKind.u64.wrap e.id = e.id := by unfold MayN at hme; rw [wrap_u64]; omega
      have r1 : IntKind.u64.wrap e.rn = e.rn := by unfold MayN at hme; rw [wrap_u64]; omega
      have r2 : IntKind.u64.wrap e.ln = e.ln := by unfold MayN at hme; rw [wrap_u64]; omega
      have B1 : Hid (0 ≤ e.rn ∧ e.rn ≤ 18446744073709551615) := Lib.hid (by unfold MayN at hme; omega)
      have B2 : Hid (0 ≤ e.ln ∧ e.ln ≤ 18446744073709551615) := Lib.hid (by unfold MayN at hme; omega)
      have B3 : Hid (0 ≤ IntKind.u64.wrap (e.off + 1) ∧ IntKind.u64.wrap (e.off + 1) ≤ 18446744073709551615) := Lib.hid (by rw [wrap_u64]; omega)
      have HF : Hid (∀ (j : Nat) (f : En), l[j]? = some f → wr.cell? ⟨g, off + j * 4, none⟩ = some (.int .u64 f.id) ∧ wr.cell? ⟨g, off + j * 4 + 1, none⟩ = some (.int .u64 f.off) ∧ wr.cell? ⟨g, off + j * 4 + 2, none⟩ = some (.int .u32 f.ln) ∧ wr.cell? ⟨g, off + j * 4 + 3, none⟩ = some (.int .u32 f.rn)) := by
        apply Lib.hid
        intro j f hf
        obtain ⟨g', off', ha, _, c⟩ := HC.out j f hf
        obtain ⟨rfl, rfl⟩ : g = g' ∧ off = off' := by simpa using ha
        exact cells4 hbw c
      clear hcl hbw
      by_cases hz : k = 0
      · have hd : decide (0 < (k : Int)) = false := by simp; omega
        have hdn : decide (0 < k) = false := by simp; omega
        have S0 : Hid (str (colsI l 0 k) ++ str (enc e.id) = str (colsI l 0 (k + 1))) := Lib.hid (cols_next l 0 k _ (by rw [col0, if_pos hz, ← hz, hge]))
        have S3 : Hid (str (colsI l 3 k) ++ str (enc (IntKind.u64.wrap (e.off + 1))) = str (colsI l 3 (k + 1))) := Lib.hid (cols_next l 3 k _ (by rw [col3, if_neg (by omega), hge, wrap_u64]))
        have q2 := sz_enc e.id
        have q3 := sz_enc (IntKind.u64.wrap (e.off + 1))
        have B0 : Hid (0 ≤ e.id ∧ e.id ≤ 18446744073709551615) := Lib.hid (by unfold MayN at hme; omega)
        clear hme hz hge he
        go_wp2_with fail
        refine (rbytes_any e.id _ B0.out.1 B0.out.2).mono ?_
        rintro x w1 ⟨rfl, hb1⟩
        have hcl := keep1E hb1 HCL.out
        clear hb1 l0 l1 l2 l3 HCL
        have HCL := Lib.hid hcl
        obtain ⟨⟨l0, l1, l2, l3⟩, hbw⟩ := hcl
        clear hbw
        go_wp2_with fail
        refine (rbytes_any e.rn _ B1.out.1 B1.out.2).mono ?_
        rintro x w2 ⟨rfl, hb1⟩
        have hcl := keep1E hb1 HCL.out
        clear hb1 l0 l1 l2 l3 HCL
        have HCL := Lib.hid hcl
        obtain ⟨⟨l0, l1, l2, l3⟩, hbw⟩ := hcl
        clear hbw
        go_wp2_with fail
        refine (rbytes_any e.ln _ B2.out.1 B2.out.2).mono ?_
        rintro x w3 ⟨rfl, hb1⟩
        have hcl := keep1E hb1 HCL.out
        clear hb1 l0 l1 l2 l3 HCL
        have HCL := Lib.hid hcl
        obtain ⟨⟨l0, l1, l2, l3⟩, hbw⟩ := hcl
        clear hbw
        go_wp2_with fail
        refine (rbytes_any (IntKind.u64.wrap (e.off + 1)) _ B3.out.1 B3.out.2).mono ?_
        rintro x w4 ⟨rfl, hb1⟩
        have hcl := keep1E hb1 HCL.out
        clear hb1 l0 l1 l2 l3 HCL
        have HCL := Lib.hid hcl
        obtain ⟨⟨l0, l1, l2, l3⟩, hbw⟩ := hcl
        clear hbw
        go_wp2_with fail
        go_roundw
        case rel => exact ⟨k + 1, by omega, by go_num, by rw [S0.out], by rw [S1.out], by rw [S2.out], by rw [S3.out], HCL.out.2⟩
        case measure => simp [intOf]; omega
      · obtain ⟨j, hj⟩ : ∃ j : Nat, k = j + 1 := ⟨k - 1, by omega⟩
        obtain ⟨f, hf⟩ : ∃ t, l[j]? = some t := ⟨_, List.getElem?_eq_getElem (by omega)⟩
        have hgf := gE_at hf
        obtain ⟨m0, m1, m2, m3⟩ := HF.out j f hf
        have hmf := HM.out f (List.mem_of_getElem? hf)
        have hd : decide (0 < (k : Int)) = true := by simp; omega
        have hdn : decide (0 < k) = true := by simp; omega
        have hk1 : (k : Int) - 1 = (j : Int) := by omega
        have hk2 : IntKind.i64.wrap (j : Int) = (j : Int) := by rw [IntKind.wrap_i64] <;> omega
        have hj2 : (j : Int) < (l.length : Int) := by omega
        have r3 : IntKind.u64.wrap f.ln = f.ln := by unfold MayN at hmf; rw [wrap_u64]; omega
        have r4 : IntKind.u64.wrap f.id = f.id := by unfold MayN at hmf; rw [wrap_u64]; omega
        have S0 : Hid (str (colsI l 0 k) ++ str (enc (IntKind.u64.wrap (e.id - f.id))) = str (colsI l 0 (k + 1))) := Lib.hid (cols_next l 0 k _ (by rw [col0, if_neg hz, hj, Nat.add_sub_cancel, hgf, ← hj, hge, wrap_u64]))
        have hnx : nxE l (k - 1) = IntKind.u64.wrap (f.off + f.ln) := by rw [hj, Nat.add_sub_cancel, nxE, hgf, wrap_u64]
        have q2 := sz_enc (IntKind.u64.wrap (e.id - f.id))
        have B0 : Hid (0 ≤ IntKind.u64.wrap (e.id - f.id) ∧ IntKind.u64.wrap (e.id - f.id) ≤ 18446744073709551615) := Lib.hid (by rw [wrap_u64]; omega)
        by_cases hq : e.off = IntKind.u64.wrap (f.off + f.ln)
        · have hqb : (e.off == IntKind.u64.wrap (f.off + f.ln)) = true := by simp only [beq_iff_eq]; exact hq
          have S3 : Hid (str (colsI l 3 k) ++ str (enc 0) = str (colsI l 3 (k + 1))) := Lib.hid (cols_next l 3 k _ (by rw [col3, if_pos ⟨by omega, by rw [hge, hnx]; exact hq⟩]))
          have q3 := sz_enc 0
          have B4 : Hid ((0 : Int) ≤ 0 ∧ (0 : Int) ≤ 18446744073709551615) := Lib.hid (by omega)
          clear hme hmf hz hge hgf he hf hq hnx hj
          go_wp2_with fail
          go_region
          all_goals
            go_wp2_with fail
            refine (rbytes_any (IntKind.u64.wrap (e.id - f.id)) _ B0.out.1 B0.out.2).mono ?_
            rintro x w1 ⟨rfl, hb1⟩
            have hcl := keep1E hb1 (keep1E (Below.drew (Below.refl _ _)) HCL.out)
            clear hb1 l0 l1 l2 l3 HCL
            have HCL := Lib.hid hcl
            obtain ⟨⟨l0, l1, l2, l3⟩, hbw⟩ := hcl
            clear hbw
            go_wp2_with fail
            refine (rbytes_any e.rn _ B1.out.1 B1.out.2).mono ?_
            rintro x w2 ⟨rfl, hb1⟩
            have hcl := keep1E hb1 HCL.out
            clear hb1 l0 l1 l2 l3 HCL
            have HCL := Lib.hid hcl
            obtain ⟨⟨l0, l1, l2, l3⟩, hbw⟩ := hcl
            clear hbw
            go_wp2_with fail
            refine (rbytes_any e.ln _ B2.out.1 B2.out.2).mono ?_
            rintro x w3 ⟨rfl, hb1⟩
            have hcl := keep1E hb1 HCL.out
            clear hb1 l0 l1 l2 l3 HCL
            have HCL := Lib.hid hcl
            obtain ⟨⟨l0, l1, l2, l3⟩, hbw⟩ := hcl
            clear hbw
            go_wp2_with fail
            refine (rbytes_any 0 _ B4.out.1 B4.out.2).mono ?_
            rintro x w4 ⟨rfl, hb1⟩
            have hcl := keep1E hb1 HCL.out
            clear hb1 l0 l1 l2 l3 HCL
            have HCL := Lib.hid hcl
            obtain ⟨⟨l0, l1, l2, l3⟩, hbw⟩ := hcl
            clear hbw
            go_wp2_with fail
            go_roundw
            case rel => exact ⟨k + 1, by omega, by go_num, by rw [S0.out], by rw [S1.out], by rw [S2.out], by rw [S3.out], HCL.out.2⟩
            case measure => simp [intOf]; omega
        · have hqb : (e.off == IntKind.u64.wrap (f.off + f.ln)) = false := by simp only [beq_eq_false_iff_ne, ne_eq]; exact hq
          have S3 : Hid (str (colsI l 3 k) ++ str (enc (IntKind.u64.wrap (e.off + 1))) = str (colsI l 3 (k + 1))) := Lib.hid (cols_next l 3 k _ (by rw [col3, if_neg (by rintro ⟨-, h⟩; rw [hge, hnx] at h; exact hq h), hge, wrap_u64]))
          have q3 := sz_enc (IntKind.u64.wrap (e.off + 1))
          clear hme hmf hz hge hgf he hf hq hnx hj
          go_wp2_with fail
          go_region
          all_goals
            go_wp2_with fail
            refine (rbytes_any (IntKind.u64.wrap (e.id - f.id)) _ B0.out.1 B0.out.2).mono ?_
            rintro x w1 ⟨rfl, hb1⟩
            have hcl := keep1E hb1 (keep1E (Below.drew (Below.refl _ _)) HCL.out)
            clear hb1 l0 l1 l2 l3 HCL
            have HCL := Lib.hid hcl
            obtain ⟨⟨l0, l1, l2, l3⟩, hbw⟩ := hcl
            clear hbw
            go_wp2_with fail
            refine (rbytes_any e.rn _ B1.out.1 B1.out.2).mono ?_
            rintro x w2 ⟨rfl, hb1⟩
            have hcl := keep1E hb1 HCL.out
            clear hb1 l0 l1 l2 l3 HCL
            have HCL := Lib.hid hcl
            obtain ⟨⟨l0, l1, l2, l3⟩, hbw⟩ := hcl
            clear hbw
            go_wp2_with fail
            refine (rbytes_any e.ln _ B2.out.1 B2.out.2).mono ?_
            rintro x w3 ⟨rfl, hb1⟩
            have hcl := keep1E hb1 HCL.out
            clear hb1 l0 l1 l2 l3 HCL
            have HCL := Lib.hid hcl
            obtain ⟨⟨l0, l1, l2, l3⟩, hbw⟩ := hcl
            clear hbw
            go_wp2_with fail
            refine (rbytes_any (IntKind.u64.wrap (e.off + 1)) _ B3.out.1 B3.out.2).mono ?_
            rintro x w4 ⟨rfl, hb1⟩
            have hcl := keep1E hb1 HCL.out
            clear hb1 l0 l1 l2 l3 HCL
            have HCL := Lib.hid hcl
            obtain ⟨⟨l0, l1, l2, l3⟩, hbw⟩ := hcl
            clear hbw
            go_wp2_with fail
            go_roundw
            case rel => exact ⟨k + 1, by omega, by go_num, by rw [S0.out], by rw [S1.out], by rw [S2.out], by rw [S3.out], HCL.out.2⟩
            case measure => simp [intOf]; omega
    · obtain rfl : k = l.length := by omega
      have z0 := sz_cols l 0 l.length (by omega)
      have z1 := sz_cols l 1 l.length (by omega)
      have z2 := sz_cols l 2 l.length (by omega)
      have z3 := sz_cols l 3 l.length (by omega)
      have q0 := sz_enc (l.length : Int)
      have r0 : IntKind.u64.wrap (l.length : Int) = (l.length : Int) := by rw [wrap_u64]; omega
      have HB := Lib.hid hbw
      clear hbw
      go_wp2_with fail
      refine (rbytes_any l.length _ (by omega) (by omega)).mono ?_
      rintro x w1 ⟨rfl, hb1⟩
      have hb := HB.out.trans (hb1.mono HB.out.size)
      clear hb1 HB
      go_wp2_with fail
      go_ret
      exact ⟨by rw [textI_str]; rfl, hb⟩
end Go.Proofs.Ytbkodaijigcebaa
/- Contracts of the document's Encode and Size of a directory. -/
namespace Go.Proofs.Ytbkodaijigcebaa
open Go.RowKit
set_option maxRecDepth 20000
set_option linter.unusedVariables false
set_option linter.unusedSimpArgs false
/-- The error of Encode. -/
def encB (l : List En) : Int := if rowN l = 0 then (if 65536 < (textI l).length then 5 else 0) else rowN l
/-- The text of Encode. -/
def encT (l : List En) : ByteArray := if encB l = 0 then str (textI l) else ByteArray.mk #[]
/-- The answer of Size. -/
def sizD (l : List En) : Int := if rowN l = 0 then (textI l).length else 0
set_option maxRecDepth 20000 in
theorem rencD_any (v : Value) (l : List En) (w : World) (hv : EnsAt w v l) (hm : MaysN l) (hl : l.length ≤ 5000) : Calls Try.prog 54 #[v] w fun x w' => x = .returned (.tuple #[.string (encT l), .int .i64 (encB l)]) ∧ Below w.heap.size w w' := by
  have HT := Lib.hid (fun W (hb : Below w.heap.size w W) => rtext_any v l W (hv.below hb) hm hl)
  have HR := Lib.hid (rrowN_any v l w hv hm)
  clear hv hm
  by_cases h0 : rowN l = 0
  · rw [h0] at HR
    have hsz : ((str (textI l)).size : Int) = (textI l).length := by rw [str_size]
    by_cases h1 : 65536 < (textI l).length
    · have hB : encB l = 5 := by unfold encB; rw [if_pos h0, if_pos h1]
      have hT : encT l = ByteArray.mk #[] := by unfold encT; rw [hB]; rfl
      rw [hB, hT]
      have hd : decide (65536 < ((str (textI l)).size : Int)) = true := by rw [hsz]; simp; omega
      have hdn : decide (65536 < (str (textI l)).size) = true := by rw [str_size]; simp; omega
      clear hB hT h0 h1 hsz
      generalize str (textI l) = T at *
      go_enter Try.func54, Try.ntmps54
      go_wp2_with fail
      refine (HR.out).mono ?_
      rintro x w1 ⟨rfl, hb⟩
      go_wp2_with fail
      refine (HT.out _ hb).mono ?_
      rintro x w2 ⟨rfl, hb2⟩
      have hb := hb.trans (hb2.mono hb.size)
      clear hb2
      go_wp2_with fail
      go_ret2
      exact ⟨rfl, hb⟩
    · have hB : encB l = 0 := by unfold encB; rw [if_pos h0, if_neg h1]
      have hT : encT l = str (textI l) := by unfold encT; rw [hB]; rfl
      rw [hB, hT]
      have hd : decide (65536 < ((str (textI l)).size : Int)) = false := by rw [hsz]; simp; omega
      have hdn : decide (65536 < (str (textI l)).size) = false := by rw [str_size]; simp; omega
      clear hB hT h0 h1 hsz
      generalize str (textI l) = T at *
      go_enter Try.func54, Try.ntmps54
      go_wp2_with fail
      refine (HR.out).mono ?_
      rintro x w1 ⟨rfl, hb⟩
      go_wp2_with fail
      refine (HT.out _ hb).mono ?_
      rintro x w2 ⟨rfl, hb2⟩
      have hb := hb.trans (hb2.mono hb.size)
      clear hb2
      go_wp2_with fail
      go_ret2
      exact ⟨rfl, hb⟩
  · have hB : encB l = rowN l := by unfold encB; rw [if_neg h0]
    have hT : encT l = ByteArray.mk #[] := by unfold encT; rw [if_neg (by rw [hB]; exact h0)]
    rw [hB, hT]
    have hne : (rowN l != 0) = true := by simp only [bne_iff_ne, ne_eq]; exact h0
    clear h0 hB hT HT
    generalize rowN l = R at *
    go_enter Try.func54, Try.ntmps54
    go_wp2_with fail
    refine (HR.out).mono ?_
    rintro x w1 ⟨rfl, hb⟩
    go_wp2_with fail
    go_ret2
    exact ⟨rfl, hb⟩
set_option maxRecDepth 20000 in
theorem rsizD_any (v : Value) (l : List En) (w : World) (hv : EnsAt w v l) (hm : MaysN l) (hl : l.length ≤ 5000) : Calls Try.prog 28 #[v] w fun x w' => x = .returned (.int .i64 (sizD l)) ∧ Below w.heap.size w w' := by
  have HT := Lib.hid (fun W (hb : Below w.heap.size w W) => rtext_any v l W (hv.below hb) hm hl)
  have HR := Lib.hid (rrowN_any v l w hv hm)
  clear hv hm
  by_cases h0 : rowN l = 0
  · rw [h0] at HR
    have hS : Hid (sizD l = ((str (textI l)).size : Int)) := Lib.hid (by unfold sizD; rw [if_pos h0, str_size])
    clear h0
    generalize str (textI l) = T at *
    go_enter Try.func28, Try.ntmps28
    go_wp2_with fail
    refine (HR.out).mono ?_
    rintro x w1 ⟨rfl, hb⟩
    go_wp2_with fail
    refine (HT.out _ hb).mono ?_
    rintro x w2 ⟨rfl, hb2⟩
    have hb := hb.trans (hb2.mono hb.size)
    clear hb2
    go_wp2_with fail
    go_ret
    exact ⟨by rw [hS.out]; rfl, hb⟩
  · have hS : Hid (sizD l = 0) := Lib.hid (by unfold sizD; rw [if_neg h0])
    have hne : (rowN l != 0) = true := by simp only [bne_iff_ne, ne_eq]; exact h0
    clear h0 HT
    generalize rowN l = R at *
    go_enter Try.func28, Try.ntmps28
    go_wp2_with fail
    refine (HR.out).mono ?_
    rintro x w1 ⟨rfl, hb⟩
    go_wp2_with fail
    go_ret
    exact ⟨by rw [hS.out]; rfl, hb⟩
end Go.Proofs.Ytbkodaijigcebaa
/- The contract of the document's wrong: what is wrong with a number of a column. -/
namespace Go.Proofs.Ytbkodaijigcebaa
open Go.RowKit
set_option maxRecDepth 20000
set_option linter.unusedVariables false
set_option linter.unusedSimpArgs false
set_option maxRecDepth 20000 in
set_option maxHeartbeats 1000000 in
theorem rw_00 (v : Value) (l : List En) (x : Int) (w : World) (hv : EnsAt w v l) (hm : MaysN l) (x0 : 0 ≤ x) (x1 : x ≤ 18446744073709551615) : Calls Try.prog 84 #[v, .int .i64 0, .int .i64 0, .int .u64 x] w fun e w' => e = .returned (.int .i64 0) ∧ Below w.heap.size w w' := by
  obtain ⟨al, cap, rfl, hcap, hcm, hc⟩ := hv
  clear hc hm
  go_enter Try.func84, Try.ntmps84
  go_wp2_with fail
  first
  | (go_ret; exact ⟨rfl, by go_grown⟩)
  | (go_region; all_goals (go_wp2_with fail; go_ret; exact ⟨rfl, by go_grown⟩))
set_option maxRecDepth 20000 in
set_option maxHeartbeats 1000000 in
theorem rw_0o (v : Value) (l : List En) (k j : Nat) (f : En) (x : Int) (w : World) (hv : EnsAt w v l) (hm : MaysN l) (x0 : 0 ≤ x) (x1 : x ≤ 18446744073709551615) (hj : k = j + 1) (hl : k < l.length) (hf : l[j]? = some f) (hq : 18446744073709551616 ≤ f.id + x) : Calls Try.prog 84 #[v, .int .i64 0, .int .i64 (k : Int), .int .u64 x] w fun e w' => e = .returned (.int .i64 11) ∧ Below w.heap.size w w' := by
  obtain ⟨al, cap, rfl, hcap, hcm, hc⟩ := hv
  obtain ⟨g, off, rfl, hg, m0, m1, m2, m3⟩ := hc j f hf
  have hmf := hm f (List.mem_of_getElem? hf)
  have hd : decide (0 < (k : Int)) = true := by simp; omega
  have hdn : decide (0 < k) = true := by simp; omega
  have hb0 : ((k : Int) == 0) = false := by simp; omega
  have hk1 : (k : Int) - 1 = (j : Int) := by omega
  have hjl : (j : Int) < (l.length : Int) := by omega
  unfold maxLen at hcm
  have hk2 : IntKind.i64.wrap (j : Int) = (j : Int) := by rw [IntKind.wrap_i64] <;> omega
  have r3 : IntKind.u64.wrap f.ln = f.ln := by unfold MayN at hmf; rw [wrap_u64]; omega
  have hz : decide (IntKind.u64.wrap (f.id + x) < x) = true := by unfold MayN at hmf; rw [wrap_u64]; simp; omega
  clear hq
  clear hc hm hmf hj hf
  go_enter Try.func84, Try.ntmps84
  go_wp2_with fail
  first
  | (go_ret; exact ⟨rfl, by go_grown⟩)
  | (go_region; all_goals (go_wp2_with fail; go_ret; exact ⟨rfl, by go_grown⟩))
set_option maxRecDepth 20000 in
set_option maxHeartbeats 1000000 in
theorem rw_0k (v : Value) (l : List En) (k j : Nat) (f : En) (x : Int) (w : World) (hv : EnsAt w v l) (hm : MaysN l) (x0 : 0 ≤ x) (x1 : x ≤ 18446744073709551615) (hj : k = j + 1) (hl : k < l.length) (hf : l[j]? = some f) (hq : ¬ 18446744073709551616 ≤ f.id + x) : Calls Try.prog 84 #[v, .int .i64 0, .int .i64 (k : Int), .int .u64 x] w fun e w' => e = .returned (.int .i64 0) ∧ Below w.heap.size w w' := by
  obtain ⟨al, cap, rfl, hcap, hcm, hc⟩ := hv
  obtain ⟨g, off, rfl, hg, m0, m1, m2, m3⟩ := hc j f hf
  have hmf := hm f (List.mem_of_getElem? hf)
  have hd : decide (0 < (k : Int)) = true := by simp; omega
  have hdn : decide (0 < k) = true := by simp; omega
  have hb0 : ((k : Int) == 0) = false := by simp; omega
  have hk1 : (k : Int) - 1 = (j : Int) := by omega
  have hjl : (j : Int) < (l.length : Int) := by omega
  unfold maxLen at hcm
  have hk2 : IntKind.i64.wrap (j : Int) = (j : Int) := by rw [IntKind.wrap_i64] <;> omega
  have r3 : IntKind.u64.wrap f.ln = f.ln := by unfold MayN at hmf; rw [wrap_u64]; omega
  have hz : decide (IntKind.u64.wrap (f.id + x) < x) = false := by unfold MayN at hmf; rw [wrap_u64]; simp; omega
  clear hq
  clear hc hm hmf hj hf
  go_enter Try.func84, Try.ntmps84
  go_wp2_with fail
  first
  | (go_ret; exact ⟨rfl, by go_grown⟩)
  | (go_region; all_goals (go_wp2_with fail; go_ret; exact ⟨rfl, by go_grown⟩))
set_option maxRecDepth 20000 in
set_option maxHeartbeats 1000000 in
theorem rw_1o (v : Value) (l : List En) (x : Int) (w : World) (hv : EnsAt w v l) (hm : MaysN l) (x0 : 0 ≤ x) (x1 : x ≤ 18446744073709551615) (K : Int) (hq : 4294967295 < x) : Calls Try.prog 84 #[v, .int .i64 1, .int .i64 K, .int .u64 x] w fun e w' => e = .returned (.int .i64 11) ∧ Below w.heap.size w w' := by
  obtain ⟨al, cap, rfl, hcap, hcm, hc⟩ := hv
  have hz : decide (4294967295 < x) = true := by simp; omega
  clear hq
  clear hc hm
  go_enter Try.func84, Try.ntmps84
  go_wp2_with fail
  first
  | (go_ret; exact ⟨rfl, by go_grown⟩)
  | (go_region; all_goals (go_wp2_with fail; go_ret; exact ⟨rfl, by go_grown⟩))
set_option maxRecDepth 20000 in
set_option maxHeartbeats 1000000 in
theorem rw_1k (v : Value) (l : List En) (x : Int) (w : World) (hv : EnsAt w v l) (hm : MaysN l) (x0 : 0 ≤ x) (x1 : x ≤ 18446744073709551615) (K : Int) (hq : ¬ 4294967295 < x) : Calls Try.prog 84 #[v, .int .i64 1, .int .i64 K, .int .u64 x] w fun e w' => e = .returned (.int .i64 0) ∧ Below w.heap.size w w' := by
  obtain ⟨al, cap, rfl, hcap, hcm, hc⟩ := hv
  have hz : decide (4294967295 < x) = false := by simp; omega
  clear hq
  clear hc hm
  go_enter Try.func84, Try.ntmps84
  go_wp2_with fail
  first
  | (go_ret; exact ⟨rfl, by go_grown⟩)
  | (go_region; all_goals (go_wp2_with fail; go_ret; exact ⟨rfl, by go_grown⟩))
set_option maxRecDepth 20000 in
set_option maxHeartbeats 1000000 in
theorem rw_2o (v : Value) (l : List En) (x : Int) (w : World) (hv : EnsAt w v l) (hm : MaysN l) (x0 : 0 ≤ x) (x1 : x ≤ 18446744073709551615) (K : Int) (hq : 4294967295 < x) : Calls Try.prog 84 #[v, .int .i64 2, .int .i64 K, .int .u64 x] w fun e w' => e = .returned (.int .i64 11) ∧ Below w.heap.size w w' := by
  obtain ⟨al, cap, rfl, hcap, hcm, hc⟩ := hv
  have hz : decide (4294967295 < x) = true := by simp; omega
  clear hq
  clear hc hm
  go_enter Try.func84, Try.ntmps84
  go_wp2_with fail
  first
  | (go_ret; exact ⟨rfl, by go_grown⟩)
  | (go_region; all_goals (go_wp2_with fail; go_ret; exact ⟨rfl, by go_grown⟩))
set_option maxRecDepth 20000 in
set_option maxHeartbeats 1000000 in
theorem rw_2k (v : Value) (l : List En) (x : Int) (w : World) (hv : EnsAt w v l) (hm : MaysN l) (x0 : 0 ≤ x) (x1 : x ≤ 18446744073709551615) (K : Int) (hq : ¬ 4294967295 < x) : Calls Try.prog 84 #[v, .int .i64 2, .int .i64 K, .int .u64 x] w fun e w' => e = .returned (.int .i64 0) ∧ Below w.heap.size w w' := by
  obtain ⟨al, cap, rfl, hcap, hcm, hc⟩ := hv
  have hz : decide (4294967295 < x) = false := by simp; omega
  clear hq
  clear hc hm
  go_enter Try.func84, Try.ntmps84
  go_wp2_with fail
  first
  | (go_ret; exact ⟨rfl, by go_grown⟩)
  | (go_region; all_goals (go_wp2_with fail; go_ret; exact ⟨rfl, by go_grown⟩))
set_option maxRecDepth 20000 in
set_option maxHeartbeats 1000000 in
theorem rw_3z (v : Value) (l : List En) (x : Int) (w : World) (hv : EnsAt w v l) (hm : MaysN l) (x0 : 0 ≤ x) (x1 : x ≤ 18446744073709551615) (hq : x = 0) : Calls Try.prog 84 #[v, .int .i64 3, .int .i64 0, .int .u64 x] w fun e w' => e = .returned (.int .i64 4) ∧ Below w.heap.size w w' := by
  obtain ⟨al, cap, rfl, hcap, hcm, hc⟩ := hv
  have hz : (x == 0) = true := by simp; omega
  clear hq
  clear hc hm
  go_enter Try.func84, Try.ntmps84
  go_wp2_with fail
  first
  | (go_ret; exact ⟨rfl, by go_grown⟩)
  | (go_region; all_goals (go_wp2_with fail; go_ret; exact ⟨rfl, by go_grown⟩))
set_option maxRecDepth 20000 in
set_option maxHeartbeats 1000000 in
theorem rw_3n (v : Value) (l : List En) (x : Int) (w : World) (hv : EnsAt w v l) (hm : MaysN l) (x0 : 0 ≤ x) (x1 : x ≤ 18446744073709551615) (hq : ¬ x = 0) : Calls Try.prog 84 #[v, .int .i64 3, .int .i64 0, .int .u64 x] w fun e w' => e = .returned (.int .i64 0) ∧ Below w.heap.size w w' := by
  obtain ⟨al, cap, rfl, hcap, hcm, hc⟩ := hv
  have hz : (x == 0) = false := by simp; omega
  clear hq
  clear hc hm
  go_enter Try.func84, Try.ntmps84
  go_wp2_with fail
  first
  | (go_ret; exact ⟨rfl, by go_grown⟩)
  | (go_region; all_goals (go_wp2_with fail; go_ret; exact ⟨rfl, by go_grown⟩))
set_option maxRecDepth 20000 in
set_option maxHeartbeats 1000000 in
theorem rw_3kz (v : Value) (l : List En) (k j : Nat) (f : En) (x : Int) (w : World) (hv : EnsAt w v l) (hm : MaysN l) (x0 : 0 ≤ x) (x1 : x ≤ 18446744073709551615) (hj : k = j + 1) (hl : k < l.length) (hf : l[j]? = some f) (hq : x = 0) : Calls Try.prog 84 #[v, .int .i64 3, .int .i64 (k : Int), .int .u64 x] w fun e w' => e = .returned (.int .i64 0) ∧ Below w.heap.size w w' := by
  obtain ⟨al, cap, rfl, hcap, hcm, hc⟩ := hv
  obtain ⟨g, off, rfl, hg, m0, m1, m2, m3⟩ := hc j f hf
  have hmf := hm f (List.mem_of_getElem? hf)
  have hd : decide (0 < (k : Int)) = true := by simp; omega
  have hdn : decide (0 < k) = true := by simp; omega
  have hb0 : ((k : Int) == 0) = false := by simp; omega
  have hk1 : (k : Int) - 1 = (j : Int) := by omega
  have hjl : (j : Int) < (l.length : Int) := by omega
  unfold maxLen at hcm
  have hk2 : IntKind.i64.wrap (j : Int) = (j : Int) := by rw [IntKind.wrap_i64] <;> omega
  have r3 : IntKind.u64.wrap f.ln = f.ln := by unfold MayN at hmf; rw [wrap_u64]; omega
  have hz : decide (0 < x) = false := by simp; omega
  clear hq
  clear hc hm hmf hj hf
  go_enter Try.func84, Try.ntmps84
  go_wp2_with fail
  first
  | (go_ret; exact ⟨rfl, by go_grown⟩)
  | (go_region; all_goals (go_wp2_with fail; go_ret; exact ⟨rfl, by go_grown⟩))
set_option maxRecDepth 20000 in
set_option maxHeartbeats 1000000 in
theorem rw_3o (v : Value) (l : List En) (k j : Nat) (f : En) (x : Int) (w : World) (hv : EnsAt w v l) (hm : MaysN l) (x0 : 0 ≤ x) (x1 : x ≤ 18446744073709551615) (hj : k = j + 1) (hl : k < l.length) (hf : l[j]? = some f) (hp : 0 < x) (hq : x - 1 = IntKind.u64.wrap (f.off + f.ln)) : Calls Try.prog 84 #[v, .int .i64 3, .int .i64 (k : Int), .int .u64 x] w fun e w' => e = .returned (.int .i64 4) ∧ Below w.heap.size w w' := by
  obtain ⟨al, cap, rfl, hcap, hcm, hc⟩ := hv
  obtain ⟨g, off, rfl, hg, m0, m1, m2, m3⟩ := hc j f hf
  have hmf := hm f (List.mem_of_getElem? hf)
  have hd : decide (0 < (k : Int)) = true := by simp; omega
  have hdn : decide (0 < k) = true := by simp; omega
  have hb0 : ((k : Int) == 0) = false := by simp; omega
  have hk1 : (k : Int) - 1 = (j : Int) := by omega
  have hjl : (j : Int) < (l.length : Int) := by omega
  unfold maxLen at hcm
  have hk2 : IntKind.i64.wrap (j : Int) = (j : Int) := by rw [IntKind.wrap_i64] <;> omega
  have r3 : IntKind.u64.wrap f.ln = f.ln := by unfold MayN at hmf; rw [wrap_u64]; omega
  have hz : decide (0 < x) = true := by simp; omega
  have hz2 : (IntKind.u64.wrap (x - 1) == IntKind.u64.wrap (f.off + f.ln)) = true := by rw [← hq, wrap_u64]; simp; omega
  clear hq hp
  clear hc hm hmf hj hf
  go_enter Try.func84, Try.ntmps84
  go_wp2_with fail
  first
  | (go_ret; exact ⟨rfl, by go_grown⟩)
  | (go_region; all_goals (go_wp2_with fail; go_ret; exact ⟨rfl, by go_grown⟩))
set_option maxRecDepth 20000 in
set_option maxHeartbeats 1000000 in
theorem rw_3k (v : Value) (l : List En) (k j : Nat) (f : En) (x : Int) (w : World) (hv : EnsAt w v l) (hm : MaysN l) (x0 : 0 ≤ x) (x1 : x ≤ 18446744073709551615) (hj : k = j + 1) (hl : k < l.length) (hf : l[j]? = some f) (hp : 0 < x) (hq : ¬ x - 1 = IntKind.u64.wrap (f.off + f.ln)) : Calls Try.prog 84 #[v, .int .i64 3, .int .i64 (k : Int), .int .u64 x] w fun e w' => e = .returned (.int .i64 0) ∧ Below w.heap.size w w' := by
  obtain ⟨al, cap, rfl, hcap, hcm, hc⟩ := hv
  obtain ⟨g, off, rfl, hg, m0, m1, m2, m3⟩ := hc j f hf
  have hmf := hm f (List.mem_of_getElem? hf)
  have hd : decide (0 < (k : Int)) = true := by simp; omega
  have hdn : decide (0 < k) = true := by simp; omega
  have hb0 : ((k : Int) == 0) = false := by simp; omega
  have hk1 : (k : Int) - 1 = (j : Int) := by omega
  have hjl : (j : Int) < (l.length : Int) := by omega
  unfold maxLen at hcm
  have hk2 : IntKind.i64.wrap (j : Int) = (j : Int) := by rw [IntKind.wrap_i64] <;> omega
  have r3 : IntKind.u64.wrap f.ln = f.ln := by unfold MayN at hmf; rw [wrap_u64]; omega
  have hz : decide (0 < x) = true := by simp; omega
  have hz2 : (IntKind.u64.wrap (x - 1) == IntKind.u64.wrap (f.off + f.ln)) = false := by rw [wrap_u64 (x - 1), show (x - 1) % 18446744073709551616 = x - 1 from by omega]; simp only [beq_eq_false_iff_ne, ne_eq]; exact hq
  clear hq hp
  clear hc hm hmf hj hf
  go_enter Try.func84, Try.ntmps84
  go_wp2_with fail
  first
  | (go_ret; exact ⟨rfl, by go_grown⟩)
  | (go_region; all_goals (go_wp2_with fail; go_ret; exact ⟨rfl, by go_grown⟩))
theorem rwrong_any (v : Value) (l : List En) (c k : Nat) (x : Int) (w : World) (hv : EnsAt w v l) (hm : MaysN l) (hc : c < 4) (hk : k < l.length) (x0 : 0 ≤ x) (x1 : x ≤ 18446744073709551615) :
    Calls Try.prog 84 #[v, .int .i64 (c : Int), .int .i64 (k : Int), .int .u64 x] w fun e w' => e = .returned (.int .i64 (wrgN l c k x)) ∧ Below w.heap.size w w' := by
  rcases (show c = 0 ∨ c = 1 ∨ c = 2 ∨ c = 3 by omega) with rfl | rfl | rfl | rfl
  · by_cases hz : k = 0
    · subst hz
      rw [show wrgN l 0 0 x = 0 from by unfold wrgN; rw [if_neg (by omega), if_neg (by omega), if_neg (by omega), if_neg (by omega)]]
      exact rw_00 v l x w hv hm x0 x1
    · obtain ⟨j, hj⟩ : ∃ j : Nat, k = j + 1 := ⟨k - 1, by omega⟩
      obtain ⟨f, hf⟩ : ∃ t, l[j]? = some t := ⟨_, List.getElem?_eq_getElem (by omega)⟩
      have hg : gE l (k - 1) = f := by rw [hj, Nat.add_sub_cancel]; exact gE_at hf
      by_cases hq : 18446744073709551616 ≤ f.id + x
      · rw [show wrgN l 0 k x = 11 from by unfold wrgN; rw [if_pos ⟨rfl, by omega, by rw [hg]; exact hq⟩]]
        exact rw_0o v l k j f x w hv hm x0 x1 hj hk hf hq
      · rw [show wrgN l 0 k x = 0 from by unfold wrgN; rw [hg, if_neg (by omega), if_neg (by omega), if_neg (by omega), if_neg (by omega)]]
        exact rw_0k v l k j f x w hv hm x0 x1 hj hk hf hq
  · by_cases hq : 4294967295 < x
    · rw [show wrgN l 1 k x = 11 from by unfold wrgN; rw [if_neg (by omega), if_pos ⟨.inl rfl, hq⟩]]
      exact rw_1o v l x w hv hm x0 x1 k hq
    · rw [show wrgN l 1 k x = 0 from by unfold wrgN; rw [if_neg (by omega), if_neg (by omega), if_neg (by omega), if_neg (by omega)]]
      exact rw_1k v l x w hv hm x0 x1 k hq
  · by_cases hq : 4294967295 < x
    · rw [show wrgN l 2 k x = 11 from by unfold wrgN; rw [if_neg (by omega), if_pos ⟨.inr rfl, hq⟩]]
      exact rw_2o v l x w hv hm x0 x1 k hq
    · rw [show wrgN l 2 k x = 0 from by unfold wrgN; rw [if_neg (by omega), if_neg (by omega), if_neg (by omega), if_neg (by omega)]]
      exact rw_2k v l x w hv hm x0 x1 k hq
  · by_cases hz : k = 0
    · subst hz
      by_cases hq : x = 0
      · rw [show wrgN l 3 0 x = 4 from by unfold wrgN; rw [if_neg (by omega), if_neg (by omega), if_pos ⟨rfl, rfl, hq⟩]]
        exact rw_3z v l x w hv hm x0 x1 hq
      · rw [show wrgN l 3 0 x = 0 from by unfold wrgN; rw [if_neg (by omega), if_neg (by omega), if_neg (by omega), if_neg (by omega)]]
        exact rw_3n v l x w hv hm x0 x1 hq
    · obtain ⟨j, hj⟩ : ∃ j : Nat, k = j + 1 := ⟨k - 1, by omega⟩
      obtain ⟨f, hf⟩ : ∃ t, l[j]? = some t := ⟨_, List.getElem?_eq_getElem (by omega)⟩
      have hg : nxE l (k - 1) = IntKind.u64.wrap (f.off + f.ln) := by rw [hj, Nat.add_sub_cancel, nxE, gE_at hf, wrap_u64]
      by_cases hp : x = 0
      · rw [show wrgN l 3 k x = 0 from by unfold wrgN; rw [if_neg (by omega), if_neg (by omega), if_neg (by omega), if_neg (by omega)]]
        exact rw_3kz v l k j f x w hv hm x0 x1 hj hk hf hp
      · by_cases hq : x - 1 = IntKind.u64.wrap (f.off + f.ln)
        · rw [show wrgN l 3 k x = 4 from by unfold wrgN; rw [if_neg (by omega), if_neg (by omega), if_neg (by omega), if_pos ⟨rfl, by omega, by omega, by rw [hg]; exact hq⟩]]
          exact rw_3o v l k j f x w hv hm x0 x1 hj hk hf (by omega) hq
        · rw [show wrgN l 3 k x = 0 from by unfold wrgN; rw [if_neg (by omega), if_neg (by omega), if_neg (by omega), if_neg (by rintro ⟨-, -, -, h⟩; rw [hg] at h; exact hq h)]]
          exact rw_3k v l k j f x w hv hm x0 x1 hj hk hf (by omega) hq
end Go.Proofs.Ytbkodaijigcebaa
