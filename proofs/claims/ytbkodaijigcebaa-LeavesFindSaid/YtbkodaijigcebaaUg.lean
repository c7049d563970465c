/- The document's piece and Join. -/
import Derived.Test.YtbkodaijigcebaaUf
import Derived.Test.YtbkodaijigcebaaMI
namespace Go.Proofs.Ytbkodaijigcebaa
open Go.RowKit
set_option maxRecDepth 20000
set_option linter.unusedVariables false
set_option linter.unusedSimpArgs false
def PieEnd (D : List En × Int) (w : World) (x : Ending) (w' : World) : Prop := ∃ v', x = .returned (.tuple #[v', .int .i64 D.2]) ∧ EnsAt w' v' D.1 ∧ Below w.heap.size w w'
theorem piece_range {e : En} {d : ByteArray} (h : (d.size : Int) < e.off + e.ln) : pieceN e d = ([], 8) := by unfold pieceN; rw [if_pos h]
theorem piece_bad {e : En} {d : ByteArray} {D : List En × Nat × Int} (h : ¬ (d.size : Int) < e.off + e.ln) (hD : decD (d.extract e.off.toNat (e.off + e.ln).toNat).data.toList = D) (h1 : D.2.2 ≠ 0) : pieceN e d = ([], D.2.2) := by unfold pieceN; rw [if_neg h, hD, if_pos h1]
theorem piece_deep {e : En} {d : ByteArray} {D : List En × Nat × Int} (h : ¬ (d.size : Int) < e.off + e.ln) (hD : decD (d.extract e.off.toNat (e.off + e.ln).toNat).data.toList = D) (h1 : D.2.2 = 0) (h2 : leavesN D.1 ≠ []) : pieceN e d = ([], 20) := by unfold pieceN; rw [if_neg h, hD, if_neg (by simpa using h1), if_pos h2]
theorem piece_order {e : En} {d : ByteArray} {D : List En × Nat × Int} (h : ¬ (d.size : Int) < e.off + e.ln) (hD : decD (d.extract e.off.toNat (e.off + e.ln).toNat).data.toList = D) (h1 : D.2.2 = 0) (h2 : leavesN D.1 = []) (h3 : D.1 = [] ∨ (gS D.1 0).id ≠ e.id) : pieceN e d = ([], 10) := by unfold pieceN; rw [if_neg h, hD, if_neg (by simpa using h1), if_neg (by simpa using h2), if_pos h3]
theorem piece_good {e : En} {d : ByteArray} {D : List En × Nat × Int} (h : ¬ (d.size : Int) < e.off + e.ln) (hD : decD (d.extract e.off.toNat (e.off + e.ln).toNat).data.toList = D) (h1 : D.2.2 = 0) (h2 : leavesN D.1 = []) (h3 : ¬ (D.1 = [] ∨ (gS D.1 0).id ≠ e.id)) : pieceN e d = (D.1, 0) := by unfold pieceN; rw [if_neg h, hD, if_neg (by simpa using h1), if_neg (by simpa using h2), if_neg h3]
theorem Below.drewNs {w W : World} (h : Below w.heap.size w W) (n : Nat) : Below w.heap.size w (W.drewN n) := h.trans (show Below w.heap.size W (W.drewN n) from ⟨rfl, rfl, rfl, Nat.le_refl _, fun _ _ => rfl⟩)
theorem EnsAt.drewNs {W : World} {v : Value} {l : List En} (h : EnsAt W v l) (n : Nat) : EnsAt (W.drewN n) v l := h.below ⟨rfl, rfl, rfl, Nat.le_refl _, fun _ _ => rfl⟩
set_option maxHeartbeats 4000000 in
theorem rpiece_any (e : En) (d : ByteArray) (w : World) (hm : MayN e) (hc : e.off + e.ln ≤ 9223372036854775807) (hd : d.size ≤ 1000000000) :
    Calls Try.prog 33 #[.agg (eC e), .string d] w (PieEnd (pieceN e d) w) := by
  unfold PieEnd
  have HEB := Lib.hid (EAt.made w e 58)
  have HB0 : Hid (Below w.heap.size w (w.alloc (.cells (eC e) 58))) := Lib.hid ((Below.refl _ _).alloc (Nat.le_refl _) _)
  unfold MayN at hm
  have hw3 : IntKind.u64.wrap e.ln = e.ln := by rw [IntKind.wrap_u64]; omega
  have hw4 : IntKind.u64.wrap (e.off + e.ln) = e.off + e.ln := by rw [IntKind.wrap_u64]; omega
  have hw5 : IntKind.u64.wrap (d.size : Int) = (d.size : Int) := by rw [IntKind.wrap_u64]; omega
  by_cases h1 : (d.size : Int) < e.off + e.ln
  · rw [piece_range h1]
    unfold eC at HB0 HEB ⊢
    go_enter Try.func33, Try.ntmps33
    go_wp2_with fail
    refine bodyPost_ret (results_tmp2 rfl _ _ _) rfl ⟨_, rfl, ens_nil _, HB0.out⟩
  have hs1 : (0 : Int) ≤ e.off := by omega
  have hs2 : e.off ≤ e.off + e.ln := by omega
  have hs3 : e.off + e.ln ≤ (d.size : Int) := by omega
  have HDC := Lib.hid (fun X => rdecD_any (d.extract e.off.toNat (e.off + e.ln).toNat) X (by rw [ByteArray.size_extract]; unfold maxLen; omega))
  obtain ⟨D, hD⟩ : ∃ D, decD (d.extract e.off.toNat (e.off + e.ln).toNat).data.toList = D := ⟨_, rfl⟩
  rw [hD] at HDC
  have hback := decD_back (d.extract e.off.toNat (e.off + e.ln).toNat).data.toList
  rw [hD] at hback
  unfold DecEnd at HDC
  obtain ⟨m, at_, z⟩ := D
  dsimp only at HDC hback
  unfold eC at HB0 HEB ⊢
  by_cases h2 : z = 0
  · subst h2
    obtain ⟨b1, b2, _⟩ := hback rfl
    have hml := rowN_len b1
    have HLV := Lib.hid (fun v X (hX : EnsAt X v m) => rleaves_any v m X hX (by omega))
    unfold EnsEnd at HLV
    by_cases h3 : leavesN m = []
    · rw [h3] at HLV
      by_cases h4 : m = []
      · rw [piece_order h1 hD rfl h3 (.inl h4)]
        subst h4
        clear b1 b2 hback hD h1 h3
        go_enter Try.func33, Try.ntmps33
        go_wp2_with fail
        refine (HDC.out _).mono ?_
        rintro x w1 ⟨v1, rfl, ho1, hb1⟩
        have HO1 := Lib.hid ho1.ensAt
        have HB1 := Lib.hid (HB0.out.trans (hb1.mono HB0.out.size))
        have he1 := HEB.out.later hb1
        obtain ⟨a1, c1, rfl⟩ := ensAt_form ho1.ensAt
        rw [List.length_nil]
        clear ho1 hb1
        go_wp2_with fail
        refine (HLV.out _ _ HO1.out).mono ?_
        rintro x w2 ⟨v2, rfl, ho2, hb2⟩
        have HB2 := Lib.hid (HB1.out.trans (hb2.mono HB1.out.size))
        obtain ⟨a2, c2, rfl⟩ := ensAt_form ho2.ensAt
        rw [List.length_nil]
        have he2 := he1.later hb2
        obtain ⟨k0, k1, k2, k3⟩ := he2
        clear ho2 hb2 he1
        go_wp2_with fail
        go_quiet (fail)
        go_wp2_with fail
        refine bodyPost_ret (results_tmp2 rfl _ _ _) rfl ⟨_, rfl, ens_nil _, Below.drewNs HB2.out _⟩
      · have hmp : 0 < m.length := List.length_pos_iff.2 h4
        have hmp1 : ((m.length : Int) == 0) = false := by rw [beq_eq_false_iff_ne]; omega
        have hmp2 : (0 : Int) < (m.length : Int) := by omega
        by_cases h5 : (gS m 0).id = e.id
        · rw [piece_good h1 hD rfl h3 (by intro h; rcases h with h | h; exact h4 h; exact h h5)]
          dsimp only
          have hne : ((gS m 0).id != e.id) = false := by simpa using h5
          have HGS := Lib.hid (gS_get m 0 hmp)
          clear b1 b2 hback hD h1 h3 h4
          go_enter Try.func33, Try.ntmps33
          go_wp2_with fail
          refine (HDC.out _).mono ?_
          rintro x w1 ⟨v1, rfl, ho1, hb1⟩
          have HO1 := Lib.hid ho1.ensAt
          have HB1 := Lib.hid (HB0.out.trans (hb1.mono HB0.out.size))
          have he1 := HEB.out.later hb1
          obtain ⟨a1, c1, rfl⟩ := ensAt_form ho1.ensAt
          clear ho1 hb1
          go_wp2_with fail
          refine (HLV.out _ _ HO1.out).mono ?_
          rintro x w2 ⟨v2, rfl, ho2, hb2⟩
          have HO2 := Lib.hid (HO1.out.below hb2)
          have HB2 := Lib.hid (HB1.out.trans (hb2.mono HB1.out.size))
          obtain ⟨a2, c2, rfl⟩ := ensAt_form ho2.ensAt
          rw [List.length_nil]
          have he2 := he1.later hb2
          obtain ⟨k0, k1, k2, k3⟩ := he2
          obtain ⟨gm, om, cm, hve, hcm, hgm, hcc⟩ := ens_at HO2.out 0 hmp
          cases hve
          obtain ⟨x0, _, _, _⟩ := hcc 0 _ HGS.out
          simp only [Nat.zero_mul, Nat.add_zero] at x0
          clear ho2 hb2 he1 hcc h5
          go_wp2_with fail
          go_quiet (fail)
          go_wp2_with fail
          refine bodyPost_ret (results_tmp2 rfl _ _ _) rfl ⟨_, rfl, HO2.out.drewNs _, Below.drewNs HB2.out _⟩
        · rw [piece_order h1 hD rfl h3 (.inr h5)]
          dsimp only
          have hne : ((gS m 0).id != e.id) = true := by simpa using h5
          have HGS := Lib.hid (gS_get m 0 hmp)
          clear b1 b2 hback hD h1 h3 h4
          go_enter Try.func33, Try.ntmps33
          go_wp2_with fail
          refine (HDC.out _).mono ?_
          rintro x w1 ⟨v1, rfl, ho1, hb1⟩
          have HO1 := Lib.hid ho1.ensAt
          have HB1 := Lib.hid (HB0.out.trans (hb1.mono HB0.out.size))
          have he1 := HEB.out.later hb1
          obtain ⟨a1, c1, rfl⟩ := ensAt_form ho1.ensAt
          clear ho1 hb1
          go_wp2_with fail
          refine (HLV.out _ _ HO1.out).mono ?_
          rintro x w2 ⟨v2, rfl, ho2, hb2⟩
          have HO2 := Lib.hid (HO1.out.below hb2)
          have HB2 := Lib.hid (HB1.out.trans (hb2.mono HB1.out.size))
          obtain ⟨a2, c2, rfl⟩ := ensAt_form ho2.ensAt
          rw [List.length_nil]
          have he2 := he1.later hb2
          obtain ⟨k0, k1, k2, k3⟩ := he2
          obtain ⟨gm, om, cm, hve, hcm, hgm, hcc⟩ := ens_at HO2.out 0 hmp
          cases hve
          obtain ⟨x0, _, _, _⟩ := hcc 0 _ HGS.out
          simp only [Nat.zero_mul, Nat.add_zero] at x0
          clear ho2 hb2 he1 hcc h5
          go_wp2_with fail
          go_quiet (fail)
          go_wp2_with fail
          refine bodyPost_ret (results_tmp2 rfl _ _ _) rfl ⟨_, rfl, ens_nil _, Below.drewNs HB2.out _⟩
    · rw [piece_deep h1 hD rfl h3]
      dsimp only
      have hlp : (0 : Int) < ((leavesN m).length : Int) := by have := leaves_len.1 h3; omega
      clear b1 b2 hback hD h1 h3
      go_enter Try.func33, Try.ntmps33
      go_wp2_with fail
      refine (HDC.out _).mono ?_
      rintro x w1 ⟨v1, rfl, ho1, hb1⟩
      have HO1 := Lib.hid ho1.ensAt
      have HB1 := Lib.hid (HB0.out.trans (hb1.mono HB0.out.size))
      have he1 := HEB.out.later hb1
      obtain ⟨a1, c1, rfl⟩ := ensAt_form ho1.ensAt
      clear ho1 hb1
      go_wp2_with fail
      refine (HLV.out _ _ HO1.out).mono ?_
      rintro x w2 ⟨v2, rfl, ho2, hb2⟩
      have HO2 := Lib.hid (HO1.out.below hb2)
      have HB2 := Lib.hid (HB1.out.trans (hb2.mono HB1.out.size))
      obtain ⟨a2, c2, rfl⟩ := ensAt_form ho2.ensAt
      clear ho2 hb2 he1
      go_wp2_with fail
      refine bodyPost_ret (results_tmp2 rfl _ _ _) rfl ⟨_, rfl, ens_nil _, HB2.out⟩
  · rw [piece_bad h1 hD h2]
    dsimp only
    have hz : (z != 0) = true := by simpa using h2
    clear hback hD h1 h2
    go_enter Try.func33, Try.ntmps33
    go_wp2_with fail
    refine (HDC.out _).mono ?_
    rintro x w1 ⟨v1, rfl, ho1, hb1⟩
    have HB1 := Lib.hid (HB0.out.trans (hb1.mono HB0.out.size))
    obtain ⟨a1, c1, rfl⟩ := ensAt_form ho1.ensAt
    clear ho1 hb1
    go_wp2_with fail
    refine bodyPost_ret (results_tmp2 rfl _ _ _) rfl ⟨_, rfl, ens_nil _, HB1.out⟩
end Go.Proofs.Ytbkodaijigcebaa
