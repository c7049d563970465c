/- leaves' leaf: what an entry of a root stands for. -/
import Derived.Test.YtbkodaijigcebaaNc
import Derived.Test.YtbkodaijigcebaaPs
import Derived.Test.YtbkodaijigcebaaUg
namespace Go.Proofs.Ytbkodaijigcebaa
open Go.RowKit
set_option maxRecDepth 20000
set_option linter.unusedVariables false
set_option linter.unusedSimpArgs false
/-- What an entry of a root stands for. -/
def leafN (e : En) (d : ByteArray) : List En × Int := if 0 < e.rn then ([e], 0) else pieceN e d
set_option maxHeartbeats 4000000 in
theorem leaf_any (e : En) (d : ByteArray) (w : World) (hm : MayN e) (hc : e.off + e.ln ≤ 9223372036854775807) (hd : d.size ≤ 1000000000) :
    Calls Try.prog 32 #[.agg (eC e), .string d] w (PieEnd (leafN e d) w) := by
  unfold PieEnd
  have HEB := Lib.hid (EAt.made w e 52)
  have HB0 : Hid (Below w.heap.size w (w.alloc (.cells (eC e) 52))) := Lib.hid ((Below.refl _ _).alloc (Nat.le_refl _) _)
  have HPT := Lib.hid (fun X => lptr_any e X)
  have hm' := hm
  unfold MayN at hm
  have hw3 : IntKind.u64.wrap e.ln = e.ln := by rw [IntKind.wrap_u64]; omega
  have hw4 : IntKind.u64.wrap (e.off + e.ln) = e.off + e.ln := by rw [IntKind.wrap_u64]; omega
  have hw5 : IntKind.u64.wrap (d.size : Int) = (d.size : Int) := by rw [IntKind.wrap_u64]; omega
  by_cases h0 : 0 < e.rn
  · have he : leafN e d = ([e], 0) := by unfold leafN; rw [if_pos h0]
    rw [he, decide_eq_false (by omega)] at *
    dsimp only
    have HL1 := Lib.hid (fun X => ens_lit14 X e 52)
    clear h0 he
    unfold eC at HB0 HEB HPT HL1 ⊢
    go_enter Try.func32, Try.ntmps32
    go_wp2_with fail
    refine (HPT.out _).mono ?_
    rintro x w1 ⟨rfl, hb1⟩
    have HB1 := Lib.hid (HB0.out.trans (hb1.mono HB0.out.size))
    obtain ⟨k0, k1, k2, k3⟩ := HEB.out.later hb1
    clear hb1
    go_wp2_with fail
    refine bodyPost_ret (results_tmp2 rfl _ _ _) rfl ⟨_, rfl, HL1.out _, HB1.out.alloc HB1.out.size _⟩
  have he : leafN e d = pieceN e d := by unfold leafN; rw [if_neg h0]
  rw [he]
  rw [decide_eq_true (show e.rn = 0 by omega)] at HPT
  clear h0 he
  by_cases h1 : (d.size : Int) < e.off + e.ln
  · rw [piece_range h1]
    dsimp only
    unfold eC at HB0 HEB HPT ⊢
    go_enter Try.func32, Try.ntmps32
    go_wp2_with fail
    refine (HPT.out _).mono ?_
    rintro x wp ⟨rfl, hbp⟩
    have HB1 := Lib.hid (HB0.out.trans (hbp.mono HB0.out.size))
    have hep := HEB.out.later hbp
    have HEP := Lib.hid hep
    obtain ⟨k0, k1, k2, k3⟩ := hep
    clear hbp
    go_wp2_with fail
    refine bodyPost_ret (results_tmp2 rfl _ _ _) rfl ⟨_, rfl, ens_nil _, HB1.out⟩
  have hs1 : (0 : Int) ≤ e.off := by omega
  have hs2 : e.off ≤ e.off + e.ln := by omega
  have hs3 : e.off + e.ln ≤ (d.size : Int) := by omega
  have HDC := Lib.hid (fun X => pdecD_any (d.extract e.off.toNat (e.off + e.ln).toNat) X (by rw [ByteArray.size_extract]; unfold maxLen; omega))
  obtain ⟨D, hD⟩ : ∃ D, decD (d.extract e.off.toNat (e.off + e.ln).toNat).data.toList = D := ⟨_, rfl⟩
  rw [hD] at HDC
  have hback := decD_back (d.extract e.off.toNat (e.off + e.ln).toNat).data.toList
  rw [hD] at hback
  unfold DecEnd at HDC
  obtain ⟨m, at_, z⟩ := D
  dsimp only at HDC hback
  unfold eC at HB0 HEB HPT ⊢
  by_cases h2 : z = 0
  · subst h2
    obtain ⟨b1, b2, _⟩ := hback rfl
    have hml := rowN_len b1
    have HLV := Lib.hid (fun v X (hX : EnsAt X v m) => lcont_any v m X hX (by omega))
    by_cases h3 : leavesN m = []
    · rw [decide_eq_false (by simpa using h3)] at HLV
      by_cases h4 : m = []
      · rw [piece_order h1 hD rfl h3 (.inl h4)]
        subst h4
        dsimp only
        clear b1 b2 hback hD h1 h3
        go_enter Try.func32, Try.ntmps32
        go_wp2_with fail
        refine (HPT.out _).mono ?_
        rintro x wp ⟨rfl, hbp⟩
        have HB1 := Lib.hid (HB0.out.trans (hbp.mono HB0.out.size))
        have hep := HEB.out.later hbp
        have HEP := Lib.hid hep
        obtain ⟨k0, k1, k2, k3⟩ := hep
        clear hbp
        go_wp2_with fail
        refine (HDC.out _).mono ?_
        rintro x w1 ⟨v1, rfl, ho1, hb1⟩
        have HO1 := Lib.hid ho1.ensAt
        have HBP := HB1
        clear HB1
        have HB1 := Lib.hid (HBP.out.trans (hb1.mono HBP.out.size))
        have he1 := HEP.out.later hb1
        obtain ⟨a1, c1, rfl⟩ := ensAt_form ho1.ensAt
        clear ho1 hb1 k0 k1 k2 k3
        rw [List.length_nil] at HO1
        rw [List.length_nil]
        go_wp2_with fail
        refine (HLV.out _ _ HO1.out).mono ?_
        rintro x w2 ⟨rfl, hb2⟩
        have HO2 := Lib.hid (HO1.out.below hb2)
        have HB2 := Lib.hid (HB1.out.trans (hb2.mono HB1.out.size))
        have he2 := he1.later hb2
        obtain ⟨k0, k1, k2, k3⟩ := he2
        clear hb2 he1
        go_wp2_with fail
        go_quiet (fail)
        go_wp2_with fail
        refine bodyPost_ret (results_tmp2 rfl _ _ _) rfl ⟨_, rfl, ens_nil _, Below.drewNs HB2.out _⟩
      · have hmp : 0 < m.length := List.length_pos_iff.2 h4
        have hmp1 : ((m.length : Int) == 0) = false := by rw [beq_eq_false_iff_ne]; omega
        have hmp2 : (0 : Int) < (m.length : Int) := by omega
        by_cases h5 : (gS m 0).id = e.id
        · rw [piece_good h1 hD rfl h3 (by intro h; rcases h with h | h; exact h4 h; exact h h5)]
          dsimp only
          have hne : ((gS m 0).id != e.id) = false := by simpa using h5
          have HGS := Lib.hid (gS_get m 0 hmp)
          clear b1 b2 hback hD h1 h3 h4
          go_enter Try.func32, Try.ntmps32
          go_wp2_with fail
          refine (HPT.out _).mono ?_
          rintro x wp ⟨rfl, hbp⟩
          have HB1 := Lib.hid (HB0.out.trans (hbp.mono HB0.out.size))
          have hep := HEB.out.later hbp
          have HEP := Lib.hid hep
          obtain ⟨k0, k1, k2, k3⟩ := hep
          clear hbp
          go_wp2_with fail
          refine (HDC.out _).mono ?_
          rintro x w1 ⟨v1, rfl, ho1, hb1⟩
          have HO1 := Lib.hid ho1.ensAt
          have HBP := HB1
          clear HB1
          have HB1 := Lib.hid (HBP.out.trans (hb1.mono HBP.out.size))
          have he1 := HEP.out.later hb1
          obtain ⟨a1, c1, rfl⟩ := ensAt_form ho1.ensAt
          clear ho1 hb1 k0 k1 k2 k3
          go_wp2_with fail
          refine (HLV.out _ _ HO1.out).mono ?_
          rintro x w2 ⟨rfl, hb2⟩
          have HO2 := Lib.hid (HO1.out.below hb2)
          have HB2 := Lib.hid (HB1.out.trans (hb2.mono HB1.out.size))
          have he2 := he1.later hb2
          obtain ⟨k0, k1, k2, k3⟩ := he2
          obtain ⟨gm, om, cm, hve, hcm, hgm, hcc⟩ := ens_at HO2.out 0 hmp
          cases hve
          obtain ⟨x0, _, _, _⟩ := hcc 0 _ HGS.out
          simp only [Nat.zero_mul, Nat.add_zero] at x0
          clear hb2 he1 hcc h5
          go_wp2_with fail
          go_quiet (fail)
          go_wp2_with fail
          refine bodyPost_ret (results_tmp2 rfl _ _ _) rfl ⟨_, rfl, HO2.out.drewNs _, Below.drewNs HB2.out _⟩
        · rw [piece_order h1 hD rfl h3 (.inr h5)]
          dsimp only
          have hne : ((gS m 0).id != e.id) = true := by simpa using h5
          have HGS := Lib.hid (gS_get m 0 hmp)
          clear b1 b2 hback hD h1 h3 h4
          go_enter Try.func32, Try.ntmps32
          go_wp2_with fail
          refine (HPT.out _).mono ?_
          rintro x wp ⟨rfl, hbp⟩
          have HB1 := Lib.hid (HB0.out.trans (hbp.mono HB0.out.size))
          have hep := HEB.out.later hbp
          have HEP := Lib.hid hep
          obtain ⟨k0, k1, k2, k3⟩ := hep
          clear hbp
          go_wp2_with fail
          refine (HDC.out _).mono ?_
          rintro x w1 ⟨v1, rfl, ho1, hb1⟩
          have HO1 := Lib.hid ho1.ensAt
          have HBP := HB1
          clear HB1
          have HB1 := Lib.hid (HBP.out.trans (hb1.mono HBP.out.size))
          have he1 := HEP.out.later hb1
          obtain ⟨a1, c1, rfl⟩ := ensAt_form ho1.ensAt
          clear ho1 hb1 k0 k1 k2 k3
          go_wp2_with fail
          refine (HLV.out _ _ HO1.out).mono ?_
          rintro x w2 ⟨rfl, hb2⟩
          have HO2 := Lib.hid (HO1.out.below hb2)
          have HB2 := Lib.hid (HB1.out.trans (hb2.mono HB1.out.size))
          have he2 := he1.later hb2
          obtain ⟨k0, k1, k2, k3⟩ := he2
          obtain ⟨gm, om, cm, hve, hcm, hgm, hcc⟩ := ens_at HO2.out 0 hmp
          cases hve
          obtain ⟨x0, _, _, _⟩ := hcc 0 _ HGS.out
          simp only [Nat.zero_mul, Nat.add_zero] at x0
          clear hb2 he1 hcc h5
          go_wp2_with fail
          go_quiet (fail)
          go_wp2_with fail
          refine bodyPost_ret (results_tmp2 rfl _ _ _) rfl ⟨_, rfl, ens_nil _, Below.drewNs HB2.out _⟩
    · rw [piece_deep h1 hD rfl h3]
      dsimp only
      rw [decide_eq_true (by simpa using h3)] at HLV
      clear b1 b2 hback hD h1 h3
      go_enter Try.func32, Try.ntmps32
      go_wp2_with fail
      refine (HPT.out _).mono ?_
      rintro x wp ⟨rfl, hbp⟩
      have HB1 := Lib.hid (HB0.out.trans (hbp.mono HB0.out.size))
      have hep := HEB.out.later hbp
      have HEP := Lib.hid hep
      obtain ⟨k0, k1, k2, k3⟩ := hep
      clear hbp
      go_wp2_with fail
      refine (HDC.out _).mono ?_
      rintro x w1 ⟨v1, rfl, ho1, hb1⟩
      have HO1 := Lib.hid ho1.ensAt
      have HBP := HB1
      clear HB1
      have HB1 := Lib.hid (HBP.out.trans (hb1.mono HBP.out.size))
      have he1 := HEP.out.later hb1
      obtain ⟨a1, c1, rfl⟩ := ensAt_form ho1.ensAt
      clear ho1 hb1 k0 k1 k2 k3
      go_wp2_with fail
      refine (HLV.out _ _ HO1.out).mono ?_
      rintro x w2 ⟨rfl, hb2⟩
      have HO2 := Lib.hid (HO1.out.below hb2)
      have HB2 := Lib.hid (HB1.out.trans (hb2.mono HB1.out.size))
      have he2 := he1.later hb2
      clear hb2 he1
      go_wp2_with fail
      refine bodyPost_ret (results_tmp2 rfl _ _ _) rfl ⟨_, rfl, ens_nil _, HB2.out⟩
  · rw [piece_bad h1 hD h2]
    dsimp only
    have hz : (z != 0) = true := by simpa using h2
    clear hback hD h1 h2
    go_enter Try.func32, Try.ntmps32
    go_wp2_with fail
    refine (HPT.out _).mono ?_
    rintro x wp ⟨rfl, hbp⟩
    have HB1 := Lib.hid (HB0.out.trans (hbp.mono HB0.out.size))
    have hep := HEB.out.later hbp
    have HEP := Lib.hid hep
    obtain ⟨k0, k1, k2, k3⟩ := hep
    clear hbp
    go_wp2_with fail
    refine (HDC.out _).mono ?_
    rintro x w1 ⟨v1, rfl, ho1, hb1⟩
    have HO1 := Lib.hid ho1.ensAt
    have HBP := HB1
    clear HB1
    have HB1 := Lib.hid (HBP.out.trans (hb1.mono HBP.out.size))
    have he1 := HEP.out.later hb1
    obtain ⟨a1, c1, rfl⟩ := ensAt_form ho1.ensAt
    clear ho1 hb1 k0 k1 k2 k3
    clear he1
    go_wp2_with fail
    refine bodyPost_ret (results_tmp2 rfl _ _ _) rfl ⟨_, rfl, ens_nil _, HB1.out⟩
end Go.Proofs.Ytbkodaijigcebaa
