/- The document's Join. -/
import Derived.Test.YtbkodaijigcebaaUg
namespace Go.Proofs.Ytbkodaijigcebaa
open Go.RowKit
set_option maxRecDepth 20000
set_option linter.unusedVariables false
set_option linter.unusedSimpArgs false
theorem piece_len (e : En) (d : ByteArray) : (pieceN e d).1.length ≤ 4096 ∧ MaysN (pieceN e d).1 := by
  by_cases h1 : (d.size : Int) < e.off + e.ln
  · rw [piece_range h1]; exact ⟨by simp, fun e h => by simp at h⟩
  obtain ⟨D, hD⟩ : ∃ D, decD (d.extract e.off.toNat (e.off + e.ln).toNat).data.toList = D := ⟨_, rfl⟩
  by_cases h2 : D.2.2 = 0
  · by_cases h3 : leavesN D.1 = []
    · by_cases h4 : D.1 = [] ∨ (gS D.1 0).id ≠ e.id
      · rw [piece_order h1 hD h2 h3 h4]; exact ⟨by simp, fun e h => by simp at h⟩
      · rw [piece_good h1 hD h2 h3 h4]
        have hb := decD_back (d.extract e.off.toNat (e.off + e.ln).toNat).data.toList
        rw [hD] at hb
        obtain ⟨b1, b2, _⟩ := hb h2
        exact ⟨rowN_len b1, b2⟩
    · rw [piece_deep h1 hD h2 h3]; exact ⟨by simp, fun e h => by simp at h⟩
  · rw [piece_bad h1 hD h2]; exact ⟨by simp, fun e h => by simp at h⟩
theorem goJ_step (l : List En) (k : Nat) (e : En) (d : ByteArray) (out : List En) (h : l[k]? = some e) : goJ (l.drop k) d out = if 0 < e.rn then goJ (l.drop (k + 1)) d (out ++ [e]) else if (pieceN e d).2 ≠ 0 then ([], (pieceN e d).2) else goJ (l.drop (k + 1)) d (out ++ (pieceN e d).1) := by
  obtain ⟨hk, rfl⟩ := List.getElem?_eq_some_iff.1 h
  rw [List.drop_eq_getElem_cons hk, goJ]
theorem joinN_eq {root : List En} {d : ByteArray} (h : rowN root = 0) : joinN root d = if (goJ root d []).2 ≠ 0 then ([], (goJ root d []).2) else if rowN (goJ root d []).1 ≠ 0 then ([], rowN (goJ root d []).1) else ((goJ root d []).1, 0) := by
  unfold joinN; rw [if_neg (by simpa using h)]
theorem mays_append {a b : List En} (ha : MaysN a) (hb : MaysN b) : MaysN (a ++ b) := fun e he => by
  rcases List.mem_append.1 he with h | h
  · exact ha e h
  · exact hb e h
set_option maxHeartbeats 4000000 in
theorem rjoin_any (v : Value) (root : List En) (d : ByteArray) (w : World) (hv : EnsAt w v root) (hm : MaysN root) (hl : root.length ≤ 200) (hd : d.size ≤ 1000000) :
    Calls Try.prog 16 #[v, .string d] w (PieEnd (joinN root d) w) := by
  unfold PieEnd
  have HRO := Lib.hid (rrowN_any v root w hv hm)
  by_cases h1 : rowN root = 0
  · obtain ⟨J, hJ⟩ : ∃ J, joinN root d = J := ⟨_, rfl⟩
    rw [hJ]
    rw [joinN_eq h1] at hJ
    rw [h1] at HRO
    have HCK : Hid (∀ e ∈ root, ckN e = 0) := Lib.hid (fun e he => by
      have := (row_G h1).1
      exact (rowG_above _ root hm this e he).2)
    have HV := Lib.hid hv
    have HM := Lib.hid hm
    obtain ⟨av, cv, rfl⟩ := ensAt_form hv
    obtain ⟨R, hR⟩ : ∃ R, goJ root d [] = R := ⟨_, rfl⟩
    rw [hR] at hJ
    have HJ := Lib.hid hJ.symm
    have HR0 : Hid (R = goJ (root.drop 0) d []) := Lib.hid (by rw [List.drop_zero, hR])
    clear hv hm h1 hR hJ
    go_enter Try.func16, Try.ntmps16
    go_wp2_with fail
    refine HRO.out.mono ?_
    rintro x w1 ⟨rfl, hb1⟩
    have HB1 := Lib.hid hb1
    clear hb1
    go_wp2_with fail
    go_loopw [7, 8] (fun vo i wr => ∃ (k : Nat) (out : List En), k ≤ root.length ∧ i = .int .i64 k ∧ out.length ≤ 4096 * k ∧ Hid (OwnE wr w.heap.size 58 vo out) ∧ Hid (MaysN out) ∧ Hid (R = goJ (root.drop k) d out) ∧ Hid (Below w.heap.size w wr)) (fun _ i _ => root.length - (intOf i).toNat)
    case atStart => exact ⟨0, [], Nat.zero_le _, rfl, by simp, Lib.hid (ownE_nil _ _ _), Lib.hid (fun e h => by simp at h), HR0, HB1⟩
    case round =>
      obtain ⟨k, out, hk, rfl, hol, HO, HMO, HG, HBW⟩ := hrel
      by_cases hlt : k < root.length
      · obtain ⟨e, he⟩ : ∃ e, root[k]? = some e := ⟨_, List.getElem?_eq_getElem hlt⟩
        have hme := HM.out e (List.mem_of_getElem? he)
        have hck := ck_ok e (HCK.out e (List.mem_of_getElem? he))
        obtain ⟨g, off, cap, hv2, hle, hg, hc⟩ := ens_at HV.out k hlt
        cases hv2
        obtain ⟨k0, k1, k2, k3⟩ := cells4 HBW.out (hc k e he)
        have HG2 := HG.out
        rw [goJ_step root k e d out he] at HG2
        have hki : (k : Int) < (root.length : Int) := by omega
        have hme2 := hme
        unfold MayN at hme2
        by_cases hr : 0 < e.rn
        · rw [if_pos hr] at HG2
          have HG3 := Lib.hid HG2
          have hba : Below wr.heap.size wr (wr.alloc (.cells (eC e) 58)) := (Below.refl _ _).alloc (Nat.le_refl _) _
          obtain ⟨v5, w5, hr5, ho5, hg5⟩ := enappend_run (wr.alloc (.cells (eC e) 58)) w.heap.size 22 58 22 _ Try.underlying22 infoRe rfl u7 (.slice (some ⟨wr.heap.size, 0, none⟩) 1 1) out [e] (HO.out.below hba) (ens_lit14 _ _ _) (by simp; omega) (Nat.le_trans HBW.out.size hba.size)
          have HO5 := Lib.hid ho5
          have HM5 := Lib.hid (mays_append HMO.out (fun f hf => by rw [List.mem_singleton] at hf; rw [hf]; exact hme))
          have HB5 := Lib.hid ((HBW.out.trans (hba.mono HBW.out.size)).grown hg5 (Nat.le_trans HBW.out.size hba.size) (fun j hj => (HO.out.lt j hj).1))
          have hlen : (out ++ [e]).length ≤ 4096 * (k + 1) := by rw [List.length_append]; simp; omega
          unfold eC at hr5
          clear HG2 HG ho5 hg5 hba hc he hme hck hme2 HR0
          go_wp2_with (first | (at_builtin; refine Lib.wpList_append_run _ rfl _ _ _ _ rfl _ _ rfl rfl _ _ hr5 ?_) | fail)
          go_roundw
          case rel => exact ⟨k + 1, _, by omega, by go_num, hlen, HO5, HM5, HG3, HB5⟩
          case measure => simp [intOf]; omega
        · rw [if_neg hr] at HG2
          have hr0 : ¬ (0 : Int) < e.rn := hr
          have HP := Lib.hid (rpiece_any e d wr hme (by omega) (by omega))
          have HPL := Lib.hid (piece_len e d)
          unfold PieEnd at HP
          generalize pieceN e d = P at *
          obtain ⟨m, z⟩ := P
          dsimp only at HP HG2 HPL
          unfold eC at HP
          by_cases hz : z = 0
          · rw [if_neg (by simpa using hz)] at HG2
            subst hz
            have HG3 := Lib.hid HG2
            clear HG2 HG hc he hme hck hme2 HR0
            go_wp2_with fail
            refine HP.out.mono ?_
            rintro x w2 ⟨v2, rfl, he2, hb2⟩
            have hB2 := HBW.out.trans (hb2.mono HBW.out.size)
            obtain ⟨v5, w5, hr5, ho5, hg5⟩ := enappend_run w2 w.heap.size 22 58 22 _ Try.underlying22 infoRe rfl u7 v2 out m (HO.out.below hb2) he2 (by have := HPL.out.1; omega) hB2.size
            have HO5 := Lib.hid ho5
            have HM5 := Lib.hid (mays_append HMO.out HPL.out.2)
            have HB5 := Lib.hid (hB2.grown hg5 hB2.size (fun j hj => (HO.out.lt j hj).1))
            have hlen : (out ++ m).length ≤ 4096 * (k + 1) := by have := HPL.out.1; rw [List.length_append]; omega
            obtain ⟨a2, c2, rfl⟩ := ensAt_form he2
            clear ho5 hg5 he2 hb2 hB2 HP
            go_wp2_with (first | (at_builtin; refine Lib.wpList_append_run _ rfl _ _ _ _ rfl _ _ rfl rfl _ _ hr5 ?_) | fail)
            go_roundw
            case rel => exact ⟨k + 1, _, by omega, by go_num, hlen, HO5, HM5, HG3, HB5⟩
            case measure => simp [intOf]; omega
          · rw [if_pos hz] at HG2
            have hzn : (z != 0) = true := by simpa using hz
            have HRR : Hid (J = ([], z)) := Lib.hid (by rw [HJ.out, HG2]; dsimp only; rw [if_pos hz])
            clear HG2 HG hc he hme hck hme2 HR0 hz
            go_wp2_with fail
            refine HP.out.mono ?_
            rintro x w2 ⟨v2, rfl, he2, hb2⟩
            have HB2 := Lib.hid (HBW.out.trans (hb2.mono HBW.out.size))
            obtain ⟨a2, c2, rfl⟩ := ensAt_form he2
            clear he2 hb2 HP
            go_wp2_with fail
            refine bodyPost_ret (results_tmp2 rfl _ _ _) rfl ⟨_, by rw [HRR.out]; rfl, by rw [HRR.out]; exact ens_nil _, HB2.out⟩
      · obtain rfl : k = root.length := by omega
        have HG2 := HG.out
        rw [List.drop_length, goJ] at HG2
        have HJ2 := HJ.out
        rw [HG2] at HJ2
        dsimp only at HJ2
        rw [if_neg (by simp)] at HJ2
        have HRW := Lib.hid (rrowN_any u7 out wr HO.out.ensAt HMO.out)
        have HE := Lib.hid HO.out.ensAt
        obtain ⟨a7, c7, rfl⟩ := ensAt_form HO.out.ensAt
        by_cases hq : rowN out = 0
        · rw [if_neg (by simpa using hq)] at HJ2
          rw [hq] at HRW
          have HJ3 := Lib.hid HJ2
          clear hq HR0 HG HG2 HJ2
          go_wp2_with fail
          refine HRW.out.mono ?_
          rintro x w2 ⟨rfl, hb2⟩
          have HE2 := Lib.hid (HE.out.below hb2)
          have HB2 := Lib.hid (HBW.out.trans (hb2.mono HBW.out.size))
          clear hb2
          go_wp2_with fail
          refine bodyPost_ret (results_tmp2 rfl _ _ _) rfl ⟨_, by rw [HJ3.out]; rfl, by rw [HJ3.out]; exact HE2.out, HB2.out⟩
        · rw [if_pos hq] at HJ2
          have hqn : (rowN out != 0) = true := by simpa using hq
          have HJ3 := Lib.hid HJ2
          generalize rowN out = q at *
          clear hq HR0 HG HG2 HJ2
          go_wp2_with fail
          refine HRW.out.mono ?_
          rintro x w2 ⟨rfl, hb2⟩
          have HB2 := Lib.hid (HBW.out.trans (hb2.mono HBW.out.size))
          clear hb2
          go_wp2_with fail
          refine bodyPost_ret (results_tmp2 rfl _ _ _) rfl ⟨_, by rw [HJ3.out]; rfl, by rw [HJ3.out]; exact ens_nil _, HB2.out⟩
  · have hj : joinN root d = ([], rowN root) := by unfold joinN; rw [if_pos h1]
    rw [hj]
    dsimp only
    have hq : (rowN root != 0) = true := by simpa using h1
    generalize rowN root = q at *
    clear h1 hj
    go_enter Try.func16, Try.ntmps16
    go_wp2_with fail
    refine HRO.out.mono ?_
    rintro x w1 ⟨rfl, hb1⟩
    have HB1 := Lib.hid hb1
    clear hb1
    go_wp2_with fail
    refine bodyPost_ret (results_tmp2 rfl _ _ _) rfl ⟨_, rfl, ens_nil _, HB1.out⟩
end Go.Proofs.Ytbkodaijigcebaa
