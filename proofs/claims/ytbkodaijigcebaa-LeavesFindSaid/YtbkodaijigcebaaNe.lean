/- leaves' Join. -/
import Derived.Test.YtbkodaijigcebaaNd
import Derived.Test.YtbkodaijigcebaaUh
namespace Go.Proofs.Ytbkodaijigcebaa
open Go.RowKit
set_option maxRecDepth 20000
set_option linter.unusedVariables false
set_option linter.unusedSimpArgs false
theorem pinfoRe : (Try.prog.info? 52).map (fun i => (i.zero, i.size, i.bytes)) = some (some (.agg #[.int .u64 0, .int .u64 0, .int .u32 0, .int .u32 0]), 4, 24) := by kernel_rfl
theorem goJ_leaf (l : List En) (k : Nat) (e : En) (d : ByteArray) (out : List En) (h : l[k]? = some e) : goJ (l.drop k) d out = if (leafN e d).2 ≠ 0 then ([], (leafN e d).2) else goJ (l.drop (k + 1)) d (out ++ (leafN e d).1) := by
  rw [goJ_step l k e d out h]
  unfold leafN
  by_cases hr : 0 < e.rn
  · rw [if_pos hr, if_pos hr, if_neg (by simp)]
  · rw [if_neg hr, if_neg hr]
theorem leaf_len (e : En) (d : ByteArray) (hm : MayN e) : (leafN e d).1.length ≤ 4096 ∧ MaysN (leafN e d).1 := by
  unfold leafN
  split
  · exact ⟨by simp, fun x hx => by rw [List.mem_singleton] at hx; rw [hx]; exact hm⟩
  · exact piece_len e d
/-- The row as it is gathered: whole, or too long as the whole is. -/
def SameL (out L : List En) : Prop := out = L ∨ (4096 < out.length ∧ 4096 < L.length)
theorem same_row {out L : List En} (h : SameL out L) : rowN out = rowN L := by
  rcases h with rfl | ⟨h1, h2⟩
  · rfl
  · unfold rowN; rw [if_pos h1, if_pos h2]
theorem same_ok {out L : List En} (h : SameL out L) (h0 : rowN L = 0) : out = L := by
  rcases h with rfl | ⟨h1, h2⟩
  · rfl
  · unfold rowN at h0; rw [if_pos h2] at h0; cases h0
theorem same_app {out L m : List En} (h : SameL out L) (hl : out.length ≤ 4096) : SameL (out ++ m) (L ++ m) := by
  rcases h with rfl | ⟨h1, h2⟩
  · exact .inl rfl
  · omega
theorem same_not {out L m : List En} (h : SameL out L) (hl : ¬ out.length ≤ 4096) : SameL out (L ++ m) := by
  right
  rcases h with rfl | ⟨h1, h2⟩
  · exact ⟨by omega, by rw [List.length_append]; omega⟩
  · exact ⟨h1, by rw [List.length_append]; omega⟩
set_option maxHeartbeats 4000000 in
theorem join14_any (v : Value) (root : List En) (d : ByteArray) (w : World) (hv : EnsAt w v root) (hm : MaysN root) (hl : root.length ≤ 200) (hd : d.size ≤ 1000000) :
    Calls Try.prog 15 #[v, .string d] w (PieEnd (joinN root d) w) := by
  unfold PieEnd
  have HRO := Lib.hid (prow_any v root w hv hm)
  by_cases h1 : rowN root = 0
  · obtain ⟨J, hJ⟩ : ∃ J, joinN root d = J := ⟨_, rfl⟩
    rw [hJ]
    rw [joinN_eq h1] at hJ
    rw [h1] at HRO
    have HCK : Hid (∀ e ∈ root, ckN e = 0) := Lib.hid (fun e he => by
      have := (row_G h1).1
      exact (rowG_above _ root hm this e he).2)
    have HV := Lib.hid hv
    have HM := Lib.hid hm
    obtain ⟨av, cv, rfl⟩ := ensAt_form hv
    obtain ⟨R, hR⟩ : ∃ R, goJ root d [] = R := ⟨_, rfl⟩
    rw [hR] at hJ
    have HJ := Lib.hid hJ.symm
    have HR0 : Hid (R = goJ (root.drop 0) d []) := Lib.hid (by rw [List.drop_zero, hR])
    clear hv hm h1 hR hJ
    go_enter Try.func15, Try.ntmps15
    go_wp2_with fail
    refine HRO.out.mono ?_
    rintro x w1 ⟨rfl, hb1⟩
    have HB1 := Lib.hid hb1
    clear hb1
    go_wp2_with fail
    go_loopw [7, 20] (fun vo i wr => ∃ (k : Nat) (out L : List En), k ≤ root.length ∧ i = .int .i64 k ∧ out.length ≤ 8192 ∧ Hid (OwnE wr w.heap.size 52 vo out) ∧ Hid (MaysN out) ∧ Hid (SameL out L) ∧ Hid (R = goJ (root.drop k) d L) ∧ Hid (Below w.heap.size w wr)) (fun _ i _ => root.length - (intOf i).toNat)
    case atStart => exact ⟨0, [], [], Nat.zero_le _, rfl, by simp, Lib.hid (ownE_nil _ _ _), Lib.hid (fun e h => by simp at h), Lib.hid (.inl rfl), HR0, HB1⟩
    case round =>
      obtain ⟨k, out, L, hk, rfl, hol, HO, HMO, HSL, HG, HBW⟩ := hrel
      by_cases hlt : k < root.length
      · obtain ⟨e, he⟩ : ∃ e, root[k]? = some e := ⟨_, List.getElem?_eq_getElem hlt⟩
        have hme := HM.out e (List.mem_of_getElem? he)
        have hck := ck_ok e (HCK.out e (List.mem_of_getElem? he))
        obtain ⟨g, off, cap, hv2, hle, hg, hc⟩ := ens_at HV.out k hlt
        cases hv2
        obtain ⟨k0, k1, k2, k3⟩ := cells4 HBW.out (hc k e he)
        have HG2 := HG.out
        rw [goJ_leaf root k e d L he] at HG2
        have hki : (k : Int) < (root.length : Int) := by omega
        have hme2 := hme
        unfold MayN at hme2
        have HP := Lib.hid (fun X => leaf_any e d X hme (by omega) (by omega))
        have HPL := Lib.hid (leaf_len e d hme)
        have HBX : Hid (Below wr.heap.size wr (wr.alloc (.cells (eC e) 52))) := Lib.hid ((Below.refl _ _).alloc (Nat.le_refl _) _)
        unfold PieEnd at HP
        generalize leafN e d = P at *
        obtain ⟨m, z⟩ := P
        dsimp only at HP HG2 HPL
        unfold eC at HP HBX
        obtain ⟨av9, cv9, rfl⟩ := ensAt_form HO.out.ensAt
        by_cases hz : z = 0
        · rw [if_neg (by simpa using hz)] at HG2
          subst hz
          have HG3 := Lib.hid HG2
          clear HG2 HG hc he hme hck hme2 HR0
          go_wp2_with fail
          refine (HP.out _).mono ?_
          rintro x w2 ⟨v2, rfl, he2, hb2⟩
          have hb12 := HBX.out.trans (hb2.mono HBX.out.size)
          have hB2 := HBW.out.trans (hb12.mono HBW.out.size)
          obtain ⟨a2, c2, rfl⟩ := ensAt_form he2
          by_cases hcut : out.length ≤ 4096
          · obtain ⟨v5, w5, hr5, ho5, hg5⟩ := enappend_run w2 w.heap.size 24 52 24 _ Try.underlying24 pinfoRe rfl (.slice av9 out.length cv9) (.slice a2 m.length c2) out m (HO.out.below hb12) he2 (by have := HPL.out.1; omega) hB2.size
            have HO5 := Lib.hid ho5
            have HM5 := Lib.hid (mays_append HMO.out HPL.out.2)
            have HS5 := Lib.hid (same_app (m := m) HSL.out hcut)
            have HB5 := Lib.hid (hB2.grown hg5 hB2.size (fun j hj => (HO.out.lt j hj).1))
            have hlen : (out ++ m).length ≤ 8192 := by have := HPL.out.1; rw [List.length_append]; omega
            have hcz : (out.length : Int) ≤ 4096 := by omega
            clear ho5 hg5 he2 hb2 hB2 HP hb12
            go_wp2_with (first | (at_builtin; refine Lib.wpList_append_run _ rfl _ _ _ _ rfl _ _ rfl rfl _ _ hr5 ?_) | fail)
            go_roundw
            case rel => exact ⟨k + 1, _, _, by omega, by go_num, hlen, HO5, HM5, HS5, HG3, HB5⟩
            case measure => simp [intOf]; omega
          · have hcz : ¬ (out.length : Int) ≤ 4096 := by omega
            have HO5 := Lib.hid (HO.out.below hb12)
            have HS5 := Lib.hid (same_not (m := m) HSL.out hcut)
            have HB5 := Lib.hid hB2
            clear he2 hb2 hB2 HP hb12
            go_wp2_with fail
            go_roundw
            case rel => exact ⟨k + 1, _, _, by omega, by go_num, hol, HO5, HMO, HS5, HG3, HB5⟩
            case measure => simp [intOf]; omega
        · rw [if_pos hz] at HG2
          have hzn : (z != 0) = true := by simpa using hz
          have HRR : Hid (J = ([], z)) := Lib.hid (by rw [HJ.out, HG2]; dsimp only; rw [if_pos hz])
          clear HG2 HG hc he hme hck hme2 HR0 hz
          go_wp2_with fail
          refine (HP.out _).mono ?_
          rintro x w2 ⟨v2, rfl, he2, hb2⟩
          have hb12 := HBX.out.trans (hb2.mono HBX.out.size)
          have HB2 := Lib.hid (HBW.out.trans (hb12.mono HBW.out.size))
          obtain ⟨a2, c2, rfl⟩ := ensAt_form he2
          clear he2 hb2 HP hb12
          go_wp2_with fail
          refine bodyPost_ret (results_tmp2 rfl _ _ _) rfl ⟨_, by rw [HRR.out]; rfl, by rw [HRR.out]; exact ens_nil _, HB2.out⟩
      · obtain rfl : k = root.length := by omega
        have HG2 := HG.out
        rw [List.drop_length, goJ] at HG2
        have HJ2 := HJ.out
        rw [HG2] at HJ2
        dsimp only at HJ2
        rw [if_neg (by simp)] at HJ2
        have HRW := Lib.hid (prow_any u7 out wr HO.out.ensAt HMO.out)
        have HE := Lib.hid HO.out.ensAt
        obtain ⟨a7, c7, rfl⟩ := ensAt_form HO.out.ensAt
        rw [same_row HSL.out] at HRW
        by_cases hq : rowN L = 0
        · rw [if_neg (by simpa using hq)] at HJ2
          rw [hq] at HRW
          have hol2 := same_ok HSL.out hq
          subst hol2
          have HJ3 := Lib.hid HJ2
          clear hq HR0 HG HG2 HJ2
          go_wp2_with fail
          refine HRW.out.mono ?_
          rintro x w2 ⟨rfl, hb2⟩
          have HE2 := Lib.hid (HE.out.below hb2)
          have HB2 := Lib.hid (HBW.out.trans (hb2.mono HBW.out.size))
          clear hb2
          go_wp2_with fail
          refine bodyPost_ret (results_tmp2 rfl _ _ _) rfl ⟨_, by rw [HJ3.out]; rfl, by rw [HJ3.out]; exact HE2.out, HB2.out⟩
        · rw [if_pos hq] at HJ2
          have hqn : (rowN L != 0) = true := by simpa using hq
          have HJ3 := Lib.hid HJ2
          generalize rowN L = q at *
          clear hq HR0 HG HG2 HJ2
          go_wp2_with fail
          refine HRW.out.mono ?_
          rintro x w2 ⟨rfl, hb2⟩
          have HB2 := Lib.hid (HBW.out.trans (hb2.mono HBW.out.size))
          clear hb2
          go_wp2_with fail
          refine bodyPost_ret (results_tmp2 rfl _ _ _) rfl ⟨_, by rw [HJ3.out]; rfl, by rw [HJ3.out]; exact ens_nil _, HB2.out⟩
  · have hj : joinN root d = ([], rowN root) := by unfold joinN; rw [if_pos h1]
    rw [hj]
    dsimp only
    have hq : (rowN root != 0) = true := by simpa using h1
    generalize rowN root = q at *
    obtain ⟨av, cv, rfl⟩ := ensAt_form hv
    clear h1 hj hv
    go_enter Try.func15, Try.ntmps15
    go_wp2_with fail
    refine HRO.out.mono ?_
    rintro x w1 ⟨rfl, hb1⟩
    have HB1 := Lib.hid hb1
    clear hb1
    go_wp2_with fail
    refine bodyPost_ret (results_tmp2 rfl _ _ _) rfl ⟨_, rfl, ens_nil _, HB1.out⟩
end Go.Proofs.Ytbkodaijigcebaa
