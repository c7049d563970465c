/- The document's try: the root and the leaves of a size. -/
import Derived.Test.YtbkodaijigcebaaUd
namespace Go.Proofs.Ytbkodaijigcebaa
open Go.RowKit
set_option maxRecDepth 20000
set_option linter.unusedVariables false
set_option linter.unusedSimpArgs false
theorem roots_snoc (ps : List (List En)) (k : Nat) (p : List En) (h : ps[k]? = some p) : rootsN 0 (ps.take (k + 1)) = rootsN 0 (ps.take k) ++ [⟨(gS p 0).id, (textsI (ps.take k)).length, (textI p).length, 0⟩] := by
  rw [List.take_add_one, h, Option.toList_some, rootsN_append, Nat.zero_add]
  rfl
theorem texts_snoc (ps : List (List En)) (k : Nat) (p : List En) (h : ps[k]? = some p) : textsI (ps.take (k + 1)) = textsI (ps.take k) ++ textI p := by
  rw [List.take_add_one, h, Option.toList_some, textsI_append]
  simp [textsI]
/-- The bytes of a row that has few entries. -/
theorem enc_few {p : List En} (hr : rowN p = 0) (hl : p.length ≤ 1000) : encB p = 0 ∧ encT p = str (textI p) ∧ sizD p = (textI p).length := by
  have h := (textI_bd p).2
  have h1 : encB p = 0 := by unfold encB; rw [if_pos hr, if_neg (by omega)]
  refine ⟨h1, ?_, ?_⟩
  · unfold encT; rw [if_pos h1]
  · unfold sizD; rw [if_pos hr]
theorem texts_take (ps : List (List En)) (k : Nat) : (textsI (ps.take k)).length ≤ (textsI ps).length := by
  have h := textsI_append (ps.take k) (ps.drop k)
  rw [List.take_append_drop] at h
  rw [h, List.length_append]
  omega
theorem ens_lit14 (w : World) (e : En) (T : TypeId) : EnsAt (w.alloc (.cells (eC e) T)) (.slice (some ⟨w.heap.size, 0, none⟩) 1 1) [e] := by
  refine ⟨_, 1, rfl, by simp, by unfold maxLen; omega, fun k t ht => ?_⟩
  cases k with
  | zero =>
    simp at ht
    subst ht
    obtain ⟨h0, h1, h2, h3⟩ := EAt.made w e T
    exact ⟨w.heap.size, 0, rfl, by simp, by simpa using h0, by simpa using h1, by simpa using h2, by simpa using h3⟩
  | succ k => simp at ht
set_option maxHeartbeats 4000000 in
theorem rtry_any (v : Value) (l : List En) (budget : Int) (N : Nat) (w : World) (hv : EnsAt w v l) (hm : MaysN l) (hr : rowN l = 0) (hll : leavesN l = []) (hl : l.length ≤ 150) (hN : 1 ≤ N ∧ N ≤ 100000) (hb : -9223372036854775808 ≤ budget ∧ budget ≤ 9223372036854775807) :
    Calls Try.prog 29 #[v, .int .i64 budget, .int .i64 N] w fun e w' => ∃ v', e = .returned (.tuple #[v', .string (str (textsI (cutN N l))), .bool (decide (sizD (rootsN 0 (cutN N l)) ≤ budget))]) ∧ EnsAt w' v' (rootsN 0 (cutN N l)) ∧ Below w.heap.size w w' := by
  have HC := Lib.hid (rcut_any v l N w hv (by omega) (by omega))
  have HZ : cutZ (N : Int) l = cutN N l := by unfold cutZ; rw [if_neg (by omega), Int.toNat_natCast]
  rw [HZ] at HC
  have hgood := cut_good N hN.1 hm hr hll
  have hlen := fun p hp => cut_mem N hN.1 l p hp
  have hfl := cut_flat N hN.1 l
  have hbd := textsI_bd (cutN N l)
  have hcl := cut_len N hN.1 l
  have hrow := roots_rowN N hN.1 hm hr (by omega)
  have hmay := roots_may (o := 0) (ps := cutN N l) (by rw [hfl]; exact hm) (fun p hp => (hlen p hp).1) (fun p hp => by
    have h1 := (textI_bd p).2
    have h2 : p.length ≤ l.length := by
      obtain ⟨P1, P2, he⟩ := List.append_of_mem hp
      rw [← hfl, he]
      simp
      omega
    omega) (by rw [hfl] at hbd; omega)
  have hpl : ∀ p ∈ cutN N l, p.length ≤ 150 := fun p hp => by
    obtain ⟨P1, P2, he⟩ := List.append_of_mem hp
    have : p.length ≤ l.length := by rw [← hfl, he]; simp; omega
    omega
  rw [hfl] at hbd
  generalize cutN N l = ps at *
  have HG := Lib.hid hgood
  have HL := Lib.hid hlen
  have HPL := Lib.hid hpl
  have HMY := Lib.hid hmay
  have hpn : ps.length ≤ 150 := by omega
  have htx : (textsI ps).length ≤ 7500 := by omega
  have HTT := Lib.hid (texts_take ps)
  clear hgood hlen hpl hmay hrow hfl hbd hcl hv hm HZ
  go_enter Try.func29, Try.ntmps29
  go_wp2_with fail
  refine HC.out.mono ?_
  rintro e w1 ⟨pv, rfl, hpc, hb1⟩
  have HPC := Lib.hid hpc
  have HB1 := Lib.hid hb1
  obtain ⟨ap, cp, rfl, hcp, hmp⟩ := hpc.form
  unfold maxLen at hmp
  clear hpc hb1 HC
  go_wp2_with fail
  go_loopw [9, 10, 12] (fun vo tx i wr => ∃ k : Nat, k ≤ ps.length ∧ i = .int .i64 k ∧ tx = .string (str (textsI (ps.take k))) ∧ Hid (OwnE wr w1.heap.size 58 vo (rootsN 0 (ps.take k))) ∧ Hid (Below w1.heap.size w1 wr)) (fun _ _ i _ => ps.length - (intOf i).toNat)
  case atStart => exact ⟨0, Nat.zero_le _, rfl, rfl, Lib.hid (ownE_nil _ _ _), Lib.hid (Below.refl _ _)⟩
  case round =>
    obtain ⟨k, hk, rfl, rfl, HO, HB⟩ := hrel
    by_cases hlt : k < ps.length
    · obtain ⟨p, hp⟩ : ∃ p, ps[k]? = some p := ⟨_, List.getElem?_eq_getElem hlt⟩
      have hmem := List.mem_of_getElem? hp
      obtain ⟨g1, g2, g3, g4⟩ := HG.out p hmem
      obtain ⟨e1, e2, e3⟩ := enc_few g2 (by have := HPL.out p hmem; omega)
      obtain ⟨g, off, cap, x, hvx, hg, c0, hx⟩ := HPC.out.at k p hp
      cases hvx
      have d0 := (HB.out.cell (p := ⟨g, off + k, none⟩) hg).trans c0
      have HX := Lib.hid (hx.below HB.out)
      have HEN := Lib.hid (fun X (hX : Below wr.heap.size wr X) => rencD_any x p X ((hx.below HB.out).below hX) g1 (by have := HPL.out p hmem; omega))
      rw [e1, e2] at HEN
      have HP := Lib.hid hp
      have hp0 : 0 < p.length := List.length_pos_iff.2 g4
      obtain ⟨gx, ox, cx, rfl, hcx, hgx, hcc⟩ := ens_at HX.out 0 hp0
      obtain ⟨x0, _, _, _⟩ := hcc 0 (gS p 0) (gS_get p 0 hp0)
      have hki : (k : Int) < (ps.length : Int) := by omega
      have hpi : (0 : Int) < (p.length : Int) := by omega
      have htb := (textI_bd p).2
      have hpb := HPL.out p hmem
      have htk := HTT.out k
      have HID := Lib.hid (g1 (gS p 0) (gS_mem p 0 hp0))
      clear c0 hx hp hmem g1 g2 g3 e1 e2 e3 hcc
      go_wp2_with fail
      refine (HEN.out _ (Below.refl _ _)).mono ?_
      rintro e w2 ⟨rfl, hb2⟩
      have hB2 := HB.out.trans (hb2.mono HB.out.size)
      have d2 := (hb2.cell (p := ⟨g, off + k, none⟩) (vcell_lt d0)).trans d0
      have x2 := (hb2.cell (p := ⟨gx, ox + 0 * 4, none⟩) (vcell_lt x0)).trans x0
      simp only [Nat.zero_mul, Nat.add_zero] at x2
      have HO2 := Lib.hid (HO.out.below hb2)
      have HB2 := Lib.hid hB2
      obtain ⟨T, hT⟩ : ∃ T, (textsI (ps.take k)).length = T := ⟨_, rfl⟩
      obtain ⟨q, hq⟩ : ∃ q, (textI p).length = q := ⟨_, rfl⟩
      have HRS := Lib.hid (roots_snoc ps k p HP.out)
      have HTS := Lib.hid (texts_snoc ps k p HP.out)
      have hs1 : (str (textsI (ps.take k))).size ≤ 7500 := by rw [str_size]; omega
      have hs2 : (str (textI p)).size ≤ 6010 := by rw [str_size]; omega
      have hw1 : IntKind.u64.wrap ((str (textsI (ps.take k))).size : Int) = (T : Int) := by rw [str_size, hT, IntKind.wrap_u64]; omega
      have hw2 : IntKind.u32.wrap ((str (textI p)).size : Int) = (q : Int) := by rw [str_size, hq, IntKind.wrap_u32]; omega
      have hcat : str (textsI (ps.take k)) ++ str (textI p) = str (textsI (ps.take (k + 1))) := by rw [HTS.out, str_append]
      rw [hT, hq] at HRS
      have HCAT := Lib.hid hcat
      have hba : Below w2.heap.size w2 (w2.alloc (.cells (eC ⟨(gS p 0).id, T, q, 0⟩) 58)) := (Below.refl _ _).alloc (Nat.le_refl _) _
      obtain ⟨v5, w5, hr5, ho5, hg5⟩ := enappend_run (w2.alloc (.cells (eC ⟨(gS p 0).id, T, q, 0⟩) 58)) w1.heap.size 22 58 22 _ Try.underlying22 infoRe rfl u9 (.slice (some ⟨w2.heap.size, 0, none⟩) 1 1) (rootsN 0 (ps.take k)) [⟨(gS p 0).id, T, q, 0⟩] (HO2.out.below hba) (ens_lit14 _ _ _) (by rw [rootsN_len, List.length_take]; simp; omega) (Nat.le_trans hB2.size hba.size)
      rw [← HRS.out] at ho5
      have HO5 := Lib.hid ho5
      have HB5 := Lib.hid ((hB2.trans (hba.mono hB2.size)).grown hg5 (Nat.le_trans hB2.size hba.size) (fun j hj => (HO2.out.lt j hj).1))
      unfold eC at hr5
      dsimp only at hr5
      clear ho5 hg5 hba hcat hT hq hb2 hB2 d0 x0 htb htk
      generalize str (textsI (ps.take k)) = st at *
      generalize str (textI p) = sp at *
      go_wp2_with (first | (at_builtin; refine Lib.wpList_append_run _ rfl _ _ _ _ rfl _ _ rfl rfl _ _ hr5 ?_) | fail)
      go_roundw
      case rel => exact ⟨k + 1, by omega, by go_num, by rw [HCAT.out], HO5, HB5⟩
      case measure => simp [intOf]; omega
    · obtain rfl : k = ps.length := by omega
      rw [List.take_length] at HO ⊢
      have HSZ := Lib.hid (rsizD_any u9 (rootsN 0 ps) wr HO.out.ensAt HMY.out (by rw [rootsN_len]; omega))
      obtain ⟨a9, c9, rfl⟩ := ensAt_form HO.out.ensAt
      go_wp2_with fail
      refine HSZ.out.mono ?_
      rintro e w3 ⟨rfl, hb3⟩
      have HE3 := Lib.hid (HO.out.ensAt.below hb3)
      have HB3 := Lib.hid (HB1.out.trans ((HB.out.trans (hb3.mono HB.out.size)).mono HB1.out.size))
      clear hb3
      go_wp2_with fail
      refine bodyPost_ret (results_tmp3 rfl _ _ _) rfl ⟨_, rfl, HE3.out, HB3.out⟩
end Go.Proofs.Ytbkodaijigcebaa
