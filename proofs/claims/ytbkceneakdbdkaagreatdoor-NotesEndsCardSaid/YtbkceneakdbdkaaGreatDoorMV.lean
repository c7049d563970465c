/- Several texts, one behind the other: Qd, Ra, Rb, Rc, Rd. -/
import Derived.Test.YtbkceneakdbdkaaGreatDoorMU
/- Own of an object; Own. -/
namespace Go.Proofs.YtbkceneakdbdkaaGreatDoor
open Go.RowKit
set_option maxRecDepth 20000
set_option linter.unusedVariables false
set_option linter.unusedSimpArgs false
set_option maxHeartbeats 4000000
theorem own_obj (n : Int) (s : ByteArray) (nv : Value) (names : List ByteArray) (kv : Value) (kids : Nl) (HK : ∀ i v, kids.at? i = some v → OwnOk v) : OwnOk (.mk 6 n s nv names kv kids) := by
  intro w hin hfit
  rw [Nt.In] at hin
  obtain ⟨_, ⟨n0, n1⟩, hs, ⟨na, ncap, rfl, nl, nm, hn⟩, a, cap, rfl, kl, km, hk⟩ := hin
  rw [Fit] at hfit
  obtain ⟨_, hlnm, ⟨_, hfew⟩, hnm, hfk⟩ := hfit
  have hln : names.length = kids.len := hlnm rfl
  have HK := Lib.hid HK
  have HN := Lib.hid hn
  have HI := Lib.hid hk
  have HF := Lib.hid hfk
  have HNM := Lib.hid hnm
  have HEW := Lib.hid hfew
  have HLN := Lib.hid hln
  have hT : toJ (.mk 6 n s (.slice na names.length ncap) names (.slice a kids.len cap) kids) = .obj (toL true names kids) := by
    rw [toJ, if_neg (by omega), if_neg (by omega), if_neg (by omega), if_neg (by omega), if_neg (by omega), if_neg (by omega), if_pos rfl]
  unfold OwnEnd
  rw [hT]
  show Calls _ _ #[.agg #[.int .u8 6, .int .i64 n, .string s, .slice na names.length ncap, .slice a kids.len cap]] _ _
  have hks : (kids.len : Int) ≤ 9223372036854775807 := by rw [maxL] at *; omega
  have HX := Lib.hid (BoxAt.made w 6 n s (.slice na names.length ncap) (.slice a kids.len cap) 25)
  clear hn hk hfk hT hnm hlnm hln
  go_enter Tryz.func8, Tryz.ntmps8
  go_wp2_with fail
  go_loopw [5, 6] (fun l z wr => ∃ (i : Nat) (t : Value) (vs : Its), i ≤ kids.len ∧ z = .int .i64 i ∧ l = t ∧ vs.length = i ∧ Hid (japp vs (toL true (names.drop i) (kids.drop i)) = toL true names kids) ∧ Hid (GrowG true (w.heap.size + 1) (fun b => w.heap.size + 1 ≤ b) vs t wr) ∧ BoxAt wr w.heap.size 6 n s (.slice na names.length ncap) (.slice a kids.len cap) ∧ Below w.heap.size w wr ∧ w.heap.size + 1 ≤ wr.heap.size) (fun _ z _ => kids.len - (intOf z).toNat)
  case atStart => exact ⟨0, _, [], Nat.zero_le _, rfl, rfl, rfl, Lib.hid (by rw [Nl.drop_zero]; rfl), Lib.hid (grow_nil _ _ _ _), HX.out, (Below.refl _ _).alloc (Nat.le_refl _) _, by simp⟩
  case round =>
    obtain ⟨i, t, vs, hi, rfl, ht, hvl, HJ, HG, hbx, hbw, hsz⟩ := hrel
    have ht := ht.symm
    subst ht
    by_cases hlt : i < kids.len
    · have hi2 : (i : Int) < (kids.len : Int) := by omega
      have hi3 : (i : Int) < (names.length : Int) := by have := HLN.out; omega
      obtain ⟨v, hv⟩ := Nl.lt_at kids i hlt
      obtain ⟨tn, htn⟩ : ∃ tn, names[i]? = some tn := ⟨_, List.getElem?_eq_getElem (by omega)⟩
      obtain ⟨⟨g, off, rfl, hg, hc⟩, hin⟩ := Nl.in_at kids 0 i v HI.out hv
      obtain ⟨gn, on, rfl, hgn, m0, _⟩ := HN.out i tn htn
      rw [Nat.zero_add] at hc
      replace m0 := (hbw.cell hgn).trans m0
      have hfv := FitL.at (w := w) kids i v HF.out hv
      have HC := Lib.hid (fun W (hb : Below w.heap.size w W) => HK.out i v hv W (hin.below hb) hfv)
      unfold OwnEnd at HC
      have HSZ := Lib.hid (show tn.size ≤ 5000 by have := HNM.out tn (List.mem_of_getElem? htn); omega)
      have HST := Lib.hid (show japp (vs ++ [(bI tn, toJ v)]) (toL true (names.drop (i + 1)) (kids.drop (i + 1))) = toL true names kids from by
        rw [japp_more, ← HJ.out, toL_step true _ kids i v hv, drop_step htn]; rfl)
      obtain ⟨J, hJ⟩ : ∃ J, toJ v = J := ⟨_, rfl⟩
      rw [hJ] at HC HST
      obtain ⟨k', n', s', nv', names', kv', kids'⟩ := v
      have e0 := (hbw.cell hg).trans (hc 0 (by omega))
      have e1 := (hbw.cell hg).trans (hc 1 (by omega))
      have e2 := (hbw.cell hg).trans (hc 2 (by omega))
      have e3 := (hbw.cell hg).trans (hc 3 (by omega))
      have e4 := (hbw.cell hg).trans (hc 4 (by omega))
      simp only [ntCells, Nat.add_zero, List.getElem?_cons_zero, List.getElem?_cons_succ] at e0 e1 e2 e3 e4
      unfold ntA ntCells at HC
      obtain ⟨b0, b1, b2, b3, b4⟩ := hbx
      have HS0 : wr.drew.cell? ⟨w.heap.size, 0, none⟩ = some (.int .u8 6) ∧ wr.drew.cell? ⟨w.heap.size, 1, none⟩ = some (.int .i64 n) ∧ wr.drew.cell? ⟨w.heap.size, 2, none⟩ = some (.string s) ∧ wr.drew.cell? ⟨w.heap.size, 3, none⟩ = some (.slice (some ⟨gn, on, none⟩) names.length ncap) ∧ wr.drew.cell? ⟨w.heap.size, 4, none⟩ = some (.slice (some ⟨g, off, none⟩) kids.len cap) ∧ wr.drew.cell? ⟨gn, on + i, none⟩ = some (.string tn) ∧ wr.drew.cell? ⟨g, off + i * 5, none⟩ = some (.int .u8 k') ∧ wr.drew.cell? ⟨g, off + i * 5 + 1, none⟩ = some (.int .i64 n') ∧ wr.drew.cell? ⟨g, off + i * 5 + 2, none⟩ = some (.string s') ∧ wr.drew.cell? ⟨g, off + i * 5 + 3, none⟩ = some (nv') ∧ wr.drew.cell? ⟨g, off + i * 5 + 4, none⟩ = some (kv') ∧ Below w.heap.size w wr.drew ∧ w.heap.size + 1 ≤ wr.drew.heap.size := ⟨b0, b1, b2, b3, b4, m0, e0, e1, e2, e3, e4, hbw.drew, hsz⟩
      have HGS := Lib.hid (grow_form HG.out)
      clear hc hv hJ hbw hfv hin htn m0 e0 e1 e2 e3 e4 hsz
      go_upto_region 23 with fail
      clear b0 b1 b2 b3 b4
      refine wp_region_held_drew (S := fun w' => w'.cell? ⟨w.heap.size, 0, none⟩ = some (.int .u8 6) ∧ w'.cell? ⟨w.heap.size, 1, none⟩ = some (.int .i64 n) ∧ w'.cell? ⟨w.heap.size, 2, none⟩ = some (.string s) ∧ w'.cell? ⟨w.heap.size, 3, none⟩ = some (.slice (some ⟨gn, on, none⟩) names.length ncap) ∧ w'.cell? ⟨w.heap.size, 4, none⟩ = some (.slice (some ⟨g, off, none⟩) kids.len cap) ∧ w'.cell? ⟨gn, on + i, none⟩ = some (.string tn) ∧ w'.cell? ⟨g, off + i * 5, none⟩ = some (.int .u8 k') ∧ w'.cell? ⟨g, off + i * 5 + 1, none⟩ = some (.int .i64 n') ∧ w'.cell? ⟨g, off + i * 5 + 2, none⟩ = some (.string s') ∧ w'.cell? ⟨g, off + i * 5 + 3, none⟩ = some (nv') ∧ w'.cell? ⟨g, off + i * 5 + 4, none⟩ = some (kv') ∧ Below w.heap.size w w' ∧ w.heap.size + 1 ≤ w'.heap.size) (by kernel_rfl) HS0 (fun hH0 => ?_)
      refine takeH (i := 0) (d := 57) (v := ?_) rfl rfl (by kernel_rfl) (by kernel_rfl) (by kernel_rfl) (fun _ _ _ h => h) (Or.inl ⟨by rfl, ?y0⟩) hH0 ?_
      case y0 => intro w hSw; obtain ⟨hq0, hq1, hq2, hq3, hq4, hq5, hq6, hq7, hq8, hq9, hq10, hq11, hq12⟩ := hSw; go_simp; try with_reducible rfl
      try simp only [Act.put, List.setIfInBounds_toArray, List.set_cons_zero, List.set_cons_succ]
      refine takeH (i := 1) (d := 58) (v := ?_) rfl rfl (by kernel_rfl) (by kernel_rfl) (by kernel_rfl) (fun _ _ _ h => h) (Or.inl ⟨by rfl, ?y1⟩) hH0 ?_
      case y1 => intro w hSw; obtain ⟨hq0, hq1, hq2, hq3, hq4, hq5, hq6, hq7, hq8, hq9, hq10, hq11, hq12⟩ := hSw; go_simp; try with_reducible rfl
      try simp only [Act.put, List.setIfInBounds_toArray, List.set_cons_zero, List.set_cons_succ]
      refine takeH (i := 2) (d := 59) (v := ?_) rfl rfl (by kernel_rfl) (by kernel_rfl) (by kernel_rfl) (fun _ _ _ h => h) (Or.inl ⟨by rfl, ?y2⟩) hH0 ?_
      case y2 => intro w hSw; obtain ⟨hq0, hq1, hq2, hq3, hq4, hq5, hq6, hq7, hq8, hq9, hq10, hq11, hq12⟩ := hSw; go_simp; try with_reducible rfl
      try simp only [Act.put, List.setIfInBounds_toArray, List.set_cons_zero, List.set_cons_succ]
      refine takeH (i := 3) (d := 60) (v := ?_) rfl rfl (by kernel_rfl) (by kernel_rfl) (by kernel_rfl) (fun _ _ _ h => h) (Or.inl ⟨by rfl, ?y3⟩) hH0 ?_
      case y3 => intro w hSw; obtain ⟨hq0, hq1, hq2, hq3, hq4, hq5, hq6, hq7, hq8, hq9, hq10, hq11, hq12⟩ := hSw; go_simp; try with_reducible rfl
      try simp only [Act.put, List.setIfInBounds_toArray, List.set_cons_zero, List.set_cons_succ]
      refine takeH (i := 4) (d := 61) (v := ?_) rfl rfl (by kernel_rfl) (by kernel_rfl) (by kernel_rfl) (fun _ _ _ h => h) (Or.inl ⟨by rfl, ?y4⟩) hH0 ?_
      case y4 => intro w hSw; obtain ⟨hq0, hq1, hq2, hq3, hq4, hq5, hq6, hq7, hq8, hq9, hq10, hq11, hq12⟩ := hSw; go_simp; try with_reducible rfl
      try simp only [Act.put, List.setIfInBounds_toArray, List.set_cons_zero, List.set_cons_succ]
      refine takeH (i := 5) (d := 62) (v := ?_) rfl rfl (by kernel_rfl) (by kernel_rfl) (by kernel_rfl) (fun _ _ _ h => h) (Or.inl ⟨by rfl, ?y5⟩) hH0 ?_
      case y5 => intro w hSw; obtain ⟨hq0, hq1, hq2, hq3, hq4, hq5, hq6, hq7, hq8, hq9, hq10, hq11, hq12⟩ := hSw; go_simp; try with_reducible rfl
      try simp only [Act.put, List.setIfInBounds_toArray, List.set_cons_zero, List.set_cons_succ]
      refine takeH (i := 6) (d := 63) (v := ?_) rfl rfl (by kernel_rfl) (by kernel_rfl) (by kernel_rfl) (fun _ _ _ h => h) (Or.inl ⟨by rfl, ?y6⟩) hH0 ?_
      case y6 => intro w hSw; obtain ⟨hq0, hq1, hq2, hq3, hq4, hq5, hq6, hq7, hq8, hq9, hq10, hq11, hq12⟩ := hSw; go_simp; try with_reducible rfl
      try simp only [Act.put, List.setIfInBounds_toArray, List.set_cons_zero, List.set_cons_succ]
      refine takeH (i := 7) (d := 64) (v := ?_) rfl rfl (by kernel_rfl) (by kernel_rfl) (by kernel_rfl) (fun _ _ _ h => h) (Or.inl ⟨by rfl, ?y7⟩) hH0 ?_
      case y7 => intro w hSw; obtain ⟨hq0, hq1, hq2, hq3, hq4, hq5, hq6, hq7, hq8, hq9, hq10, hq11, hq12⟩ := hSw; go_simp; try with_reducible rfl
      try simp only [Act.put, List.setIfInBounds_toArray, List.set_cons_zero, List.set_cons_succ]
      refine takeH (i := 8) (d := 65) (v := ?_) rfl rfl (by kernel_rfl) (by kernel_rfl) (by kernel_rfl) (fun _ _ _ h => h) (Or.inl ⟨by rfl, ?y8⟩) hH0 ?_
      case y8 => intro w hSw; obtain ⟨hq0, hq1, hq2, hq3, hq4, hq5, hq6, hq7, hq8, hq9, hq10, hq11, hq12⟩ := hSw; go_simp; try with_reducible rfl
      try simp only [Act.put, List.setIfInBounds_toArray, List.set_cons_zero, List.set_cons_succ]
      refine takeH (i := 9) (d := 66) (v := ?_) rfl rfl (by kernel_rfl) (by kernel_rfl) (by kernel_rfl) (fun _ _ _ h => h) (Or.inl ⟨by rfl, ?y9⟩) hH0 ?_
      case y9 => intro w hSw; obtain ⟨hq0, hq1, hq2, hq3, hq4, hq5, hq6, hq7, hq8, hq9, hq10, hq11, hq12⟩ := hSw; go_simp; try with_reducible rfl
      try simp only [Act.put, List.setIfInBounds_toArray, List.set_cons_zero, List.set_cons_succ]
      refine takeH (i := 10) (d := 67) (v := ?_) rfl rfl (by kernel_rfl) (by kernel_rfl) (by kernel_rfl) (fun _ _ _ h => h) (Or.inl ⟨by rfl, ?y10⟩) hH0 ?_
      case y10 => intro w hSw; obtain ⟨hq0, hq1, hq2, hq3, hq4, hq5, hq6, hq7, hq8, hq9, hq10, hq11, hq12⟩ := hSw; go_simp; try with_reducible rfl
      try simp only [Act.put, List.setIfInBounds_toArray, List.set_cons_zero, List.set_cons_succ]
      refine wpAnyH_ready (rs := [11]) (by kernel_rfl) (by simp) ?_
      refine AllReadyH.cons rfl (fun K hK => ?_) AllReadyH.nil
      go_simp
      refine (HC.out _ hH0.2.2.2.2.2.2.2.2.2.2.2.1).mono ?_
      rintro e w' ⟨⟨x, rfl, hx⟩, hb⟩
      go_wp2_with fail
      refine hK.out _ _ (⟨cell_kept hb hH0.1, cell_kept hb hH0.2.1, cell_kept hb hH0.2.2.1, cell_kept hb hH0.2.2.2.1, cell_kept hb hH0.2.2.2.2.1, cell_kept hb hH0.2.2.2.2.2.1, cell_kept hb hH0.2.2.2.2.2.2.1, cell_kept hb hH0.2.2.2.2.2.2.2.1, cell_kept hb hH0.2.2.2.2.2.2.2.2.1, cell_kept hb hH0.2.2.2.2.2.2.2.2.2.1, cell_kept hb hH0.2.2.2.2.2.2.2.2.2.2.1, hH0.2.2.2.2.2.2.2.2.2.2.2.1.trans (hb.mono hH0.2.2.2.2.2.2.2.2.2.2.2.1.size), Nat.le_trans hH0.2.2.2.2.2.2.2.2.2.2.2.2 hb.size⟩) (fun hH1 => ?_)
      have HH0 := Lib.hid hH0
      have HBC := Lib.hid hb
      clear hK K hb hH0
      try simp only [Act.put, List.setIfInBounds_toArray, List.set_cons_zero, List.set_cons_succ]
      have HXX := Lib.hid hx
      clear hx
      have HG1 := Lib.hid (grow_below HG.out ((Below.drew (Below.refl wr.heap.size wr)).trans HBC.out))
      rcases any_form HXX.out with rfl | ⟨tx, yx, rfl⟩
      · skip
        refine takeH (i := 12) (d := 69) (v := ?_) rfl rfl (by kernel_rfl) (by kernel_rfl) (by kernel_rfl) (fun _ _ _ h => h) (Or.inl ⟨by rfl, ?y12⟩) hH1 ?_
        case y12 => intro w hSw; obtain ⟨hq0, hq1, hq2, hq3, hq4, hq5, hq6, hq7, hq8, hq9, hq10, hq11, hq12⟩ := hSw; go_simp; try with_reducible rfl
        try simp only [Act.put, List.setIfInBounds_toArray, List.set_cons_zero, List.set_cons_succ]
        have hx := HXX.out
        have hHX := Lib.hid hH1
        have hS1 := hH1.2.2.2.2.2.2.2.2.2.2.2.1
        have hSz := hH1.2.2.2.2.2.2.2.2.2.2.2.2
        have htl := grow_lt HG1.out
        have hdz : wr.drew.heap.size = wr.heap.size := rfl
        obtain ⟨l2, w2, hr, hgr2, hgr, hown⟩ := grow_more (p := (bI tn, J)) (cs := [.string tn, .nilIface]) 58 HG1.out (by omega) hSz ⟨_, hx.mono (fun b hb => ⟨by have := HH0.out.2.2.2.2.2.2.2.2.2.2.2.2; simp only [World.drew] at hb; omega, fun e => by have := (grow_lt HG.out b e).2; simp only [World.drew] at hb; omega⟩), by simp only [if_true]; exact ⟨tn, rfl, rfl, by rw [bI_len]; exact HSZ.out⟩⟩
        have hr : (Builtin.append_ #[58, 58] 58 #[t, .slice (some ⟨w'.heap.size, 0, none⟩) 1 1]).run Tryz.prog (w'.alloc (.cells #[.string tn, .nilIface] 56)) = .ok l2 w2 := hr
        have hsa : (w'.alloc (.cells [.string tn, .nilIface].toArray (tyI true))).heap.size = w'.heap.size + 1 := by simp
        have hk2 : ∀ b, b ≤ w.heap.size → w2.heap[b]? = w'.heap[b]? := fun b hb => (hgr.block b (by omega) (fun e => by have := (htl b e.symm).1; omega)).trans (heap_old17 (by omega))
        have hsz2 : w.heap.size + 1 ≤ w2.heap.size := by have := hgr.size; omega
        have hbw2 : Below w.heap.size w w2 := (hS1.alloc (by omega) _).grown hgr (by omega) (fun b e => by have := (htl b e).1; omega)
        have hS2 : w2.cell? ⟨w.heap.size, 0, none⟩ = some (.int .u8 6) ∧ w2.cell? ⟨w.heap.size, 1, none⟩ = some (.int .i64 n) ∧ w2.cell? ⟨w.heap.size, 2, none⟩ = some (.string s) ∧ w2.cell? ⟨w.heap.size, 3, none⟩ = some (.slice (some ⟨gn, on, none⟩) names.length ncap) ∧ w2.cell? ⟨w.heap.size, 4, none⟩ = some (.slice (some ⟨g, off, none⟩) kids.len cap) ∧ w2.cell? ⟨gn, on + i, none⟩ = some (.string tn) ∧ w2.cell? ⟨g, off + i * 5, none⟩ = some (.int .u8 k') ∧ w2.cell? ⟨g, off + i * 5 + 1, none⟩ = some (.int .i64 n') ∧ w2.cell? ⟨g, off + i * 5 + 2, none⟩ = some (.string s') ∧ w2.cell? ⟨g, off + i * 5 + 3, none⟩ = some (nv') ∧ w2.cell? ⟨g, off + i * 5 + 4, none⟩ = some (kv') ∧ Below w.heap.size w w2 ∧ w.heap.size + 1 ≤ w2.heap.size := ⟨(World.cell?_of_block (a := ⟨w.heap.size, 0, none⟩) (hk2 _ (by first | exact Nat.le_refl _ | exact Nat.le_of_lt hg | exact Nat.le_of_lt hgn))).trans hH1.1, (World.cell?_of_block (a := ⟨w.heap.size, 1, none⟩) (hk2 _ (by first | exact Nat.le_refl _ | exact Nat.le_of_lt hg | exact Nat.le_of_lt hgn))).trans hH1.2.1, (World.cell?_of_block (a := ⟨w.heap.size, 2, none⟩) (hk2 _ (by first | exact Nat.le_refl _ | exact Nat.le_of_lt hg | exact Nat.le_of_lt hgn))).trans hH1.2.2.1, (World.cell?_of_block (a := ⟨w.heap.size, 3, none⟩) (hk2 _ (by first | exact Nat.le_refl _ | exact Nat.le_of_lt hg | exact Nat.le_of_lt hgn))).trans hH1.2.2.2.1, (World.cell?_of_block (a := ⟨w.heap.size, 4, none⟩) (hk2 _ (by first | exact Nat.le_refl _ | exact Nat.le_of_lt hg | exact Nat.le_of_lt hgn))).trans hH1.2.2.2.2.1, (World.cell?_of_block (a := ⟨gn, on + i, none⟩) (hk2 _ (by first | exact Nat.le_refl _ | exact Nat.le_of_lt hg | exact Nat.le_of_lt hgn))).trans hH1.2.2.2.2.2.1, (World.cell?_of_block (a := ⟨g, off + i * 5, none⟩) (hk2 _ (by first | exact Nat.le_refl _ | exact Nat.le_of_lt hg | exact Nat.le_of_lt hgn))).trans hH1.2.2.2.2.2.2.1, (World.cell?_of_block (a := ⟨g, off + i * 5 + 1, none⟩) (hk2 _ (by first | exact Nat.le_refl _ | exact Nat.le_of_lt hg | exact Nat.le_of_lt hgn))).trans hH1.2.2.2.2.2.2.2.1, (World.cell?_of_block (a := ⟨g, off + i * 5 + 2, none⟩) (hk2 _ (by first | exact Nat.le_refl _ | exact Nat.le_of_lt hg | exact Nat.le_of_lt hgn))).trans hH1.2.2.2.2.2.2.2.2.1, (World.cell?_of_block (a := ⟨g, off + i * 5 + 3, none⟩) (hk2 _ (by first | exact Nat.le_refl _ | exact Nat.le_of_lt hg | exact Nat.le_of_lt hgn))).trans hH1.2.2.2.2.2.2.2.2.2.1, (World.cell?_of_block (a := ⟨g, off + i * 5 + 4, none⟩) (hk2 _ (by first | exact Nat.le_refl _ | exact Nat.le_of_lt hg | exact Nat.le_of_lt hgn))).trans hH1.2.2.2.2.2.2.2.2.2.2.1, hbw2, hsz2⟩
        have HG2 := Lib.hid hgr2
        refine wpAnyH_ready (rs := [13]) (by kernel_rfl) (by simp) ?_
        refine AllReadyH.cons rfl (fun K hK => ?_) AllReadyH.nil
        go_simp
        refine hK.out _ _ (⟨cell_kept ((Below.refl w'.heap.size w').alloc (Nat.le_refl _) _) hHX.out.1, cell_kept ((Below.refl w'.heap.size w').alloc (Nat.le_refl _) _) hHX.out.2.1, cell_kept ((Below.refl w'.heap.size w').alloc (Nat.le_refl _) _) hHX.out.2.2.1, cell_kept ((Below.refl w'.heap.size w').alloc (Nat.le_refl _) _) hHX.out.2.2.2.1, cell_kept ((Below.refl w'.heap.size w').alloc (Nat.le_refl _) _) hHX.out.2.2.2.2.1, cell_kept ((Below.refl w'.heap.size w').alloc (Nat.le_refl _) _) hHX.out.2.2.2.2.2.1, cell_kept ((Below.refl w'.heap.size w').alloc (Nat.le_refl _) _) hHX.out.2.2.2.2.2.2.1, cell_kept ((Below.refl w'.heap.size w').alloc (Nat.le_refl _) _) hHX.out.2.2.2.2.2.2.2.1, cell_kept ((Below.refl w'.heap.size w').alloc (Nat.le_refl _) _) hHX.out.2.2.2.2.2.2.2.2.1, cell_kept ((Below.refl w'.heap.size w').alloc (Nat.le_refl _) _) hHX.out.2.2.2.2.2.2.2.2.2.1, cell_kept ((Below.refl w'.heap.size w').alloc (Nat.le_refl _) _) hHX.out.2.2.2.2.2.2.2.2.2.2.1, hHX.out.2.2.2.2.2.2.2.2.2.2.2.1.trans (((Below.refl w'.heap.size w').alloc (Nat.le_refl _) _).mono hHX.out.2.2.2.2.2.2.2.2.2.2.2.1.size), Nat.le_trans hHX.out.2.2.2.2.2.2.2.2.2.2.2.2 ((Below.refl w'.heap.size w').alloc (Nat.le_refl _) _).size⟩) (fun hH2 => ?_)
        try simp only [Act.put, List.setIfInBounds_toArray, List.set_cons_zero, List.set_cons_succ]
        refine wpAnyH_ready (rs := [14]) (by kernel_rfl) (by simp) ?_
        refine AllReadyH.cons rfl (fun K hK => ?_) AllReadyH.nil
        refine Lib.wp_append_run _ _ _ _ _ rfl _ _ rfl rfl _ _ hr ?_
        refine hK.out _ _ hS2 (fun hH3 => ?_)
        try simp only [Act.put, List.setIfInBounds_toArray, List.set_cons_zero, List.set_cons_succ]
        refine takeH (i := 15) (d := 5) (v := ?_) rfl rfl (by kernel_rfl) (by kernel_rfl) (by kernel_rfl) (fun _ _ _ h => h) (Or.inl ⟨by rfl, ?yz⟩) hH3 ?_
        case yz => intro w hSw; go_simp; try with_reducible rfl
        try simp only [Act.put, List.setIfInBounds_toArray, List.set_cons_zero, List.set_cons_succ]
        refine wpAnyH_done (by kernel_rfl) ?_ _
        have HH3 := Lib.hid hH3
        clear hH1 hH2 hH3 hS2 hbw2 hk2 hgr hgr2 hr hS1 hx htl
        go_wp2_with fail
        go_roundw
        case rel => exact ⟨i + 1, _, vs ++ [(bI tn, J)], by omega, by go_num, rfl, by rw [List.length_append, hvl]; rfl, HST, HG2, ⟨HH3.out.1, HH3.out.2.1, HH3.out.2.2.1, HH3.out.2.2.2.1, HH3.out.2.2.2.2.1⟩, HH3.out.2.2.2.2.2.2.2.2.2.2.2.1, HH3.out.2.2.2.2.2.2.2.2.2.2.2.2⟩
        case measure => simp [intOf]; omega
      · skip
        refine takeH (i := 12) (d := 69) (v := ?_) rfl rfl (by kernel_rfl) (by kernel_rfl) (by kernel_rfl) (fun _ _ _ h => h) (Or.inl ⟨by rfl, ?y12⟩) hH1 ?_
        case y12 => intro w hSw; obtain ⟨hq0, hq1, hq2, hq3, hq4, hq5, hq6, hq7, hq8, hq9, hq10, hq11, hq12⟩ := hSw; go_simp; try with_reducible rfl
        try simp only [Act.put, List.setIfInBounds_toArray, List.set_cons_zero, List.set_cons_succ]
        have hx := HXX.out
        have hHX := Lib.hid hH1
        have hS1 := hH1.2.2.2.2.2.2.2.2.2.2.2.1
        have hSz := hH1.2.2.2.2.2.2.2.2.2.2.2.2
        have htl := grow_lt HG1.out
        have hdz : wr.drew.heap.size = wr.heap.size := rfl
        obtain ⟨l2, w2, hr, hgr2, hgr, hown⟩ := grow_more (p := (bI tn, J)) (cs := [.string tn, .iface tx yx]) 58 HG1.out (by omega) hSz ⟨_, hx.mono (fun b hb => ⟨by have := HH0.out.2.2.2.2.2.2.2.2.2.2.2.2; simp only [World.drew] at hb; omega, fun e => by have := (grow_lt HG.out b e).2; simp only [World.drew] at hb; omega⟩), by simp only [if_true]; exact ⟨tn, rfl, rfl, by rw [bI_len]; exact HSZ.out⟩⟩
        have hr : (Builtin.append_ #[58, 58] 58 #[t, .slice (some ⟨w'.heap.size, 0, none⟩) 1 1]).run Tryz.prog (w'.alloc (.cells #[.string tn, .iface tx yx] 56)) = .ok l2 w2 := hr
        have hsa : (w'.alloc (.cells [.string tn, .iface tx yx].toArray (tyI true))).heap.size = w'.heap.size + 1 := by simp
        have hk2 : ∀ b, b ≤ w.heap.size → w2.heap[b]? = w'.heap[b]? := fun b hb => (hgr.block b (by omega) (fun e => by have := (htl b e.symm).1; omega)).trans (heap_old17 (by omega))
        have hsz2 : w.heap.size + 1 ≤ w2.heap.size := by have := hgr.size; omega
        have hbw2 : Below w.heap.size w w2 := (hS1.alloc (by omega) _).grown hgr (by omega) (fun b e => by have := (htl b e).1; omega)
        have hS2 : w2.cell? ⟨w.heap.size, 0, none⟩ = some (.int .u8 6) ∧ w2.cell? ⟨w.heap.size, 1, none⟩ = some (.int .i64 n) ∧ w2.cell? ⟨w.heap.size, 2, none⟩ = some (.string s) ∧ w2.cell? ⟨w.heap.size, 3, none⟩ = some (.slice (some ⟨gn, on, none⟩) names.length ncap) ∧ w2.cell? ⟨w.heap.size, 4, none⟩ = some (.slice (some ⟨g, off, none⟩) kids.len cap) ∧ w2.cell? ⟨gn, on + i, none⟩ = some (.string tn) ∧ w2.cell? ⟨g, off + i * 5, none⟩ = some (.int .u8 k') ∧ w2.cell? ⟨g, off + i * 5 + 1, none⟩ = some (.int .i64 n') ∧ w2.cell? ⟨g, off + i * 5 + 2, none⟩ = some (.string s') ∧ w2.cell? ⟨g, off + i * 5 + 3, none⟩ = some (nv') ∧ w2.cell? ⟨g, off + i * 5 + 4, none⟩ = some (kv') ∧ Below w.heap.size w w2 ∧ w.heap.size + 1 ≤ w2.heap.size := ⟨(World.cell?_of_block (a := ⟨w.heap.size, 0, none⟩) (hk2 _ (by first | exact Nat.le_refl _ | exact Nat.le_of_lt hg | exact Nat.le_of_lt hgn))).trans hH1.1, (World.cell?_of_block (a := ⟨w.heap.size, 1, none⟩) (hk2 _ (by first | exact Nat.le_refl _ | exact Nat.le_of_lt hg | exact Nat.le_of_lt hgn))).trans hH1.2.1, (World.cell?_of_block (a := ⟨w.heap.size, 2, none⟩) (hk2 _ (by first | exact Nat.le_refl _ | exact Nat.le_of_lt hg | exact Nat.le_of_lt hgn))).trans hH1.2.2.1, (World.cell?_of_block (a := ⟨w.heap.size, 3, none⟩) (hk2 _ (by first | exact Nat.le_refl _ | exact Nat.le_of_lt hg | exact Nat.le_of_lt hgn))).trans hH1.2.2.2.1, (World.cell?_of_block (a := ⟨w.heap.size, 4, none⟩) (hk2 _ (by first | exact Nat.le_refl _ | exact Nat.le_of_lt hg | exact Nat.le_of_lt hgn))).trans hH1.2.2.2.2.1, (World.cell?_of_block (a := ⟨gn, on + i, none⟩) (hk2 _ (by first | exact Nat.le_refl _ | exact Nat.le_of_lt hg | exact Nat.le_of_lt hgn))).trans hH1.2.2.2.2.2.1, (World.cell?_of_block (a := ⟨g, off + i * 5, none⟩) (hk2 _ (by first | exact Nat.le_refl _ | exact Nat.le_of_lt hg | exact Nat.le_of_lt hgn))).trans hH1.2.2.2.2.2.2.1, (World.cell?_of_block (a := ⟨g, off + i * 5 + 1, none⟩) (hk2 _ (by first | exact Nat.le_refl _ | exact Nat.le_of_lt hg | exact Nat.le_of_lt hgn))).trans hH1.2.2.2.2.2.2.2.1, (World.cell?_of_block (a := ⟨g, off + i * 5 + 2, none⟩) (hk2 _ (by first | exact Nat.le_refl _ | exact Nat.le_of_lt hg | exact Nat.le_of_lt hgn))).trans hH1.2.2.2.2.2.2.2.2.1, (World.cell?_of_block (a := ⟨g, off + i * 5 + 3, none⟩) (hk2 _ (by first | exact Nat.le_refl _ | exact Nat.le_of_lt hg | exact Nat.le_of_lt hgn))).trans hH1.2.2.2.2.2.2.2.2.2.1, (World.cell?_of_block (a := ⟨g, off + i * 5 + 4, none⟩) (hk2 _ (by first | exact Nat.le_refl _ | exact Nat.le_of_lt hg | exact Nat.le_of_lt hgn))).trans hH1.2.2.2.2.2.2.2.2.2.2.1, hbw2, hsz2⟩
        have HG2 := Lib.hid hgr2
        refine wpAnyH_ready (rs := [13]) (by kernel_rfl) (by simp) ?_
        refine AllReadyH.cons rfl (fun K hK => ?_) AllReadyH.nil
        go_simp
        refine hK.out _ _ (⟨cell_kept ((Below.refl w'.heap.size w').alloc (Nat.le_refl _) _) hHX.out.1, cell_kept ((Below.refl w'.heap.size w').alloc (Nat.le_refl _) _) hHX.out.2.1, cell_kept ((Below.refl w'.heap.size w').alloc (Nat.le_refl _) _) hHX.out.2.2.1, cell_kept ((Below.refl w'.heap.size w').alloc (Nat.le_refl _) _) hHX.out.2.2.2.1, cell_kept ((Below.refl w'.heap.size w').alloc (Nat.le_refl _) _) hHX.out.2.2.2.2.1, cell_kept ((Below.refl w'.heap.size w').alloc (Nat.le_refl _) _) hHX.out.2.2.2.2.2.1, cell_kept ((Below.refl w'.heap.size w').alloc (Nat.le_refl _) _) hHX.out.2.2.2.2.2.2.1, cell_kept ((Below.refl w'.heap.size w').alloc (Nat.le_refl _) _) hHX.out.2.2.2.2.2.2.2.1, cell_kept ((Below.refl w'.heap.size w').alloc (Nat.le_refl _) _) hHX.out.2.2.2.2.2.2.2.2.1, cell_kept ((Below.refl w'.heap.size w').alloc (Nat.le_refl _) _) hHX.out.2.2.2.2.2.2.2.2.2.1, cell_kept ((Below.refl w'.heap.size w').alloc (Nat.le_refl _) _) hHX.out.2.2.2.2.2.2.2.2.2.2.1, hHX.out.2.2.2.2.2.2.2.2.2.2.2.1.trans (((Below.refl w'.heap.size w').alloc (Nat.le_refl _) _).mono hHX.out.2.2.2.2.2.2.2.2.2.2.2.1.size), Nat.le_trans hHX.out.2.2.2.2.2.2.2.2.2.2.2.2 ((Below.refl w'.heap.size w').alloc (Nat.le_refl _) _).size⟩) (fun hH2 => ?_)
        try simp only [Act.put, List.setIfInBounds_toArray, List.set_cons_zero, List.set_cons_succ]
        refine wpAnyH_ready (rs := [14]) (by kernel_rfl) (by simp) ?_
        refine AllReadyH.cons rfl (fun K hK => ?_) AllReadyH.nil
        refine Lib.wp_append_run _ _ _ _ _ rfl _ _ rfl rfl _ _ hr ?_
        refine hK.out _ _ hS2 (fun hH3 => ?_)
        try simp only [Act.put, List.setIfInBounds_toArray, List.set_cons_zero, List.set_cons_succ]
        refine takeH (i := 15) (d := 5) (v := ?_) rfl rfl (by kernel_rfl) (by kernel_rfl) (by kernel_rfl) (fun _ _ _ h => h) (Or.inl ⟨by rfl, ?yz⟩) hH3 ?_
        case yz => intro w hSw; go_simp; try with_reducible rfl
        try simp only [Act.put, List.setIfInBounds_toArray, List.set_cons_zero, List.set_cons_succ]
        refine wpAnyH_done (by kernel_rfl) ?_ _
        have HH3 := Lib.hid hH3
        clear hH1 hH2 hH3 hS2 hbw2 hk2 hgr hgr2 hr hS1 hx htl
        go_wp2_with fail
        go_roundw
        case rel => exact ⟨i + 1, _, vs ++ [(bI tn, J)], by omega, by go_num, rfl, by rw [List.length_append, hvl]; rfl, HST, HG2, ⟨HH3.out.1, HH3.out.2.1, HH3.out.2.2.1, HH3.out.2.2.2.1, HH3.out.2.2.2.2.1⟩, HH3.out.2.2.2.2.2.2.2.2.2.2.2.1, HH3.out.2.2.2.2.2.2.2.2.2.2.2.2⟩
        case measure => simp [intOf]; omega
    · obtain rfl : i = kids.len := by omega
      obtain ⟨b0, b1, b2, b3, b4⟩ := hbx
      have HBW := Lib.hid hbw
      have hj := HJ.out
      rw [Nl.drop_len, toL] at hj
      have HA := Lib.hid ((grow_rowP HG.out (fun b h _ _ => h)).mono (S' := fun b => w.heap.size ≤ b) (fun b h => by omega))
      rw [hj] at HA
      clear hbw hj
      go_wp2_with fail
      go_ret
      exact ⟨⟨_, rfl, HA.out⟩, HBW.out⟩
mutual
theorem own_any : ∀ v : Nt, OwnOk v
  | .mk k n s nv names kv kids => by
    by_cases h5 : k = 5
    · subst h5; exact own_list n s nv names kv kids (own_kids kids)
    by_cases h6 : k = 6
    · subst h6; exact own_obj n s nv names kv kids (own_kids kids)
    exact own_flat k n s nv names kv kids h5 h6
theorem own_kids : ∀ (l : Nl) (i : Nat) (v : Nt), l.at? i = some v → OwnOk v
  | .nil, _, _, h => by cases h
  | .cons h t, 0, v, e => by
    obtain rfl : h = v := by simpa [Nl.at?] using e
    exact own_any h
  | .cons h t, i + 1, v, e => own_kids t i v e
end
end Go.Proofs.YtbkceneakdbdkaaGreatDoor
/- A value in which one cell is turned for what reads the same; sizes; slices.Clone. -/
namespace Go.Proofs.YtbkceneakdbdkaaGreatDoor
open Go.RowKit
set_option maxRecDepth 20000
set_option linter.unusedVariables false
set_option linter.unusedSimpArgs false
set_option maxHeartbeats 4000000
mutual
/-- How many parts. -/
def szV : Js → Nat
  | .arr l => 1 + szL l
  | .obj l => 1 + szL l
  | .nul => 1
  | .bool _ => 1
  | .num _ => 1
  | .str _ => 1
  | .bad => 1
def szL : Jl → Nat
  | .nil => 0
  | .cons _ v l => szV v + szL l
end
theorem szV_pos (v : Js) : 1 ≤ szV v := by cases v <;> rw [szV] <;> omega
theorem szL_drop (l : Jl) (i : Nat) (n : List Int) (v : Js) (h : l.at? i = some (n, v)) : szL (l.drop i) = szV v + szL (l.drop (i + 1)) := by
  rw [Jl.drop_at l i n v h, szL]
mutual
theorem sz_light (left : Int) : ∀ v : Nt, 0 ≤ wgV left v → (szV (toJ v) : Int) ≤ left - wgV left v
  | .mk k n s nv names kv kids, h => by
    have h' := wg_of h
    rw [wgV] at h ⊢
    by_cases h1 : left < 1 ∨ 300 < s.size ∨ (k = 6 ∧ names.length ≠ kids.len) ∨ n < -4611686018427387904
    · rw [if_pos h1] at h; omega
    rw [if_neg h1] at h ⊢
    by_cases h2 : ∃ x ∈ names, 300 < x.size
    · rw [if_pos h2] at h; omega
    rw [if_neg h2] at h ⊢
    have hk := fun ob nm => szL_light (left - 1) ob kids nm h
    have hle := (wgL_le (left - 1) (by omega) kids).2
    rw [toJ]
    split
    · rw [szV]; omega
    split
    · rw [szV]; omega
    split
    · rw [szV]; omega
    split
    · rw [szV]; omega
    split
    · rw [szV]; omega
    split
    · rw [szV]; have := hk false []; omega
    split
    · rw [szV]; have := hk true names; omega
    · rw [szV]; omega
theorem szL_light (left : Int) (ob : Bool) : ∀ (l : Nl) (nm : List ByteArray), 0 ≤ wgL left l → (szL (toL ob nm l) : Int) ≤ left - wgL left l
  | .nil, nm, h => by rw [wgL, toL, szL]; simp
  | .cons v t, nm, h => by
    rw [wgL] at h ⊢
    by_cases h1 : wgV left v < 0
    · rw [if_pos h1] at h; omega
    rw [if_neg h1] at h ⊢
    rw [toL, szL]
    have a1 := sz_light left v (by omega)
    have a2 := szL_light (wgV left v) ob t nm.tail h
    omega
end
/-- One cell holds y' for y, which reads the same; the rest that a value of S leads to stands. -/
structure Turn (S S' : Nat → Prop) (W W' : World) (p : Addr) (y y' : Value) : Prop where
  size : W.heap.size ≤ W'.heap.size
  old : W.cell? p = some y
  keep : ∀ b off u, S b → b < W.heap.size → (⟨b, off, none⟩ : Addr) ≠ p → W.cell? ⟨b, off, none⟩ = some u → W'.cell? ⟨b, off, none⟩ = some u
  new : W'.cell? p = some y'
  hS : ∀ b, S b → b < W.heap.size → S' b
  copy : y' = y ∨ (∃ a n c a' c', y = .iface 57 (.slice a n c) ∧ y' = .iface 57 (.slice a' n c') ∧ n ≤ c' ∧ c' ≤ maxLen ∧ ∀ i g off e, i < n → a = some ⟨g, off, none⟩ → W.cell? ⟨g, off + i, none⟩ = some e → ∃ g', a' = some ⟨g', 0, none⟩ ∧ S' g' ∧ g' < W'.heap.size ∧ W'.cell? ⟨g', i, none⟩ = some e)
    ∨ ∃ a n c a' c', y = .iface 58 (.slice a n c) ∧ y' = .iface 58 (.slice a' n c') ∧ n ≤ c' ∧ c' ≤ maxLen ∧ ∀ i g off t e, i < n → a = some ⟨g, off, none⟩ → W.cell? ⟨g, off + i * 2, none⟩ = some t → W.cell? ⟨g, off + i * 2 + 1, none⟩ = some e → ∃ g', a' = some ⟨g', 0, none⟩ ∧ S' g' ∧ g' < W'.heap.size ∧ W'.cell? ⟨g', i * 2, none⟩ = some t ∧ W'.cell? ⟨g', i * 2 + 1, none⟩ = some e
theorem any_pos {S : Nat → Prop} {w : World} {K : Js} {x : Value} (h : AnyAt S w K x) (hl : ∀ l, K ≠ .arr l) (ho : ∀ l, K ≠ .obj l) (S' : Nat → Prop) (w' : World) : AnyAt S' w' K x := by
  cases K <;> rw [AnyAt] at h ⊢ <;> first | exact h | exact absurd rfl (hl _) | exact absurd rfl (ho _)
theorem turn_any {S S' : Nat → Prop} {W W' : World} {p : Addr} {y y' : Value} (T : Turn S S' W W' p y y') : ∀ K : Js, (∀ x, AnyAt S W K x → AnyAt S' W' K x) ∧ (AnyAt S W K y → AnyAt S' W' K y') := by
  have flat : ∀ K : Js, (∀ l, K ≠ .arr l) → (∀ l, K ≠ .obj l) → (∀ x, AnyAt S W K x → AnyAt S' W' K x) ∧ (AnyAt S W K y → AnyAt S' W' K y') := fun K h1 h2 => by
    refine ⟨fun x hx => any_pos hx h1 h2 _ _, fun hy => ?_⟩
    rcases T.copy with h | ⟨a, n, c, a', c', h, _⟩ | ⟨a, n, c, a', c', h, _⟩
    · rw [h]; exact any_pos hy h1 h2 _ _
    · exfalso
      rw [h] at hy
      cases K <;> rw [AnyAt] at hy <;> first | exact h1 _ rfl | exact h2 _ rfl | (obtain ⟨_, hy, _⟩ := hy; injection hy with hy; revert hy; decide) | (injection hy with hy; revert hy; decide) | (cases hy; done)
    · exfalso
      rw [h] at hy
      cases K <;> rw [AnyAt] at hy <;> first | exact h1 _ rfl | exact h2 _ rfl | (obtain ⟨_, hy, _⟩ := hy; injection hy with hy; revert hy; decide) | (injection hy with hy; revert hy; decide) | (cases hy; done)
  refine Js.ind (flat _ (by simp) (by simp)) (fun b => flat _ (by simp) (by simp)) (fun b => flat _ (by simp) (by simp)) (fun b => flat _ (by simp) (by simp)) (fun l ih => ?_) (fun l ih => ?_) (flat _ (by simp) (by simp))
  · have one : ∀ x, AnyAt S W (.arr l) x → AnyAt S' W' (.arr l) x := by
      intro x hx
      rw [AnyAt] at hx ⊢
      obtain ⟨a, cap, rfl, h1, h2, hr⟩ := hx
      refine ⟨a, cap, rfl, h1, h2, RowA.of _ _ fun k n v hk => ?_⟩
      obtain ⟨g, off, e, rfl, hs, hg, hc, he⟩ := RowA.at l 0 k n v hr hk
      by_cases hp : (⟨g, off + (0 + k), none⟩ : Addr) = p
      · refine ⟨g, off, y', rfl, T.hS g hs hg, Nat.lt_of_lt_of_le hg T.size, by rw [hp]; exact T.new, (ih k n v hk).2 ?_⟩
        rw [hp, T.old] at hc
        rwa [Option.some.inj hc]
      · exact ⟨g, off, e, rfl, T.hS g hs hg, Nat.lt_of_lt_of_le hg T.size, T.keep g _ e hs hg hp hc, (ih k n v hk).1 e he⟩
    refine ⟨one, fun hy => ?_⟩
    rcases T.copy with h | ⟨a, n, c, a', c', h, h', hc1, hc2, hcp⟩ | ⟨a, n, c, a', c', h, _⟩
    · rw [h]; exact one y hy
    · rw [h] at hy
      rw [AnyAt] at hy
      obtain ⟨b, cap, hb, h1, h2, hr⟩ := hy
      injection hb with _ hb
      injection hb with hb1 hb2 hb3
      subst hb1; subst hb2
      rw [h', AnyAt]
      refine ⟨a', c', rfl, hc1, hc2, RowA.of _ _ fun k n v hk => ?_⟩
      obtain ⟨g, off, e, ha, hs, hg, hc, he⟩ := RowA.at l 0 k n v hr hk
      rw [Nat.zero_add] at hc
      obtain ⟨g', q1, q2, q3, q4⟩ := hcp k g off e (Jl.at_lt _ _ _ hk) ha hc
      refine ⟨g', 0, e, q1, q2, q3, ?_, (ih k n v hk).1 e he⟩
      rw [Nat.zero_add, Nat.zero_add]
      exact q4
    · rw [h, AnyAt] at hy
      obtain ⟨_, _, hy, _⟩ := hy
      injection hy with hy
      exact absurd hy (by decide)
  · have one : ∀ x, AnyAt S W (.obj l) x → AnyAt S' W' (.obj l) x := by
      intro x hx
      rw [AnyAt] at hx ⊢
      obtain ⟨a, cap, rfl, h1, h2, hr⟩ := hx
      refine ⟨a, cap, rfl, h1, h2, RowP.of _ _ fun k n v hk => ?_⟩
      obtain ⟨g, off, e, t, rfl, hs, hg, hc0, ht, hn, hc, he⟩ := RowP.at l 0 k n v hr hk
      have hp0 : (⟨g, off + (0 + k) * 2, none⟩ : Addr) ≠ p ∨ y' = y := by
        by_cases hp : (⟨g, off + (0 + k) * 2, none⟩ : Addr) = p
        · right
          rw [hp, T.old] at hc0
          have hy := Option.some.inj hc0
          rcases T.copy with h | ⟨a, n, c, a', c', h, _⟩ | ⟨a, n, c, a', c', h, _⟩
          · exact h
          · rw [h] at hy; cases hy
          · rw [h] at hy; cases hy
        · exact .inl hp
      have hname : W'.cell? ⟨g, off + (0 + k) * 2, none⟩ = some (.string t) := by
        by_cases hp : (⟨g, off + (0 + k) * 2, none⟩ : Addr) = p
        · rcases hp0 with h | h
          · exact absurd hp h
          · rw [hp, T.new, h]; rw [hp, T.old] at hc0; exact hc0
        · exact T.keep g _ _ hs hg hp hc0
      by_cases hp : (⟨g, off + (0 + k) * 2 + 1, none⟩ : Addr) = p
      · refine ⟨g, off, y', t, rfl, T.hS g hs hg, Nat.lt_of_lt_of_le hg T.size, hname, ht, hn, by rw [hp]; exact T.new, (ih k n v hk).2 ?_⟩
        rw [hp, T.old] at hc
        rwa [Option.some.inj hc]
      · exact ⟨g, off, e, t, rfl, T.hS g hs hg, Nat.lt_of_lt_of_le hg T.size, hname, ht, hn, T.keep g _ e hs hg hp hc, (ih k n v hk).1 e he⟩
    refine ⟨one, fun hy => ?_⟩
    rcases T.copy with h | ⟨a, n, c, a', c', h, _⟩ | ⟨a, n, c, a', c', h, h', hc1, hc2, hcp⟩
    · rw [h]; exact one y hy
    · rw [h, AnyAt] at hy
      obtain ⟨_, _, hy, _⟩ := hy
      injection hy with hy
      exact absurd hy (by decide)
    · rw [h] at hy
      rw [AnyAt] at hy
      obtain ⟨b, cap, hb, h1, h2, hr⟩ := hy
      injection hb with _ hb
      injection hb with hb1 hb2 hb3
      subst hb1; subst hb2
      rw [h', AnyAt]
      refine ⟨a', c', rfl, hc1, hc2, RowP.of _ _ fun k n v hk => ?_⟩
      obtain ⟨g, off, e, t, ha, hs, hg, hc0, ht, hn, hc, he⟩ := RowP.at l 0 k n v hr hk
      rw [Nat.zero_add] at hc hc0
      obtain ⟨g', q1, q2, q3, q4, q5⟩ := hcp k g off (.string t) e (Jl.at_lt _ _ _ hk) ha hc0 hc
      refine ⟨g', 0, e, t, q1, q2, q3, ?_, ht, hn, ?_, (ih k n v hk).1 e he⟩
      · rw [Nat.zero_add, Nat.zero_add]; exact q4
      · rw [Nat.zero_add, Nat.zero_add]; exact q5
end Go.Proofs.YtbkceneakdbdkaaGreatDoor
/- slices.Clone at values and at pairs. -/
namespace Go.Proofs.YtbkceneakdbdkaaGreatDoor
open Go.RowKit
set_option maxRecDepth 20000
set_option linter.unusedVariables false
set_option linter.unusedSimpArgs false
set_option maxHeartbeats 4000000
theorem infoPair : (Tryz.prog.info? 56).map (fun i => (i.zero, i.size, i.bytes)) = some (some (.agg #[.string { data := #[] }, .nilIface]), 2, 32) := by kernel_rfl
theorem slice_some_eqA (ad : Addr) (n c : Nat) (w : World) : (Op.equal 57 (.slice (some ad) n c) (.slice none 0 0)).run Tryz.prog w = .ok false w := by
  rw [Op.equal, show Op.maxDepth = 9999 + 1 from rfl]
  unfold Op.equalIn
  simp [go_sem]
theorem slice_some_eqlA (ad : Addr) (n c : Nat) (w : World) : (binOp BinOp.eql 57 (.slice (some ad) n c) (.slice none 0 0)).run Tryz.prog w = .ok (.bool false) w := by
  simp [binOp, go_sem, slice_some_eqA]
theorem slice_none_eqA (c : Nat) (w : World) : (Op.equal 57 (.slice none 0 c) (.slice none 0 0)).run Tryz.prog w = .ok true w := by
  rw [Op.equal, show Op.maxDepth = 9999 + 1 from rfl]
  unfold Op.equalIn
  simp [go_sem]
theorem slice_none_eqlA (c : Nat) (w : World) : (binOp BinOp.eql 57 (.slice none 0 c) (.slice none 0 0)).run Tryz.prog w = .ok (.bool true) w := by
  simp [binOp, go_sem, slice_none_eqA]
theorem cloneA_any (a : Option Addr) (n c : Nat) (w : World) (xs : List Value) (hn : n ≤ 1000000) (hxs : xs.length = n * 1) (hone : ∀ u ∈ xs, u.oneCell' = true) (hc : ∀ j u, xs[j]? = some u → ∃ g off, a = some ⟨g, off, none⟩ ∧ w.cell? ⟨g, off + j, none⟩ = some u) :
    Calls Tryz.prog 48 #[.slice a n c] w fun e w' => (∃ v', e = .returned v' ∧ w'.ownsRow w.heap.size 20 1 v' n xs) ∧ Below w.heap.size w w' := by
  obtain ⟨i0, hi, hz0, hz1, hz2⟩ := info_parts infoAny
  have HI0 := Lib.hid hi
  have HZ0 := Lib.hid hz0
  have HZ1 := Lib.hid hz1
  have HZ2 := Lib.hid hz2
  have HXS := Lib.hid hxs
  have HONE := Lib.hid hone
  clear hi hz0 hz1 hz2
  cases a with
  | none =>
    have hx0 : xs = [] := by
      cases xs with
      | nil => rfl
      | cons t l => obtain ⟨g, off, ha, _⟩ := hc 0 t rfl; cases ha
    subst hx0
    have hn0 : n = 0 := by simp at hxs; omega
    subst hn0
    have hneq := fun W => slice_none_eqlA c W
    clear hc hxs hone
    go_enter Tryz.func48, Tryz.ntmps48
    go_wp2_with fail
    go_ret
    exact ⟨⟨_, rfl, World.ownsRow_nil _ _ _ _⟩, Below.refl _ _⟩
  | some ad =>
    have HC := Lib.hid hc
    have hneq := fun W => slice_some_eqlA ad n c W
    have HNW := Lib.hid (show ∀ j u, xs[j]? = some u → (w.alloc (.cells #[] 20)).cell? (ad.add j) = some u from fun j u hu => by
      obtain ⟨g, off, ha, hcell⟩ := hc j u hu
      injection ha with ha
      subst ha
      rw [Go.WideShapes.add_plain]
      exact (((Below.refl w.heap.size w).alloc (Nat.le_refl _) (.cells #[] 20)).cell (World.block_lt_of_cell? _ _ hcell)).trans hcell)
    clear hc hxs hone
    have HO : Hid ((w.alloc (.cells #[] 20)).ownsRow w.heap.size 20 1 (.slice (some ⟨w.heap.size, 0, none⟩) 0 0) 0 []) := Lib.hid ⟨rfl, .inr ⟨w.heap.size, 0, #[], rfl, Nat.le_refl _, heap_new17 w _, Nat.le_refl _, Nat.zero_le _, rfl, rfl⟩⟩
    go_enter Tryz.func48, Tryz.ntmps48
    go_wp2_with (first | (at_builtin; refine wpList_append_own _ rfl _ _ 57 rfl w.heap.size 20 i0 .nilIface 1 16 Tryz.underlying57 HI0.out HZ0.out HZ1.out HZ2.out rfl (by decide) _ _ _ rfl HO.out ad n c xs rfl HXS.out HNW.out HONE.out ?c4 ?c5 ?c6 ?_) | fail)
    case c4 => unfold maxLen; omega
    case c5 => omega
    case c6 => simp
    intro v' w5 hown' hgr _
    have hb5 : Below w.heap.size w w5 := ((Below.refl w.heap.size w).alloc (Nat.le_refl _) _).grown hgr (by simp) (fun g hg => (World.ownsRow.lt HO.out g hg).1)
    have HO5 := Lib.hid hown'
    have HB5 := Lib.hid hb5
    clear hown' hgr hb5
    go_wp2_with fail
    go_ret
    exact ⟨⟨_, rfl, HO5.out⟩, HB5.out⟩
theorem slice_some_eqP (ad : Addr) (n c : Nat) (w : World) : (Op.equal 58 (.slice (some ad) n c) (.slice none 0 0)).run Tryz.prog w = .ok false w := by
  rw [Op.equal, show Op.maxDepth = 9999 + 1 from rfl]
  unfold Op.equalIn
  simp [go_sem]
theorem slice_some_eqlP (ad : Addr) (n c : Nat) (w : World) : (binOp BinOp.eql 58 (.slice (some ad) n c) (.slice none 0 0)).run Tryz.prog w = .ok (.bool false) w := by
  simp [binOp, go_sem, slice_some_eqP]
theorem slice_none_eqP (c : Nat) (w : World) : (Op.equal 58 (.slice none 0 c) (.slice none 0 0)).run Tryz.prog w = .ok true w := by
  rw [Op.equal, show Op.maxDepth = 9999 + 1 from rfl]
  unfold Op.equalIn
  simp [go_sem]
theorem slice_none_eqlP (c : Nat) (w : World) : (binOp BinOp.eql 58 (.slice none 0 c) (.slice none 0 0)).run Tryz.prog w = .ok (.bool true) w := by
  simp [binOp, go_sem, slice_none_eqP]
theorem cloneP_any (a : Option Addr) (n c : Nat) (w : World) (xs : List Value) (hn : n ≤ 1000000) (hxs : xs.length = n * 2) (hone : ∀ u ∈ xs, u.oneCell' = true) (hc : ∀ j u, xs[j]? = some u → ∃ g off, a = some ⟨g, off, none⟩ ∧ w.cell? ⟨g, off + j, none⟩ = some u) :
    Calls Tryz.prog 49 #[.slice a n c] w fun e w' => (∃ v', e = .returned v' ∧ w'.ownsRow w.heap.size 56 2 v' n xs) ∧ Below w.heap.size w w' := by
  obtain ⟨i0, hi, hz0, hz1, hz2⟩ := info_parts infoPair
  have HI0 := Lib.hid hi
  have HZ0 := Lib.hid hz0
  have HZ1 := Lib.hid hz1
  have HZ2 := Lib.hid hz2
  have HXS := Lib.hid hxs
  have HONE := Lib.hid hone
  clear hi hz0 hz1 hz2
  cases a with
  | none =>
    have hx0 : xs = [] := by
      cases xs with
      | nil => rfl
      | cons t l => obtain ⟨g, off, ha, _⟩ := hc 0 t rfl; cases ha
    subst hx0
    have hn0 : n = 0 := by simp at hxs; omega
    subst hn0
    have hneq := fun W => slice_none_eqlP c W
    clear hc hxs hone
    go_enter Tryz.func49, Tryz.ntmps49
    go_wp2_with fail
    go_ret
    exact ⟨⟨_, rfl, World.ownsRow_nil _ _ _ _⟩, Below.refl _ _⟩
  | some ad =>
    have HC := Lib.hid hc
    have hneq := fun W => slice_some_eqlP ad n c W
    have HNW := Lib.hid (show ∀ j u, xs[j]? = some u → (w.alloc (.cells #[] 56)).cell? (ad.add j) = some u from fun j u hu => by
      obtain ⟨g, off, ha, hcell⟩ := hc j u hu
      injection ha with ha
      subst ha
      rw [Go.WideShapes.add_plain]
      exact (((Below.refl w.heap.size w).alloc (Nat.le_refl _) (.cells #[] 56)).cell (World.block_lt_of_cell? _ _ hcell)).trans hcell)
    clear hc hxs hone
    have HO : Hid ((w.alloc (.cells #[] 56)).ownsRow w.heap.size 56 2 (.slice (some ⟨w.heap.size, 0, none⟩) 0 0) 0 []) := Lib.hid ⟨rfl, .inr ⟨w.heap.size, 0, #[], rfl, Nat.le_refl _, heap_new17 w _, Nat.le_refl _, Nat.zero_le _, rfl, rfl⟩⟩
    go_enter Tryz.func49, Tryz.ntmps49
    go_wp2_with (first | (at_builtin; refine wpList_append_own _ rfl _ _ 58 rfl w.heap.size 56 i0 (.agg #[.string { data := #[] }, .nilIface]) 2 32 Tryz.underlying58 HI0.out HZ0.out HZ1.out HZ2.out rfl (by decide) _ _ _ rfl HO.out ad n c xs rfl HXS.out HNW.out HONE.out ?c4 ?c5 ?c6 ?_) | fail)
    case c4 => unfold maxLen; omega
    case c5 => omega
    case c6 => simp
    intro v' w5 hown' hgr _
    have hb5 : Below w.heap.size w w5 := ((Below.refl w.heap.size w).alloc (Nat.le_refl _) _).grown hgr (by simp) (fun g hg => (World.ownsRow.lt HO.out g hg).1)
    have HO5 := Lib.hid hown'
    have HB5 := Lib.hid hb5
    clear hown' hgr hb5
    go_wp2_with fail
    go_ret
    exact ⟨⟨_, rfl, HO5.out⟩, HB5.out⟩
end Go.Proofs.YtbkceneakdbdkaaGreatDoor
/- What is left to copy: pointers to cells, each of which holds a value. -/
namespace Go.Proofs.YtbkceneakdbdkaaGreatDoor
open Go.RowKit
set_option maxRecDepth 20000
set_option linter.unusedVariables false
set_option linter.unusedSimpArgs false
set_option maxHeartbeats 4000000
theorem setCell_id {w : World} {b off : Nat} {v : Value} (h : w.cell? ⟨b, off, none⟩ = some v) : w.setCell ⟨b, off, none⟩ v = w := by
  have hh : (w.setCell ⟨b, off, none⟩ v).heap = w.heap := by
    apply Array.ext_getElem?
    intro k
    by_cases hk : k = b
    · subst hk
      simp only [World.cell?] at h
      cases ho : w.heap[k]? with
      | none => rw [ho] at h; cases h
      | some o =>
        rw [ho] at h
        cases o with
        | cells cs T fr =>
          simp only at h
          simp only [World.setCell, Array.getElem?_modify, ho]
          simp
          apply Array.ext_getElem?
          intro j
          rw [Array.getElem?_setIfInBounds]
          split
          · rename_i hj; subst hj
            split
            · exact h.symm
            · rename_i hlt; rw [Array.getElem?_eq_none (by omega)] at h; cases h
          · rfl
        | _ => simp at h
    · exact Below.heap_setCell _ _ _ k hk
  unfold World.setCell at hh ⊢
  simp only at hh
  rw [hh]
def ptrV (p : Nat × Nat) : Value := .pointer (some ⟨p.1, p.2, none⟩)
theorem infoPtr : (Tryz.prog.info? 96).map (fun i => (i.zero, i.size, i.bytes)) = some (some (.pointer none), 1, 8) := by kernel_rfl
structure Lf (w0 : World) (J : Js) (lv : Value) (ps : List (Nat × Nat)) (Ks : List Js) (W : World) : Prop where
  row : W.ownsRow (w0.heap.size + 1) 96 1 lv ps.length (ps.map ptrV)
  len : Ks.length = ps.length
  tg : ∀ (k : Nat) (p : Nat × Nat) (K : Js), ps[k]? = some p → Ks[k]? = some K → w0.heap.size ≤ p.1 ∧ lv.ownBlock ≠ some p.1 ∧ W.frozen? ⟨p.1, p.2, none⟩ = false ∧ ∃ y, W.cell? ⟨p.1, p.2, none⟩ = some y ∧ AnyAt (fun b => lv.ownBlock ≠ some b) W K y
  root : ∃ x, W.cell? ⟨w0.heap.size, 0, none⟩ = some x ∧ AnyAt (fun b => lv.ownBlock ≠ some b) W J x
  bel : Below w0.heap.size w0 W
  sz : w0.heap.size + 1 ≤ W.heap.size
theorem Lf.lt {w0 : World} {J : Js} {lv : Value} {ps : List (Nat × Nat)} {Ks : List Js} {W : World} (h : Lf w0 J lv ps Ks W) : ∀ b, lv.ownBlock = some b → w0.heap.size + 1 ≤ b ∧ b < W.heap.size := World.ownsRow.lt h.row
theorem any_keep17 {S S' : Nat → Prop} {W W' : World} (hs : W.heap.size ≤ W'.heap.size) (hS : ∀ b, S b → b < W.heap.size → S' b) (hk : ∀ b, S b → b < W.heap.size → W'.heap[b]? = W.heap[b]?) {K : Js} {x : Value} (h : AnyAt S W K x) : AnyAt S' W' K x := AnyAt.keep hS hs hk K x h
theorem row_keep {W W' : World} {B sz n : Nat} {E : TypeId} {v : Value} {xs : List Value} (h : W.ownsRow B E sz v n xs) (hr : ∀ b, v.ownBlock = some b → W'.heap[b]? = W.heap[b]?) : W'.ownsRow B E sz v n xs := by
  obtain ⟨g1, g2⟩ := h
  refine ⟨g1, ?_⟩
  rcases g2 with g2 | ⟨g, cap, cur, hv, hg, hh, r⟩
  · exact .inl g2
  · refine .inr ⟨g, cap, cur, hv, hg, ?_, r⟩
    rw [hr g (by rw [hv]; rfl)]; exact hh
theorem Lf.below {w0 : World} {J : Js} {lv : Value} {ps : List (Nat × Nat)} {Ks : List Js} {W W' : World} (h : Lf w0 J lv ps Ks W) (hb : Below W.heap.size W W') : Lf w0 J lv ps Ks W' := by
  have hlt := h.lt
  refine ⟨row_keep h.row (fun b e => hb.block b (hlt b e).2), h.len, fun k p K hp hK => ?_, ?_, h.bel.trans (hb.mono h.bel.size), Nat.le_trans h.sz hb.size⟩
  · obtain ⟨t1, t2, t3, y, t4, t5⟩ := h.tg k p K hp hK
    have hpl := World.block_lt_of_cell? _ _ t4
    exact ⟨t1, t2, (World.frozen?_of_block (a := ⟨p.1, p.2, none⟩) (hb.block _ hpl)).trans t3, y, cell_kept hb t4, t5.below hb⟩
  · obtain ⟨x, r1, r2⟩ := h.root
    exact ⟨x, cell_kept hb r1, r2.below hb⟩
/-- One more pointer. -/
theorem Lf.push {w0 : World} {J : Js} {lv : Value} {ps : List (Nat × Nat)} {Ks : List Js} {W : World} (h : Lf w0 J lv ps Ks W) (hl : ps.length ≤ 2000000) (b off : Nat) (K : Js) (y : Value) (p1 : w0.heap.size ≤ b) (p2 : lv.ownBlock ≠ some b) (p3 : W.frozen? ⟨b, off, none⟩ = false) (p4 : W.cell? ⟨b, off, none⟩ = some y) (p5 : AnyAt (fun b => lv.ownBlock ≠ some b) W K y) :
    ∃ v' W2, (Builtin.append_ #[97, 97] 97 #[lv, .slice (some ⟨W.heap.size, 0, none⟩) 1 1]).run Tryz.prog (W.alloc (.cells #[.pointer (some ⟨b, off, none⟩)] 96)) = .ok v' W2 ∧ Lf w0 J v' (ps ++ [(b, off)]) (Ks ++ [K]) W2 ∧
      W.heap.size ≤ W2.heap.size ∧ (∀ c, c < W.heap.size → lv.ownBlock ≠ some c → W2.heap[c]? = W.heap[c]? ∧ v'.ownBlock ≠ some c) := by
  have hlt := h.lt
  have hcell : (W.alloc (.cells #[.pointer (some ⟨b, off, none⟩)] 96)).cell? ⟨W.heap.size, 0, none⟩ = some (.pointer (some ⟨b, off, none⟩)) := by rw [World.cell?_alloc_mark]; rfl
  obtain ⟨v', W2, hr, g1, g2, g3⟩ := rappend_run 1 8 (W.alloc (.cells #[.pointer (some ⟨b, off, none⟩)] 96)) (w0.heap.size + 1) 97 96 97 _ Tryz.underlying97 infoPtr rfl (by omega) (by omega) lv ps.length (ps.map ptrV) (h.row.alloc _) ⟨W.heap.size, 0, none⟩ 1 1 [.pointer (some ⟨b, off, none⟩)] rfl (by
    intro j u hu
    match j, hu with
    | 0, hu => simp only [List.getElem?_cons_zero, Option.some.injEq] at hu; rw [← hu]; exact hcell
    | j + 1, hu => simp at hu) (by
    intro u hu
    obtain rfl : u = .pointer (some ⟨b, off, none⟩) := by simpa using hu
    rfl) (by omega) (by omega) (by simp; have := h.sz; omega)
  have hsz : (W.alloc (.cells #[.pointer (some ⟨b, off, none⟩)] 96)).heap.size = W.heap.size + 1 := by simp
  have hsz2 := g2.size
  have hk : ∀ c, c < W.heap.size → lv.ownBlock ≠ some c → W2.heap[c]? = W.heap[c]? := fun c hc hne => (g2.block c (by omega) (fun e => hne e.symm)).trans (heap_old17 hc)
  have hv : ∀ c, c < W.heap.size → lv.ownBlock ≠ some c → v'.ownBlock ≠ some c := by
    intro c hc hne
    rcases g3 with e | ⟨g, e, hg⟩
    · rw [e]; exact hne
    · rw [e]; intro e2; injection e2 with e2; omega
  have hAny : ∀ K x, AnyAt (fun b => lv.ownBlock ≠ some b) W K x → AnyAt (fun b => v'.ownBlock ≠ some b) W2 K x := fun K x hx => any_keep17 (by omega) (fun c e hc => hv c hc e) (fun c e hc => hk c hc e) hx
  have one : ∀ (p : Nat × Nat) (K : Js), (w0.heap.size ≤ p.1 ∧ lv.ownBlock ≠ some p.1 ∧ W.frozen? ⟨p.1, p.2, none⟩ = false ∧ ∃ y, W.cell? ⟨p.1, p.2, none⟩ = some y ∧ AnyAt (fun b => lv.ownBlock ≠ some b) W K y) → (w0.heap.size ≤ p.1 ∧ v'.ownBlock ≠ some p.1 ∧ W2.frozen? ⟨p.1, p.2, none⟩ = false ∧ ∃ y, W2.cell? ⟨p.1, p.2, none⟩ = some y ∧ AnyAt (fun b => v'.ownBlock ≠ some b) W2 K y) := by
    rintro p K ⟨t1, t2, t3, y, t4, t5⟩
    have hpl := World.block_lt_of_cell? _ _ t4
    exact ⟨t1, hv _ hpl t2, (World.frozen?_of_block (a := ⟨p.1, p.2, none⟩) (hk _ hpl t2)).trans t3, y, (World.cell?_of_block (a := ⟨p.1, p.2, none⟩) (hk _ hpl t2)).trans t4, hAny K y t5⟩
  refine ⟨v', W2, hr, ⟨?_, by rw [List.length_append, List.length_append, h.len]; rfl, fun k p K' hp hK => ?_, ?_, ?_, by have := h.sz; omega⟩, by omega, fun c hc hne => ⟨hk c hc hne, hv c hc hne⟩⟩
  · rw [List.length_append, List.map_append]
    exact g1
  · by_cases hkl : k < ps.length
    · rw [List.getElem?_append_left hkl] at hp
      rw [List.getElem?_append_left (by rw [h.len]; exact hkl)] at hK
      exact one p K' (h.tg k p K' hp hK)
    · have hk2 := (List.getElem?_eq_some_iff.1 hp).1
      rw [List.length_append, List.length_singleton] at hk2
      obtain rfl : k = ps.length := by omega
      rw [List.getElem?_append_right (by omega), Nat.sub_self] at hp
      rw [← h.len, List.getElem?_append_right (by omega), Nat.sub_self] at hK
      obtain rfl : (b, off) = p := by simpa using hp
      obtain rfl : K = K' := by simpa using hK
      exact one (b, off) K ⟨p1, p2, p3, y, p4, p5⟩
  · obtain ⟨x, r1, r2⟩ := h.root
    have hrl := World.block_lt_of_cell? _ _ r1
    have hne : lv.ownBlock ≠ some w0.heap.size := fun e => by have := (hlt _ e).1; omega
    exact ⟨x, (World.cell?_of_block (a := ⟨w0.heap.size, 0, none⟩) (hk _ hrl hne)).trans r1, hAny J x r2⟩
  · exact (h.bel.alloc (by have := h.sz; omega) _).grown g2 (by have := h.sz; omega) (fun k e => by have := (hlt k e).1; omega)
/-- One cell turned for what reads the same. -/
theorem Lf.turn {w0 : World} {J : Js} {lv : Value} {ps : List (Nat × Nat)} {Ks : List Js} {W : World} (h : Lf w0 J lv ps Ks W) {b off : Nat} {y y' : Value} (hb : w0.heap.size ≤ b) (hne : lv.ownBlock ≠ some b)
    (T : Turn (fun b => lv.ownBlock ≠ some b) (fun b => lv.ownBlock ≠ some b) W (W.setCell ⟨b, off, none⟩ y') ⟨b, off, none⟩ y y') : Lf w0 J lv ps Ks (W.setCell ⟨b, off, none⟩ y') := by
  have hset : ∀ k, k ≠ b → (W.setCell ⟨b, off, none⟩ y').heap[k]? = W.heap[k]? := fun k hk => Below.heap_setCell _ _ _ k hk
  have hA := turn_any T
  refine ⟨row_keep h.row (fun c e => hset c (fun x => hne (by rw [e, x]))), h.len, fun k p K hp hK => ?_, ?_, h.bel.setCell (p := ⟨b, off, none⟩) hb _, Nat.le_trans h.sz T.size⟩
  · obtain ⟨t1, t2, t3, z, t4, t5⟩ := h.tg k p K hp hK
    refine ⟨t1, t2, by rw [World.frozen?_setCell]; exact t3, ?_⟩
    by_cases hpp : (⟨p.1, p.2, none⟩ : Addr) = ⟨b, off, none⟩
    · rw [hpp, T.old] at t4
      obtain rfl := Option.some.inj t4
      exact ⟨y', by rw [hpp]; exact T.new, (hA K).2 t5⟩
    · exact ⟨z, by rw [World.cell?_setCell_other (h := Ne.symm hpp)]; exact t4, (hA K).1 z t5⟩
  · obtain ⟨x, r1, r2⟩ := h.root
    by_cases hpp : (⟨w0.heap.size, 0, none⟩ : Addr) = ⟨b, off, none⟩
    · rw [hpp, T.old] at r1
      obtain rfl := Option.some.inj r1
      exact ⟨y', by rw [hpp]; exact T.new, (hA J).2 r2⟩
    · exact ⟨x, by rw [World.cell?_setCell_other (h := Ne.symm hpp)]; exact r1, (hA J).1 x r2⟩
/-- How much is left. -/
def sumK : List Js → Nat
  | [] => 0
  | K :: t => szV K + sumK t
theorem sumK_append : ∀ (a b : List Js), sumK (a ++ b) = sumK a + sumK b
  | [], b => by simp [sumK]
  | K :: t, b => by rw [List.cons_append, sumK, sumK, sumK_append t b]; omega
theorem sumK_len : ∀ a : List Js, a.length ≤ sumK a
  | [] => Nat.le_refl _
  | K :: t => by rw [List.length_cons, sumK]; have := sumK_len t; have := szV_pos K; omega
theorem sumK_at (Ks : List Js) (k : Nat) (K : Js) (h : Ks[k]? = some K) : sumK (Ks.drop k) = szV K + sumK (Ks.drop (k + 1)) := by
  obtain ⟨h1, h2⟩ := List.getElem?_eq_some_iff.1 h
  rw [List.drop_eq_getElem_cons h1, sumK, h2]
end Go.Proofs.YtbkceneakdbdkaaGreatDoor
/- In the midst of a copy: the row is copied, the pointers to its cells are laid one by one. -/
namespace Go.Proofs.YtbkceneakdbdkaaGreatDoor
open Go.RowKit
set_option maxRecDepth 20000
set_option linter.unusedVariables false
set_option linter.unusedSimpArgs false
set_option maxHeartbeats 4000000
def boxJ (pr : Bool) (l : Jl) : Js := if pr then .obj l else .arr l
theorem szV_box (pr : Bool) (l : Jl) : szV (boxJ pr l) = 1 + szL l := by
  unfold boxJ
  cases pr
  · simp only [Bool.false_eq_true, if_false]; rw [szV]
  · simp only [if_true]; rw [szV]
/-- The cells of a row, in a list. -/
theorem rowA_list {S : Nat → Prop} {w : World} {a : Option Addr} : ∀ (l : Jl) (i : Nat), RowA S w a i l → ∃ xs : List Value, xs.length = l.length ∧ (∀ u ∈ xs, u.oneCell' = true) ∧ (∀ j u, xs[j]? = some u → ∃ g off, a = some ⟨g, off, none⟩ ∧ S g ∧ g < w.heap.size ∧ w.cell? ⟨g, off + (i + j), none⟩ = some u) ∧ ∀ j n v u, l.at? j = some (n, v) → xs[j]? = some u → AnyAt S w v u
  | .nil, i, _ => ⟨[], rfl, by simp, by simp, fun j n v u h => by cases h⟩
  | .cons n v t, i, h => by
    rw [RowA] at h
    obtain ⟨⟨g, off, y, h1, h2, h3, h4, h5⟩, h6⟩ := h
    obtain ⟨xs, g1, g2, g3, g4⟩ := rowA_list t (i + 1) h6
    refine ⟨y :: xs, by rw [List.length_cons, g1]; rfl, fun u hu => ?_, fun j u hu => ?_, fun j n' v' u hj hu => ?_⟩
    · rcases List.mem_cons.1 hu with rfl | hu
      · exact any_one h5
      · exact g2 u hu
    · cases j with
      | zero => simp only [List.getElem?_cons_zero, Option.some.injEq] at hu; subst hu; exact ⟨g, off, h1, h2, h3, h4⟩
      | succ j =>
        rw [List.getElem?_cons_succ] at hu
        have := g3 j u hu
        rwa [show i + 1 + j = i + (j + 1) by omega] at this
    · cases j with
      | zero =>
        obtain ⟨rfl, rfl⟩ : n = n' ∧ v = v' := by simpa [Jl.at?] using hj
        simp only [List.getElem?_cons_zero, Option.some.injEq] at hu; subst hu; exact h5
      | succ j => rw [List.getElem?_cons_succ] at hu; exact g4 j n' v' u hj hu
theorem rowP_list {S : Nat → Prop} {w : World} {a : Option Addr} : ∀ (l : Jl) (i : Nat), RowP S w a i l → ∃ xs : List Value, xs.length = l.length * 2 ∧ (∀ u ∈ xs, u.oneCell' = true) ∧ (∀ j u, xs[j]? = some u → ∃ g off, a = some ⟨g, off, none⟩ ∧ S g ∧ g < w.heap.size ∧ w.cell? ⟨g, off + (i * 2 + j), none⟩ = some u) ∧ (∀ j n v u, l.at? j = some (n, v) → xs[j * 2 + 1]? = some u → AnyAt S w v u) ∧ ∀ j n v, l.at? j = some (n, v) → ∃ t : ByteArray, xs[j * 2]? = some (.string t) ∧ t.size ≤ 5000
  | .nil, i, _ => ⟨[], rfl, by simp, by simp, (fun j n v u h => by cases h), (fun j n v h => by cases h)⟩
  | .cons n v t, i, h => by
    rw [RowP] at h
    obtain ⟨⟨g, off, y, s, h1, h2, h3, h4, h7, h8, h5, h9⟩, h6⟩ := h
    obtain ⟨xs, g1, g2, g3, g4, g5⟩ := rowP_list t (i + 1) h6
    refine ⟨.string s :: y :: xs, by rw [List.length_cons, List.length_cons, g1, Jl.length]; omega, fun u hu => ?_, fun j u hu => ?_, fun j n' v' u hj hu => ?_, fun j n' v' hj => ?_⟩
    · rcases List.mem_cons.1 hu with rfl | hu
      · rfl
      rcases List.mem_cons.1 hu with rfl | hu
      · exact any_one h9
      · exact g2 u hu
    · match j, hu with
      | 0, hu => simp only [List.getElem?_cons_zero, Option.some.injEq] at hu; subst hu; exact ⟨g, off, h1, h2, h3, h4⟩
      | 1, hu => simp only [List.getElem?_cons_succ, List.getElem?_cons_zero, Option.some.injEq] at hu; subst hu; exact ⟨g, off, h1, h2, h3, h5⟩
      | j + 2, hu =>
        rw [List.getElem?_cons_succ, List.getElem?_cons_succ] at hu
        have := g3 j u hu
        rwa [show (i + 1) * 2 + j = i * 2 + (j + 2) by omega] at this
    · cases j with
      | zero =>
        obtain ⟨rfl, rfl⟩ : n = n' ∧ v = v' := by simpa [Jl.at?] using hj
        simp only [Nat.zero_mul, Nat.zero_add, List.getElem?_cons_succ, List.getElem?_cons_zero, Option.some.injEq] at hu; subst hu; exact h9
      | succ j =>
        rw [show (j + 1) * 2 + 1 = j * 2 + 1 + 2 by omega, List.getElem?_cons_succ, List.getElem?_cons_succ] at hu
        exact g4 j n' v' u hj hu
    · cases j with
      | zero => exact ⟨s, by simp, by rw [← bI_len, h7]; exact h8⟩
      | succ j =>
        obtain ⟨t2, q1, q2⟩ := g5 j n' v' hj
        exact ⟨t2, by rw [show (j + 1) * 2 = j * 2 + 2 by omega, List.getElem?_cons_succ, List.getElem?_cons_succ]; exact q1, q2⟩
structure Mid (pr : Bool) (w0 : World) (J : Js) (k : Nat) (p : Nat × Nat) (y : Value) (src : Option Addr) (l : Jl) (v' : Value) (xs : List Value) (lv : Value) (ps : List (Nat × Nat)) (Ks : List Js) (i : Nat) (W : World) : Prop where
  lf : Lf w0 J lv ps Ks W
  pk : ps[k]? = some p
  pot : k + 1 + sumK (Ks.drop (k + 1)) + szL (l.drop i) = szV J
  row : W.ownsRow (w0.heap.size + 1) (tyI pr) (szI pr) v' l.length xs
  nl : ∀ b, v'.ownBlock = some b → lv.ownBlock ≠ some b ∧ b ≠ p.1
  el : ∀ (j : Nat) (n : List Int) (v : Js) (u : Value), l.at? j = some (n, v) → xs[j * szI pr + (szI pr - 1)]? = some u → AnyAt (fun b => lv.ownBlock ≠ some b) W v u
  sr : ∀ (j : Nat) (u : Value), xs[j]? = some u → ∃ g off, src = some ⟨g, off, none⟩ ∧ lv.ownBlock ≠ some g ∧ W.cell? ⟨g, off + j, none⟩ = some u
  pc : W.cell? ⟨p.1, p.2, none⟩ = some y
  pf : W.frozen? ⟨p.1, p.2, none⟩ = false
  pn : lv.ownBlock ≠ some p.1 ∧ w0.heap.size ≤ p.1
theorem Mid.below {pr : Bool} {w0 : World} {J : Js} {k : Nat} {p : Nat × Nat} {y : Value} {src : Option Addr} {l : Jl} {v' : Value} {xs : List Value} {lv : Value} {ps : List (Nat × Nat)} {Ks : List Js} {i : Nat} {W W' : World} (h : Mid pr w0 J k p y src l v' xs lv ps Ks i W) (hb : Below W.heap.size W W') : Mid pr w0 J k p y src l v' xs lv ps Ks i W' :=
  ⟨h.lf.below hb, h.pk, h.pot, row_keep h.row (fun b e => hb.block b (World.ownsRow.lt h.row b e).2), h.nl, fun j n v u hj hu => (h.el j n v u hj hu).below hb, fun j u hu => by
    obtain ⟨g, off, e, hn, hc⟩ := h.sr j u hu
    exact ⟨g, off, e, hn, cell_kept hb hc⟩, cell_kept hb h.pc, (World.frozen?_of_block (a := ⟨p.1, p.2, none⟩) (hb.block _ (World.block_lt_of_cell? _ _ h.pc))).trans h.pf, h.pn⟩
/-- The copied row's form. -/
theorem Mid.form {pr : Bool} {w0 : World} {J : Js} {k : Nat} {p : Nat × Nat} {y : Value} {src : Option Addr} {l : Jl} {v' : Value} {xs : List Value} {lv : Value} {ps : List (Nat × Nat)} {Ks : List Js} {i : Nat} {W : World} (h : Mid pr w0 J k p y src l v' xs lv ps Ks i W) : ∃ a c, v' = .slice a l.length c ∧ l.length ≤ c ∧ c ≤ maxLen ∧
    ∀ j u, xs[j]? = some u → ∃ g, a = some ⟨g, 0, none⟩ ∧ w0.heap.size + 1 ≤ g ∧ g < W.heap.size ∧ lv.ownBlock ≠ some g ∧ g ≠ p.1 ∧ W.cell? ⟨g, j, none⟩ = some u ∧ W.frozen? ⟨g, j, none⟩ = false := by
  have hr := h.row
  have hlt := World.ownsRow.lt hr
  have hnl := h.nl
  rcases hr.2 with ⟨rfl, hn⟩ | ⟨g, cap, cur, rfl, hg, hh, hle, hm, _⟩
  · refine ⟨none, 0, by rw [hn], by omega, by omega, fun j u hu => ?_⟩
    have h1 := hr.1
    have := (List.getElem?_eq_some_iff.1 hu).1
    rw [hn] at h1
    simp at h1
    rw [h1] at this
    simp at this
  · refine ⟨some ⟨g, 0, none⟩, cap, rfl, hle, hm, fun j u hu => ?_⟩
    have hc := World.ownsRow.cells hr rfl j u hu
    rw [Go.WideShapes.add_plain, Nat.zero_add] at hc
    obtain ⟨n1, n2⟩ := hnl g rfl
    exact ⟨g, rfl, (hlt g rfl).1, (hlt g rfl).2, n1, n2, hc, by simp [World.frozen?, hh]⟩
theorem sumK_more (Ks : List Js) (k : Nat) (K : Js) (h : k + 1 ≤ Ks.length) : sumK ((Ks ++ [K]).drop (k + 1)) = sumK (Ks.drop (k + 1)) + szV K := by
  rw [List.drop_append_of_le_length h, sumK_append]
  simp [sumK]
theorem Mid.push {pr : Bool} {w0 : World} {J : Js} {k : Nat} {p : Nat × Nat} {y : Value} {src : Option Addr} {l : Jl} {v' : Value} {xs : List Value} {lv : Value} {ps : List (Nat × Nat)} {Ks : List Js} {i : Nat} {W : World} (h : Mid pr w0 J k p y src l v' xs lv ps Ks i W) (hl : ps.length ≤ 2000000) {g : Nat} {c : Nat} (hv : v' = .slice (some ⟨g, 0, none⟩) l.length c) {n : List Int} {v : Js} (hat : l.at? i = some (n, v)) :
    ∃ lv2 W2, (Builtin.append_ #[97, 97] 97 #[lv, .slice (some ⟨W.heap.size, 0, none⟩) 1 1]).run Tryz.prog (W.alloc (.cells #[.pointer (some ⟨g, i * szI pr + (szI pr - 1), none⟩)] 96)) = .ok lv2 W2 ∧ Mid pr w0 J k p y src l v' xs lv2 (ps ++ [(g, i * szI pr + (szI pr - 1))]) (Ks ++ [v]) (i + 1) W2 := by
  have hil := Jl.at_lt _ _ _ hat
  have hxl : xs.length = l.length * szI pr := h.row.1
  have hs1 : 1 ≤ szI pr := by cases pr <;> simp [szI]
  have hmul : (i + 1) * szI pr ≤ l.length * szI pr := Nat.mul_le_mul_right _ hil
  rw [Nat.add_mul, Nat.one_mul] at hmul
  obtain ⟨u, hu⟩ : ∃ u, xs[i * szI pr + (szI pr - 1)]? = some u := ⟨_, List.getElem?_eq_getElem (by omega)⟩
  obtain ⟨a, c', hv2, _, _, hf⟩ := h.form
  obtain ⟨g', ha, q1, q2, q3, q4, q5, q6⟩ := hf _ u hu
  rw [hv] at hv2
  injection hv2 with hv2 _ _
  rw [← hv2] at ha
  injection ha with ha
  injection ha with ha _ _
  subst ha
  obtain ⟨lv2, W2, hr, hlf, hsz, hk⟩ := h.lf.push hl g (i * szI pr + (szI pr - 1)) v u (by omega) q3 q6 q5 (h.el i n v u hat hu)
  have hkp := (List.getElem?_eq_some_iff.1 h.pk).1
  have hpl := World.block_lt_of_cell? _ _ h.pc
  have hAny : ∀ K x, AnyAt (fun b => lv.ownBlock ≠ some b) W K x → AnyAt (fun b => lv2.ownBlock ≠ some b) W2 K x := fun K x hx => any_keep17 hsz (fun c e hc => (hk c hc e).2) (fun c e hc => (hk c hc e).1) hx
  refine ⟨lv2, W2, hr, ⟨hlf, by rw [List.getElem?_append_left hkp]; exact h.pk, ?_, ?_, ?_, fun j n' v' u' hj hu' => hAny _ _ (h.el j n' v' u' hj hu'), fun j u' hu' => ?_, (World.cell?_of_block (a := ⟨p.1, p.2, none⟩) (hk _ hpl h.pn.1).1).trans h.pc, (World.frozen?_of_block (a := ⟨p.1, p.2, none⟩) (hk _ hpl h.pn.1).1).trans h.pf, (hk _ hpl h.pn.1).2, h.pn.2⟩⟩
  · rw [sumK_more _ _ _ (by rw [h.lf.len]; omega)]
    have := h.pot
    rw [szL_drop l i n v hat] at this
    omega
  · exact row_keep h.row (fun b e => (hk b (World.ownsRow.lt h.row b e).2 (h.nl b e).1).1)
  · intro b e
    exact ⟨(hk b (World.ownsRow.lt h.row b e).2 (h.nl b e).1).2, (h.nl b e).2⟩
  · obtain ⟨g2, off, e, hn, hc⟩ := h.sr j u' hu'
    have hgl := World.block_lt_of_cell? _ _ hc
    exact ⟨g2, off, e, (hk _ hgl hn).2, (World.cell?_of_block (a := ⟨g2, off + j, none⟩) (hk _ hgl hn).1).trans hc⟩
/-- The copied row put in the old one's place. -/
theorem Mid.done {pr : Bool} {w0 : World} {J : Js} {k : Nat} {p : Nat × Nat} {src : Option Addr} {l : Jl} {v' : Value} {xs : List Value} {lv : Value} {ps : List (Nat × Nat)} {Ks : List Js} {i : Nat} {W : World} {cp : Nat} (h : Mid pr w0 J k p (.iface (slI pr) (.slice src l.length cp)) src l v' xs lv ps Ks i W) :
    Lf w0 J lv ps Ks (W.setCell ⟨p.1, p.2, none⟩ (.iface (slI pr) v')) := by
  refine h.lf.turn h.pn.2 h.pn.1 ⟨by simp [World.size_setCell], h.pc, fun b off u hb hlt hne hc => by rw [World.cell?_setCell_other (h := Ne.symm hne)]; exact hc, World.cell?_setCell_same _ _ _ h.pc, fun _ e _ => e, .inr ?_⟩
  have hxl : xs.length = l.length * szI pr := h.row.1
  obtain ⟨a, c, hv, q1, q2, q3⟩ := h.form
  cases pr
  · refine .inl ⟨src, l.length, cp, a, c, rfl, by rw [hv]; rfl, q1, q2, fun i g off e hi ha hc => ?_⟩
    obtain ⟨u, hu⟩ : ∃ u, xs[i]? = some u := ⟨_, List.getElem?_eq_getElem (by simp [szI] at hxl; omega)⟩
    obtain ⟨g2, off2, e2, _, hc2⟩ := h.sr i u hu
    rw [ha] at e2
    injection e2 with e2
    injection e2 with e3 e4 _
    subst e3; subst e4
    rw [hc] at hc2
    obtain rfl := Option.some.inj hc2
    obtain ⟨g', ha', _, r2, r3, r4, r5, _⟩ := q3 i e hu
    exact ⟨g', ha', r3, by simpa [World.size_setCell] using r2, by rw [World.cell?_setCell_other (h := fun x => r4 (by injection x with x; exact x.symm))]; exact r5⟩
  · refine .inr ⟨src, l.length, cp, a, c, rfl, by rw [hv]; rfl, q1, q2, fun i g off t e hi ha hct hc => ?_⟩
    have hxl2 : xs.length = l.length * 2 := hxl
    obtain ⟨u, hu⟩ : ∃ u, xs[i * 2 + 1]? = some u := ⟨_, List.getElem?_eq_getElem (by omega)⟩
    obtain ⟨ut, hut⟩ : ∃ u, xs[i * 2]? = some u := ⟨_, List.getElem?_eq_getElem (by omega)⟩
    obtain ⟨g2, off2, e2, _, hc2⟩ := h.sr _ u hu
    obtain ⟨g3, off3, e3, _, hc3⟩ := h.sr _ ut hut
    rw [ha] at e2 e3
    injection e2 with e2
    injection e2 with e4 e5 _
    injection e3 with e3
    injection e3 with e6 e7 _
    subst e4; subst e5; subst e6; subst e7
    rw [← Nat.add_assoc, hc] at hc2
    rw [hct] at hc3
    obtain rfl := Option.some.inj hc2
    obtain rfl := Option.some.inj hc3
    obtain ⟨g', ha', _, r2, r3, r4, r5, _⟩ := q3 _ e hu
    obtain ⟨g4, ha4, _, _, _, _, s5, _⟩ := q3 _ t hut
    rw [ha'] at ha4
    injection ha4 with ha4
    injection ha4 with ha4 _ _
    subst ha4
    exact ⟨g', ha', r3, by simpa [World.size_setCell] using r2, by rw [World.cell?_setCell_other (h := fun x => r4 (by injection x with x; exact x.symm))]; exact s5, by rw [World.cell?_setCell_other (h := fun x => r4 (by injection x with x; exact x.symm))]; exact r5⟩
end Go.Proofs.YtbkceneakdbdkaaGreatDoor
