/- Several texts, one behind the other: Qc. -/
import Derived.Test.YtbkceneakdbdkaaGreatDoorMT
import Derived.Deep.RegionHeld3
/- Equal at lists and objects. -/
namespace Go.Proofs.YtbkceneakdbdkaaGreatDoor
open Go.RowKit
set_option maxRecDepth 20000
set_option linter.unusedVariables false
set_option linter.unusedSimpArgs false
set_option maxHeartbeats 4000000
def EqOk (v : Js) : Prop := ∀ (S : Nat → Prop) (u : Nt) (w : World) (x : Value), AnyAt S w v x → bareV v → u.In w → Fit u → Calls Tryz.prog 16 #[x, ntA u] w (EqEnd v u w)
theorem arr_is {l : Jl} {kids : Nl} (hb : bareL false l) (hl : l.length = kids.len) (h : ∀ j n v u, j < l.length → l.at? j = some (n, v) → kids.at? j = some u → v = toJ u) : l = toL false [] kids := by
  refine Jl.ext _ _ (by rw [toL_len]; exact hl) fun j hj => ?_
  obtain ⟨n, v, hv⟩ := Jl.lt_at l j hj
  obtain ⟨u, hu⟩ := Nl.lt_at kids j (by omega)
  rw [toL_at false kids [] j u hu, hv, (bareL_at l j n v hb hv).1 rfl, h j n v u hj hv hu]
  simp
theorem obj_is {l : Jl} {kids : Nl} {names : List ByteArray} (hl : l.length = kids.len) (hnl : names.length = kids.len) (h : ∀ j n v u t, j < l.length → l.at? j = some (n, v) → kids.at? j = some u → names[j]? = some t → v = toJ u ∧ n = bI t) : l = toL true names kids := by
  refine Jl.ext _ _ (by rw [toL_len]; exact hl) fun j hj => ?_
  obtain ⟨n, v, hv⟩ := Jl.lt_at l j hj
  obtain ⟨u, hu⟩ := Nl.lt_at kids j (by omega)
  obtain ⟨t, ht⟩ : ∃ t, names[j]? = some t := ⟨_, List.getElem?_eq_getElem (by omega)⟩
  obtain ⟨h1, h2⟩ := h j n v u t hj hv hu ht
  rw [toL_at true kids names j u hu, hv, h1, h2, List.getD_eq_getElem?_getD, ht]
  simp
theorem EqEnd.no {v : Js} {u : Nt} {w w' : World} (h : ¬ v = toJ u) (hb : Below w.heap.size w w') : EqEnd v u w (.returned (.bool false)) w' := ⟨⟨false, rfl, by simp; exact h⟩, hb⟩
theorem EqEnd.yes {v : Js} {u : Nt} {w w' : World} (h : v = toJ u) (hb : Below w.heap.size w w') : EqEnd v u w (.returned (.bool true)) w' := ⟨⟨true, rfl, by simp; exact h⟩, hb⟩
theorem eq_arr (l : Jl) (HK : ∀ i n v, l.at? i = some (n, v) → EqOk v) : EqOk (.arr l) := by
  intro S u w x hx hbr hin hfit
  rw [AnyAt] at hx
  obtain ⟨a, cap, rfl, h1, h2, hr⟩ := hx
  rw [bareV] at hbr
  obtain ⟨k, n, s, nv, names, kv, kids⟩ := u
  rw [Nt.In] at hin
  obtain ⟨⟨k0, k1⟩, ⟨n0, n1⟩, hs, ⟨na, ncap, rfl, nl, nm, hn⟩, ka, kcap, rfl, kl, km, hk⟩ := hin
  rw [Fit] at hfit
  obtain ⟨_, hlnm, _, hnm, hfk⟩ := hfit
  have hj : toJ (.mk k n s (.slice na names.length ncap) names (.slice ka kids.len kcap) kids) = .arr l ↔ k = 5 ∧ l = toL false [] kids := by
    rcases toJ_cases k n s (.slice na names.length ncap) names (.slice ka kids.len kcap) kids k0 with ⟨h1, h⟩ | ⟨rfl, h⟩ | ⟨rfl, h⟩ | ⟨rfl, h⟩ | ⟨rfl, h⟩ | ⟨rfl, h⟩ | ⟨rfl, h⟩ | ⟨rfl, h⟩ <;> rw [h] <;> simp <;> first | exact eq_comm | omega
  have HJ := Lib.hid (show Js.arr l = toJ (.mk k n s (.slice na names.length ncap) names (.slice ka kids.len kcap) kids) ↔ k = 5 ∧ l = toL false [] kids from ⟨fun e => hj.1 e.symm, fun e => (hj.2 e).symm⟩)
  have HBR := Lib.hid hbr
  have HBA := Lib.hid (fun i n v => bareL_at l i n v hbr)
  have HR := Lib.hid hr
  have HK := Lib.hid HK
  have HN := Lib.hid hn
  have HI := Lib.hid hk
  have HF := Lib.hid hfk
  have HLN := Lib.hid hlnm
  have hml : (l.length : Int) ≤ 9223372036854775807 := by rw [maxL] at h2; omega
  have hks : (kids.len : Int) ≤ 9223372036854775807 := by rw [maxL] at *; omega
  show Calls _ _ #[_, .agg #[.int .u8 k, .int .i64 n, .string s, .slice na names.length ncap, .slice ka kids.len kcap]] _ _
  have HX := Lib.hid (BoxAt.made w k n s (.slice na names.length ncap) (.slice ka kids.len kcap) 25)
  clear hj hr hn hk hfk hnm hbr hlnm
  have a0 := fun W => assert_no 20 59 57 (.slice a l.length cap) _ _ Tryz.underlying59 rfl zFlt (by decide) W
  have a1 := fun W => assert_no 20 4 57 (.slice a l.length cap) _ _ Tryz.underlying4 rfl zBool (by decide) W
  have a2 := fun W => assert_no 20 3 57 (.slice a l.length cap) _ _ Tryz.underlying3 rfl zInt (by decide) W
  have a3 := fun W => assert_no 20 9 57 (.slice a l.length cap) _ _ Tryz.underlying9 rfl zStr (by decide) W
  have a4 := fun W => assert_yes 20 57 (.slice a l.length cap) _ Tryz.underlying57 rfl W
  by_cases h6 : 6 < k
  · have hd : decide (6 < k) = true := by simpa using h6
    go_enter Tryz.func16, Tryz.ntmps16
    go_wp2_with fail
    go_ret
    exact EqEnd.no (fun e => by have := (HJ.out.1 e).1; omega) (by go_grown)
  have hd : decide (6 < k) = false := by simp; omega
  go_enter Tryz.func16, Tryz.ntmps16
  go_wp2_with fail
  go_loopw [15] (fun z wr => ∃ (i : Nat), i ≤ l.length ∧ z = .int .i64 i ∧ Hid (∀ j n' v' u', j < i → l.at? j = some (n', v') → kids.at? j = some u' → v' = toJ u') ∧ BoxAt wr w.heap.size k n s (.slice na names.length ncap) (.slice ka kids.len kcap) ∧ Below w.heap.size w wr) (fun z _ => l.length - (intOf z).toNat)
  case atStart => exact ⟨0, Nat.zero_le _, rfl, Lib.hid (fun j n' v' u' h => absurd h (Nat.not_lt_zero _)), HX.out, (Below.refl _ _).alloc (Nat.le_refl _) _⟩
  case round =>
    obtain ⟨i, hi, rfl, HM, hbx, hbw⟩ := hrel
    have HBX := Lib.hid hbx
    have HBW := Lib.hid hbw
    by_cases hlen : l.length ≠ kids.len
    · have hle : ((l.length : Int) == (kids.len : Int)) = false := by rw [beq_eq_false_iff_ne]; omega
      have HLEN := Lib.hid hlen
      clear hlen
      by_cases hlt : i < l.length
      · have hi2 : (i : Int) < (l.length : Int) := by omega
        obtain ⟨b0, b1, b2, b3, b4⟩ := hbx
        clear hbw
        by_cases hkn : k = 5
        · subst hkn
          go_wp2_with fail
          go_ret
          exact EqEnd.no (fun e => by have := congrArg Jl.length (HJ.out.1 e).2; rw [toL_len] at this; exact HLEN.out this) HBW.out
        · have hkf : (k == 5) = false := by rw [beq_eq_false_iff_ne]; exact hkn
          have HKN := Lib.hid hkn
          clear hkn
          go_wp2_with fail
          go_ret
          exact EqEnd.no (fun e => HKN.out (HJ.out.1 e).1) HBW.out
      · have hi2 : ¬ (i : Int) < (l.length : Int) := by omega
        obtain ⟨b0, b1, b2, b3, b4⟩ := hbx
        clear hbw
        by_cases hkn : k = 5
        · subst hkn
          go_wp2_with fail
          go_ret
          exact EqEnd.no (fun e => by have := congrArg Jl.length (HJ.out.1 e).2; rw [toL_len] at this; exact HLEN.out this) HBW.out
        · have hkf : (k == 5) = false := by rw [beq_eq_false_iff_ne]; exact hkn
          have HKN := Lib.hid hkn
          clear hkn
          go_wp2_with fail
          go_ret
          exact EqEnd.no (fun e => HKN.out (HJ.out.1 e).1) HBW.out
    have hlen := Decidable.not_not.1 hlen
    have hle : ((l.length : Int) == (kids.len : Int)) = true := by simp; omega
    have HLEN := Lib.hid hlen
    clear hlen
    by_cases hlt : i < l.length
    · skip
      have hi2 : (i : Int) < (l.length : Int) := by omega
      have hi3 : (i : Int) < (kids.len : Int) := by have := HLEN.out; omega
      obtain ⟨nn, v, hat⟩ := Jl.lt_at l i hlt
      obtain ⟨u', hu⟩ := Nl.lt_at kids i (by have := HLEN.out; omega)
      obtain ⟨g, off, y, rfl, _, hg, l0, hav⟩ := RowA.at l 0 i nn v HR.out hat
      rw [Nat.zero_add] at l0
      replace l0 := (hbw.cell hg).trans l0
      obtain ⟨⟨g', off', rfl, hg', hc⟩, hinu⟩ := Nl.in_at kids 0 i u' HI.out hu
      rw [Nat.zero_add] at hc
      have hfu := FitL.at (w := w) kids i u' HF.out hu
      have HC := Lib.hid (fun W (hb : Below w.heap.size w W) => HK.out i nn v hat S u' W y (hav.below hb) (HBA.out i nn v hat).2 (hinu.below hb) hfu)
      have HAT := Lib.hid hat
      have HUT := Lib.hid hu
      obtain ⟨J, hJ⟩ : ∃ J, toJ u' = J := ⟨_, rfl⟩
      have HJ' := Lib.hid hJ
      unfold EqEnd at HC
      rw [hJ] at HC
      have hgl := Nat.lt_of_lt_of_le hg' hbw.size
      obtain ⟨k', n', s', nv', names', kv', kids'⟩ := u'
      have e0 := (hbw.cell hg').trans (hc 0 (by omega))
      have e1 := (hbw.cell hg').trans (hc 1 (by omega))
      have e2 := (hbw.cell hg').trans (hc 2 (by omega))
      have e3 := (hbw.cell hg').trans (hc 3 (by omega))
      have e4 := (hbw.cell hg').trans (hc 4 (by omega))
      simp only [ntCells, Nat.add_zero, List.getElem?_cons_zero, List.getElem?_cons_succ] at e0 e1 e2 e3 e4
      unfold ntA ntCells at HC
      obtain ⟨b0, b1, b2, b3, b4⟩ := hbx
      clear hc hat hav hu hinu hfu hJ hbw
      have HS0 : wr.drew.cell? ⟨w.heap.size, 0, none⟩ = some (.int .u8 k) ∧ wr.drew.cell? ⟨w.heap.size, 1, none⟩ = some (.int .i64 n) ∧ wr.drew.cell? ⟨w.heap.size, 2, none⟩ = some (.string s) ∧ wr.drew.cell? ⟨w.heap.size, 3, none⟩ = some (.slice na names.length ncap) ∧ wr.drew.cell? ⟨w.heap.size, 4, none⟩ = some (.slice (some ⟨g', off', none⟩) kids.len kcap) ∧ wr.drew.cell? ⟨g, off + i, none⟩ = some (y) ∧ wr.drew.cell? ⟨g', off' + i * 5, none⟩ = some (.int .u8 k') ∧ wr.drew.cell? ⟨g', off' + i * 5 + 1, none⟩ = some (.int .i64 n') ∧ wr.drew.cell? ⟨g', off' + i * 5 + 2, none⟩ = some (.string s') ∧ wr.drew.cell? ⟨g', off' + i * 5 + 3, none⟩ = some (nv') ∧ wr.drew.cell? ⟨g', off' + i * 5 + 4, none⟩ = some (kv') ∧ Below w.heap.size w wr.drew := ⟨b0, b1, b2, b3, b4, l0, e0, e1, e2, e3, e4, HBW.out.drew⟩
      go_upto_region 20 with fail
      refine wp_region_held_drew (S := fun w' => w'.cell? ⟨w.heap.size, 0, none⟩ = some (.int .u8 k) ∧ w'.cell? ⟨w.heap.size, 1, none⟩ = some (.int .i64 n) ∧ w'.cell? ⟨w.heap.size, 2, none⟩ = some (.string s) ∧ w'.cell? ⟨w.heap.size, 3, none⟩ = some (.slice na names.length ncap) ∧ w'.cell? ⟨w.heap.size, 4, none⟩ = some (.slice (some ⟨g', off', none⟩) kids.len kcap) ∧ w'.cell? ⟨g, off + i, none⟩ = some (y) ∧ w'.cell? ⟨g', off' + i * 5, none⟩ = some (.int .u8 k') ∧ w'.cell? ⟨g', off' + i * 5 + 1, none⟩ = some (.int .i64 n') ∧ w'.cell? ⟨g', off' + i * 5 + 2, none⟩ = some (.string s') ∧ w'.cell? ⟨g', off' + i * 5 + 3, none⟩ = some (nv') ∧ w'.cell? ⟨g', off' + i * 5 + 4, none⟩ = some (kv') ∧ Below w.heap.size w w') (by kernel_rfl) HS0 (fun hH0 => ?_)
      refine takeH (i := 0) (d := 108) (v := ?_) rfl rfl (by kernel_rfl) (by kernel_rfl) (by kernel_rfl) (fun _ _ _ h => h) (Or.inl ⟨by rfl, ?y0⟩) hH0 ?_
      case y0 => intro w hSw; obtain ⟨hq0, hq1, hq2, hq3, hq4, hq5, hq6, hq7, hq8, hq9, hq10, hq11⟩ := hSw; go_simp; try with_reducible rfl
      try simp only [Act.put, List.setIfInBounds_toArray, List.set_cons_zero, List.set_cons_succ]
      refine takeH (i := 1) (d := 109) (v := ?_) rfl rfl (by kernel_rfl) (by kernel_rfl) (by kernel_rfl) (fun _ _ _ h => h) (Or.inl ⟨by rfl, ?y1⟩) hH0 ?_
      case y1 => intro w hSw; obtain ⟨hq0, hq1, hq2, hq3, hq4, hq5, hq6, hq7, hq8, hq9, hq10, hq11⟩ := hSw; go_simp; try with_reducible rfl
      try simp only [Act.put, List.setIfInBounds_toArray, List.set_cons_zero, List.set_cons_succ]
      refine takeH (i := 2) (d := 110) (v := ?_) rfl rfl (by kernel_rfl) (by kernel_rfl) (by kernel_rfl) (fun _ _ _ h => h) (Or.inl ⟨by rfl, ?y2⟩) hH0 ?_
      case y2 => intro w hSw; obtain ⟨hq0, hq1, hq2, hq3, hq4, hq5, hq6, hq7, hq8, hq9, hq10, hq11⟩ := hSw; go_simp; try with_reducible rfl
      try simp only [Act.put, List.setIfInBounds_toArray, List.set_cons_zero, List.set_cons_succ]
      refine takeH (i := 3) (d := 111) (v := ?_) rfl rfl (by kernel_rfl) (by kernel_rfl) (by kernel_rfl) (fun _ _ _ h => h) (Or.inl ⟨by rfl, ?y3⟩) hH0 ?_
      case y3 => intro w hSw; obtain ⟨hq0, hq1, hq2, hq3, hq4, hq5, hq6, hq7, hq8, hq9, hq10, hq11⟩ := hSw; go_simp; try with_reducible rfl
      try simp only [Act.put, List.setIfInBounds_toArray, List.set_cons_zero, List.set_cons_succ]
      refine takeH (i := 4) (d := 112) (v := ?_) rfl rfl (by kernel_rfl) (by kernel_rfl) (by kernel_rfl) (fun _ _ _ h => h) (Or.inl ⟨by rfl, ?y4⟩) hH0 ?_
      case y4 => intro w hSw; obtain ⟨hq0, hq1, hq2, hq3, hq4, hq5, hq6, hq7, hq8, hq9, hq10, hq11⟩ := hSw; go_simp; try with_reducible rfl
      try simp only [Act.put, List.setIfInBounds_toArray, List.set_cons_zero, List.set_cons_succ]
      refine takeH (i := 5) (d := 113) (v := ?_) rfl rfl (by kernel_rfl) (by kernel_rfl) (by kernel_rfl) (fun _ _ _ h => h) (Or.inl ⟨by rfl, ?y5⟩) hH0 ?_
      case y5 => intro w hSw; obtain ⟨hq0, hq1, hq2, hq3, hq4, hq5, hq6, hq7, hq8, hq9, hq10, hq11⟩ := hSw; go_simp; try with_reducible rfl
      try simp only [Act.put, List.setIfInBounds_toArray, List.set_cons_zero, List.set_cons_succ]
      refine takeH (i := 6) (d := 114) (v := ?_) rfl rfl (by kernel_rfl) (by kernel_rfl) (by kernel_rfl) (fun _ _ _ h => h) (Or.inl ⟨by rfl, ?y6⟩) hH0 ?_
      case y6 => intro w hSw; obtain ⟨hq0, hq1, hq2, hq3, hq4, hq5, hq6, hq7, hq8, hq9, hq10, hq11⟩ := hSw; go_simp; try with_reducible rfl
      try simp only [Act.put, List.setIfInBounds_toArray, List.set_cons_zero, List.set_cons_succ]
      refine takeH (i := 7) (d := 115) (v := ?_) rfl rfl (by kernel_rfl) (by kernel_rfl) (by kernel_rfl) (fun _ _ _ h => h) (Or.inl ⟨by rfl, ?y7⟩) hH0 ?_
      case y7 => intro w hSw; obtain ⟨hq0, hq1, hq2, hq3, hq4, hq5, hq6, hq7, hq8, hq9, hq10, hq11⟩ := hSw; go_simp; try with_reducible rfl
      try simp only [Act.put, List.setIfInBounds_toArray, List.set_cons_zero, List.set_cons_succ]
      refine takeH (i := 8) (d := 116) (v := ?_) rfl rfl (by kernel_rfl) (by kernel_rfl) (by kernel_rfl) (fun _ _ _ h => h) (Or.inl ⟨by rfl, ?y8⟩) hH0 ?_
      case y8 => intro w hSw; obtain ⟨hq0, hq1, hq2, hq3, hq4, hq5, hq6, hq7, hq8, hq9, hq10, hq11⟩ := hSw; go_simp; try with_reducible rfl
      try simp only [Act.put, List.setIfInBounds_toArray, List.set_cons_zero, List.set_cons_succ]
      refine wpAnyH_ready (rs := [9]) (by kernel_rfl) (by simp) ?_
      refine AllReadyH.cons rfl (fun K hK => ?_) AllReadyH.nil
      go_simp
      refine (HC.out _ hH0.2.2.2.2.2.2.2.2.2.2.2).mono ?_
      rintro e w' ⟨⟨b, rfl, hbb⟩, hb⟩
      have HBB := Lib.hid hbb
      clear hbb
      go_wp2_with fail
      refine hK.out _ _ (⟨cell_kept hb hH0.1, cell_kept hb hH0.2.1, cell_kept hb hH0.2.2.1, cell_kept hb hH0.2.2.2.1, cell_kept hb hH0.2.2.2.2.1, cell_kept hb hH0.2.2.2.2.2.1, cell_kept hb hH0.2.2.2.2.2.2.1, cell_kept hb hH0.2.2.2.2.2.2.2.1, cell_kept hb hH0.2.2.2.2.2.2.2.2.1, cell_kept hb hH0.2.2.2.2.2.2.2.2.2.1, cell_kept hb hH0.2.2.2.2.2.2.2.2.2.2.1, hH0.2.2.2.2.2.2.2.2.2.2.2.trans (hb.mono hH0.2.2.2.2.2.2.2.2.2.2.2.size)⟩) (fun hH1 => ?_)
      clear hK K hb hH0
      try simp only [Act.put, List.setIfInBounds_toArray, List.set_cons_zero, List.set_cons_succ]
      refine takeH (i := 10) (d := 118) (v := ?_) rfl rfl (by kernel_rfl) (by kernel_rfl) (by kernel_rfl) (fun _ _ _ h => h) (Or.inl ⟨by rfl, ?y10⟩) hH1 ?_
      case y10 => intro w hSw; obtain ⟨hq0, hq1, hq2, hq3, hq4, hq5, hq6, hq7, hq8, hq9, hq10, hq11⟩ := hSw; go_simp; try with_reducible rfl
      try simp only [Act.put, List.setIfInBounds_toArray, List.set_cons_zero, List.set_cons_succ]
      refine wpAnyH_done (by kernel_rfl) ?_ _
      have HBX2 : Hid (BoxAt _ w.heap.size k n s (.slice na names.length ncap) (.slice (some ⟨g', off', none⟩) kids.len kcap)) := Lib.hid ⟨hH1.1, hH1.2.1, hH1.2.2.1, hH1.2.2.2.1, hH1.2.2.2.2.1⟩
      have HBW2 := Lib.hid (hH1.2.2.2.2.2.2.2.2.2.2.2)
      clear hH1
      by_cases hbt : b = true
      · subst hbt
        go_wp2_with fail
        go_roundw
        case rel => exact ⟨i + 1, by omega, by go_num, Lib.hid (fun j n2 v2 u2 hj hv hu => by
          rcases Nat.lt_or_ge j i with h | h
          · exact HM.out j n2 v2 u2 h hv hu
          · obtain rfl : j = i := by omega
            rw [HAT.out] at hv
            rw [HUT.out] at hu
            injection hv with hv
            injection hv with hv1 hv2
            injection hu with hu
            rw [← hv2, ← hu, HJ'.out]
            exact HBB.out.1 rfl), HBX2.out, HBW2.out⟩
        case measure => simp [intOf]; omega
      · have hbt : b = false := by simpa using hbt
        subst hbt
        go_wp2_with fail
        go_ret
        exact EqEnd.no (fun e => by
          have h := (HJ.out.1 e).2
          have h2 := HAT.out
          rw [h, toL_at false kids [] i _ HUT.out] at h2
          injection h2 with h2
          injection h2 with h3 h4
          have := HBB.out.2 (by rw [← h4, HJ'.out])
          cases this) HBW2.out
    · have hi2 : ¬ (i : Int) < (l.length : Int) := by omega
      obtain ⟨b0, b1, b2, b3, b4⟩ := hbx
      clear hbw
      by_cases hkn : k = 5
      · subst hkn
        go_wp2_with fail
        go_ret
        exact EqEnd.yes (HJ.out.2 ⟨trivial, arr_is HBR.out HLEN.out (fun j n v u hj => HM.out j n v u (by omega))⟩) HBW.out
      · have hkf : (k == 5) = false := by rw [beq_eq_false_iff_ne]; exact hkn
        have HKN := Lib.hid hkn
        clear hkn
        go_wp2_with fail
        go_ret
        exact EqEnd.no (fun e => HKN.out (HJ.out.1 e).1) HBW.out
theorem eq_obj (l : Jl) (HK : ∀ i n v, l.at? i = some (n, v) → EqOk v) : EqOk (.obj l) := by
  intro S u w x hx hbr hin hfit
  rw [AnyAt] at hx
  obtain ⟨a, cap, rfl, h1, h2, hr⟩ := hx
  rw [bareV] at hbr
  obtain ⟨k, n, s, nv, names, kv, kids⟩ := u
  rw [Nt.In] at hin
  obtain ⟨⟨k0, k1⟩, ⟨n0, n1⟩, hs, ⟨na, ncap, rfl, nl, nm, hn⟩, ka, kcap, rfl, kl, km, hk⟩ := hin
  rw [Fit] at hfit
  obtain ⟨_, hlnm, _, hnm, hfk⟩ := hfit
  have hj : toJ (.mk k n s (.slice na names.length ncap) names (.slice ka kids.len kcap) kids) = .obj l ↔ k = 6 ∧ l = toL true names kids := by
    rcases toJ_cases k n s (.slice na names.length ncap) names (.slice ka kids.len kcap) kids k0 with ⟨h1, h⟩ | ⟨rfl, h⟩ | ⟨rfl, h⟩ | ⟨rfl, h⟩ | ⟨rfl, h⟩ | ⟨rfl, h⟩ | ⟨rfl, h⟩ | ⟨rfl, h⟩ <;> rw [h] <;> simp <;> first | exact eq_comm | omega
  have HJ := Lib.hid (show Js.obj l = toJ (.mk k n s (.slice na names.length ncap) names (.slice ka kids.len kcap) kids) ↔ k = 6 ∧ l = toL true names kids from ⟨fun e => hj.1 e.symm, fun e => (hj.2 e).symm⟩)
  have HBR := Lib.hid hbr
  have HBA := Lib.hid (fun i n v => bareL_at l i n v hbr)
  have HR := Lib.hid hr
  have HK := Lib.hid HK
  have HN := Lib.hid hn
  have HI := Lib.hid hk
  have HF := Lib.hid hfk
  have HLN := Lib.hid hlnm
  have hml : (l.length : Int) ≤ 9223372036854775807 := by rw [maxL] at h2; omega
  have hks : (kids.len : Int) ≤ 9223372036854775807 := by rw [maxL] at *; omega
  show Calls _ _ #[_, .agg #[.int .u8 k, .int .i64 n, .string s, .slice na names.length ncap, .slice ka kids.len kcap]] _ _
  have HX := Lib.hid (BoxAt.made w k n s (.slice na names.length ncap) (.slice ka kids.len kcap) 25)
  clear hj hr hn hk hfk hnm hbr hlnm
  have a0 := fun W => assert_no 20 59 58 (.slice a l.length cap) _ _ Tryz.underlying59 rfl zFlt (by decide) W
  have a1 := fun W => assert_no 20 4 58 (.slice a l.length cap) _ _ Tryz.underlying4 rfl zBool (by decide) W
  have a2 := fun W => assert_no 20 3 58 (.slice a l.length cap) _ _ Tryz.underlying3 rfl zInt (by decide) W
  have a3 := fun W => assert_no 20 9 58 (.slice a l.length cap) _ _ Tryz.underlying9 rfl zStr (by decide) W
  have a4 := fun W => assert_no 20 57 58 (.slice a l.length cap) _ _ Tryz.underlying57 rfl zLst (by decide) W
  have a5 := fun W => assert_yes 20 58 (.slice a l.length cap) _ Tryz.underlying58 rfl W
  by_cases h6 : 6 < k
  · have hd : decide (6 < k) = true := by simpa using h6
    go_enter Tryz.func16, Tryz.ntmps16
    go_wp2_with fail
    go_ret
    exact EqEnd.no (fun e => by have := (HJ.out.1 e).1; omega) (by go_grown)
  have hd : decide (6 < k) = false := by simp; omega
  go_enter Tryz.func16, Tryz.ntmps16
  go_wp2_with fail
  go_loopw [18] (fun z wr => ∃ (i : Nat), i ≤ l.length ∧ z = .int .i64 i ∧ Hid (∀ j n' v' u' t', j < i → l.at? j = some (n', v') → kids.at? j = some u' → names[j]? = some t' → v' = toJ u' ∧ n' = bI t') ∧ BoxAt wr w.heap.size k n s (.slice na names.length ncap) (.slice ka kids.len kcap) ∧ Below w.heap.size w wr) (fun z _ => l.length - (intOf z).toNat)
  case atStart => exact ⟨0, Nat.zero_le _, rfl, Lib.hid (fun j n' v' u' t' h => absurd h (Nat.not_lt_zero _)), HX.out, (Below.refl _ _).alloc (Nat.le_refl _) _⟩
  case round =>
    obtain ⟨i, hi, rfl, HM, hbx, hbw⟩ := hrel
    have HBX := Lib.hid hbx
    have HBW := Lib.hid hbw
    by_cases hlen : l.length ≠ kids.len
    · have hle : ((l.length : Int) == (kids.len : Int)) = false := by rw [beq_eq_false_iff_ne]; omega
      have HLEN := Lib.hid hlen
      clear hlen
      by_cases hlt : i < l.length
      · have hi2 : (i : Int) < (l.length : Int) := by omega
        obtain ⟨b0, b1, b2, b3, b4⟩ := hbx
        clear hbw
        by_cases hkn : k = 6
        · subst hkn
          go_wp2_with fail
          go_ret
          exact EqEnd.no (fun e => by have := congrArg Jl.length (HJ.out.1 e).2; rw [toL_len] at this; exact HLEN.out this) HBW.out
        · have hkf : (k == 6) = false := by rw [beq_eq_false_iff_ne]; exact hkn
          have HKN := Lib.hid hkn
          clear hkn
          go_wp2_with fail
          go_ret
          exact EqEnd.no (fun e => HKN.out (HJ.out.1 e).1) HBW.out
      · have hi2 : ¬ (i : Int) < (l.length : Int) := by omega
        obtain ⟨b0, b1, b2, b3, b4⟩ := hbx
        clear hbw
        by_cases hkn : k = 6
        · subst hkn
          go_wp2_with fail
          go_ret
          exact EqEnd.no (fun e => by have := congrArg Jl.length (HJ.out.1 e).2; rw [toL_len] at this; exact HLEN.out this) HBW.out
        · have hkf : (k == 6) = false := by rw [beq_eq_false_iff_ne]; exact hkn
          have HKN := Lib.hid hkn
          clear hkn
          go_wp2_with fail
          go_ret
          exact EqEnd.no (fun e => HKN.out (HJ.out.1 e).1) HBW.out
    have hlen := Decidable.not_not.1 hlen
    have hle : ((l.length : Int) == (kids.len : Int)) = true := by simp; omega
    have HLEN := Lib.hid hlen
    clear hlen
    by_cases hlt : i < l.length
    · by_cases hkn : k ≠ 6
      · have hkf : (k == 6) = false := by rw [beq_eq_false_iff_ne]; exact hkn
        have hi2 : (i : Int) < (l.length : Int) := by omega
        have HKN := Lib.hid hkn
        clear hkn
        obtain ⟨b0, b1, b2, b3, b4⟩ := hbx
        clear hbw
        go_wp2_with fail
        go_ret
        exact EqEnd.no (fun e => HKN.out (HJ.out.1 e).1) HBW.out
      have hkn := Decidable.not_not.1 hkn
      subst hkn
      have hnl : i < names.length := by have := HLN.out rfl; have := HLEN.out; omega
      have hi2 : (i : Int) < (l.length : Int) := by omega
      have hi3 : (i : Int) < (kids.len : Int) := by have := HLEN.out; omega
      obtain ⟨nn, v, hat⟩ := Jl.lt_at l i hlt
      obtain ⟨u', hu⟩ := Nl.lt_at kids i (by have := HLEN.out; omega)
      obtain ⟨g, off, y, t, rfl, _, hg, l0, hbt, _, l1, hav⟩ := RowP.at l 0 i nn v HR.out hat
      rw [Nat.zero_add] at l0 l1
      replace l0 := (hbw.cell hg).trans l0
      replace l1 := (hbw.cell hg).trans l1
      obtain ⟨tn, htn⟩ : ∃ tn, names[i]? = some tn := ⟨_, List.getElem?_eq_getElem hnl⟩
      obtain ⟨gn, on, rfl, hgn, m0, _⟩ := HN.out i tn htn
      replace m0 := (hbw.cell hgn).trans m0
      have HTN := Lib.hid htn
      have HBT := Lib.hid hbt
      have hi4 : (i : Int) < (names.length : Int) := by omega
      clear htn hbt
      obtain ⟨⟨g', off', rfl, hg', hc⟩, hinu⟩ := Nl.in_at kids 0 i u' HI.out hu
      rw [Nat.zero_add] at hc
      have hfu := FitL.at (w := w) kids i u' HF.out hu
      have HC := Lib.hid (fun W (hb : Below w.heap.size w W) => HK.out i nn v hat S u' W y (hav.below hb) (HBA.out i nn v hat).2 (hinu.below hb) hfu)
      have HAT := Lib.hid hat
      have HUT := Lib.hid hu
      obtain ⟨J, hJ⟩ : ∃ J, toJ u' = J := ⟨_, rfl⟩
      have HJ' := Lib.hid hJ
      unfold EqEnd at HC
      rw [hJ] at HC
      have hgl := Nat.lt_of_lt_of_le hg' hbw.size
      obtain ⟨k', n', s', nv', names', kv', kids'⟩ := u'
      have e0 := (hbw.cell hg').trans (hc 0 (by omega))
      have e1 := (hbw.cell hg').trans (hc 1 (by omega))
      have e2 := (hbw.cell hg').trans (hc 2 (by omega))
      have e3 := (hbw.cell hg').trans (hc 3 (by omega))
      have e4 := (hbw.cell hg').trans (hc 4 (by omega))
      simp only [ntCells, Nat.add_zero, List.getElem?_cons_zero, List.getElem?_cons_succ] at e0 e1 e2 e3 e4
      unfold ntA ntCells at HC
      obtain ⟨b0, b1, b2, b3, b4⟩ := hbx
      clear hc hat hav hu hinu hfu hJ hbw
      have HS0 : wr.drew.cell? ⟨w.heap.size, 0, none⟩ = some (.int .u8 6) ∧ wr.drew.cell? ⟨w.heap.size, 1, none⟩ = some (.int .i64 n) ∧ wr.drew.cell? ⟨w.heap.size, 2, none⟩ = some (.string s) ∧ wr.drew.cell? ⟨w.heap.size, 3, none⟩ = some (.slice (some ⟨gn, on, none⟩) names.length ncap) ∧ wr.drew.cell? ⟨w.heap.size, 4, none⟩ = some (.slice (some ⟨g', off', none⟩) kids.len kcap) ∧ wr.drew.cell? ⟨g, off + i * 2, none⟩ = some (.string t) ∧ wr.drew.cell? ⟨g, off + i * 2 + 1, none⟩ = some (y) ∧ wr.drew.cell? ⟨gn, on + i, none⟩ = some (.string tn) ∧ wr.drew.cell? ⟨g', off' + i * 5, none⟩ = some (.int .u8 k') ∧ wr.drew.cell? ⟨g', off' + i * 5 + 1, none⟩ = some (.int .i64 n') ∧ wr.drew.cell? ⟨g', off' + i * 5 + 2, none⟩ = some (.string s') ∧ wr.drew.cell? ⟨g', off' + i * 5 + 3, none⟩ = some (nv') ∧ wr.drew.cell? ⟨g', off' + i * 5 + 4, none⟩ = some (kv') ∧ Below w.heap.size w wr.drew := ⟨b0, b1, b2, b3, b4, l0, l1, m0, e0, e1, e2, e3, e4, HBW.out.drew⟩
      by_cases hts : t ≠ tn
      · have hq := str_no hts
        have HTS := Lib.hid hts
        clear hts
        go_upto_region 27 with fail
        refine wp_region_held_drew (S := fun w' => w'.cell? ⟨w.heap.size, 0, none⟩ = some (.int .u8 6) ∧ w'.cell? ⟨w.heap.size, 1, none⟩ = some (.int .i64 n) ∧ w'.cell? ⟨w.heap.size, 2, none⟩ = some (.string s) ∧ w'.cell? ⟨w.heap.size, 3, none⟩ = some (.slice (some ⟨gn, on, none⟩) names.length ncap) ∧ w'.cell? ⟨w.heap.size, 4, none⟩ = some (.slice (some ⟨g', off', none⟩) kids.len kcap) ∧ w'.cell? ⟨g, off + i * 2, none⟩ = some (.string t) ∧ w'.cell? ⟨g, off + i * 2 + 1, none⟩ = some (y) ∧ w'.cell? ⟨gn, on + i, none⟩ = some (.string tn) ∧ w'.cell? ⟨g', off' + i * 5, none⟩ = some (.int .u8 k') ∧ w'.cell? ⟨g', off' + i * 5 + 1, none⟩ = some (.int .i64 n') ∧ w'.cell? ⟨g', off' + i * 5 + 2, none⟩ = some (.string s') ∧ w'.cell? ⟨g', off' + i * 5 + 3, none⟩ = some (nv') ∧ w'.cell? ⟨g', off' + i * 5 + 4, none⟩ = some (kv') ∧ Below w.heap.size w w') (by kernel_rfl) HS0 (fun hH0 => ?_)
        refine takeH (i := 0) (d := 154) (v := ?_) rfl rfl (by kernel_rfl) (by kernel_rfl) (by kernel_rfl) (fun _ _ _ h => h) (Or.inl ⟨by rfl, ?ya0⟩) hH0 ?_
        case ya0 => intro w hSw; obtain ⟨hq0, hq1, hq2, hq3, hq4, hq5, hq6, hq7, hq8, hq9, hq10, hq11, hq12, hq13⟩ := hSw; go_simp; try with_reducible rfl
        try simp only [Act.put, List.setIfInBounds_toArray, List.set_cons_zero, List.set_cons_succ]
        refine takeH (i := 1) (d := 155) (v := ?_) rfl rfl (by kernel_rfl) (by kernel_rfl) (by kernel_rfl) (fun _ _ _ h => h) (Or.inl ⟨by rfl, ?ya1⟩) hH0 ?_
        case ya1 => intro w hSw; obtain ⟨hq0, hq1, hq2, hq3, hq4, hq5, hq6, hq7, hq8, hq9, hq10, hq11, hq12, hq13⟩ := hSw; go_simp; try with_reducible rfl
        try simp only [Act.put, List.setIfInBounds_toArray, List.set_cons_zero, List.set_cons_succ]
        refine takeH (i := 2) (d := 156) (v := ?_) rfl rfl (by kernel_rfl) (by kernel_rfl) (by kernel_rfl) (fun _ _ _ h => h) (Or.inl ⟨by rfl, ?ya2⟩) hH0 ?_
        case ya2 => intro w hSw; obtain ⟨hq0, hq1, hq2, hq3, hq4, hq5, hq6, hq7, hq8, hq9, hq10, hq11, hq12, hq13⟩ := hSw; go_simp; try with_reducible rfl
        try simp only [Act.put, List.setIfInBounds_toArray, List.set_cons_zero, List.set_cons_succ]
        refine takeH (i := 3) (d := 157) (v := ?_) rfl rfl (by kernel_rfl) (by kernel_rfl) (by kernel_rfl) (fun _ _ _ h => h) (Or.inl ⟨by rfl, ?ya3⟩) hH0 ?_
        case ya3 => intro w hSw; obtain ⟨hq0, hq1, hq2, hq3, hq4, hq5, hq6, hq7, hq8, hq9, hq10, hq11, hq12, hq13⟩ := hSw; go_simp; try with_reducible rfl
        try simp only [Act.put, List.setIfInBounds_toArray, List.set_cons_zero, List.set_cons_succ]
        refine takeH (i := 4) (d := 158) (v := ?_) rfl rfl (by kernel_rfl) (by kernel_rfl) (by kernel_rfl) (fun _ _ _ h => h) (Or.inl ⟨by rfl, ?ya4⟩) hH0 ?_
        case ya4 => intro w hSw; obtain ⟨hq0, hq1, hq2, hq3, hq4, hq5, hq6, hq7, hq8, hq9, hq10, hq11, hq12, hq13⟩ := hSw; go_simp; try with_reducible rfl
        try simp only [Act.put, List.setIfInBounds_toArray, List.set_cons_zero, List.set_cons_succ]
        refine takeH (i := 5) (d := 159) (v := ?_) rfl rfl (by kernel_rfl) (by kernel_rfl) (by kernel_rfl) (fun _ _ _ h => h) (Or.inl ⟨by rfl, ?ya5⟩) hH0 ?_
        case ya5 => intro w hSw; obtain ⟨hq0, hq1, hq2, hq3, hq4, hq5, hq6, hq7, hq8, hq9, hq10, hq11, hq12, hq13⟩ := hSw; go_simp; try with_reducible rfl
        try simp only [Act.put, List.setIfInBounds_toArray, List.set_cons_zero, List.set_cons_succ]
        refine takeH (i := 6) (d := 160) (v := ?_) rfl rfl (by kernel_rfl) (by kernel_rfl) (by kernel_rfl) (fun _ _ _ h => h) (Or.inl ⟨by rfl, ?ya6⟩) hH0 ?_
        case ya6 => intro w hSw; obtain ⟨hq0, hq1, hq2, hq3, hq4, hq5, hq6, hq7, hq8, hq9, hq10, hq11, hq12, hq13⟩ := hSw; go_simp; try with_reducible rfl
        try simp only [Act.put, List.setIfInBounds_toArray, List.set_cons_zero, List.set_cons_succ]
        refine takeH (i := 7) (d := 161) (v := ?_) rfl rfl (by kernel_rfl) (by kernel_rfl) (by kernel_rfl) (fun _ _ _ h => h) (Or.inl ⟨by rfl, ?ya7⟩) hH0 ?_
        case ya7 => intro w hSw; obtain ⟨hq0, hq1, hq2, hq3, hq4, hq5, hq6, hq7, hq8, hq9, hq10, hq11, hq12, hq13⟩ := hSw; go_simp; try with_reducible rfl
        try simp only [Act.put, List.setIfInBounds_toArray, List.set_cons_zero, List.set_cons_succ]
        refine takeH (i := 8) (d := 162) (v := ?_) rfl rfl (by kernel_rfl) (by kernel_rfl) (by kernel_rfl) (fun _ _ _ h => h) (Or.inl ⟨by rfl, ?ya8⟩) hH0 ?_
        case ya8 => intro w hSw; obtain ⟨hq0, hq1, hq2, hq3, hq4, hq5, hq6, hq7, hq8, hq9, hq10, hq11, hq12, hq13⟩ := hSw; go_simp; try with_reducible rfl
        try simp only [Act.put, List.setIfInBounds_toArray, List.set_cons_zero, List.set_cons_succ]
        refine takeH (i := 9) (d := 163) (v := ?_) rfl rfl (by kernel_rfl) (by kernel_rfl) (by kernel_rfl) (fun _ _ _ h => h) (Or.inl ⟨by rfl, ?ya9⟩) hH0 ?_
        case ya9 => intro w hSw; obtain ⟨hq0, hq1, hq2, hq3, hq4, hq5, hq6, hq7, hq8, hq9, hq10, hq11, hq12, hq13⟩ := hSw; go_simp; try with_reducible rfl
        try simp only [Act.put, List.setIfInBounds_toArray, List.set_cons_zero, List.set_cons_succ]
        refine takeH (i := 10) (d := 164) (v := ?_) rfl rfl (by kernel_rfl) (by kernel_rfl) (by kernel_rfl) (fun _ _ _ h => h) (Or.inl ⟨by rfl, ?ya10⟩) hH0 ?_
        case ya10 => intro w hSw; obtain ⟨hq0, hq1, hq2, hq3, hq4, hq5, hq6, hq7, hq8, hq9, hq10, hq11, hq12, hq13⟩ := hSw; go_simp; try with_reducible rfl
        try simp only [Act.put, List.setIfInBounds_toArray, List.set_cons_zero, List.set_cons_succ]
        refine takeH (i := 11) (d := 165) (v := ?_) rfl rfl (by kernel_rfl) (by kernel_rfl) (by kernel_rfl) (fun _ _ _ h => h) (Or.inl ⟨by rfl, ?ya11⟩) hH0 ?_
        case ya11 => intro w hSw; obtain ⟨hq0, hq1, hq2, hq3, hq4, hq5, hq6, hq7, hq8, hq9, hq10, hq11, hq12, hq13⟩ := hSw; go_simp; try with_reducible rfl
        try simp only [Act.put, List.setIfInBounds_toArray, List.set_cons_zero, List.set_cons_succ]
        refine takeH (i := 12) (d := 166) (v := undef) rfl rfl (by kernel_rfl) (by kernel_rfl) (by kernel_rfl) (fun _ _ _ h => h) (Or.inr ⟨by rfl, rfl⟩) hH0 ?_
        try simp only [Act.put, List.setIfInBounds_toArray, List.set_cons_zero, List.set_cons_succ]
        refine takeH (i := 13) (d := 167) (v := undef) rfl rfl (by kernel_rfl) (by kernel_rfl) (by kernel_rfl) (fun _ _ _ h => h) (Or.inr ⟨by rfl, rfl⟩) hH0 ?_
        try simp only [Act.put, List.setIfInBounds_toArray, List.set_cons_zero, List.set_cons_succ]
        refine takeH (i := 14) (d := 168) (v := undef) rfl rfl (by kernel_rfl) (by kernel_rfl) (by kernel_rfl) (fun _ _ _ h => h) (Or.inr ⟨by rfl, rfl⟩) hH0 ?_
        try simp only [Act.put, List.setIfInBounds_toArray, List.set_cons_zero, List.set_cons_succ]
        refine takeH (i := 15) (d := 169) (v := undef) rfl rfl (by kernel_rfl) (by kernel_rfl) (by kernel_rfl) (fun _ _ _ h => h) (Or.inr ⟨by rfl, rfl⟩) hH0 ?_
        try simp only [Act.put, List.setIfInBounds_toArray, List.set_cons_zero, List.set_cons_succ]
        refine takeH (i := 16) (d := 170) (v := undef) rfl rfl (by kernel_rfl) (by kernel_rfl) (by kernel_rfl) (fun _ _ _ h => h) (Or.inr ⟨by rfl, rfl⟩) hH0 ?_
        try simp only [Act.put, List.setIfInBounds_toArray, List.set_cons_zero, List.set_cons_succ]
        refine takeH (i := 17) (d := 171) (v := undef) rfl rfl (by kernel_rfl) (by kernel_rfl) (by kernel_rfl) (fun _ _ _ h => h) (Or.inr ⟨by rfl, rfl⟩) hH0 ?_
        try simp only [Act.put, List.setIfInBounds_toArray, List.set_cons_zero, List.set_cons_succ]
        refine takeH (i := 18) (d := 172) (v := undef) rfl rfl (by kernel_rfl) (by kernel_rfl) (by kernel_rfl) (fun _ _ _ h => h) (Or.inr ⟨by rfl, rfl⟩) hH0 ?_
        try simp only [Act.put, List.setIfInBounds_toArray, List.set_cons_zero, List.set_cons_succ]
        refine takeH (i := 19) (d := 173) (v := undef) rfl rfl (by kernel_rfl) (by kernel_rfl) (by kernel_rfl) (fun _ _ _ h => h) (Or.inr ⟨by rfl, rfl⟩) hH0 ?_
        try simp only [Act.put, List.setIfInBounds_toArray, List.set_cons_zero, List.set_cons_succ]
        refine takeH (i := 20) (d := 174) (v := undef) rfl rfl (by kernel_rfl) (by kernel_rfl) (by kernel_rfl) (fun _ _ _ h => h) (Or.inr ⟨by rfl, rfl⟩) hH0 ?_
        try simp only [Act.put, List.setIfInBounds_toArray, List.set_cons_zero, List.set_cons_succ]
        refine takeH (i := 21) (d := 175) (v := undef) rfl rfl (by kernel_rfl) (by kernel_rfl) (by kernel_rfl) (fun _ _ _ h => h) (Or.inr ⟨by rfl, rfl⟩) hH0 ?_
        try simp only [Act.put, List.setIfInBounds_toArray, List.set_cons_zero, List.set_cons_succ]
        refine takeH (i := 22) (d := 176) (v := undef) rfl rfl (by kernel_rfl) (by kernel_rfl) (by kernel_rfl) (fun _ _ _ h => h) (Or.inr ⟨by rfl, rfl⟩) hH0 ?_
        try simp only [Act.put, List.setIfInBounds_toArray, List.set_cons_zero, List.set_cons_succ]
        refine takeH (i := 23) (d := 177) (v := undef) rfl rfl (by kernel_rfl) (by kernel_rfl) (by kernel_rfl) (fun _ _ _ h => h) (Or.inr ⟨by rfl, rfl⟩) hH0 ?_
        try simp only [Act.put, List.setIfInBounds_toArray, List.set_cons_zero, List.set_cons_succ]
        refine takeH (i := 24) (d := 178) (v := ?_) rfl rfl (by kernel_rfl) (by kernel_rfl) (by kernel_rfl) (fun _ _ _ h => h) (Or.inl ⟨by rfl, ?ya24⟩) hH0 ?_
        case ya24 => intro w hSw; obtain ⟨hq0, hq1, hq2, hq3, hq4, hq5, hq6, hq7, hq8, hq9, hq10, hq11, hq12, hq13⟩ := hSw; go_simp; try with_reducible rfl
        try simp only [Act.put, List.setIfInBounds_toArray, List.set_cons_zero, List.set_cons_succ]
        refine wpAnyH_done (by kernel_rfl) ?_ _
        go_wp2_with fail
        go_ret
        exact EqEnd.no (fun e => by
          have h := (HJ.out.1 e).2
          have h2 := HAT.out
          rw [h, toL_at true kids names i _ HUT.out, List.getD_eq_getElem?_getD, HTN.out] at h2
          injection h2 with h2
          injection h2 with h3 h4
          simp only [if_true, Option.getD_some] at h3
          exact HTS.out (bI_inj (HBT.out.trans h3.symm))) hH0.2.2.2.2.2.2.2.2.2.2.2.2.2
      have hts := Decidable.not_not.1 hts
      have hq := str_yes hts
      have HTS := Lib.hid hts
      clear hts
      go_upto_region 27 with fail
      refine wp_region_held_drew (S := fun w' => w'.cell? ⟨w.heap.size, 0, none⟩ = some (.int .u8 6) ∧ w'.cell? ⟨w.heap.size, 1, none⟩ = some (.int .i64 n) ∧ w'.cell? ⟨w.heap.size, 2, none⟩ = some (.string s) ∧ w'.cell? ⟨w.heap.size, 3, none⟩ = some (.slice (some ⟨gn, on, none⟩) names.length ncap) ∧ w'.cell? ⟨w.heap.size, 4, none⟩ = some (.slice (some ⟨g', off', none⟩) kids.len kcap) ∧ w'.cell? ⟨g, off + i * 2, none⟩ = some (.string t) ∧ w'.cell? ⟨g, off + i * 2 + 1, none⟩ = some (y) ∧ w'.cell? ⟨gn, on + i, none⟩ = some (.string tn) ∧ w'.cell? ⟨g', off' + i * 5, none⟩ = some (.int .u8 k') ∧ w'.cell? ⟨g', off' + i * 5 + 1, none⟩ = some (.int .i64 n') ∧ w'.cell? ⟨g', off' + i * 5 + 2, none⟩ = some (.string s') ∧ w'.cell? ⟨g', off' + i * 5 + 3, none⟩ = some (nv') ∧ w'.cell? ⟨g', off' + i * 5 + 4, none⟩ = some (kv') ∧ Below w.heap.size w w') (by kernel_rfl) HS0 (fun hH0 => ?_)
      refine takeH (i := 0) (d := 154) (v := ?_) rfl rfl (by kernel_rfl) (by kernel_rfl) (by kernel_rfl) (fun _ _ _ h => h) (Or.inl ⟨by rfl, ?yb0⟩) hH0 ?_
      case yb0 => intro w hSw; obtain ⟨hq0, hq1, hq2, hq3, hq4, hq5, hq6, hq7, hq8, hq9, hq10, hq11, hq12, hq13⟩ := hSw; go_simp; try with_reducible rfl
      try simp only [Act.put, List.setIfInBounds_toArray, List.set_cons_zero, List.set_cons_succ]
      refine takeH (i := 1) (d := 155) (v := ?_) rfl rfl (by kernel_rfl) (by kernel_rfl) (by kernel_rfl) (fun _ _ _ h => h) (Or.inl ⟨by rfl, ?yb1⟩) hH0 ?_
      case yb1 => intro w hSw; obtain ⟨hq0, hq1, hq2, hq3, hq4, hq5, hq6, hq7, hq8, hq9, hq10, hq11, hq12, hq13⟩ := hSw; go_simp; try with_reducible rfl
      try simp only [Act.put, List.setIfInBounds_toArray, List.set_cons_zero, List.set_cons_succ]
      refine takeH (i := 2) (d := 156) (v := ?_) rfl rfl (by kernel_rfl) (by kernel_rfl) (by kernel_rfl) (fun _ _ _ h => h) (Or.inl ⟨by rfl, ?yb2⟩) hH0 ?_
      case yb2 => intro w hSw; obtain ⟨hq0, hq1, hq2, hq3, hq4, hq5, hq6, hq7, hq8, hq9, hq10, hq11, hq12, hq13⟩ := hSw; go_simp; try with_reducible rfl
      try simp only [Act.put, List.setIfInBounds_toArray, List.set_cons_zero, List.set_cons_succ]
      refine takeH (i := 3) (d := 157) (v := ?_) rfl rfl (by kernel_rfl) (by kernel_rfl) (by kernel_rfl) (fun _ _ _ h => h) (Or.inl ⟨by rfl, ?yb3⟩) hH0 ?_
      case yb3 => intro w hSw; obtain ⟨hq0, hq1, hq2, hq3, hq4, hq5, hq6, hq7, hq8, hq9, hq10, hq11, hq12, hq13⟩ := hSw; go_simp; try with_reducible rfl
      try simp only [Act.put, List.setIfInBounds_toArray, List.set_cons_zero, List.set_cons_succ]
      refine takeH (i := 4) (d := 158) (v := ?_) rfl rfl (by kernel_rfl) (by kernel_rfl) (by kernel_rfl) (fun _ _ _ h => h) (Or.inl ⟨by rfl, ?yb4⟩) hH0 ?_
      case yb4 => intro w hSw; obtain ⟨hq0, hq1, hq2, hq3, hq4, hq5, hq6, hq7, hq8, hq9, hq10, hq11, hq12, hq13⟩ := hSw; go_simp; try with_reducible rfl
      try simp only [Act.put, List.setIfInBounds_toArray, List.set_cons_zero, List.set_cons_succ]
      refine takeH (i := 5) (d := 159) (v := ?_) rfl rfl (by kernel_rfl) (by kernel_rfl) (by kernel_rfl) (fun _ _ _ h => h) (Or.inl ⟨by rfl, ?yb5⟩) hH0 ?_
      case yb5 => intro w hSw; obtain ⟨hq0, hq1, hq2, hq3, hq4, hq5, hq6, hq7, hq8, hq9, hq10, hq11, hq12, hq13⟩ := hSw; go_simp; try with_reducible rfl
      try simp only [Act.put, List.setIfInBounds_toArray, List.set_cons_zero, List.set_cons_succ]
      refine takeH (i := 6) (d := 160) (v := ?_) rfl rfl (by kernel_rfl) (by kernel_rfl) (by kernel_rfl) (fun _ _ _ h => h) (Or.inl ⟨by rfl, ?yb6⟩) hH0 ?_
      case yb6 => intro w hSw; obtain ⟨hq0, hq1, hq2, hq3, hq4, hq5, hq6, hq7, hq8, hq9, hq10, hq11, hq12, hq13⟩ := hSw; go_simp; try with_reducible rfl
      try simp only [Act.put, List.setIfInBounds_toArray, List.set_cons_zero, List.set_cons_succ]
      refine takeH (i := 7) (d := 161) (v := ?_) rfl rfl (by kernel_rfl) (by kernel_rfl) (by kernel_rfl) (fun _ _ _ h => h) (Or.inl ⟨by rfl, ?yb7⟩) hH0 ?_
      case yb7 => intro w hSw; obtain ⟨hq0, hq1, hq2, hq3, hq4, hq5, hq6, hq7, hq8, hq9, hq10, hq11, hq12, hq13⟩ := hSw; go_simp; try with_reducible rfl
      try simp only [Act.put, List.setIfInBounds_toArray, List.set_cons_zero, List.set_cons_succ]
      refine takeH (i := 8) (d := 162) (v := ?_) rfl rfl (by kernel_rfl) (by kernel_rfl) (by kernel_rfl) (fun _ _ _ h => h) (Or.inl ⟨by rfl, ?yb8⟩) hH0 ?_
      case yb8 => intro w hSw; obtain ⟨hq0, hq1, hq2, hq3, hq4, hq5, hq6, hq7, hq8, hq9, hq10, hq11, hq12, hq13⟩ := hSw; go_simp; try with_reducible rfl
      try simp only [Act.put, List.setIfInBounds_toArray, List.set_cons_zero, List.set_cons_succ]
      refine takeH (i := 9) (d := 163) (v := ?_) rfl rfl (by kernel_rfl) (by kernel_rfl) (by kernel_rfl) (fun _ _ _ h => h) (Or.inl ⟨by rfl, ?yb9⟩) hH0 ?_
      case yb9 => intro w hSw; obtain ⟨hq0, hq1, hq2, hq3, hq4, hq5, hq6, hq7, hq8, hq9, hq10, hq11, hq12, hq13⟩ := hSw; go_simp; try with_reducible rfl
      try simp only [Act.put, List.setIfInBounds_toArray, List.set_cons_zero, List.set_cons_succ]
      refine takeH (i := 10) (d := 164) (v := ?_) rfl rfl (by kernel_rfl) (by kernel_rfl) (by kernel_rfl) (fun _ _ _ h => h) (Or.inl ⟨by rfl, ?yb10⟩) hH0 ?_
      case yb10 => intro w hSw; obtain ⟨hq0, hq1, hq2, hq3, hq4, hq5, hq6, hq7, hq8, hq9, hq10, hq11, hq12, hq13⟩ := hSw; go_simp; try with_reducible rfl
      try simp only [Act.put, List.setIfInBounds_toArray, List.set_cons_zero, List.set_cons_succ]
      refine takeH (i := 11) (d := 165) (v := ?_) rfl rfl (by kernel_rfl) (by kernel_rfl) (by kernel_rfl) (fun _ _ _ h => h) (Or.inl ⟨by rfl, ?yb11⟩) hH0 ?_
      case yb11 => intro w hSw; obtain ⟨hq0, hq1, hq2, hq3, hq4, hq5, hq6, hq7, hq8, hq9, hq10, hq11, hq12, hq13⟩ := hSw; go_simp; try with_reducible rfl
      try simp only [Act.put, List.setIfInBounds_toArray, List.set_cons_zero, List.set_cons_succ]
      refine takeH (i := 12) (d := 166) (v := ?_) rfl rfl (by kernel_rfl) (by kernel_rfl) (by kernel_rfl) (fun _ _ _ h => h) (Or.inl ⟨by rfl, ?yb12⟩) hH0 ?_
      case yb12 => intro w hSw; obtain ⟨hq0, hq1, hq2, hq3, hq4, hq5, hq6, hq7, hq8, hq9, hq10, hq11, hq12, hq13⟩ := hSw; go_simp; try with_reducible rfl
      try simp only [Act.put, List.setIfInBounds_toArray, List.set_cons_zero, List.set_cons_succ]
      refine takeH (i := 13) (d := 167) (v := ?_) rfl rfl (by kernel_rfl) (by kernel_rfl) (by kernel_rfl) (fun _ _ _ h => h) (Or.inl ⟨by rfl, ?yb13⟩) hH0 ?_
      case yb13 => intro w hSw; obtain ⟨hq0, hq1, hq2, hq3, hq4, hq5, hq6, hq7, hq8, hq9, hq10, hq11, hq12, hq13⟩ := hSw; go_simp; try with_reducible rfl
      try simp only [Act.put, List.setIfInBounds_toArray, List.set_cons_zero, List.set_cons_succ]
      refine takeH (i := 14) (d := 168) (v := ?_) rfl rfl (by kernel_rfl) (by kernel_rfl) (by kernel_rfl) (fun _ _ _ h => h) (Or.inl ⟨by rfl, ?yb14⟩) hH0 ?_
      case yb14 => intro w hSw; obtain ⟨hq0, hq1, hq2, hq3, hq4, hq5, hq6, hq7, hq8, hq9, hq10, hq11, hq12, hq13⟩ := hSw; go_simp; try with_reducible rfl
      try simp only [Act.put, List.setIfInBounds_toArray, List.set_cons_zero, List.set_cons_succ]
      refine takeH (i := 15) (d := 169) (v := ?_) rfl rfl (by kernel_rfl) (by kernel_rfl) (by kernel_rfl) (fun _ _ _ h => h) (Or.inl ⟨by rfl, ?yb15⟩) hH0 ?_
      case yb15 => intro w hSw; obtain ⟨hq0, hq1, hq2, hq3, hq4, hq5, hq6, hq7, hq8, hq9, hq10, hq11, hq12, hq13⟩ := hSw; go_simp; try with_reducible rfl
      try simp only [Act.put, List.setIfInBounds_toArray, List.set_cons_zero, List.set_cons_succ]
      refine takeH (i := 16) (d := 170) (v := ?_) rfl rfl (by kernel_rfl) (by kernel_rfl) (by kernel_rfl) (fun _ _ _ h => h) (Or.inl ⟨by rfl, ?yb16⟩) hH0 ?_
      case yb16 => intro w hSw; obtain ⟨hq0, hq1, hq2, hq3, hq4, hq5, hq6, hq7, hq8, hq9, hq10, hq11, hq12, hq13⟩ := hSw; go_simp; try with_reducible rfl
      try simp only [Act.put, List.setIfInBounds_toArray, List.set_cons_zero, List.set_cons_succ]
      refine takeH (i := 17) (d := 171) (v := ?_) rfl rfl (by kernel_rfl) (by kernel_rfl) (by kernel_rfl) (fun _ _ _ h => h) (Or.inl ⟨by rfl, ?yb17⟩) hH0 ?_
      case yb17 => intro w hSw; obtain ⟨hq0, hq1, hq2, hq3, hq4, hq5, hq6, hq7, hq8, hq9, hq10, hq11, hq12, hq13⟩ := hSw; go_simp; try with_reducible rfl
      try simp only [Act.put, List.setIfInBounds_toArray, List.set_cons_zero, List.set_cons_succ]
      refine takeH (i := 18) (d := 172) (v := ?_) rfl rfl (by kernel_rfl) (by kernel_rfl) (by kernel_rfl) (fun _ _ _ h => h) (Or.inl ⟨by rfl, ?yb18⟩) hH0 ?_
      case yb18 => intro w hSw; obtain ⟨hq0, hq1, hq2, hq3, hq4, hq5, hq6, hq7, hq8, hq9, hq10, hq11, hq12, hq13⟩ := hSw; go_simp; try with_reducible rfl
      try simp only [Act.put, List.setIfInBounds_toArray, List.set_cons_zero, List.set_cons_succ]
      refine takeH (i := 19) (d := 173) (v := ?_) rfl rfl (by kernel_rfl) (by kernel_rfl) (by kernel_rfl) (fun _ _ _ h => h) (Or.inl ⟨by rfl, ?yb19⟩) hH0 ?_
      case yb19 => intro w hSw; obtain ⟨hq0, hq1, hq2, hq3, hq4, hq5, hq6, hq7, hq8, hq9, hq10, hq11, hq12, hq13⟩ := hSw; go_simp; try with_reducible rfl
      try simp only [Act.put, List.setIfInBounds_toArray, List.set_cons_zero, List.set_cons_succ]
      refine takeH (i := 20) (d := 174) (v := ?_) rfl rfl (by kernel_rfl) (by kernel_rfl) (by kernel_rfl) (fun _ _ _ h => h) (Or.inl ⟨by rfl, ?yb20⟩) hH0 ?_
      case yb20 => intro w hSw; obtain ⟨hq0, hq1, hq2, hq3, hq4, hq5, hq6, hq7, hq8, hq9, hq10, hq11, hq12, hq13⟩ := hSw; go_simp; try with_reducible rfl
      try simp only [Act.put, List.setIfInBounds_toArray, List.set_cons_zero, List.set_cons_succ]
      refine takeH (i := 21) (d := 175) (v := ?_) rfl rfl (by kernel_rfl) (by kernel_rfl) (by kernel_rfl) (fun _ _ _ h => h) (Or.inl ⟨by rfl, ?yb21⟩) hH0 ?_
      case yb21 => intro w hSw; obtain ⟨hq0, hq1, hq2, hq3, hq4, hq5, hq6, hq7, hq8, hq9, hq10, hq11, hq12, hq13⟩ := hSw; go_simp; try with_reducible rfl
      try simp only [Act.put, List.setIfInBounds_toArray, List.set_cons_zero, List.set_cons_succ]
      refine wpAnyH_ready (rs := [22]) (by kernel_rfl) (by simp) ?_
      refine AllReadyH.cons rfl (fun K hK => ?_) AllReadyH.nil
      go_simp
      refine (HC.out _ hH0.2.2.2.2.2.2.2.2.2.2.2.2.2).mono ?_
      rintro e w' ⟨⟨b, rfl, hbb⟩, hb⟩
      have HBB := Lib.hid hbb
      clear hbb
      go_wp2_with fail
      refine hK.out _ _ (⟨cell_kept hb hH0.1, cell_kept hb hH0.2.1, cell_kept hb hH0.2.2.1, cell_kept hb hH0.2.2.2.1, cell_kept hb hH0.2.2.2.2.1, cell_kept hb hH0.2.2.2.2.2.1, cell_kept hb hH0.2.2.2.2.2.2.1, cell_kept hb hH0.2.2.2.2.2.2.2.1, cell_kept hb hH0.2.2.2.2.2.2.2.2.1, cell_kept hb hH0.2.2.2.2.2.2.2.2.2.1, cell_kept hb hH0.2.2.2.2.2.2.2.2.2.2.1, cell_kept hb hH0.2.2.2.2.2.2.2.2.2.2.2.1, cell_kept hb hH0.2.2.2.2.2.2.2.2.2.2.2.2.1, hH0.2.2.2.2.2.2.2.2.2.2.2.2.2.trans (hb.mono hH0.2.2.2.2.2.2.2.2.2.2.2.2.2.size)⟩) (fun hH1 => ?_)
      clear hK K hb hH0
      try simp only [Act.put, List.setIfInBounds_toArray, List.set_cons_zero, List.set_cons_succ]
      refine takeH (i := 23) (d := 177) (v := ?_) rfl rfl (by kernel_rfl) (by kernel_rfl) (by kernel_rfl) (fun _ _ _ h => h) (Or.inl ⟨by rfl, ?yb23⟩) hH1 ?_
      case yb23 => intro w hSw; obtain ⟨hq0, hq1, hq2, hq3, hq4, hq5, hq6, hq7, hq8, hq9, hq10, hq11, hq12, hq13⟩ := hSw; go_simp; try with_reducible rfl
      try simp only [Act.put, List.setIfInBounds_toArray, List.set_cons_zero, List.set_cons_succ]
      refine takeH (i := 24) (d := 178) (v := ?_) rfl rfl (by kernel_rfl) (by kernel_rfl) (by kernel_rfl) (fun _ _ _ h => h) (Or.inl ⟨by rfl, ?yb24⟩) hH1 ?_
      case yb24 => intro w hSw; obtain ⟨hq0, hq1, hq2, hq3, hq4, hq5, hq6, hq7, hq8, hq9, hq10, hq11, hq12, hq13⟩ := hSw; go_simp; try with_reducible rfl
      try simp only [Act.put, List.setIfInBounds_toArray, List.set_cons_zero, List.set_cons_succ]
      refine wpAnyH_done (by kernel_rfl) ?_ _
      have HBX2 : Hid (BoxAt _ w.heap.size 6 n s (.slice (some ⟨gn, on, none⟩) names.length ncap) (.slice (some ⟨g', off', none⟩) kids.len kcap)) := Lib.hid ⟨hH1.1, hH1.2.1, hH1.2.2.1, hH1.2.2.2.1, hH1.2.2.2.2.1⟩
      have HBW2 := Lib.hid (hH1.2.2.2.2.2.2.2.2.2.2.2.2.2)
      clear hH1
      by_cases hbt : b = true
      · subst hbt
        go_wp2_with fail
        go_roundw
        case rel => exact ⟨i + 1, by omega, by go_num, Lib.hid (fun j n2 v2 u2 t2 hj hv hu ht2 => by
          rcases Nat.lt_or_ge j i with h | h
          · exact HM.out j n2 v2 u2 t2 h hv hu ht2
          · obtain rfl : j = i := by omega
            rw [HAT.out] at hv
            rw [HUT.out] at hu
            rw [HTN.out] at ht2
            injection hv with hv
            injection hv with hv1 hv2
            injection hu with hu
            injection ht2 with ht2
            refine ⟨?_, by rw [← hv1, ← ht2, ← HTS.out, HBT.out]⟩
            rw [← hv2, ← hu, HJ'.out]
            exact HBB.out.1 rfl), HBX2.out, HBW2.out⟩
        case measure => simp [intOf]; omega
      · have hbt : b = false := by simpa using hbt
        subst hbt
        go_wp2_with fail
        go_ret
        exact EqEnd.no (fun e => by
          have h := (HJ.out.1 e).2
          have h2 := HAT.out
          rw [h, toL_at true kids names i _ HUT.out] at h2
          injection h2 with h2
          injection h2 with h3 h4
          have := HBB.out.2 (by rw [← h4, HJ'.out])
          cases this) HBW2.out
    · have hi2 : ¬ (i : Int) < (l.length : Int) := by omega
      obtain ⟨b0, b1, b2, b3, b4⟩ := hbx
      clear hbw
      by_cases hkn : k = 6
      · subst hkn
        go_wp2_with fail
        go_ret
        exact EqEnd.yes (HJ.out.2 ⟨trivial, obj_is HLEN.out (HLN.out trivial) (fun j n v u t hj => HM.out j n v u t (by omega))⟩) HBW.out
      · have hkf : (k == 6) = false := by rw [beq_eq_false_iff_ne]; exact hkn
        have HKN := Lib.hid hkn
        clear hkn
        go_wp2_with fail
        go_ret
        exact EqEnd.no (fun e => HKN.out (HJ.out.1 e).1) HBW.out
theorem eq_any : ∀ v : Js, EqOk v := Js.ind
  (fun S u w x hx hb hin hf => by rw [AnyAt] at hx; subst hx; exact equal_nul u w hin)
  (fun b S u w x hx hb hin hf => by rw [AnyAt] at hx; subst hx; exact equal_bool b u w hin)
  (fun n S u w x hx hb hin hf => by rw [AnyAt] at hx; subst hx; exact equal_num n u w hin)
  (fun s S u w x hx hb hin hf => by rw [AnyAt] at hx; obtain ⟨t, rfl, rfl, _⟩ := hx; exact equal_str t u w hin)
  eq_arr eq_obj
  (fun S u w x hx hb hin hf => by rw [AnyAt] at hx; subst hx; exact equal_bad u w hin)
end Go.Proofs.YtbkceneakdbdkaaGreatDoor
