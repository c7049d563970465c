/- The walk of MergeWhole. -/
import Derived.Test.YtleicghfcffblaaAw13
import Derived.Test.YtleicghfcffblaaMM
import Derived.Test.YtleicghfcffblaaHl
import Derived.Test.YtleicghfcffblaaPg
import Derived.StringKeys
namespace Go.Proofs.Ytleicghfcffblaa
open Go.RowKit Go.Maps
set_option maxRecDepth 20000
set_option linter.unusedVariables false
set_option linter.unusedSimpArgs false
set_option maxHeartbeats 4000000 in
theorem mergewhole_law (v : Value) (l : List It) (id : Nat) (w : World) (hv : ItsAt w v l) (hid : id < 18446744073709551616) (hids : ∀ t ∈ l, t.1 < 18446744073709551616) (hsz : ∀ t ∈ l, t.2.size ≤ maxLen) :
    Calls Try.prog 5 #[v, .int .u64 id] w fun e w' => e = .returned (.bool true) ∧ Below w.heap.size w w' := by
  have HA := Lib.hid awake13_any
  have HOV := Lib.hid (over_any v l 60 3000 w hv hsz (by omega) (by omega))
  have HOW := Lib.hid (fun (hl : l.length ≤ 10000) => own_any v l w hv hl hids hsz)
  obtain ⟨ov, hov⟩ : ∃ ov, overI l 60 3000 = ov := ⟨_, rfl⟩
  rw [hov] at HOV
  clear hv hids hsz
  cases ov with
  | true =>
    clear hov
    go_enter Try.func5, Try.ntmps5
    go_wp2_with fail
    refine HOV.out.mono ?_
    rintro e w1 ⟨rfl, rfl⟩
    go_wp2_with fail
    refine (HA.out _).mono ?_
    rintro e w2 ⟨rfl, hb⟩
    have HB := Lib.hid hb
    clear hb
    go_wp2_with fail
    go_ret
    exact ⟨rfl, HB.out⟩
  | false =>
    have hl60 : l.length ≤ 60 := by
      unfold overI at hov
      rw [Bool.or_eq_false_iff] at hov
      have := hov.2
      simp at this
      omega
    clear hov
    go_enter Try.func5, Try.ntmps5
    go_wp2_with fail
    refine HOV.out.mono ?_
    rintro e w1 ⟨rfl, hw⟩
    subst hw
    go_wp2_with fail
    refine (HOW.out (by omega)).mono ?_
    rintro e w2 ⟨s, d, rfl, hch, hd, hb⟩
    obtain ⟨L, hL⟩ : ∃ L, ownI l = L := ⟨_, rfl⟩
    rw [hL] at hch hd
    obtain ⟨a7, n7, p7, rfl⟩ := hch.form
    have hba : Below w2.heap.size w2 (w2.alloc (.cells #[.slice a7 n7 p7] 27)) := (Below.refl _ _).alloc (Nat.le_refl _) _
    have ho := one_new w2 (.slice a7 n7 p7) 27
    have H2 := Lib.hid (And.intro (hch.below hba) (And.intro ho (hb.trans (hba.mono hb.size))))
    have HG := Lib.hid hch.good
    clear hL hch hd hb hba ho HOV HOW
    go_wp2_with fail
    refine (rows13_any _ L _ H2.out.1).mono ?_
    rintro e w3 ⟨r3, rfl, hr3, hb3⟩
    have H3 := Lib.hid (And.intro (H2.out.1.below hb3) (And.intro (H2.out.2.1.below hb3) (And.intro (H2.out.2.2.trans (hb3.mono H2.out.2.2.size)) hr3)))
    obtain ⟨ar, capr, rfl, _⟩ := hr3
    clear hb3 H2
    have hI := rinv_all HG.out
    have hW := back_whole HG.out
    have HMy : Hid (MaysN (rowsS L).1) := Lib.hid (fun e he => (hW.2.2.2.2.2.1 e he).may)
    have HLe := Lib.hid (least_noOne hW.2.1 (fun e he => by have := (hW.2.2.2.2.2.1 e he).run; omega) hW.2.2.1)
    have hcs := catF_size (rowsS L).2
    have ht := hI.good.tot
    have hrl := hI.few
    have hLl := HG.out.few
    have HB2 := Lib.hid (back13_any _ (rowsS L).1 (catF (rowsS L).2) _ H3.out.2.2.2 HMy.out (by omega))
    rw [hW.1] at HB2
    have HRW := Lib.hid (fun W h => prow_any (.slice ar (rowsS L).1.length capr) (rowsS L).1 W h HMy.out)
    rw [hW.2.1] at HRW
    have HLS := Lib.hid (fun W h => least13_any (.slice ar (rowsS L).1.length capr) (rowsS L).1 W h HMy.out)
    rw [HLe.out] at HLS
    have HCN := Lib.hid (fun W h => pcount_any (.slice ar (rowsS L).1.length capr) (rowsS L).1 W h HMy.out (by omega))
    rw [hW.2.2.2.1] at HCN
    have HEN := Lib.hid (fun W h => pend_any (.slice ar (rowsS L).1.length capr) (rowsS L).1 W h HMy.out (by omega))
    rw [end_whole HG.out] at HEN
    have HCT := Lib.hid (fun W h => pcont_any (.slice ar (rowsS L).1.length capr) (rowsS L).1 W h HMy.out (by omega))
    rw [con_whole HG.out, ← texts_whole HG.out] at HCT
    have HTE := Lib.hid (tell_exp (d := catF (rowsS L).2) HMy.out (fun e he => (hI.ok e he).ck) hI.row id)
    rw [hI.exp] at HTE
    have HTS := Lib.hid (fun k t h => tot_step HG.out k t h)
    have HTL := Lib.hid (fun k h => tot_le HG.out k h)
    have HTF : Hid (totF (rowsS (L.take L.length)).2 = totF (rowsS L).2) := Lib.hid (by rw [List.take_length])
    clear hI hW HLe
    obtain ⟨T, hT⟩ : ∃ T, totF (rowsS L).2 = T := ⟨_, rfl⟩
    rw [hT] at hcs ht HEN HTF
    generalize catF (rowsS L).2 = data at *
    generalize (rowsS L).1 = R at *
    clear hT
    have q3 := H3.out.2.1.cell
    go_wp2_with fail
    refine HB2.out.mono ?_
    rintro e w4 ⟨s', rfl, hs', hb4⟩
    obtain ⟨a8, n8, p8, rfl⟩ := hs'.form
    have hba : Below w4.heap.size w4 (w4.alloc (.cells #[.slice a8 n8 p8] 27)) := (Below.refl _ _).alloc (Nat.le_refl _) _
    have hbx := hb4.trans (hba.mono hb4.size)
    have ho := one_new w4 (.slice a8 n8 p8) 27
    have H4 := Lib.hid (And.intro (H3.out.1.below hbx) (And.intro (H3.out.2.1.below hbx) (And.intro (H3.out.2.2.1.trans (hbx.mono H3.out.2.2.1.size)) (And.intro (H3.out.2.2.2.below hbx) (And.intro (hs'.below hba) ho)))))
    clear hs' hba hbx hb4 ho H3 HB2 q3
    have HSM := Lib.hid (fun W h1 h2 => same_any (.slice a7 n7 p7) (.slice a8 n8 p8) L L W h1 h2)
    rw [decide_eq_true (rfl : L = L)] at HSM
    have HLN := Lib.hid (fun W h => len_anyC (.slice a7 n7 p7) L W h)
    have hw9 : IntKind.u64.wrap (L.length : Int) = (L.length : Int) := by rw [IntKind.wrap_u64] <;> omega
    have hw10 : IntKind.u64.wrap (T : Int) = (T : Int) := by rw [IntKind.wrap_u64] <;> omega
    have hw11 : IntKind.u64.wrap (data.size : Int) = (data.size : Int) := by rw [IntKind.wrap_u64] <;> omega
    go_wp2_with fail
    generalize w4.alloc (.cells #[.slice a8 n8 p8] 27) = W5 at *
    generalize w4.heap.size = g9 at *
    have HCC := Lib.hid (fun X (hX : Below W5.heap.size W5 X) => And.intro (H4.out.2.1.below hX).cell (H4.out.2.2.2.2.2.below hX).cell)
    refine wp_region_held_drew (S := fun w' => (w'.cell? ⟨w2.heap.size, 0, none⟩ = some (.slice a7 n7 p7) ∧ w'.cell? ⟨g9, 0, none⟩ = some (.slice a8 n8 p8)) ∧ Below W5.heap.size W5 w') (by kernel_rfl) ⟨HCC.out _ (Below.drew (Below.refl _ _)), Below.drew (Below.refl _ _)⟩ (fun hH0 => ?_)
    refine takeH (i := 0) (d := 38) (v := ?_) rfl rfl (by kernel_rfl) (by kernel_rfl) (by kernel_rfl) (fun _ _ _ h => h) (Or.inl ⟨by rfl, ?y0⟩) hH0 ?_
    case y0 => intro w hSw; go_simp; try with_reducible rfl
    try simp only [Act.put, List.setIfInBounds_toArray, List.set_cons_zero, List.set_cons_succ]
    refine takeH (i := 1) (d := 39) (v := ?_) rfl rfl (by kernel_rfl) (by kernel_rfl) (by kernel_rfl) (fun _ _ _ h => h) (Or.inl ⟨by rfl, ?y1⟩) hH0 ?_
    case y1 => intro w hSw; go_simp; try with_reducible rfl
    try simp only [Act.put, List.setIfInBounds_toArray, List.set_cons_zero, List.set_cons_succ]
    refine takeH (i := 2) (d := 40) (v := ?_) rfl rfl (by kernel_rfl) (by kernel_rfl) (by kernel_rfl) (fun _ _ _ h => h) (Or.inl ⟨by rfl, ?y2⟩) hH0 ?_
    case y2 => intro w hSw; go_simp; try with_reducible rfl
    try simp only [Act.put, List.setIfInBounds_toArray, List.set_cons_zero, List.set_cons_succ]
    refine takeH (i := 3) (d := 41) (v := ?_) rfl rfl (by kernel_rfl) (by kernel_rfl) (by kernel_rfl) (fun _ _ _ h => h) (Or.inl ⟨by rfl, ?y3⟩) hH0 ?_
    case y3 => intro w hSw; go_simp; try with_reducible rfl
    try simp only [Act.put, List.setIfInBounds_toArray, List.set_cons_zero, List.set_cons_succ]
    refine takeH (i := 4) (d := 42) (v := ?_) rfl rfl (by kernel_rfl) (by kernel_rfl) (by kernel_rfl) (fun _ _ _ h => h) (Or.inl ⟨by rfl, ?y4⟩) hH0 ?_
    case y4 => intro w hSw; go_simp; try with_reducible rfl
    try simp only [Act.put, List.setIfInBounds_toArray, List.set_cons_zero, List.set_cons_succ]
    refine wpAnyH_ready (rs := [5]) (by kernel_rfl) (by simp) ?_
    refine AllReadyH.cons rfl (fun K hK => ?_) AllReadyH.nil
    go_simp
    refine (HSM.out _ (H4.out.1.below hH0.2) (H4.out.2.2.2.2.1.below hH0.2)).mono ?_
    rintro e w' ⟨rfl, hb⟩
    go_wp2_with fail
    refine hK.out _ _ (⟨HCC.out _ (hH0.2.trans (hb.mono hH0.2.size)), hH0.2.trans (hb.mono hH0.2.size)⟩) (fun hH1 => ?_)
    clear hK K hb hH0
    try simp only [Act.put, List.setIfInBounds_toArray, List.set_cons_zero, List.set_cons_succ]
    refine takeH (i := 6) (d := 44) (v := ?_) rfl rfl (by kernel_rfl) (by kernel_rfl) (by kernel_rfl) (fun _ _ _ h => h) (Or.inl ⟨by rfl, ?y6⟩) hH1 ?_
    case y6 => intro w hSw; go_simp; try with_reducible rfl
    try simp only [Act.put, List.setIfInBounds_toArray, List.set_cons_zero, List.set_cons_succ]
    refine takeH (i := 7) (d := 45) (v := ?_) rfl rfl (by kernel_rfl) (by kernel_rfl) (by kernel_rfl) (fun _ _ _ h => h) (Or.inl ⟨by rfl, ?y7⟩) hH1 ?_
    case y7 => intro w hSw; go_simp; try with_reducible rfl
    try simp only [Act.put, List.setIfInBounds_toArray, List.set_cons_zero, List.set_cons_succ]
    refine takeH (i := 8) (d := 46) (v := ?_) rfl rfl (by kernel_rfl) (by kernel_rfl) (by kernel_rfl) (fun _ _ _ h => h) (Or.inl ⟨by rfl, ?y8⟩) hH1 ?_
    case y8 => intro w hSw; go_simp; try with_reducible rfl
    try simp only [Act.put, List.setIfInBounds_toArray, List.set_cons_zero, List.set_cons_succ]
    refine takeH (i := 9) (d := 47) (v := ?_) rfl rfl (by kernel_rfl) (by kernel_rfl) (by kernel_rfl) (fun _ _ _ h => h) (Or.inl ⟨by rfl, ?y9⟩) hH1 ?_
    case y9 => intro w hSw; go_simp; try with_reducible rfl
    try simp only [Act.put, List.setIfInBounds_toArray, List.set_cons_zero, List.set_cons_succ]
    refine wpAnyH_ready (rs := [10]) (by kernel_rfl) (by simp) ?_
    refine AllReadyH.cons rfl (fun K hK => ?_) AllReadyH.nil
    go_simp
    refine (HRW.out _ (H4.out.2.2.2.1.below hH1.2)).mono ?_
    rintro e w' ⟨rfl, hb⟩
    go_wp2_with fail
    refine hK.out _ _ (⟨HCC.out _ (hH1.2.trans (hb.mono hH1.2.size)), hH1.2.trans (hb.mono hH1.2.size)⟩) (fun hH2 => ?_)
    clear hK K hb hH1
    try simp only [Act.put, List.setIfInBounds_toArray, List.set_cons_zero, List.set_cons_succ]
    refine takeH (i := 11) (d := 49) (v := ?_) rfl rfl (by kernel_rfl) (by kernel_rfl) (by kernel_rfl) (fun _ _ _ h => h) (Or.inl ⟨by rfl, ?y11⟩) hH2 ?_
    case y11 => intro w hSw; go_simp; try with_reducible rfl
    try simp only [Act.put, List.setIfInBounds_toArray, List.set_cons_zero, List.set_cons_succ]
    refine takeH (i := 12) (d := 50) (v := ?_) rfl rfl (by kernel_rfl) (by kernel_rfl) (by kernel_rfl) (fun _ _ _ h => h) (Or.inl ⟨by rfl, ?y12⟩) hH2 ?_
    case y12 => intro w hSw; go_simp; try with_reducible rfl
    try simp only [Act.put, List.setIfInBounds_toArray, List.set_cons_zero, List.set_cons_succ]
    refine takeH (i := 13) (d := 51) (v := ?_) rfl rfl (by kernel_rfl) (by kernel_rfl) (by kernel_rfl) (fun _ _ _ h => h) (Or.inl ⟨by rfl, ?y13⟩) hH2 ?_
    case y13 => intro w hSw; go_simp; try with_reducible rfl
    try simp only [Act.put, List.setIfInBounds_toArray, List.set_cons_zero, List.set_cons_succ]
    refine takeH (i := 14) (d := 52) (v := ?_) rfl rfl (by kernel_rfl) (by kernel_rfl) (by kernel_rfl) (fun _ _ _ h => h) (Or.inl ⟨by rfl, ?y14⟩) hH2 ?_
    case y14 => intro w hSw; go_simp; try with_reducible rfl
    try simp only [Act.put, List.setIfInBounds_toArray, List.set_cons_zero, List.set_cons_succ]
    refine wpAnyH_ready (rs := [15]) (by kernel_rfl) (by simp) ?_
    refine AllReadyH.cons rfl (fun K hK => ?_) AllReadyH.nil
    go_simp
    refine (HLS.out _ (H4.out.2.2.2.1.below hH2.2)).mono ?_
    rintro e w' ⟨rfl, hb⟩
    go_wp2_with fail
    refine hK.out _ _ (⟨HCC.out _ (hH2.2.trans (hb.mono hH2.2.size)), hH2.2.trans (hb.mono hH2.2.size)⟩) (fun hH3 => ?_)
    clear hK K hb hH2
    try simp only [Act.put, List.setIfInBounds_toArray, List.set_cons_zero, List.set_cons_succ]
    refine takeH (i := 16) (d := 54) (v := ?_) rfl rfl (by kernel_rfl) (by kernel_rfl) (by kernel_rfl) (fun _ _ _ h => h) (Or.inl ⟨by rfl, ?y16⟩) hH3 ?_
    case y16 => intro w hSw; go_simp; try with_reducible rfl
    try simp only [Act.put, List.setIfInBounds_toArray, List.set_cons_zero, List.set_cons_succ]
    refine takeH (i := 17) (d := 55) (v := ?_) rfl rfl (by kernel_rfl) (by kernel_rfl) (by kernel_rfl) (fun _ _ _ h => h) (Or.inl ⟨by rfl, ?y17⟩) hH3 ?_
    case y17 => intro w hSw; go_simp; try with_reducible rfl
    try simp only [Act.put, List.setIfInBounds_toArray, List.set_cons_zero, List.set_cons_succ]
    refine takeH (i := 18) (d := 56) (v := ?_) rfl rfl (by kernel_rfl) (by kernel_rfl) (by kernel_rfl) (fun _ _ _ h => h) (Or.inl ⟨by rfl, ?y18⟩) hH3 ?_
    case y18 => intro w hSw; go_simp; try with_reducible rfl
    try simp only [Act.put, List.setIfInBounds_toArray, List.set_cons_zero, List.set_cons_succ]
    refine takeH (i := 19) (d := 57) (v := ?_) rfl rfl (by kernel_rfl) (by kernel_rfl) (by kernel_rfl) (fun _ _ _ h => h) (Or.inl ⟨by rfl, ?y19⟩) hH3 ?_
    case y19 => intro w hSw; go_simp; try with_reducible rfl
    try simp only [Act.put, List.setIfInBounds_toArray, List.set_cons_zero, List.set_cons_succ]
    refine takeH (i := 21) (d := 59) (v := ?_) rfl rfl (by kernel_rfl) (by kernel_rfl) (by kernel_rfl) (fun _ _ _ h => h) (Or.inl ⟨by rfl, ?y21⟩) hH3 ?_
    case y21 => intro w hSw; go_simp; try with_reducible rfl
    try simp only [Act.put, List.setIfInBounds_toArray, List.set_cons_zero, List.set_cons_succ]
    refine wpAnyH_ready (rs := [20]) (by kernel_rfl) (by simp) ?_
    refine AllReadyH.cons rfl (fun K hK => ?_) AllReadyH.nil
    go_simp
    refine (HCN.out _ (H4.out.2.2.2.1.below hH3.2)).mono ?_
    rintro e w' ⟨rfl, hb⟩
    go_wp2_with fail
    refine hK.out _ _ (⟨HCC.out _ (hH3.2.trans (hb.mono hH3.2.size)), hH3.2.trans (hb.mono hH3.2.size)⟩) (fun hH4 => ?_)
    clear hK K hb hH3
    try simp only [Act.put, List.setIfInBounds_toArray, List.set_cons_zero, List.set_cons_succ]
    refine wpAnyH_ready (rs := [22]) (by kernel_rfl) (by simp) ?_
    refine AllReadyH.cons rfl (fun K hK => ?_) AllReadyH.nil
    go_simp
    refine (HLN.out _ (H4.out.1.below hH4.2)).mono ?_
    rintro e w' ⟨rfl, hb⟩
    go_wp2_with fail
    refine hK.out _ _ (⟨HCC.out _ (hH4.2.trans (hb.mono hH4.2.size)), hH4.2.trans (hb.mono hH4.2.size)⟩) (fun hH5 => ?_)
    clear hK K hb hH4
    try simp only [Act.put, List.setIfInBounds_toArray, List.set_cons_zero, List.set_cons_succ]
    refine takeH (i := 23) (d := 61) (v := ?_) rfl rfl (by kernel_rfl) (by kernel_rfl) (by kernel_rfl) (fun _ _ _ h => h) (Or.inl ⟨by rfl, ?y23⟩) hH5 ?_
    case y23 => intro w hSw; go_simp; try with_reducible rfl
    try simp only [Act.put, List.setIfInBounds_toArray, List.set_cons_zero, List.set_cons_succ]
    refine takeH (i := 24) (d := 62) (v := ?_) rfl rfl (by kernel_rfl) (by kernel_rfl) (by kernel_rfl) (fun _ _ _ h => h) (Or.inl ⟨by rfl, ?y24⟩) hH5 ?_
    case y24 => intro w hSw; go_simp; try with_reducible rfl
    try simp only [Act.put, List.setIfInBounds_toArray, List.set_cons_zero, List.set_cons_succ]
    refine takeH (i := 25) (d := 63) (v := ?_) rfl rfl (by kernel_rfl) (by kernel_rfl) (by kernel_rfl) (fun _ _ _ h => h) (Or.inl ⟨by rfl, ?y25⟩) hH5 ?_
    case y25 => intro w hSw; go_simp; try with_reducible rfl
    try simp only [Act.put, List.setIfInBounds_toArray, List.set_cons_zero, List.set_cons_succ]
    refine takeH (i := 26) (d := 64) (v := ?_) rfl rfl (by kernel_rfl) (by kernel_rfl) (by kernel_rfl) (fun _ _ _ h => h) (Or.inl ⟨by rfl, ?y26⟩) hH5 ?_
    case y26 => intro w hSw; go_simp; try with_reducible rfl
    try simp only [Act.put, List.setIfInBounds_toArray, List.set_cons_zero, List.set_cons_succ]
    refine takeH (i := 27) (d := 65) (v := ?_) rfl rfl (by kernel_rfl) (by kernel_rfl) (by kernel_rfl) (fun _ _ _ h => h) (Or.inl ⟨by rfl, ?y27⟩) hH5 ?_
    case y27 => intro w hSw; go_simp; try with_reducible rfl
    try simp only [Act.put, List.setIfInBounds_toArray, List.set_cons_zero, List.set_cons_succ]
    refine takeH (i := 29) (d := 67) (v := ?_) rfl rfl (by kernel_rfl) (by kernel_rfl) (by kernel_rfl) (fun _ _ _ h => h) (Or.inl ⟨by rfl, ?y29⟩) hH5 ?_
    case y29 => intro w hSw; go_simp; try with_reducible rfl
    try simp only [Act.put, List.setIfInBounds_toArray, List.set_cons_zero, List.set_cons_succ]
    refine takeH (i := 30) (d := 68) (v := ?_) rfl rfl (by kernel_rfl) (by kernel_rfl) (by kernel_rfl) (fun _ _ _ h => h) (Or.inl ⟨by rfl, ?y30⟩) hH5 ?_
    case y30 => intro w hSw; go_simp; try with_reducible rfl
    try simp only [Act.put, List.setIfInBounds_toArray, List.set_cons_zero, List.set_cons_succ]
    refine takeH (i := 31) (d := 69) (v := ?_) rfl rfl (by kernel_rfl) (by kernel_rfl) (by kernel_rfl) (fun _ _ _ h => h) (Or.inl ⟨by rfl, ?y31⟩) hH5 ?_
    case y31 => intro w hSw; go_simp; try with_reducible rfl
    try simp only [Act.put, List.setIfInBounds_toArray, List.set_cons_zero, List.set_cons_succ]
    refine wpAnyH_ready (rs := [28]) (by kernel_rfl) (by simp) ?_
    refine AllReadyH.cons rfl (fun K hK => ?_) AllReadyH.nil
    go_simp
    refine (HEN.out _ (H4.out.2.2.2.1.below hH5.2)).mono ?_
    rintro e w' ⟨rfl, hb⟩
    go_wp2_with fail
    refine hK.out _ _ (⟨HCC.out _ (hH5.2.trans (hb.mono hH5.2.size)), hH5.2.trans (hb.mono hH5.2.size)⟩) (fun hH6 => ?_)
    clear hK K hb hH5
    try simp only [Act.put, List.setIfInBounds_toArray, List.set_cons_zero, List.set_cons_succ]
    refine takeH (i := 32) (d := 70) (v := ?_) rfl rfl (by kernel_rfl) (by kernel_rfl) (by kernel_rfl) (fun _ _ _ h => h) (Or.inl ⟨by rfl, ?y32⟩) hH6 ?_
    case y32 => intro w hSw; go_simp; try with_reducible rfl
    try simp only [Act.put, List.setIfInBounds_toArray, List.set_cons_zero, List.set_cons_succ]
    refine takeH (i := 33) (d := 71) (v := ?_) rfl rfl (by kernel_rfl) (by kernel_rfl) (by kernel_rfl) (fun _ _ _ h => h) (Or.inl ⟨by rfl, ?y33⟩) hH6 ?_
    case y33 => intro w hSw; go_simp; try with_reducible rfl
    try simp only [Act.put, List.setIfInBounds_toArray, List.set_cons_zero, List.set_cons_succ]
    refine wpAnyH_done (by kernel_rfl) ?_ _
    have H6 := Lib.hid (And.intro (H4.out.1.below hH6.2) (And.intro (H4.out.2.1.below hH6.2) (And.intro (H4.out.2.2.1.trans (hH6.2.mono H4.out.2.2.1.size)) (H4.out.2.2.2.1.below hH6.2))))
    clear HRW HLS HCN HLN HEN HSM HCC H4 hH6
    have hmm := @run_makeMap Try.prog
    have hm0 := World.ownsMap_made w' Try.prog 9 (plainElem (H := Unit) Try.prog 3)
    have hba : Below w'.heap.size w' (w'.alloc (.map #[] 0)) := (Below.refl _ _).alloc (Nat.le_refl _) _
    have hz7 : (w'.alloc (.map #[] 0)).heap.size = w'.heap.size + 1 := by simp
    have q7 := (H6.out.2.1.below hba).cell
    have H7 := Lib.hid (And.intro (H6.out.1.below hba) (And.intro hba (And.intro hm0 hz7)))
    clear hm0 hba hz7
    go_wp2_with fail
    refine (items_any _ _ _ H7.out.1).mono ?_
    rintro e w11 ⟨y, rfl, hy, hb11⟩
    clear hmm q7
    have HM0 : Hid (w11.ownsMap Try.prog 9 (plainElem (H := Unit) Try.prog 3) w'.heap.size 0 (.map [])) := Lib.hid (ownsMap_below H7.out.2.2.1 hb11 (by rw [H7.out.2.2.2]; omega))
    have H11 := Lib.hid (H7.out.2.1.trans (hb11.mono H7.out.2.1.size))
    obtain ⟨al, capi, rfl, -, -, hci⟩ := hy
    have HCI := Lib.hid hci
    clear hci hb11 H7
    generalize hbm : w'.heap.size = bm at *
    have HSZ := Lib.hid hbm
    clear hbm
    go_wp2_with fail
    go_loopw [12, 14] (fun n i wr => ∃ (k : Nat) (D : DataW Unit), k ≤ L.length ∧ i = .int .i64 k ∧ n = .int .i64 (totF (rowsS (L.take k)).2 : Nat) ∧ Hid (wr.ownsMap Try.prog 9 (plainElem (H := Unit) Try.prog 3) bm k D) ∧ Hid (Tal D ((L.take k).map (·.2))) ∧ Hid (∀ p u, w11.cell? p = some u → wr.cell? p = some u) ∧ Hid (Below bm w11 wr)) (fun _ i _ => L.length - (intOf i).toNat)
    case atStart => exact ⟨0, .map [], Nat.zero_le _, rfl, rfl, HM0, Lib.hid tal_nil, Lib.hid (fun _ _ h => h), Lib.hid (Below.refl _ _)⟩
    case round =>
      obtain ⟨k, D, hk, rfl, rfl, HOM, HTA, HKC, HBW⟩ := hrel
      by_cases hlt : k < L.length
      · obtain ⟨⟨x, t⟩, htk⟩ : ∃ t, L[k]? = some t := ⟨_, List.getElem?_eq_getElem hlt⟩
        obtain ⟨g, off, rfl, hg, c0, c1⟩ := HCI.out k _ htk
        have e1 := HKC.out _ _ c1
        have hsh := HG.out.short _ (List.mem_of_getElem? htk)
        have hst := HTS.out k _ htk
        have htl := HTL.out (k + 1) hlt
        have hmt : (L.take (k + 1)).map (·.2) = (L.take k).map (·.2) ++ [t] := by rw [itake_at L k _ htk, List.map_append]; rfl
        simp only at e1 hsh hst
        have hkey : keyOf Try.prog 9 (.string t) = some (klS t) := WideMaps.keyOf_string_mk Try.underlying9 (by unfold maxLen; omega)
        obtain ⟨c, hlk, hat, hwc⟩ := HOM.out.lookup_int (Maps.string_keyed Try.underlying9) Try.underlying56 Try.underlying3 rfl hkey
        rw [HTA.out.num t] at hat
        have hc : c = (numS t ((L.take k).map (·.2)) : Nat) := by simpa using hat.symm
        have hnl : numS t ((L.take k).map (·.2)) ≤ k := by
          have := numS_len t ((L.take k).map (·.2))
          rw [List.length_map, List.length_take] at this
          omega
        have HTP := Lib.hid (HTA.out.put t)
        rw [← hmt] at HTP
        clear hat hwc c0 c1 htk hmt hg
        subst hc
        have HST := Lib.hid hst
        generalize hT1 : totF (rowsS (L.take (k + 1))).2 = T1 at *
        have HT1 := Lib.hid hT1
        clear hT1
        generalize totF (rowsS (L.take k)).2 = T0 at *
        generalize numS t ((L.take k).map (·.2)) = c at *
        clear hst
        have hc1 : IntKind.i64.wrap ((c : Int) + 1) = (c : Int) + 1 := by rw [IntKind.wrap_i64] <;> omega
        have hk1 : (k : Int) < (L.length : Int) := by omega
        have hkl : k < maxLen := by unfold maxLen; omega
        have hwf : (Lit.int .i64 ((c : Int) + 1)).wf = true := WalkArith.wf_i64 (by omega)
        have hpl := plainElem_int (H := Unit) Try.underlying3 hwf
        by_cases hc0 : c = 0
        · have hT : T1 = T0 + t.size := by have := HST.out; rw [if_pos hc0] at this; exact this
          have hw1 : IntKind.i64.wrap ((T0 : Int) + (t.size : Int)) = ((T1 : Nat) : Int) := by rw [IntKind.wrap_i64] <;> omega
          subst hc0
          go_wp2_with (first | (at_mapUpdate; refine wpList_mapUpdate_own _ rfl _ _ _ 56 rfl 9 3 (Maps.string_keyed Try.underlying9) Try.underlying56 _ bm k _ rfl HOM.out hkl _ _ _ rfl rfl hkey _ [] hpl ?_; intro w2' hm2 hg2) | fail)
          go_roundw
          case rel => exact ⟨k + 1, _, by omega, by go_num, by first | (rw [HT1.out]; done) | (rw [HT1.out]; go_num), Lib.hid hm2, HTP, Lib.hid (fun p u h => hg2.cell (HKC.out p u h) (fun f => cell_no_map (HKC.out p u h) HOM.out (by injection f))), Lib.hid (HBW.out.grown hg2 (by have := HOM.out.lt; omega) (fun j hj => by cases hj; exact Nat.le_refl _))⟩
          case measure => simp [intOf]; omega
        · have hT : T1 = T0 := by have := HST.out; rw [if_neg hc0] at this; omega
          subst hT
          have hc2 : ((c : Int) == 0) = false := by simp; omega
          go_wp2_with (first | (at_mapUpdate; refine wpList_mapUpdate_own _ rfl _ _ _ 56 rfl 9 3 (Maps.string_keyed Try.underlying9) Try.underlying56 _ bm k _ rfl HOM.out hkl _ _ _ rfl rfl hkey _ [] hpl ?_; intro w2' hm2 hg2) | fail)
          go_roundw
          case rel => exact ⟨k + 1, _, by omega, by go_num, by first | (rw [HT1.out]; done) | (rw [HT1.out]; go_num), Lib.hid hm2, HTP, Lib.hid (fun p u h => hg2.cell (HKC.out p u h) (fun f => cell_no_map (HKC.out p u h) HOM.out (by injection f))), Lib.hid (HBW.out.grown hg2 (by have := HOM.out.lt; omega) (fun j hj => by cases hj; exact Nat.le_refl _))⟩
          case measure => simp [intOf]; omega
      · obtain rfl : k = L.length := by omega
        have HTA2 := Lib.hid HTA.out.size
        rw [List.take_length] at HTA2
        rw [HTF.out]
        obtain ⟨N, hN⟩ : ∃ N, unl (L.map (·.2)) = N := ⟨_, rfl⟩
        rw [hN] at HCT HTA2
        have h12 := H11.out.trans HBW.out
        have hb12 : Below w'.heap.size w' wr := by rw [HSZ.out]; exact h12
        have H12 := Lib.hid (And.intro (H6.out.1.below hb12) (And.intro (H6.out.2.1.below hb12) (And.intro (H6.out.2.2.1.trans (hb12.mono H6.out.2.2.1.size)) (And.intro (H6.out.2.2.2.below hb12) HOM.out))))
        clear hb12 h12 hN H6 H11 HM0 HCI HOM HTA HKC HBW HTS HTL HTF hk hlt HSZ
        obtain ⟨al2, cap2, hv2, -, -, hc2⟩ := H12.out.2.2.2.1
        cases hv2
        have HCR := Lib.hid hc2
        clear hc2
        generalize wr = W12 at *
        go_wp2_with fail
        go_loopw [15, 16] (fun n i wr => ∃ k : Nat, k ≤ R.length ∧ i = .int .i64 k ∧ n = .int .i64 (tellN (R.take k) id : Nat) ∧ Hid (Below W12.heap.size W12 wr)) (fun _ i _ => R.length - (intOf i).toNat)
        case atStart => exact ⟨0, Nat.zero_le _, rfl, rfl, Lib.hid (Below.refl _ _)⟩
        case round =>
          obtain ⟨k, hk, rfl, rfl, HBW⟩ := hrel
          by_cases hlt : k < R.length
          · obtain ⟨e, he⟩ : ∃ t, R[k]? = some t := ⟨_, List.getElem?_eq_getElem hlt⟩
            obtain ⟨g, off, rfl, hg, l0, l1, l2, l3⟩ := HCR.out k e he
            have hme := HMy.out e (List.mem_of_getElem? he)
            have PH := Lib.hid (fun W => phas_any e id W hme)
            have HT : Hid (tellN (R.take (k + 1)) id = tellN (R.take k) id + (if hasN e id = true then 1 else 0)) := Lib.hid (by rw [take_one R k e he, tell13_snoc])
            have hk1 : (k : Int) < (R.length : Int) := by omega
            obtain ⟨k0, k1, k2, k3⟩ := cells4 HBW.out ⟨l0, l1, l2, l3⟩
            have htn : tellN (R.take k) id ≤ k := by
              have := tell13_le (R.take k) id
              rw [List.length_take] at this
              omega
            obtain ⟨b, hb⟩ : ∃ b, hasN e id = b := ⟨_, rfl⟩
            rw [hb] at PH HT
            unfold eC at PH
            generalize tellN (R.take k) id = c at *
            have hwc : IntKind.i64.wrap ((c : Int) + 1) = (c : Int) + 1 := by rw [IntKind.wrap_i64] <;> omega
            clear he hme l0 l1 l2 l3 hb hg
            go_wp2_with fail
            refine (PH.out _).mono ?_
            rintro x w3 ⟨rfl, hb⟩
            have HB3 := Lib.hid (HBW.out.trans (hb.mono HBW.out.size))
            clear hb k0 k1 k2 k3
            cases b with
            | true =>
              have HT2 : Hid (tellN (R.take (k + 1)) id = c + 1) := Lib.hid (by rw [HT.out]; simp)
              go_wp2_with fail
              go_roundw
              case rel => exact ⟨k + 1, by omega, by go_num, by rw [HT2.out]; go_num, HB3⟩
              case measure => simp [intOf]; omega
            | false =>
              have HT2 : Hid (tellN (R.take (k + 1)) id = c) := Lib.hid (by rw [HT.out]; simp)
              go_wp2_with fail
              go_roundw
              case rel => exact ⟨k + 1, by omega, by go_num, by rw [HT2.out], HB3⟩
              case measure => simp [intOf]; omega
          · obtain rfl : k = R.length := by omega
            rw [List.take_length]
            have hb12 := HBW.out
            have H13 := Lib.hid (And.intro (H12.out.1.below hb12) (And.intro (H12.out.2.1.below hb12) (And.intro (H12.out.2.2.1.trans (hb12.mono H12.out.2.2.1.size)) (And.intro (H12.out.2.2.2.1.below hb12) (ownsMap_below H12.out.2.2.2.2 hb12 H12.out.2.2.2.2.lt)))))
            clear hb12 H12 HBW HCR hk hlt
            have q13 := H13.out.2.1.cell
            go_wp2_with fail
            refine (get_anyC _ L id _ H13.out.1 hid).mono ?_
            rintro e w14 ⟨rfl, hb14⟩
            have H14 := Lib.hid (And.intro (H13.out.2.2.1.trans (hb14.mono H13.out.2.2.1.size)) (And.intro (H13.out.2.2.2.1.below hb14) (ownsMap_below H13.out.2.2.2.2 hb14 H13.out.2.2.2.2.lt)))
            clear hb14 H13 q13
            generalize getT (getI id L) = gt at *
            generalize tellN R id = tn at *
            have hbs : ((getI id L).isSome = true ∧ tn = 1) ∨ ((getI id L).isSome = false ∧ tn = 0) := by
              have h1 := HTE.out.1
              have h2 := HTE.out.2
              cases hh : (getI id L).isSome with
              | true => left; exact ⟨rfl, h2.2 hh⟩
              | false =>
                right
                refine ⟨rfl, ?_⟩
                rw [hh] at h2
                have : ¬ tn = 1 := fun f => absurd (h2.1 f) (by simp)
                omega
            have dT : ((T : Int) == (data.size : Int)) = true := by simp; omega
            have HKP := Lib.hid (fun X (hX : Below w14.heap.size w14 X) => ownsMap_below H14.out.2.2 hX H14.out.2.2.lt)
            rcases hbs with ⟨hs1, rfl⟩ | ⟨hs1, rfl⟩
            all_goals rw [hs1]
            · go_wp2_with fail
              refine (HCT.out _ H14.out.2.1).mono ?_
              rintro e w15 ⟨rfl, hb15⟩
              have hlen := (HKP.out _ hb15).len Try.underlying56 3
              rw [HTA2.out] at hlen
              have H15 := Lib.hid (H14.out.1.trans (hb15.mono H14.out.1.size))
              clear hb15 H14 HKP HCT
              go_wp2_with fail
              refine (HA.out _).mono ?_
              rintro e w16 ⟨rfl, hb16⟩
              have H16 := Lib.hid (H15.out.trans (hb16.mono H15.out.size))
              clear hb16
              go_wp2_with fail
              go_ret
              exact ⟨rfl, H16.out⟩
            · go_wp2_with fail
              refine (HCT.out _ H14.out.2.1).mono ?_
              rintro e w15 ⟨rfl, hb15⟩
              have hlen := (HKP.out _ hb15).len Try.underlying56 3
              rw [HTA2.out] at hlen
              have H15 := Lib.hid (H14.out.1.trans (hb15.mono H14.out.1.size))
              clear hb15 H14 HKP HCT
              go_wp2_with fail
              refine (HA.out _).mono ?_
              rintro e w16 ⟨rfl, hb16⟩
              have H16 := Lib.hid (H15.out.trans (hb16.mono H15.out.size))
              clear hb16
              go_wp2_with fail
              go_ret
              exact ⟨rfl, H16.out⟩
end Go.Proofs.Ytleicghfcffblaa
