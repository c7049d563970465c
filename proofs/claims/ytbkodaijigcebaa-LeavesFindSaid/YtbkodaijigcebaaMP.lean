/- Several texts, one behind the other: Pa, Pb, Pd. -/
import Derived.Test.YtbkodaijigcebaaME
import Derived.Test.YtbkodaijigcebaaMF
/- Contracts of the program's isPointer, width, Check and Last: each computes what its plain function says. -/
namespace Go.Proofs.Ytbkodaijigcebaa
open Go.RowKit
set_option maxRecDepth 20000
set_option linter.unusedVariables false
set_option linter.unusedSimpArgs false
theorem pptr_any (e : En) (w : World) : Calls Try.prog 70 #[.agg (eC e)] w fun x w' => x = .returned (.bool (decide (e.rn = 0))) ∧ Below w.heap.size w w' := by
  obtain ⟨i, o, l, r⟩ := e
  unfold eC
  dsimp only
  have hd : (r == 0) = decide (r = 0) := by rw [Bool.eq_iff_iff]; simp
  go_enter Try.func70, Try.ntmps70
  go_wp2_with fail
  go_ret
  exact ⟨ret_b (by first | exact hd | rfl | simp), by go_grown⟩
theorem pwide_any (e : En) (w : World) (hm : MayN e) : Calls Try.prog 82 #[.agg (eC e)] w fun x w' => x = .returned (.int .u64 (wdN e)) ∧ Below w.heap.size w w' := by
  have HP := Lib.hid (fun W => pptr_any e W)
  have H0 := EAt.made w e 52
  have HB : Below w.heap.size w (w.alloc (.cells (eC e) 52)) := (Below.refl _ _).alloc (Nat.le_refl _) _
  obtain ⟨m0, m1, m2, m3⟩ := hm
  unfold eC at HB HP ⊢
  obtain ⟨c0, c1, c2, c3⟩ := H0
  unfold eC at c0 c1 c2 c3
  by_cases h : e.rn = 0
  · have hw : Hid (wdN e = 1) := Lib.hid (by unfold wdN; rw [if_pos h])
    have hd : decide (e.rn = 0) = true := by simpa using h
    rw [hd] at HP
    clear h hd
    go_enter Try.func82, Try.ntmps82
    go_wp2_with fail
    refine (HP.out _).mono ?_
    rintro x w1 ⟨rfl, hb⟩
    obtain ⟨⟨k0, k1, k2, k3⟩, hU⟩ := keepE hb ⟨⟨c0, c1, c2, c3⟩, HB⟩
    have HU := Lib.hid hU
    clear hb c0 c1 c2 c3 HB hU
    go_wp2_with fail
    go_ret
    exact ⟨ret_u64 hw.out.symm, HU.out⟩
  · have hw : Hid (wdN e = e.rn) := Lib.hid (by unfold wdN; rw [if_neg h])
    have hd : decide (e.rn = 0) = false := by simpa using h
    have hwr : IntKind.u64.wrap e.rn = e.rn := by rw [IntKind.wrap_u64] <;> omega
    rw [hd] at HP
    clear h hd
    go_enter Try.func82, Try.ntmps82
    go_wp2_with fail
    refine (HP.out _).mono ?_
    rintro x w1 ⟨rfl, hb⟩
    obtain ⟨⟨k0, k1, k2, k3⟩, hU⟩ := keepE hb ⟨⟨c0, c1, c2, c3⟩, HB⟩
    have HU := Lib.hid hU
    clear hb c0 c1 c2 c3 HB hU
    go_wp2_with fail
    go_ret
    exact ⟨ret_u64 hw.out.symm, HU.out⟩
set_option maxRecDepth 20000 in
set_option maxHeartbeats 1000000 in
theorem pcheck_any (e : En) (w : World) (hm : MayN e) : Calls Try.prog 56 #[.agg (eC e)] w fun x w' => x = .returned (.int .i64 (ckN e)) ∧ Below w.heap.size w w' := by
  have HW := Lib.hid (fun W => pwide_any e W hm)
  obtain ⟨m0, m1, m2, m3⟩ := hm
  have H0 := EAt.made w e 52
  have HB : Below w.heap.size w (w.alloc (.cells (eC e) 52)) := (Below.refl _ _).alloc (Nat.le_refl _) _
  have HS0 := keepE (Below.drew (Below.refl _ _)) ⟨H0, HB⟩
  have hck : Hid (ckN e = if e.ln = 0 then 2 else if cnN ≤ e.id ∨ cnN < e.id + wdN e then 8 else if 1099511627776 < e.off ∨ 1099511627776 < e.off + e.ln then 8 else 0) := Lib.hid rfl
  have hwd := wd_pos e m3.1
  have hwu : wdN e ≤ 4294967295 := by unfold wdN; split <;> omega
  obtain ⟨R, hR⟩ : ∃ R, ckN e = R := ⟨_, rfl⟩
  rw [hR] at hck ⊢
  clear hR
  obtain ⟨d, hd⟩ : ∃ d, wdN e = d := ⟨_, rfl⟩
  rw [hd] at HW hck hwd hwu
  clear hd
  unfold cnN at hck
  by_cases h1 : e.ln = 0
  · have hR : R = 2 := by rw [hck.out, if_pos h1]
    subst hR
    have hl : (e.ln == 0) = true := by simpa using h1
    clear HW HS0 hck
    unfold eC at HB ⊢
    go_enter Try.func56, Try.ntmps56
    go_wp2_with fail
    go_ret
    exact ⟨rfl, by go_grown⟩
  have hl : (e.ln == 0) = false := by simpa using h1
  rw [if_neg h1] at hck
  have hw : IntKind.u64.wrap (6004799503160661 - d) = 6004799503160661 - d := by rw [IntKind.wrap_u64] <;> omega
  have hwl : IntKind.u64.wrap e.ln = e.ln := by rw [IntKind.wrap_u64] <;> omega
  have hwo : IntKind.u64.wrap (1099511627776 - e.ln) = 1099511627776 - e.ln := by rw [IntKind.wrap_u64] <;> omega
  by_cases h2 : 6004799503160661 - d < e.id
  · have hR : R = 8 := by rw [hck.out, if_pos (.inr (by omega))]
    subst hR
    have hi : decide (6004799503160661 - d < e.id) = true := by simpa using h2
    clear hck
    unfold eC at HB HS0 HW ⊢
    go_enter Try.func56, Try.ntmps56
    go_upto_region 3 with fail
    refine wp_region_held_drew (S := fun w' => (w'.cell? ⟨w.heap.size, 0, none⟩ = some (.int .u64 e.id) ∧ w'.cell? ⟨w.heap.size, 1, none⟩ = some (.int .u64 e.off) ∧ w'.cell? ⟨w.heap.size, 2, none⟩ = some (.int .u32 e.ln) ∧ w'.cell? ⟨w.heap.size, 3, none⟩ = some (.int .u32 e.rn)) ∧ Below w.heap.size w w') (by kernel_rfl) HS0 (fun hH0 => ?_)
    refine takeH (i := 0) (d := 6) (v := ?_) rfl rfl (by kernel_rfl) (by kernel_rfl) (by kernel_rfl) (fun _ _ _ h => h) (Or.inl ⟨by rfl, ?y0⟩) hH0 ?_
    case y0 => intro w hSw; go_simp; try with_reducible rfl
    try simp only [Act.put, List.setIfInBounds_toArray, List.set_cons_zero, List.set_cons_succ]
    refine takeH (i := 1) (d := 7) (v := ?_) rfl rfl (by kernel_rfl) (by kernel_rfl) (by kernel_rfl) (fun _ _ _ h => h) (Or.inl ⟨by rfl, ?y1⟩) hH0 ?_
    case y1 => intro w hSw; go_simp; try with_reducible rfl
    try simp only [Act.put, List.setIfInBounds_toArray, List.set_cons_zero, List.set_cons_succ]
    refine takeH (i := 2) (d := 8) (v := ?_) rfl rfl (by kernel_rfl) (by kernel_rfl) (by kernel_rfl) (fun _ _ _ h => h) (Or.inl ⟨by rfl, ?y2⟩) hH0 ?_
    case y2 => intro w hSw; go_simp; try with_reducible rfl
    try simp only [Act.put, List.setIfInBounds_toArray, List.set_cons_zero, List.set_cons_succ]
    refine wpAnyH_ready (rs := [3]) (by kernel_rfl) (by simp) ?_
    refine AllReadyH.cons rfl (fun K hK => ?_) AllReadyH.nil
    go_simp
    refine (HW.out _).mono ?_
    rintro e w' ⟨rfl, hb⟩
    go_wp2_with fail
    refine hK.out _ _ (keepE hb hH0) (fun hH1 => ?_)
    clear hK K hb hH0
    try simp only [Act.put, List.setIfInBounds_toArray, List.set_cons_zero, List.set_cons_succ]
    refine takeH (i := 4) (d := 10) (v := ?_) rfl rfl (by kernel_rfl) (by kernel_rfl) (by kernel_rfl) (fun _ _ _ h => h) (Or.inl ⟨by rfl, ?y4⟩) hH1 ?_
    case y4 => intro w hSw; go_simp; try with_reducible rfl
    try simp only [Act.put, List.setIfInBounds_toArray, List.set_cons_zero, List.set_cons_succ]
    refine takeH (i := 5) (d := 11) (v := ?_) rfl rfl (by kernel_rfl) (by kernel_rfl) (by kernel_rfl) (fun _ _ _ h => h) (Or.inl ⟨by rfl, ?y5⟩) hH1 ?_
    case y5 => intro w hSw; go_simp; try with_reducible rfl
    try simp only [Act.put, List.setIfInBounds_toArray, List.set_cons_zero, List.set_cons_succ]
    refine takeH (i := 6) (d := 12) (v := ?_) rfl rfl (by kernel_rfl) (by kernel_rfl) (by kernel_rfl) (fun _ _ _ h => h) (Or.inl ⟨by rfl, ?y6⟩) hH1 ?_
    case y6 => intro w hSw; go_simp; try with_reducible rfl
    try simp only [Act.put, List.setIfInBounds_toArray, List.set_cons_zero, List.set_cons_succ]
    refine takeH (i := 7) (d := 13) (v := undef) rfl rfl (by kernel_rfl) (by kernel_rfl) (by kernel_rfl) (fun _ _ _ h => h) (Or.inr ⟨by rfl, rfl⟩) hH1 ?_
    try simp only [Act.put, List.setIfInBounds_toArray, List.set_cons_zero, List.set_cons_succ]
    refine takeH (i := 8) (d := 14) (v := undef) rfl rfl (by kernel_rfl) (by kernel_rfl) (by kernel_rfl) (fun _ _ _ h => h) (Or.inr ⟨by rfl, rfl⟩) hH1 ?_
    try simp only [Act.put, List.setIfInBounds_toArray, List.set_cons_zero, List.set_cons_succ]
    refine takeH (i := 9) (d := 15) (v := undef) rfl rfl (by kernel_rfl) (by kernel_rfl) (by kernel_rfl) (fun _ _ _ h => h) (Or.inr ⟨by rfl, rfl⟩) hH1 ?_
    try simp only [Act.put, List.setIfInBounds_toArray, List.set_cons_zero, List.set_cons_succ]
    refine takeH (i := 10) (d := 16) (v := undef) rfl rfl (by kernel_rfl) (by kernel_rfl) (by kernel_rfl) (fun _ _ _ h => h) (Or.inr ⟨by rfl, rfl⟩) hH1 ?_
    try simp only [Act.put, List.setIfInBounds_toArray, List.set_cons_zero, List.set_cons_succ]
    refine takeH (i := 11) (d := 17) (v := undef) rfl rfl (by kernel_rfl) (by kernel_rfl) (by kernel_rfl) (fun _ _ _ h => h) (Or.inr ⟨by rfl, rfl⟩) hH1 ?_
    try simp only [Act.put, List.setIfInBounds_toArray, List.set_cons_zero, List.set_cons_succ]
    refine takeH (i := 12) (d := 18) (v := undef) rfl rfl (by kernel_rfl) (by kernel_rfl) (by kernel_rfl) (fun _ _ _ h => h) (Or.inr ⟨by rfl, rfl⟩) hH1 ?_
    try simp only [Act.put, List.setIfInBounds_toArray, List.set_cons_zero, List.set_cons_succ]
    refine takeH (i := 13) (d := 19) (v := undef) rfl rfl (by kernel_rfl) (by kernel_rfl) (by kernel_rfl) (fun _ _ _ h => h) (Or.inr ⟨by rfl, rfl⟩) hH1 ?_
    try simp only [Act.put, List.setIfInBounds_toArray, List.set_cons_zero, List.set_cons_succ]
    refine takeH (i := 14) (d := 20) (v := ?_) rfl rfl (by kernel_rfl) (by kernel_rfl) (by kernel_rfl) (fun _ _ _ h => h) (Or.inl ⟨by rfl, ?y14⟩) hH1 ?_
    case y14 => intro w hSw; go_simp; try with_reducible rfl
    try simp only [Act.put, List.setIfInBounds_toArray, List.set_cons_zero, List.set_cons_succ]
    refine wpAnyH_done (by kernel_rfl) ?_ _
    go_wp2_with fail
    go_ret
    exact ⟨rfl, hH1.2⟩
  have hi : decide (6004799503160661 - d < e.id) = false := by simpa using h2
  rw [if_neg (by omega)] at hck
  by_cases h4 : 1099511627776 - e.ln < e.off
  · have hR : R = 8 := by rw [hck.out, if_pos (.inr (by omega))]
    subst hR
    have hk : decide (1099511627776 - e.ln < e.off) = true := by simpa using h4
    clear hck
    unfold eC at HB HS0 HW ⊢
    go_enter Try.func56, Try.ntmps56
    go_upto_region 3 with fail
    refine wp_region_held_drew (S := fun w' => (w'.cell? ⟨w.heap.size, 0, none⟩ = some (.int .u64 e.id) ∧ w'.cell? ⟨w.heap.size, 1, none⟩ = some (.int .u64 e.off) ∧ w'.cell? ⟨w.heap.size, 2, none⟩ = some (.int .u32 e.ln) ∧ w'.cell? ⟨w.heap.size, 3, none⟩ = some (.int .u32 e.rn)) ∧ Below w.heap.size w w') (by kernel_rfl) HS0 (fun hH0 => ?_)
    refine takeH (i := 0) (d := 6) (v := ?_) rfl rfl (by kernel_rfl) (by kernel_rfl) (by kernel_rfl) (fun _ _ _ h => h) (Or.inl ⟨by rfl, ?y0⟩) hH0 ?_
    case y0 => intro w hSw; go_simp; try with_reducible rfl
    try simp only [Act.put, List.setIfInBounds_toArray, List.set_cons_zero, List.set_cons_succ]
    refine takeH (i := 1) (d := 7) (v := ?_) rfl rfl (by kernel_rfl) (by kernel_rfl) (by kernel_rfl) (fun _ _ _ h => h) (Or.inl ⟨by rfl, ?y1⟩) hH0 ?_
    case y1 => intro w hSw; go_simp; try with_reducible rfl
    try simp only [Act.put, List.setIfInBounds_toArray, List.set_cons_zero, List.set_cons_succ]
    refine takeH (i := 2) (d := 8) (v := ?_) rfl rfl (by kernel_rfl) (by kernel_rfl) (by kernel_rfl) (fun _ _ _ h => h) (Or.inl ⟨by rfl, ?y2⟩) hH0 ?_
    case y2 => intro w hSw; go_simp; try with_reducible rfl
    try simp only [Act.put, List.setIfInBounds_toArray, List.set_cons_zero, List.set_cons_succ]
    refine wpAnyH_ready (rs := [3]) (by kernel_rfl) (by simp) ?_
    refine AllReadyH.cons rfl (fun K hK => ?_) AllReadyH.nil
    go_simp
    refine (HW.out _).mono ?_
    rintro e w' ⟨rfl, hb⟩
    go_wp2_with fail
    refine hK.out _ _ (keepE hb hH0) (fun hH1 => ?_)
    clear hK K hb hH0
    try simp only [Act.put, List.setIfInBounds_toArray, List.set_cons_zero, List.set_cons_succ]
    refine takeH (i := 4) (d := 10) (v := ?_) rfl rfl (by kernel_rfl) (by kernel_rfl) (by kernel_rfl) (fun _ _ _ h => h) (Or.inl ⟨by rfl, ?y4⟩) hH1 ?_
    case y4 => intro w hSw; go_simp; try with_reducible rfl
    try simp only [Act.put, List.setIfInBounds_toArray, List.set_cons_zero, List.set_cons_succ]
    refine takeH (i := 5) (d := 11) (v := ?_) rfl rfl (by kernel_rfl) (by kernel_rfl) (by kernel_rfl) (fun _ _ _ h => h) (Or.inl ⟨by rfl, ?y5⟩) hH1 ?_
    case y5 => intro w hSw; go_simp; try with_reducible rfl
    try simp only [Act.put, List.setIfInBounds_toArray, List.set_cons_zero, List.set_cons_succ]
    refine takeH (i := 6) (d := 12) (v := ?_) rfl rfl (by kernel_rfl) (by kernel_rfl) (by kernel_rfl) (fun _ _ _ h => h) (Or.inl ⟨by rfl, ?y6⟩) hH1 ?_
    case y6 => intro w hSw; go_simp; try with_reducible rfl
    try simp only [Act.put, List.setIfInBounds_toArray, List.set_cons_zero, List.set_cons_succ]
    refine takeH (i := 7) (d := 13) (v := ?_) rfl rfl (by kernel_rfl) (by kernel_rfl) (by kernel_rfl) (fun _ _ _ h => h) (Or.inl ⟨by rfl, ?y7⟩) hH1 ?_
    case y7 => intro w hSw; go_simp; try with_reducible rfl
    try simp only [Act.put, List.setIfInBounds_toArray, List.set_cons_zero, List.set_cons_succ]
    refine takeH (i := 8) (d := 14) (v := ?_) rfl rfl (by kernel_rfl) (by kernel_rfl) (by kernel_rfl) (fun _ _ _ h => h) (Or.inl ⟨by rfl, ?y8⟩) hH1 ?_
    case y8 => intro w hSw; go_simp; try with_reducible rfl
    try simp only [Act.put, List.setIfInBounds_toArray, List.set_cons_zero, List.set_cons_succ]
    refine takeH (i := 9) (d := 15) (v := ?_) rfl rfl (by kernel_rfl) (by kernel_rfl) (by kernel_rfl) (fun _ _ _ h => h) (Or.inl ⟨by rfl, ?y9⟩) hH1 ?_
    case y9 => intro w hSw; go_simp; try with_reducible rfl
    try simp only [Act.put, List.setIfInBounds_toArray, List.set_cons_zero, List.set_cons_succ]
    refine takeH (i := 10) (d := 16) (v := ?_) rfl rfl (by kernel_rfl) (by kernel_rfl) (by kernel_rfl) (fun _ _ _ h => h) (Or.inl ⟨by rfl, ?y10⟩) hH1 ?_
    case y10 => intro w hSw; go_simp; try with_reducible rfl
    try simp only [Act.put, List.setIfInBounds_toArray, List.set_cons_zero, List.set_cons_succ]
    refine takeH (i := 11) (d := 17) (v := ?_) rfl rfl (by kernel_rfl) (by kernel_rfl) (by kernel_rfl) (fun _ _ _ h => h) (Or.inl ⟨by rfl, ?y11⟩) hH1 ?_
    case y11 => intro w hSw; go_simp; try with_reducible rfl
    try simp only [Act.put, List.setIfInBounds_toArray, List.set_cons_zero, List.set_cons_succ]
    refine takeH (i := 12) (d := 18) (v := ?_) rfl rfl (by kernel_rfl) (by kernel_rfl) (by kernel_rfl) (fun _ _ _ h => h) (Or.inl ⟨by rfl, ?y12⟩) hH1 ?_
    case y12 => intro w hSw; go_simp; try with_reducible rfl
    try simp only [Act.put, List.setIfInBounds_toArray, List.set_cons_zero, List.set_cons_succ]
    refine takeH (i := 13) (d := 19) (v := ?_) rfl rfl (by kernel_rfl) (by kernel_rfl) (by kernel_rfl) (fun _ _ _ h => h) (Or.inl ⟨by rfl, ?y13⟩) hH1 ?_
    case y13 => intro w hSw; go_simp; try with_reducible rfl
    try simp only [Act.put, List.setIfInBounds_toArray, List.set_cons_zero, List.set_cons_succ]
    refine takeH (i := 14) (d := 20) (v := ?_) rfl rfl (by kernel_rfl) (by kernel_rfl) (by kernel_rfl) (fun _ _ _ h => h) (Or.inl ⟨by rfl, ?y14⟩) hH1 ?_
    case y14 => intro w hSw; go_simp; try with_reducible rfl
    try simp only [Act.put, List.setIfInBounds_toArray, List.set_cons_zero, List.set_cons_succ]
    refine wpAnyH_done (by kernel_rfl) ?_ _
    obtain ⟨⟨c0, c1, c2, c3⟩, hU⟩ := hH1
    have HU := Lib.hid hU
    clear hU
    go_wp2_with fail
    go_ret
    exact ⟨rfl, HU.out⟩
  · have hR : R = 0 := by rw [hck.out, if_neg (by omega)]
    subst hR
    have hk : decide (1099511627776 - e.ln < e.off) = false := by simpa using h4
    clear hck
    unfold eC at HB HS0 HW ⊢
    go_enter Try.func56, Try.ntmps56
    go_upto_region 3 with fail
    refine wp_region_held_drew (S := fun w' => (w'.cell? ⟨w.heap.size, 0, none⟩ = some (.int .u64 e.id) ∧ w'.cell? ⟨w.heap.size, 1, none⟩ = some (.int .u64 e.off) ∧ w'.cell? ⟨w.heap.size, 2, none⟩ = some (.int .u32 e.ln) ∧ w'.cell? ⟨w.heap.size, 3, none⟩ = some (.int .u32 e.rn)) ∧ Below w.heap.size w w') (by kernel_rfl) HS0 (fun hH0 => ?_)
    refine takeH (i := 0) (d := 6) (v := ?_) rfl rfl (by kernel_rfl) (by kernel_rfl) (by kernel_rfl) (fun _ _ _ h => h) (Or.inl ⟨by rfl, ?y0⟩) hH0 ?_
    case y0 => intro w hSw; go_simp; try with_reducible rfl
    try simp only [Act.put, List.setIfInBounds_toArray, List.set_cons_zero, List.set_cons_succ]
    refine takeH (i := 1) (d := 7) (v := ?_) rfl rfl (by kernel_rfl) (by kernel_rfl) (by kernel_rfl) (fun _ _ _ h => h) (Or.inl ⟨by rfl, ?y1⟩) hH0 ?_
    case y1 => intro w hSw; go_simp; try with_reducible rfl
    try simp only [Act.put, List.setIfInBounds_toArray, List.set_cons_zero, List.set_cons_succ]
    refine takeH (i := 2) (d := 8) (v := ?_) rfl rfl (by kernel_rfl) (by kernel_rfl) (by kernel_rfl) (fun _ _ _ h => h) (Or.inl ⟨by rfl, ?y2⟩) hH0 ?_
    case y2 => intro w hSw; go_simp; try with_reducible rfl
    try simp only [Act.put, List.setIfInBounds_toArray, List.set_cons_zero, List.set_cons_succ]
    refine wpAnyH_ready (rs := [3]) (by kernel_rfl) (by simp) ?_
    refine AllReadyH.cons rfl (fun K hK => ?_) AllReadyH.nil
    go_simp
    refine (HW.out _).mono ?_
    rintro e w' ⟨rfl, hb⟩
    go_wp2_with fail
    refine hK.out _ _ (keepE hb hH0) (fun hH1 => ?_)
    clear hK K hb hH0
    try simp only [Act.put, List.setIfInBounds_toArray, List.set_cons_zero, List.set_cons_succ]
    refine takeH (i := 4) (d := 10) (v := ?_) rfl rfl (by kernel_rfl) (by kernel_rfl) (by kernel_rfl) (fun _ _ _ h => h) (Or.inl ⟨by rfl, ?y4⟩) hH1 ?_
    case y4 => intro w hSw; go_simp; try with_reducible rfl
    try simp only [Act.put, List.setIfInBounds_toArray, List.set_cons_zero, List.set_cons_succ]
    refine takeH (i := 5) (d := 11) (v := ?_) rfl rfl (by kernel_rfl) (by kernel_rfl) (by kernel_rfl) (fun _ _ _ h => h) (Or.inl ⟨by rfl, ?y5⟩) hH1 ?_
    case y5 => intro w hSw; go_simp; try with_reducible rfl
    try simp only [Act.put, List.setIfInBounds_toArray, List.set_cons_zero, List.set_cons_succ]
    refine takeH (i := 6) (d := 12) (v := ?_) rfl rfl (by kernel_rfl) (by kernel_rfl) (by kernel_rfl) (fun _ _ _ h => h) (Or.inl ⟨by rfl, ?y6⟩) hH1 ?_
    case y6 => intro w hSw; go_simp; try with_reducible rfl
    try simp only [Act.put, List.setIfInBounds_toArray, List.set_cons_zero, List.set_cons_succ]
    refine takeH (i := 7) (d := 13) (v := ?_) rfl rfl (by kernel_rfl) (by kernel_rfl) (by kernel_rfl) (fun _ _ _ h => h) (Or.inl ⟨by rfl, ?y7⟩) hH1 ?_
    case y7 => intro w hSw; go_simp; try with_reducible rfl
    try simp only [Act.put, List.setIfInBounds_toArray, List.set_cons_zero, List.set_cons_succ]
    refine takeH (i := 8) (d := 14) (v := ?_) rfl rfl (by kernel_rfl) (by kernel_rfl) (by kernel_rfl) (fun _ _ _ h => h) (Or.inl ⟨by rfl, ?y8⟩) hH1 ?_
    case y8 => intro w hSw; go_simp; try with_reducible rfl
    try simp only [Act.put, List.setIfInBounds_toArray, List.set_cons_zero, List.set_cons_succ]
    refine takeH (i := 9) (d := 15) (v := ?_) rfl rfl (by kernel_rfl) (by kernel_rfl) (by kernel_rfl) (fun _ _ _ h => h) (Or.inl ⟨by rfl, ?y9⟩) hH1 ?_
    case y9 => intro w hSw; go_simp; try with_reducible rfl
    try simp only [Act.put, List.setIfInBounds_toArray, List.set_cons_zero, List.set_cons_succ]
    refine takeH (i := 10) (d := 16) (v := ?_) rfl rfl (by kernel_rfl) (by kernel_rfl) (by kernel_rfl) (fun _ _ _ h => h) (Or.inl ⟨by rfl, ?y10⟩) hH1 ?_
    case y10 => intro w hSw; go_simp; try with_reducible rfl
    try simp only [Act.put, List.setIfInBounds_toArray, List.set_cons_zero, List.set_cons_succ]
    refine takeH (i := 11) (d := 17) (v := ?_) rfl rfl (by kernel_rfl) (by kernel_rfl) (by kernel_rfl) (fun _ _ _ h => h) (Or.inl ⟨by rfl, ?y11⟩) hH1 ?_
    case y11 => intro w hSw; go_simp; try with_reducible rfl
    try simp only [Act.put, List.setIfInBounds_toArray, List.set_cons_zero, List.set_cons_succ]
    refine takeH (i := 12) (d := 18) (v := ?_) rfl rfl (by kernel_rfl) (by kernel_rfl) (by kernel_rfl) (fun _ _ _ h => h) (Or.inl ⟨by rfl, ?y12⟩) hH1 ?_
    case y12 => intro w hSw; go_simp; try with_reducible rfl
    try simp only [Act.put, List.setIfInBounds_toArray, List.set_cons_zero, List.set_cons_succ]
    refine takeH (i := 13) (d := 19) (v := ?_) rfl rfl (by kernel_rfl) (by kernel_rfl) (by kernel_rfl) (fun _ _ _ h => h) (Or.inl ⟨by rfl, ?y13⟩) hH1 ?_
    case y13 => intro w hSw; go_simp; try with_reducible rfl
    try simp only [Act.put, List.setIfInBounds_toArray, List.set_cons_zero, List.set_cons_succ]
    refine takeH (i := 14) (d := 20) (v := ?_) rfl rfl (by kernel_rfl) (by kernel_rfl) (by kernel_rfl) (fun _ _ _ h => h) (Or.inl ⟨by rfl, ?y14⟩) hH1 ?_
    case y14 => intro w hSw; go_simp; try with_reducible rfl
    try simp only [Act.put, List.setIfInBounds_toArray, List.set_cons_zero, List.set_cons_succ]
    refine wpAnyH_done (by kernel_rfl) ?_ _
    obtain ⟨⟨c0, c1, c2, c3⟩, hU⟩ := hH1
    have HU := Lib.hid hU
    clear hU
    go_wp2_with fail
    go_ret
    exact ⟨rfl, HU.out⟩
set_option maxRecDepth 20000 in
set_option maxHeartbeats 1000000 in
theorem plast_any (e : En) (w : World) (hm : MayN e) : Calls Try.prog 57 #[.agg (eC e)] w fun x w' => x = .returned (.int .u64 (laN e)) ∧ Below w.heap.size w w' := by
  have HW := Lib.hid (fun W => pwide_any e W hm)
  have HC := Lib.hid (fun W => pcheck_any e W hm)
  have H0 := EAt.made w e 52
  have HB : Below w.heap.size w (w.alloc (.cells (eC e) 52)) := (Below.refl _ _).alloc (Nat.le_refl _) _
  have hwd := wd_pos e hm.2.2.2.1
  by_cases h0 : ckN e = 0
  · have hb := ck_ok e h0
    have hi := hm.1
    have hw1 : IntKind.u64.wrap (e.id + wdN e) = e.id + wdN e := by rw [IntKind.wrap_u64] <;> omega
    have hw2 : IntKind.u64.wrap (e.id + wdN e - 1) = e.id + wdN e - 1 := by rw [IntKind.wrap_u64] <;> omega
    have hla : Hid (e.id + wdN e - 1 = laN e) := Lib.hid (by unfold laN; rw [if_pos h0])
    rw [h0] at HC
    obtain ⟨d, hd⟩ : ∃ d, wdN e = d := ⟨_, rfl⟩
    rw [hd] at HW hw1 hw2 hla
    clear hd h0 hb hm hwd
    unfold eC at HB HC HW ⊢
    obtain ⟨c0, c1, c2, c3⟩ := H0
    unfold eC at c0 c1 c2 c3
    go_enter Try.func57, Try.ntmps57
    go_wp2_with fail
    refine (HC.out _).mono ?_
    rintro x w1 ⟨rfl, hb⟩
    have HS1 := keepE hb ⟨⟨c0, c1, c2, c3⟩, HB⟩
    have HS0 := keepE (Below.drew (Below.refl _ _)) HS1
    clear hb c0 c1 c2 c3 HB HS1
    go_upto_region 3 with fail
    refine wp_region_held_drew (S := fun w' => (w'.cell? ⟨w.heap.size, 0, none⟩ = some (.int .u64 e.id) ∧ w'.cell? ⟨w.heap.size, 1, none⟩ = some (.int .u64 e.off) ∧ w'.cell? ⟨w.heap.size, 2, none⟩ = some (.int .u32 e.ln) ∧ w'.cell? ⟨w.heap.size, 3, none⟩ = some (.int .u32 e.rn)) ∧ Below w.heap.size w w') (by kernel_rfl) HS0 (fun hH0 => ?_)
    refine takeH (i := 0) (d := 6) (v := ?_) rfl rfl (by kernel_rfl) (by kernel_rfl) (by kernel_rfl) (fun _ _ _ h => h) (Or.inl ⟨by rfl, ?y0⟩) hH0 ?_
    case y0 => intro w hSw; go_simp; try with_reducible rfl
    try simp only [Act.put, List.setIfInBounds_toArray, List.set_cons_zero, List.set_cons_succ]
    refine takeH (i := 1) (d := 7) (v := ?_) rfl rfl (by kernel_rfl) (by kernel_rfl) (by kernel_rfl) (fun _ _ _ h => h) (Or.inl ⟨by rfl, ?y1⟩) hH0 ?_
    case y1 => intro w hSw; go_simp; try with_reducible rfl
    try simp only [Act.put, List.setIfInBounds_toArray, List.set_cons_zero, List.set_cons_succ]
    refine takeH (i := 2) (d := 8) (v := ?_) rfl rfl (by kernel_rfl) (by kernel_rfl) (by kernel_rfl) (fun _ _ _ h => h) (Or.inl ⟨by rfl, ?y2⟩) hH0 ?_
    case y2 => intro w hSw; go_simp; try with_reducible rfl
    try simp only [Act.put, List.setIfInBounds_toArray, List.set_cons_zero, List.set_cons_succ]
    refine wpAnyH_ready (rs := [3]) (by kernel_rfl) (by simp) ?_
    refine AllReadyH.cons rfl (fun K hK => ?_) AllReadyH.nil
    go_simp
    refine (HW.out _).mono ?_
    rintro e w' ⟨rfl, hb⟩
    go_wp2_with fail
    refine hK.out _ _ (keepE hb hH0) (fun hH1 => ?_)
    clear hK K hb hH0
    try simp only [Act.put, List.setIfInBounds_toArray, List.set_cons_zero, List.set_cons_succ]
    refine takeH (i := 4) (d := 10) (v := ?_) rfl rfl (by kernel_rfl) (by kernel_rfl) (by kernel_rfl) (fun _ _ _ h => h) (Or.inl ⟨by rfl, ?y4⟩) hH1 ?_
    case y4 => intro w hSw; go_simp; try with_reducible rfl
    try simp only [Act.put, List.setIfInBounds_toArray, List.set_cons_zero, List.set_cons_succ]
    refine takeH (i := 5) (d := 11) (v := ?_) rfl rfl (by kernel_rfl) (by kernel_rfl) (by kernel_rfl) (fun _ _ _ h => h) (Or.inl ⟨by rfl, ?y5⟩) hH1 ?_
    case y5 => intro w hSw; go_simp; try with_reducible rfl
    try simp only [Act.put, List.setIfInBounds_toArray, List.set_cons_zero, List.set_cons_succ]
    refine takeH (i := 6) (d := 2) (v := ?_) rfl rfl (by kernel_rfl) (by kernel_rfl) (by kernel_rfl) (fun _ _ _ h => h) (Or.inl ⟨by rfl, ?y6⟩) hH1 ?_
    case y6 => intro w hSw; go_simp; try with_reducible rfl
    try simp only [Act.put, List.setIfInBounds_toArray, List.set_cons_zero, List.set_cons_succ]
    refine wpAnyH_done (by kernel_rfl) ?_ _
    go_wp2_with fail
    go_ret
    exact ⟨ret_u64 hla.out, hH1.2⟩
  · have hla : laN e = 0 := by unfold laN; rw [if_neg h0]
    rw [hla]
    obtain ⟨r, hr⟩ : ∃ r, ckN e = r := ⟨_, rfl⟩
    rw [hr] at HC h0
    have hne : (r != 0) = true := by simp only [bne_iff_ne, ne_eq]; exact h0
    clear hr h0 hm hla hwd HW
    unfold eC at HB HC ⊢
    obtain ⟨c0, c1, c2, c3⟩ := H0
    unfold eC at c0 c1 c2 c3
    go_enter Try.func57, Try.ntmps57
    go_wp2_with fail
    refine (HC.out _).mono ?_
    rintro x w1 ⟨rfl, hb⟩
    have HS1 := keepE hb ⟨⟨c0, c1, c2, c3⟩, HB⟩
    have HU := Lib.hid HS1.2
    clear hb c0 c1 c2 c3 HB HS1
    go_wp2_with fail
    go_ret
    exact ⟨rfl, HU.out⟩
end Go.Proofs.Ytbkodaijigcebaa
/- Contracts of the program's Has: what its plain function says. -/
namespace Go.Proofs.Ytbkodaijigcebaa
open Go.RowKit
set_option maxRecDepth 20000
set_option linter.unusedVariables false
set_option linter.unusedSimpArgs false
set_option maxRecDepth 20000 in
set_option maxHeartbeats 1000000 in
theorem phas_any (e : En) (q : Int) (w : World) (hm : MayN e) : Calls Try.prog 41 #[.agg (eC e), .int .u64 q] w fun x w' => x = .returned (.bool (hasN e q)) ∧ Below w.heap.size w w' := by
  have HL := Lib.hid (fun W => plast_any e W hm)
  have HC := Lib.hid (fun W => pcheck_any e W hm)
  have HP := Lib.hid (fun W => pptr_any e W)
  have H0 := EAt.made w e 52
  have HB : Below w.heap.size w (w.alloc (.cells (eC e) 52)) := (Below.refl _ _).alloc (Nat.le_refl _) _
  have hz : Hid (0 ≤ e.rn) := Lib.hid hm.2.2.2.1
  obtain ⟨r, hr⟩ : ∃ r, ckN e = r := ⟨_, rfl⟩
  obtain ⟨la, hla⟩ : ∃ la, laN e = la := ⟨_, rfl⟩
  have hh : Hid ((decide (r = 0) && (decide (0 < e.rn) && (decide (e.id ≤ q) && decide (q ≤ la)))) = hasN e q) := Lib.hid (by unfold hasN; rw [hr, hla])
  obtain ⟨b, hb⟩ : ∃ b, hasN e q = b := ⟨_, rfl⟩
  rw [hb] at hh ⊢
  rw [hr] at HC
  rw [hla] at HL
  clear hb hr hla hm
  unfold eC at HB HC HL HP ⊢
  obtain ⟨c0, c1, c2, c3⟩ := H0
  unfold eC at c0 c1 c2 c3
  by_cases h0 : r = 0
  · subst h0
    by_cases h1 : e.rn = 0
    · have d1 : decide (0 < e.rn) = false := by simp; omega
      have d0 : decide (e.rn = 0) = true := by simpa using h1
      rw [d0] at HP
      clear h1 d0
      go_enter Try.func41, Try.ntmps41
      go_wp2_with fail
      refine (HC.out _).mono ?_
      rintro x w1 ⟨rfl, hb⟩
      obtain ⟨⟨k0, k1, k2, k3⟩, hU⟩ := keepE hb ⟨⟨c0, c1, c2, c3⟩, HB⟩
      have HU := Lib.hid hU
      clear hb c0 c1 c2 c3 HB hU
      go_wp2_with fail
      refine (HP.out _).mono ?_
      rintro x w2 ⟨rfl, hb⟩
      obtain ⟨⟨c0, c1, c2, c3⟩, hU⟩ := keepE hb ⟨⟨k0, k1, k2, k3⟩, HU.out⟩
      have HU2 := Lib.hid hU
      clear hb k0 k1 k2 k3 HU hU
      go_wp2_with fail
      go_ret
      exact ⟨ret_b (by rw [← hh.out, d1]; simp), HU2.out⟩
    · have d1 : decide (0 < e.rn) = true := by have := hz.out; simp; omega
      have d0 : decide (e.rn = 0) = false := by simpa using h1
      rw [d0] at HP
      clear h1 d0
      by_cases h2 : e.id ≤ q
      · have d2 : decide (e.id ≤ q) = true := by simpa using h2
        clear h2
        go_enter Try.func41, Try.ntmps41
        go_wp2_with fail
        refine (HC.out _).mono ?_
        rintro x w1 ⟨rfl, hb⟩
        obtain ⟨⟨k0, k1, k2, k3⟩, hU⟩ := keepE hb ⟨⟨c0, c1, c2, c3⟩, HB⟩
        have HU := Lib.hid hU
        clear hb c0 c1 c2 c3 HB hU
        go_wp2_with fail
        refine (HP.out _).mono ?_
        rintro x w2 ⟨rfl, hb⟩
        obtain ⟨⟨c0, c1, c2, c3⟩, hU⟩ := keepE hb ⟨⟨k0, k1, k2, k3⟩, HU.out⟩
        have HU2 := Lib.hid hU
        clear hb k0 k1 k2 k3 HU hU
        go_wp2_with fail
        refine (HL.out _).mono ?_
        rintro x w3 ⟨rfl, hb⟩
        have HU3 := Lib.hid (HU2.out.trans (hb.mono HU2.out.size))
        clear hb c0 c1 c2 c3
        go_wp2_with fail
        go_ret
        exact ⟨ret_b (by rw [← hh.out, d1, d2]; simp), HU3.out⟩
      · have d2 : decide (e.id ≤ q) = false := by simpa using h2
        clear h2
        go_enter Try.func41, Try.ntmps41
        go_wp2_with fail
        refine (HC.out _).mono ?_
        rintro x w1 ⟨rfl, hb⟩
        obtain ⟨⟨k0, k1, k2, k3⟩, hU⟩ := keepE hb ⟨⟨c0, c1, c2, c3⟩, HB⟩
        have HU := Lib.hid hU
        clear hb c0 c1 c2 c3 HB hU
        go_wp2_with fail
        refine (HP.out _).mono ?_
        rintro x w2 ⟨rfl, hb⟩
        obtain ⟨⟨c0, c1, c2, c3⟩, hU⟩ := keepE hb ⟨⟨k0, k1, k2, k3⟩, HU.out⟩
        have HU2 := Lib.hid hU
        clear hb k0 k1 k2 k3 HU hU
        go_wp2_with fail
        go_ret
        exact ⟨ret_b (by rw [← hh.out, d1, d2]; simp), HU2.out⟩
  · have hne : (r == 0) = false := by simpa using h0
    have hne2 : decide (r = 0) = false := by simpa using h0
    clear h0
    go_enter Try.func41, Try.ntmps41
    go_wp2_with fail
    refine (HC.out _).mono ?_
    rintro x w1 ⟨rfl, hb⟩
    obtain ⟨⟨k0, k1, k2, k3⟩, hU⟩ := keepE hb ⟨⟨c0, c1, c2, c3⟩, HB⟩
    have HU := Lib.hid hU
    clear hb c0 c1 c2 c3 HB hU
    go_wp2_with fail
    go_ret
    exact ⟨ret_b (by rw [← hh.out, hne2]; simp), HU.out⟩
end Go.Proofs.Ytbkodaijigcebaa
/- Contracts of the library's Equal at entries, and of the program's Same: two lists are the same. -/
namespace Go.Proofs.Ytbkodaijigcebaa
open Go.RowKit
set_option maxRecDepth 20000
set_option linter.unusedVariables false
set_option linter.unusedSimpArgs false
theorem eq_entP (a b : En) (T : TypeId) (w : World) (hT : T = 52) : (Op.equalIn 10000 T (.agg #[.int .u64 a.id, .int .u64 a.off, .int .u32 a.ln, .int .u32 a.rn]) (.agg #[.int .u64 b.id, .int .u64 b.off, .int .u32 b.ln, .int .u32 b.rn])).run Try.prog w = .ok (decide (a = b)) w := by
  subst hT
  have hS : Try.prog.underlying 52 = some (.struct (Try.prog.fieldsOf 52)) := by kernel_rfl
  rw [show (10000 : Nat) = 9999 + 1 from rfl, run_equalIn_agg w 9999 _ _ _ hS (by kernel_rfl)]
  simp only [Program.fieldsOf, Try.underlying52]
  go_simp
  by_cases h0 : a.id = b.id
  case neg => simp [h0, En.eq_iff]
  by_cases h1 : a.off = b.off
  case neg => simp [h0, h1, En.eq_iff]
  by_cases h2 : a.ln = b.ln
  case neg => simp [h0, h1, h2, En.eq_iff]
  by_cases h3 : a.rn = b.rn
  case neg => simp [h0, h1, h2, h3, En.eq_iff]
  simp [h0, h1, h2, h3, En.eq_iff]
set_option maxRecDepth 20000 in
set_option maxHeartbeats 2000000 in
theorem pequal_any (v u : Value) (l m : List En) (w : World) (hv : EnsAt w v l) (hu : EnsAt w u m) : Calls Try.prog 37 #[v, u] w fun x w' => x = .returned (.bool (decide (l = m))) ∧ Below w.heap.size w w' := by
  obtain ⟨al, cap, rfl, hcap, hmx, hc⟩ := hv
  obtain ⟨am, cam, rfl, hcam, hmm, hcm⟩ := hu
  have HC := Lib.hid hc
  have HD := Lib.hid hcm
  obtain ⟨R, hR⟩ : ∃ R, decide (l = m) = R := ⟨_, rfl⟩
  rw [hR]
  have HR := Lib.hid hR
  have hml : l.length ≤ 9223372036854775807 := by unfold maxLen at hmx; omega
  clear hc hcm hR
  by_cases hne : l.length = m.length
  · have hd : ((l.length : Int) != (m.length : Int)) = false := by simp; omega
    have HN := Lib.hid hne
    clear hne
    go_enter Try.func37, Try.ntmps37
    go_wp2_with fail
    go_loopw [13] (fun s wr => ∃ i : Nat, i ≤ l.length ∧ s = .int .i64 i ∧ Hid (l.take i = m.take i) ∧ Below w.heap.size w wr) (fun s _ => l.length - (intOf s).toNat)
    case atStart => exact ⟨0, Nat.zero_le _, rfl, Lib.hid rfl, Below.refl _ _⟩
    case round =>
      obtain ⟨i, hi, rfl, HG, hbw⟩ := hrel
      by_cases hlt : i < l.length
      · have hlm : i < m.length := by have := HN.out; omega
        obtain ⟨e, he⟩ : ∃ t, l[i]? = some t := ⟨_, List.getElem?_eq_getElem hlt⟩
        obtain ⟨f, hf⟩ : ∃ t, m[i]? = some t := ⟨_, List.getElem?_eq_getElem hlm⟩
        obtain ⟨g, off, rfl, hg, l0, l1, l2, l3⟩ := HC.out i e he
        obtain ⟨g', off', rfl, hg', f0, f1, f2, f3⟩ := HD.out i f hf
        have HS0 := keep2E (Below.drew (Below.refl _ _)) ⟨cells4 hbw ⟨l0, l1, l2, l3⟩, cells4 hbw ⟨f0, f1, f2, f3⟩, hbw⟩
        have hq := fun W => eq_entP e f _ W rfl
        have hi2 : (i : Int) < (l.length : Int) := by omega
        have hi3 : (i : Int) < (m.length : Int) := by omega
        have hi4 : (0 : Int) ≤ (i : Int) := by omega
        have HE := Lib.hid (And.intro he hf)
        clear he hf l0 l1 l2 l3 f0 f1 f2 f3 hbw hg hg'
        by_cases hef : e = f
        · rw [decide_eq_true hef] at hq
          have HG2 : Hid (l.take (i + 1) = m.take (i + 1)) := Lib.hid (by rw [take_one l i e HE.out.1, take_one m i f HE.out.2, HG.out, hef])
          clear hef HG HE
          go_upto_region 6 with fail
          refine wp_region_held_drew (S := fun w' => (w'.cell? ⟨g, off + i * 4, none⟩ = some (.int .u64 e.id) ∧ w'.cell? ⟨g, off + i * 4 + 1, none⟩ = some (.int .u64 e.off) ∧ w'.cell? ⟨g, off + i * 4 + 2, none⟩ = some (.int .u32 e.ln) ∧ w'.cell? ⟨g, off + i * 4 + 3, none⟩ = some (.int .u32 e.rn)) ∧ (w'.cell? ⟨g', off' + i * 4, none⟩ = some (.int .u64 f.id) ∧ w'.cell? ⟨g', off' + i * 4 + 1, none⟩ = some (.int .u64 f.off) ∧ w'.cell? ⟨g', off' + i * 4 + 2, none⟩ = some (.int .u32 f.ln) ∧ w'.cell? ⟨g', off' + i * 4 + 3, none⟩ = some (.int .u32 f.rn)) ∧ Below w.heap.size w w') (by kernel_rfl) HS0 (fun hH0 => ?_)
          refine takeH (i := 0) (d := 16) (v := ?_) rfl rfl (by kernel_rfl) (by kernel_rfl) (by kernel_rfl) (fun _ _ _ h => h) (Or.inl ⟨by rfl, ?y0⟩) hH0 ?_
          case y0 => intro w hSw; go_simp; try with_reducible rfl
          try simp only [Act.put, List.setIfInBounds_toArray, List.set_cons_zero, List.set_cons_succ]
          refine takeH (i := 1) (d := 17) (v := ?_) rfl rfl (by kernel_rfl) (by kernel_rfl) (by kernel_rfl) (fun _ _ _ h => h) (Or.inl ⟨by rfl, ?y1⟩) hH0 ?_
          case y1 => intro w hSw; go_simp; try with_reducible rfl
          try simp only [Act.put, List.setIfInBounds_toArray, List.set_cons_zero, List.set_cons_succ]
          refine takeH (i := 2) (d := 18) (v := ?_) rfl rfl (by kernel_rfl) (by kernel_rfl) (by kernel_rfl) (fun _ _ _ h => h) (Or.inl ⟨by rfl, ?y2⟩) hH0 ?_
          case y2 => intro w hSw; go_simp; try with_reducible rfl
          try simp only [Act.put, List.setIfInBounds_toArray, List.set_cons_zero, List.set_cons_succ]
          refine takeH (i := 3) (d := 19) (v := ?_) rfl rfl (by kernel_rfl) (by kernel_rfl) (by kernel_rfl) (fun _ _ _ h => h) (Or.inl ⟨by rfl, ?y3⟩) hH0 ?_
          case y3 => intro w hSw; go_simp; try with_reducible rfl
          try simp only [Act.put, List.setIfInBounds_toArray, List.set_cons_zero, List.set_cons_succ]
          refine takeH (i := 4) (d := 20) (v := ?_) rfl rfl (by kernel_rfl) (by kernel_rfl) (by kernel_rfl) (fun _ _ _ h => h) (Or.inl ⟨by rfl, ?y4⟩) hH0 ?_
          case y4 => intro w hSw; go_simp; try with_reducible rfl
          try simp only [Act.put, List.setIfInBounds_toArray, List.set_cons_zero, List.set_cons_succ]
          refine takeH (i := 5) (d := 21) (v := ?_) rfl rfl (by kernel_rfl) (by kernel_rfl) (by kernel_rfl) (fun _ _ _ h => h) (Or.inl ⟨by rfl, ?y5⟩) hH0 ?_
          case y5 => intro w hSw; go_simp; try with_reducible rfl
          try simp only [Act.put, List.setIfInBounds_toArray, List.set_cons_zero, List.set_cons_succ]
          refine takeH (i := 6) (d := 22) (v := ?_) rfl rfl (by kernel_rfl) (by kernel_rfl) (by kernel_rfl) (fun _ _ _ h => h) (Or.inl ⟨by rfl, ?y6⟩) hH0 ?_
          case y6 => intro w hSw; go_simp; try with_reducible rfl
          try simp only [Act.put, List.setIfInBounds_toArray, List.set_cons_zero, List.set_cons_succ]
          refine takeH (i := 7) (d := 23) (v := ?_) rfl rfl (by kernel_rfl) (by kernel_rfl) (by kernel_rfl) (fun _ _ _ h => h) (Or.inl ⟨by rfl, ?y7⟩) hH0 ?_
          case y7 => intro w hSw; go_simp; try with_reducible rfl
          try simp only [Act.put, List.setIfInBounds_toArray, List.set_cons_zero, List.set_cons_succ]
          refine takeH (i := 8) (d := 24) (v := ?_) rfl rfl (by kernel_rfl) (by kernel_rfl) (by kernel_rfl) (fun _ _ _ h => h) (Or.inl ⟨by rfl, ?y8⟩) hH0 ?_
          case y8 => intro w hSw; go_simp; try with_reducible rfl
          try simp only [Act.put, List.setIfInBounds_toArray, List.set_cons_zero, List.set_cons_succ]
          refine wpAnyH_done (by kernel_rfl) ?_ _
          go_wp2_with fail
          go_roundw
          case rel => exact ⟨i + 1, by omega, by go_num, HG2, hH0.2.2⟩
          case measure => simp [intOf]; omega
        · rw [decide_eq_false hef] at hq
          have hR : R = false := by
            rw [← HR.out, decide_eq_false_iff_not]
            intro hlm2
            apply hef
            have h1 := HE.out.1
            rw [hlm2, HE.out.2] at h1
            exact (Option.some.inj h1).symm
          subst hR
          clear hef HG HE HR
          go_upto_region 6 with fail
          refine wp_region_held_drew (S := fun w' => (w'.cell? ⟨g, off + i * 4, none⟩ = some (.int .u64 e.id) ∧ w'.cell? ⟨g, off + i * 4 + 1, none⟩ = some (.int .u64 e.off) ∧ w'.cell? ⟨g, off + i * 4 + 2, none⟩ = some (.int .u32 e.ln) ∧ w'.cell? ⟨g, off + i * 4 + 3, none⟩ = some (.int .u32 e.rn)) ∧ (w'.cell? ⟨g', off' + i * 4, none⟩ = some (.int .u64 f.id) ∧ w'.cell? ⟨g', off' + i * 4 + 1, none⟩ = some (.int .u64 f.off) ∧ w'.cell? ⟨g', off' + i * 4 + 2, none⟩ = some (.int .u32 f.ln) ∧ w'.cell? ⟨g', off' + i * 4 + 3, none⟩ = some (.int .u32 f.rn)) ∧ Below w.heap.size w w') (by kernel_rfl) HS0 (fun hH0 => ?_)
          refine takeH (i := 0) (d := 16) (v := ?_) rfl rfl (by kernel_rfl) (by kernel_rfl) (by kernel_rfl) (fun _ _ _ h => h) (Or.inl ⟨by rfl, ?y0⟩) hH0 ?_
          case y0 => intro w hSw; go_simp; try with_reducible rfl
          try simp only [Act.put, List.setIfInBounds_toArray, List.set_cons_zero, List.set_cons_succ]
          refine takeH (i := 1) (d := 17) (v := ?_) rfl rfl (by kernel_rfl) (by kernel_rfl) (by kernel_rfl) (fun _ _ _ h => h) (Or.inl ⟨by rfl, ?y1⟩) hH0 ?_
          case y1 => intro w hSw; go_simp; try with_reducible rfl
          try simp only [Act.put, List.setIfInBounds_toArray, List.set_cons_zero, List.set_cons_succ]
          refine takeH (i := 2) (d := 18) (v := ?_) rfl rfl (by kernel_rfl) (by kernel_rfl) (by kernel_rfl) (fun _ _ _ h => h) (Or.inl ⟨by rfl, ?y2⟩) hH0 ?_
          case y2 => intro w hSw; go_simp; try with_reducible rfl
          try simp only [Act.put, List.setIfInBounds_toArray, List.set_cons_zero, List.set_cons_succ]
          refine takeH (i := 3) (d := 19) (v := ?_) rfl rfl (by kernel_rfl) (by kernel_rfl) (by kernel_rfl) (fun _ _ _ h => h) (Or.inl ⟨by rfl, ?y3⟩) hH0 ?_
          case y3 => intro w hSw; go_simp; try with_reducible rfl
          try simp only [Act.put, List.setIfInBounds_toArray, List.set_cons_zero, List.set_cons_succ]
          refine takeH (i := 4) (d := 20) (v := ?_) rfl rfl (by kernel_rfl) (by kernel_rfl) (by kernel_rfl) (fun _ _ _ h => h) (Or.inl ⟨by rfl, ?y4⟩) hH0 ?_
          case y4 => intro w hSw; go_simp; try with_reducible rfl
          try simp only [Act.put, List.setIfInBounds_toArray, List.set_cons_zero, List.set_cons_succ]
          refine takeH (i := 5) (d := 21) (v := ?_) rfl rfl (by kernel_rfl) (by kernel_rfl) (by kernel_rfl) (fun _ _ _ h => h) (Or.inl ⟨by rfl, ?y5⟩) hH0 ?_
          case y5 => intro w hSw; go_simp; try with_reducible rfl
          try simp only [Act.put, List.setIfInBounds_toArray, List.set_cons_zero, List.set_cons_succ]
          refine takeH (i := 6) (d := 22) (v := ?_) rfl rfl (by kernel_rfl) (by kernel_rfl) (by kernel_rfl) (fun _ _ _ h => h) (Or.inl ⟨by rfl, ?y6⟩) hH0 ?_
          case y6 => intro w hSw; go_simp; try with_reducible rfl
          try simp only [Act.put, List.setIfInBounds_toArray, List.set_cons_zero, List.set_cons_succ]
          refine takeH (i := 7) (d := 23) (v := ?_) rfl rfl (by kernel_rfl) (by kernel_rfl) (by kernel_rfl) (fun _ _ _ h => h) (Or.inl ⟨by rfl, ?y7⟩) hH0 ?_
          case y7 => intro w hSw; go_simp; try with_reducible rfl
          try simp only [Act.put, List.setIfInBounds_toArray, List.set_cons_zero, List.set_cons_succ]
          refine takeH (i := 8) (d := 24) (v := ?_) rfl rfl (by kernel_rfl) (by kernel_rfl) (by kernel_rfl) (fun _ _ _ h => h) (Or.inl ⟨by rfl, ?y8⟩) hH0 ?_
          case y8 => intro w hSw; go_simp; try with_reducible rfl
          try simp only [Act.put, List.setIfInBounds_toArray, List.set_cons_zero, List.set_cons_succ]
          refine wpAnyH_done (by kernel_rfl) ?_ _
          go_wp2_with fail
          go_ret
          exact ⟨rfl, hH0.2.2⟩
      · obtain rfl : i = l.length := by omega
        have hR : R = true := by
          rw [← HR.out, decide_eq_true_iff]
          have := HG.out
          rw [List.take_length, HN.out, List.take_length] at this
          exact this
        subst hR
        clear HG HR
        go_wp2_with fail
        go_ret
        exact ⟨rfl, hbw⟩
  · have hd : ((l.length : Int) != (m.length : Int)) = true := by simp; omega
    have hR : R = false := by
      rw [← HR.out, decide_eq_false_iff_not]
      intro h
      exact hne (by rw [h])
    subst hR
    clear hne HR
    go_enter Try.func37, Try.ntmps37
    go_wp2_with fail
    go_ret
    exact ⟨rfl, by go_grown⟩
theorem psame_any (v u : Value) (l m : List En) (w : World) (hv : EnsAt w v l) (hu : EnsAt w u m) : Calls Try.prog 18 #[v, u] w fun x w' => x = .returned (.bool (decide (l = m))) ∧ Below w.heap.size w w' := by
  have HQ := Lib.hid (fun W (h : Below w.heap.size w W) => pequal_any v u l m W (hv.below h) (hu.below h))
  obtain ⟨al, cap, rfl, -, -, -⟩ := hv
  obtain ⟨am, cam, rfl, -, -, -⟩ := hu
  go_enter Try.func18, Try.ntmps18
  go_wp2_with fail
  refine (HQ.out _ (by go_grown)).mono ?_
  rintro x w1 ⟨rfl, hb⟩
  go_wp2_with fail
  go_ret
  exact ⟨rfl, hb⟩
end Go.Proofs.Ytbkodaijigcebaa
