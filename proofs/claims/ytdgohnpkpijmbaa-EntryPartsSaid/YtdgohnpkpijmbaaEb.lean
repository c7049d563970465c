/- Contracts of the document's Last and Has: each computes what its plain function says. -/
import Derived.Test.YtdgohnpkpijmbaaEa
namespace Go.Proofs.Ytdgohnpkpijmbaa
open Go.RowKit
set_option linter.unusedVariables false
set_option linter.unusedSimpArgs false
set_option maxRecDepth 20000 in
set_option maxHeartbeats 1000000 in
theorem rlastN_any (e : En) (w : World) (hm : MayN e) : Calls Try.prog 10 #[.agg (eC e)] w fun x w' => x = .returned (.int .u64 (laN e)) ∧ Below w.heap.size w w' := by
  have HW := Lib.hid (fun W => rwide_any e W hm)
  have HC := Lib.hid (fun W => rcheckN_any e W hm)
  have H0 := EAt.made w e 25
  have HB : Below w.heap.size w (w.alloc (.cells (eC e) 25)) := (Below.refl _ _).alloc (Nat.le_refl _) _
  have hwd := wd_pos e hm.2.2.2.1
  by_cases h0 : ckN e = 0
  · have hb := ck_ok e h0
    have hi := hm.1
    have hw1 : IntKind.u64.wrap (e.id + wdN e) = e.id + wdN e := by rw [IntKind.wrap_u64] <;> omega
    have hw2 : IntKind.u64.wrap (e.id + wdN e - 1) = e.id + wdN e - 1 := by rw [IntKind.wrap_u64] <;> omega
    have hla : Hid (e.id + wdN e - 1 = laN e) := Lib.hid (by unfold laN; rw [if_pos h0])
    rw [h0] at HC
    obtain ⟨d, hd⟩ : ∃ d, wdN e = d := ⟨_, rfl⟩
    rw [hd] at HW hw1 hw2 hla
    clear hd h0 hb hm hwd
    unfold eC at HB HC HW ⊢
    obtain ⟨c0, c1, c2, c3⟩ := H0
    unfold eC at c0 c1 c2 c3
    go_enter Try.func10, Try.ntmps10
    go_wp2_with fail
    refine (HC.out _).mono ?_
    rintro x w1 ⟨rfl, hb⟩
    have HS1 := keepE hb ⟨⟨c0, c1, c2, c3⟩, HB⟩
    have HS0 := keepE (Below.drew (Below.refl _ _)) HS1
    clear hb c0 c1 c2 c3 HB HS1
    go_upto_region 3 with fail
    refine wp_region_held_drew (S := fun w' => (w'.cell? ⟨w.heap.size, 0, none⟩ = some (.int .u64 e.id) ∧ w'.cell? ⟨w.heap.size, 1, none⟩ = some (.int .u64 e.off) ∧ w'.cell? ⟨w.heap.size, 2, none⟩ = some (.int .u32 e.ln) ∧ w'.cell? ⟨w.heap.size, 3, none⟩ = some (.int .u32 e.rn)) ∧ Below w.heap.size w w') (by kernel_rfl) HS0 (fun hH0 => ?_)
    refine takeH (i := 0) (d := 6) (v := ?_) rfl rfl (by kernel_rfl) (by kernel_rfl) (by kernel_rfl) (fun _ _ _ h => h) (Or.inl ⟨by rfl, ?y0⟩) hH0 ?_
    case y0 => intro w hSw; go_simp; try with_reducible rfl
    try simp only [Act.put, List.setIfInBounds_toArray, List.set_cons_zero, List.set_cons_succ]
    refine takeH (i := 1) (d := 7) (v := ?_) rfl rfl (by kernel_rfl) (by kernel_rfl) (by kernel_rfl) (fun _ _ _ h => h) (Or.inl ⟨by rfl, ?y1⟩) hH0 ?_
    case y1 => intro w hSw; go_simp; try with_reducible rfl
    try simp only [Act.put, List.setIfInBounds_toArray, List.set_cons_zero, List.set_cons_succ]
    refine takeH (i := 2) (d := 8) (v := ?_) rfl rfl (by kernel_rfl) (by kernel_rfl) (by kernel_rfl) (fun _ _ _ h => h) (Or.inl ⟨by rfl, ?y2⟩) hH0 ?_
    case y2 => intro w hSw; go_simp; try with_reducible rfl
    try simp only [Act.put, List.setIfInBounds_toArray, List.set_cons_zero, List.set_cons_succ]
    refine wpAnyH_ready (rs := [3]) (by kernel_rfl) (by simp) ?_
    refine AllReadyH.cons rfl (fun K hK => ?_) AllReadyH.nil
    go_simp
    refine (HW.out _).mono ?_
    rintro e w' ⟨rfl, hb⟩
    go_wp2_with fail
    refine hK.out _ _ (keepE hb hH0) (fun hH1 => ?_)
    clear hK K hb hH0
    try simp only [Act.put, List.setIfInBounds_toArray, List.set_cons_zero, List.set_cons_succ]
    refine takeH (i := 4) (d := 10) (v := ?_) rfl rfl (by kernel_rfl) (by kernel_rfl) (by kernel_rfl) (fun _ _ _ h => h) (Or.inl ⟨by rfl, ?y4⟩) hH1 ?_
    case y4 => intro w hSw; go_simp; try with_reducible rfl
    try simp only [Act.put, List.setIfInBounds_toArray, List.set_cons_zero, List.set_cons_succ]
    refine takeH (i := 5) (d := 11) (v := ?_) rfl rfl (by kernel_rfl) (by kernel_rfl) (by kernel_rfl) (fun _ _ _ h => h) (Or.inl ⟨by rfl, ?y5⟩) hH1 ?_
    case y5 => intro w hSw; go_simp; try with_reducible rfl
    try simp only [Act.put, List.setIfInBounds_toArray, List.set_cons_zero, List.set_cons_succ]
    refine takeH (i := 6) (d := 2) (v := ?_) rfl rfl (by kernel_rfl) (by kernel_rfl) (by kernel_rfl) (fun _ _ _ h => h) (Or.inl ⟨by rfl, ?y6⟩) hH1 ?_
    case y6 => intro w hSw; go_simp; try with_reducible rfl
    try simp only [Act.put, List.setIfInBounds_toArray, List.set_cons_zero, List.set_cons_succ]
    refine wpAnyH_done (by kernel_rfl) ?_ _
    go_wp2_with fail
    go_ret
    exact ⟨ret_u64 hla.out, hH1.2⟩
  · have hla : laN e = 0 := by unfold laN; rw [if_neg h0]
    rw [hla]
    obtain ⟨r, hr⟩ : ∃ r, ckN e = r := ⟨_, rfl⟩
    rw [hr] at HC h0
    have hne : (r != 0) = true := by simp only [bne_iff_ne, ne_eq]; exact h0
    clear hr h0 hm hla hwd HW
    unfold eC at HB HC ⊢
    obtain ⟨c0, c1, c2, c3⟩ := H0
    unfold eC at c0 c1 c2 c3
    go_enter Try.func10, Try.ntmps10
    go_wp2_with fail
    refine (HC.out _).mono ?_
    rintro x w1 ⟨rfl, hb⟩
    have HS1 := keepE hb ⟨⟨c0, c1, c2, c3⟩, HB⟩
    have HU := Lib.hid HS1.2
    clear hb c0 c1 c2 c3 HB HS1
    go_wp2_with fail
    go_ret
    exact ⟨rfl, HU.out⟩
set_option maxRecDepth 20000 in
set_option maxHeartbeats 1000000 in
theorem rhas_any (e : En) (q : Int) (w : World) (hm : MayN e) : Calls Try.prog 12 #[.agg (eC e), .int .u64 q] w fun x w' => x = .returned (.bool (hasN e q)) ∧ Below w.heap.size w w' := by
  have HL := Lib.hid (fun W => rlastN_any e W hm)
  have HC := Lib.hid (fun W => rcheckN_any e W hm)
  have H0 := EAt.made w e 25
  have HB : Below w.heap.size w (w.alloc (.cells (eC e) 25)) := (Below.refl _ _).alloc (Nat.le_refl _) _
  obtain ⟨r, hr⟩ : ∃ r, ckN e = r := ⟨_, rfl⟩
  obtain ⟨la, hla⟩ : ∃ la, laN e = la := ⟨_, rfl⟩
  have hh : Hid ((decide (r = 0) && (decide (0 < e.rn) && (decide (e.id ≤ q) && decide (q ≤ la)))) = hasN e q) := Lib.hid (by unfold hasN; rw [hr, hla])
  obtain ⟨b, hb⟩ : ∃ b, hasN e q = b := ⟨_, rfl⟩
  rw [hb] at hh ⊢
  rw [hr] at HC
  rw [hla] at HL
  clear hb hr hla hm
  unfold eC at HB HC HL ⊢
  obtain ⟨c0, c1, c2, c3⟩ := H0
  unfold eC at c0 c1 c2 c3
  by_cases h0 : r = 0
  · subst h0
    by_cases h1 : 0 < e.rn
    · have d1 : decide (0 < e.rn) = true := by simpa using h1
      by_cases h2 : e.id ≤ q
      · have d2 : decide (e.id ≤ q) = true := by simpa using h2
        clear h1 h2
        go_enter Try.func12, Try.ntmps12
        go_wp2_with fail
        refine (HC.out _).mono ?_
        rintro x w1 ⟨rfl, hb⟩
        obtain ⟨⟨k0, k1, k2, k3⟩, hU⟩ := keepE hb ⟨⟨c0, c1, c2, c3⟩, HB⟩
        have HU := Lib.hid hU
        clear hb c0 c1 c2 c3 HB hU
        go_wp2_with fail
        refine (HL.out _).mono ?_
        rintro x w2 ⟨rfl, hb⟩
        have HU2 := Lib.hid (HU.out.trans (hb.mono HU.out.size))
        clear hb k0 k1 k2 k3
        go_wp2_with fail
        go_ret
        exact ⟨ret_b (by rw [← hh.out, d1, d2]; simp), HU2.out⟩
      · have d2 : decide (e.id ≤ q) = false := by simpa using h2
        clear h1 h2
        go_enter Try.func12, Try.ntmps12
        go_wp2_with fail
        refine (HC.out _).mono ?_
        rintro x w1 ⟨rfl, hb⟩
        obtain ⟨⟨k0, k1, k2, k3⟩, hU⟩ := keepE hb ⟨⟨c0, c1, c2, c3⟩, HB⟩
        have HU := Lib.hid hU
        clear hb c0 c1 c2 c3 HB hU
        go_wp2_with fail
        go_ret
        exact ⟨ret_b (by rw [← hh.out, d1, d2]; simp), HU.out⟩
    · have d1 : decide (0 < e.rn) = false := by simpa using h1
      clear h1
      go_enter Try.func12, Try.ntmps12
      go_wp2_with fail
      refine (HC.out _).mono ?_
      rintro x w1 ⟨rfl, hb⟩
      obtain ⟨⟨k0, k1, k2, k3⟩, hU⟩ := keepE hb ⟨⟨c0, c1, c2, c3⟩, HB⟩
      have HU := Lib.hid hU
      clear hb c0 c1 c2 c3 HB hU
      go_wp2_with fail
      go_ret
      exact ⟨ret_b (by rw [← hh.out, d1]; simp), HU.out⟩
  · have hne : (r == 0) = false := by simpa using h0
    have hne2 : decide (r = 0) = false := by simpa using h0
    clear h0
    go_enter Try.func12, Try.ntmps12
    go_wp2_with fail
    refine (HC.out _).mono ?_
    rintro x w1 ⟨rfl, hb⟩
    obtain ⟨⟨k0, k1, k2, k3⟩, hU⟩ := keepE hb ⟨⟨c0, c1, c2, c3⟩, HB⟩
    have HU := Lib.hid hU
    clear hb c0 c1 c2 c3 HB hU
    go_wp2_with fail
    go_ret
    exact ⟨ret_b (by rw [← hh.out, hne2]; simp), HU.out⟩
end Go.Proofs.Ytdgohnpkpijmbaa
