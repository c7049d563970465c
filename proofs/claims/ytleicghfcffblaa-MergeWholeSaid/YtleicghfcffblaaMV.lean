/- Several texts, one behind the other: Va, Vb. -/
import Derived.Test.YtleicghfcffblaaMP
import Derived.Test.YtleicghfcffblaaMa
import Derived.Test.YtleicghfcffblaaNd
import Derived.Test.YtleicghfcffblaaNc
import Derived.Test.YtleicghfcffblaaMQ
/- merge's isPointer, check and goesOn. -/
namespace Go.Proofs.Ytleicghfcffblaa
open Go.RowKit
set_option maxRecDepth 20000
set_option linter.unusedVariables false
set_option linter.unusedSimpArgs false
theorem mptr_any (e : En) (w : World) : Calls Try.prog 46 #[.agg (eC e)] w fun x w' => x = .returned (.bool (decide (e.rn = 0))) ∧ Below w.heap.size w w' := by
  obtain ⟨i, o, l, r⟩ := e
  unfold eC
  dsimp only
  have hd : (r == 0) = decide (r = 0) := by rw [Bool.eq_iff_iff]; simp
  go_enter Try.func46, Try.ntmps46
  go_wp2_with fail
  go_ret
  exact ⟨ret_b (by first | exact hd | rfl | simp), by go_grown⟩
/-- What the program's check tells of an entry behind n tiles, with d bytes. -/
def chkN (e : En) (n d : Nat) : Int := if e.rn = 0 then 14 else if (d : Int) < e.off + e.ln then 8 else if 2048 < (n : Int) + e.rn then 21 else if 65536 < e.ln then 5 else 0
set_option maxHeartbeats 1000000 in
theorem mcheck_any (e : En) (n : Nat) (d : ByteArray) (w : World) (hm : MayN e) (hc : e.off + e.ln ≤ 9223372036854775807) (hn : n ≤ 1000000) (hd : d.size ≤ 1000000000) :
    Calls Try.prog 43 #[.agg (eC e), .int .i64 n, .string d] w fun x w' => x = .returned (.int .i64 (chkN e n d.size)) ∧ Below w.heap.size w w' := by
  have HP := Lib.hid (fun W => mptr_any e W)
  have H0 := EAt.made w e 62
  have HB : Below w.heap.size w (w.alloc (.cells (eC e) 62)) := (Below.refl _ _).alloc (Nat.le_refl _) _
  obtain ⟨m0, m1, m2, m3⟩ := hm
  unfold eC at HB HP ⊢
  obtain ⟨c0, c1, c2, c3⟩ := H0
  unfold eC at c0 c1 c2 c3
  have hw1 : IntKind.u64.wrap e.rn = e.rn := by rw [IntKind.wrap_u64]; omega
  have hw2 : IntKind.u64.wrap ((n : Int) + e.rn) = (n : Int) + e.rn := by rw [IntKind.wrap_u64]; omega
  have hw3 : IntKind.u64.wrap e.ln = e.ln := by rw [IntKind.wrap_u64]; omega
  have hw4 : IntKind.u64.wrap (e.off + e.ln) = e.off + e.ln := by rw [IntKind.wrap_u64]; omega
  have hw5 : IntKind.u64.wrap (d.size : Int) = (d.size : Int) := by rw [IntKind.wrap_u64]; omega
  have hw6 : IntKind.u64.wrap (n : Int) = (n : Int) := by rw [IntKind.wrap_u64]; omega
  have HR : Hid (chkN e n d.size = if e.rn = 0 then 14 else if (d.size : Int) < e.off + e.ln then 8 else if 2048 < (n : Int) + e.rn then 21 else if 65536 < e.ln then 5 else 0) := Lib.hid rfl
  generalize chkN e n d.size = R at *
  by_cases h1 : e.rn = 0
  · have HRR := Lib.hid (HR.out.trans (if_pos h1))
    have hd1 : decide (e.rn = 0) = true := by simpa using h1
    rw [hd1] at HP
    clear h1 hd1 HR
    go_enter Try.func43, Try.ntmps43
    go_wp2_with fail
    refine (HP.out _).mono ?_
    rintro x w1 ⟨rfl, hb⟩
    have HU := Lib.hid (keepE hb ⟨⟨c0, c1, c2, c3⟩, HB⟩).2
    clear hb c0 c1 c2 c3 HB
    go_wp2_with fail
    go_ret
    exact ⟨by rw [HRR.out]; rfl, HU.out⟩
  have hd1 : decide (e.rn = 0) = false := by simpa using h1
  rw [hd1] at HP
  have HR2 := Lib.hid (HR.out.trans (if_neg h1))
  clear HR hd1
  by_cases h2 : (d.size : Int) < e.off + e.ln
  · have HRR := Lib.hid (HR2.out.trans (if_pos h2))
    clear HR2 h1
    go_enter Try.func43, Try.ntmps43
    go_wp2_with fail
    refine (HP.out _).mono ?_
    rintro x w1 ⟨rfl, hb⟩
    obtain ⟨⟨k0, k1, k2, k3⟩, hU⟩ := keepE hb ⟨⟨c0, c1, c2, c3⟩, HB⟩
    have HU := Lib.hid hU
    clear hb c0 c1 c2 c3 HB hU
    go_wp2_with fail
    go_ret
    exact ⟨by rw [HRR.out]; rfl, HU.out⟩
  have HR3 := Lib.hid (HR2.out.trans (if_neg h2))
  clear HR2
  by_cases h3 : 2048 < (n : Int) + e.rn
  · have HRR := Lib.hid (HR3.out.trans (if_pos h3))
    clear HR3 h1
    go_enter Try.func43, Try.ntmps43
    go_wp2_with fail
    refine (HP.out _).mono ?_
    rintro x w1 ⟨rfl, hb⟩
    obtain ⟨⟨k0, k1, k2, k3⟩, hU⟩ := keepE hb ⟨⟨c0, c1, c2, c3⟩, HB⟩
    have HU := Lib.hid hU
    clear hb c0 c1 c2 c3 HB hU
    go_wp2_with fail
    go_ret
    exact ⟨by rw [HRR.out]; rfl, HU.out⟩
  have HR4 := Lib.hid (HR3.out.trans (if_neg h3))
  clear HR3
  by_cases h4 : 65536 < e.ln
  · have HRR := Lib.hid (HR4.out.trans (if_pos h4))
    clear HR4 h1
    go_enter Try.func43, Try.ntmps43
    go_wp2_with fail
    refine (HP.out _).mono ?_
    rintro x w1 ⟨rfl, hb⟩
    obtain ⟨⟨k0, k1, k2, k3⟩, hU⟩ := keepE hb ⟨⟨c0, c1, c2, c3⟩, HB⟩
    have HU := Lib.hid hU
    clear hb c0 c1 c2 c3 HB hU
    go_wp2_with fail
    go_ret
    exact ⟨by rw [HRR.out]; rfl, HU.out⟩
  have HRR := Lib.hid (HR4.out.trans (if_neg h4))
  clear HR4 h1
  go_enter Try.func43, Try.ntmps43
  go_wp2_with fail
  refine (HP.out _).mono ?_
  rintro x w1 ⟨rfl, hb⟩
  obtain ⟨⟨k0, k1, k2, k3⟩, hU⟩ := keepE hb ⟨⟨c0, c1, c2, c3⟩, HB⟩
  have HU := Lib.hid hU
  clear hb c0 c1 c2 c3 HB hU
  go_wp2_with fail
  go_ret
  exact ⟨by rw [HRR.out]; rfl, HU.out⟩
set_option maxHeartbeats 2000000 in
theorem goes_any (e a : En) (w : World) (he : MayN e) (ha : MayN a) : Calls Try.prog 38 #[.agg (eC e), .agg (eC a)] w fun x w' => x = .returned (.bool (oneE a e)) ∧ Below w.heap.size w w' := by
  have HL := Lib.hid (fun W => plast_any a W ha)
  have hla : 0 ≤ laN a ∧ laN a ≤ 6004799503160660 := by
    by_cases h : ckN a = 0
    · have := la_ge a ha h
      unfold MayN at ha
      omega
    · unfold laN
      rw [if_neg h]
      omega
  have HR : Hid (oneE a e = decide (e.id = laN a + 1 ∧ a.off = e.off ∧ a.ln = e.ln)) := Lib.hid rfl
  generalize oneE a e = R at *
  generalize laN a = la at *
  have hw : IntKind.u64.wrap (la + 1) = la + 1 := by rw [IntKind.wrap_u64]; omega
  have hea := EAt.made w e 83
  have heb := EAt.made (w.alloc (.cells (eC e) 83)) a 83
  have hea2 := hea.later (w' := (w.alloc (.cells (eC e) 83)).alloc (.cells (eC a) 83)) ((Below.refl _ _).alloc (Nat.le_refl _) _)
  have hbw : Below w.heap.size w ((w.alloc (.cells (eC e) 83)).alloc (.cells (eC a) 83)) := ((Below.refl _ _).alloc (Nat.le_refl _) _).alloc (by simp) _
  simp only [World.size_alloc] at heb
  unfold eC at HL hea2 heb hbw ⊢
  obtain ⟨W, hW⟩ : ∃ W, (w.alloc (.cells #[.int .u64 e.id, .int .u64 e.off, .int .u32 e.ln, .int .u32 e.rn] 83)).alloc (.cells #[.int .u64 a.id, .int .u64 a.off, .int .u32 a.ln, .int .u32 a.rn] 83) = W := ⟨_, rfl⟩
  rw [hW] at hea2 heb hbw
  have HK : Hid (∀ w', Below W.heap.size W w' → ((w'.cell? ⟨w.heap.size, 0, none⟩ = some (.int .u64 e.id) ∧ w'.cell? ⟨w.heap.size, 1, none⟩ = some (.int .u64 e.off) ∧ w'.cell? ⟨w.heap.size, 2, none⟩ = some (.int .u32 e.ln) ∧ w'.cell? ⟨w.heap.size, 3, none⟩ = some (.int .u32 e.rn)) ∧ (w'.cell? ⟨w.heap.size + 1, 0, none⟩ = some (.int .u64 a.id) ∧ w'.cell? ⟨w.heap.size + 1, 1, none⟩ = some (.int .u64 a.off) ∧ w'.cell? ⟨w.heap.size + 1, 2, none⟩ = some (.int .u32 a.ln) ∧ w'.cell? ⟨w.heap.size + 1, 3, none⟩ = some (.int .u32 a.rn))) ∧ Below W.heap.size W w') := Lib.hid (fun w' h => ⟨⟨hea2.later h, heb.later h⟩, h⟩)
  have HB := Lib.hid hbw
  clear hea hea2 heb hbw he ha hla
  by_cases d1 : e.id = la + 1
  · by_cases d2 : e.off = a.off
    · by_cases d3 : e.ln = a.ln
      · have HRR : Hid (R = true) := Lib.hid (by rw [HR.out, decide_eq_true_iff]; exact ⟨d1, d2.symm, d3.symm⟩)
        have e1 : (e.id == la + 1) = true := by simpa using d1
        have e2 : (e.off == a.off) = true := by simpa using d2
        have e3 : (e.ln == a.ln) = true := by simpa using d3
        clear HR d1 d2 d3
        go_enter Try.func38, Try.ntmps38
        go_wp2_with fail
        refine wp_region_held_drew (S := fun w' => ((w'.cell? ⟨w.heap.size, 0, none⟩ = some (.int .u64 e.id) ∧ w'.cell? ⟨w.heap.size, 1, none⟩ = some (.int .u64 e.off) ∧ w'.cell? ⟨w.heap.size, 2, none⟩ = some (.int .u32 e.ln) ∧ w'.cell? ⟨w.heap.size, 3, none⟩ = some (.int .u32 e.rn)) ∧ (w'.cell? ⟨w.heap.size + 1, 0, none⟩ = some (.int .u64 a.id) ∧ w'.cell? ⟨w.heap.size + 1, 1, none⟩ = some (.int .u64 a.off) ∧ w'.cell? ⟨w.heap.size + 1, 2, none⟩ = some (.int .u32 a.ln) ∧ w'.cell? ⟨w.heap.size + 1, 3, none⟩ = some (.int .u32 a.rn))) ∧ Below W.heap.size W w') (by kernel_rfl) (HK.out _ (Below.drew (Below.refl _ _))) (fun hH0 => ?_)
        refine takeH (i := 0) (d := 5) (v := ?_) rfl rfl (by kernel_rfl) (by kernel_rfl) (by kernel_rfl) (fun _ _ _ h => h) (Or.inl ⟨by rfl, ?y0⟩) hH0 ?_
        case y0 => intro w hSw; go_simp; try with_reducible rfl
        try simp only [Act.put, List.setIfInBounds_toArray, List.set_cons_zero, List.set_cons_succ]
        refine takeH (i := 1) (d := 6) (v := ?_) rfl rfl (by kernel_rfl) (by kernel_rfl) (by kernel_rfl) (fun _ _ _ h => h) (Or.inl ⟨by rfl, ?y1⟩) hH0 ?_
        case y1 => intro w hSw; go_simp; try with_reducible rfl
        try simp only [Act.put, List.setIfInBounds_toArray, List.set_cons_zero, List.set_cons_succ]
        refine takeH (i := 2) (d := 7) (v := ?_) rfl rfl (by kernel_rfl) (by kernel_rfl) (by kernel_rfl) (fun _ _ _ h => h) (Or.inl ⟨by rfl, ?y2⟩) hH0 ?_
        case y2 => intro w hSw; go_simp; try with_reducible rfl
        try simp only [Act.put, List.setIfInBounds_toArray, List.set_cons_zero, List.set_cons_succ]
        refine wpAnyH_ready (rs := [3]) (by kernel_rfl) (by simp) ?_
        refine AllReadyH.cons rfl (fun K hK => ?_) AllReadyH.nil
        go_simp
        refine (HL.out _).mono ?_
        rintro e w' ⟨rfl, hb⟩
        go_wp2_with fail
        refine hK.out _ _ (HK.out _ (hH0.2.trans (hb.mono hH0.2.size))) (fun hH1 => ?_)
        clear hK K hb hH0
        try simp only [Act.put, List.setIfInBounds_toArray, List.set_cons_zero, List.set_cons_succ]
        refine takeH (i := 4) (d := 9) (v := ?_) rfl rfl (by kernel_rfl) (by kernel_rfl) (by kernel_rfl) (fun _ _ _ h => h) (Or.inl ⟨by rfl, ?y4⟩) hH1 ?_
        case y4 => intro w hSw; go_simp; try with_reducible rfl
        try simp only [Act.put, List.setIfInBounds_toArray, List.set_cons_zero, List.set_cons_succ]
        refine takeH (i := 5) (d := 10) (v := ?_) rfl rfl (by kernel_rfl) (by kernel_rfl) (by kernel_rfl) (fun _ _ _ h => h) (Or.inl ⟨by rfl, ?y5⟩) hH1 ?_
        case y5 => intro w hSw; go_simp; try with_reducible rfl
        try simp only [Act.put, List.setIfInBounds_toArray, List.set_cons_zero, List.set_cons_succ]
        refine takeH (i := 6) (d := 11) (v := ?_) rfl rfl (by kernel_rfl) (by kernel_rfl) (by kernel_rfl) (fun _ _ _ h => h) (Or.inl ⟨by rfl, ?y6⟩) hH1 ?_
        case y6 => intro w hSw; go_simp; try with_reducible rfl
        try simp only [Act.put, List.setIfInBounds_toArray, List.set_cons_zero, List.set_cons_succ]
        refine takeH (i := 7) (d := 12) (v := ?_) rfl rfl (by kernel_rfl) (by kernel_rfl) (by kernel_rfl) (fun _ _ _ h => h) (Or.inl ⟨by rfl, ?y7⟩) hH1 ?_
        case y7 => intro w hSw; go_simp; try with_reducible rfl
        try simp only [Act.put, List.setIfInBounds_toArray, List.set_cons_zero, List.set_cons_succ]
        refine takeH (i := 8) (d := 13) (v := ?_) rfl rfl (by kernel_rfl) (by kernel_rfl) (by kernel_rfl) (fun _ _ _ h => h) (Or.inl ⟨by rfl, ?y8⟩) hH1 ?_
        case y8 => intro w hSw; go_simp; try with_reducible rfl
        try simp only [Act.put, List.setIfInBounds_toArray, List.set_cons_zero, List.set_cons_succ]
        refine takeH (i := 9) (d := 14) (v := ?_) rfl rfl (by kernel_rfl) (by kernel_rfl) (by kernel_rfl) (fun _ _ _ h => h) (Or.inl ⟨by rfl, ?y9⟩) hH1 ?_
        case y9 => intro w hSw; go_simp; try with_reducible rfl
        try simp only [Act.put, List.setIfInBounds_toArray, List.set_cons_zero, List.set_cons_succ]
        refine takeH (i := 10) (d := 15) (v := ?_) rfl rfl (by kernel_rfl) (by kernel_rfl) (by kernel_rfl) (fun _ _ _ h => h) (Or.inl ⟨by rfl, ?y10⟩) hH1 ?_
        case y10 => intro w hSw; go_simp; try with_reducible rfl
        try simp only [Act.put, List.setIfInBounds_toArray, List.set_cons_zero, List.set_cons_succ]
        refine takeH (i := 11) (d := 16) (v := ?_) rfl rfl (by kernel_rfl) (by kernel_rfl) (by kernel_rfl) (fun _ _ _ h => h) (Or.inl ⟨by rfl, ?y11⟩) hH1 ?_
        case y11 => intro w hSw; go_simp; try with_reducible rfl
        try simp only [Act.put, List.setIfInBounds_toArray, List.set_cons_zero, List.set_cons_succ]
        refine takeH (i := 12) (d := 17) (v := ?_) rfl rfl (by kernel_rfl) (by kernel_rfl) (by kernel_rfl) (fun _ _ _ h => h) (Or.inl ⟨by rfl, ?y12⟩) hH1 ?_
        case y12 => intro w hSw; go_simp; try with_reducible rfl
        try simp only [Act.put, List.setIfInBounds_toArray, List.set_cons_zero, List.set_cons_succ]
        refine takeH (i := 13) (d := 18) (v := ?_) rfl rfl (by kernel_rfl) (by kernel_rfl) (by kernel_rfl) (fun _ _ _ h => h) (Or.inl ⟨by rfl, ?y13⟩) hH1 ?_
        case y13 => intro w hSw; go_simp; try with_reducible rfl
        try simp only [Act.put, List.setIfInBounds_toArray, List.set_cons_zero, List.set_cons_succ]
        refine takeH (i := 14) (d := 19) (v := ?_) rfl rfl (by kernel_rfl) (by kernel_rfl) (by kernel_rfl) (fun _ _ _ h => h) (Or.inl ⟨by rfl, ?y14⟩) hH1 ?_
        case y14 => intro w hSw; go_simp; try with_reducible rfl
        try simp only [Act.put, List.setIfInBounds_toArray, List.set_cons_zero, List.set_cons_succ]
        refine takeH (i := 15) (d := 20) (v := ?_) rfl rfl (by kernel_rfl) (by kernel_rfl) (by kernel_rfl) (fun _ _ _ h => h) (Or.inl ⟨by rfl, ?y15⟩) hH1 ?_
        case y15 => intro w hSw; go_simp; try with_reducible rfl
        try simp only [Act.put, List.setIfInBounds_toArray, List.set_cons_zero, List.set_cons_succ]
        refine takeH (i := 16) (d := 21) (v := ?_) rfl rfl (by kernel_rfl) (by kernel_rfl) (by kernel_rfl) (fun _ _ _ h => h) (Or.inl ⟨by rfl, ?y16⟩) hH1 ?_
        case y16 => intro w hSw; go_simp; try with_reducible rfl
        try simp only [Act.put, List.setIfInBounds_toArray, List.set_cons_zero, List.set_cons_succ]
        refine takeH (i := 17) (d := 22) (v := ?_) rfl rfl (by kernel_rfl) (by kernel_rfl) (by kernel_rfl) (fun _ _ _ h => h) (Or.inl ⟨by rfl, ?y17⟩) hH1 ?_
        case y17 => intro w hSw; go_simp; try with_reducible rfl
        try simp only [Act.put, List.setIfInBounds_toArray, List.set_cons_zero, List.set_cons_succ]
        refine takeH (i := 18) (d := 23) (v := ?_) rfl rfl (by kernel_rfl) (by kernel_rfl) (by kernel_rfl) (fun _ _ _ h => h) (Or.inl ⟨by rfl, ?y18⟩) hH1 ?_
        case y18 => intro w hSw; go_simp; try with_reducible rfl
        try simp only [Act.put, List.setIfInBounds_toArray, List.set_cons_zero, List.set_cons_succ]
        refine takeH (i := 19) (d := 24) (v := ?_) rfl rfl (by kernel_rfl) (by kernel_rfl) (by kernel_rfl) (fun _ _ _ h => h) (Or.inl ⟨by rfl, ?y19⟩) hH1 ?_
        case y19 => intro w hSw; go_simp; try with_reducible rfl
        try simp only [Act.put, List.setIfInBounds_toArray, List.set_cons_zero, List.set_cons_succ]
        refine takeH (i := 20) (d := 4) (v := ?_) rfl rfl (by kernel_rfl) (by kernel_rfl) (by kernel_rfl) (fun _ _ _ h => h) (Or.inl ⟨by rfl, ?y20⟩) hH1 ?_
        case y20 => intro w hSw; go_simp; try with_reducible rfl
        try simp only [Act.put, List.setIfInBounds_toArray, List.set_cons_zero, List.set_cons_succ]
        refine wpAnyH_done (by kernel_rfl) ?_ _
        go_wp2_with fail
        go_ret
        exact ⟨by rw [HRR.out]; first | rfl | simp [*], HB.out.trans (hH1.2.mono HB.out.size)⟩
      · have HRR : Hid (R = false) := Lib.hid (by rw [HR.out, decide_eq_false_iff_not]; exact fun h => d3 h.2.2.symm)
        have e1 : (e.id == la + 1) = true := by simpa using d1
        have e2 : (e.off == a.off) = true := by simpa using d2
        have e3 : (e.ln == a.ln) = false := by simpa using d3
        clear HR d1 d2 d3
        go_enter Try.func38, Try.ntmps38
        go_wp2_with fail
        refine wp_region_held_drew (S := fun w' => ((w'.cell? ⟨w.heap.size, 0, none⟩ = some (.int .u64 e.id) ∧ w'.cell? ⟨w.heap.size, 1, none⟩ = some (.int .u64 e.off) ∧ w'.cell? ⟨w.heap.size, 2, none⟩ = some (.int .u32 e.ln) ∧ w'.cell? ⟨w.heap.size, 3, none⟩ = some (.int .u32 e.rn)) ∧ (w'.cell? ⟨w.heap.size + 1, 0, none⟩ = some (.int .u64 a.id) ∧ w'.cell? ⟨w.heap.size + 1, 1, none⟩ = some (.int .u64 a.off) ∧ w'.cell? ⟨w.heap.size + 1, 2, none⟩ = some (.int .u32 a.ln) ∧ w'.cell? ⟨w.heap.size + 1, 3, none⟩ = some (.int .u32 a.rn))) ∧ Below W.heap.size W w') (by kernel_rfl) (HK.out _ (Below.drew (Below.refl _ _))) (fun hH0 => ?_)
        refine takeH (i := 0) (d := 5) (v := ?_) rfl rfl (by kernel_rfl) (by kernel_rfl) (by kernel_rfl) (fun _ _ _ h => h) (Or.inl ⟨by rfl, ?y0⟩) hH0 ?_
        case y0 => intro w hSw; go_simp; try with_reducible rfl
        try simp only [Act.put, List.setIfInBounds_toArray, List.set_cons_zero, List.set_cons_succ]
        refine takeH (i := 1) (d := 6) (v := ?_) rfl rfl (by kernel_rfl) (by kernel_rfl) (by kernel_rfl) (fun _ _ _ h => h) (Or.inl ⟨by rfl, ?y1⟩) hH0 ?_
        case y1 => intro w hSw; go_simp; try with_reducible rfl
        try simp only [Act.put, List.setIfInBounds_toArray, List.set_cons_zero, List.set_cons_succ]
        refine takeH (i := 2) (d := 7) (v := ?_) rfl rfl (by kernel_rfl) (by kernel_rfl) (by kernel_rfl) (fun _ _ _ h => h) (Or.inl ⟨by rfl, ?y2⟩) hH0 ?_
        case y2 => intro w hSw; go_simp; try with_reducible rfl
        try simp only [Act.put, List.setIfInBounds_toArray, List.set_cons_zero, List.set_cons_succ]
        refine wpAnyH_ready (rs := [3]) (by kernel_rfl) (by simp) ?_
        refine AllReadyH.cons rfl (fun K hK => ?_) AllReadyH.nil
        go_simp
        refine (HL.out _).mono ?_
        rintro e w' ⟨rfl, hb⟩
        go_wp2_with fail
        refine hK.out _ _ (HK.out _ (hH0.2.trans (hb.mono hH0.2.size))) (fun hH1 => ?_)
        clear hK K hb hH0
        try simp only [Act.put, List.setIfInBounds_toArray, List.set_cons_zero, List.set_cons_succ]
        refine takeH (i := 4) (d := 9) (v := ?_) rfl rfl (by kernel_rfl) (by kernel_rfl) (by kernel_rfl) (fun _ _ _ h => h) (Or.inl ⟨by rfl, ?y4⟩) hH1 ?_
        case y4 => intro w hSw; go_simp; try with_reducible rfl
        try simp only [Act.put, List.setIfInBounds_toArray, List.set_cons_zero, List.set_cons_succ]
        refine takeH (i := 5) (d := 10) (v := ?_) rfl rfl (by kernel_rfl) (by kernel_rfl) (by kernel_rfl) (fun _ _ _ h => h) (Or.inl ⟨by rfl, ?y5⟩) hH1 ?_
        case y5 => intro w hSw; go_simp; try with_reducible rfl
        try simp only [Act.put, List.setIfInBounds_toArray, List.set_cons_zero, List.set_cons_succ]
        refine takeH (i := 6) (d := 11) (v := ?_) rfl rfl (by kernel_rfl) (by kernel_rfl) (by kernel_rfl) (fun _ _ _ h => h) (Or.inl ⟨by rfl, ?y6⟩) hH1 ?_
        case y6 => intro w hSw; go_simp; try with_reducible rfl
        try simp only [Act.put, List.setIfInBounds_toArray, List.set_cons_zero, List.set_cons_succ]
        refine takeH (i := 7) (d := 12) (v := ?_) rfl rfl (by kernel_rfl) (by kernel_rfl) (by kernel_rfl) (fun _ _ _ h => h) (Or.inl ⟨by rfl, ?y7⟩) hH1 ?_
        case y7 => intro w hSw; go_simp; try with_reducible rfl
        try simp only [Act.put, List.setIfInBounds_toArray, List.set_cons_zero, List.set_cons_succ]
        refine takeH (i := 8) (d := 13) (v := ?_) rfl rfl (by kernel_rfl) (by kernel_rfl) (by kernel_rfl) (fun _ _ _ h => h) (Or.inl ⟨by rfl, ?y8⟩) hH1 ?_
        case y8 => intro w hSw; go_simp; try with_reducible rfl
        try simp only [Act.put, List.setIfInBounds_toArray, List.set_cons_zero, List.set_cons_succ]
        refine takeH (i := 9) (d := 14) (v := ?_) rfl rfl (by kernel_rfl) (by kernel_rfl) (by kernel_rfl) (fun _ _ _ h => h) (Or.inl ⟨by rfl, ?y9⟩) hH1 ?_
        case y9 => intro w hSw; go_simp; try with_reducible rfl
        try simp only [Act.put, List.setIfInBounds_toArray, List.set_cons_zero, List.set_cons_succ]
        refine takeH (i := 10) (d := 15) (v := ?_) rfl rfl (by kernel_rfl) (by kernel_rfl) (by kernel_rfl) (fun _ _ _ h => h) (Or.inl ⟨by rfl, ?y10⟩) hH1 ?_
        case y10 => intro w hSw; go_simp; try with_reducible rfl
        try simp only [Act.put, List.setIfInBounds_toArray, List.set_cons_zero, List.set_cons_succ]
        refine takeH (i := 11) (d := 16) (v := ?_) rfl rfl (by kernel_rfl) (by kernel_rfl) (by kernel_rfl) (fun _ _ _ h => h) (Or.inl ⟨by rfl, ?y11⟩) hH1 ?_
        case y11 => intro w hSw; go_simp; try with_reducible rfl
        try simp only [Act.put, List.setIfInBounds_toArray, List.set_cons_zero, List.set_cons_succ]
        refine takeH (i := 12) (d := 17) (v := ?_) rfl rfl (by kernel_rfl) (by kernel_rfl) (by kernel_rfl) (fun _ _ _ h => h) (Or.inl ⟨by rfl, ?y12⟩) hH1 ?_
        case y12 => intro w hSw; go_simp; try with_reducible rfl
        try simp only [Act.put, List.setIfInBounds_toArray, List.set_cons_zero, List.set_cons_succ]
        refine takeH (i := 13) (d := 18) (v := ?_) rfl rfl (by kernel_rfl) (by kernel_rfl) (by kernel_rfl) (fun _ _ _ h => h) (Or.inl ⟨by rfl, ?y13⟩) hH1 ?_
        case y13 => intro w hSw; go_simp; try with_reducible rfl
        try simp only [Act.put, List.setIfInBounds_toArray, List.set_cons_zero, List.set_cons_succ]
        refine takeH (i := 14) (d := 19) (v := ?_) rfl rfl (by kernel_rfl) (by kernel_rfl) (by kernel_rfl) (fun _ _ _ h => h) (Or.inl ⟨by rfl, ?y14⟩) hH1 ?_
        case y14 => intro w hSw; go_simp; try with_reducible rfl
        try simp only [Act.put, List.setIfInBounds_toArray, List.set_cons_zero, List.set_cons_succ]
        refine takeH (i := 15) (d := 20) (v := ?_) rfl rfl (by kernel_rfl) (by kernel_rfl) (by kernel_rfl) (fun _ _ _ h => h) (Or.inl ⟨by rfl, ?y15⟩) hH1 ?_
        case y15 => intro w hSw; go_simp; try with_reducible rfl
        try simp only [Act.put, List.setIfInBounds_toArray, List.set_cons_zero, List.set_cons_succ]
        refine takeH (i := 16) (d := 21) (v := ?_) rfl rfl (by kernel_rfl) (by kernel_rfl) (by kernel_rfl) (fun _ _ _ h => h) (Or.inl ⟨by rfl, ?y16⟩) hH1 ?_
        case y16 => intro w hSw; go_simp; try with_reducible rfl
        try simp only [Act.put, List.setIfInBounds_toArray, List.set_cons_zero, List.set_cons_succ]
        refine takeH (i := 17) (d := 22) (v := ?_) rfl rfl (by kernel_rfl) (by kernel_rfl) (by kernel_rfl) (fun _ _ _ h => h) (Or.inl ⟨by rfl, ?y17⟩) hH1 ?_
        case y17 => intro w hSw; go_simp; try with_reducible rfl
        try simp only [Act.put, List.setIfInBounds_toArray, List.set_cons_zero, List.set_cons_succ]
        refine takeH (i := 18) (d := 23) (v := ?_) rfl rfl (by kernel_rfl) (by kernel_rfl) (by kernel_rfl) (fun _ _ _ h => h) (Or.inl ⟨by rfl, ?y18⟩) hH1 ?_
        case y18 => intro w hSw; go_simp; try with_reducible rfl
        try simp only [Act.put, List.setIfInBounds_toArray, List.set_cons_zero, List.set_cons_succ]
        refine takeH (i := 19) (d := 24) (v := ?_) rfl rfl (by kernel_rfl) (by kernel_rfl) (by kernel_rfl) (fun _ _ _ h => h) (Or.inl ⟨by rfl, ?y19⟩) hH1 ?_
        case y19 => intro w hSw; go_simp; try with_reducible rfl
        try simp only [Act.put, List.setIfInBounds_toArray, List.set_cons_zero, List.set_cons_succ]
        refine takeH (i := 20) (d := 4) (v := ?_) rfl rfl (by kernel_rfl) (by kernel_rfl) (by kernel_rfl) (fun _ _ _ h => h) (Or.inl ⟨by rfl, ?y20⟩) hH1 ?_
        case y20 => intro w hSw; go_simp; try with_reducible rfl
        try simp only [Act.put, List.setIfInBounds_toArray, List.set_cons_zero, List.set_cons_succ]
        refine wpAnyH_done (by kernel_rfl) ?_ _
        go_wp2_with fail
        go_ret
        exact ⟨by rw [HRR.out]; first | rfl | simp [*], HB.out.trans (hH1.2.mono HB.out.size)⟩
    · have HRR : Hid (R = false) := Lib.hid (by rw [HR.out, decide_eq_false_iff_not]; exact fun h => d2 h.2.1.symm)
      have e1 : (e.id == la + 1) = true := by simpa using d1
      have e2 : (e.off == a.off) = false := by simpa using d2
      clear HR d1 d2
      go_enter Try.func38, Try.ntmps38
      go_wp2_with fail
      refine wp_region_held_drew (S := fun w' => ((w'.cell? ⟨w.heap.size, 0, none⟩ = some (.int .u64 e.id) ∧ w'.cell? ⟨w.heap.size, 1, none⟩ = some (.int .u64 e.off) ∧ w'.cell? ⟨w.heap.size, 2, none⟩ = some (.int .u32 e.ln) ∧ w'.cell? ⟨w.heap.size, 3, none⟩ = some (.int .u32 e.rn)) ∧ (w'.cell? ⟨w.heap.size + 1, 0, none⟩ = some (.int .u64 a.id) ∧ w'.cell? ⟨w.heap.size + 1, 1, none⟩ = some (.int .u64 a.off) ∧ w'.cell? ⟨w.heap.size + 1, 2, none⟩ = some (.int .u32 a.ln) ∧ w'.cell? ⟨w.heap.size + 1, 3, none⟩ = some (.int .u32 a.rn))) ∧ Below W.heap.size W w') (by kernel_rfl) (HK.out _ (Below.drew (Below.refl _ _))) (fun hH0 => ?_)
      refine takeH (i := 0) (d := 5) (v := ?_) rfl rfl (by kernel_rfl) (by kernel_rfl) (by kernel_rfl) (fun _ _ _ h => h) (Or.inl ⟨by rfl, ?y0⟩) hH0 ?_
      case y0 => intro w hSw; go_simp; try with_reducible rfl
      try simp only [Act.put, List.setIfInBounds_toArray, List.set_cons_zero, List.set_cons_succ]
      refine takeH (i := 1) (d := 6) (v := ?_) rfl rfl (by kernel_rfl) (by kernel_rfl) (by kernel_rfl) (fun _ _ _ h => h) (Or.inl ⟨by rfl, ?y1⟩) hH0 ?_
      case y1 => intro w hSw; go_simp; try with_reducible rfl
      try simp only [Act.put, List.setIfInBounds_toArray, List.set_cons_zero, List.set_cons_succ]
      refine takeH (i := 2) (d := 7) (v := ?_) rfl rfl (by kernel_rfl) (by kernel_rfl) (by kernel_rfl) (fun _ _ _ h => h) (Or.inl ⟨by rfl, ?y2⟩) hH0 ?_
      case y2 => intro w hSw; go_simp; try with_reducible rfl
      try simp only [Act.put, List.setIfInBounds_toArray, List.set_cons_zero, List.set_cons_succ]
      refine wpAnyH_ready (rs := [3]) (by kernel_rfl) (by simp) ?_
      refine AllReadyH.cons rfl (fun K hK => ?_) AllReadyH.nil
      go_simp
      refine (HL.out _).mono ?_
      rintro e w' ⟨rfl, hb⟩
      go_wp2_with fail
      refine hK.out _ _ (HK.out _ (hH0.2.trans (hb.mono hH0.2.size))) (fun hH1 => ?_)
      clear hK K hb hH0
      try simp only [Act.put, List.setIfInBounds_toArray, List.set_cons_zero, List.set_cons_succ]
      refine takeH (i := 4) (d := 9) (v := ?_) rfl rfl (by kernel_rfl) (by kernel_rfl) (by kernel_rfl) (fun _ _ _ h => h) (Or.inl ⟨by rfl, ?y4⟩) hH1 ?_
      case y4 => intro w hSw; go_simp; try with_reducible rfl
      try simp only [Act.put, List.setIfInBounds_toArray, List.set_cons_zero, List.set_cons_succ]
      refine takeH (i := 5) (d := 10) (v := ?_) rfl rfl (by kernel_rfl) (by kernel_rfl) (by kernel_rfl) (fun _ _ _ h => h) (Or.inl ⟨by rfl, ?y5⟩) hH1 ?_
      case y5 => intro w hSw; go_simp; try with_reducible rfl
      try simp only [Act.put, List.setIfInBounds_toArray, List.set_cons_zero, List.set_cons_succ]
      refine takeH (i := 6) (d := 11) (v := ?_) rfl rfl (by kernel_rfl) (by kernel_rfl) (by kernel_rfl) (fun _ _ _ h => h) (Or.inl ⟨by rfl, ?y6⟩) hH1 ?_
      case y6 => intro w hSw; go_simp; try with_reducible rfl
      try simp only [Act.put, List.setIfInBounds_toArray, List.set_cons_zero, List.set_cons_succ]
      refine takeH (i := 7) (d := 12) (v := ?_) rfl rfl (by kernel_rfl) (by kernel_rfl) (by kernel_rfl) (fun _ _ _ h => h) (Or.inl ⟨by rfl, ?y7⟩) hH1 ?_
      case y7 => intro w hSw; go_simp; try with_reducible rfl
      try simp only [Act.put, List.setIfInBounds_toArray, List.set_cons_zero, List.set_cons_succ]
      refine takeH (i := 8) (d := 13) (v := ?_) rfl rfl (by kernel_rfl) (by kernel_rfl) (by kernel_rfl) (fun _ _ _ h => h) (Or.inl ⟨by rfl, ?y8⟩) hH1 ?_
      case y8 => intro w hSw; go_simp; try with_reducible rfl
      try simp only [Act.put, List.setIfInBounds_toArray, List.set_cons_zero, List.set_cons_succ]
      refine takeH (i := 9) (d := 14) (v := ?_) rfl rfl (by kernel_rfl) (by kernel_rfl) (by kernel_rfl) (fun _ _ _ h => h) (Or.inl ⟨by rfl, ?y9⟩) hH1 ?_
      case y9 => intro w hSw; go_simp; try with_reducible rfl
      try simp only [Act.put, List.setIfInBounds_toArray, List.set_cons_zero, List.set_cons_succ]
      refine takeH (i := 10) (d := 15) (v := ?_) rfl rfl (by kernel_rfl) (by kernel_rfl) (by kernel_rfl) (fun _ _ _ h => h) (Or.inl ⟨by rfl, ?y10⟩) hH1 ?_
      case y10 => intro w hSw; go_simp; try with_reducible rfl
      try simp only [Act.put, List.setIfInBounds_toArray, List.set_cons_zero, List.set_cons_succ]
      refine takeH (i := 11) (d := 16) (v := ?_) rfl rfl (by kernel_rfl) (by kernel_rfl) (by kernel_rfl) (fun _ _ _ h => h) (Or.inl ⟨by rfl, ?y11⟩) hH1 ?_
      case y11 => intro w hSw; go_simp; try with_reducible rfl
      try simp only [Act.put, List.setIfInBounds_toArray, List.set_cons_zero, List.set_cons_succ]
      refine takeH (i := 12) (d := 17) (v := ?_) rfl rfl (by kernel_rfl) (by kernel_rfl) (by kernel_rfl) (fun _ _ _ h => h) (Or.inl ⟨by rfl, ?y12⟩) hH1 ?_
      case y12 => intro w hSw; go_simp; try with_reducible rfl
      try simp only [Act.put, List.setIfInBounds_toArray, List.set_cons_zero, List.set_cons_succ]
      refine takeH (i := 13) (d := 18) (v := ?_) rfl rfl (by kernel_rfl) (by kernel_rfl) (by kernel_rfl) (fun _ _ _ h => h) (Or.inl ⟨by rfl, ?y13⟩) hH1 ?_
      case y13 => intro w hSw; go_simp; try with_reducible rfl
      try simp only [Act.put, List.setIfInBounds_toArray, List.set_cons_zero, List.set_cons_succ]
      refine takeH (i := 14) (d := 19) (v := undef) rfl rfl (by kernel_rfl) (by kernel_rfl) (by kernel_rfl) (fun _ _ _ h => h) (Or.inr ⟨by rfl, rfl⟩) hH1 ?_
      try simp only [Act.put, List.setIfInBounds_toArray, List.set_cons_zero, List.set_cons_succ]
      refine takeH (i := 15) (d := 20) (v := undef) rfl rfl (by kernel_rfl) (by kernel_rfl) (by kernel_rfl) (fun _ _ _ h => h) (Or.inr ⟨by rfl, rfl⟩) hH1 ?_
      try simp only [Act.put, List.setIfInBounds_toArray, List.set_cons_zero, List.set_cons_succ]
      refine takeH (i := 16) (d := 21) (v := undef) rfl rfl (by kernel_rfl) (by kernel_rfl) (by kernel_rfl) (fun _ _ _ h => h) (Or.inr ⟨by rfl, rfl⟩) hH1 ?_
      try simp only [Act.put, List.setIfInBounds_toArray, List.set_cons_zero, List.set_cons_succ]
      refine takeH (i := 17) (d := 22) (v := undef) rfl rfl (by kernel_rfl) (by kernel_rfl) (by kernel_rfl) (fun _ _ _ h => h) (Or.inr ⟨by rfl, rfl⟩) hH1 ?_
      try simp only [Act.put, List.setIfInBounds_toArray, List.set_cons_zero, List.set_cons_succ]
      refine takeH (i := 18) (d := 23) (v := undef) rfl rfl (by kernel_rfl) (by kernel_rfl) (by kernel_rfl) (fun _ _ _ h => h) (Or.inr ⟨by rfl, rfl⟩) hH1 ?_
      try simp only [Act.put, List.setIfInBounds_toArray, List.set_cons_zero, List.set_cons_succ]
      refine takeH (i := 19) (d := 24) (v := ?_) rfl rfl (by kernel_rfl) (by kernel_rfl) (by kernel_rfl) (fun _ _ _ h => h) (Or.inl ⟨by rfl, ?y19⟩) hH1 ?_
      case y19 => intro w hSw; go_simp; try with_reducible rfl
      try simp only [Act.put, List.setIfInBounds_toArray, List.set_cons_zero, List.set_cons_succ]
      refine takeH (i := 20) (d := 4) (v := ?_) rfl rfl (by kernel_rfl) (by kernel_rfl) (by kernel_rfl) (fun _ _ _ h => h) (Or.inl ⟨by rfl, ?y20⟩) hH1 ?_
      case y20 => intro w hSw; go_simp; try with_reducible rfl
      try simp only [Act.put, List.setIfInBounds_toArray, List.set_cons_zero, List.set_cons_succ]
      refine wpAnyH_done (by kernel_rfl) ?_ _
      go_wp2_with fail
      go_ret
      exact ⟨by rw [HRR.out]; first | rfl | simp [*], HB.out.trans (hH1.2.mono HB.out.size)⟩
  · have HRR : Hid (R = false) := Lib.hid (by rw [HR.out, decide_eq_false_iff_not]; exact fun h => d1 h.1)
    have e1 : (e.id == la + 1) = false := by simpa using d1
    clear HR d1
    go_enter Try.func38, Try.ntmps38
    go_wp2_with fail
    refine wp_region_held_drew (S := fun w' => ((w'.cell? ⟨w.heap.size, 0, none⟩ = some (.int .u64 e.id) ∧ w'.cell? ⟨w.heap.size, 1, none⟩ = some (.int .u64 e.off) ∧ w'.cell? ⟨w.heap.size, 2, none⟩ = some (.int .u32 e.ln) ∧ w'.cell? ⟨w.heap.size, 3, none⟩ = some (.int .u32 e.rn)) ∧ (w'.cell? ⟨w.heap.size + 1, 0, none⟩ = some (.int .u64 a.id) ∧ w'.cell? ⟨w.heap.size + 1, 1, none⟩ = some (.int .u64 a.off) ∧ w'.cell? ⟨w.heap.size + 1, 2, none⟩ = some (.int .u32 a.ln) ∧ w'.cell? ⟨w.heap.size + 1, 3, none⟩ = some (.int .u32 a.rn))) ∧ Below W.heap.size W w') (by kernel_rfl) (HK.out _ (Below.drew (Below.refl _ _))) (fun hH0 => ?_)
    refine takeH (i := 0) (d := 5) (v := ?_) rfl rfl (by kernel_rfl) (by kernel_rfl) (by kernel_rfl) (fun _ _ _ h => h) (Or.inl ⟨by rfl, ?y0⟩) hH0 ?_
    case y0 => intro w hSw; go_simp; try with_reducible rfl
    try simp only [Act.put, List.setIfInBounds_toArray, List.set_cons_zero, List.set_cons_succ]
    refine takeH (i := 1) (d := 6) (v := ?_) rfl rfl (by kernel_rfl) (by kernel_rfl) (by kernel_rfl) (fun _ _ _ h => h) (Or.inl ⟨by rfl, ?y1⟩) hH0 ?_
    case y1 => intro w hSw; go_simp; try with_reducible rfl
    try simp only [Act.put, List.setIfInBounds_toArray, List.set_cons_zero, List.set_cons_succ]
    refine takeH (i := 2) (d := 7) (v := ?_) rfl rfl (by kernel_rfl) (by kernel_rfl) (by kernel_rfl) (fun _ _ _ h => h) (Or.inl ⟨by rfl, ?y2⟩) hH0 ?_
    case y2 => intro w hSw; go_simp; try with_reducible rfl
    try simp only [Act.put, List.setIfInBounds_toArray, List.set_cons_zero, List.set_cons_succ]
    refine wpAnyH_ready (rs := [3]) (by kernel_rfl) (by simp) ?_
    refine AllReadyH.cons rfl (fun K hK => ?_) AllReadyH.nil
    go_simp
    refine (HL.out _).mono ?_
    rintro e w' ⟨rfl, hb⟩
    go_wp2_with fail
    refine hK.out _ _ (HK.out _ (hH0.2.trans (hb.mono hH0.2.size))) (fun hH1 => ?_)
    clear hK K hb hH0
    try simp only [Act.put, List.setIfInBounds_toArray, List.set_cons_zero, List.set_cons_succ]
    refine takeH (i := 4) (d := 9) (v := ?_) rfl rfl (by kernel_rfl) (by kernel_rfl) (by kernel_rfl) (fun _ _ _ h => h) (Or.inl ⟨by rfl, ?y4⟩) hH1 ?_
    case y4 => intro w hSw; go_simp; try with_reducible rfl
    try simp only [Act.put, List.setIfInBounds_toArray, List.set_cons_zero, List.set_cons_succ]
    refine takeH (i := 5) (d := 10) (v := ?_) rfl rfl (by kernel_rfl) (by kernel_rfl) (by kernel_rfl) (fun _ _ _ h => h) (Or.inl ⟨by rfl, ?y5⟩) hH1 ?_
    case y5 => intro w hSw; go_simp; try with_reducible rfl
    try simp only [Act.put, List.setIfInBounds_toArray, List.set_cons_zero, List.set_cons_succ]
    refine takeH (i := 6) (d := 11) (v := ?_) rfl rfl (by kernel_rfl) (by kernel_rfl) (by kernel_rfl) (fun _ _ _ h => h) (Or.inl ⟨by rfl, ?y6⟩) hH1 ?_
    case y6 => intro w hSw; go_simp; try with_reducible rfl
    try simp only [Act.put, List.setIfInBounds_toArray, List.set_cons_zero, List.set_cons_succ]
    refine takeH (i := 7) (d := 12) (v := undef) rfl rfl (by kernel_rfl) (by kernel_rfl) (by kernel_rfl) (fun _ _ _ h => h) (Or.inr ⟨by rfl, rfl⟩) hH1 ?_
    try simp only [Act.put, List.setIfInBounds_toArray, List.set_cons_zero, List.set_cons_succ]
    refine takeH (i := 8) (d := 13) (v := undef) rfl rfl (by kernel_rfl) (by kernel_rfl) (by kernel_rfl) (fun _ _ _ h => h) (Or.inr ⟨by rfl, rfl⟩) hH1 ?_
    try simp only [Act.put, List.setIfInBounds_toArray, List.set_cons_zero, List.set_cons_succ]
    refine takeH (i := 9) (d := 14) (v := undef) rfl rfl (by kernel_rfl) (by kernel_rfl) (by kernel_rfl) (fun _ _ _ h => h) (Or.inr ⟨by rfl, rfl⟩) hH1 ?_
    try simp only [Act.put, List.setIfInBounds_toArray, List.set_cons_zero, List.set_cons_succ]
    refine takeH (i := 10) (d := 15) (v := undef) rfl rfl (by kernel_rfl) (by kernel_rfl) (by kernel_rfl) (fun _ _ _ h => h) (Or.inr ⟨by rfl, rfl⟩) hH1 ?_
    try simp only [Act.put, List.setIfInBounds_toArray, List.set_cons_zero, List.set_cons_succ]
    refine takeH (i := 11) (d := 16) (v := undef) rfl rfl (by kernel_rfl) (by kernel_rfl) (by kernel_rfl) (fun _ _ _ h => h) (Or.inr ⟨by rfl, rfl⟩) hH1 ?_
    try simp only [Act.put, List.setIfInBounds_toArray, List.set_cons_zero, List.set_cons_succ]
    refine takeH (i := 12) (d := 17) (v := ?_) rfl rfl (by kernel_rfl) (by kernel_rfl) (by kernel_rfl) (fun _ _ _ h => h) (Or.inl ⟨by rfl, ?y12⟩) hH1 ?_
    case y12 => intro w hSw; go_simp; try with_reducible rfl
    try simp only [Act.put, List.setIfInBounds_toArray, List.set_cons_zero, List.set_cons_succ]
    refine takeH (i := 13) (d := 18) (v := ?_) rfl rfl (by kernel_rfl) (by kernel_rfl) (by kernel_rfl) (fun _ _ _ h => h) (Or.inl ⟨by rfl, ?y13⟩) hH1 ?_
    case y13 => intro w hSw; go_simp; try with_reducible rfl
    try simp only [Act.put, List.setIfInBounds_toArray, List.set_cons_zero, List.set_cons_succ]
    refine takeH (i := 14) (d := 19) (v := undef) rfl rfl (by kernel_rfl) (by kernel_rfl) (by kernel_rfl) (fun _ _ _ h => h) (Or.inr ⟨by rfl, rfl⟩) hH1 ?_
    try simp only [Act.put, List.setIfInBounds_toArray, List.set_cons_zero, List.set_cons_succ]
    refine takeH (i := 15) (d := 20) (v := undef) rfl rfl (by kernel_rfl) (by kernel_rfl) (by kernel_rfl) (fun _ _ _ h => h) (Or.inr ⟨by rfl, rfl⟩) hH1 ?_
    try simp only [Act.put, List.setIfInBounds_toArray, List.set_cons_zero, List.set_cons_succ]
    refine takeH (i := 16) (d := 21) (v := undef) rfl rfl (by kernel_rfl) (by kernel_rfl) (by kernel_rfl) (fun _ _ _ h => h) (Or.inr ⟨by rfl, rfl⟩) hH1 ?_
    try simp only [Act.put, List.setIfInBounds_toArray, List.set_cons_zero, List.set_cons_succ]
    refine takeH (i := 17) (d := 22) (v := undef) rfl rfl (by kernel_rfl) (by kernel_rfl) (by kernel_rfl) (fun _ _ _ h => h) (Or.inr ⟨by rfl, rfl⟩) hH1 ?_
    try simp only [Act.put, List.setIfInBounds_toArray, List.set_cons_zero, List.set_cons_succ]
    refine takeH (i := 18) (d := 23) (v := undef) rfl rfl (by kernel_rfl) (by kernel_rfl) (by kernel_rfl) (fun _ _ _ h => h) (Or.inr ⟨by rfl, rfl⟩) hH1 ?_
    try simp only [Act.put, List.setIfInBounds_toArray, List.set_cons_zero, List.set_cons_succ]
    refine takeH (i := 19) (d := 24) (v := ?_) rfl rfl (by kernel_rfl) (by kernel_rfl) (by kernel_rfl) (fun _ _ _ h => h) (Or.inl ⟨by rfl, ?y19⟩) hH1 ?_
    case y19 => intro w hSw; go_simp; try with_reducible rfl
    try simp only [Act.put, List.setIfInBounds_toArray, List.set_cons_zero, List.set_cons_succ]
    refine takeH (i := 20) (d := 4) (v := ?_) rfl rfl (by kernel_rfl) (by kernel_rfl) (by kernel_rfl) (fun _ _ _ h => h) (Or.inl ⟨by rfl, ?y20⟩) hH1 ?_
    case y20 => intro w hSw; go_simp; try with_reducible rfl
    try simp only [Act.put, List.setIfInBounds_toArray, List.set_cons_zero, List.set_cons_succ]
    refine wpAnyH_done (by kernel_rfl) ?_ _
    go_wp2_with fail
    go_ret
    exact ⟨by rw [HRR.out]; first | rfl | simp [*], HB.out.trans (hH1.2.mono HB.out.size)⟩
end Go.Proofs.Ytleicghfcffblaa
/- merge's ofAhead and Least. -/
namespace Go.Proofs.Ytleicghfcffblaa
open Go.RowKit
set_option maxRecDepth 20000
set_option linter.unusedVariables false
set_option linter.unusedSimpArgs false
set_option maxHeartbeats 4000000 in
theorem ahead_any (v : Value) (l : List En) (e : En) (w : World) (hv : EnsAt w v l) (hm : MaysN l) (he : MayN e) : Calls Try.prog 37 #[v, .agg (eC e), .func (.func 38) #[] #[]] w fun x w' => x = .returned (.bool (lastOne l e)) ∧ Below w.heap.size w w' := by
  have hbw : Below w.heap.size w (w.alloc (.cells (eC e) 62)) := (Below.refl _ _).alloc (Nat.le_refl _) _
  have hea := EAt.made w e 62
  have hv2 := hv.below hbw
  rcases List.eq_nil_or_concat l with rfl | ⟨r, a, rfl⟩
  · obtain ⟨a0, c0, rfl, -⟩ := hv
    have HR : Hid (lastOne [] e = false) := Lib.hid rfl
    have hz : IntKind.i64.wrap ((0 : Int) - 1) = -1 := by rw [IntKind.wrap_i64]; omega
    rw [List.length_nil]
    unfold eC at hbw hea ⊢
    obtain ⟨W, hW⟩ : ∃ W, (w.alloc (.cells #[.int .u64 e.id, .int .u64 e.off, .int .u32 e.ln, .int .u32 e.rn] 62)) = W := ⟨_, rfl⟩
    rw [hW] at hea hbw
    have HK : Hid (∀ w', Below W.heap.size W w' → (w'.cell? ⟨w.heap.size, 0, none⟩ = some (.int .u64 e.id) ∧ w'.cell? ⟨w.heap.size, 1, none⟩ = some (.int .u64 e.off) ∧ w'.cell? ⟨w.heap.size, 2, none⟩ = some (.int .u32 e.ln) ∧ w'.cell? ⟨w.heap.size, 3, none⟩ = some (.int .u32 e.rn)) ∧ Below W.heap.size W w') := Lib.hid (fun w' h => ⟨hea.later h, h⟩)
    have HB := Lib.hid hbw
    clear hea hbw hv2 he hm
    go_enter Try.func37, Try.ntmps37
    go_wp2_with fail
    refine wp_region_held_drew (S := fun w' => (w'.cell? ⟨w.heap.size, 0, none⟩ = some (.int .u64 e.id) ∧ w'.cell? ⟨w.heap.size, 1, none⟩ = some (.int .u64 e.off) ∧ w'.cell? ⟨w.heap.size, 2, none⟩ = some (.int .u32 e.ln) ∧ w'.cell? ⟨w.heap.size, 3, none⟩ = some (.int .u32 e.rn)) ∧ Below W.heap.size W w') (by kernel_rfl) (HK.out _ (Below.drew (Below.refl _ _))) (fun hH0 => ?_)
    refine takeH (i := 0) (d := 11) (v := ?_) rfl rfl (by kernel_rfl) (by kernel_rfl) (by kernel_rfl) (fun _ _ _ h => h) (Or.inl ⟨by rfl, ?y0⟩) hH0 ?_
    case y0 => intro w hSw; go_simp; try with_reducible rfl
    try simp only [Act.put, List.setIfInBounds_toArray, List.set_cons_zero, List.set_cons_succ]
    refine takeH (i := 1) (d := 12) (v := ?_) rfl rfl (by kernel_rfl) (by kernel_rfl) (by kernel_rfl) (fun _ _ _ h => h) (Or.inl ⟨by rfl, ?y1⟩) hH0 ?_
    case y1 => intro w hSw; go_simp; try with_reducible rfl
    try simp only [Act.put, List.setIfInBounds_toArray, List.set_cons_zero, List.set_cons_succ]
    refine takeH (i := 2) (d := 13) (v := ?_) rfl rfl (by kernel_rfl) (by kernel_rfl) (by kernel_rfl) (fun _ _ _ h => h) (Or.inl ⟨by rfl, ?y2⟩) hH0 ?_
    case y2 => intro w hSw; go_simp; try with_reducible rfl
    try simp only [Act.put, List.setIfInBounds_toArray, List.set_cons_zero, List.set_cons_succ]
    refine takeH (i := 3) (d := 14) (v := undef) rfl rfl (by kernel_rfl) (by kernel_rfl) (by kernel_rfl) (fun _ _ _ h => h) (Or.inr ⟨by rfl, rfl⟩) hH0 ?_
    try simp only [Act.put, List.setIfInBounds_toArray, List.set_cons_zero, List.set_cons_succ]
    refine takeH (i := 4) (d := 15) (v := undef) rfl rfl (by kernel_rfl) (by kernel_rfl) (by kernel_rfl) (fun _ _ _ h => h) (Or.inr ⟨by rfl, rfl⟩) hH0 ?_
    try simp only [Act.put, List.setIfInBounds_toArray, List.set_cons_zero, List.set_cons_succ]
    refine takeH (i := 5) (d := 16) (v := undef) rfl rfl (by kernel_rfl) (by kernel_rfl) (by kernel_rfl) (fun _ _ _ h => h) (Or.inr ⟨by rfl, rfl⟩) hH0 ?_
    try simp only [Act.put, List.setIfInBounds_toArray, List.set_cons_zero, List.set_cons_succ]
    refine takeH (i := 6) (d := 17) (v := undef) rfl rfl (by kernel_rfl) (by kernel_rfl) (by kernel_rfl) (fun _ _ _ h => h) (Or.inr ⟨by rfl, rfl⟩) hH0 ?_
    try simp only [Act.put, List.setIfInBounds_toArray, List.set_cons_zero, List.set_cons_succ]
    refine takeH (i := 7) (d := 18) (v := undef) rfl rfl (by kernel_rfl) (by kernel_rfl) (by kernel_rfl) (fun _ _ _ h => h) (Or.inr ⟨by rfl, rfl⟩) hH0 ?_
    try simp only [Act.put, List.setIfInBounds_toArray, List.set_cons_zero, List.set_cons_succ]
    refine takeH (i := 8) (d := 19) (v := undef) rfl rfl (by kernel_rfl) (by kernel_rfl) (by kernel_rfl) (fun _ _ _ h => h) (Or.inr ⟨by rfl, rfl⟩) hH0 ?_
    try simp only [Act.put, List.setIfInBounds_toArray, List.set_cons_zero, List.set_cons_succ]
    refine takeH (i := 9) (d := 20) (v := undef) rfl rfl (by kernel_rfl) (by kernel_rfl) (by kernel_rfl) (fun _ _ _ h => h) (Or.inr ⟨by rfl, rfl⟩) hH0 ?_
    try simp only [Act.put, List.setIfInBounds_toArray, List.set_cons_zero, List.set_cons_succ]
    refine takeH (i := 10) (d := 21) (v := ?_) rfl rfl (by kernel_rfl) (by kernel_rfl) (by kernel_rfl) (fun _ _ _ h => h) (Or.inl ⟨by rfl, ?y10⟩) hH0 ?_
    case y10 => intro w hSw; go_simp; try with_reducible rfl
    try simp only [Act.put, List.setIfInBounds_toArray, List.set_cons_zero, List.set_cons_succ]
    refine takeH (i := 11) (d := 6) (v := ?_) rfl rfl (by kernel_rfl) (by kernel_rfl) (by kernel_rfl) (fun _ _ _ h => h) (Or.inl ⟨by rfl, ?y11⟩) hH0 ?_
    case y11 => intro w hSw; go_simp; try with_reducible rfl
    try simp only [Act.put, List.setIfInBounds_toArray, List.set_cons_zero, List.set_cons_succ]
    refine wpAnyH_done (by kernel_rfl) ?_ _
    go_wp2_with fail
    go_ret
    exact ⟨by rw [HR.out]; rfl, HB.out.trans (hH0.2.mono HB.out.size)⟩
  · rw [List.concat_eq_append] at *
    have HR := Lib.hid (lastOne_concat r a e)
    obtain ⟨g, off, cap, rfl, hle, hg, hc⟩ := ens_at hv r.length (by simp)
    have hmx : r.length + 1 ≤ maxLen := by
      obtain ⟨a', c', e', h1, h2, _⟩ := hv
      rw [List.length_append, List.length_singleton] at h1
      omega
    have hlt : (r ++ [a]).length = r.length + 1 := by simp
    rw [hlt] at *
    have hca := hc r.length a (by simp)
    have hG := fun W => goes_any e a W he (hm a (by simp))
    have HCA := Lib.hid (fun X (hX : Below w.heap.size w X) => cells4 hX hca)
    unfold maxLen at hmx
    have hi1 : IntKind.i64.wrap ((r.length : Int) + 1 - 1) = (r.length : Int) := by rw [IntKind.wrap_i64]; omega
    have hi2 : IntKind.i64.wrap (r.length : Int) = (r.length : Int) := by rw [IntKind.wrap_i64]; omega
    have hi3 : (r.length : Int) < (r.length : Int) + 1 := by omega
    have hi4 : (0 : Int) ≤ (r.length : Int) := by omega
    unfold eC at hbw hea hG ⊢
    have HG := Lib.hid hG
    obtain ⟨W, hW⟩ : ∃ W, (w.alloc (.cells #[.int .u64 e.id, .int .u64 e.off, .int .u32 e.ln, .int .u32 e.rn] 62)) = W := ⟨_, rfl⟩
    rw [hW] at hea hbw
    have HK : Hid (∀ w', Below W.heap.size W w' → ((w'.cell? ⟨w.heap.size, 0, none⟩ = some (.int .u64 e.id) ∧ w'.cell? ⟨w.heap.size, 1, none⟩ = some (.int .u64 e.off) ∧ w'.cell? ⟨w.heap.size, 2, none⟩ = some (.int .u32 e.ln) ∧ w'.cell? ⟨w.heap.size, 3, none⟩ = some (.int .u32 e.rn)) ∧ (w'.cell? ⟨g, off + r.length * 4, none⟩ = some (.int .u64 a.id) ∧ w'.cell? ⟨g, off + r.length * 4 + 1, none⟩ = some (.int .u64 a.off) ∧ w'.cell? ⟨g, off + r.length * 4 + 2, none⟩ = some (.int .u32 a.ln) ∧ w'.cell? ⟨g, off + r.length * 4 + 3, none⟩ = some (.int .u32 a.rn))) ∧ Below W.heap.size W w') := Lib.hid (fun w' h => ⟨⟨hea.later h, HCA.out w' (hbw.trans (h.mono hbw.size))⟩, h⟩)
    have HB := Lib.hid hbw
    generalize oneE a e = R at *
    clear hea hbw hv2 hv he hm hG hc hca hlt
    generalize r.length = rl at *
    go_enter Try.func37, Try.ntmps37
    go_wp2_with fail
    refine wp_region_held_drew (S := fun w' => ((w'.cell? ⟨w.heap.size, 0, none⟩ = some (.int .u64 e.id) ∧ w'.cell? ⟨w.heap.size, 1, none⟩ = some (.int .u64 e.off) ∧ w'.cell? ⟨w.heap.size, 2, none⟩ = some (.int .u32 e.ln) ∧ w'.cell? ⟨w.heap.size, 3, none⟩ = some (.int .u32 e.rn)) ∧ (w'.cell? ⟨g, off + rl * 4, none⟩ = some (.int .u64 a.id) ∧ w'.cell? ⟨g, off + rl * 4 + 1, none⟩ = some (.int .u64 a.off) ∧ w'.cell? ⟨g, off + rl * 4 + 2, none⟩ = some (.int .u32 a.ln) ∧ w'.cell? ⟨g, off + rl * 4 + 3, none⟩ = some (.int .u32 a.rn))) ∧ Below W.heap.size W w') (by kernel_rfl) (HK.out _ (Below.drew (Below.refl _ _))) (fun hH0 => ?_)
    refine takeH (i := 0) (d := 11) (v := ?_) rfl rfl (by kernel_rfl) (by kernel_rfl) (by kernel_rfl) (fun _ _ _ h => h) (Or.inl ⟨by rfl, ?y0⟩) hH0 ?_
    case y0 => intro w hSw; go_simp; try with_reducible rfl
    try simp only [Act.put, List.setIfInBounds_toArray, List.set_cons_zero, List.set_cons_succ]
    refine takeH (i := 1) (d := 12) (v := ?_) rfl rfl (by kernel_rfl) (by kernel_rfl) (by kernel_rfl) (fun _ _ _ h => h) (Or.inl ⟨by rfl, ?y1⟩) hH0 ?_
    case y1 => intro w hSw; go_simp; try with_reducible rfl
    try simp only [Act.put, List.setIfInBounds_toArray, List.set_cons_zero, List.set_cons_succ]
    refine takeH (i := 2) (d := 13) (v := ?_) rfl rfl (by kernel_rfl) (by kernel_rfl) (by kernel_rfl) (fun _ _ _ h => h) (Or.inl ⟨by rfl, ?y2⟩) hH0 ?_
    case y2 => intro w hSw; go_simp; try with_reducible rfl
    try simp only [Act.put, List.setIfInBounds_toArray, List.set_cons_zero, List.set_cons_succ]
    refine takeH (i := 3) (d := 14) (v := ?_) rfl rfl (by kernel_rfl) (by kernel_rfl) (by kernel_rfl) (fun _ _ _ h => h) (Or.inl ⟨by rfl, ?y3⟩) hH0 ?_
    case y3 => intro w hSw; go_simp; try with_reducible rfl
    try simp only [Act.put, List.setIfInBounds_toArray, List.set_cons_zero, List.set_cons_succ]
    refine takeH (i := 4) (d := 15) (v := ?_) rfl rfl (by kernel_rfl) (by kernel_rfl) (by kernel_rfl) (fun _ _ _ h => h) (Or.inl ⟨by rfl, ?y4⟩) hH0 ?_
    case y4 => intro w hSw; go_simp; try with_reducible rfl
    try simp only [Act.put, List.setIfInBounds_toArray, List.set_cons_zero, List.set_cons_succ]
    refine takeH (i := 5) (d := 16) (v := ?_) rfl rfl (by kernel_rfl) (by kernel_rfl) (by kernel_rfl) (fun _ _ _ h => h) (Or.inl ⟨by rfl, ?y5⟩) hH0 ?_
    case y5 => intro w hSw; go_simp; try with_reducible rfl
    try simp only [Act.put, List.setIfInBounds_toArray, List.set_cons_zero, List.set_cons_succ]
    refine takeH (i := 6) (d := 17) (v := ?_) rfl rfl (by kernel_rfl) (by kernel_rfl) (by kernel_rfl) (fun _ _ _ h => h) (Or.inl ⟨by rfl, ?y6⟩) hH0 ?_
    case y6 => intro w hSw; go_simp; try with_reducible rfl
    try simp only [Act.put, List.setIfInBounds_toArray, List.set_cons_zero, List.set_cons_succ]
    refine takeH (i := 7) (d := 18) (v := ?_) rfl rfl (by kernel_rfl) (by kernel_rfl) (by kernel_rfl) (fun _ _ _ h => h) (Or.inl ⟨by rfl, ?y7⟩) hH0 ?_
    case y7 => intro w hSw; go_simp; try with_reducible rfl
    try simp only [Act.put, List.setIfInBounds_toArray, List.set_cons_zero, List.set_cons_succ]
    refine takeH (i := 8) (d := 19) (v := ?_) rfl rfl (by kernel_rfl) (by kernel_rfl) (by kernel_rfl) (fun _ _ _ h => h) (Or.inl ⟨by rfl, ?y8⟩) hH0 ?_
    case y8 => intro w hSw; go_simp; try with_reducible rfl
    try simp only [Act.put, List.setIfInBounds_toArray, List.set_cons_zero, List.set_cons_succ]
    refine wpAnyH_ready (rs := [9]) (by kernel_rfl) (by simp) ?_
    refine AllReadyH.cons rfl (fun K hK => ?_) AllReadyH.nil
    go_simp
    refine (HG.out _).mono ?_
    rintro e w' ⟨rfl, hb⟩
    go_wp2_with fail
    refine hK.out _ _ (HK.out _ (hH0.2.trans (hb.mono hH0.2.size))) (fun hH1 => ?_)
    clear hK K hb hH0
    try simp only [Act.put, List.setIfInBounds_toArray, List.set_cons_zero, List.set_cons_succ]
    refine takeH (i := 10) (d := 21) (v := ?_) rfl rfl (by kernel_rfl) (by kernel_rfl) (by kernel_rfl) (fun _ _ _ h => h) (Or.inl ⟨by rfl, ?y10⟩) hH1 ?_
    case y10 => intro w hSw; go_simp; try with_reducible rfl
    try simp only [Act.put, List.setIfInBounds_toArray, List.set_cons_zero, List.set_cons_succ]
    refine takeH (i := 11) (d := 6) (v := ?_) rfl rfl (by kernel_rfl) (by kernel_rfl) (by kernel_rfl) (fun _ _ _ h => h) (Or.inl ⟨by rfl, ?y11⟩) hH1 ?_
    case y11 => intro w hSw; go_simp; try with_reducible rfl
    try simp only [Act.put, List.setIfInBounds_toArray, List.set_cons_zero, List.set_cons_succ]
    refine wpAnyH_done (by kernel_rfl) ?_ _
    go_wp2_with fail
    go_ret
    exact ⟨by rw [HR.out]; rfl, HB.out.trans (hH1.2.mono HB.out.size)⟩
/-- Whether an entry might be one with the one ahead, in the two spellings. -/
theorem last_take {l : List En} {i : Nat} (hi : i < l.length) (e : En) : lastOne (l.take i) e = (decide (0 < i) && oneE (l.getD (i - 1) zeroE) e) := by
  cases i with
  | zero => rfl
  | succ m =>
    have h : l[m]? = some (l.getD m zeroE) := by rw [List.getD_eq_getElem?_getD, List.getElem?_eq_getElem (by omega)]; rfl
    rw [take_one l m _ h, lastOne_concat]
    simp
theorem EnsAt.take {w : World} {l : List En} {g off cap : Nat} (h : EnsAt w (.slice (some ⟨g, off, none⟩) l.length cap) l) (i : Nat) (hi : i ≤ l.length) : EnsAt w (.slice (some ⟨g, off, none⟩) i cap) (l.take i) := by
  obtain ⟨a', c', e', h1, h2, hc⟩ := h
  cases e'
  refine ⟨_, cap, by rw [List.length_take, Nat.min_eq_left hi], by rw [List.length_take]; omega, h2, fun k t ht => ?_⟩
  refine hc k t ?_
  rw [List.getElem?_take] at ht
  split at ht
  · exact ht
  · cases ht
set_option maxHeartbeats 4000000 in
theorem least13_any (v : Value) (l : List En) (w : World) (hv : EnsAt w v l) (hm : MaysN l) :
    Calls Try.prog 20 #[v] w fun x w' => x = .returned (.bool (leastN l)) ∧ Below w.heap.size w w' := by
  have HRO := Lib.hid (prow_any v l w hv hm)
  have HV := Lib.hid hv
  have HM := Lib.hid hm
  obtain ⟨a0, c0, rfl, hcap, hmx, -⟩ := hv
  have hml : l.length ≤ 9223372036854775807 := by unfold maxLen at hmx; omega
  obtain ⟨R, hR⟩ : ∃ R, leastN l = R := ⟨_, rfl⟩
  rw [hR]
  have HR := Lib.hid hR
  obtain ⟨q, hq⟩ : ∃ q, rowN l = q := ⟨_, rfl⟩
  rw [hq] at HRO
  clear hR hm
  by_cases h0 : q = 0
  · have e0 : (q != 0) = false := by simpa using h0
    have HQ := Lib.hid (hq.trans h0)
    clear h0 hq
    go_enter Try.func20, Try.ntmps20
    go_wp2_with fail
    refine HRO.out.mono ?_
    rintro x w1 ⟨rfl, hb1⟩
    have HB1 := Lib.hid hb1
    clear hb1
    go_wp2_with fail
    go_loopw [10] (fun x wr => ∃ i : Nat, i ≤ l.length ∧ x = .int .i64 i ∧ Hid (∀ j, j < i → okAt l j = true) ∧ Below w.heap.size w wr) (fun x _ => l.length - (intOf x).toNat)
    case atStart => exact ⟨0, Nat.zero_le _, rfl, Lib.hid (fun j h => by omega), HB1.out⟩
    case round =>
      obtain ⟨i, hi, rfl, HJ, hbw⟩ := hrel
      by_cases hlt : i < l.length
      · obtain ⟨e, he⟩ : ∃ e, l[i]? = some e := ⟨_, List.getElem?_eq_getElem hlt⟩
        have hme := HM.out e (List.mem_of_getElem? he)
        have hge : l.getD i zeroE = e := by rw [List.getD_eq_getElem?_getD, he]; rfl
        have hll := last_take hlt e
        obtain ⟨g, off, cap, hv2, hle, hg, hc⟩ := ens_at HV.out i hlt
        cases hv2
        obtain ⟨k0, k1, k2, k3⟩ := cells4 hbw (hc i e he)
        have HBX : Below wr.heap.size wr (wr.alloc (.cells (eC e) 62)) := (Below.refl _ _).alloc (Nat.le_refl _) _
        have HEX := EAt.made wr e 62
        have hAH := fun X (hX : Below w.heap.size w X) => ahead_any _ _ e X ((HV.out.take i (by omega)).below hX) (fun t ht => HM.out t (List.mem_of_mem_take ht)) hme
        have hPT := fun X => mptr_any e X
        have hok : okAt l i = (decide (e.rn ≠ 0) && !lastOne (l.take i) e) := by unfold okAt; rw [hge, hll]
        have hii : (i : Int) < (l.length : Int) := by omega
        have hi1 : i ≤ l.length := by omega
        have hi2 : (i : Int) ≤ (l.length : Int) := by omega
        have hi3 : (i : Int) ≤ (c0 : Int) := by omega
        have hi4 : i ≤ c0 := by omega
        have hi0 : (0 : Int) ≤ (i : Int) := by omega
        generalize lastOne (l.take i) e = b at *
        unfold eC at HBX HEX hAH hPT
        have HBW := Lib.hid hbw
        have HBX2 := Lib.hid HBX
        have HEX2 := Lib.hid HEX
        have HAH := Lib.hid hAH
        clear hc hbw HBX HEX hAH hll he hge
        by_cases hr : e.rn = 0
        · have hPT2 : ∀ X, Calls Try.prog 46 #[.agg #[.int .u64 e.id, .int .u64 e.off, .int .u32 e.ln, .int .u32 e.rn]] X fun x w' => x = .returned (.bool true) ∧ Below X.heap.size X w' := fun X => by have := hPT X; rw [decide_eq_true hr] at this; exact this
          have HPT := Lib.hid hPT2
          have HRR : Hid (R = false) := Lib.hid (by rw [← HR.out]; exact least_no hlt (by rw [hok]; simp [hr]))
          clear hr hok hPT hPT2
          go_wp2_with fail
          generalize hW : wr.alloc (.cells #[.int .u64 e.id, .int .u64 e.off, .int .u32 e.ln, .int .u32 e.rn] 62) = W at *
          refine wp_region_held_drew (S := fun w' => (w'.cell? ⟨wr.heap.size, 0, none⟩ = some (.int .u64 e.id) ∧ w'.cell? ⟨wr.heap.size, 1, none⟩ = some (.int .u64 e.off) ∧ w'.cell? ⟨wr.heap.size, 2, none⟩ = some (.int .u32 e.ln) ∧ w'.cell? ⟨wr.heap.size, 3, none⟩ = some (.int .u32 e.rn)) ∧ Below W.heap.size W w') (by kernel_rfl) ⟨HEX2.out.later (Below.drew (Below.refl _ _)), Below.drew (Below.refl _ _)⟩ (fun hH0 => ?_)
          refine takeH (i := 0) (d := 15) (v := ?_) rfl rfl (by kernel_rfl) (by kernel_rfl) (by kernel_rfl) (fun _ _ _ h => h) (Or.inl ⟨by rfl, ?y0⟩) hH0 ?_
          case y0 => intro w hSw; go_simp; try with_reducible rfl
          try simp only [Act.put, List.setIfInBounds_toArray, List.set_cons_zero, List.set_cons_succ]
          refine wpAnyH_ready (rs := [1]) (by kernel_rfl) (by simp) ?_
          refine AllReadyH.cons rfl (fun K hK => ?_) AllReadyH.nil
          go_simp
          refine (HPT.out _).mono ?_
          rintro e w' ⟨rfl, hb⟩
          go_wp2_with fail
          refine hK.out _ _ (⟨HEX2.out.later (hH0.2.trans (hb.mono hH0.2.size)), hH0.2.trans (hb.mono hH0.2.size)⟩) (fun hH1 => ?_)
          clear hK K hb hH0
          try simp only [Act.put, List.setIfInBounds_toArray, List.set_cons_zero, List.set_cons_succ]
          refine takeH (i := 2) (d := 17) (v := ?_) rfl rfl (by kernel_rfl) (by kernel_rfl) (by kernel_rfl) (fun _ _ _ h => h) (Or.inl ⟨by rfl, ?y2⟩) hH1 ?_
          case y2 => intro w hSw; go_simp; try with_reducible rfl
          try simp only [Act.put, List.setIfInBounds_toArray, List.set_cons_zero, List.set_cons_succ]
          refine takeH (i := 3) (d := 18) (v := undef) rfl rfl (by kernel_rfl) (by kernel_rfl) (by kernel_rfl) (fun _ _ _ h => h) (Or.inr ⟨by rfl, rfl⟩) hH1 ?_
          try simp only [Act.put, List.setIfInBounds_toArray, List.set_cons_zero, List.set_cons_succ]
          refine takeH (i := 4) (d := 19) (v := undef) rfl rfl (by kernel_rfl) (by kernel_rfl) (by kernel_rfl) (fun _ _ _ h => h) (Or.inr ⟨by rfl, rfl⟩) hH1 ?_
          try simp only [Act.put, List.setIfInBounds_toArray, List.set_cons_zero, List.set_cons_succ]
          refine takeH (i := 5) (d := 20) (v := undef) rfl rfl (by kernel_rfl) (by kernel_rfl) (by kernel_rfl) (fun _ _ _ h => h) (Or.inr ⟨by rfl, rfl⟩) hH1 ?_
          try simp only [Act.put, List.setIfInBounds_toArray, List.set_cons_zero, List.set_cons_succ]
          refine takeH (i := 6) (d := 21) (v := undef) rfl rfl (by kernel_rfl) (by kernel_rfl) (by kernel_rfl) (fun _ _ _ h => h) (Or.inr ⟨by rfl, rfl⟩) hH1 ?_
          try simp only [Act.put, List.setIfInBounds_toArray, List.set_cons_zero, List.set_cons_succ]
          refine takeH (i := 7) (d := 22) (v := undef) rfl rfl (by kernel_rfl) (by kernel_rfl) (by kernel_rfl) (fun _ _ _ h => h) (Or.inr ⟨by rfl, rfl⟩) hH1 ?_
          try simp only [Act.put, List.setIfInBounds_toArray, List.set_cons_zero, List.set_cons_succ]
          refine takeH (i := 8) (d := 23) (v := ?_) rfl rfl (by kernel_rfl) (by kernel_rfl) (by kernel_rfl) (fun _ _ _ h => h) (Or.inl ⟨by rfl, ?y8⟩) hH1 ?_
          case y8 => intro w hSw; go_simp; try with_reducible rfl
          try simp only [Act.put, List.setIfInBounds_toArray, List.set_cons_zero, List.set_cons_succ]
          refine wpAnyH_done (by kernel_rfl) ?_ _
          go_wp2_with fail
          go_ret
          exact ⟨by rw [HRR.out]; rfl, HBW.out.trans ((HBX2.out.trans (hH1.2.mono HBX2.out.size)).mono HBW.out.size)⟩
        · have hPT2 : ∀ X, Calls Try.prog 46 #[.agg #[.int .u64 e.id, .int .u64 e.off, .int .u32 e.ln, .int .u32 e.rn]] X fun x w' => x = .returned (.bool false) ∧ Below X.heap.size X w' := fun X => by have := hPT X; rw [decide_eq_false hr] at this; exact this
          have HPT := Lib.hid hPT2
          have HOK : Hid (okAt l i = !b) := Lib.hid (by rw [hok]; simp [hr])
          clear hr hok hPT hPT2
          cases b with
          | true =>
            have HRR : Hid (R = false) := Lib.hid (by rw [← HR.out]; exact least_no hlt HOK.out)
            go_wp2_with fail
            generalize hW : wr.alloc (.cells #[.int .u64 e.id, .int .u64 e.off, .int .u32 e.ln, .int .u32 e.rn] 62) = W at *
            refine wp_region_held_drew (S := fun w' => (w'.cell? ⟨wr.heap.size, 0, none⟩ = some (.int .u64 e.id) ∧ w'.cell? ⟨wr.heap.size, 1, none⟩ = some (.int .u64 e.off) ∧ w'.cell? ⟨wr.heap.size, 2, none⟩ = some (.int .u32 e.ln) ∧ w'.cell? ⟨wr.heap.size, 3, none⟩ = some (.int .u32 e.rn)) ∧ Below W.heap.size W w') (by kernel_rfl) ⟨HEX2.out.later (Below.drew (Below.refl _ _)), Below.drew (Below.refl _ _)⟩ (fun hH0 => ?_)
            refine takeH (i := 0) (d := 15) (v := ?_) rfl rfl (by kernel_rfl) (by kernel_rfl) (by kernel_rfl) (fun _ _ _ h => h) (Or.inl ⟨by rfl, ?y0⟩) hH0 ?_
            case y0 => intro w hSw; go_simp; try with_reducible rfl
            try simp only [Act.put, List.setIfInBounds_toArray, List.set_cons_zero, List.set_cons_succ]
            refine wpAnyH_ready (rs := [1]) (by kernel_rfl) (by simp) ?_
            refine AllReadyH.cons rfl (fun K hK => ?_) AllReadyH.nil
            go_simp
            refine (HPT.out _).mono ?_
            rintro e w' ⟨rfl, hb⟩
            go_wp2_with fail
            refine hK.out _ _ (⟨HEX2.out.later (hH0.2.trans (hb.mono hH0.2.size)), hH0.2.trans (hb.mono hH0.2.size)⟩) (fun hH1 => ?_)
            clear hK K hb hH0
            try simp only [Act.put, List.setIfInBounds_toArray, List.set_cons_zero, List.set_cons_succ]
            refine takeH (i := 2) (d := 17) (v := ?_) rfl rfl (by kernel_rfl) (by kernel_rfl) (by kernel_rfl) (fun _ _ _ h => h) (Or.inl ⟨by rfl, ?y2⟩) hH1 ?_
            case y2 => intro w hSw; go_simp; try with_reducible rfl
            try simp only [Act.put, List.setIfInBounds_toArray, List.set_cons_zero, List.set_cons_succ]
            refine takeH (i := 3) (d := 18) (v := ?_) rfl rfl (by kernel_rfl) (by kernel_rfl) (by kernel_rfl) (fun _ _ _ h => h) (Or.inl ⟨by rfl, ?y3⟩) hH1 ?_
            case y3 => intro w hSw; go_simp; try with_reducible rfl
            try simp only [Act.put, List.setIfInBounds_toArray, List.set_cons_zero, List.set_cons_succ]
            refine takeH (i := 4) (d := 19) (v := ?_) rfl rfl (by kernel_rfl) (by kernel_rfl) (by kernel_rfl) (fun _ _ _ h => h) (Or.inl ⟨by rfl, ?y4⟩) hH1 ?_
            case y4 => intro w hSw; go_simp; try with_reducible rfl
            try simp only [Act.put, List.setIfInBounds_toArray, List.set_cons_zero, List.set_cons_succ]
            refine takeH (i := 5) (d := 20) (v := ?_) rfl rfl (by kernel_rfl) (by kernel_rfl) (by kernel_rfl) (fun _ _ _ h => h) (Or.inl ⟨by rfl, ?y5⟩) hH1 ?_
            case y5 => intro w hSw; go_simp; try with_reducible rfl
            try simp only [Act.put, List.setIfInBounds_toArray, List.set_cons_zero, List.set_cons_succ]
            refine takeH (i := 6) (d := 21) (v := ?_) rfl rfl (by kernel_rfl) (by kernel_rfl) (by kernel_rfl) (fun _ _ _ h => h) (Or.inl ⟨by rfl, ?y6⟩) hH1 ?_
            case y6 => intro w hSw; go_simp; try with_reducible rfl
            try simp only [Act.put, List.setIfInBounds_toArray, List.set_cons_zero, List.set_cons_succ]
            refine wpAnyH_ready (rs := [7]) (by kernel_rfl) (by simp) ?_
            refine AllReadyH.cons rfl (fun K hK => ?_) AllReadyH.nil
            go_simp
            refine (HAH.out _ (HBW.out.trans ((HBX2.out.trans (hH1.2.mono HBX2.out.size)).mono HBW.out.size))).mono ?_
            rintro e w' ⟨rfl, hb⟩
            go_wp2_with fail
            refine hK.out _ _ (⟨HEX2.out.later (hH1.2.trans (hb.mono hH1.2.size)), hH1.2.trans (hb.mono hH1.2.size)⟩) (fun hH2 => ?_)
            clear hK K hb hH1
            try simp only [Act.put, List.setIfInBounds_toArray, List.set_cons_zero, List.set_cons_succ]
            refine takeH (i := 8) (d := 23) (v := ?_) rfl rfl (by kernel_rfl) (by kernel_rfl) (by kernel_rfl) (fun _ _ _ h => h) (Or.inl ⟨by rfl, ?y8⟩) hH2 ?_
            case y8 => intro w hSw; go_simp; try with_reducible rfl
            try simp only [Act.put, List.setIfInBounds_toArray, List.set_cons_zero, List.set_cons_succ]
            refine wpAnyH_done (by kernel_rfl) ?_ _
            go_wp2_with fail
            go_ret
            exact ⟨by rw [HRR.out]; rfl, HBW.out.trans ((HBX2.out.trans (hH2.2.mono HBX2.out.size)).mono HBW.out.size)⟩
          | false =>
            go_wp2_with fail
            generalize hW : wr.alloc (.cells #[.int .u64 e.id, .int .u64 e.off, .int .u32 e.ln, .int .u32 e.rn] 62) = W at *
            refine wp_region_held_drew (S := fun w' => (w'.cell? ⟨wr.heap.size, 0, none⟩ = some (.int .u64 e.id) ∧ w'.cell? ⟨wr.heap.size, 1, none⟩ = some (.int .u64 e.off) ∧ w'.cell? ⟨wr.heap.size, 2, none⟩ = some (.int .u32 e.ln) ∧ w'.cell? ⟨wr.heap.size, 3, none⟩ = some (.int .u32 e.rn)) ∧ Below W.heap.size W w') (by kernel_rfl) ⟨HEX2.out.later (Below.drew (Below.refl _ _)), Below.drew (Below.refl _ _)⟩ (fun hH0 => ?_)
            refine takeH (i := 0) (d := 15) (v := ?_) rfl rfl (by kernel_rfl) (by kernel_rfl) (by kernel_rfl) (fun _ _ _ h => h) (Or.inl ⟨by rfl, ?y0⟩) hH0 ?_
            case y0 => intro w hSw; go_simp; try with_reducible rfl
            try simp only [Act.put, List.setIfInBounds_toArray, List.set_cons_zero, List.set_cons_succ]
            refine wpAnyH_ready (rs := [1]) (by kernel_rfl) (by simp) ?_
            refine AllReadyH.cons rfl (fun K hK => ?_) AllReadyH.nil
            go_simp
            refine (HPT.out _).mono ?_
            rintro e w' ⟨rfl, hb⟩
            go_wp2_with fail
            refine hK.out _ _ (⟨HEX2.out.later (hH0.2.trans (hb.mono hH0.2.size)), hH0.2.trans (hb.mono hH0.2.size)⟩) (fun hH1 => ?_)
            clear hK K hb hH0
            try simp only [Act.put, List.setIfInBounds_toArray, List.set_cons_zero, List.set_cons_succ]
            refine takeH (i := 2) (d := 17) (v := ?_) rfl rfl (by kernel_rfl) (by kernel_rfl) (by kernel_rfl) (fun _ _ _ h => h) (Or.inl ⟨by rfl, ?y2⟩) hH1 ?_
            case y2 => intro w hSw; go_simp; try with_reducible rfl
            try simp only [Act.put, List.setIfInBounds_toArray, List.set_cons_zero, List.set_cons_succ]
            refine takeH (i := 3) (d := 18) (v := ?_) rfl rfl (by kernel_rfl) (by kernel_rfl) (by kernel_rfl) (fun _ _ _ h => h) (Or.inl ⟨by rfl, ?y3⟩) hH1 ?_
            case y3 => intro w hSw; go_simp; try with_reducible rfl
            try simp only [Act.put, List.setIfInBounds_toArray, List.set_cons_zero, List.set_cons_succ]
            refine takeH (i := 4) (d := 19) (v := ?_) rfl rfl (by kernel_rfl) (by kernel_rfl) (by kernel_rfl) (fun _ _ _ h => h) (Or.inl ⟨by rfl, ?y4⟩) hH1 ?_
            case y4 => intro w hSw; go_simp; try with_reducible rfl
            try simp only [Act.put, List.setIfInBounds_toArray, List.set_cons_zero, List.set_cons_succ]
            refine takeH (i := 5) (d := 20) (v := ?_) rfl rfl (by kernel_rfl) (by kernel_rfl) (by kernel_rfl) (fun _ _ _ h => h) (Or.inl ⟨by rfl, ?y5⟩) hH1 ?_
            case y5 => intro w hSw; go_simp; try with_reducible rfl
            try simp only [Act.put, List.setIfInBounds_toArray, List.set_cons_zero, List.set_cons_succ]
            refine takeH (i := 6) (d := 21) (v := ?_) rfl rfl (by kernel_rfl) (by kernel_rfl) (by kernel_rfl) (fun _ _ _ h => h) (Or.inl ⟨by rfl, ?y6⟩) hH1 ?_
            case y6 => intro w hSw; go_simp; try with_reducible rfl
            try simp only [Act.put, List.setIfInBounds_toArray, List.set_cons_zero, List.set_cons_succ]
            refine wpAnyH_ready (rs := [7]) (by kernel_rfl) (by simp) ?_
            refine AllReadyH.cons rfl (fun K hK => ?_) AllReadyH.nil
            go_simp
            refine (HAH.out _ (HBW.out.trans ((HBX2.out.trans (hH1.2.mono HBX2.out.size)).mono HBW.out.size))).mono ?_
            rintro e w' ⟨rfl, hb⟩
            go_wp2_with fail
            refine hK.out _ _ (⟨HEX2.out.later (hH1.2.trans (hb.mono hH1.2.size)), hH1.2.trans (hb.mono hH1.2.size)⟩) (fun hH2 => ?_)
            clear hK K hb hH1
            try simp only [Act.put, List.setIfInBounds_toArray, List.set_cons_zero, List.set_cons_succ]
            refine takeH (i := 8) (d := 23) (v := ?_) rfl rfl (by kernel_rfl) (by kernel_rfl) (by kernel_rfl) (fun _ _ _ h => h) (Or.inl ⟨by rfl, ?y8⟩) hH2 ?_
            case y8 => intro w hSw; go_simp; try with_reducible rfl
            try simp only [Act.put, List.setIfInBounds_toArray, List.set_cons_zero, List.set_cons_succ]
            refine wpAnyH_done (by kernel_rfl) ?_ _
            go_wp2_with fail
            go_roundw
            case rel => exact ⟨i + 1, by omega, by go_num, Lib.hid (fun j hj => by rcases Nat.lt_or_ge j i with h | h; (exact HJ.out j h); (obtain rfl : j = i := (by omega)); exact HOK.out), HBW.out.trans ((HBX2.out.trans (hH2.2.mono HBX2.out.size)).mono HBW.out.size)⟩
            case measure => simp [intOf]; omega
      · obtain rfl : i = l.length := by omega
        have HRR : Hid (R = true) := Lib.hid (by rw [← HR.out]; exact least_yes HQ.out HJ.out)
        go_wp2_with fail
        go_ret
        exact ⟨by rw [HRR.out]; rfl, hbw⟩
  · have e0 : (q != 0) = true := by simpa using h0
    have HRR : Hid (R = false) := Lib.hid (by rw [← HR.out]; unfold leastN; rw [hq, decide_eq_false h0]; rfl)
    clear h0 hq
    go_enter Try.func20, Try.ntmps20
    go_wp2_with fail
    refine HRO.out.mono ?_
    rintro x w1 ⟨rfl, hb1⟩
    have HB1 := Lib.hid hb1
    clear hb1
    go_wp2_with fail
    go_ret
    exact ⟨by rw [HRR.out]; rfl, HB1.out⟩
end Go.Proofs.Ytleicghfcffblaa
