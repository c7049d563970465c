/- LayoutPlaces: its walk. -/
import Derived.Test.YtkhlkjhfgfjadaaYj
import Derived.Test.YtkhlkjhfgfjadaaYr
namespace Go.Proofs.Ytkhlkjhfgfjadaa
open Go.RowKit
set_option maxRecDepth 100000
set_option linter.unusedVariables false
set_option linter.unusedSimpArgs false
theorem keep_pl {w w' w1 : World} {g2 g3 g0 : Nat} {A Hc L : Array Value} (hb : Below w'.heap.size w' w1) (hg : g0 ≤ w'.heap.size) (h : w'.heap[g2]? = some (.cells A 30 (0, 0)) ∧ w'.heap[g3]? = some (.cells A 28 (0, 0)) ∧ w'.heap[g0 + 1]? = some (.cells Hc 27 (0, 0)) ∧ w'.heap[g0 + 2]? = some (.cells L 28 (0, 0)) ∧ Below g0 w w') : w1.heap[g2]? = some (.cells A 30 (0, 0)) ∧ w1.heap[g3]? = some (.cells A 28 (0, 0)) ∧ w1.heap[g0 + 1]? = some (.cells Hc 27 (0, 0)) ∧ w1.heap[g0 + 2]? = some (.cells L 28 (0, 0)) ∧ Below g0 w w1 :=
  ⟨hk_later hb h.1, hk_later hb h.2.1, hk_later hb h.2.2.1, hk_later hb h.2.2.2.1, h.2.2.2.2.trans (hb.mono hg)⟩
theorem keep_pl2 {w w' w1 : World} {g2 g3 g0 : Nat} {A Hc L : Array Value} (hb : Below w'.heap.size w' w1) (h : w'.heap[g2]? = some (.cells A 30 (0, 0)) ∧ w'.heap[g3]? = some (.cells A 28 (0, 0)) ∧ w'.heap[g0 + 1]? = some (.cells Hc 27 (0, 0)) ∧ w'.heap[g0 + 2]? = some (.cells L 28 (0, 0)) ∧ Below g0 w w') : w1.heap[g2]? = some (.cells A 30 (0, 0)) ∧ w1.heap[g3]? = some (.cells A 28 (0, 0)) ∧ w1.heap[g0 + 1]? = some (.cells Hc 27 (0, 0)) ∧ w1.heap[g0 + 2]? = some (.cells L 28 (0, 0)) ∧ Below g0 w w1 := keep_pl hb (Nat.le_of_lt (Nat.lt_of_lt_of_le (Nat.lt_succ_self _) (Nat.le_of_lt (Array.getElem?_eq_some_iff.1 h.2.2.1).1))) h
set_option maxHeartbeats 4000000 in
theorem layoutplaces_law (a b c d : Int) (h : Hd) (l : Sc) (w : World) (ha : U64 a) (hb : U64 b) (hc : U64 c) (hd : U64 d) (hm : MayH h) (hs : MayS l) : Calls Try.prog 3 #[.agg #[.int .u64 a, .int .u64 b, .int .u64 c, .int .u64 d], .agg (cH h), .agg (sArr l)] w fun e w' => e = .returned (.bool true) ∧ Below w.heap.size w w' := by
  have HA := Lib.hid awake15_any
  have hx := fun w => sections15_any a b c d w ha hb hc hd
  have hr := fun w => rsections_any a b c d w ha.1 hb.1 hc.1 hd.1
  have zN := ar_num a b c d
  generalize secsN a b c d = P at *
  obtain ⟨ps, sa, se⟩ := P
  unfold SecEnd at hx hr
  dsimp only at hx hr
  have hss := fun w => same_sec4 ps w
  have hee := fun w => eq_head (withN h l) (withN h l) w
  simp only [decide_true] at hee
  have hO := fun w => own_any h w
  have hO2 := fun w => own_any (withN h l) w
  have hW := fun w => with15_any h l w
  have hV := fun w => rwith_any h l w
  have hQ := fun w => own15_any ps w
  have hM := fun w => own15_any l w
  have zA := ar_sec ps
  have zB := ar_rsec ps
  have zH := ar_rhead h
  have zL := ar_rsec l
  generalize #[Value.int .u64 a, .int .u64 b, .int .u64 c, .int .u64 d] = Nn at *
  generalize cH (withN h l) = HX at *
  generalize cH h = Hc at *
  generalize sArr l = L at *
  generalize sArr ps = A at *
  have HX1 := Lib.hid hx
  have HR := Lib.hid hr
  have HO := Lib.hid hO
  have HO2 := Lib.hid hO2
  have HW := Lib.hid hW
  have HV := Lib.hid hV
  have HQ := Lib.hid hQ
  have HM := Lib.hid hM
  have ZN := Lib.hid zN
  have ZA := Lib.hid zA
  have ZB := Lib.hid zB
  have ZH := Lib.hid zH
  have ZL := Lib.hid zL
  clear hx hr hO hO2 hW hV hQ hM zN zA zB zH zL ha hb hc hd hm hs
  obtain ⟨W0, hW0⟩ : ∃ W0, ((w.alloc (.cells Nn 23)).alloc (.cells Hc 27)).alloc (.cells L 28) = W0 := ⟨_, rfl⟩
  have HN0 : Hid (W0.heap[w.heap.size]? = some (.cells Nn 23 (0, 0))) := Lib.hid (by rw [← hW0]; exact (heap_alloc_old (by simp; omega)).trans ((heap_alloc_old (by simp)).trans (heap_new15 w _)))
  have HH0 : Hid (W0.heap[w.heap.size + 1]? = some (.cells Hc 27 (0, 0))) := Lib.hid (by
    have := heap_new15 (w.alloc (.cells Nn 23)) (.cells Hc 27)
    rw [World.size_alloc] at this
    rw [← hW0]
    exact (heap_alloc_old (by simp)).trans this)
  have HL0 : Hid (W0.heap[w.heap.size + 2]? = some (.cells L 28 (0, 0))) := Lib.hid (by
    have := heap_new15 ((w.alloc (.cells Nn 23)).alloc (.cells Hc 27)) (.cells L 28)
    simp only [World.size_alloc] at this
    rw [← hW0]
    exact this)
  have HB0 : Hid (Below w.heap.size w W0) := Lib.hid (by rw [← hW0]; exact (((Below.refl _ w).alloc (Nat.le_refl _) _).alloc (by simp) _).alloc (by simp; omega) _)
  go_enter Try.func3, Try.ntmps3
  go_upto_region 1 with fail
  try rw [hW0]
  clear hW0
  go_wp2_with (first | (refine wpList_load_row rfl 23 _ rfl w.heap.size rfl 23 Nn (0, 0) _ HN0.out Try.underlying23 rfl ZN.out.sz ?_) | fail)
  refine (HX1.out _).mono ?_
  rintro e w1 ⟨rfl, hb1⟩
  have HN1 := Lib.hid (hk_later hb1 HN0.out)
  have HH1 := Lib.hid (hk_later hb1 HH0.out)
  have HL1 := Lib.hid (hk_later hb1 HL0.out)
  have HB1 := Lib.hid (HB0.out.trans (hb1.mono HB0.out.size))
  have HOW := Lib.hid (one_of w1 #[.int .u64 0, .int .u64 0, .int .u64 0, .int .u64 0, .int .u64 0, .int .u64 0, .int .u64 0, .int .u64 0] A 30 ZA.out.eq)
  clear hb1 HN0 HH0 HL0 HB0
  go_upto_region 2 with (first | (refine wpList_store_row rfl 30 _ _ rfl w1.heap.size A rfl rfl 30 _ HOW.out.s1 ZA.out.sz ZA.out.eq ZA.out.one ?_) | fail)
  have hb2 := HOW.out.e3
  have HP2 := Lib.hid HOW.out.e1
  have HN2 := Lib.hid (hk_later hb2 HN1.out)
  have HH2 := Lib.hid (hk_later hb2 HH1.out)
  have HL2 := Lib.hid (hk_later hb2 HL1.out)
  have HB2 := Lib.hid (HB1.out.trans (hb2.mono HB1.out.size))
  clear hb2 HOW HN1 HH1 HL1 HB1
  generalize (w1.alloc (.cells #[.int .u64 0, .int .u64 0, .int .u64 0, .int .u64 0, .int .u64 0, .int .u64 0, .int .u64 0, .int .u64 0] 30)).setRow w1.heap.size A = W2 at *
  generalize w1.heap.size = g2 at *
  go_wp2_with (first | (refine wpList_load_row rfl 23 _ rfl w.heap.size rfl 23 Nn (0, 0) _ HN2.out Try.underlying23 rfl ZN.out.sz ?_) | fail)
  refine (HR.out _).mono ?_
  rintro e w3 ⟨rfl, hb3⟩
  have HH3 := Lib.hid (hk_later hb3 HH2.out)
  have HL3 := Lib.hid (hk_later hb3 HL2.out)
  have HP3 := Lib.hid (hk_later hb3 HP2.out)
  have HB3 := Lib.hid (HB2.out.trans (hb3.mono HB2.out.size))
  have HOW := Lib.hid (one_of w3 #[.int .u64 0, .int .u64 0, .int .u64 0, .int .u64 0, .int .u64 0, .int .u64 0, .int .u64 0, .int .u64 0] A 28 ZB.out.eq)
  clear hb3 HN2 HH2 HL2 HB2 HP2
  go_upto_region 3 with (first | (refine wpList_store_row rfl 28 _ _ rfl w3.heap.size A rfl rfl 28 _ HOW.out.s1 ZB.out.sz ZB.out.eq ZB.out.one ?_) | fail)
  have hb4 := HOW.out.e3
  have HQ4 := Lib.hid HOW.out.e1
  have HP4 := Lib.hid (hk_later hb4 HP3.out)
  have HH4 := Lib.hid (hk_later hb4 HH3.out)
  have HL4 := Lib.hid (hk_later hb4 HL3.out)
  have HB4 := Lib.hid (HB3.out.trans (hb4.mono HB3.out.size))
  clear hb4 HOW HH3 HL3 HP3 HB3
  generalize (w3.alloc (.cells #[.int .u64 0, .int .u64 0, .int .u64 0, .int .u64 0, .int .u64 0, .int .u64 0, .int .u64 0, .int .u64 0] 28)).setRow w3.heap.size A = W4 at *
  generalize w3.heap.size = g3 at *
  generalize hg0 : w.heap.size = g0 at *
  have HG0 := Lib.hid hg0
  clear hg0
  have hS0 := keep_pl2 (Below.drew (Below.refl _ _)) ⟨HP4.out, HQ4.out, HH4.out, HL4.out, HB4.out⟩
  clear HP4 HQ4 HH4 HL4 HB4
  refine wp_region_held_drew (S := fun w' => w'.heap[g2]? = some (.cells A 30 (0, 0)) ∧ w'.heap[g3]? = some (.cells A 28 (0, 0)) ∧ w'.heap[g0 + 1]? = some (.cells Hc 27 (0, 0)) ∧ w'.heap[g0 + 2]? = some (.cells L 28 (0, 0)) ∧ Below g0 w w') (by kernel_rfl) hS0 (fun hH0 => ?_)
  refine takeH (i := 0) (d := 25) rfl rfl (by kernel_rfl) (by kernel_rfl) (by kernel_rfl) (fun _ _ _ h => h) (yieldsIf_row (by rfl) 30 _ rfl _ rfl 30 A (fun w h => run_loadVar_row w _ _ 30 A (0, 0) _ h Try.underlying30 rfl ZA.out.sz) (fun _ H => H.1)) hH0 ?_
  try simp only [Act.put, List.setIfInBounds_toArray, List.set_cons_zero, List.set_cons_succ]
  refine takeH (i := 1) (d := 26) rfl rfl (by kernel_rfl) (by kernel_rfl) (by kernel_rfl) (fun _ _ _ h => h) (yieldsIf_row (by rfl) 28 _ rfl _ rfl 28 A (fun w h => run_loadVar_row w _ _ 28 A (0, 0) _ h Try.underlying28 rfl ZB.out.sz) (fun _ H => H.2.1)) hH0 ?_
  try simp only [Act.put, List.setIfInBounds_toArray, List.set_cons_zero, List.set_cons_succ]
  refine wpAnyH_ready (rs := [2]) (by kernel_rfl) (by simp) ?_
  refine AllReadyH.cons rfl (fun K hK => ?_) AllReadyH.nil
  go_simp
  refine (HQ.out _).mono ?_
  rintro e w' ⟨rfl, hb⟩
  go_wp2_with fail
  refine hK.out _ _ (keep_pl2 hb hH0) (fun hH1 => ?_)
  clear hK K hb hH0
  try simp only [Act.put, List.setIfInBounds_toArray, List.set_cons_zero, List.set_cons_succ]
  refine takeH (i := 3) (d := 28) (v := ?_) rfl rfl (by kernel_rfl) (by kernel_rfl) (by kernel_rfl) (fun _ _ _ h => h) (Or.inl ⟨by rfl, ?y3⟩) hH1 ?_
  case y3 => intro w hSw; go_simp; try with_reducible rfl
  try simp only [Act.put, List.setIfInBounds_toArray, List.set_cons_zero, List.set_cons_succ]
  refine takeH (i := 4) (d := 29) (v := ?_) rfl rfl (by kernel_rfl) (by kernel_rfl) (by kernel_rfl) (fun _ _ _ h => h) (Or.inl ⟨by rfl, ?y4⟩) hH1 ?_
  case y4 => intro w hSw; go_simp; try with_reducible rfl
  try simp only [Act.put, List.setIfInBounds_toArray, List.set_cons_zero, List.set_cons_succ]
  refine takeH (i := 5) (d := 30) (v := ?_) rfl rfl (by kernel_rfl) (by kernel_rfl) (by kernel_rfl) (fun _ _ _ h => h) (Or.inl ⟨by rfl, ?y5⟩) hH1 ?_
  case y5 => intro w hSw; go_simp; try with_reducible rfl
  try simp only [Act.put, List.setIfInBounds_toArray, List.set_cons_zero, List.set_cons_succ]
  refine takeH (i := 6) (d := 31) (v := ?_) rfl rfl (by kernel_rfl) (by kernel_rfl) (by kernel_rfl) (fun _ _ _ h => h) (Or.inl ⟨by rfl, ?y6⟩) hH1 ?_
  case y6 => intro w hSw; go_simp; try with_reducible rfl
  try simp only [Act.put, List.setIfInBounds_toArray, List.set_cons_zero, List.set_cons_succ]
  refine takeH (i := 7) (d := 32) (v := ?_) rfl rfl (by kernel_rfl) (by kernel_rfl) (by kernel_rfl) (fun _ _ _ h => h) (Or.inl ⟨by rfl, ?y7⟩) hH1 ?_
  case y7 => intro w hSw; go_simp; try with_reducible rfl
  try simp only [Act.put, List.setIfInBounds_toArray, List.set_cons_zero, List.set_cons_succ]
  refine takeH (i := 8) (d := 33) (v := ?_) rfl rfl (by kernel_rfl) (by kernel_rfl) (by kernel_rfl) (fun _ _ _ h => h) (Or.inl ⟨by rfl, ?y8⟩) hH1 ?_
  case y8 => intro w hSw; go_simp; try with_reducible rfl
  try simp only [Act.put, List.setIfInBounds_toArray, List.set_cons_zero, List.set_cons_succ]
  refine takeH (i := 9) (d := 34) (v := ?_) rfl rfl (by kernel_rfl) (by kernel_rfl) (by kernel_rfl) (fun _ _ _ h => h) (Or.inl ⟨by rfl, ?y9⟩) hH1 ?_
  case y9 => intro w hSw; go_simp; try with_reducible rfl
  try simp only [Act.put, List.setIfInBounds_toArray, List.set_cons_zero, List.set_cons_succ]
  refine takeH (i := 10) (d := 35) (v := ?_) rfl rfl (by kernel_rfl) (by kernel_rfl) (by kernel_rfl) (fun _ _ _ h => h) (Or.inl ⟨by rfl, ?y10⟩) hH1 ?_
  case y10 => intro w hSw; go_simp; try with_reducible rfl
  try simp only [Act.put, List.setIfInBounds_toArray, List.set_cons_zero, List.set_cons_succ]
  refine takeH (i := 11) (d := 36) (v := ?_) rfl rfl (by kernel_rfl) (by kernel_rfl) (by kernel_rfl) (fun _ _ _ h => h) (Or.inl ⟨by rfl, ?y11⟩) hH1 ?_
  case y11 => intro w hSw; go_simp; try with_reducible rfl
  try simp only [Act.put, List.setIfInBounds_toArray, List.set_cons_zero, List.set_cons_succ]
  refine takeH (i := 12) (d := 37) (v := ?_) rfl rfl (by kernel_rfl) (by kernel_rfl) (by kernel_rfl) (fun _ _ _ h => h) (Or.inl ⟨by rfl, ?y12⟩) hH1 ?_
  case y12 => intro w hSw; go_simp; try with_reducible rfl
  try simp only [Act.put, List.setIfInBounds_toArray, List.set_cons_zero, List.set_cons_succ]
  refine takeH (i := 13) (d := 38) (v := ?_) rfl rfl (by kernel_rfl) (by kernel_rfl) (by kernel_rfl) (fun _ _ _ h => h) (Or.inl ⟨by rfl, ?y13⟩) hH1 ?_
  case y13 => intro w hSw; go_simp; try with_reducible rfl
  try simp only [Act.put, List.setIfInBounds_toArray, List.set_cons_zero, List.set_cons_succ]
  refine takeH (i := 14) (d := 39) (v := ?_) rfl rfl (by kernel_rfl) (by kernel_rfl) (by kernel_rfl) (fun _ _ _ h => h) (Or.inl ⟨by rfl, ?y14⟩) hH1 ?_
  case y14 => intro w hSw; go_simp; try with_reducible rfl
  try simp only [Act.put, List.setIfInBounds_toArray, List.set_cons_zero, List.set_cons_succ]
  refine takeH (i := 15) (d := 40) rfl rfl (by kernel_rfl) (by kernel_rfl) (by kernel_rfl) (fun _ _ _ h => h) (yieldsIf_row (by rfl) 27 _ rfl _ rfl 27 Hc (fun w h => run_loadVar_row w _ _ 27 Hc (0, 0) _ h Try.underlying27 rfl ZH.out.sz) (fun _ H => H.2.2.1)) hH1 ?_
  try simp only [Act.put, List.setIfInBounds_toArray, List.set_cons_zero, List.set_cons_succ]
  refine takeH (i := 17) (d := 42) rfl rfl (by kernel_rfl) (by kernel_rfl) (by kernel_rfl) (fun _ _ _ h => h) (yieldsIf_row (by rfl) 28 _ rfl _ rfl 28 L (fun w h => run_loadVar_row w _ _ 28 L (0, 0) _ h Try.underlying28 rfl ZL.out.sz) (fun _ H => H.2.2.2.1)) hH1 ?_
  try simp only [Act.put, List.setIfInBounds_toArray, List.set_cons_zero, List.set_cons_succ]
  refine takeH (i := 20) (d := 45) rfl rfl (by kernel_rfl) (by kernel_rfl) (by kernel_rfl) (fun _ _ _ h => h) (yieldsIf_row (by rfl) 27 _ rfl _ rfl 27 Hc (fun w h => run_loadVar_row w _ _ 27 Hc (0, 0) _ h Try.underlying27 rfl ZH.out.sz) (fun _ H => H.2.2.1)) hH1 ?_
  try simp only [Act.put, List.setIfInBounds_toArray, List.set_cons_zero, List.set_cons_succ]
  refine takeH (i := 21) (d := 46) rfl rfl (by kernel_rfl) (by kernel_rfl) (by kernel_rfl) (fun _ _ _ h => h) (yieldsIf_row (by rfl) 28 _ rfl _ rfl 28 L (fun w h => run_loadVar_row w _ _ 28 L (0, 0) _ h Try.underlying28 rfl ZL.out.sz) (fun _ H => H.2.2.2.1)) hH1 ?_
  try simp only [Act.put, List.setIfInBounds_toArray, List.set_cons_zero, List.set_cons_succ]
  refine wpAnyH_ready (rs := [16]) (by kernel_rfl) (by simp) ?_
  refine AllReadyH.cons rfl (fun K hK => ?_) AllReadyH.nil
  go_simp
  refine (HO.out _).mono ?_
  rintro e w' ⟨rfl, hb⟩
  go_wp2_with fail
  refine hK.out _ _ (keep_pl2 hb hH1) (fun hH2 => ?_)
  clear hK K hb hH1
  try simp only [Act.put, List.setIfInBounds_toArray, List.set_cons_zero, List.set_cons_succ]
  refine wpAnyH_ready (rs := [18]) (by kernel_rfl) (by simp) ?_
  refine AllReadyH.cons rfl (fun K hK => ?_) AllReadyH.nil
  go_simp
  refine (HM.out _).mono ?_
  rintro e w' ⟨rfl, hb⟩
  go_wp2_with fail
  refine hK.out _ _ (keep_pl2 hb hH2) (fun hH3 => ?_)
  clear hK K hb hH2
  try simp only [Act.put, List.setIfInBounds_toArray, List.set_cons_zero, List.set_cons_succ]
  refine wpAnyH_ready (rs := [19]) (by kernel_rfl) (by simp) ?_
  refine AllReadyH.cons rfl (fun K hK => ?_) AllReadyH.nil
  go_simp
  refine (HW.out _).mono ?_
  rintro e w' ⟨rfl, hb⟩
  go_wp2_with fail
  refine hK.out _ _ (keep_pl2 hb hH3) (fun hH4 => ?_)
  clear hK K hb hH3
  try simp only [Act.put, List.setIfInBounds_toArray, List.set_cons_zero, List.set_cons_succ]
  refine wpAnyH_ready (rs := [22]) (by kernel_rfl) (by simp) ?_
  refine AllReadyH.cons rfl (fun K hK => ?_) AllReadyH.nil
  go_simp
  refine (HV.out _).mono ?_
  rintro e w' ⟨rfl, hb⟩
  go_wp2_with fail
  refine hK.out _ _ (keep_pl2 hb hH4) (fun hH5 => ?_)
  clear hK K hb hH4
  try simp only [Act.put, List.setIfInBounds_toArray, List.set_cons_zero, List.set_cons_succ]
  refine wpAnyH_ready (rs := [23]) (by kernel_rfl) (by simp) ?_
  refine AllReadyH.cons rfl (fun K hK => ?_) AllReadyH.nil
  go_simp
  refine (HO2.out _).mono ?_
  rintro e w' ⟨rfl, hb⟩
  go_wp2_with fail
  refine hK.out _ _ (keep_pl2 hb hH5) (fun hH6 => ?_)
  clear hK K hb hH5
  try simp only [Act.put, List.setIfInBounds_toArray, List.set_cons_zero, List.set_cons_succ]
  refine takeH (i := 24) (d := 49) (v := ?_) rfl rfl (by kernel_rfl) (by kernel_rfl) (by kernel_rfl) (fun _ _ _ h => h) (Or.inl ⟨by rfl, ?y24⟩) hH6 ?_
  case y24 => intro w hSw; go_simp; try with_reducible rfl
  try simp only [Act.put, List.setIfInBounds_toArray, List.set_cons_zero, List.set_cons_succ]
  refine takeH (i := 25) (d := 50) (v := ?_) rfl rfl (by kernel_rfl) (by kernel_rfl) (by kernel_rfl) (fun _ _ _ h => h) (Or.inl ⟨by rfl, ?y25⟩) hH6 ?_
  case y25 => intro w hSw; go_simp; try with_reducible rfl
  try simp only [Act.put, List.setIfInBounds_toArray, List.set_cons_zero, List.set_cons_succ]
  refine takeH (i := 26) (d := 51) (v := ?_) rfl rfl (by kernel_rfl) (by kernel_rfl) (by kernel_rfl) (fun _ _ _ h => h) (Or.inl ⟨by rfl, ?y26⟩) hH6 ?_
  case y26 => intro w hSw; go_simp; try with_reducible rfl
  try simp only [Act.put, List.setIfInBounds_toArray, List.set_cons_zero, List.set_cons_succ]
  refine wpAnyH_ready (rs := [27]) (by kernel_rfl) (by simp) ?_
  refine AllReadyH.cons rfl (fun K hK => ?_) AllReadyH.nil
  go_simp
  refine (HA.out _).mono ?_
  rintro e w' ⟨rfl, hb⟩
  go_wp2_with fail
  refine hK.out _ _ (keep_pl2 hb hH6) (fun hH7 => ?_)
  clear hK K hb hH6
  try simp only [Act.put, List.setIfInBounds_toArray, List.set_cons_zero, List.set_cons_succ]
  refine takeH (i := 28) (d := 53) (v := ?_) rfl rfl (by kernel_rfl) (by kernel_rfl) (by kernel_rfl) (fun _ _ _ h => h) (Or.inl ⟨by rfl, ?y28⟩) hH7 ?_
  case y28 => intro w hSw; go_simp; try with_reducible rfl
  try simp only [Act.put, List.setIfInBounds_toArray, List.set_cons_zero, List.set_cons_succ]
  refine takeH (i := 29) (d := 6) (v := ?_) rfl rfl (by kernel_rfl) (by kernel_rfl) (by kernel_rfl) (fun _ _ _ h => h) (Or.inl ⟨by rfl, ?y29⟩) hH7 ?_
  case y29 => intro w hSw; go_simp; try with_reducible rfl
  try simp only [Act.put, List.setIfInBounds_toArray, List.set_cons_zero, List.set_cons_succ]
  refine wpAnyH_done (by kernel_rfl) ?_ _
  go_wp2_with fail
  go_ret
  exact ⟨rfl, by rw [HG0.out]; exact hH7.2.2.2.2⟩
end Go.Proofs.Ytkhlkjhfgfjadaa
