/- The contract of awake: what every right program tells of some rectangles. -/
import Derived.Test.YthlekifagidijaaDoorPo
import Derived.Test.YthlekifagidijaaDoorPu
namespace Go.Proofs.YthlekifagidijaaDoor
open Go.RowKit
set_option linter.unusedVariables false
set_option linter.unusedSimpArgs false
theorem way_one : wayL 2 0 0 3 0 = [(5, 6), (19, 20)] := by decide
theorem uni_one : uni [(5, 6), (9, 8)] [(1, 4), (8, 8)] = [(1, 6), (8, 8)] := by decide
/-- A literal of two intervals. -/
theorem lit_at (w : World) (a b c d : Int) (T : TypeId) : SpansAt (w.alloc (.cells #[.int .u64 a, .int .u64 b, .int .u64 c, .int .u64 d] T)) (.slice (some ⟨w.heap.size, 0, none⟩) 2 2) [(a, b), (c, d)] := by
  refine ⟨_, 2, rfl, by simp, by unfold maxLen; omega, fun k t ht => ⟨w.heap.size, 0, rfl, by simp, ?_⟩⟩
  match k, ht with
  | 0, ht => simp only [List.getElem?_cons_zero, Option.some.injEq] at ht; subst ht; exact ⟨by simp [go_sem], by simp [go_sem]⟩
  | 1, ht => simp only [List.getElem?_cons_succ, List.getElem?_cons_zero, Option.some.injEq] at ht; subst ht; exact ⟨by simp [go_sem], by simp [go_sem]⟩
  | k + 2, ht => simp at ht
set_option maxHeartbeats 2000000 in
set_option maxRecDepth 20000 in
theorem awake_any (w : World) (hq : QTab w) : Calls Tryd.prog 14 #[] w fun e w' => e = .returned (.bool true) ∧ Below w.heap.size w w' := by
  have h1 := fun w hq => spans_in 2 9 0 0 3 0 (by omega) (by omega) (by omega) (by decide) w hq
  have h2 := fun w hq => spans_in 2 1 0 0 3 0 (by omega) (by omega) (by omega) (by decide) w hq
  have h3 := fun w => spans_no 1 0 0 2 0 1 8 (by decide) (by omega) w
  have h5 := fun w => size_any 2 0 0 3 0 w
  have h6 := fun w => check_any 27 0 0 0 0 w
  rw [way_one, show spL [(5, 6), (19, 20)] (9 : Nat) = [(5, 6), (19, 20)] from by decide, show spE [(5, 6), (19, 20)] (9 : Nat) = 0 from by decide] at h1
  rw [way_one, show spL [(5, 6), (19, 20)] (1 : Nat) = [] from by decide, show spE [(5, 6), (19, 20)] (1 : Nat) = 21 from by decide] at h2
  rw [show szV 2 0 0 3 0 = 4 from by decide] at h5
  rw [show ckE 27 0 0 0 0 = 2 from by decide] at h6
  have h4 := fun v1 v2 w a b => union_any v1 v2 [(5, 6), (9, 8)] [(1, 4), (8, 8)] w a b (by intro t ht; simp at ht; rcases ht with rfl | rfl <;> simp) (by intro t ht; simp at ht; rcases ht with rfl | rfl <;> simp) (by simp)
  rw [uni_one] at h4
  have h7 := fun v w hv => in_any v [(1, 6), (8, 8)] 8 w hv (by simp)
  have h8 := fun v w hv => in_any v [(1, 6), (8, 8)] 7 w hv (by simp)
  have h9 := fun v w hv => total_any v [(1, 6), (8, 8)] w hv (by intro t ht; simp at ht; rcases ht with rfl | rfl <;> simp) (by simp)
  rw [show memB [(1, 6), (8, 8)] 8 = true from by decide] at h7
  rw [show memB [(1, 6), (8, 8)] 7 = false from by decide] at h8
  rw [show tot [(1, 6), (8, 8)] % 18446744073709551616 = 7 from by decide] at h9
  have H1 := Lib.hid h1; clear h1
  have H2 := Lib.hid h2; clear h2
  have H3 := Lib.hid h3; clear h3
  have H4 := Lib.hid h4; clear h4
  have H5 := Lib.hid h5; clear h5
  have H6 := Lib.hid h6; clear h6
  have H7 := Lib.hid h7; clear h7
  have H8 := Lib.hid h8; clear h8
  have H9 := Lib.hid h9; clear h9
  have HQ := Lib.hid hq
  clear hq
  go_enter Tryd.func14, Tryd.ntmps14
  go_wp2_with fail
  refine (H1.out _ HQ.out).mono ?_
  rintro e w1 ⟨v1, rfl, hv1, hb⟩
  go_wp2_with fail
  refine (H2.out _ (HQ.out.below hb)).mono ?_
  rintro e w2 ⟨v2, rfl, hv2, hb2⟩
  replace hv1 := hv1.below hb2
  replace hb := hb.trans (hb2.mono hb.size)
  clear hb2 hv2
  go_wp2_with fail
  refine (H3.out _).mono ?_
  rintro e w3 ⟨v3, rfl, hv3, hb3⟩
  replace hv1 := hv1.below hb3
  replace hb := hb.trans (hb3.mono hb.size)
  clear hb3 hv3
  have k1 := lit_at w3 5 6 9 8 54
  have g1 := (Below.refl w3.heap.size w3).alloc (Nat.le_refl _) (.cells #[.int .u64 5, .int .u64 6, .int .u64 9, .int .u64 8] 54)
  have k2 := lit_at (w3.alloc (.cells #[.int .u64 5, .int .u64 6, .int .u64 9, .int .u64 8] 54)) 1 4 8 8 54
  have g2 := (Below.refl (w3.alloc (.cells #[.int .u64 5, .int .u64 6, .int .u64 9, .int .u64 8] 54)).heap.size (w3.alloc (.cells #[.int .u64 5, .int .u64 6, .int .u64 9, .int .u64 8] 54))).alloc (Nat.le_refl _) (.cells #[.int .u64 1, .int .u64 4, .int .u64 8, .int .u64 8] 54)
  have H4' := Lib.hid (H4.out _ _ _ (k1.below g2) k2)
  replace g1 := g1.trans (g2.mono (by simp))
  replace hv1 := hv1.below g1
  replace hb := hb.trans (g1.mono hb.size)
  rw [World.size_alloc] at H4'
  clear k1 k2 g1 g2
  go_wp2_with fail
  refine H4'.out.mono ?_
  rintro e w4 ⟨v4, rfl, hv4, hb4⟩
  replace hv1 := hv1.below hb4
  replace hb := hb.trans (hb4.mono hb.size)
  have HV1 := Lib.hid hv1
  have HV4 := Lib.hid hv4
  obtain ⟨a1, cap1, rfl, _, _, hc1⟩ := hv1
  obtain ⟨g, off, rfl, hg, l0, l1⟩ := hc1 0 (5, 6) rfl
  obtain ⟨_, _, e1, _, l2, l3⟩ := hc1 1 (19, 20) rfl
  obtain ⟨a4, cap4, rfl, _, _, hc4⟩ := hv4
  obtain ⟨g4, off4, rfl, hg4, m0, m1⟩ := hc4 0 (1, 6) rfl
  obtain ⟨_, _, e4, _, m2, m3⟩ := hc4 1 (8, 8) rfl
  injection e1 with e1; injection e1 with e1 e2 _; subst e1 e2
  injection e4 with e4; injection e4 with e1 e2 _; subst e1 e2
  simp only [List.length_cons, List.length_nil, Nat.reduceMul, Nat.reduceAdd, Nat.zero_add, Nat.zero_mul, Nat.add_zero, Nat.one_mul] at l0 l1 l2 l3 m0 m1 m2 m3 HV1 HV4 ⊢
  clear hc1 hc4 hb4
  go_wp2_with fail
  refine (H7.out _ _ HV4.out).mono ?_
  rintro e w5 ⟨rfl, hb5⟩
  replace HV4 := Lib.hid (HV4.out.below hb5)
  replace hb := hb.trans (hb5.mono hb.size)
  clear hb5 l0 l1 l2 l3 m0 m1 m2 m3 H1 H2 H3 H4 H4' HV1
  go_wp2_with fail
  refine (H8.out _ _ HV4.out).mono ?_
  rintro e w6 ⟨rfl, hb5⟩
  replace HV4 := Lib.hid (HV4.out.below hb5)
  replace hb := hb.trans (hb5.mono hb.size)
  clear hb5
  go_wp2_with fail
  refine (H9.out _ _ HV4.out).mono ?_
  rintro e w7 ⟨rfl, hb5⟩
  replace hb := hb.trans (hb5.mono hb.size)
  clear hb5
  go_wp2_with fail
  refine (H5.out _).mono ?_
  rintro e w8 ⟨rfl, hb5⟩
  replace hb := hb.trans (hb5.mono hb.size)
  clear hb5
  go_wp2_with fail
  refine (H6.out _).mono ?_
  rintro e w9 ⟨rfl, hb5⟩
  replace hb := hb.trans (hb5.mono hb.size)
  clear hb5
  go_wp2_with fail
  go_ret
  exact ⟨rfl, hb⟩
end Go.Proofs.YthlekifagidijaaDoor
