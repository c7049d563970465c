/- awake. -/
import Derived.Test.YtmmjdlpoiibhaaaLw
namespace Go.Proofs.Ytmmjdlpoiibhaaa
open Go.RowKit
set_option maxRecDepth 20000
set_option linter.unusedVariables false
set_option linter.unusedSimpArgs false
theorem its_two (w : World) (x y : Nat) (s t : ByteArray) (T : TypeId) : ItsAt (w.alloc (.cells #[.int .u64 x, .string s, .int .u64 y, .string t] T)) (.slice (some ⟨w.heap.size, 0, none⟩) 2 2) [(x, s), (y, t)] := by
  refine ⟨_, 2, rfl, Nat.le_refl _, by unfold maxLen; omega, fun k u hu => ⟨w.heap.size, 0, rfl, by simp, ?_⟩⟩
  match k, hu with
  | 0, hu => simp only [List.getElem?_cons_zero, Option.some.injEq] at hu; subst hu; exact ⟨by simp [go_sem], by simp [go_sem]⟩
  | 1, hu => simp only [List.getElem?_cons_succ, List.getElem?_cons_zero, Option.some.injEq] at hu; subst hu; exact ⟨by simp [go_sem], by simp [go_sem]⟩
  | k + 2, hu => simp at hu
/-- Two charts that awake holds. -/
structure AwC (w W : World) (gc gd : Nat) (sc sd : Value) : Prop where
  c1 : One W gc sc
  c2 : ChS W sc [(5, kB)]
  d1 : One W gd sd
  d2 : ChS W sd [(0, kA), (5, kB)]
  bel : Below w.heap.size w W
theorem AwC.below {w W X : World} {gc gd : Nat} {sc sd : Value} (h : AwC w W gc gd sc sd) (hb : Below W.heap.size W X) : AwC w X gc gd sc sd := ⟨h.c1.below hb, h.c2.below hb, h.d1.below hb, h.d2.below hb, h.bel.trans (hb.mono h.bel.size)⟩
theorem eq_it0 (T : TypeId) (w : World) (hT : T = 52) : (Op.equalIn 10000 T (.agg #[.int .u64 0, .string { data := #[97] }]) (.agg #[.int .u64 0, .string { data := #[97] }])).run Try.prog w = .ok true w := by
  subst hT
  have hS : Try.prog.underlying 52 = some (.struct (Try.prog.fieldsOf 52)) := by kernel_rfl
  rw [show (10000 : Nat) = 9999 + 1 from rfl, run_equalIn_agg w 9999 _ _ _ hS (by kernel_rfl)]
  simp only [Program.fieldsOf, Try.underlying52]
  go_simp
set_option maxRecDepth 20000 in
set_option maxHeartbeats 4000000 in
theorem awakeC_any (w : World) : Calls Try.prog 8 #[] w fun e w' => e = .returned (.bool true) ∧ Below w.heap.size w w' := by
  have b0 := below_one w (.cells #[.slice none 0 0] 26)
  go_enter Try.func8, Try.ntmps8
  go_wp2_with fail
  refine (aw1 _).mono ?_
  rintro e w1 ⟨s1, rfl, hc1, hb1⟩
  obtain ⟨a1, n1, p1, rfl⟩ := hc1.form
  have HB1 := Lib.hid (b0.trans (hb1.mono b0.size))
  have HC1 := Lib.hid hc1
  clear b0 hb1 hc1
  go_wp2_with fail
  have h1 := below_one w1 (.cells #[.slice a1 n1 p1] 26)
  have HC2 := Lib.hid (And.intro (one_new w1 (.slice a1 n1 p1) 26) (And.intro (HC1.out.below h1) (HB1.out.trans (h1.mono HB1.out.size))))
  clear h1 HB1 HC1
  generalize w1.alloc (.cells #[.slice a1 n1 p1] 26) = W1 at *
  generalize w1.heap.size = gc at *
  refine (aw2 _ _ HC2.out.2.1).mono ?_
  rintro e w2 ⟨s2, rfl, hd2, hb2⟩
  obtain ⟨a2, n2, p2, rfl⟩ := hd2.form
  have h2 := below_one w2 (.cells #[.slice a2 n2 p2] 26)
  have hx := hb2.trans (h2.mono hb2.size)
  have HAW := Lib.hid (show AwC w _ gc w2.heap.size _ _ from ⟨HC2.out.1.below hx, HC2.out.2.1.below hx, one_new w2 (.slice a2 n2 p2) 26, hd2.below h2, HC2.out.2.2.trans (hx.mono HC2.out.2.2.size)⟩)
  have q1 := HAW.out.c1.cell
  have q2 := (HC2.out.1.below hb2).cell
  clear hd2 hb2 h2 hx HC2
  go_wp2_with fail
  generalize w2.alloc (.cells #[.slice a2 n2 p2] 26) = W2 at *
  generalize w2.heap.size = gd at *
  refine (aw3 _ _ HAW.out.c2).mono ?_
  rintro e w3 ⟨s3, l3, rfl, hc3, hb3⟩
  obtain ⟨a3, n3, p3, rfl⟩ := hc3.form
  have h3 := hb3.trans ((below_one w3 (.cells #[.slice a3 n3 p3] 26)).mono hb3.size)
  have HAW3 := Lib.hid (HAW.out.below h3)
  clear hc3 hb3 h3 HAW q1 q2
  go_wp2_with fail
  have hz3 : (w3.alloc (.cells #[.slice a3 n3 p3] 26)).heap.size = w3.heap.size + 1 := by simp
  generalize w3.alloc (.cells #[.slice a3 n3 p3] 26) = W3 at *
  have hi4 := its_two W3 1 1 kX kY 52
  rw [hz3] at hi4
  have HAW4 := Lib.hid (HAW3.out.below (below_one W3 (.cells #[.int .u64 1, .string kX, .int .u64 1, .string kY] 52)))
  refine (aw4 _ _ hi4).mono ?_
  rintro e w4 ⟨s4, l4, rfl, hc4, hb4⟩
  obtain ⟨a4, n4, p4, rfl⟩ := hc4.form
  have h4 := hb4.trans ((below_one w4 (.cells #[.slice a4 n4 p4] 26)).mono hb4.size)
  have HAW5 := Lib.hid (HAW4.out.below h4)
  have q1 := HAW5.out.d1.cell
  have q0 := (HAW4.out.below hb4).d1.cell
  clear hc4 hb4 h4 HAW3 HAW4 hi4
  go_wp2_with fail
  generalize w4.alloc (.cells #[.slice a4 n4 p4] 26) = W4 at *
  refine (aw5 _ _ HAW5.out.d2).mono ?_
  rintro e w5 ⟨rfl, hb5⟩
  have HAW6 := Lib.hid (HAW5.out.below hb5)
  have q2 := HAW6.out.d1.cell
  clear hb5 HAW5 q1 q0
  go_wp2_with fail
  refine (aw6 _ _ HAW6.out.d2).mono ?_
  rintro e w6 ⟨s6, rfl, hc6, hb6⟩
  obtain ⟨a6, n6, p6, rfl⟩ := hc6.form
  have HAW7 := Lib.hid (HAW6.out.below hb6)
  have HC6 := Lib.hid hc6
  clear hb6 hc6 HAW6 q2
  go_wp2_with fail
  refine (aw7 _ _ HC6.out).mono ?_
  rintro e w7 ⟨rfl, hb7⟩
  have HAW8 := Lib.hid (HAW7.out.below hb7)
  have q2 := HAW8.out.d1.cell
  clear hb7 HC6 HAW7
  go_wp2_with fail
  refine (aw8 _ _ HAW8.out.d2).mono ?_
  rintro e w8 ⟨rfl, hb8⟩
  have HAW9 := Lib.hid (HAW8.out.below hb8)
  have q3 := HAW9.out.d1.cell
  clear hb8 HAW8 q2
  go_wp2_with fail
  refine (aw9 _ _ HAW9.out.d2).mono ?_
  rintro e w9 ⟨g, o, cp, rfl, hg, e0, e1, hb9⟩
  have HAW10 := Lib.hid (HAW9.out.below hb9)
  have q2 := HAW10.out.c1.cell
  have hq := fun W => eq_it0 _ W rfl
  have hse : (({ data := #[98] } : ByteArray).toList == ({ data := #[98] } : ByteArray).toList) = true := str_yes rfl
  clear hb9 HAW9 q3
  go_wp2_with fail
  refine (aw10 _ _ HAW10.out.c2).mono ?_
  rintro e w10 ⟨rfl, hb10⟩
  have HAW11 := Lib.hid (HAW10.out.below hb10)
  have q3 := HAW11.out.d1.cell
  clear hb10 HAW10 q2 e0 e1 hq
  go_wp2_with fail
  refine (aw11 _ _ HAW11.out.d2).mono ?_
  rintro e w11 ⟨rfl, hb11⟩
  have HAW12 := Lib.hid (HAW11.out.below hb11)
  have q2 := HAW12.out.c1.cell
  have q4 := HAW12.out.d1.cell
  clear hb11 HAW11 q3
  go_wp2_with fail
  refine (aw12 _ _ _ HAW12.out.c2 HAW12.out.d2).mono ?_
  rintro e w12 ⟨rfl, hb12⟩
  have HAW13 := Lib.hid (HAW12.out.below hb12)
  have q3 := HAW13.out.d1.cell
  clear hb12 HAW12 q2 q4
  go_wp2_with fail
  refine (aw13 _ _ HAW13.out.d2).mono ?_
  rintro e w13 ⟨rfl, hb13⟩
  have HAW14 := Lib.hid (HAW13.out.below hb13)
  have q4 := HAW14.out.d1.cell
  clear hb13 HAW13 q3
  go_wp2_with fail
  refine (aw14 _ _ HAW14.out.d2).mono ?_
  rintro e w14 ⟨ge, lbe, rfl, hb14⟩
  have HAW15 := Lib.hid (HAW14.out.below hb14)
  have hfn := fun W => fnC_neq ge lbe W
  clear hb14 HAW14 q4
  go_wp2_with fail
  go_ret
  exact ⟨rfl, HAW15.out.bel⟩
end Go.Proofs.Ytmmjdlpoiibhaaa
