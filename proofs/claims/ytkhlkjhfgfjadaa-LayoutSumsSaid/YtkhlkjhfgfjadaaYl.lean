/- LayoutSums: its walk. -/
import Derived.Test.YtkhlkjhfgfjadaaYj
namespace Go.Proofs.Ytkhlkjhfgfjadaa
open Go.RowKit
set_option maxRecDepth 100000
set_option linter.unusedVariables false
set_option linter.unusedSimpArgs false
set_option maxHeartbeats 8000000 in
theorem layoutsums_law (a b c d : Int) (w : World) (ha : U64 a) (hb : U64 b) (hc : U64 c) (hd : U64 d) : Calls Try.prog 6 #[.agg #[.int .u64 a, .int .u64 b, .int .u64 c, .int .u64 d]] w fun e w' => e = .returned (.bool true) ∧ Below w.heap.size w w' := by
  have HA := Lib.hid awake15_any
  have hss := fun w => same_sec4 zeroSc w
  simp only [sArr, zeroSc] at hss
  have hes := fun a b c d w => eq_sec a b c d w 9998
  have a0 := ha.1
  have b0 := hb.1
  have c0 := hc.1
  have d0 := hd.1
  by_cases qa : a ≤ 1099511627776
  case neg =>
    have HS : Hid (secsN a b c d = ⟨zeroSc, 0, 8⟩) := Lib.hid (by unfold secsN; rw [if_pos (by unfold tooBig; omega)])
    go_enter Try.func6, Try.ntmps6
    go_wp2_with fail
    have HB0 := Lib.hid ((Below.refl w.heap.size w).alloc (Nat.le_refl _) (.cells #[.int .u64 a, .int .u64 b, .int .u64 c, .int .u64 d] 23))
    have HN0 := Lib.hid (heap_new15 w (.cells #[.int .u64 a, .int .u64 b, .int .u64 c, .int .u64 d] 23))
    have HZ0 : Hid (w.heap.size < (w.alloc (.cells #[.int .u64 a, .int .u64 b, .int .u64 c, .int .u64 d] 23)).heap.size) := Lib.hid (by simp)
    generalize w.alloc (.cells #[.int .u64 a, .int .u64 b, .int .u64 c, .int .u64 d] 23) = W0 at *
    refine (sections15_any a b c d _ ha hb hc hd).mono ?_
    rintro e w1 ⟨rfl, hb1⟩
    rw [HS.out]
    simp only [sArr, zeroSc]
    have HB1 := Lib.hid (HB0.out.trans (hb1.mono HB0.out.size))
    have HN1 := Lib.hid ((hb1.block _ HZ0.out).trans HN0.out)
    have HZ1 : Hid (w.heap.size < w1.heap.size) := Lib.hid (Nat.lt_of_lt_of_le HZ0.out hb1.size)
    clear hb1 HB0 HN0 HZ0
    go_wp2_with fail
    have HB2 := Lib.hid (HB1.out.alloc HB1.out.size (.cells #[.int .u64 0, .int .u64 0, .int .u64 0, .int .u64 0, .int .u64 0, .int .u64 0, .int .u64 0, .int .u64 0] 30))
    have n2 := (heap_alloc_old (o := .cells #[.int .u64 0, .int .u64 0, .int .u64 0, .int .u64 0, .int .u64 0, .int .u64 0, .int .u64 0, .int .u64 0] 30) HZ1.out).trans HN1.out
    have l2 := heap_new15 w1 (.cells #[.int .u64 0, .int .u64 0, .int .u64 0, .int .u64 0, .int .u64 0, .int .u64 0, .int .u64 0, .int .u64 0] 30)
    generalize (w1.alloc (.cells #[.int .u64 0, .int .u64 0, .int .u64 0, .int .u64 0, .int .u64 0, .int .u64 0, .int .u64 0, .int .u64 0] 30)) = W2 at *
    have n0 := cell_blk n2 0
    have n1 := cell_blk n2 1
    have n2' := cell_blk n2 2
    have n3 := cell_blk n2 3
    have l0' := cell_blk l2 0
    have l1' := cell_blk l2 1
    have l2' := cell_blk l2 2
    have l3' := cell_blk l2 3
    have l4' := cell_blk l2 4
    have l5' := cell_blk l2 5
    have l6' := cell_blk l2 6
    have l7' := cell_blk l2 7
    clear n2 l2
    simp at n0 n1 n2' n3 l0' l1' l2' l3' l4' l5' l6' l7'
    generalize w1.heap.size = g1 at *
    refine wp_loop_rounds 5 ?_
    rw [rounds_succ]
    go_wp2_with fail
    rw [rounds_succ]
    go_wp2_with fail
    rw [rounds_succ]
    go_wp2_with fail
    rw [rounds_succ]
    go_wp2_with fail
    rw [rounds_succ]
    go_wp2_with fail
    refine (HA.out _).mono ?_
    rintro e w3 ⟨rfl, hb3⟩
    have HB3 := Lib.hid (HB2.out.trans (hb3.mono HB2.out.size))
    clear hb3
    go_wp2_with fail
    go_ret
    exact ⟨rfl, HB3.out⟩
  by_cases qb : b ≤ 1099511627776
  case neg =>
    have w1 : IntKind.u64.wrap (127 + a) = 127 + a := by rw [IntKind.wrap_u64]; omega
    have HS : Hid (secsN a b c d = ⟨zeroSc, 0, 8⟩) := Lib.hid (by unfold secsN; rw [if_pos (by unfold tooBig; omega)])
    go_enter Try.func6, Try.ntmps6
    go_wp2_with fail
    have HB0 := Lib.hid ((Below.refl w.heap.size w).alloc (Nat.le_refl _) (.cells #[.int .u64 a, .int .u64 b, .int .u64 c, .int .u64 d] 23))
    have HN0 := Lib.hid (heap_new15 w (.cells #[.int .u64 a, .int .u64 b, .int .u64 c, .int .u64 d] 23))
    have HZ0 : Hid (w.heap.size < (w.alloc (.cells #[.int .u64 a, .int .u64 b, .int .u64 c, .int .u64 d] 23)).heap.size) := Lib.hid (by simp)
    generalize w.alloc (.cells #[.int .u64 a, .int .u64 b, .int .u64 c, .int .u64 d] 23) = W0 at *
    refine (sections15_any a b c d _ ha hb hc hd).mono ?_
    rintro e w1 ⟨rfl, hb1⟩
    rw [HS.out]
    simp only [sArr, zeroSc]
    have HB1 := Lib.hid (HB0.out.trans (hb1.mono HB0.out.size))
    have HN1 := Lib.hid ((hb1.block _ HZ0.out).trans HN0.out)
    have HZ1 : Hid (w.heap.size < w1.heap.size) := Lib.hid (Nat.lt_of_lt_of_le HZ0.out hb1.size)
    clear hb1 HB0 HN0 HZ0
    go_wp2_with fail
    have HB2 := Lib.hid (HB1.out.alloc HB1.out.size (.cells #[.int .u64 0, .int .u64 0, .int .u64 0, .int .u64 0, .int .u64 0, .int .u64 0, .int .u64 0, .int .u64 0] 30))
    have n2 := (heap_alloc_old (o := .cells #[.int .u64 0, .int .u64 0, .int .u64 0, .int .u64 0, .int .u64 0, .int .u64 0, .int .u64 0, .int .u64 0] 30) HZ1.out).trans HN1.out
    have l2 := heap_new15 w1 (.cells #[.int .u64 0, .int .u64 0, .int .u64 0, .int .u64 0, .int .u64 0, .int .u64 0, .int .u64 0, .int .u64 0] 30)
    generalize (w1.alloc (.cells #[.int .u64 0, .int .u64 0, .int .u64 0, .int .u64 0, .int .u64 0, .int .u64 0, .int .u64 0, .int .u64 0] 30)) = W2 at *
    have n0 := cell_blk n2 0
    have n1 := cell_blk n2 1
    have n2' := cell_blk n2 2
    have n3 := cell_blk n2 3
    have l0' := cell_blk l2 0
    have l1' := cell_blk l2 1
    have l2' := cell_blk l2 2
    have l3' := cell_blk l2 3
    have l4' := cell_blk l2 4
    have l5' := cell_blk l2 5
    have l6' := cell_blk l2 6
    have l7' := cell_blk l2 7
    clear n2 l2
    simp at n0 n1 n2' n3 l0' l1' l2' l3' l4' l5' l6' l7'
    generalize w1.heap.size = g1 at *
    refine wp_loop_rounds 5 ?_
    rw [rounds_succ]
    go_wp2_with fail
    rw [rounds_succ]
    go_wp2_with fail
    rw [rounds_succ]
    go_wp2_with fail
    rw [rounds_succ]
    go_wp2_with fail
    rw [rounds_succ]
    go_wp2_with fail
    refine (HA.out _).mono ?_
    rintro e w3 ⟨rfl, hb3⟩
    have HB3 := Lib.hid (HB2.out.trans (hb3.mono HB2.out.size))
    clear hb3
    go_wp2_with fail
    go_ret
    exact ⟨rfl, HB3.out⟩
  by_cases qc : c ≤ 1099511627776
  case neg =>
    have w1 : IntKind.u64.wrap (127 + a) = 127 + a := by rw [IntKind.wrap_u64]; omega
    have w2 : IntKind.u64.wrap (127 + a + b) = 127 + a + b := by rw [IntKind.wrap_u64]; omega
    have HS : Hid (secsN a b c d = ⟨zeroSc, 0, 8⟩) := Lib.hid (by unfold secsN; rw [if_pos (by unfold tooBig; omega)])
    go_enter Try.func6, Try.ntmps6
    go_wp2_with fail
    have HB0 := Lib.hid ((Below.refl w.heap.size w).alloc (Nat.le_refl _) (.cells #[.int .u64 a, .int .u64 b, .int .u64 c, .int .u64 d] 23))
    have HN0 := Lib.hid (heap_new15 w (.cells #[.int .u64 a, .int .u64 b, .int .u64 c, .int .u64 d] 23))
    have HZ0 : Hid (w.heap.size < (w.alloc (.cells #[.int .u64 a, .int .u64 b, .int .u64 c, .int .u64 d] 23)).heap.size) := Lib.hid (by simp)
    generalize w.alloc (.cells #[.int .u64 a, .int .u64 b, .int .u64 c, .int .u64 d] 23) = W0 at *
    refine (sections15_any a b c d _ ha hb hc hd).mono ?_
    rintro e w1 ⟨rfl, hb1⟩
    rw [HS.out]
    simp only [sArr, zeroSc]
    have HB1 := Lib.hid (HB0.out.trans (hb1.mono HB0.out.size))
    have HN1 := Lib.hid ((hb1.block _ HZ0.out).trans HN0.out)
    have HZ1 : Hid (w.heap.size < w1.heap.size) := Lib.hid (Nat.lt_of_lt_of_le HZ0.out hb1.size)
    clear hb1 HB0 HN0 HZ0
    go_wp2_with fail
    have HB2 := Lib.hid (HB1.out.alloc HB1.out.size (.cells #[.int .u64 0, .int .u64 0, .int .u64 0, .int .u64 0, .int .u64 0, .int .u64 0, .int .u64 0, .int .u64 0] 30))
    have n2 := (heap_alloc_old (o := .cells #[.int .u64 0, .int .u64 0, .int .u64 0, .int .u64 0, .int .u64 0, .int .u64 0, .int .u64 0, .int .u64 0] 30) HZ1.out).trans HN1.out
    have l2 := heap_new15 w1 (.cells #[.int .u64 0, .int .u64 0, .int .u64 0, .int .u64 0, .int .u64 0, .int .u64 0, .int .u64 0, .int .u64 0] 30)
    generalize (w1.alloc (.cells #[.int .u64 0, .int .u64 0, .int .u64 0, .int .u64 0, .int .u64 0, .int .u64 0, .int .u64 0, .int .u64 0] 30)) = W2 at *
    have n0 := cell_blk n2 0
    have n1 := cell_blk n2 1
    have n2' := cell_blk n2 2
    have n3 := cell_blk n2 3
    have l0' := cell_blk l2 0
    have l1' := cell_blk l2 1
    have l2' := cell_blk l2 2
    have l3' := cell_blk l2 3
    have l4' := cell_blk l2 4
    have l5' := cell_blk l2 5
    have l6' := cell_blk l2 6
    have l7' := cell_blk l2 7
    clear n2 l2
    simp at n0 n1 n2' n3 l0' l1' l2' l3' l4' l5' l6' l7'
    generalize w1.heap.size = g1 at *
    refine wp_loop_rounds 5 ?_
    rw [rounds_succ]
    go_wp2_with fail
    rw [rounds_succ]
    go_wp2_with fail
    rw [rounds_succ]
    go_wp2_with fail
    rw [rounds_succ]
    go_wp2_with fail
    rw [rounds_succ]
    go_wp2_with fail
    refine (HA.out _).mono ?_
    rintro e w3 ⟨rfl, hb3⟩
    have HB3 := Lib.hid (HB2.out.trans (hb3.mono HB2.out.size))
    clear hb3
    go_wp2_with fail
    go_ret
    exact ⟨rfl, HB3.out⟩
  by_cases qd : d ≤ 1099511627776
  case neg =>
    have w1 : IntKind.u64.wrap (127 + a) = 127 + a := by rw [IntKind.wrap_u64]; omega
    have w2 : IntKind.u64.wrap (127 + a + b) = 127 + a + b := by rw [IntKind.wrap_u64]; omega
    have w3 : IntKind.u64.wrap (127 + a + b + c) = 127 + a + b + c := by rw [IntKind.wrap_u64]; omega
    have HS : Hid (secsN a b c d = ⟨zeroSc, 0, 8⟩) := Lib.hid (by unfold secsN; rw [if_pos (by unfold tooBig; omega)])
    go_enter Try.func6, Try.ntmps6
    go_wp2_with fail
    have HB0 := Lib.hid ((Below.refl w.heap.size w).alloc (Nat.le_refl _) (.cells #[.int .u64 a, .int .u64 b, .int .u64 c, .int .u64 d] 23))
    have HN0 := Lib.hid (heap_new15 w (.cells #[.int .u64 a, .int .u64 b, .int .u64 c, .int .u64 d] 23))
    have HZ0 : Hid (w.heap.size < (w.alloc (.cells #[.int .u64 a, .int .u64 b, .int .u64 c, .int .u64 d] 23)).heap.size) := Lib.hid (by simp)
    generalize w.alloc (.cells #[.int .u64 a, .int .u64 b, .int .u64 c, .int .u64 d] 23) = W0 at *
    refine (sections15_any a b c d _ ha hb hc hd).mono ?_
    rintro e w1 ⟨rfl, hb1⟩
    rw [HS.out]
    simp only [sArr, zeroSc]
    have HB1 := Lib.hid (HB0.out.trans (hb1.mono HB0.out.size))
    have HN1 := Lib.hid ((hb1.block _ HZ0.out).trans HN0.out)
    have HZ1 : Hid (w.heap.size < w1.heap.size) := Lib.hid (Nat.lt_of_lt_of_le HZ0.out hb1.size)
    clear hb1 HB0 HN0 HZ0
    go_wp2_with fail
    have HB2 := Lib.hid (HB1.out.alloc HB1.out.size (.cells #[.int .u64 0, .int .u64 0, .int .u64 0, .int .u64 0, .int .u64 0, .int .u64 0, .int .u64 0, .int .u64 0] 30))
    have n2 := (heap_alloc_old (o := .cells #[.int .u64 0, .int .u64 0, .int .u64 0, .int .u64 0, .int .u64 0, .int .u64 0, .int .u64 0, .int .u64 0] 30) HZ1.out).trans HN1.out
    have l2 := heap_new15 w1 (.cells #[.int .u64 0, .int .u64 0, .int .u64 0, .int .u64 0, .int .u64 0, .int .u64 0, .int .u64 0, .int .u64 0] 30)
    generalize (w1.alloc (.cells #[.int .u64 0, .int .u64 0, .int .u64 0, .int .u64 0, .int .u64 0, .int .u64 0, .int .u64 0, .int .u64 0] 30)) = W2 at *
    have n0 := cell_blk n2 0
    have n1 := cell_blk n2 1
    have n2' := cell_blk n2 2
    have n3 := cell_blk n2 3
    have l0' := cell_blk l2 0
    have l1' := cell_blk l2 1
    have l2' := cell_blk l2 2
    have l3' := cell_blk l2 3
    have l4' := cell_blk l2 4
    have l5' := cell_blk l2 5
    have l6' := cell_blk l2 6
    have l7' := cell_blk l2 7
    clear n2 l2
    simp at n0 n1 n2' n3 l0' l1' l2' l3' l4' l5' l6' l7'
    generalize w1.heap.size = g1 at *
    refine wp_loop_rounds 5 ?_
    rw [rounds_succ]
    go_wp2_with fail
    rw [rounds_succ]
    go_wp2_with fail
    rw [rounds_succ]
    go_wp2_with fail
    rw [rounds_succ]
    go_wp2_with fail
    rw [rounds_succ]
    go_wp2_with fail
    refine (HA.out _).mono ?_
    rintro e w3 ⟨rfl, hb3⟩
    have HB3 := Lib.hid (HB2.out.trans (hb3.mono HB2.out.size))
    clear hb3
    go_wp2_with fail
    go_ret
    exact ⟨rfl, HB3.out⟩
  have w1 : IntKind.u64.wrap (127 + a) = 127 + a := by rw [IntKind.wrap_u64]; omega
  have w2 : IntKind.u64.wrap (127 + a + b) = 127 + a + b := by rw [IntKind.wrap_u64]; omega
  have w3 : IntKind.u64.wrap (127 + a + b + c) = 127 + a + b + c := by rw [IntKind.wrap_u64]; omega
  have w4 : IntKind.u64.wrap (127 + a + b + c + d) = 127 + a + b + c + d := by rw [IntKind.wrap_u64]; omega
  by_cases hs : 127 + a + b + c + d ≤ 1099511627776
  case neg =>
    have HS : Hid (secsN a b c d = ⟨zeroSc, 0, 8⟩) := Lib.hid (by unfold secsN; rw [if_pos (by unfold tooBig; omega)])
    go_enter Try.func6, Try.ntmps6
    go_wp2_with fail
    have HB0 := Lib.hid ((Below.refl w.heap.size w).alloc (Nat.le_refl _) (.cells #[.int .u64 a, .int .u64 b, .int .u64 c, .int .u64 d] 23))
    have HN0 := Lib.hid (heap_new15 w (.cells #[.int .u64 a, .int .u64 b, .int .u64 c, .int .u64 d] 23))
    have HZ0 : Hid (w.heap.size < (w.alloc (.cells #[.int .u64 a, .int .u64 b, .int .u64 c, .int .u64 d] 23)).heap.size) := Lib.hid (by simp)
    generalize w.alloc (.cells #[.int .u64 a, .int .u64 b, .int .u64 c, .int .u64 d] 23) = W0 at *
    refine (sections15_any a b c d _ ha hb hc hd).mono ?_
    rintro e w1 ⟨rfl, hb1⟩
    rw [HS.out]
    simp only [sArr, zeroSc]
    have HB1 := Lib.hid (HB0.out.trans (hb1.mono HB0.out.size))
    have HN1 := Lib.hid ((hb1.block _ HZ0.out).trans HN0.out)
    have HZ1 : Hid (w.heap.size < w1.heap.size) := Lib.hid (Nat.lt_of_lt_of_le HZ0.out hb1.size)
    clear hb1 HB0 HN0 HZ0
    go_wp2_with fail
    have HB2 := Lib.hid (HB1.out.alloc HB1.out.size (.cells #[.int .u64 0, .int .u64 0, .int .u64 0, .int .u64 0, .int .u64 0, .int .u64 0, .int .u64 0, .int .u64 0] 30))
    have n2 := (heap_alloc_old (o := .cells #[.int .u64 0, .int .u64 0, .int .u64 0, .int .u64 0, .int .u64 0, .int .u64 0, .int .u64 0, .int .u64 0] 30) HZ1.out).trans HN1.out
    have l2 := heap_new15 w1 (.cells #[.int .u64 0, .int .u64 0, .int .u64 0, .int .u64 0, .int .u64 0, .int .u64 0, .int .u64 0, .int .u64 0] 30)
    generalize (w1.alloc (.cells #[.int .u64 0, .int .u64 0, .int .u64 0, .int .u64 0, .int .u64 0, .int .u64 0, .int .u64 0, .int .u64 0] 30)) = W2 at *
    have n0 := cell_blk n2 0
    have n1 := cell_blk n2 1
    have n2' := cell_blk n2 2
    have n3 := cell_blk n2 3
    have l0' := cell_blk l2 0
    have l1' := cell_blk l2 1
    have l2' := cell_blk l2 2
    have l3' := cell_blk l2 3
    have l4' := cell_blk l2 4
    have l5' := cell_blk l2 5
    have l6' := cell_blk l2 6
    have l7' := cell_blk l2 7
    clear n2 l2
    simp at n0 n1 n2' n3 l0' l1' l2' l3' l4' l5' l6' l7'
    generalize w1.heap.size = g1 at *
    refine wp_loop_rounds 5 ?_
    rw [rounds_succ]
    go_wp2_with fail
    rw [rounds_succ]
    go_wp2_with fail
    rw [rounds_succ]
    go_wp2_with fail
    rw [rounds_succ]
    go_wp2_with fail
    rw [rounds_succ]
    go_wp2_with fail
    refine (HA.out _).mono ?_
    rintro e w3 ⟨rfl, hb3⟩
    have HB3 := Lib.hid (HB2.out.trans (hb3.mono HB2.out.size))
    clear hb3
    go_wp2_with fail
    go_ret
    exact ⟨rfl, HB3.out⟩
  have HS : Hid (secsN a b c d = ⟨⟨127, a, 127 + a, b, 127 + a + b, c, 127 + a + b + c, d⟩, 127 + a + b + c + d, 0⟩) := Lib.hid (by unfold secsN; rw [if_neg (by unfold tooBig; omega)])
  go_enter Try.func6, Try.ntmps6
  go_wp2_with fail
  have HB0 := Lib.hid ((Below.refl w.heap.size w).alloc (Nat.le_refl _) (.cells #[.int .u64 a, .int .u64 b, .int .u64 c, .int .u64 d] 23))
  have HN0 := Lib.hid (heap_new15 w (.cells #[.int .u64 a, .int .u64 b, .int .u64 c, .int .u64 d] 23))
  have HZ0 : Hid (w.heap.size < (w.alloc (.cells #[.int .u64 a, .int .u64 b, .int .u64 c, .int .u64 d] 23)).heap.size) := Lib.hid (by simp)
  generalize w.alloc (.cells #[.int .u64 a, .int .u64 b, .int .u64 c, .int .u64 d] 23) = W0 at *
  refine (sections15_any a b c d _ ha hb hc hd).mono ?_
  rintro e w1 ⟨rfl, hb1⟩
  rw [HS.out]
  simp only [sArr, zeroSc]
  have HB1 := Lib.hid (HB0.out.trans (hb1.mono HB0.out.size))
  have HN1 := Lib.hid ((hb1.block _ HZ0.out).trans HN0.out)
  have HZ1 : Hid (w.heap.size < w1.heap.size) := Lib.hid (Nat.lt_of_lt_of_le HZ0.out hb1.size)
  clear hb1 HB0 HN0 HZ0
  go_wp2_with fail
  have HB2 := Lib.hid (HB1.out.alloc HB1.out.size (.cells #[.int .u64 127, .int .u64 a, .int .u64 (127 + a), .int .u64 b, .int .u64 (127 + a + b), .int .u64 c, .int .u64 (127 + a + b + c), .int .u64 d] 30))
  have n2 := (heap_alloc_old (o := .cells #[.int .u64 127, .int .u64 a, .int .u64 (127 + a), .int .u64 b, .int .u64 (127 + a + b), .int .u64 c, .int .u64 (127 + a + b + c), .int .u64 d] 30) HZ1.out).trans HN1.out
  have l2 := heap_new15 w1 (.cells #[.int .u64 127, .int .u64 a, .int .u64 (127 + a), .int .u64 b, .int .u64 (127 + a + b), .int .u64 c, .int .u64 (127 + a + b + c), .int .u64 d] 30)
  generalize (w1.alloc (.cells #[.int .u64 127, .int .u64 a, .int .u64 (127 + a), .int .u64 b, .int .u64 (127 + a + b), .int .u64 c, .int .u64 (127 + a + b + c), .int .u64 d] 30)) = W2 at *
  have n0 := cell_blk n2 0
  have n1 := cell_blk n2 1
  have n2' := cell_blk n2 2
  have n3 := cell_blk n2 3
  have l0' := cell_blk l2 0
  have l1' := cell_blk l2 1
  have l2' := cell_blk l2 2
  have l3' := cell_blk l2 3
  have l4' := cell_blk l2 4
  have l5' := cell_blk l2 5
  have l6' := cell_blk l2 6
  have l7' := cell_blk l2 7
  clear n2 l2
  simp at n0 n1 n2' n3 l0' l1' l2' l3' l4' l5' l6' l7'
  generalize w1.heap.size = g1 at *
  refine wp_loop_rounds 5 ?_
  rw [rounds_succ]
  go_wp2_with fail
  rw [rounds_succ]
  go_wp2_with fail
  rw [rounds_succ]
  go_wp2_with fail
  rw [rounds_succ]
  go_wp2_with fail
  rw [rounds_succ]
  go_wp2_with fail
  refine wp_loop_rounds 5 ?_
  rw [rounds_succ]
  go_wp2_with fail
  go_quiet (fail)
  go_wp2_with fail
  rw [rounds_succ]
  go_wp2_with fail
  go_quiet (fail)
  go_wp2_with fail
  rw [rounds_succ]
  go_wp2_with fail
  go_quiet (fail)
  go_wp2_with fail
  rw [rounds_succ]
  go_wp2_with fail
  go_quiet (fail)
  go_wp2_with fail
  rw [rounds_succ]
  go_wp2_with fail
  have HBn : Hid (∀ n, Below w.heap.size w (W2.drewN n)) := Lib.hid (fun n => HB2.out.trans ⟨rfl, rfl, rfl, Nat.le_refl _, fun _ _ => rfl⟩)
  refine (HA.out _).mono ?_
  rintro e w3 ⟨rfl, hb3⟩
  have HB3 := Lib.hid ((HBn.out _).trans (hb3.mono (HBn.out _).size))
  clear hb3
  go_wp2_with fail
  go_ret
  exact ⟨rfl, HB3.out⟩
end Go.Proofs.Ytkhlkjhfgfjadaa
