/- LayoutGlues: its walk. -/
import Derived.Test.YtkhlkjhfgfjadaaYj
import Derived.Test.YtkhlkjhfgfjadaaYr
namespace Go.Proofs.Ytkhlkjhfgfjadaa
open Go.RowKit
set_option maxRecDepth 100000
set_option linter.unusedVariables false
set_option linter.unusedSimpArgs false
theorem str_same15 (s : ByteArray) : (s.toList == s.toList) = true := by simp
theorem keep_g1 {w w' w1 : World} {g0 : Nat} {Hc P : Array Value} (hb : Below w'.heap.size w' w1) (h : w'.heap[g0]? = some (.cells Hc 27 (0, 0)) ∧ w'.heap[g0 + 1]? = some (.cells P 44 (0, 0)) ∧ Below g0 w w') : w1.heap[g0]? = some (.cells Hc 27 (0, 0)) ∧ w1.heap[g0 + 1]? = some (.cells P 44 (0, 0)) ∧ Below g0 w w1 :=
  ⟨hk_later hb h.1, hk_later hb h.2.1, h.2.2.trans (hb.mono (Nat.le_of_lt (Array.getElem?_eq_some_iff.1 h.1).1))⟩
theorem keep_g2 {w w' w1 : World} {g0 g4 g5 : Nat} {X Q : Array Value} (hb : Below w'.heap.size w' w1) (h : w'.heap[g4]? = some (.cells X 38 (0, 0)) ∧ w'.heap[g4 + 1]? = some (.cells Q 44 (0, 0)) ∧ w'.heap[g5]? = some (.cells X 27 (0, 0)) ∧ w'.heap[g5 + 1]? = some (.cells Q 44 (0, 0)) ∧ Below g0 w w' ∧ g0 ≤ w'.heap.size) : w1.heap[g4]? = some (.cells X 38 (0, 0)) ∧ w1.heap[g4 + 1]? = some (.cells Q 44 (0, 0)) ∧ w1.heap[g5]? = some (.cells X 27 (0, 0)) ∧ w1.heap[g5 + 1]? = some (.cells Q 44 (0, 0)) ∧ Below g0 w w1 ∧ g0 ≤ w1.heap.size :=
  ⟨hk_later hb h.1, hk_later hb h.2.1, hk_later hb h.2.2.1, hk_later hb h.2.2.2.1, h.2.2.2.2.1.trans (hb.mono h.2.2.2.2.2), Nat.le_trans h.2.2.2.2.2 hb.size⟩
theorem glues_long0 (h : Hd) (p : Pt) (s : ByteArray) (w : World) (hm : MayH h)  (l0 : 300 < p.p0.size) : Calls Try.prog 4 #[.agg (cH h), .agg (pArr p), .string s] w fun e w' => e = .returned (.bool true) ∧ Below w.heap.size w w' := by
  have HA := Lib.hid awake15_any
  obtain ⟨p0, p1, p2, p3⟩ := p
  dsimp only at l0
  have q0 : (pArr ⟨p0, p1, p2, p3⟩)[0]? = some (.string p0) := rfl
  have q1 : (pArr ⟨p0, p1, p2, p3⟩)[1]? = some (.string p1) := rfl
  have q2 : (pArr ⟨p0, p1, p2, p3⟩)[2]? = some (.string p2) := rfl
  have q3 : (pArr ⟨p0, p1, p2, p3⟩)[3]? = some (.string p3) := rfl
  generalize cH h = Hc at *
  generalize pArr ⟨p0, p1, p2, p3⟩ = P at *
  have d0 : decide (300 < (p0.size : Int)) = true := by simp; omega
  obtain ⟨W0, hW0⟩ : ∃ W0, (w.alloc (.cells Hc 27)).alloc (.cells P 44) = W0 := ⟨_, rfl⟩
  have HH0 : Hid (W0.heap[w.heap.size]? = some (.cells Hc 27 (0, 0))) := Lib.hid (by rw [← hW0]; exact (heap_alloc_old (by simp)).trans (heap_new15 w _))
  have HP0 : Hid (W0.heap[w.heap.size + 1]? = some (.cells P 44 (0, 0))) := Lib.hid (by
    have := heap_new15 (w.alloc (.cells Hc 27)) (.cells P 44)
    rw [World.size_alloc] at this
    rw [← hW0]
    exact this)
  have HB0 : Hid (Below w.heap.size w W0) := Lib.hid (by rw [← hW0]; exact ((Below.refl _ w).alloc (Nat.le_refl _) _).alloc (by simp) _)
  have s0 := (cell_blk HP0.out 0).trans q0
  have s1 := (cell_blk HP0.out 1).trans q1
  have s2 := (cell_blk HP0.out 2).trans q2
  have s3 := (cell_blk HP0.out 3).trans q3
  clear q0 q1 q2 q3
  go_enter Try.func4, Try.ntmps4
  go_upto_region 1 with fail
  try rw [hW0]
  clear hW0
  go_wp2_with fail
  refine wp_loop_rounds 5 ?_
  rw [rounds_succ]
  go_wp2_with fail
  refine (HA.out _).mono ?_
  rintro e w1 ⟨rfl, hb1⟩
  have HB1 := Lib.hid (HB0.out.trans (hb1.mono HB0.out.size))
  clear hb1
  go_wp2_with fail
  go_ret
  exact ⟨rfl, HB1.out⟩
theorem glues_long1 (h : Hd) (p : Pt) (s : ByteArray) (w : World) (hm : MayH h) (l0 : p.p0.size ≤ 300) (l1 : 300 < p.p1.size) : Calls Try.prog 4 #[.agg (cH h), .agg (pArr p), .string s] w fun e w' => e = .returned (.bool true) ∧ Below w.heap.size w w' := by
  have HA := Lib.hid awake15_any
  obtain ⟨p0, p1, p2, p3⟩ := p
  dsimp only at l0 l1
  have q0 : (pArr ⟨p0, p1, p2, p3⟩)[0]? = some (.string p0) := rfl
  have q1 : (pArr ⟨p0, p1, p2, p3⟩)[1]? = some (.string p1) := rfl
  have q2 : (pArr ⟨p0, p1, p2, p3⟩)[2]? = some (.string p2) := rfl
  have q3 : (pArr ⟨p0, p1, p2, p3⟩)[3]? = some (.string p3) := rfl
  generalize cH h = Hc at *
  generalize pArr ⟨p0, p1, p2, p3⟩ = P at *
  have d0 : decide (300 < (p0.size : Int)) = false := by simp; omega
  have d1 : decide (300 < (p1.size : Int)) = true := by simp; omega
  obtain ⟨W0, hW0⟩ : ∃ W0, (w.alloc (.cells Hc 27)).alloc (.cells P 44) = W0 := ⟨_, rfl⟩
  have HH0 : Hid (W0.heap[w.heap.size]? = some (.cells Hc 27 (0, 0))) := Lib.hid (by rw [← hW0]; exact (heap_alloc_old (by simp)).trans (heap_new15 w _))
  have HP0 : Hid (W0.heap[w.heap.size + 1]? = some (.cells P 44 (0, 0))) := Lib.hid (by
    have := heap_new15 (w.alloc (.cells Hc 27)) (.cells P 44)
    rw [World.size_alloc] at this
    rw [← hW0]
    exact this)
  have HB0 : Hid (Below w.heap.size w W0) := Lib.hid (by rw [← hW0]; exact ((Below.refl _ w).alloc (Nat.le_refl _) _).alloc (by simp) _)
  have s0 := (cell_blk HP0.out 0).trans q0
  have s1 := (cell_blk HP0.out 1).trans q1
  have s2 := (cell_blk HP0.out 2).trans q2
  have s3 := (cell_blk HP0.out 3).trans q3
  clear q0 q1 q2 q3
  go_enter Try.func4, Try.ntmps4
  go_upto_region 1 with fail
  try rw [hW0]
  clear hW0
  go_wp2_with fail
  refine wp_loop_rounds 5 ?_
  rw [rounds_succ]
  go_wp2_with fail
  rw [rounds_succ]
  go_wp2_with fail
  refine (HA.out _).mono ?_
  rintro e w1 ⟨rfl, hb1⟩
  have HB1 := Lib.hid (HB0.out.trans (hb1.mono HB0.out.size))
  clear hb1
  go_wp2_with fail
  go_ret
  exact ⟨rfl, HB1.out⟩
theorem glues_long2 (h : Hd) (p : Pt) (s : ByteArray) (w : World) (hm : MayH h) (l0 : p.p0.size ≤ 300) (l1 : p.p1.size ≤ 300) (l2 : 300 < p.p2.size) : Calls Try.prog 4 #[.agg (cH h), .agg (pArr p), .string s] w fun e w' => e = .returned (.bool true) ∧ Below w.heap.size w w' := by
  have HA := Lib.hid awake15_any
  obtain ⟨p0, p1, p2, p3⟩ := p
  dsimp only at l0 l1 l2
  have q0 : (pArr ⟨p0, p1, p2, p3⟩)[0]? = some (.string p0) := rfl
  have q1 : (pArr ⟨p0, p1, p2, p3⟩)[1]? = some (.string p1) := rfl
  have q2 : (pArr ⟨p0, p1, p2, p3⟩)[2]? = some (.string p2) := rfl
  have q3 : (pArr ⟨p0, p1, p2, p3⟩)[3]? = some (.string p3) := rfl
  generalize cH h = Hc at *
  generalize pArr ⟨p0, p1, p2, p3⟩ = P at *
  have d0 : decide (300 < (p0.size : Int)) = false := by simp; omega
  have d1 : decide (300 < (p1.size : Int)) = false := by simp; omega
  have d2 : decide (300 < (p2.size : Int)) = true := by simp; omega
  obtain ⟨W0, hW0⟩ : ∃ W0, (w.alloc (.cells Hc 27)).alloc (.cells P 44) = W0 := ⟨_, rfl⟩
  have HH0 : Hid (W0.heap[w.heap.size]? = some (.cells Hc 27 (0, 0))) := Lib.hid (by rw [← hW0]; exact (heap_alloc_old (by simp)).trans (heap_new15 w _))
  have HP0 : Hid (W0.heap[w.heap.size + 1]? = some (.cells P 44 (0, 0))) := Lib.hid (by
    have := heap_new15 (w.alloc (.cells Hc 27)) (.cells P 44)
    rw [World.size_alloc] at this
    rw [← hW0]
    exact this)
  have HB0 : Hid (Below w.heap.size w W0) := Lib.hid (by rw [← hW0]; exact ((Below.refl _ w).alloc (Nat.le_refl _) _).alloc (by simp) _)
  have s0 := (cell_blk HP0.out 0).trans q0
  have s1 := (cell_blk HP0.out 1).trans q1
  have s2 := (cell_blk HP0.out 2).trans q2
  have s3 := (cell_blk HP0.out 3).trans q3
  clear q0 q1 q2 q3
  go_enter Try.func4, Try.ntmps4
  go_upto_region 1 with fail
  try rw [hW0]
  clear hW0
  go_wp2_with fail
  refine wp_loop_rounds 5 ?_
  rw [rounds_succ]
  go_wp2_with fail
  rw [rounds_succ]
  go_wp2_with fail
  rw [rounds_succ]
  go_wp2_with fail
  refine (HA.out _).mono ?_
  rintro e w1 ⟨rfl, hb1⟩
  have HB1 := Lib.hid (HB0.out.trans (hb1.mono HB0.out.size))
  clear hb1
  go_wp2_with fail
  go_ret
  exact ⟨rfl, HB1.out⟩
theorem glues_long3 (h : Hd) (p : Pt) (s : ByteArray) (w : World) (hm : MayH h) (l0 : p.p0.size ≤ 300) (l1 : p.p1.size ≤ 300) (l2 : p.p2.size ≤ 300) (l3 : 300 < p.p3.size) : Calls Try.prog 4 #[.agg (cH h), .agg (pArr p), .string s] w fun e w' => e = .returned (.bool true) ∧ Below w.heap.size w w' := by
  have HA := Lib.hid awake15_any
  obtain ⟨p0, p1, p2, p3⟩ := p
  dsimp only at l0 l1 l2 l3
  have q0 : (pArr ⟨p0, p1, p2, p3⟩)[0]? = some (.string p0) := rfl
  have q1 : (pArr ⟨p0, p1, p2, p3⟩)[1]? = some (.string p1) := rfl
  have q2 : (pArr ⟨p0, p1, p2, p3⟩)[2]? = some (.string p2) := rfl
  have q3 : (pArr ⟨p0, p1, p2, p3⟩)[3]? = some (.string p3) := rfl
  generalize cH h = Hc at *
  generalize pArr ⟨p0, p1, p2, p3⟩ = P at *
  have d0 : decide (300 < (p0.size : Int)) = false := by simp; omega
  have d1 : decide (300 < (p1.size : Int)) = false := by simp; omega
  have d2 : decide (300 < (p2.size : Int)) = false := by simp; omega
  have d3 : decide (300 < (p3.size : Int)) = true := by simp; omega
  obtain ⟨W0, hW0⟩ : ∃ W0, (w.alloc (.cells Hc 27)).alloc (.cells P 44) = W0 := ⟨_, rfl⟩
  have HH0 : Hid (W0.heap[w.heap.size]? = some (.cells Hc 27 (0, 0))) := Lib.hid (by rw [← hW0]; exact (heap_alloc_old (by simp)).trans (heap_new15 w _))
  have HP0 : Hid (W0.heap[w.heap.size + 1]? = some (.cells P 44 (0, 0))) := Lib.hid (by
    have := heap_new15 (w.alloc (.cells Hc 27)) (.cells P 44)
    rw [World.size_alloc] at this
    rw [← hW0]
    exact this)
  have HB0 : Hid (Below w.heap.size w W0) := Lib.hid (by rw [← hW0]; exact ((Below.refl _ w).alloc (Nat.le_refl _) _).alloc (by simp) _)
  have s0 := (cell_blk HP0.out 0).trans q0
  have s1 := (cell_blk HP0.out 1).trans q1
  have s2 := (cell_blk HP0.out 2).trans q2
  have s3 := (cell_blk HP0.out 3).trans q3
  clear q0 q1 q2 q3
  go_enter Try.func4, Try.ntmps4
  go_upto_region 1 with fail
  try rw [hW0]
  clear hW0
  go_wp2_with fail
  refine wp_loop_rounds 5 ?_
  rw [rounds_succ]
  go_wp2_with fail
  rw [rounds_succ]
  go_wp2_with fail
  rw [rounds_succ]
  go_wp2_with fail
  rw [rounds_succ]
  go_wp2_with fail
  refine (HA.out _).mono ?_
  rintro e w1 ⟨rfl, hb1⟩
  have HB1 := Lib.hid (HB0.out.trans (hb1.mono HB0.out.size))
  clear hb1
  go_wp2_with fail
  go_ret
  exact ⟨rfl, HB1.out⟩
theorem glues_longs (h : Hd) (p : Pt) (s : ByteArray) (w : World) (hm : MayH h) (l0 : p.p0.size ≤ 300) (l1 : p.p1.size ≤ 300) (l2 : p.p2.size ≤ 300) (l3 : p.p3.size ≤ 300) (hl : 1500 < s.size) : Calls Try.prog 4 #[.agg (cH h), .agg (pArr p), .string s] w fun e w' => e = .returned (.bool true) ∧ Below w.heap.size w w' := by
  have HA := Lib.hid awake15_any
  obtain ⟨p0, p1, p2, p3⟩ := p
  dsimp only at l0 l1 l2 l3
  have q0 : (pArr ⟨p0, p1, p2, p3⟩)[0]? = some (.string p0) := rfl
  have q1 : (pArr ⟨p0, p1, p2, p3⟩)[1]? = some (.string p1) := rfl
  have q2 : (pArr ⟨p0, p1, p2, p3⟩)[2]? = some (.string p2) := rfl
  have q3 : (pArr ⟨p0, p1, p2, p3⟩)[3]? = some (.string p3) := rfl
  generalize cH h = Hc at *
  generalize pArr ⟨p0, p1, p2, p3⟩ = P at *
  have d0 : decide (300 < (p0.size : Int)) = false := by simp; omega
  have d1 : decide (300 < (p1.size : Int)) = false := by simp; omega
  have d2 : decide (300 < (p2.size : Int)) = false := by simp; omega
  have d3 : decide (300 < (p3.size : Int)) = false := by simp; omega
  have d4 : decide (1500 < (s.size : Int)) = true := by simp; omega
  obtain ⟨W0, hW0⟩ : ∃ W0, (w.alloc (.cells Hc 27)).alloc (.cells P 44) = W0 := ⟨_, rfl⟩
  have HH0 : Hid (W0.heap[w.heap.size]? = some (.cells Hc 27 (0, 0))) := Lib.hid (by rw [← hW0]; exact (heap_alloc_old (by simp)).trans (heap_new15 w _))
  have HP0 : Hid (W0.heap[w.heap.size + 1]? = some (.cells P 44 (0, 0))) := Lib.hid (by
    have := heap_new15 (w.alloc (.cells Hc 27)) (.cells P 44)
    rw [World.size_alloc] at this
    rw [← hW0]
    exact this)
  have HB0 : Hid (Below w.heap.size w W0) := Lib.hid (by rw [← hW0]; exact ((Below.refl _ w).alloc (Nat.le_refl _) _).alloc (by simp) _)
  have s0 := (cell_blk HP0.out 0).trans q0
  have s1 := (cell_blk HP0.out 1).trans q1
  have s2 := (cell_blk HP0.out 2).trans q2
  have s3 := (cell_blk HP0.out 3).trans q3
  clear q0 q1 q2 q3
  go_enter Try.func4, Try.ntmps4
  go_upto_region 1 with fail
  try rw [hW0]
  clear hW0
  go_wp2_with fail
  refine wp_loop_rounds 5 ?_
  rw [rounds_succ]
  go_wp2_with fail
  rw [rounds_succ]
  go_wp2_with fail
  rw [rounds_succ]
  go_wp2_with fail
  rw [rounds_succ]
  go_wp2_with fail
  rw [rounds_succ]
  go_wp2_with fail
  refine (HA.out _).mono ?_
  rintro e w1 ⟨rfl, hb1⟩
  have HB1 := Lib.hid (HB0.out.trans (hb1.mono HB0.out.size))
  clear hb1
  go_wp2_with fail
  go_ret
  exact ⟨rfl, HB1.out⟩
set_option maxHeartbeats 4000000 in
theorem glues_walk (h : Hd) (p : Pt) (s : ByteArray) (w : World) (hm : MayH h) (l0 : p.p0.size ≤ 300) (l1 : p.p1.size ≤ 300) (l2 : p.p2.size ≤ 300) (l3 : p.p3.size ≤ 300) (hl : s.size ≤ 1500) : Calls Try.prog 4 #[.agg (cH h), .agg (pArr p), .string s] w fun e w' => e = .returned (.bool true) ∧ Below w.heap.size w w' := by
  have hg := fun w => glue15_any h p w hm ⟨l0, l1, l2, l3⟩
  have hr := fun w => rglue_any h p w hm ⟨l0, l1, l2, l3⟩
  have hct := fun w => cut15_any s w (by omega)
  have hrc := fun w => rcut15_any s w (by omega)
  have hO := fun w => own_any h w
  have zH := ar_rhead h
  have zP := ar_str p
  unfold CutEnd at hct hrc
  generalize cutN s = C at *
  obtain ⟨ch, cp, ce⟩ := C
  dsimp only at hct hrc
  have hO2 := fun w => own_any ch w
  have hee := fun w => eq_head ch ch w
  simp only [decide_true] at hee
  have hss : ∀ w, (Op.equalIn 10000 44 (.agg (pArr cp)) (.agg (pArr cp))).run Try.prog w = .ok true w := fun w => same_str4 cp.p0 cp.p1 cp.p2 cp.p3 w
  have zX := ar_head ch
  have zY := ar_rhead ch
  have zQ := ar_str cp
  generalize (glueN h p).1 = G at *
  generalize (glueN h p).2 = ge at *
  have hse := str_same15 G
  generalize cH ch = X at *
  generalize pArr cp = Q at *
  have HA := Lib.hid awake15_any
  obtain ⟨p0, p1, p2, p3⟩ := p
  dsimp only at l0 l1 l2 l3
  have q0 : (pArr ⟨p0, p1, p2, p3⟩)[0]? = some (.string p0) := rfl
  have q1 : (pArr ⟨p0, p1, p2, p3⟩)[1]? = some (.string p1) := rfl
  have q2 : (pArr ⟨p0, p1, p2, p3⟩)[2]? = some (.string p2) := rfl
  have q3 : (pArr ⟨p0, p1, p2, p3⟩)[3]? = some (.string p3) := rfl
  generalize cH h = Hc at *
  generalize pArr ⟨p0, p1, p2, p3⟩ = P at *
  have d0 : decide (300 < (p0.size : Int)) = false := by simp; omega
  have d1 : decide (300 < (p1.size : Int)) = false := by simp; omega
  have d2 : decide (300 < (p2.size : Int)) = false := by simp; omega
  have d3 : decide (300 < (p3.size : Int)) = false := by simp; omega
  have d4 : decide (1500 < (s.size : Int)) = false := by simp; omega
  have HG := Lib.hid hg
  have HR := Lib.hid hr
  have HCT := Lib.hid hct
  have HRC := Lib.hid hrc
  have HO := Lib.hid hO
  have HO2 := Lib.hid hO2
  have ZH := Lib.hid zH
  have ZP := Lib.hid zP
  have ZX := Lib.hid zX
  have ZY := Lib.hid zY
  have ZQ := Lib.hid zQ
  clear hg hr hct hrc hO hO2 zH zP zX zY zQ l0 l1 l2 l3 hl hm
  obtain ⟨W0, hW0⟩ : ∃ W0, (w.alloc (.cells Hc 27)).alloc (.cells P 44) = W0 := ⟨_, rfl⟩
  have HH0 : Hid (W0.heap[w.heap.size]? = some (.cells Hc 27 (0, 0))) := Lib.hid (by rw [← hW0]; exact (heap_alloc_old (by simp)).trans (heap_new15 w _))
  have HP0 : Hid (W0.heap[w.heap.size + 1]? = some (.cells P 44 (0, 0))) := Lib.hid (by
    have := heap_new15 (w.alloc (.cells Hc 27)) (.cells P 44)
    rw [World.size_alloc] at this
    rw [← hW0]
    exact this)
  have HB0 : Hid (Below w.heap.size w W0) := Lib.hid (by rw [← hW0]; exact ((Below.refl _ w).alloc (Nat.le_refl _) _).alloc (by simp) _)
  have s0 := (cell_blk HP0.out 0).trans q0
  have s1 := (cell_blk HP0.out 1).trans q1
  have s2 := (cell_blk HP0.out 2).trans q2
  have s3 := (cell_blk HP0.out 3).trans q3
  clear q0 q1 q2 q3
  go_enter Try.func4, Try.ntmps4
  go_upto_region 1 with fail
  try rw [hW0]
  clear hW0
  go_wp2_with fail
  refine wp_loop_rounds 5 ?_
  rw [rounds_succ]
  go_wp2_with fail
  rw [rounds_succ]
  go_wp2_with fail
  rw [rounds_succ]
  go_wp2_with fail
  rw [rounds_succ]
  go_wp2_with fail
  rw [rounds_succ]
  go_upto_region 8 with fail
  clear s0 s1 s2 s3 d0 d1 d2 d3 d4
  generalize hg0 : w.heap.size = g0 at *
  have HG0 := Lib.hid hg0
  clear hg0
  have hS0 := keep_g1 (Below.drew (Below.refl _ _)) ⟨HH0.out, HP0.out, HB0.out⟩
  clear HH0 HP0 HB0
  refine wp_region_held_drew (S := fun w' => w'.heap[g0]? = some (.cells Hc 27 (0, 0)) ∧ w'.heap[g0 + 1]? = some (.cells P 44 (0, 0)) ∧ Below g0 w w') (by kernel_rfl) hS0 (fun hH0 => ?_)
  refine takeH (i := 0) (d := 33) rfl rfl (by kernel_rfl) (by kernel_rfl) (by kernel_rfl) (fun _ _ _ h => h) (yieldsIf_row (by rfl) 27 _ rfl _ rfl 27 Hc (fun w h => run_loadVar_row w _ _ 27 Hc (0, 0) _ h Try.underlying27 rfl ZH.out.sz) (fun _ H => H.1)) hH0 ?_
  try simp only [Act.put, List.setIfInBounds_toArray, List.set_cons_zero, List.set_cons_succ]
  refine takeH (i := 2) (d := 35) rfl rfl (by kernel_rfl) (by kernel_rfl) (by kernel_rfl) (fun _ _ _ h => h) (yieldsIf_row (by rfl) 44 _ rfl _ rfl 44 P (fun w h => run_loadVar_row w _ _ 44 P (0, 0) _ h Try.underlying44 rfl ZP.out.sz) (fun _ H => H.2.1)) hH0 ?_
  try simp only [Act.put, List.setIfInBounds_toArray, List.set_cons_zero, List.set_cons_succ]
  refine wpAnyH_ready (rs := [1]) (by kernel_rfl) (by simp) ?_
  refine AllReadyH.cons rfl (fun K hK => ?_) AllReadyH.nil
  go_simp
  refine (HO.out _).mono ?_
  rintro e w' ⟨rfl, hb⟩
  go_wp2_with fail
  refine hK.out _ _ (keep_g1 hb hH0) (fun hH1 => ?_)
  clear hK K hb hH0
  try simp only [Act.put, List.setIfInBounds_toArray, List.set_cons_zero, List.set_cons_succ]
  refine wpAnyH_ready (rs := [3]) (by kernel_rfl) (by simp) ?_
  refine AllReadyH.cons rfl (fun K hK => ?_) AllReadyH.nil
  go_simp
  refine (HG.out _).mono ?_
  rintro e w' ⟨rfl, hb⟩
  go_wp2_with fail
  refine hK.out _ _ (keep_g1 hb hH1) (fun hH2 => ?_)
  clear hK K hb hH1
  try simp only [Act.put, List.setIfInBounds_toArray, List.set_cons_zero, List.set_cons_succ]
  refine takeH (i := 4) (d := 32) (v := ?_) rfl rfl (by kernel_rfl) (by kernel_rfl) (by kernel_rfl) (fun _ _ _ h => h) (Or.inl ⟨by rfl, ?ya4⟩) hH2 ?_
  case ya4 => intro w hSw; go_simp; try with_reducible rfl
  try simp only [Act.put, List.setIfInBounds_toArray, List.set_cons_zero, List.set_cons_succ]
  refine takeH (i := 5) (d := 37) (v := ?_) rfl rfl (by kernel_rfl) (by kernel_rfl) (by kernel_rfl) (fun _ _ _ h => h) (Or.inl ⟨by rfl, ?ya5⟩) hH2 ?_
  case ya5 => intro w hSw; go_simp; try with_reducible rfl
  try simp only [Act.put, List.setIfInBounds_toArray, List.set_cons_zero, List.set_cons_succ]
  refine takeH (i := 6) (d := 38) (v := ?_) rfl rfl (by kernel_rfl) (by kernel_rfl) (by kernel_rfl) (fun _ _ _ h => h) (Or.inl ⟨by rfl, ?ya6⟩) hH2 ?_
  case ya6 => intro w hSw; go_simp; try with_reducible rfl
  try simp only [Act.put, List.setIfInBounds_toArray, List.set_cons_zero, List.set_cons_succ]
  refine takeH (i := 7) (d := 8) (v := ?_) rfl rfl (by kernel_rfl) (by kernel_rfl) (by kernel_rfl) (fun _ _ _ h => h) (Or.inl ⟨by rfl, ?ya7⟩) hH2 ?_
  case ya7 => intro w hSw; go_simp; try with_reducible rfl
  try simp only [Act.put, List.setIfInBounds_toArray, List.set_cons_zero, List.set_cons_succ]
  refine takeH (i := 8) (d := 9) (v := ?_) rfl rfl (by kernel_rfl) (by kernel_rfl) (by kernel_rfl) (fun _ _ _ h => h) (Or.inl ⟨by rfl, ?ya8⟩) hH2 ?_
  case ya8 => intro w hSw; go_simp; try with_reducible rfl
  try simp only [Act.put, List.setIfInBounds_toArray, List.set_cons_zero, List.set_cons_succ]
  refine wpAnyH_done (by kernel_rfl) ?_ _
  have HH2 := Lib.hid hH2.1
  have HP2 := Lib.hid hH2.2.1
  have HB2 := Lib.hid hH2.2.2
  clear hH2 hS0
  go_wp2_with (first | (refine wpList_load_row rfl 27 _ rfl g0 rfl 27 Hc (0, 0) _ HH2.out Try.underlying27 rfl ZH.out.sz ?_) | (refine wpList_load_row rfl 44 _ rfl (g0 + 1) rfl 44 P (0, 0) _ HP2.out Try.underlying44 rfl ZP.out.sz ?_) | fail)
  refine (HR.out _).mono ?_
  rintro e w3 ⟨rfl, hb3⟩
  have HZ2 : Hid (g0 ≤ w'.heap.size) := Lib.hid (Nat.le_of_lt (Array.getElem?_eq_some_iff.1 HH2.out).1)
  have HB3 := Lib.hid (HB2.out.trans (hb3.mono HZ2.out))
  have HZ3 : Hid (g0 ≤ w3.heap.size) := Lib.hid (Nat.le_trans HZ2.out hb3.size)
  clear hb3 HH2 HP2 HB2 HZ2
  go_wp2_with fail
  refine (HCT.out _).mono ?_
  rintro e w4 ⟨rfl, hb4⟩
  have HB4 := Lib.hid (HB3.out.trans (hb4.mono HZ3.out))
  have HZ4 : Hid (g0 ≤ w4.heap.size) := Lib.hid (Nat.le_trans HZ3.out hb4.size)
  have HTW := Lib.hid (twog_of w4 #[.int .u64 0, .int .u64 0, .int .u64 0, .int .u64 0, .int .u64 0, .int .u64 0, .int .u64 0, .int .u64 0, .int .u64 0, .int .u64 0, .int .u64 0, .bool false, .int .u8 0, .int .u8 0, .int .u8 0, .int .i64 0, .int .i64 0, .int .i64 0, .int .i64 0, .int .i64 0, .int .i64 0, .int .i64 0, .int .i64 0, .int .i64 0] X 38 #[.string { data := #[] }, .string { data := #[] }, .string { data := #[] }, .string { data := #[] }] Q 44 ZX.out.eq ZQ.out.eq)
  clear hb4 HB3 HZ3
  go_wp2_with (first | (refine wpList_store_row rfl 38 _ _ rfl w4.heap.size X rfl rfl 38 _ HTW.out.s1 ZX.out.sz ZX.out.eq ZX.out.one ?_) | (refine wpList_store_row rfl 44 _ _ rfl (w4.heap.size + 1) Q rfl rfl 44 _ HTW.out.s2 ZQ.out.sz ZQ.out.eq ZQ.out.one ?_) | fail)
  have hb5 := HTW.out.e3
  have HX5 := Lib.hid HTW.out.e1
  have HQ5 := Lib.hid HTW.out.e2
  have HB5 := Lib.hid (HB4.out.trans (hb5.mono HZ4.out))
  clear HTW HB4
  generalize (((w4.alloc (.cells #[.int .u64 0, .int .u64 0, .int .u64 0, .int .u64 0, .int .u64 0, .int .u64 0, .int .u64 0, .int .u64 0, .int .u64 0, .int .u64 0, .int .u64 0, .bool false, .int .u8 0, .int .u8 0, .int .u8 0, .int .i64 0, .int .i64 0, .int .i64 0, .int .i64 0, .int .i64 0, .int .i64 0, .int .i64 0, .int .i64 0, .int .i64 0] 38)).alloc (.cells #[.string { data := #[] }, .string { data := #[] }, .string { data := #[] }, .string { data := #[] }] 44)).setRow w4.heap.size X).setRow (w4.heap.size + 1) Q = W5 at *
  have HZ5 : Hid (g0 ≤ W5.heap.size) := Lib.hid (Nat.le_trans HZ4.out hb5.size)
  clear hb5 HZ4
  generalize w4.heap.size = g4 at *
  refine (HRC.out _).mono ?_
  rintro e w6 ⟨rfl, hb6⟩
  have HB6 := Lib.hid (HB5.out.trans (hb6.mono HZ5.out))
  have HZ6 : Hid (g0 ≤ w6.heap.size) := Lib.hid (Nat.le_trans HZ5.out hb6.size)
  have HX6 := Lib.hid (hk_later hb6 HX5.out)
  have HQ6 := Lib.hid (hk_later hb6 HQ5.out)
  have HTW := Lib.hid (twog_of w6 #[.int .u64 0, .int .u64 0, .int .u64 0, .int .u64 0, .int .u64 0, .int .u64 0, .int .u64 0, .int .u64 0, .int .u64 0, .int .u64 0, .int .u64 0, .bool false, .int .u8 0, .int .u8 0, .int .u8 0, .int .i64 0, .int .i64 0, .int .i64 0, .int .i64 0, .int .i64 0, .int .i64 0, .int .i64 0, .int .i64 0, .int .i64 0] X 27 #[.string { data := #[] }, .string { data := #[] }, .string { data := #[] }, .string { data := #[] }] Q 44 ZY.out.eq ZQ.out.eq)
  clear hb6 HB5 HZ5 HX5 HQ5
  go_upto_region 12 with (first | (refine wpList_store_row rfl 27 _ _ rfl w6.heap.size X rfl rfl 27 _ HTW.out.s1 ZY.out.sz ZY.out.eq ZY.out.one ?_) | (refine wpList_store_row rfl 44 _ _ rfl (w6.heap.size + 1) Q rfl rfl 44 _ HTW.out.s2 ZQ.out.sz ZQ.out.eq ZQ.out.one ?_) | fail)
  have hb7 := HTW.out.e3
  have HY7 := Lib.hid HTW.out.e1
  have HR7 := Lib.hid HTW.out.e2
  have HX7 := Lib.hid (hk_later hb7 HX6.out)
  have HQ7 := Lib.hid (hk_later hb7 HQ6.out)
  have HB7 := Lib.hid (HB6.out.trans (hb7.mono HZ6.out))
  clear HTW HB6 HX6 HQ6
  generalize (((w6.alloc (.cells #[.int .u64 0, .int .u64 0, .int .u64 0, .int .u64 0, .int .u64 0, .int .u64 0, .int .u64 0, .int .u64 0, .int .u64 0, .int .u64 0, .int .u64 0, .bool false, .int .u8 0, .int .u8 0, .int .u8 0, .int .i64 0, .int .i64 0, .int .i64 0, .int .i64 0, .int .i64 0, .int .i64 0, .int .i64 0, .int .i64 0, .int .i64 0] 27)).alloc (.cells #[.string { data := #[] }, .string { data := #[] }, .string { data := #[] }, .string { data := #[] }] 44)).setRow w6.heap.size X).setRow (w6.heap.size + 1) Q = W7 at *
  have HZ7 : Hid (g0 ≤ W7.heap.size) := Lib.hid (Nat.le_trans HZ6.out hb7.size)
  clear hb7 HZ6
  generalize w6.heap.size = g5 at *
  have hS1 := keep_g2 (Below.drew (Below.refl _ _)) ⟨HX7.out, HQ7.out, HY7.out, HR7.out, HB7.out, HZ7.out⟩
  clear HX7 HQ7 HY7 HR7 HB7 HZ7
  refine wp_region_held_drew (S := fun w' => w'.heap[g4]? = some (.cells X 38 (0, 0)) ∧ w'.heap[g4 + 1]? = some (.cells Q 44 (0, 0)) ∧ w'.heap[g5]? = some (.cells X 27 (0, 0)) ∧ w'.heap[g5 + 1]? = some (.cells Q 44 (0, 0)) ∧ Below g0 w w' ∧ g0 ≤ w'.heap.size) (by kernel_rfl) hS1 (fun hH0 => ?_)
  refine takeH (i := 0) (d := 57) (v := ?_) rfl rfl (by kernel_rfl) (by kernel_rfl) (by kernel_rfl) (fun _ _ _ h => h) (Or.inl ⟨by rfl, ?yb0⟩) hH0 ?_
  case yb0 => intro w hSw; go_simp; try with_reducible rfl
  try simp only [Act.put, List.setIfInBounds_toArray, List.set_cons_zero, List.set_cons_succ]
  refine takeH (i := 1) (d := 58) (v := ?_) rfl rfl (by kernel_rfl) (by kernel_rfl) (by kernel_rfl) (fun _ _ _ h => h) (Or.inl ⟨by rfl, ?yb1⟩) hH0 ?_
  case yb1 => intro w hSw; go_simp; try with_reducible rfl
  try simp only [Act.put, List.setIfInBounds_toArray, List.set_cons_zero, List.set_cons_succ]
  refine takeH (i := 2) (d := 59) (v := ?_) rfl rfl (by kernel_rfl) (by kernel_rfl) (by kernel_rfl) (fun _ _ _ h => h) (Or.inl ⟨by rfl, ?yb2⟩) hH0 ?_
  case yb2 => intro w hSw; go_simp; try with_reducible rfl
  try simp only [Act.put, List.setIfInBounds_toArray, List.set_cons_zero, List.set_cons_succ]
  refine takeH (i := 3) (d := 60) (v := ?_) rfl rfl (by kernel_rfl) (by kernel_rfl) (by kernel_rfl) (fun _ _ _ h => h) (Or.inl ⟨by rfl, ?yb3⟩) hH0 ?_
  case yb3 => intro w hSw; go_simp; try with_reducible rfl
  try simp only [Act.put, List.setIfInBounds_toArray, List.set_cons_zero, List.set_cons_succ]
  refine takeH (i := 4) (d := 61) (v := ?_) rfl rfl (by kernel_rfl) (by kernel_rfl) (by kernel_rfl) (fun _ _ _ h => h) (Or.inl ⟨by rfl, ?yb4⟩) hH0 ?_
  case yb4 => intro w hSw; go_simp; try with_reducible rfl
  try simp only [Act.put, List.setIfInBounds_toArray, List.set_cons_zero, List.set_cons_succ]
  refine takeH (i := 5) (d := 62) (v := ?_) rfl rfl (by kernel_rfl) (by kernel_rfl) (by kernel_rfl) (fun _ _ _ h => h) (Or.inl ⟨by rfl, ?yb5⟩) hH0 ?_
  case yb5 => intro w hSw; go_simp; try with_reducible rfl
  try simp only [Act.put, List.setIfInBounds_toArray, List.set_cons_zero, List.set_cons_succ]
  refine takeH (i := 6) (d := 63) (v := ?_) rfl rfl (by kernel_rfl) (by kernel_rfl) (by kernel_rfl) (fun _ _ _ h => h) (Or.inl ⟨by rfl, ?yb6⟩) hH0 ?_
  case yb6 => intro w hSw; go_simp; try with_reducible rfl
  try simp only [Act.put, List.setIfInBounds_toArray, List.set_cons_zero, List.set_cons_succ]
  refine takeH (i := 7) (d := 64) (v := ?_) rfl rfl (by kernel_rfl) (by kernel_rfl) (by kernel_rfl) (fun _ _ _ h => h) (Or.inl ⟨by rfl, ?yb7⟩) hH0 ?_
  case yb7 => intro w hSw; go_simp; try with_reducible rfl
  try simp only [Act.put, List.setIfInBounds_toArray, List.set_cons_zero, List.set_cons_succ]
  refine takeH (i := 8) (d := 65) (v := ?_) rfl rfl (by kernel_rfl) (by kernel_rfl) (by kernel_rfl) (fun _ _ _ h => h) (Or.inl ⟨by rfl, ?yb8⟩) hH0 ?_
  case yb8 => intro w hSw; go_simp; try with_reducible rfl
  try simp only [Act.put, List.setIfInBounds_toArray, List.set_cons_zero, List.set_cons_succ]
  refine takeH (i := 9) (d := 66) rfl rfl (by kernel_rfl) (by kernel_rfl) (by kernel_rfl) (fun _ _ _ h => h) (yieldsIf_row (by rfl) 38 _ rfl _ rfl 38 X (fun w h => run_loadVar_row w _ _ 38 X (0, 0) _ h Try.underlying38 rfl ZX.out.sz) (fun _ H => H.1)) hH0 ?_
  try simp only [Act.put, List.setIfInBounds_toArray, List.set_cons_zero, List.set_cons_succ]
  refine takeH (i := 10) (d := 67) rfl rfl (by kernel_rfl) (by kernel_rfl) (by kernel_rfl) (fun _ _ _ h => h) (yieldsIf_row (by rfl) 27 _ rfl _ rfl 27 X (fun w h => run_loadVar_row w _ _ 27 X (0, 0) _ h Try.underlying27 rfl ZY.out.sz) (fun _ H => H.2.2.1)) hH0 ?_
  try simp only [Act.put, List.setIfInBounds_toArray, List.set_cons_zero, List.set_cons_succ]
  refine wpAnyH_ready (rs := [11]) (by kernel_rfl) (by simp) ?_
  refine AllReadyH.cons rfl (fun K hK => ?_) AllReadyH.nil
  go_simp
  refine (HO2.out _).mono ?_
  rintro e w' ⟨rfl, hb⟩
  go_wp2_with fail
  refine hK.out _ _ (keep_g2 hb hH0) (fun hH1 => ?_)
  clear hK K hb hH0
  try simp only [Act.put, List.setIfInBounds_toArray, List.set_cons_zero, List.set_cons_succ]
  refine takeH (i := 12) (d := 69) (v := ?_) rfl rfl (by kernel_rfl) (by kernel_rfl) (by kernel_rfl) (fun _ _ _ h => h) (Or.inl ⟨by rfl, ?yb12⟩) hH1 ?_
  case yb12 => intro w hSw; go_simp; try with_reducible rfl
  try simp only [Act.put, List.setIfInBounds_toArray, List.set_cons_zero, List.set_cons_succ]
  refine takeH (i := 13) (d := 70) (v := ?_) rfl rfl (by kernel_rfl) (by kernel_rfl) (by kernel_rfl) (fun _ _ _ h => h) (Or.inl ⟨by rfl, ?yb13⟩) hH1 ?_
  case yb13 => intro w hSw; go_simp; try with_reducible rfl
  try simp only [Act.put, List.setIfInBounds_toArray, List.set_cons_zero, List.set_cons_succ]
  refine takeH (i := 14) (d := 71) (v := ?_) rfl rfl (by kernel_rfl) (by kernel_rfl) (by kernel_rfl) (fun _ _ _ h => h) (Or.inl ⟨by rfl, ?yb14⟩) hH1 ?_
  case yb14 => intro w hSw; go_simp; try with_reducible rfl
  try simp only [Act.put, List.setIfInBounds_toArray, List.set_cons_zero, List.set_cons_succ]
  refine takeH (i := 15) (d := 72) rfl rfl (by kernel_rfl) (by kernel_rfl) (by kernel_rfl) (fun _ _ _ h => h) (yieldsIf_row (by rfl) 44 _ rfl _ rfl 44 Q (fun w h => run_loadVar_row w _ _ 44 Q (0, 0) _ h Try.underlying44 rfl ZQ.out.sz) (fun _ H => H.2.1)) hH1 ?_
  try simp only [Act.put, List.setIfInBounds_toArray, List.set_cons_zero, List.set_cons_succ]
  refine takeH (i := 16) (d := 73) rfl rfl (by kernel_rfl) (by kernel_rfl) (by kernel_rfl) (fun _ _ _ h => h) (yieldsIf_row (by rfl) 44 _ rfl _ rfl 44 Q (fun w h => run_loadVar_row w _ _ 44 Q (0, 0) _ h Try.underlying44 rfl ZQ.out.sz) (fun _ H => H.2.2.2.1)) hH1 ?_
  try simp only [Act.put, List.setIfInBounds_toArray, List.set_cons_zero, List.set_cons_succ]
  refine takeH (i := 17) (d := 74) (v := ?_) rfl rfl (by kernel_rfl) (by kernel_rfl) (by kernel_rfl) (fun _ _ _ h => h) (Or.inl ⟨by rfl, ?yb17⟩) hH1 ?_
  case yb17 => intro w hSw; go_simp; try with_reducible rfl
  try simp only [Act.put, List.setIfInBounds_toArray, List.set_cons_zero, List.set_cons_succ]
  refine takeH (i := 18) (d := 75) (v := ?_) rfl rfl (by kernel_rfl) (by kernel_rfl) (by kernel_rfl) (fun _ _ _ h => h) (Or.inl ⟨by rfl, ?yb18⟩) hH1 ?_
  case yb18 => intro w hSw; go_simp; try with_reducible rfl
  try simp only [Act.put, List.setIfInBounds_toArray, List.set_cons_zero, List.set_cons_succ]
  refine takeH (i := 19) (d := 76) (v := ?_) rfl rfl (by kernel_rfl) (by kernel_rfl) (by kernel_rfl) (fun _ _ _ h => h) (Or.inl ⟨by rfl, ?yb19⟩) hH1 ?_
  case yb19 => intro w hSw; go_simp; try with_reducible rfl
  try simp only [Act.put, List.setIfInBounds_toArray, List.set_cons_zero, List.set_cons_succ]
  refine takeH (i := 20) (d := 77) (v := ?_) rfl rfl (by kernel_rfl) (by kernel_rfl) (by kernel_rfl) (fun _ _ _ h => h) (Or.inl ⟨by rfl, ?yb20⟩) hH1 ?_
  case yb20 => intro w hSw; go_simp; try with_reducible rfl
  try simp only [Act.put, List.setIfInBounds_toArray, List.set_cons_zero, List.set_cons_succ]
  refine takeH (i := 21) (d := 78) (v := ?_) rfl rfl (by kernel_rfl) (by kernel_rfl) (by kernel_rfl) (fun _ _ _ h => h) (Or.inl ⟨by rfl, ?yb21⟩) hH1 ?_
  case yb21 => intro w hSw; go_simp; try with_reducible rfl
  try simp only [Act.put, List.setIfInBounds_toArray, List.set_cons_zero, List.set_cons_succ]
  refine takeH (i := 22) (d := 79) (v := ?_) rfl rfl (by kernel_rfl) (by kernel_rfl) (by kernel_rfl) (fun _ _ _ h => h) (Or.inl ⟨by rfl, ?yb22⟩) hH1 ?_
  case yb22 => intro w hSw; go_simp; try with_reducible rfl
  try simp only [Act.put, List.setIfInBounds_toArray, List.set_cons_zero, List.set_cons_succ]
  refine takeH (i := 23) (d := 80) (v := ?_) rfl rfl (by kernel_rfl) (by kernel_rfl) (by kernel_rfl) (fun _ _ _ h => h) (Or.inl ⟨by rfl, ?yb23⟩) hH1 ?_
  case yb23 => intro w hSw; go_simp; try with_reducible rfl
  try simp only [Act.put, List.setIfInBounds_toArray, List.set_cons_zero, List.set_cons_succ]
  refine takeH (i := 24) (d := 81) (v := ?_) rfl rfl (by kernel_rfl) (by kernel_rfl) (by kernel_rfl) (fun _ _ _ h => h) (Or.inl ⟨by rfl, ?yb24⟩) hH1 ?_
  case yb24 => intro w hSw; go_simp; try with_reducible rfl
  try simp only [Act.put, List.setIfInBounds_toArray, List.set_cons_zero, List.set_cons_succ]
  refine wpAnyH_ready (rs := [25]) (by kernel_rfl) (by simp) ?_
  refine AllReadyH.cons rfl (fun K hK => ?_) AllReadyH.nil
  go_simp
  refine (HA.out _).mono ?_
  rintro e w' ⟨rfl, hb⟩
  go_wp2_with fail
  refine hK.out _ _ (keep_g2 hb hH1) (fun hH2 => ?_)
  clear hK K hb hH1
  try simp only [Act.put, List.setIfInBounds_toArray, List.set_cons_zero, List.set_cons_succ]
  refine takeH (i := 26) (d := 83) (v := ?_) rfl rfl (by kernel_rfl) (by kernel_rfl) (by kernel_rfl) (fun _ _ _ h => h) (Or.inl ⟨by rfl, ?yb26⟩) hH2 ?_
  case yb26 => intro w hSw; go_simp; try with_reducible rfl
  try simp only [Act.put, List.setIfInBounds_toArray, List.set_cons_zero, List.set_cons_succ]
  refine takeH (i := 27) (d := 6) (v := ?_) rfl rfl (by kernel_rfl) (by kernel_rfl) (by kernel_rfl) (fun _ _ _ h => h) (Or.inl ⟨by rfl, ?yb27⟩) hH2 ?_
  case yb27 => intro w hSw; go_simp; try with_reducible rfl
  try simp only [Act.put, List.setIfInBounds_toArray, List.set_cons_zero, List.set_cons_succ]
  refine wpAnyH_done (by kernel_rfl) ?_ _
  go_wp2_with fail
  go_ret
  exact ⟨rfl, by rw [HG0.out]; exact hH2.2.2.2.2.1⟩
theorem layoutglues_law (h : Hd) (p : Pt) (s : ByteArray) (w : World) (hm : MayH h) (hp : Few p maxLen) (hs : s.size ≤ maxLen) : Calls Try.prog 4 #[.agg (cH h), .agg (pArr p), .string s] w fun e w' => e = .returned (.bool true) ∧ Below w.heap.size w w' := by
  by_cases l0 : p.p0.size ≤ 300
  · by_cases l1 : p.p1.size ≤ 300
    · by_cases l2 : p.p2.size ≤ 300
      · by_cases l3 : p.p3.size ≤ 300
        · by_cases hl : s.size ≤ 1500
          · exact glues_walk h p s w hm l0 l1 l2 l3 hl
          · exact glues_longs h p s w hm l0 l1 l2 l3 (by omega)
        · exact glues_long3 h p s w hm l0 l1 l2 (by omega)
      · exact glues_long2 h p s w hm l0 l1 (by omega)
    · exact glues_long1 h p s w hm l0 (by omega)
  · exact glues_long0 h p s w hm (by omega)
end Go.Proofs.Ytkhlkjhfgfjadaa
