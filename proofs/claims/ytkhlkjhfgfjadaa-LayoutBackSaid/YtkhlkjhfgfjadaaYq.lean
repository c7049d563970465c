/- LayoutBack: its walk. -/
import Derived.Test.YtkhlkjhfgfjadaaYp
namespace Go.Proofs.Ytkhlkjhfgfjadaa
open Go.RowKit
set_option maxRecDepth 100000
set_option linter.unusedVariables false
set_option linter.unusedSimpArgs false
theorem keep_b2 {w w' w1 : World} {g0 g4 g6 : Nat} {Hc X Zp : Array Value} (hb : Below w'.heap.size w' w1) (h : w'.heap[g0]? = some (.cells Hc 27 (0, 0)) ∧ w'.heap[g4]? = some (.cells X 38 (0, 0)) ∧ w'.heap[g6 + 1]? = some (.cells Zp 44 (0, 0)) ∧ Below g0 w w') : w1.heap[g0]? = some (.cells Hc 27 (0, 0)) ∧ w1.heap[g4]? = some (.cells X 38 (0, 0)) ∧ w1.heap[g6 + 1]? = some (.cells Zp 44 (0, 0)) ∧ Below g0 w w1 :=
  ⟨hk_later hb h.1, hk_later hb h.2.1, hk_later hb h.2.2.1, h.2.2.2.trans (hb.mono (Nat.le_of_lt (Array.getElem?_eq_some_iff.1 h.1).1))⟩
theorem back_long0 (h : Hd) (p : Pt) (b : ByteArray) (w : World) (hm : MayH h)  (l0 : 300 < p.p0.size) : Calls Try.prog 5 #[.agg (cH h), .agg (pArr p), .string b] w fun e w' => e = .returned (.bool true) ∧ Below w.heap.size w w' := by
  have HA := Lib.hid awake15_any
  obtain ⟨p0, p1, p2, p3⟩ := p
  dsimp only at l0
  have q0 : (pArr ⟨p0, p1, p2, p3⟩)[0]? = some (.string p0) := rfl
  have q1 : (pArr ⟨p0, p1, p2, p3⟩)[1]? = some (.string p1) := rfl
  have q2 : (pArr ⟨p0, p1, p2, p3⟩)[2]? = some (.string p2) := rfl
  have q3 : (pArr ⟨p0, p1, p2, p3⟩)[3]? = some (.string p3) := rfl
  generalize cH h = Hc at *
  generalize pArr ⟨p0, p1, p2, p3⟩ = P at *
  have d0 : decide (300 < (p0.size : Int)) = true := by simp; omega
  obtain ⟨W0, hW0⟩ : ∃ W0, (w.alloc (.cells Hc 27)).alloc (.cells P 44) = W0 := ⟨_, rfl⟩
  have HH0 : Hid (W0.heap[w.heap.size]? = some (.cells Hc 27 (0, 0))) := Lib.hid (by rw [← hW0]; exact (heap_alloc_old (by simp)).trans (heap_new15 w _))
  have HP0 : Hid (W0.heap[w.heap.size + 1]? = some (.cells P 44 (0, 0))) := Lib.hid (by
    have := heap_new15 (w.alloc (.cells Hc 27)) (.cells P 44)
    rw [World.size_alloc] at this
    rw [← hW0]
    exact this)
  have HB0 : Hid (Below w.heap.size w W0) := Lib.hid (by rw [← hW0]; exact ((Below.refl _ w).alloc (Nat.le_refl _) _).alloc (by simp) _)
  have s0 := (cell_blk HP0.out 0).trans q0
  have s1 := (cell_blk HP0.out 1).trans q1
  have s2 := (cell_blk HP0.out 2).trans q2
  have s3 := (cell_blk HP0.out 3).trans q3
  clear q0 q1 q2 q3
  go_enter Try.func5, Try.ntmps5
  go_upto_region 1 with fail
  try rw [hW0]
  clear hW0
  go_wp2_with fail
  refine wp_loop_rounds 5 ?_
  rw [rounds_succ]
  go_wp2_with fail
  refine (HA.out _).mono ?_
  rintro e w1 ⟨rfl, hb1⟩
  have HB1 := Lib.hid (HB0.out.trans (hb1.mono HB0.out.size))
  clear hb1
  go_wp2_with fail
  go_ret
  exact ⟨rfl, HB1.out⟩
theorem back_long1 (h : Hd) (p : Pt) (b : ByteArray) (w : World) (hm : MayH h) (l0 : p.p0.size ≤ 300) (l1 : 300 < p.p1.size) : Calls Try.prog 5 #[.agg (cH h), .agg (pArr p), .string b] w fun e w' => e = .returned (.bool true) ∧ Below w.heap.size w w' := by
  have HA := Lib.hid awake15_any
  obtain ⟨p0, p1, p2, p3⟩ := p
  dsimp only at l0 l1
  have q0 : (pArr ⟨p0, p1, p2, p3⟩)[0]? = some (.string p0) := rfl
  have q1 : (pArr ⟨p0, p1, p2, p3⟩)[1]? = some (.string p1) := rfl
  have q2 : (pArr ⟨p0, p1, p2, p3⟩)[2]? = some (.string p2) := rfl
  have q3 : (pArr ⟨p0, p1, p2, p3⟩)[3]? = some (.string p3) := rfl
  generalize cH h = Hc at *
  generalize pArr ⟨p0, p1, p2, p3⟩ = P at *
  have d0 : decide (300 < (p0.size : Int)) = false := by simp; omega
  have d1 : decide (300 < (p1.size : Int)) = true := by simp; omega
  obtain ⟨W0, hW0⟩ : ∃ W0, (w.alloc (.cells Hc 27)).alloc (.cells P 44) = W0 := ⟨_, rfl⟩
  have HH0 : Hid (W0.heap[w.heap.size]? = some (.cells Hc 27 (0, 0))) := Lib.hid (by rw [← hW0]; exact (heap_alloc_old (by simp)).trans (heap_new15 w _))
  have HP0 : Hid (W0.heap[w.heap.size + 1]? = some (.cells P 44 (0, 0))) := Lib.hid (by
    have := heap_new15 (w.alloc (.cells Hc 27)) (.cells P 44)
    rw [World.size_alloc] at this
    rw [← hW0]
    exact this)
  have HB0 : Hid (Below w.heap.size w W0) := Lib.hid (by rw [← hW0]; exact ((Below.refl _ w).alloc (Nat.le_refl _) _).alloc (by simp) _)
  have s0 := (cell_blk HP0.out 0).trans q0
  have s1 := (cell_blk HP0.out 1).trans q1
  have s2 := (cell_blk HP0.out 2).trans q2
  have s3 := (cell_blk HP0.out 3).trans q3
  clear q0 q1 q2 q3
  go_enter Try.func5, Try.ntmps5
  go_upto_region 1 with fail
  try rw [hW0]
  clear hW0
  go_wp2_with fail
  refine wp_loop_rounds 5 ?_
  rw [rounds_succ]
  go_wp2_with fail
  rw [rounds_succ]
  go_wp2_with fail
  refine (HA.out _).mono ?_
  rintro e w1 ⟨rfl, hb1⟩
  have HB1 := Lib.hid (HB0.out.trans (hb1.mono HB0.out.size))
  clear hb1
  go_wp2_with fail
  go_ret
  exact ⟨rfl, HB1.out⟩
theorem back_long2 (h : Hd) (p : Pt) (b : ByteArray) (w : World) (hm : MayH h) (l0 : p.p0.size ≤ 300) (l1 : p.p1.size ≤ 300) (l2 : 300 < p.p2.size) : Calls Try.prog 5 #[.agg (cH h), .agg (pArr p), .string b] w fun e w' => e = .returned (.bool true) ∧ Below w.heap.size w w' := by
  have HA := Lib.hid awake15_any
  obtain ⟨p0, p1, p2, p3⟩ := p
  dsimp only at l0 l1 l2
  have q0 : (pArr ⟨p0, p1, p2, p3⟩)[0]? = some (.string p0) := rfl
  have q1 : (pArr ⟨p0, p1, p2, p3⟩)[1]? = some (.string p1) := rfl
  have q2 : (pArr ⟨p0, p1, p2, p3⟩)[2]? = some (.string p2) := rfl
  have q3 : (pArr ⟨p0, p1, p2, p3⟩)[3]? = some (.string p3) := rfl
  generalize cH h = Hc at *
  generalize pArr ⟨p0, p1, p2, p3⟩ = P at *
  have d0 : decide (300 < (p0.size : Int)) = false := by simp; omega
  have d1 : decide (300 < (p1.size : Int)) = false := by simp; omega
  have d2 : decide (300 < (p2.size : Int)) = true := by simp; omega
  obtain ⟨W0, hW0⟩ : ∃ W0, (w.alloc (.cells Hc 27)).alloc (.cells P 44) = W0 := ⟨_, rfl⟩
  have HH0 : Hid (W0.heap[w.heap.size]? = some (.cells Hc 27 (0, 0))) := Lib.hid (by rw [← hW0]; exact (heap_alloc_old (by simp)).trans (heap_new15 w _))
  have HP0 : Hid (W0.heap[w.heap.size + 1]? = some (.cells P 44 (0, 0))) := Lib.hid (by
    have := heap_new15 (w.alloc (.cells Hc 27)) (.cells P 44)
    rw [World.size_alloc] at this
    rw [← hW0]
    exact this)
  have HB0 : Hid (Below w.heap.size w W0) := Lib.hid (by rw [← hW0]; exact ((Below.refl _ w).alloc (Nat.le_refl _) _).alloc (by simp) _)
  have s0 := (cell_blk HP0.out 0).trans q0
  have s1 := (cell_blk HP0.out 1).trans q1
  have s2 := (cell_blk HP0.out 2).trans q2
  have s3 := (cell_blk HP0.out 3).trans q3
  clear q0 q1 q2 q3
  go_enter Try.func5, Try.ntmps5
  go_upto_region 1 with fail
  try rw [hW0]
  clear hW0
  go_wp2_with fail
  refine wp_loop_rounds 5 ?_
  rw [rounds_succ]
  go_wp2_with fail
  rw [rounds_succ]
  go_wp2_with fail
  rw [rounds_succ]
  go_wp2_with fail
  refine (HA.out _).mono ?_
  rintro e w1 ⟨rfl, hb1⟩
  have HB1 := Lib.hid (HB0.out.trans (hb1.mono HB0.out.size))
  clear hb1
  go_wp2_with fail
  go_ret
  exact ⟨rfl, HB1.out⟩
theorem back_long3 (h : Hd) (p : Pt) (b : ByteArray) (w : World) (hm : MayH h) (l0 : p.p0.size ≤ 300) (l1 : p.p1.size ≤ 300) (l2 : p.p2.size ≤ 300) (l3 : 300 < p.p3.size) : Calls Try.prog 5 #[.agg (cH h), .agg (pArr p), .string b] w fun e w' => e = .returned (.bool true) ∧ Below w.heap.size w w' := by
  have HA := Lib.hid awake15_any
  obtain ⟨p0, p1, p2, p3⟩ := p
  dsimp only at l0 l1 l2 l3
  have q0 : (pArr ⟨p0, p1, p2, p3⟩)[0]? = some (.string p0) := rfl
  have q1 : (pArr ⟨p0, p1, p2, p3⟩)[1]? = some (.string p1) := rfl
  have q2 : (pArr ⟨p0, p1, p2, p3⟩)[2]? = some (.string p2) := rfl
  have q3 : (pArr ⟨p0, p1, p2, p3⟩)[3]? = some (.string p3) := rfl
  generalize cH h = Hc at *
  generalize pArr ⟨p0, p1, p2, p3⟩ = P at *
  have d0 : decide (300 < (p0.size : Int)) = false := by simp; omega
  have d1 : decide (300 < (p1.size : Int)) = false := by simp; omega
  have d2 : decide (300 < (p2.size : Int)) = false := by simp; omega
  have d3 : decide (300 < (p3.size : Int)) = true := by simp; omega
  obtain ⟨W0, hW0⟩ : ∃ W0, (w.alloc (.cells Hc 27)).alloc (.cells P 44) = W0 := ⟨_, rfl⟩
  have HH0 : Hid (W0.heap[w.heap.size]? = some (.cells Hc 27 (0, 0))) := Lib.hid (by rw [← hW0]; exact (heap_alloc_old (by simp)).trans (heap_new15 w _))
  have HP0 : Hid (W0.heap[w.heap.size + 1]? = some (.cells P 44 (0, 0))) := Lib.hid (by
    have := heap_new15 (w.alloc (.cells Hc 27)) (.cells P 44)
    rw [World.size_alloc] at this
    rw [← hW0]
    exact this)
  have HB0 : Hid (Below w.heap.size w W0) := Lib.hid (by rw [← hW0]; exact ((Below.refl _ w).alloc (Nat.le_refl _) _).alloc (by simp) _)
  have s0 := (cell_blk HP0.out 0).trans q0
  have s1 := (cell_blk HP0.out 1).trans q1
  have s2 := (cell_blk HP0.out 2).trans q2
  have s3 := (cell_blk HP0.out 3).trans q3
  clear q0 q1 q2 q3
  go_enter Try.func5, Try.ntmps5
  go_upto_region 1 with fail
  try rw [hW0]
  clear hW0
  go_wp2_with fail
  refine wp_loop_rounds 5 ?_
  rw [rounds_succ]
  go_wp2_with fail
  rw [rounds_succ]
  go_wp2_with fail
  rw [rounds_succ]
  go_wp2_with fail
  rw [rounds_succ]
  go_wp2_with fail
  refine (HA.out _).mono ?_
  rintro e w1 ⟨rfl, hb1⟩
  have HB1 := Lib.hid (HB0.out.trans (hb1.mono HB0.out.size))
  clear hb1
  go_wp2_with fail
  go_ret
  exact ⟨rfl, HB1.out⟩
theorem back_longs (h : Hd) (p : Pt) (b : ByteArray) (w : World) (hm : MayH h) (l0 : p.p0.size ≤ 300) (l1 : p.p1.size ≤ 300) (l2 : p.p2.size ≤ 300) (l3 : p.p3.size ≤ 300) (hl : 100 < b.size) : Calls Try.prog 5 #[.agg (cH h), .agg (pArr p), .string b] w fun e w' => e = .returned (.bool true) ∧ Below w.heap.size w w' := by
  have HA := Lib.hid awake15_any
  obtain ⟨p0, p1, p2, p3⟩ := p
  dsimp only at l0 l1 l2 l3
  have q0 : (pArr ⟨p0, p1, p2, p3⟩)[0]? = some (.string p0) := rfl
  have q1 : (pArr ⟨p0, p1, p2, p3⟩)[1]? = some (.string p1) := rfl
  have q2 : (pArr ⟨p0, p1, p2, p3⟩)[2]? = some (.string p2) := rfl
  have q3 : (pArr ⟨p0, p1, p2, p3⟩)[3]? = some (.string p3) := rfl
  generalize cH h = Hc at *
  generalize pArr ⟨p0, p1, p2, p3⟩ = P at *
  have d0 : decide (300 < (p0.size : Int)) = false := by simp; omega
  have d1 : decide (300 < (p1.size : Int)) = false := by simp; omega
  have d2 : decide (300 < (p2.size : Int)) = false := by simp; omega
  have d3 : decide (300 < (p3.size : Int)) = false := by simp; omega
  have d4 : decide (100 < (b.size : Int)) = true := by simp; omega
  obtain ⟨W0, hW0⟩ : ∃ W0, (w.alloc (.cells Hc 27)).alloc (.cells P 44) = W0 := ⟨_, rfl⟩
  have HH0 : Hid (W0.heap[w.heap.size]? = some (.cells Hc 27 (0, 0))) := Lib.hid (by rw [← hW0]; exact (heap_alloc_old (by simp)).trans (heap_new15 w _))
  have HP0 : Hid (W0.heap[w.heap.size + 1]? = some (.cells P 44 (0, 0))) := Lib.hid (by
    have := heap_new15 (w.alloc (.cells Hc 27)) (.cells P 44)
    rw [World.size_alloc] at this
    rw [← hW0]
    exact this)
  have HB0 : Hid (Below w.heap.size w W0) := Lib.hid (by rw [← hW0]; exact ((Below.refl _ w).alloc (Nat.le_refl _) _).alloc (by simp) _)
  have s0 := (cell_blk HP0.out 0).trans q0
  have s1 := (cell_blk HP0.out 1).trans q1
  have s2 := (cell_blk HP0.out 2).trans q2
  have s3 := (cell_blk HP0.out 3).trans q3
  clear q0 q1 q2 q3
  go_enter Try.func5, Try.ntmps5
  go_upto_region 1 with fail
  try rw [hW0]
  clear hW0
  go_wp2_with fail
  refine wp_loop_rounds 5 ?_
  rw [rounds_succ]
  go_wp2_with fail
  rw [rounds_succ]
  go_wp2_with fail
  rw [rounds_succ]
  go_wp2_with fail
  rw [rounds_succ]
  go_wp2_with fail
  rw [rounds_succ]
  go_wp2_with fail
  refine (HA.out _).mono ?_
  rintro e w1 ⟨rfl, hb1⟩
  have HB1 := Lib.hid (HB0.out.trans (hb1.mono HB0.out.size))
  clear hb1
  go_wp2_with fail
  go_ret
  exact ⟨rfl, HB1.out⟩
set_option maxHeartbeats 4000000 in
theorem back_bad (h : Hd) (p : Pt) (b : ByteArray) (w : World) (hm : MayH h) (l0 : p.p0.size ≤ 300) (l1 : p.p1.size ≤ 300) (l2 : p.p2.size ≤ 300) (l3 : p.p3.size ≤ 300) (hl : b.size ≤ 100) (e : (glueN h p).2 ≠ 0) : Calls Try.prog 5 #[.agg (cH h), .agg (pArr p), .string b] w fun e w' => e = .returned (.bool true) ∧ Below w.heap.size w w' := by
  have HA := Lib.hid awake15_any
  have hg := fun w => glue15_any h p w hm ⟨l0, l1, l2, l3⟩
  rw [glue_bad e] at hg
  unfold noB at hg
  have hge : ((glueN h p).2 != 0) = true := by simpa using e
  have hO := fun w => own_any h w
  have zH := ar_rhead h
  have zP := ar_str p
  generalize (glueN h p).2 = ge at *
  obtain ⟨p0, p1, p2, p3⟩ := p
  dsimp only at l0 l1 l2 l3
  have q0 : (pArr ⟨p0, p1, p2, p3⟩)[0]? = some (.string p0) := rfl
  have q1 : (pArr ⟨p0, p1, p2, p3⟩)[1]? = some (.string p1) := rfl
  have q2 : (pArr ⟨p0, p1, p2, p3⟩)[2]? = some (.string p2) := rfl
  have q3 : (pArr ⟨p0, p1, p2, p3⟩)[3]? = some (.string p3) := rfl
  generalize cH h = Hc at *
  generalize pArr ⟨p0, p1, p2, p3⟩ = P at *
  have d0 : decide (300 < (p0.size : Int)) = false := by simp; omega
  have d1 : decide (300 < (p1.size : Int)) = false := by simp; omega
  have d2 : decide (300 < (p2.size : Int)) = false := by simp; omega
  have d3 : decide (300 < (p3.size : Int)) = false := by simp; omega
  have d4 : decide (100 < (b.size : Int)) = false := by simp; omega
  have HG := Lib.hid hg
  have HO := Lib.hid hO
  have ZH := Lib.hid zH
  have ZP := Lib.hid zP
  clear hg hO zH zP hm e
  obtain ⟨W0, hW0⟩ : ∃ W0, (w.alloc (.cells Hc 27)).alloc (.cells P 44) = W0 := ⟨_, rfl⟩
  have HH0 : Hid (W0.heap[w.heap.size]? = some (.cells Hc 27 (0, 0))) := Lib.hid (by rw [← hW0]; exact (heap_alloc_old (by simp)).trans (heap_new15 w _))
  have HP0 : Hid (W0.heap[w.heap.size + 1]? = some (.cells P 44 (0, 0))) := Lib.hid (by
    have := heap_new15 (w.alloc (.cells Hc 27)) (.cells P 44)
    rw [World.size_alloc] at this
    rw [← hW0]
    exact this)
  have HB0 : Hid (Below w.heap.size w W0) := Lib.hid (by rw [← hW0]; exact ((Below.refl _ w).alloc (Nat.le_refl _) _).alloc (by simp) _)
  have s0 := (cell_blk HP0.out 0).trans q0
  have s1 := (cell_blk HP0.out 1).trans q1
  have s2 := (cell_blk HP0.out 2).trans q2
  have s3 := (cell_blk HP0.out 3).trans q3
  clear q0 q1 q2 q3
  go_enter Try.func5, Try.ntmps5
  go_upto_region 1 with fail
  try rw [hW0]
  clear hW0
  go_wp2_with fail
  refine wp_loop_rounds 5 ?_
  rw [rounds_succ]
  go_wp2_with fail
  rw [rounds_succ]
  go_wp2_with fail
  rw [rounds_succ]
  go_wp2_with fail
  rw [rounds_succ]
  go_wp2_with fail
  rw [rounds_succ]
  go_upto_region 10 with fail
  clear s0 s1 s2 s3 d0 d1 d2 d3 d4
  generalize hg0 : w.heap.size = g0 at *
  have HG0 := Lib.hid hg0
  clear hg0
  have hS0 := keep_g1 (Below.drew (Below.refl _ _)) ⟨HH0.out, HP0.out, HB0.out⟩
  clear HH0 HP0 HB0
  refine wp_region_held_drew (S := fun w' => w'.heap[g0]? = some (.cells Hc 27 (0, 0)) ∧ w'.heap[g0 + 1]? = some (.cells P 44 (0, 0)) ∧ Below g0 w w') (by kernel_rfl) hS0 (fun hH0 => ?_)
  refine takeH (i := 0) (d := 38) rfl rfl (by kernel_rfl) (by kernel_rfl) (by kernel_rfl) (fun _ _ _ h => h) (yieldsIf_row (by rfl) 27 _ rfl _ rfl 27 Hc (fun w h => run_loadVar_row w _ _ 27 Hc (0, 0) _ h Try.underlying27 rfl ZH.out.sz) (fun _ H => H.1)) hH0 ?_
  try simp only [Act.put, List.setIfInBounds_toArray, List.set_cons_zero, List.set_cons_succ]
  refine takeH (i := 2) (d := 40) rfl rfl (by kernel_rfl) (by kernel_rfl) (by kernel_rfl) (fun _ _ _ h => h) (yieldsIf_row (by rfl) 44 _ rfl _ rfl 44 P (fun w h => run_loadVar_row w _ _ 44 P (0, 0) _ h Try.underlying44 rfl ZP.out.sz) (fun _ H => H.2.1)) hH0 ?_
  try simp only [Act.put, List.setIfInBounds_toArray, List.set_cons_zero, List.set_cons_succ]
  refine wpAnyH_ready (rs := [1]) (by kernel_rfl) (by simp) ?_
  refine AllReadyH.cons rfl (fun K hK => ?_) AllReadyH.nil
  go_simp
  refine (HO.out _).mono ?_
  rintro e w' ⟨rfl, hb⟩
  go_wp2_with fail
  refine hK.out _ _ (keep_g1 hb hH0) (fun hH1 => ?_)
  clear hK K hb hH0
  try simp only [Act.put, List.setIfInBounds_toArray, List.set_cons_zero, List.set_cons_succ]
  refine wpAnyH_ready (rs := [3]) (by kernel_rfl) (by simp) ?_
  refine AllReadyH.cons rfl (fun K hK => ?_) AllReadyH.nil
  go_simp
  refine (HG.out _).mono ?_
  rintro e w' ⟨rfl, hb⟩
  go_wp2_with fail
  refine hK.out _ _ (keep_g1 hb hH1) (fun hH2 => ?_)
  clear hK K hb hH1
  try simp only [Act.put, List.setIfInBounds_toArray, List.set_cons_zero, List.set_cons_succ]
  refine takeH (i := 4) (d := 37) (v := ?_) rfl rfl (by kernel_rfl) (by kernel_rfl) (by kernel_rfl) (fun _ _ _ h => h) (Or.inl ⟨by rfl, ?yax4⟩) hH2 ?_
  case yax4 => intro w hSw; go_simp; try with_reducible rfl
  try simp only [Act.put, List.setIfInBounds_toArray, List.set_cons_zero, List.set_cons_succ]
  refine takeH (i := 5) (d := 42) (v := ?_) rfl rfl (by kernel_rfl) (by kernel_rfl) (by kernel_rfl) (fun _ _ _ h => h) (Or.inl ⟨by rfl, ?yax5⟩) hH2 ?_
  case yax5 => intro w hSw; go_simp; try with_reducible rfl
  try simp only [Act.put, List.setIfInBounds_toArray, List.set_cons_zero, List.set_cons_succ]
  refine takeH (i := 6) (d := 43) (v := ?_) rfl rfl (by kernel_rfl) (by kernel_rfl) (by kernel_rfl) (fun _ _ _ h => h) (Or.inl ⟨by rfl, ?yax6⟩) hH2 ?_
  case yax6 => intro w hSw; go_simp; try with_reducible rfl
  try simp only [Act.put, List.setIfInBounds_toArray, List.set_cons_zero, List.set_cons_succ]
  refine takeH (i := 7) (d := 9) (v := ?_) rfl rfl (by kernel_rfl) (by kernel_rfl) (by kernel_rfl) (fun _ _ _ h => h) (Or.inl ⟨by rfl, ?yax7⟩) hH2 ?_
  case yax7 => intro w hSw; go_simp; try with_reducible rfl
  try simp only [Act.put, List.setIfInBounds_toArray, List.set_cons_zero, List.set_cons_succ]
  refine takeH (i := 8) (d := 10) (v := ?_) rfl rfl (by kernel_rfl) (by kernel_rfl) (by kernel_rfl) (fun _ _ _ h => h) (Or.inl ⟨by rfl, ?yax8⟩) hH2 ?_
  case yax8 => intro w hSw; go_simp; try with_reducible rfl
  try simp only [Act.put, List.setIfInBounds_toArray, List.set_cons_zero, List.set_cons_succ]
  refine wpAnyH_done (by kernel_rfl) ?_ _
  have HH2 := Lib.hid hH2.1
  have HP2 := Lib.hid hH2.2.1
  have HB2 := Lib.hid hH2.2.2
  have HZ2 : Hid (g0 ≤ w'.heap.size) := Lib.hid (Nat.le_of_lt (Array.getElem?_eq_some_iff.1 HH2.out).1)
  clear hH2 hS0
  go_wp2_with fail
  refine (HA.out _).mono ?_
  rintro e w3 ⟨rfl, hb3⟩
  have HB3 := Lib.hid (HB2.out.trans (hb3.mono HZ2.out))
  clear hb3
  go_wp2_with fail
  go_ret
  exact ⟨rfl, by rw [HG0.out]; exact HB3.out⟩
set_option maxHeartbeats 8000000 in
theorem back_good (h : Hd) (p : Pt) (b : ByteArray) (w : World) (hm : MayH h) (l0 : p.p0.size ≤ 300) (l1 : p.p1.size ≤ 300) (l2 : p.p2.size ≤ 300) (l3 : p.p3.size ≤ 300) (hl : b.size ≤ 100) (e : (glueN h p).2 = 0) : Calls Try.prog 5 #[.agg (cH h), .agg (pArr p), .string b] w fun e w' => e = .returned (.bool true) ∧ Below w.heap.size w w' := by
  have HA := Lib.hid awake15_any
  have hf : Few p 300 := ⟨l0, l1, l2, l3⟩
  have hg := fun w => glue15_any h p w hm hf
  rw [e] at hg
  have hz := glue_size hm hf e
  unfold sumP at hz
  have hct := fun w => cut15_any ((glueN h p).1 ++ b) w (by rw [ByteArray.size_append]; omega)
  unfold CutEnd at hct
  rw [cut_glue hm hf e b] at hct
  dsimp only at hct
  have hct2 := fun w => cut15_any ((glueN h p).1.extract 0 ((glueN h p).1.size - 1)) w (by rw [ByteArray.size_extract]; omega)
  unfold CutEnd at hct2
  obtain ⟨hc1, hc2⟩ := cut_less hm hf e
  rw [hc1] at hct2
  have he2 : ((cutN ((glueN h p).1.extract 0 ((glueN h p).1.size - 1))).err != 0) = true := by simpa using hc2
  have zX2 := ar_head (cutN ((glueN h p).1.extract 0 ((glueN h p).1.size - 1))).h
  have hla := fun w => laid_any (hdOf h p) (glueN h p).1.size w (hd_may hm hf)
  rw [laid_glue hm hf e] at hla
  have heg := end_glue hm hf e
  have hwz : IntKind.u64.wrap ((glueN h p).1.size : Int) = ((glueN h p).1.size : Int) := by rw [IntKind.wrap_u64]; omega
  have hen : ∀ w, Calls Try.prog 19 #[.agg #[.int .u64 (hdOf h p).df, .int .u64 (hdOf h p).dl]] w fun e w' => e = .returned (.int .u64 (glueN h p).1.size) ∧ Below w.heap.size w w' := fun w => (end_sec (hdOf h p).df (hdOf h p).dl w).mono fun e w' ⟨h1, h2⟩ => ⟨by rw [h1, heg, hwz], h2⟩
  have hO := fun w => own_any h w
  have hw1 : ∀ w, Calls Try.prog 10 #[.agg (cH (hdOf h p)), .agg (sArr zeroSc)] w fun e w' => e = .returned (.agg (cH (withN h zeroSc))) ∧ Below w.heap.size w w' := fun w => with15_any (hdOf h p) zeroSc w
  have hw2 := fun w => with15_any h zeroSc w
  have hee := fun w => eq_head (withN h zeroSc) (withN h zeroSc) w
  simp only [decide_true] at hee
  have hss : ∀ w, (Op.equalIn 10000 44 (.agg (pArr p)) (.agg (pArr p))).run Try.prog w = .ok true w := fun w => same_str4 p.p0 p.p1 p.p2 p.p3 w
  have hzz : ∀ w, (Op.equalIn 10000 44 (.agg (pArr zeroPt)) (.agg #[.string { data := #[] }, .string { data := #[] }, .string { data := #[] }, .string { data := #[] }])).run Try.prog w = .ok true w := fun w => same_str4 noB noB noB noB w
  have x6 : (cH (hdOf h p))[6]? = some (.int .u64 (hdOf h p).df) := rfl
  have x7 : (cH (hdOf h p))[7]? = some (.int .u64 (hdOf h p).dl) := rfl
  have zH := ar_rhead h
  have zP := ar_str p
  have zX := ar_head (hdOf h p)
  have zZ := ar_str zeroPt
  have hz8 : sArr zeroSc = #[.int .u64 0, .int .u64 0, .int .u64 0, .int .u64 0, .int .u64 0, .int .u64 0, .int .u64 0, .int .u64 0] := rfl
  rw [hz8] at hw1 hw2
  generalize (cutN ((glueN h p).1.extract 0 ((glueN h p).1.size - 1))).err = e2 at *
  generalize cH (cutN ((glueN h p).1.extract 0 ((glueN h p).1.size - 1))).h = X2 at *
  generalize (glueN h p).1 = G at *
  generalize pArr zeroPt = Zp at *
  generalize cH (withN h zeroSc) = WZ at *
  generalize cH (hdOf h p) = X at *
  generalize (hdOf h p).df = D6 at *
  generalize (hdOf h p).dl = D7 at *
  obtain ⟨p0, p1, p2, p3⟩ := p
  dsimp only at l0 l1 l2 l3 hz
  have q0 : (pArr ⟨p0, p1, p2, p3⟩)[0]? = some (.string p0) := rfl
  have q1 : (pArr ⟨p0, p1, p2, p3⟩)[1]? = some (.string p1) := rfl
  have q2 : (pArr ⟨p0, p1, p2, p3⟩)[2]? = some (.string p2) := rfl
  have q3 : (pArr ⟨p0, p1, p2, p3⟩)[3]? = some (.string p3) := rfl
  generalize cH h = Hc at *
  generalize pArr ⟨p0, p1, p2, p3⟩ = P at *
  have d0 : decide (300 < (p0.size : Int)) = false := by simp; omega
  have d1 : decide (300 < (p1.size : Int)) = false := by simp; omega
  have d2 : decide (300 < (p2.size : Int)) = false := by simp; omega
  have d3 : decide (300 < (p3.size : Int)) = false := by simp; omega
  have d4 : decide (100 < (b.size : Int)) = false := by simp; omega
  have hgn : ((G.size : Int) != 127 + ((p0.size : Int) + (p1.size : Int) + (p2.size : Int) + (p3.size : Int))) = false := by simp; omega
  have hgl : G.size ≤ 1327 := by omega
  have hg1 : 1 ≤ (G.size : Int) := by omega
  have hg2 : (G.size : Int) ≤ 1327 := by omega
  have hw5 : IntKind.u64.wrap (G.size : Int) = (G.size : Int) := by rw [IntKind.wrap_u64]; omega
  have HG := Lib.hid hg
  have HCT := Lib.hid hct
  have HCT2 := Lib.hid hct2
  have HLA := Lib.hid hla
  have HEN := Lib.hid hen
  have HO := Lib.hid hO
  have HW1 := Lib.hid hw1
  have HW2 := Lib.hid hw2
  have ZH := Lib.hid zH
  have ZP := Lib.hid zP
  have ZX := Lib.hid zX
  have ZX2 := Lib.hid zX2
  have ZZ := Lib.hid zZ
  have X6 := Lib.hid x6
  have X7 := Lib.hid x7
  clear hg hct hct2 hla hen hO hw1 hw2 zH zP zX zX2 zZ x6 x7 hm e hz heg hc1 hc2 hf hz8
  obtain ⟨W0, hW0⟩ : ∃ W0, (w.alloc (.cells Hc 27)).alloc (.cells P 44) = W0 := ⟨_, rfl⟩
  have HH0 : Hid (W0.heap[w.heap.size]? = some (.cells Hc 27 (0, 0))) := Lib.hid (by rw [← hW0]; exact (heap_alloc_old (by simp)).trans (heap_new15 w _))
  have HP0 : Hid (W0.heap[w.heap.size + 1]? = some (.cells P 44 (0, 0))) := Lib.hid (by
    have := heap_new15 (w.alloc (.cells Hc 27)) (.cells P 44)
    rw [World.size_alloc] at this
    rw [← hW0]
    exact this)
  have HB0 : Hid (Below w.heap.size w W0) := Lib.hid (by rw [← hW0]; exact ((Below.refl _ w).alloc (Nat.le_refl _) _).alloc (by simp) _)
  have s0 := (cell_blk HP0.out 0).trans q0
  have s1 := (cell_blk HP0.out 1).trans q1
  have s2 := (cell_blk HP0.out 2).trans q2
  have s3 := (cell_blk HP0.out 3).trans q3
  clear q0 q1 q2 q3
  go_enter Try.func5, Try.ntmps5
  go_upto_region 1 with fail
  try rw [hW0]
  clear hW0
  go_wp2_with fail
  refine wp_loop_rounds 5 ?_
  rw [rounds_succ]
  go_wp2_with fail
  rw [rounds_succ]
  go_wp2_with fail
  rw [rounds_succ]
  go_wp2_with fail
  rw [rounds_succ]
  go_wp2_with fail
  rw [rounds_succ]
  go_upto_region 10 with fail
  clear s0 s1 s2 s3 d0 d1 d2 d3 d4
  generalize hg0 : w.heap.size = g0 at *
  have HG0 := Lib.hid hg0
  clear hg0
  have hS0 := keep_g1 (Below.drew (Below.refl _ _)) ⟨HH0.out, HP0.out, HB0.out⟩
  clear HH0 HP0 HB0
  refine wp_region_held_drew (S := fun w' => w'.heap[g0]? = some (.cells Hc 27 (0, 0)) ∧ w'.heap[g0 + 1]? = some (.cells P 44 (0, 0)) ∧ Below g0 w w') (by kernel_rfl) hS0 (fun hH0 => ?_)
  refine takeH (i := 0) (d := 38) rfl rfl (by kernel_rfl) (by kernel_rfl) (by kernel_rfl) (fun _ _ _ h => h) (yieldsIf_row (by rfl) 27 _ rfl _ rfl 27 Hc (fun w h => run_loadVar_row w _ _ 27 Hc (0, 0) _ h Try.underlying27 rfl ZH.out.sz) (fun _ H => H.1)) hH0 ?_
  try simp only [Act.put, List.setIfInBounds_toArray, List.set_cons_zero, List.set_cons_succ]
  refine takeH (i := 2) (d := 40) rfl rfl (by kernel_rfl) (by kernel_rfl) (by kernel_rfl) (fun _ _ _ h => h) (yieldsIf_row (by rfl) 44 _ rfl _ rfl 44 P (fun w h => run_loadVar_row w _ _ 44 P (0, 0) _ h Try.underlying44 rfl ZP.out.sz) (fun _ H => H.2.1)) hH0 ?_
  try simp only [Act.put, List.setIfInBounds_toArray, List.set_cons_zero, List.set_cons_succ]
  refine wpAnyH_ready (rs := [1]) (by kernel_rfl) (by simp) ?_
  refine AllReadyH.cons rfl (fun K hK => ?_) AllReadyH.nil
  go_simp
  refine (HO.out _).mono ?_
  rintro e w' ⟨rfl, hb⟩
  go_wp2_with fail
  refine hK.out _ _ (keep_g1 hb hH0) (fun hH1 => ?_)
  clear hK K hb hH0
  try simp only [Act.put, List.setIfInBounds_toArray, List.set_cons_zero, List.set_cons_succ]
  refine wpAnyH_ready (rs := [3]) (by kernel_rfl) (by simp) ?_
  refine AllReadyH.cons rfl (fun K hK => ?_) AllReadyH.nil
  go_simp
  refine (HG.out _).mono ?_
  rintro e w' ⟨rfl, hb⟩
  go_wp2_with fail
  refine hK.out _ _ (keep_g1 hb hH1) (fun hH2 => ?_)
  clear hK K hb hH1
  try simp only [Act.put, List.setIfInBounds_toArray, List.set_cons_zero, List.set_cons_succ]
  refine takeH (i := 4) (d := 37) (v := ?_) rfl rfl (by kernel_rfl) (by kernel_rfl) (by kernel_rfl) (fun _ _ _ h => h) (Or.inl ⟨by rfl, ?yag4⟩) hH2 ?_
  case yag4 => intro w hSw; go_simp; try with_reducible rfl
  try simp only [Act.put, List.setIfInBounds_toArray, List.set_cons_zero, List.set_cons_succ]
  refine takeH (i := 5) (d := 42) (v := ?_) rfl rfl (by kernel_rfl) (by kernel_rfl) (by kernel_rfl) (fun _ _ _ h => h) (Or.inl ⟨by rfl, ?yag5⟩) hH2 ?_
  case yag5 => intro w hSw; go_simp; try with_reducible rfl
  try simp only [Act.put, List.setIfInBounds_toArray, List.set_cons_zero, List.set_cons_succ]
  refine takeH (i := 6) (d := 43) (v := ?_) rfl rfl (by kernel_rfl) (by kernel_rfl) (by kernel_rfl) (fun _ _ _ h => h) (Or.inl ⟨by rfl, ?yag6⟩) hH2 ?_
  case yag6 => intro w hSw; go_simp; try with_reducible rfl
  try simp only [Act.put, List.setIfInBounds_toArray, List.set_cons_zero, List.set_cons_succ]
  refine takeH (i := 7) (d := 9) (v := ?_) rfl rfl (by kernel_rfl) (by kernel_rfl) (by kernel_rfl) (fun _ _ _ h => h) (Or.inl ⟨by rfl, ?yag7⟩) hH2 ?_
  case yag7 => intro w hSw; go_simp; try with_reducible rfl
  try simp only [Act.put, List.setIfInBounds_toArray, List.set_cons_zero, List.set_cons_succ]
  refine takeH (i := 8) (d := 10) (v := ?_) rfl rfl (by kernel_rfl) (by kernel_rfl) (by kernel_rfl) (fun _ _ _ h => h) (Or.inl ⟨by rfl, ?yag8⟩) hH2 ?_
  case yag8 => intro w hSw; go_simp; try with_reducible rfl
  try simp only [Act.put, List.setIfInBounds_toArray, List.set_cons_zero, List.set_cons_succ]
  refine wpAnyH_done (by kernel_rfl) ?_ _
  have HH2 := Lib.hid hH2.1
  have HP2 := Lib.hid hH2.2.1
  have HB2 := Lib.hid hH2.2.2
  have HZ2 : Hid (g0 ≤ w'.heap.size) := Lib.hid (Nat.le_of_lt (Array.getElem?_eq_some_iff.1 HH2.out).1)
  clear hH2 hS0
  go_wp2_with fail
  refine (HCT.out _).mono ?_
  rintro e w4 ⟨rfl, hb4⟩
  have HB4 := Lib.hid (HB2.out.trans (hb4.mono HZ2.out))
  have HZ4 : Hid (g0 ≤ w4.heap.size) := Lib.hid (Nat.le_trans HZ2.out hb4.size)
  have HH4 := Lib.hid (hk_later hb4 HH2.out)
  have HP4 := Lib.hid (hk_later hb4 HP2.out)
  have HTW := Lib.hid (twog_of w4 #[.int .u64 0, .int .u64 0, .int .u64 0, .int .u64 0, .int .u64 0, .int .u64 0, .int .u64 0, .int .u64 0, .int .u64 0, .int .u64 0, .int .u64 0, .bool false, .int .u8 0, .int .u8 0, .int .u8 0, .int .i64 0, .int .i64 0, .int .i64 0, .int .i64 0, .int .i64 0, .int .i64 0, .int .i64 0, .int .i64 0, .int .i64 0] X 38 #[.string { data := #[] }, .string { data := #[] }, .string { data := #[] }, .string { data := #[] }] P 44 ZX.out.eq ZP.out.eq)
  clear hb4 HH2 HP2 HB2 HZ2
  go_upto_region 14 with (first | (refine wpList_store_row rfl 38 _ _ rfl w4.heap.size X rfl rfl 38 _ HTW.out.s1 ZX.out.sz ZX.out.eq ZX.out.one ?_) | (refine wpList_store_row rfl 44 _ _ rfl (w4.heap.size + 1) P rfl rfl 44 _ HTW.out.s2 ZP.out.sz ZP.out.eq ZP.out.one ?_) | fail)
  have hb5 := HTW.out.e3
  have HX5 := Lib.hid HTW.out.e1
  have HQ5 := Lib.hid HTW.out.e2
  have HH5 := Lib.hid (hk_later hb5 HH4.out)
  have HP5 := Lib.hid (hk_later hb5 HP4.out)
  have HB5 := Lib.hid (HB4.out.trans (hb5.mono HZ4.out))
  clear HTW HB4 HH4 HP4
  generalize (((w4.alloc (.cells #[.int .u64 0, .int .u64 0, .int .u64 0, .int .u64 0, .int .u64 0, .int .u64 0, .int .u64 0, .int .u64 0, .int .u64 0, .int .u64 0, .int .u64 0, .bool false, .int .u8 0, .int .u8 0, .int .u8 0, .int .i64 0, .int .i64 0, .int .i64 0, .int .i64 0, .int .i64 0, .int .i64 0, .int .i64 0, .int .i64 0, .int .i64 0] 38)).alloc (.cells #[.string { data := #[] }, .string { data := #[] }, .string { data := #[] }, .string { data := #[] }] 44)).setRow w4.heap.size X).setRow (w4.heap.size + 1) P = W5 at *
  have HZ5 : Hid (g0 ≤ W5.heap.size) := Lib.hid (Nat.le_trans HZ4.out hb5.size)
  clear hb5 HZ4
  generalize w4.heap.size = g4 at *
  go_wp2_with (first | (refine loadW_str (by rfl) _ rfl (g4 + 1) rfl _ P HQ5.out ZP.out.sz ?_) | (refine loadW_str (by rfl) _ rfl (g0 + 1) rfl _ P HP5.out ZP.out.sz ?_) | (refine loadW_hd (by rfl) _ rfl g4 rfl _ X HX5.out ZX.out.sz ?_) | fail)
  refine (HLA.out _).mono ?_
  rintro e w6 ⟨rfl, hb6⟩
  have HX6 := Lib.hid (hk_later hb6 HX5.out)
  have HH6 := Lib.hid (hk_later hb6 HH5.out)
  have HB6 := Lib.hid (HB5.out.trans (hb6.mono HZ5.out))
  have HZ6 : Hid (g0 ≤ w6.heap.size) := Lib.hid (Nat.le_trans HZ5.out hb6.size)
  have c6 := (cell_blk HX6.out 6).trans X6.out
  have c7 := (cell_blk HX6.out 7).trans X7.out
  clear hb6 HX5 HH5 HP5 HQ5 HB5 HZ5
  go_wp2_with fail
  refine (HEN.out _).mono ?_
  rintro e w7 ⟨rfl, hb7⟩
  have HX7 := Lib.hid (hk_later hb7 HX6.out)
  have HH7 := Lib.hid (hk_later hb7 HH6.out)
  have HB7 := Lib.hid (HB6.out.trans (hb7.mono HZ6.out))
  have HZ7 : Hid (g0 ≤ w7.heap.size) := Lib.hid (Nat.le_trans HZ6.out hb7.size)
  clear hb7 HX6 HH6 HB6 HZ6 c6 c7
  go_wp2_with fail
  refine (HCT2.out _).mono ?_
  rintro e w8 ⟨rfl, hb8⟩
  have HX8 := Lib.hid (hk_later hb8 HX7.out)
  have HH8 := Lib.hid (hk_later hb8 HH7.out)
  have HB8 := Lib.hid (HB7.out.trans (hb8.mono HZ7.out))
  have HZ8 : Hid (g0 ≤ w8.heap.size) := Lib.hid (Nat.le_trans HZ7.out hb8.size)
  have HTW := Lib.hid (twog_of w8 #[.int .u64 0, .int .u64 0, .int .u64 0, .int .u64 0, .int .u64 0, .int .u64 0, .int .u64 0, .int .u64 0, .int .u64 0, .int .u64 0, .int .u64 0, .bool false, .int .u8 0, .int .u8 0, .int .u8 0, .int .i64 0, .int .i64 0, .int .i64 0, .int .i64 0, .int .i64 0, .int .i64 0, .int .i64 0, .int .i64 0, .int .i64 0] X2 38 #[.string { data := #[] }, .string { data := #[] }, .string { data := #[] }, .string { data := #[] }] Zp 44 ZX2.out.eq ZZ.out.eq)
  clear hb8 HX7 HH7 HB7 HZ7
  go_upto_region 17 with (first | (refine wpList_store_row rfl 38 _ _ rfl w8.heap.size X2 rfl rfl 38 _ HTW.out.s1 ZX2.out.sz ZX2.out.eq ZX2.out.one ?_) | (refine wpList_store_row rfl 44 _ _ rfl (w8.heap.size + 1) Zp rfl rfl 44 _ HTW.out.s2 ZZ.out.sz ZZ.out.eq ZZ.out.one ?_) | fail)
  have hb9 := HTW.out.e3
  have HQ9 := Lib.hid HTW.out.e2
  have HX9 := Lib.hid (hk_later hb9 HX8.out)
  have HH9 := Lib.hid (hk_later hb9 HH8.out)
  have HB9 := Lib.hid (HB8.out.trans (hb9.mono HZ8.out))
  clear HTW HB8 HH8 HX8 hb9 HZ8
  generalize (((w8.alloc (.cells #[.int .u64 0, .int .u64 0, .int .u64 0, .int .u64 0, .int .u64 0, .int .u64 0, .int .u64 0, .int .u64 0, .int .u64 0, .int .u64 0, .int .u64 0, .bool false, .int .u8 0, .int .u8 0, .int .u8 0, .int .i64 0, .int .i64 0, .int .i64 0, .int .i64 0, .int .i64 0, .int .i64 0, .int .i64 0, .int .i64 0, .int .i64 0] 38)).alloc (.cells #[.string { data := #[] }, .string { data := #[] }, .string { data := #[] }, .string { data := #[] }] 44)).setRow w8.heap.size X2).setRow (w8.heap.size + 1) Zp = W9 at *
  generalize w8.heap.size = g6 at *
  have hS1 := keep_b2 (Below.drew (Below.refl _ _)) ⟨HH9.out, HX9.out, HQ9.out, HB9.out⟩
  clear HH9 HX9 HQ9 HB9
  refine wp_region_held_drew (S := fun w' => w'.heap[g0]? = some (.cells Hc 27 (0, 0)) ∧ w'.heap[g4]? = some (.cells X 38 (0, 0)) ∧ w'.heap[g6 + 1]? = some (.cells Zp 44 (0, 0)) ∧ Below g0 w w') (by kernel_rfl) hS1 (fun hH0 => ?_)
  refine takeH (i := 0) (d := 100) (v := ?_) rfl rfl (by kernel_rfl) (by kernel_rfl) (by kernel_rfl) (fun _ _ _ h => h) (Or.inl ⟨by rfl, ?yb0⟩) hH0 ?_
  case yb0 => intro w hSw; go_simp; try with_reducible rfl
  try simp only [Act.put, List.setIfInBounds_toArray, List.set_cons_zero, List.set_cons_succ]
  refine takeH (i := 1) (d := 101) (v := ?_) rfl rfl (by kernel_rfl) (by kernel_rfl) (by kernel_rfl) (fun _ _ _ h => h) (Or.inl ⟨by rfl, ?yb1⟩) hH0 ?_
  case yb1 => intro w hSw; go_simp; try with_reducible rfl
  try simp only [Act.put, List.setIfInBounds_toArray, List.set_cons_zero, List.set_cons_succ]
  refine takeH (i := 2) (d := 102) (v := ?_) rfl rfl (by kernel_rfl) (by kernel_rfl) (by kernel_rfl) (fun _ _ _ h => h) (Or.inl ⟨by rfl, ?yb2⟩) hH0 ?_
  case yb2 => intro w hSw; go_simp; try with_reducible rfl
  try simp only [Act.put, List.setIfInBounds_toArray, List.set_cons_zero, List.set_cons_succ]
  refine takeH (i := 3) (d := 103) rfl rfl (by kernel_rfl) (by kernel_rfl) (by kernel_rfl) (fun _ _ _ h => h) (yieldsIf_row (by rfl) 44 _ rfl _ rfl 44 Zp (fun w h => run_loadVar_row w _ _ 44 Zp (0, 0) _ h Try.underlying44 rfl ZZ.out.sz) (fun _ H => H.2.2.1)) hH0 ?_
  try simp only [Act.put, List.setIfInBounds_toArray, List.set_cons_zero, List.set_cons_succ]
  refine takeH (i := 4) (d := 104) (v := ?_) rfl rfl (by kernel_rfl) (by kernel_rfl) (by kernel_rfl) (fun _ _ _ h => h) (Or.inl ⟨by rfl, ?yb4⟩) hH0 ?_
  case yb4 => intro w hSw; go_simp; try with_reducible rfl
  try simp only [Act.put, List.setIfInBounds_toArray, List.set_cons_zero, List.set_cons_succ]
  refine takeH (i := 5) (d := 105) (v := ?_) rfl rfl (by kernel_rfl) (by kernel_rfl) (by kernel_rfl) (fun _ _ _ h => h) (Or.inl ⟨by rfl, ?yb5⟩) hH0 ?_
  case yb5 => intro w hSw; go_simp; try with_reducible rfl
  try simp only [Act.put, List.setIfInBounds_toArray, List.set_cons_zero, List.set_cons_succ]
  refine takeH (i := 6) (d := 106) (v := ?_) rfl rfl (by kernel_rfl) (by kernel_rfl) (by kernel_rfl) (fun _ _ _ h => h) (Or.inl ⟨by rfl, ?yb6⟩) hH0 ?_
  case yb6 => intro w hSw; go_simp; try with_reducible rfl
  try simp only [Act.put, List.setIfInBounds_toArray, List.set_cons_zero, List.set_cons_succ]
  refine takeH (i := 7) (d := 107) (v := ?_) rfl rfl (by kernel_rfl) (by kernel_rfl) (by kernel_rfl) (fun _ _ _ h => h) (Or.inl ⟨by rfl, ?yb7⟩) hH0 ?_
  case yb7 => intro w hSw; go_simp; try with_reducible rfl
  try simp only [Act.put, List.setIfInBounds_toArray, List.set_cons_zero, List.set_cons_succ]
  refine takeH (i := 8) (d := 108) rfl rfl (by kernel_rfl) (by kernel_rfl) (by kernel_rfl) (fun _ _ _ h => h) (yieldsIf_row (by rfl) 38 _ rfl _ rfl 38 X (fun w h => run_loadVar_row w _ _ 38 X (0, 0) _ h Try.underlying38 rfl ZX.out.sz) (fun _ H => H.2.1)) hH0 ?_
  try simp only [Act.put, List.setIfInBounds_toArray, List.set_cons_zero, List.set_cons_succ]
  refine takeH (i := 9) (d := 109) (v := ?_) rfl rfl (by kernel_rfl) (by kernel_rfl) (by kernel_rfl) (fun _ _ _ h => h) (Or.inl ⟨by rfl, ?yb9⟩) hH0 ?_
  case yb9 => intro w hSw; go_simp; try with_reducible rfl
  try simp only [Act.put, List.setIfInBounds_toArray, List.set_cons_zero, List.set_cons_succ]
  refine takeH (i := 11) (d := 111) rfl rfl (by kernel_rfl) (by kernel_rfl) (by kernel_rfl) (fun _ _ _ h => h) (yieldsIf_row (by rfl) 27 _ rfl _ rfl 27 Hc (fun w h => run_loadVar_row w _ _ 27 Hc (0, 0) _ h Try.underlying27 rfl ZH.out.sz) (fun _ H => H.1)) hH0 ?_
  try simp only [Act.put, List.setIfInBounds_toArray, List.set_cons_zero, List.set_cons_succ]
  refine takeH (i := 13) (d := 113) (v := ?_) rfl rfl (by kernel_rfl) (by kernel_rfl) (by kernel_rfl) (fun _ _ _ h => h) (Or.inl ⟨by rfl, ?yb13⟩) hH0 ?_
  case yb13 => intro w hSw; go_simp; try with_reducible rfl
  try simp only [Act.put, List.setIfInBounds_toArray, List.set_cons_zero, List.set_cons_succ]
  refine wpAnyH_ready (rs := [10]) (by kernel_rfl) (by simp) ?_
  refine AllReadyH.cons rfl (fun K hK => ?_) AllReadyH.nil
  go_simp
  refine (HW1.out _).mono ?_
  rintro e w' ⟨rfl, hb⟩
  go_wp2_with fail
  refine hK.out _ _ (keep_b2 hb hH0) (fun hH1 => ?_)
  clear hK K hb hH0
  try simp only [Act.put, List.setIfInBounds_toArray, List.set_cons_zero, List.set_cons_succ]
  refine wpAnyH_ready (rs := [12]) (by kernel_rfl) (by simp) ?_
  refine AllReadyH.cons rfl (fun K hK => ?_) AllReadyH.nil
  go_simp
  refine (HO.out _).mono ?_
  rintro e w' ⟨rfl, hb⟩
  go_wp2_with fail
  refine hK.out _ _ (keep_b2 hb hH1) (fun hH2 => ?_)
  clear hK K hb hH1
  try simp only [Act.put, List.setIfInBounds_toArray, List.set_cons_zero, List.set_cons_succ]
  refine wpAnyH_ready (rs := [14]) (by kernel_rfl) (by simp) ?_
  refine AllReadyH.cons rfl (fun K hK => ?_) AllReadyH.nil
  go_simp
  refine (HW2.out _).mono ?_
  rintro e w' ⟨rfl, hb⟩
  go_wp2_with fail
  refine hK.out _ _ (keep_b2 hb hH2) (fun hH3 => ?_)
  clear hK K hb hH2
  try simp only [Act.put, List.setIfInBounds_toArray, List.set_cons_zero, List.set_cons_succ]
  refine takeH (i := 15) (d := 115) (v := ?_) rfl rfl (by kernel_rfl) (by kernel_rfl) (by kernel_rfl) (fun _ _ _ h => h) (Or.inl ⟨by rfl, ?yb15⟩) hH3 ?_
  case yb15 => intro w hSw; go_simp; try with_reducible rfl
  try simp only [Act.put, List.setIfInBounds_toArray, List.set_cons_zero, List.set_cons_succ]
  refine takeH (i := 16) (d := 116) (v := ?_) rfl rfl (by kernel_rfl) (by kernel_rfl) (by kernel_rfl) (fun _ _ _ h => h) (Or.inl ⟨by rfl, ?yb16⟩) hH3 ?_
  case yb16 => intro w hSw; go_simp; try with_reducible rfl
  try simp only [Act.put, List.setIfInBounds_toArray, List.set_cons_zero, List.set_cons_succ]
  refine takeH (i := 17) (d := 117) (v := ?_) rfl rfl (by kernel_rfl) (by kernel_rfl) (by kernel_rfl) (fun _ _ _ h => h) (Or.inl ⟨by rfl, ?yb17⟩) hH3 ?_
  case yb17 => intro w hSw; go_simp; try with_reducible rfl
  try simp only [Act.put, List.setIfInBounds_toArray, List.set_cons_zero, List.set_cons_succ]
  refine wpAnyH_ready (rs := [18]) (by kernel_rfl) (by simp) ?_
  refine AllReadyH.cons rfl (fun K hK => ?_) AllReadyH.nil
  go_simp
  refine (HA.out _).mono ?_
  rintro e w' ⟨rfl, hb⟩
  go_wp2_with fail
  refine hK.out _ _ (keep_b2 hb hH3) (fun hH4 => ?_)
  clear hK K hb hH3
  try simp only [Act.put, List.setIfInBounds_toArray, List.set_cons_zero, List.set_cons_succ]
  refine takeH (i := 19) (d := 119) (v := ?_) rfl rfl (by kernel_rfl) (by kernel_rfl) (by kernel_rfl) (fun _ _ _ h => h) (Or.inl ⟨by rfl, ?yb19⟩) hH4 ?_
  case yb19 => intro w hSw; go_simp; try with_reducible rfl
  try simp only [Act.put, List.setIfInBounds_toArray, List.set_cons_zero, List.set_cons_succ]
  refine takeH (i := 20) (d := 6) (v := ?_) rfl rfl (by kernel_rfl) (by kernel_rfl) (by kernel_rfl) (fun _ _ _ h => h) (Or.inl ⟨by rfl, ?yb20⟩) hH4 ?_
  case yb20 => intro w hSw; go_simp; try with_reducible rfl
  try simp only [Act.put, List.setIfInBounds_toArray, List.set_cons_zero, List.set_cons_succ]
  refine wpAnyH_done (by kernel_rfl) ?_ _
  go_wp2_with fail
  go_ret
  exact ⟨rfl, by rw [HG0.out]; exact hH4.2.2.2⟩
theorem layoutback_law (h : Hd) (p : Pt) (b : ByteArray) (w : World) (hm : MayH h) (hp : Few p maxLen) (hs : b.size ≤ maxLen) : Calls Try.prog 5 #[.agg (cH h), .agg (pArr p), .string b] w fun e w' => e = .returned (.bool true) ∧ Below w.heap.size w w' := by
  by_cases l0 : p.p0.size ≤ 300
  · by_cases l1 : p.p1.size ≤ 300
    · by_cases l2 : p.p2.size ≤ 300
      · by_cases l3 : p.p3.size ≤ 300
        · by_cases hl : b.size ≤ 100
          · by_cases e : (glueN h p).2 = 0
            · exact back_good h p b w hm l0 l1 l2 l3 hl e
            · exact back_bad h p b w hm l0 l1 l2 l3 hl e
          · exact back_longs h p b w hm l0 l1 l2 l3 (by omega)
        · exact back_long3 h p b w hm l0 l1 l2 (by omega)
      · exact back_long2 h p b w hm l0 l1 (by omega)
    · exact back_long1 h p b w hm l0 (by omega)
  · exact back_long0 h p b w hm (by omega)
end Go.Proofs.Ytkhlkjhfgfjadaa
