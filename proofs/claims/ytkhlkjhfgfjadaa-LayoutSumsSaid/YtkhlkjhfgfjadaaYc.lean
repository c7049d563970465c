/- The document's With. -/
import Derived.Test.YtkhlkjhfgfjadaaYb
namespace Go.Proofs.Ytkhlkjhfgfjadaa
open Go.RowKit
set_option maxRecDepth 100000
set_option linter.unusedVariables false
set_option linter.unusedSimpArgs false
/-- The eight cells of a header's sections, set. -/
theorem HAt.secs {w : World} {b : Nat} {T : TypeId} {h : Hd} (H : HAt w b T h) (s : Sc) : HAt ((((((((w.setCell ⟨b, 0, none⟩ (.int .u64 s.rf)).setCell ⟨b, 1, none⟩ (.int .u64 s.rl)).setCell ⟨b, 2, none⟩ (.int .u64 s.mf)).setCell ⟨b, 3, none⟩ (.int .u64 s.ml)).setCell ⟨b, 4, none⟩ (.int .u64 s.lf)).setCell ⟨b, 5, none⟩ (.int .u64 s.ll)).setCell ⟨b, 6, none⟩ (.int .u64 s.df)).setCell ⟨b, 7, none⟩ (.int .u64 s.dl)) b T (withN h s) := by
  unfold HAt at H ⊢
  have := hset (hset (hset (hset (hset (hset (hset (hset H 0 (.int .u64 s.rf)) 1 (.int .u64 s.rl)) 2 (.int .u64 s.mf)) 3 (.int .u64 s.ml)) 4 (.int .u64 s.lf)) 5 (.int .u64 s.ll)) 6 (.int .u64 s.df)) 7 (.int .u64 s.dl)
  simp only [cH, List.setIfInBounds_toArray, List.set_cons_zero, List.set_cons_succ] at this
  exact this
theorem HAt.secs_far {w : World} {b b' : Nat} {T : TypeId} {h : Hd} (H : HAt w b T h) (hn : b ≠ b') (s : Sc) : HAt ((((((((w.setCell ⟨b', 0, none⟩ (.int .u64 s.rf)).setCell ⟨b', 1, none⟩ (.int .u64 s.rl)).setCell ⟨b', 2, none⟩ (.int .u64 s.mf)).setCell ⟨b', 3, none⟩ (.int .u64 s.ml)).setCell ⟨b', 4, none⟩ (.int .u64 s.lf)).setCell ⟨b', 5, none⟩ (.int .u64 s.ll)).setCell ⟨b', 6, none⟩ (.int .u64 s.df)).setCell ⟨b', 7, none⟩ (.int .u64 s.dl)) b T h := by
  unfold HAt at H ⊢
  exact hother (hother (hother (hother (hother (hother (hother (hother H hn _ _) hn _ _) hn _ _) hn _ _) hn _ _) hn _ _) hn _ _) hn _ _
theorem below_secs {w0 w : World} {B b' : Nat} (H : Below B w0 w) (hn : B ≤ b') (s : Sc) : Below B w0 ((((((((w.setCell ⟨b', 0, none⟩ (.int .u64 s.rf)).setCell ⟨b', 1, none⟩ (.int .u64 s.rl)).setCell ⟨b', 2, none⟩ (.int .u64 s.mf)).setCell ⟨b', 3, none⟩ (.int .u64 s.ml)).setCell ⟨b', 4, none⟩ (.int .u64 s.lf)).setCell ⟨b', 5, none⟩ (.int .u64 s.ll)).setCell ⟨b', 6, none⟩ (.int .u64 s.df)).setCell ⟨b', 7, none⟩ (.int .u64 s.dl)) :=
  (((((((H.setCell (p := ⟨b', 0, none⟩) hn _).setCell (p := ⟨b', 1, none⟩) hn _).setCell (p := ⟨b', 2, none⟩) hn _).setCell (p := ⟨b', 3, none⟩) hn _).setCell (p := ⟨b', 4, none⟩) hn _).setCell (p := ⟨b', 5, none⟩) hn _).setCell (p := ⟨b', 6, none⟩) hn _).setCell (p := ⟨b', 7, none⟩) hn _
set_option maxHeartbeats 4000000 in
theorem rwith_any (h : Hd) (s : Sc) (w : World) : Calls Try.prog 12 #[.agg (cH h), .agg (sArr s)] w fun e w' => e = .returned (.agg (cH (withN h s))) ∧ Below w.heap.size w w' := by
  obtain ⟨W, hW⟩ : ∃ W, ((w.alloc (.cells (cH h) 27)).alloc (.cells (sArr s) 28)).alloc (.cells (cH zeroH) 27) = W := ⟨_, rfl⟩
  have h0 : HAt W w.heap.size 27 h := by
    rw [← hW]
    exact (heap_alloc_old (by simp; omega)).trans ((heap_alloc_old (by simp)).trans (HAt.made w h _))
  have h1 : Box W (w.heap.size + 1) (sArr s) := by
    have := box_new (w.alloc (.cells (cH h) 27)) (sArr s) 28
    rw [World.size_alloc] at this
    rw [← hW]
    exact this.below ((Below.refl _ _).alloc (Nat.le_refl _) _)
  have h2 : HAt W (w.heap.size + 1 + 1) 27 zeroH := by
    have := HAt.made ((w.alloc (.cells (cH h) 27)).alloc (.cells (sArr s) 28)) zeroH 27
    simp only [World.size_alloc] at this
    rw [← hW]
    exact this
  have hbw : Below w.heap.size w W := by rw [← hW]; exact (((Below.refl _ w).alloc (Nat.le_refl _) _).alloc (by simp) _).alloc (by simp; omega) _
  have s0 := h1.cell 0
  have s1 := h1.cell 1
  have s2 := h1.cell 2
  have s3 := h1.cell 3
  have s4 := h1.cell 4
  have s5 := h1.cell 5
  have s6 := h1.cell 6
  have s7 := h1.cell 7
  simp [sArr] at s0 s1 s2 s3 s4 s5 s6 s7
  have c0 := cell_blk h0 0
  have c1 := cell_blk h0 1
  have c2 := cell_blk h0 2
  have c3 := cell_blk h0 3
  have c4 := cell_blk h0 4
  have c5 := cell_blk h0 5
  have c6 := cell_blk h0 6
  have c7 := cell_blk h0 7
  simp [cH] at c0 c1 c2 c3 c4 c5 c6 c7
  have f0 : ∀ j, W.frozen? ⟨w.heap.size, j, none⟩ = false := fun j => by unfold HAt at h0; simp [World.frozen?, h0]
  have H0 := Lib.hid h0
  have H2 := Lib.hid h2
  have HBW := Lib.hid hbw
  clear h0 h1 h2 hbw
  have hz : cH zeroH = #[.int .u64 0, .int .u64 0, .int .u64 0, .int .u64 0, .int .u64 0, .int .u64 0, .int .u64 0, .int .u64 0, .int .u64 0, .int .u64 0, .int .u64 0, .bool false, .int .u8 0, .int .u8 0, .int .u8 0, .int .i64 0, .int .i64 0, .int .i64 0, .int .i64 0, .int .i64 0, .int .i64 0, .int .i64 0, .int .i64 0, .int .i64 0] := rfl
  rw [hz] at hW
  clear hz
  generalize hc : cH (withN h s) = R
  have HR := Lib.hid hc
  clear hc
  generalize hk : cH h = Hc at *
  have HK := Lib.hid hk
  clear hk
  unfold sArr at hW ⊢
  go_enter Try.func12, Try.ntmps12
  go_upto_region 1 with fail
  try rw [hW]
  clear hW
  go_cut [] (fun wx => HAt wx w.heap.size 27 (withN h s) ∧ HAt wx (w.heap.size + 1 + 1) 27 zeroH ∧ Below w.heap.size w wx)
  case first =>
    go_region
    all_goals
      go_wp2_with fail
      go_meet
      case rel => exact ⟨HAt.later (HAt.secs H0.out s) (Below.drew (Below.refl _ _)), HAt.later (HAt.secs_far H2.out (by omega) s) (Below.drew (Below.refl _ _)), Below.drew (below_secs HBW.out (Nat.le_refl _) s)⟩
  case rest =>
    obtain ⟨hA, hZ, hB⟩ := hcut
    generalize wc = W2 at *
    have HA := Lib.hid hA
    have HZ := Lib.hid hZ
    have HB := Lib.hid hB
    clear hA hZ hB s0 s1 s2 s3 s4 s5 s6 s7 c0 c1 c2 c3 c4 c5 c6 c7 f0 H0 H2 HBW
    generalize hx : withN h s = X at *
    go_wp2_with (first | (refine wpList_load_row rfl 27 _ rfl w.heap.size rfl 27 (cH X) (0, 0) _ HA.out Try.underlying27 rfl rhead_size ?_) | (refine wpList_store_row rfl 27 _ _ rfl (w.heap.size + 1 + 1) (cH X) rfl rfl 27 (cH zeroH) HZ.out rhead_size rfl (cH_one X) ?_) | fail)
    have hp := put24 W2 (w.heap.size + 1 + 1) _ zeroH X HZ.out
    refine bodyPost_ret (results_cell_row rfl _ _ (w.heap.size + 1 + 1) 27 (cH X) (0, 0) _ rfl hp.1 Try.underlying27 rfl rhead_size) rfl ⟨by rw [HR.out], hp.2.2.1 _ _ (by omega) HB.out⟩
end Go.Proofs.Ytkhlkjhfgfjadaa
