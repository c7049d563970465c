/- The contract of 'awake', which every law of this layer ends in: it returns true, whatever the world, and what was there stays. -/
import Derived.Test.YtdgohnpkpijmbaaPg
namespace Go.Proofs.Ytdgohnpkpijmbaa
open Go.RowKit
set_option linter.unusedVariables false
set_option linter.unusedSimpArgs false
theorem ens_built (w : World) (l : List En) (T : TypeId) (n : Nat) (hn : n = w.heap.size) (h : l.length ≤ maxLen) : EnsAt (w.alloc (.cells (flat4 l).toArray T)) (.slice (some ⟨n, 0, none⟩) l.length l.length) l := by
  subst hn
  refine ⟨_, _, rfl, Nat.le_refl _, h, fun k t ht => ⟨w.heap.size, 0, rfl, by rw [World.size_alloc]; omega, ?_⟩⟩
  obtain ⟨f0, f1, f2, f3⟩ := flat4_at l k t ht
  simp only [World.cell?_alloc_mark, Nat.zero_add, List.getElem?_toArray]
  exact ⟨f0, f1, f2, f3⟩
def l1 : List En := [⟨5, 0, 2, 3⟩, ⟨8, 2, 1, 0⟩]
def l2 : List En := [⟨5, 0, 2, 3⟩, ⟨7, 0, 1, 0⟩]
theorem may1 : MaysN l1 := by intro e he; simp only [l1, List.mem_cons, List.not_mem_nil, or_false] at he; rcases he with rfl | rfl <;> simp [MayN]
theorem may2 : MaysN l2 := by intro e he; simp only [l2, List.mem_cons, List.not_mem_nil, or_false] at he; rcases he with rfl | rfl <;> simp [MayN]
theorem mayA : MayN ⟨5, 0, 2, 3⟩ := by simp [MayN]
theorem mayB : MayN ⟨8, 2, 1, 0⟩ := by simp [MayN]
theorem row1 : rowN l1 = 0 := by decide
theorem row2 : rowN l2 = 10 := by decide
theorem ck3 : ckN ⟨0, 0, 0, 1⟩ = 2 := by decide
theorem laA : laN ⟨5, 0, 2, 3⟩ = 7 := by decide
theorem laB : laN ⟨8, 2, 1, 0⟩ = 8 := by decide
theorem hasA : hasN ⟨5, 0, 2, 3⟩ 7 = true := by decide
theorem hasB : hasN ⟨8, 2, 1, 0⟩ 8 = false := by decide
theorem cnt1 : cntN l1 = 3 := by decide
theorem con1 : ((conN l1 : Nat) : Int) = 1 := by decide
theorem en1 : enN l1 = 3 := by decide
theorem same1 : decide (l1 = l1) = true := by decide
theorem same2 : decide (l1 = l2) = false := by decide
theorem cells_l1 {w : World} {b : Nat} (h : EnsAt w (.slice (some ⟨b, 0, none⟩) 2 2) l1) : w.cell? ⟨b, 0, none⟩ = some (.int .u64 5) ∧ w.cell? ⟨b, 1, none⟩ = some (.int .u64 0) ∧ w.cell? ⟨b, 2, none⟩ = some (.int .u32 2) ∧ w.cell? ⟨b, 3, none⟩ = some (.int .u32 3) ∧ w.cell? ⟨b, 4, none⟩ = some (.int .u64 8) ∧ w.cell? ⟨b, 5, none⟩ = some (.int .u64 2) ∧ w.cell? ⟨b, 6, none⟩ = some (.int .u32 1) ∧ w.cell? ⟨b, 7, none⟩ = some (.int .u32 0) := by
  obtain ⟨g, off, cap, hv, _, _, hc⟩ := ens_at h 0 (by simp [l1])
  obtain ⟨rfl, rfl⟩ : b = g ∧ 0 = off := by simp at hv; exact hv.1
  obtain ⟨c0, c1, c2, c3⟩ := hc 0 _ rfl
  obtain ⟨c4, c5, c6, c7⟩ := hc 1 _ rfl
  exact ⟨c0, c1, c2, c3, c4, c5, c6, c7⟩
theorem may3 : MayN ⟨0, 0, 0, 1⟩ := by simp [MayN]
theorem awake_start (w : World) : EnsAt ((w.alloc (.cells #[.int .u64 5, .int .u64 0, .int .u32 2, .int .u32 3, .int .u64 8, .int .u64 2, .int .u32 1, .int .u32 0] 26)).alloc (.cells #[.int .u64 5, .int .u64 0, .int .u32 2, .int .u32 3, .int .u64 7, .int .u64 0, .int .u32 1, .int .u32 0] 26)) (.slice (some ⟨w.heap.size, 0, none⟩) 2 2) l1 ∧ EnsAt ((w.alloc (.cells #[.int .u64 5, .int .u64 0, .int .u32 2, .int .u32 3, .int .u64 8, .int .u64 2, .int .u32 1, .int .u32 0] 26)).alloc (.cells #[.int .u64 5, .int .u64 0, .int .u32 2, .int .u32 3, .int .u64 7, .int .u64 0, .int .u32 1, .int .u32 0] 26)) (.slice (some ⟨w.heap.size + 1, 0, none⟩) 2 2) l2 ∧ Below w.heap.size w ((w.alloc (.cells #[.int .u64 5, .int .u64 0, .int .u32 2, .int .u32 3, .int .u64 8, .int .u64 2, .int .u32 1, .int .u32 0] 26)).alloc (.cells #[.int .u64 5, .int .u64 0, .int .u32 2, .int .u32 3, .int .u64 7, .int .u64 0, .int .u32 1, .int .u32 0] 26)) := by
  have hb1 : EnsAt (w.alloc (.cells #[.int .u64 5, .int .u64 0, .int .u32 2, .int .u32 3, .int .u64 8, .int .u64 2, .int .u32 1, .int .u32 0] 26)) (.slice (some ⟨w.heap.size, 0, none⟩) 2 2) l1 := ens_built w l1 26 _ rfl (by simp [l1, maxLen])
  obtain ⟨w1, h1⟩ : ∃ w1, w.alloc (.cells #[.int .u64 5, .int .u64 0, .int .u32 2, .int .u32 3, .int .u64 8, .int .u64 2, .int .u32 1, .int .u32 0] 26) = w1 := ⟨_, rfl⟩
  have hz : w1.heap.size = w.heap.size + 1 := by rw [← h1, World.size_alloc]
  have hU1 : Below w.heap.size w w1 := by rw [← h1]; exact (Below.refl _ _).alloc (Nat.le_refl _) _
  rw [h1] at hb1 ⊢
  have hb2 : EnsAt (w1.alloc (.cells #[.int .u64 5, .int .u64 0, .int .u32 2, .int .u32 3, .int .u64 7, .int .u64 0, .int .u32 1, .int .u32 0] 26)) (.slice (some ⟨w.heap.size + 1, 0, none⟩) 2 2) l2 := ens_built w1 l2 26 _ hz.symm (by simp [l2, maxLen])
  exact ⟨hb1.below ((Below.refl _ _).alloc (Nat.le_refl _) _), hb2, hU1.alloc (by omega) _⟩
set_option maxRecDepth 20000 in
set_option maxHeartbeats 2000000 in
theorem awakeN_any (w : World) : Calls Try.prog 13 #[] w fun e w' => e = .returned (.bool true) ∧ Below w.heap.size w w' := by
  have HB0 := Lib.hid (awake_start w)
  obtain ⟨W0, hW0⟩ : ∃ W0, (w.alloc (.cells #[.int .u64 5, .int .u64 0, .int .u32 2, .int .u32 3, .int .u64 8, .int .u64 2, .int .u32 1, .int .u32 0] 26)).alloc (.cells #[.int .u64 5, .int .u64 0, .int .u32 2, .int .u32 3, .int .u64 7, .int .u64 0, .int .u32 1, .int .u32 0] 26) = W0 := ⟨_, rfl⟩
  rw [hW0] at HB0
  go_enter Try.func13, Try.ntmps13
  go_wp2_with fail

  clear hW0
  refine (prow_any _ _ _ HB0.out.1 may1).mono ?_
  rintro e w1 ⟨rfl, hb⟩
  have HB1 := Lib.hid (And.intro (HB0.out.1.below hb) (And.intro (HB0.out.2.1.below hb) (HB0.out.2.2.trans (hb.mono HB0.out.2.2.size))))
  clear hb HB0
  rw [row1]
  obtain ⟨c0, c1, c2, c3, c4, c5, c6, c7⟩ := cells_l1 HB1.out.1
  go_wp2_with fail
  clear c0 c1 c2 c3 c4 c5 c6 c7
  refine (prow_any _ _ _ HB1.out.2.1 may2).mono ?_
  rintro e w2 ⟨rfl, hb⟩
  have HB2 := Lib.hid (And.intro (HB1.out.1.below hb) (And.intro (HB1.out.2.1.below hb) (HB1.out.2.2.trans (hb.mono HB1.out.2.2.size))))
  clear hb HB1
  rw [row2]
  obtain ⟨c0, c1, c2, c3, c4, c5, c6, c7⟩ := cells_l1 HB2.out.1
  go_wp2_with fail
  clear c0 c1 c2 c3 c4 c5 c6 c7
  refine (pcheck_any ⟨0, 0, 0, 1⟩ _ may3).mono ?_
  rintro e w3 ⟨rfl, hb⟩
  have HB3 := Lib.hid (And.intro (HB2.out.1.below hb) (And.intro (HB2.out.2.1.below hb) (HB2.out.2.2.trans (hb.mono HB2.out.2.2.size))))
  clear hb HB2
  rw [ck3]
  obtain ⟨c0, c1, c2, c3, c4, c5, c6, c7⟩ := cells_l1 HB3.out.1
  go_wp2_with fail
  clear c0 c1 c2 c3 c4 c5 c6 c7
  refine (plast_any ⟨5, 0, 2, 3⟩ _ mayA).mono ?_
  rintro e w4 ⟨rfl, hb⟩
  have HB4 := Lib.hid (And.intro (HB3.out.1.below hb) (And.intro (HB3.out.2.1.below hb) (HB3.out.2.2.trans (hb.mono HB3.out.2.2.size))))
  clear hb HB3
  rw [laA]
  obtain ⟨c0, c1, c2, c3, c4, c5, c6, c7⟩ := cells_l1 HB4.out.1
  go_wp2_with fail
  clear c0 c1 c2 c3 c4 c5 c6 c7
  refine (plast_any ⟨8, 2, 1, 0⟩ _ mayB).mono ?_
  rintro e w5 ⟨rfl, hb⟩
  have HB5 := Lib.hid (And.intro (HB4.out.1.below hb) (And.intro (HB4.out.2.1.below hb) (HB4.out.2.2.trans (hb.mono HB4.out.2.2.size))))
  clear hb HB4
  rw [laB]
  obtain ⟨c0, c1, c2, c3, c4, c5, c6, c7⟩ := cells_l1 HB5.out.1
  go_wp2_with fail
  clear c0 c1 c2 c3 c4 c5 c6 c7
  refine (phas_any ⟨5, 0, 2, 3⟩ 7 _ mayA).mono ?_
  rintro e w6 ⟨rfl, hb⟩
  have HB6 := Lib.hid (And.intro (HB5.out.1.below hb) (And.intro (HB5.out.2.1.below hb) (HB5.out.2.2.trans (hb.mono HB5.out.2.2.size))))
  clear hb HB5
  rw [hasA]
  obtain ⟨c0, c1, c2, c3, c4, c5, c6, c7⟩ := cells_l1 HB6.out.1
  go_wp2_with fail
  clear c0 c1 c2 c3 c4 c5 c6 c7
  refine (phas_any ⟨8, 2, 1, 0⟩ 8 _ mayB).mono ?_
  rintro e w7 ⟨rfl, hb⟩
  have HB7 := Lib.hid (And.intro (HB6.out.1.below hb) (And.intro (HB6.out.2.1.below hb) (HB6.out.2.2.trans (hb.mono HB6.out.2.2.size))))
  clear hb HB6
  rw [hasB]
  obtain ⟨c0, c1, c2, c3, c4, c5, c6, c7⟩ := cells_l1 HB7.out.1
  go_wp2_with fail
  clear c0 c1 c2 c3 c4 c5 c6 c7
  refine (pcount_any _ _ _ HB7.out.1 may1 (by simp [l1])).mono ?_
  rintro e w8 ⟨rfl, hb⟩
  have HB8 := Lib.hid (And.intro (HB7.out.1.below hb) (And.intro (HB7.out.2.1.below hb) (HB7.out.2.2.trans (hb.mono HB7.out.2.2.size))))
  clear hb HB7
  rw [cnt1]
  obtain ⟨c0, c1, c2, c3, c4, c5, c6, c7⟩ := cells_l1 HB8.out.1
  go_wp2_with fail
  clear c0 c1 c2 c3 c4 c5 c6 c7
  refine (pcont_any _ _ _ HB8.out.1 may1 (by simp [l1])).mono ?_
  rintro e w9 ⟨rfl, hb⟩
  have HB9 := Lib.hid (And.intro (HB8.out.1.below hb) (And.intro (HB8.out.2.1.below hb) (HB8.out.2.2.trans (hb.mono HB8.out.2.2.size))))
  clear hb HB8
  rw [con1]
  obtain ⟨c0, c1, c2, c3, c4, c5, c6, c7⟩ := cells_l1 HB9.out.1
  go_wp2_with fail
  clear c0 c1 c2 c3 c4 c5 c6 c7
  refine (pend_any _ _ _ HB9.out.1 may1 (by simp [l1])).mono ?_
  rintro e w10 ⟨rfl, hb⟩
  have HB10 := Lib.hid (And.intro (HB9.out.1.below hb) (And.intro (HB9.out.2.1.below hb) (HB9.out.2.2.trans (hb.mono HB9.out.2.2.size))))
  clear hb HB9
  rw [en1]
  obtain ⟨c0, c1, c2, c3, c4, c5, c6, c7⟩ := cells_l1 HB10.out.1
  go_wp2_with fail
  clear c0 c1 c2 c3 c4 c5 c6 c7
  refine (psame_any _ _ _ _ _ HB10.out.1 HB10.out.1).mono ?_
  rintro e w11 ⟨rfl, hb⟩
  have HB11 := Lib.hid (And.intro (HB10.out.1.below hb) (And.intro (HB10.out.2.1.below hb) (HB10.out.2.2.trans (hb.mono HB10.out.2.2.size))))
  clear hb HB10
  rw [same1]
  obtain ⟨c0, c1, c2, c3, c4, c5, c6, c7⟩ := cells_l1 HB11.out.1
  go_wp2_with fail
  clear c0 c1 c2 c3 c4 c5 c6 c7
  refine (psame_any _ _ _ _ _ HB11.out.1 HB11.out.2.1).mono ?_
  rintro e w12 ⟨rfl, hb⟩
  have HB12 := Lib.hid (And.intro (HB11.out.1.below hb) (And.intro (HB11.out.2.1.below hb) (HB11.out.2.2.trans (hb.mono HB11.out.2.2.size))))
  clear hb HB11
  rw [same2]
  obtain ⟨c0, c1, c2, c3, c4, c5, c6, c7⟩ := cells_l1 HB12.out.1
  go_wp2_with fail
  go_ret
  exact ⟨rfl, HB12.out.2.2⟩
end Go.Proofs.Ytdgohnpkpijmbaa
