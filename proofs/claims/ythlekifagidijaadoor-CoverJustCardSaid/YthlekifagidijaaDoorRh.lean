/- Contracts of the document's Size and Has of a rectangle. -/
import Derived.Test.YthlekifagidijaaDoorRa
import Derived.Test.YthlekifagidijaaDoorRs
namespace Go.Proofs.YthlekifagidijaaDoor
open Go.RowKit
set_option linter.unusedVariables false
set_option linter.unusedSimpArgs false
/-- What stays of a rectangle's block. -/
theorem kept5 {w w1 : World} {A B C D E : Value} {T : TypeId} (hb : Below (w.alloc (.cells #[A, B, C, D, E] T)).heap.size (w.alloc (.cells #[A, B, C, D, E] T)) w1) :
    w1.cell? ⟨w.heap.size, 0, none⟩ = some A ∧ w1.cell? ⟨w.heap.size, 1, none⟩ = some B ∧ w1.cell? ⟨w.heap.size, 2, none⟩ = some C ∧ w1.cell? ⟨w.heap.size, 3, none⟩ = some D ∧ w1.cell? ⟨w.heap.size, 4, none⟩ = some E ∧ w.heap.size < w1.heap.size ∧ Below w.heap.size w w1 := by
  have hz : (w.alloc (.cells #[A, B, C, D, E] T)).heap.size = w.heap.size + 1 := by rw [World.size_alloc]
  have hs := hb.size
  rw [hz] at hs
  refine ⟨?_, ?_, ?_, ?_, ?_, by omega, Below.trans (by go_grown) (hb.mono (by omega))⟩
  · exact scell_later hb (by simp [go_sem])
  · exact scell_later hb (by simp [go_sem])
  · exact scell_later hb (by simp [go_sem])
  · exact scell_later hb (by simp [go_sem])
  · exact scell_later hb (by simp [go_sem])
theorem kept53 {w w1 : World} {A B C D E F G H : Value} {T U : TypeId} (hb : Below ((w.alloc (.cells #[A, B, C, D, E] T)).alloc (.cells #[F, G, H] U)).heap.size ((w.alloc (.cells #[A, B, C, D, E] T)).alloc (.cells #[F, G, H] U)) w1) :
    w1.cell? ⟨w.heap.size, 0, none⟩ = some A ∧ w1.cell? ⟨w.heap.size, 1, none⟩ = some B ∧ w1.cell? ⟨w.heap.size, 2, none⟩ = some C ∧ w1.cell? ⟨w.heap.size, 3, none⟩ = some D ∧ w1.cell? ⟨w.heap.size, 4, none⟩ = some E ∧ w1.cell? ⟨w.heap.size + 1, 0, none⟩ = some F ∧ w1.cell? ⟨w.heap.size + 1, 1, none⟩ = some G ∧ w1.cell? ⟨w.heap.size + 1, 2, none⟩ = some H ∧ Below w.heap.size w w1 := by
  have hz : ((w.alloc (.cells #[A, B, C, D, E] T)).alloc (.cells #[F, G, H] U)).heap.size = w.heap.size + 2 := by rw [World.size_alloc, World.size_alloc]
  refine ⟨?_, ?_, ?_, ?_, ?_, ?_, ?_, ?_, Below.trans (by go_grown) (hb.mono (by omega))⟩
  · exact scell_later hb (by simp [go_sem])
  · exact scell_later hb (by simp [go_sem])
  · exact scell_later hb (by simp [go_sem])
  · exact scell_later hb (by simp [go_sem])
  · exact scell_later hb (by simp [go_sem])
  · exact scell_later hb (by simp [go_sem])
  · exact scell_later hb (by simp [go_sem])
  · exact scell_later hb (by simp [go_sem])
def szV (z x0 y0 x1 y1 : Int) : Int := if ckE z x0 y0 x1 y1 = 0 then (x1 - x0 + 1) * (y1 - y0 + 1) else 0
theorem ck_in (z x0 y0 x1 y1 : Int) (h : ckE z x0 y0 x1 y1 = 0) : Zoom z ∧ RectIn z x0 y0 x1 y1 ∧ 0 ≤ x0 ∧ x0 ≤ x1 ∧ x1 < 67108864 ∧ 0 ≤ y0 ∧ y0 ≤ y1 ∧ y1 < 67108864 := by
  unfold ckE at h
  split at h
  · rename_i hz
    split at h
    · rename_i hr
      have hr' := hr
      obtain ⟨r1, r2, r3, r4, r5, r6⟩ := hr'
      rw [zsideV_in z hz] at r3 r6
      have := p2_top z.toNat (by unfold Zoom at hz; omega)
      exact ⟨hz, hr, by omega, by omega, by omega, by omega, by omega, by omega⟩
    · omega
  · omega
theorem rsize_any (z x0 y0 x1 y1 : Int) (w : World) : Calls Tryd.prog 11 #[.agg #[.int .i64 z, .int .i64 x0, .int .i64 y0, .int .i64 x1, .int .i64 y1]] w fun e w' => e = .returned (.int .i64 (szV z x0 y0 x1 y1)) ∧ Below w.heap.size w w' := by
  have h0 := fun w => rcheck_any z x0 y0 x1 y1 w
  by_cases h : ckE z x0 y0 x1 y1 = 0
  · rw [show szV z x0 y0 x1 y1 = (x1 - x0 + 1) * (y1 - y0 + 1) from if_pos h]
    obtain ⟨_, _, r1, r2, r3, r4, r5, r6⟩ := ck_in z x0 y0 x1 y1 h
    rw [h] at h0
    have H0 := Lib.hid h0
    have m0 := Int.mul_nonneg (show 0 ≤ x1 - x0 + 1 by omega) (show 0 ≤ y1 - y0 + 1 by omega)
    have m1 := Int.mul_le_mul (show x1 - x0 + 1 ≤ 67108864 by omega) (show y1 - y0 + 1 ≤ 67108864 by omega) (show 0 ≤ y1 - y0 + 1 by omega) (by omega)
    clear h0 h
    go_enter Tryd.func11, Tryd.ntmps11
    go_wp2_with fail
    refine (H0.out _).mono ?_
    rintro e w1 ⟨rfl, hb⟩
    obtain ⟨c0, c1, c2, c3, c4, _, hb1⟩ := kept5 hb
    clear hb
    go_wp2_with fail
    go_ret
    exact ⟨rfl, hb1⟩
  · rw [show szV z x0 y0 x1 y1 = 0 from if_neg h]
    have hne : (ckE z x0 y0 x1 y1 != 0) = true := by simpa using h
    have H0 := Lib.hid h0
    clear h0 h
    generalize ckE z x0 y0 x1 y1 = E at *
    go_enter Tryd.func11, Tryd.ntmps11
    go_wp2_with fail
    refine (H0.out _).mono ?_
    rintro e w1 ⟨rfl, hb⟩
    obtain ⟨c0, c1, c2, c3, c4, _, hb1⟩ := kept5 hb
    clear hb
    go_wp2_with fail
    go_ret
    exact ⟨rfl, hb1⟩
def HasR (z x0 y0 x1 y1 u a b : Int) : Prop := ckE z x0 y0 x1 y1 = 0 ∧ u = z ∧ x0 ≤ a ∧ a ≤ x1 ∧ y0 ≤ b ∧ b ≤ y1
instance (z x0 y0 x1 y1 u a b : Int) : Decidable (HasR z x0 y0 x1 y1 u a b) := by unfold HasR; infer_instance
def hasB (z x0 y0 x1 y1 u a b : Int) : Bool := decide (HasR z x0 y0 x1 y1 u a b)
set_option maxHeartbeats 4000000 in
theorem rhas_any (z x0 y0 x1 y1 u a b : Int) (w : World) : Calls Tryd.prog 13 #[.agg #[.int .i64 z, .int .i64 x0, .int .i64 y0, .int .i64 x1, .int .i64 y1], .agg #[.int .i64 u, .int .i64 a, .int .i64 b]] w fun e w' => e = .returned (.bool (hasB z x0 y0 x1 y1 u a b)) ∧ Below w.heap.size w w' := by
  have h0 := fun w => rcheck_any z x0 y0 x1 y1 w
  by_cases h : ckE z x0 y0 x1 y1 = 0
  · have hv : HasR z x0 y0 x1 y1 u a b ↔ (u = z ∧ x0 ≤ a ∧ a ≤ x1 ∧ y0 ≤ b ∧ b ≤ y1) := ⟨fun g => g.2, fun g => ⟨h, g⟩⟩
    have hB : hasB z x0 y0 x1 y1 u a b = decide (u = z ∧ x0 ≤ a ∧ a ≤ x1 ∧ y0 ≤ b ∧ b ≤ y1) := decide_eq_decide.2 hv
    rw [hB]
    rw [h] at h0
    have H0 := Lib.hid h0
    clear h0 h hv hB
    by_cases g1 : u = z
    · subst g1
      by_cases g2 : x0 ≤ a
      · by_cases g3 : a ≤ x1
        · by_cases g4 : y0 ≤ b
          · by_cases g5 : b ≤ y1
            · rw [decide_eq_true (show u = u ∧ x0 ≤ a ∧ a ≤ x1 ∧ y0 ≤ b ∧ b ≤ y1 from ⟨rfl, g2, g3, g4, g5⟩)]
              go_enter Tryd.func13, Tryd.ntmps13
              go_wp2_with fail
              refine (H0.out _).mono ?_
              rintro e w1 ⟨rfl, hb⟩
              obtain ⟨c0, c1, c2, c3, c4, d0, d1, d2, hb1⟩ := kept53 hb
              clear hb
              go_wp2_with fail
              go_ret
              exact ⟨rfl, hb1⟩
            · rw [decide_eq_false (show ¬ (u = u ∧ x0 ≤ a ∧ a ≤ x1 ∧ y0 ≤ b ∧ b ≤ y1) from fun g => g5 g.2.2.2.2)]
              have g6 : decide (b ≤ y1) = false := decide_eq_false g5
              go_enter Tryd.func13, Tryd.ntmps13
              go_wp2_with fail
              refine (H0.out _).mono ?_
              rintro e w1 ⟨rfl, hb⟩
              obtain ⟨c0, c1, c2, c3, c4, d0, d1, d2, hb1⟩ := kept53 hb
              clear hb
              go_wp2_with fail
              go_ret
              exact ⟨rfl, hb1⟩
          · rw [decide_eq_false (show ¬ (u = u ∧ x0 ≤ a ∧ a ≤ x1 ∧ y0 ≤ b ∧ b ≤ y1) from fun g => g4 g.2.2.2.1)]
            have g6 : decide (y0 ≤ b) = false := decide_eq_false g4
            go_enter Tryd.func13, Tryd.ntmps13
            go_wp2_with fail
            refine (H0.out _).mono ?_
            rintro e w1 ⟨rfl, hb⟩
            obtain ⟨c0, c1, c2, c3, c4, d0, d1, d2, hb1⟩ := kept53 hb
            clear hb
            go_wp2_with fail
            go_ret
            exact ⟨rfl, hb1⟩
        · rw [decide_eq_false (show ¬ (u = u ∧ x0 ≤ a ∧ a ≤ x1 ∧ y0 ≤ b ∧ b ≤ y1) from fun g => g3 g.2.2.1)]
          have g6 : decide (a ≤ x1) = false := decide_eq_false g3
          go_enter Tryd.func13, Tryd.ntmps13
          go_wp2_with fail
          refine (H0.out _).mono ?_
          rintro e w1 ⟨rfl, hb⟩
          obtain ⟨c0, c1, c2, c3, c4, d0, d1, d2, hb1⟩ := kept53 hb
          clear hb
          go_wp2_with fail
          go_ret
          exact ⟨rfl, hb1⟩
      · rw [decide_eq_false (show ¬ (u = u ∧ x0 ≤ a ∧ a ≤ x1 ∧ y0 ≤ b ∧ b ≤ y1) from fun g => g2 g.2.1)]
        have g6 : decide (x0 ≤ a) = false := decide_eq_false g2
        go_enter Tryd.func13, Tryd.ntmps13
        go_wp2_with fail
        refine (H0.out _).mono ?_
        rintro e w1 ⟨rfl, hb⟩
        obtain ⟨c0, c1, c2, c3, c4, d0, d1, d2, hb1⟩ := kept53 hb
        clear hb
        go_wp2_with fail
        go_ret
        exact ⟨rfl, hb1⟩
    · rw [decide_eq_false (show ¬ (u = z ∧ x0 ≤ a ∧ a ≤ x1 ∧ y0 ≤ b ∧ b ≤ y1) from fun g => g1 g.1)]
      have g6 : (u == z) = false := by rw [beq_eq_false_iff_ne]; exact g1
      go_enter Tryd.func13, Tryd.ntmps13
      go_wp2_with fail
      refine (H0.out _).mono ?_
      rintro e w1 ⟨rfl, hb⟩
      obtain ⟨c0, c1, c2, c3, c4, d0, d1, d2, hb1⟩ := kept53 hb
      clear hb
      go_wp2_with fail
      go_ret
      exact ⟨rfl, hb1⟩
  · rw [show hasB z x0 y0 x1 y1 u a b = false from decide_eq_false (fun g => h g.1)]
    have hne : (ckE z x0 y0 x1 y1 == 0) = false := by simpa using h
    have H0 := Lib.hid h0
    clear h0 h
    generalize ckE z x0 y0 x1 y1 = E at *
    go_enter Tryd.func13, Tryd.ntmps13
    go_wp2_with fail
    refine (H0.out _).mono ?_
    rintro e w1 ⟨rfl, hb⟩
    obtain ⟨c0, c1, c2, c3, c4, d0, d1, d2, hb1⟩ := kept53 hb
    clear hb
    go_wp2_with fail
    go_ret
    exact ⟨rfl, hb1⟩
end Go.Proofs.YthlekifagidijaaDoor
