/- Contracts of Up, lifted, isTile, Over and Range, and of the document's Up and Over. -/
import Derived.Test.YtanhoppclgeogaaDoorV2
namespace Go.Proofs.YtanhoppclgeogaaDoor
open Go.RowKit
set_option linter.unusedVariables false
/-- A tile's three cells stand in block h, and may be written. -/
def Spot (w : World) (h : Nat) (z x y : Int) : Prop :=
  w.cell? ⟨h, 0, none⟩ = some (.int .i64 z) ∧ w.cell? ⟨h, 1, none⟩ = some (.int .i64 x) ∧ w.cell? ⟨h, 2, none⟩ = some (.int .i64 y) ∧ ∀ o, w.frozen? ⟨h, o, none⟩ = false
theorem Spot.below {w w' : World} {h B : Nat} {z x y : Int} (hs : Spot w h z x y) (hb : Below B w w') (hB : h < B) : Spot w' h z x y :=
  ⟨(hb.cell (p := ⟨h, 0, none⟩) hB).trans hs.1, (hb.cell (p := ⟨h, 1, none⟩) hB).trans hs.2.1, (hb.cell (p := ⟨h, 2, none⟩) hB).trans hs.2.2.1, fun o => (hb.frozen (p := ⟨h, o, none⟩) hB).trans (hs.2.2.2 o)⟩
theorem spot_new (w : World) (z x y : Int) (T : TypeId) : Spot (w.alloc (.cells #[.int .i64 z, .int .i64 x, .int .i64 y] T)) w.heap.size z x y :=
  ⟨by simp [go_sem], by simp [go_sem], by simp [go_sem], fun o => by simp [go_sem]⟩
theorem spot_old {w : World} {h : Nat} {z x y : Int} (hs : Spot w h z x y) (hh : h < w.heap.size) (o : Obj) : Spot (w.alloc o) h z x y :=
  hs.below ((Below.refl w.heap.size w).alloc (Nat.le_refl _) o) hh
theorem lifted_any (z x y m : Int) (n : Nat) (hm : m = n) (hn : n ≤ 26) (z0 : 0 ≤ z) (z1 : z ≤ 26) (x0 : 0 ≤ x) (x1 : x < 67108864) (y0 : 0 ≤ y) (y1 : y < 67108864) (w : World) : Calls Tryd.prog 33 #[.agg #[.int .i64 z, .int .i64 x, .int .i64 y], .int .i64 m] w fun e w' => e = .returned (.agg #[.int .i64 (z - m), .int .i64 (x / p2 n), .int .i64 (y / p2 n)]) ∧ Below w.heap.size w w' := by
  subst hm
  rw [← p2_pow]
  go_enter Tryd.func33, Tryd.ntmps33
  go_wp2_with fail
  go_region
  all_goals
    go_wp2
    refine bodyPost_ret (v := .agg #[.int .i64 (z - n), .int .i64 (x / 2 ^ n), .int .i64 (y / 2 ^ n)]) (by simp [results, Tryd.results33, go_sem]) rfl ⟨rfl, ?_⟩
    go_grown
theorem istile_any (z x y : Int) (w : World) (hq : QTab w) : Calls Tryd.prog 34 #[.agg #[.int .i64 z, .int .i64 x, .int .i64 y]] w fun e w' => e = .returned (.bool (decide (plE z x y = 0))) ∧ Below w.heap.size w w' := by
  have h0 := fun w hq => id_any z x y w hq
  generalize idD z x y = D at *
  by_cases h : plE z x y = 0
  · rw [h] at h0 ⊢
    have H0 := Lib.hid h0
    clear h h0
    go_enter Tryd.func34, Tryd.ntmps34
    go_wp2_with fail
    refine (H0.out _ (hq.below (by go_grown))).mono ?_
    rintro e w1 ⟨rfl, hb⟩
    obtain ⟨hs, hb1, _⟩ := kept3 hb
    clear hb
    go_wp2_with fail
    go_ret
    exact ⟨rfl, hb1⟩
  · have hd : decide (plE z x y = 0) = false := by simpa using h
    rw [hd]
    have hne : (plE z x y == 0) = false := by simpa using h
    clear hd
    have H0 := Lib.hid h0
    clear h0
    generalize plE z x y = E at *
    go_enter Tryd.func34, Tryd.ntmps34
    go_wp2_with fail
    refine (H0.out _ (hq.below (by go_grown))).mono ?_
    rintro e w1 ⟨rfl, hb⟩
    obtain ⟨hs, hb1, _⟩ := kept3 hb
    clear hb
    go_wp2_with fail
    go_ret
    exact ⟨rfl, hb1⟩
theorem up_in (z x y : Int) (h : plE z x y = 0) (g : z ≠ 0) : upE z x y = 0 ∧ upZ z x y = z - 1 ∧ upX z x y = x / 2 ∧ upY z x y = y / 2 := by
  have e : upE z x y = 0 := by unfold upE; rw [if_pos h, if_neg g]
  exact ⟨e, if_pos e, if_pos e, if_pos e⟩
theorem up_zero (x y : Int) (h : plE 0 x y = 0) : upE 0 x y = 6 ∧ upZ 0 x y = 0 ∧ upX 0 x y = 0 ∧ upY 0 x y = 0 := by
  have e : upE 0 x y = 6 := by unfold upE; rw [if_pos h, if_pos rfl]
  have n : ¬ upE 0 x y = 0 := by omega
  exact ⟨e, if_neg n, if_neg n, if_neg n⟩
theorem up_no (z x y : Int) (h : plE z x y ≠ 0) : upE z x y = plE z x y ∧ upZ z x y = 0 ∧ upX z x y = 0 ∧ upY z x y = 0 := by
  have e : upE z x y = plE z x y := if_neg h
  have n : ¬ upE z x y = 0 := by omega
  exact ⟨e, if_neg n, if_neg n, if_neg n⟩
theorem tile_bd (z x y : Int) (h : plE z x y = 0) : 0 ≤ z ∧ z ≤ 26 ∧ 0 ≤ x ∧ x < 67108864 ∧ 0 ≤ y ∧ y < 67108864 := by
  obtain ⟨hz, hi, _⟩ := pl_in z x y h
  unfold Zoom at hz
  have := p2_top z.toNat (by omega)
  obtain ⟨a, b, c, d⟩ := hi
  omega
theorem up_any (z x y : Int) (w : World) (hq : QTab w) : Calls Tryd.prog 17 #[.agg #[.int .i64 z, .int .i64 x, .int .i64 y]] w fun e w' => e = .returned (.tuple #[.agg #[.int .i64 (upZ z x y), .int .i64 (upX z x y), .int .i64 (upY z x y)], .int .i64 (upE z x y)]) ∧ Below w.heap.size w w' := by
  have h0 := fun w hq => id_any z x y w hq
  generalize idD z x y = D at *
  by_cases he : plE z x y = 0
  · by_cases hz0 : z = 0
    · subst hz0
      obtain ⟨o1, o2, o3, o4⟩ := up_zero x y he
      rw [he] at h0
      rw [o1, o2, o3, o4]
      have H0 := Lib.hid h0
      clear h0 he o1 o2 o3 o4
      go_enter Tryd.func17, Tryd.ntmps17
      go_wp2_with fail
      refine (H0.out _ (hq.below (by go_grown))).mono ?_
      rintro e w1 ⟨rfl, hb⟩
      have hs := hb.size
      simp only [World.size_alloc] at hs
      have s1 := (spot_old (spot_new w 0 x y 28) (by simp) (.cells #[.int .i64 0, .int .i64 0, .int .i64 0] 28)).below hb (by simp; omega)
      have s2 := (spot_new (w.alloc (.cells #[.int .i64 0, .int .i64 x, .int .i64 y] 28)) 0 0 0 28).below hb (by simp)
      have hb1 : Below w.heap.size w w1 := Below.trans (by go_grown) (hb.mono (by simp; omega))
      simp only [World.size_alloc] at s1 s2
      obtain ⟨c0, c1, c2, f⟩ := s1
      obtain ⟨d0, d1, d2, g⟩ := s2
      clear hb
      go_wp2_with fail
      refine bodyPost_ret (v := .tuple #[.agg #[.int .i64 0, .int .i64 0, .int .i64 0], .int .i64 6]) (by simp [results, Tryd.results17, go_sem, d0, d1, d2]) rfl ⟨rfl, ?_⟩
      go_grown
    · obtain ⟨o1, o2, o3, o4⟩ := up_in z x y he hz0
      obtain ⟨z0, z1, x0, x1, y0, y1⟩ := tile_bd z x y he
      rw [he] at h0
      rw [o1, o2, o3, o4]
      have H0 := Lib.hid h0
      have HL := Lib.hid (fun w => lifted_any z x y 1 1 rfl (by omega) z0 z1 x0 x1 y0 y1 w)
      clear h0 he o1 o2 o3 o4
      go_enter Tryd.func17, Tryd.ntmps17
      go_wp2_with fail
      refine (H0.out _ (hq.below (by go_grown))).mono ?_
      rintro e w1 ⟨rfl, hb⟩
      have hs := hb.size
      simp only [World.size_alloc] at hs
      have s1 := (spot_old (spot_new w z x y 28) (by simp) (.cells #[.int .i64 0, .int .i64 0, .int .i64 0] 28)).below hb (by simp; omega)
      have s2 := (spot_new (w.alloc (.cells #[.int .i64 z, .int .i64 x, .int .i64 y] 28)) 0 0 0 28).below hb (by simp)
      have hb1 : Below w.heap.size w w1 := Below.trans (by go_grown) (hb.mono (by simp; omega))
      simp only [World.size_alloc] at s1 s2
      have s1' := s1
      have s2' := s2
      obtain ⟨c0, c1, c2, f⟩ := s1
      obtain ⟨d0, d1, d2, g⟩ := s2
      clear hb
      go_wp2_with fail
      refine (HL.out _).mono ?_
      rintro e w2 ⟨rfl, hb⟩
      have t2 := s2'.below hb (by omega)
      have hb2 := hb1.trans (hb.mono (by omega))
      have hs2 := hb.size
      clear c0 c1 c2 f d0 d1 d2 g hb hb1 s1' s2'
      obtain ⟨d0, d1, d2, g⟩ := t2
      go_wp2_with fail
      refine bodyPost_ret (v := .tuple #[.agg #[.int .i64 (z - 1), .int .i64 (x / 2), .int .i64 (y / 2)], .int .i64 0]) (by simp [results, Tryd.results17, go_sem, p2, d0, d1, d2]) rfl ⟨rfl, ?_⟩
      go_grown
  · obtain ⟨o1, o2, o3, o4⟩ := up_no z x y he
    rw [o1, o2, o3, o4]
    have hne : (plE z x y != 0) = true := by simpa using he
    have H0 := Lib.hid h0
    clear h0 o1 o2 o3 o4
    generalize plE z x y = E at *
    go_enter Tryd.func17, Tryd.ntmps17
    go_wp2_with fail
    refine (H0.out _ (hq.below (by go_grown))).mono ?_
    rintro e w1 ⟨rfl, hb⟩
    have hs := hb.size
    simp only [World.size_alloc] at hs
    have s2 := (spot_new (w.alloc (.cells #[.int .i64 z, .int .i64 x, .int .i64 y] 28)) 0 0 0 28).below hb (by simp)
    have hb1 : Below w.heap.size w w1 := Below.trans (by go_grown) (hb.mono (by simp; omega))
    simp only [World.size_alloc] at s2
    obtain ⟨d0, d1, d2, g⟩ := s2
    clear hb
    go_wp2_with fail
    refine bodyPost_ret (v := .tuple #[.agg #[.int .i64 0, .int .i64 0, .int .i64 0], .int .i64 E]) (by simp [results, Tryd.results17, go_sem, d0, d1, d2]) rfl ⟨rfl, ?_⟩
    go_grown
end Go.Proofs.YtanhoppclgeogaaDoor
