/- The contract of the document's Over. -/
import Derived.Test.YtanhoppclgeogaaDoorV5
namespace Go.Proofs.YtanhoppclgeogaaDoor
open Go.RowKit
set_option linter.unusedVariables false
set_option linter.unusedSimpArgs false
/-- A tile's three cells, written anew. -/
theorem spot_set {w : World} {h : Nat} {z x y z' x' y' : Int} (s : Spot w h z x y) : Spot (((w.setCell ⟨h, 0, none⟩ (.int .i64 z')).setCell ⟨h, 1, none⟩ (.int .i64 x')).setCell ⟨h, 2, none⟩ (.int .i64 y')) h z' x' y' := by
  obtain ⟨c0, c1, c2, f0⟩ := s
  exact ⟨by simp [go_sem, c0], by simp [go_sem, c1], by simp [go_sem, c2], fun o => by simp [go_sem, f0]⟩
theorem spot_off {w : World} {h g : Nat} {z x y z' x' y' : Int} (s : Spot w h z x y) (hg : g ≠ h) : Spot (((w.setCell ⟨g, 0, none⟩ (.int .i64 z')).setCell ⟨g, 1, none⟩ (.int .i64 x')).setCell ⟨g, 2, none⟩ (.int .i64 y')) h z x y := by
  obtain ⟨c0, c1, c2, f0⟩ := s
  have hg' : h ≠ g := fun e => hg e.symm
  exact ⟨by simp [go_sem, c0], by simp [go_sem, c1], by simp [go_sem, c2], fun o => by simp [go_sem, f0]⟩
theorem below_set3 {B h : Nat} {w wx : World} (hb : Below B w wx) (hB : B ≤ h) (v0 v1 v2 : Value) : Below B w (((wx.setCell ⟨h, 0, none⟩ v0).setCell ⟨h, 1, none⟩ v1).setCell ⟨h, 2, none⟩ v2) := ((hb.setCell hB _).setCell hB _).setCell hB _
theorem p2_half (x : Int) (j : Nat) (hx : 0 ≤ x) : x / p2 j / 2 = x / p2 (j + 1) := by
  rw [show p2 (j + 1) = p2 j * 2 from by rw [p2, Int.mul_comm], Int.ediv_ediv_of_nonneg (by have := p2_pos j; omega)]
theorem div_le_self (x : Int) (j : Nat) (hx : 0 ≤ x) : 0 ≤ x / p2 j ∧ x / p2 j ≤ x := by
  have := p2_pos j
  exact ⟨Int.ediv_nonneg hx (by omega), Int.ediv_le_self _ hx⟩
def zAt (W : World) (g : Nat) : Int := match W.cell? ⟨g, 0, none⟩ with | some (.int _ n) => n | _ => 0
theorem zAt_spot {W : World} {g : Nat} {z x y : Int} (h : Spot W g z x y) : zAt W g = z := by unfold zAt; rw [h.1]
set_option maxHeartbeats 1000000 in
theorem rover_in (z x y a b : Int) (n : Nat) (e1 : plE z x y = 0) (e2 : plE (z + n) a b = 0) (w : World) : Calls Tryd.prog 26 #[.agg #[.int .i64 z, .int .i64 x, .int .i64 y], .agg #[.int .i64 (z + n), .int .i64 a, .int .i64 b]] w fun e w' => e = .returned (.bool (decide (a / p2 n = x) && decide (b / p2 n = y))) ∧ Below w.heap.size w w' := by
  have h1 := fun w => rid_any z x y w
  have h2 := fun w => rid_any (z + n) a b w
  rw [e1] at h1
  rw [e2] at h2
  obtain ⟨z0, z1, x0, x1, y0, y1⟩ := tile_bd z x y e1
  obtain ⟨u0, u1, a0, a1, b0, b1⟩ := tile_bd (z + n) a b e2
  generalize idD z x y = D1 at *
  generalize idD (z + n) a b = D2 at *
  have H1 := Lib.hid h1
  have H2 := Lib.hid h2
  clear h1 h2 e1 e2
  go_enter Tryd.func26, Tryd.ntmps26
  go_wp2_with fail
  refine (H1.out _).mono ?_
  rintro e w1 ⟨rfl, hb⟩
  have hs := hb.size
  simp only [World.size_alloc] at hs
  have s1 := (spot_old (spot_new w z x y 23) (by simp) (.cells #[.int .i64 (z + n), .int .i64 a, .int .i64 b] 23)).below hb (by simp; omega)
  have s2 := (spot_new (w.alloc (.cells #[.int .i64 z, .int .i64 x, .int .i64 y] 23)) (z + n) a b 23).below hb (by simp)
  have hb1 : Below w.heap.size w w1 := Below.trans (by go_grown) (hb.mono (by simp; omega))
  simp only [World.size_alloc] at s1 s2
  have s1' := s1
  have s2' := s2
  obtain ⟨c0, c1, c2, f⟩ := s1
  obtain ⟨d0, d1, d2, g⟩ := s2
  clear hb
  go_wp2_with fail
  refine (H2.out _).mono ?_
  rintro e w2 ⟨rfl, hb⟩
  have t1 := s1'.below hb (by omega)
  have t2 := s2'.below hb (by omega)
  have hb2 := hb1.trans (hb.mono (by omega))
  have hs2 := hb.size
  clear c0 c1 c2 f d0 d1 d2 g hb hb1 s1' s2' H1 H2
  go_wp2_with fail
  go_loopw [] (fun wr => ∃ j : Nat, j ≤ n ∧ Spot wr w.heap.size z x y ∧ Spot wr (w.heap.size + 1) (z + n - j) (a / p2 j) (b / p2 j) ∧ Below w.heap.size w wr) (fun wr => (zAt wr (w.heap.size + 1) - z).toNat)
  case atStart => exact ⟨0, Nat.zero_le _, t1, by simpa [p2] using t2, hb2⟩
  case round =>
    clear t1 t2 hb2
    obtain ⟨j, hj, s1, s2, hbw⟩ := hrel
    have hA := div_le_self a j a0
    have hB := div_le_self b j b0
    have hA2 := p2_half a j a0
    have hB2 := p2_half b j b0
    generalize hAj : a / p2 j = A at *
    generalize hBj : b / p2 j = B at *
    have s1' := s1
    have s2' := s2
    obtain ⟨c0, c1, c2, f⟩ := s1
    obtain ⟨d0, d1, d2, g⟩ := s2
    have HA := Lib.hid hA2
    have HB := Lib.hid hB2
    have HC := Lib.hid hAj
    have HD := Lib.hid hBj
    clear hA2 hB2 hAj hBj
    by_cases hlt : j < n
    · go_wp2_with fail
      have t2 := spot_set (z' := z + n - j - 1) (x' := A / 2) (y' := B / 2) s2'
      have t1 := spot_off (g := w.heap.size + 1) (z' := z + n - j - 1) (x' := A / 2) (y' := B / 2) s1' (by omega)
      refine ⟨⟨j + 1, by omega, t1, ?_, below_set3 hbw (by omega) _ _ _⟩, ?_⟩
      · rw [show z + n - ((j + 1 : Nat) : Int) = z + n - j - 1 from by omega, ← HA.out, ← HB.out]; exact t2
      · rw [zAt_spot t2, zAt_spot s2']; omega
    · obtain rfl : j = n := by omega
      rw [show z + (j : Int) - j = z from by omega] at d0
      clear s1' s2' HA HB
      by_cases f1 : A = x
      · subst f1
        by_cases f2 : B = y
        · subst f2
          go_wp2_with fail
          go_ret
          exact ⟨by rw [HC.out, HD.out]; simp, hbw⟩
        · go_wp2_with fail
          go_ret
          exact ⟨by rw [HC.out, HD.out, decide_eq_false f2]; simp, hbw⟩
      · go_wp2_with fail
        go_ret
        exact ⟨by rw [HC.out, HD.out, decide_eq_false f1]; simp, hbw⟩
set_option maxHeartbeats 1000000 in
theorem rover_no (z x y u a b : Int) (h : plE z x y = 0 → plE u a b = 0 → u < z) (w : World) : Calls Tryd.prog 26 #[.agg #[.int .i64 z, .int .i64 x, .int .i64 y], .agg #[.int .i64 u, .int .i64 a, .int .i64 b]] w fun e w' => e = .returned (.bool false) ∧ Below w.heap.size w w' := by
  have h1 := fun w => rid_any z x y w
  have h2 := fun w => rid_any u a b w
  generalize idD z x y = D1 at *
  generalize idD u a b = D2 at *
  by_cases e1 : plE z x y = 0
  · rw [e1] at h1
    have H1 := Lib.hid h1
    clear h1
    by_cases e2 : plE u a b = 0
    · have hlt := h e1 e2
      have hne : ¬ u = z := by omega
      obtain ⟨z0, z1, x0, x1, y0, y1⟩ := tile_bd z x y e1
      obtain ⟨u0, u1, a0, a1, b0, b1⟩ := tile_bd u a b e2
      rw [e2] at h2
      have H2 := Lib.hid h2
      clear h2 e1 e2 h
      go_enter Tryd.func26, Tryd.ntmps26
      go_wp2_with fail
      refine (H1.out _).mono ?_
      rintro e w1 ⟨rfl, hb⟩
      have hs := hb.size
      simp only [World.size_alloc] at hs
      have s1 := (spot_old (spot_new w z x y 23) (by simp) (.cells #[.int .i64 u, .int .i64 a, .int .i64 b] 23)).below hb (by simp; omega)
      have s2 := (spot_new (w.alloc (.cells #[.int .i64 z, .int .i64 x, .int .i64 y] 23)) u a b 23).below hb (by simp)
      have hb1 : Below w.heap.size w w1 := Below.trans (by go_grown) (hb.mono (by simp; omega))
      simp only [World.size_alloc] at s1 s2
      have s1' := s1
      have s2' := s2
      obtain ⟨c0, c1, c2, f⟩ := s1
      obtain ⟨d0, d1, d2, g⟩ := s2
      clear hb
      go_wp2_with fail
      refine (H2.out _).mono ?_
      rintro e w2 ⟨rfl, hb⟩
      have t1 := s1'.below hb (by omega)
      have t2 := s2'.below hb (by omega)
      have hb2 := hb1.trans (hb.mono (by omega))
      have hs2 := hb.size
      clear c0 c1 c2 f d0 d1 d2 g hb hb1 s1' s2' H1 H2
      obtain ⟨c0, c1, c2, f⟩ := t1
      obtain ⟨d0, d1, d2, g⟩ := t2
      go_wp2_with fail
      go_loopw [] (fun wr => wr = w2) (fun wr => 0)
      case atStart => rfl
      case round =>
        subst hrel
        go_wp2_with fail
        go_ret
        exact ⟨rfl, hb2⟩
    · have hne : (plE u a b != 0) = true := by simpa using e2
      clear h
      generalize plE u a b = E at *
      have H2 := Lib.hid h2
      clear h2 e1
      go_enter Tryd.func26, Tryd.ntmps26
      go_wp2_with fail
      refine (H1.out _).mono ?_
      rintro e w1 ⟨rfl, hb⟩
      have hs := hb.size
      simp only [World.size_alloc] at hs
      have s2 := (spot_new (w.alloc (.cells #[.int .i64 z, .int .i64 x, .int .i64 y] 23)) u a b 23).below hb (by simp)
      have hb1 : Below w.heap.size w w1 := Below.trans (by go_grown) (hb.mono (by simp; omega))
      simp only [World.size_alloc] at s2
      obtain ⟨d0, d1, d2, g⟩ := s2
      clear hb
      go_wp2_with fail
      refine (H2.out _).mono ?_
      rintro e w2 ⟨rfl, hb⟩
      have hb2 := hb1.trans (hb.mono (by omega))
      clear d0 d1 d2 g hb hb1 H1 H2
      go_wp2_with fail
      go_ret
      exact ⟨rfl, hb2⟩
  · have hne : (plE z x y != 0) = true := by simpa using e1
    clear h
    generalize plE z x y = E at *
    generalize plE u a b = E2 at *
    have H1 := Lib.hid h1
    have H2 := Lib.hid h2
    clear h1 h2
    go_enter Tryd.func26, Tryd.ntmps26
    go_wp2_with fail
    refine (H1.out _).mono ?_
    rintro e w1 ⟨rfl, hb⟩
    have hs := hb.size
    simp only [World.size_alloc] at hs
    have s2 := (spot_new (w.alloc (.cells #[.int .i64 z, .int .i64 x, .int .i64 y] 23)) u a b 23).below hb (by simp)
    have hb1 : Below w.heap.size w w1 := Below.trans (by go_grown) (hb.mono (by simp; omega))
    simp only [World.size_alloc] at s2
    obtain ⟨d0, d1, d2, g⟩ := s2
    clear hb
    go_wp2_with fail
    refine (H2.out _).mono ?_
    rintro e w2 ⟨rfl, hb⟩
    have hb2 := hb1.trans (hb.mono (by omega))
    clear d0 d1 d2 g hb hb1 H1 H2
    go_wp2_with fail
    go_ret
    exact ⟨rfl, hb2⟩
theorem rover_any (z x y u a b : Int) (w : World) : Calls Tryd.prog 26 #[.agg #[.int .i64 z, .int .i64 x, .int .i64 y], .agg #[.int .i64 u, .int .i64 a, .int .i64 b]] w fun e w' => e = .returned (.bool (ovB z x y u a b)) ∧ Below w.heap.size w w' := by
  by_cases h : plE z x y = 0 ∧ plE u a b = 0 ∧ z ≤ u
  · obtain ⟨e1, e2, h3⟩ := h
    obtain ⟨n, rfl⟩ : ∃ n : Nat, u = z + n := ⟨(u - z).toNat, by omega⟩
    rw [ovB_at z x y (z + n) a b n (by omega) e1 e2 h3]
    exact rover_in z x y a b n e1 e2 w
  · rw [show ovB z x y u a b = false from decide_eq_false (fun g => h ⟨g.1, g.2.1, g.2.2.1⟩)]
    exact rover_no z x y u a b (fun e1 e2 => by
      rcases Int.lt_or_le u z with g | g
      · exact g
      · exact absurd ⟨e1, e2, g⟩ h) w
end Go.Proofs.YtanhoppclgeogaaDoor
