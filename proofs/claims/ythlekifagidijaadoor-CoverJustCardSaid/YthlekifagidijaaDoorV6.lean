/- The contract of the document's Over. -/
import Derived.Test.YthlekifagidijaaDoorV5
namespace Go.Proofs.YthlekifagidijaaDoor
open Go.RowKit
set_option linter.unusedVariables false
set_option linter.unusedSimpArgs false
/-- A tile's three cells, written anew. -/
theorem spot_set {w : World} {h : Nat} {z x y z' x' y' : Int} (s : Spot w h z x y) : Spot (((w.setCell ⟨h, 0, none⟩ (.int .i64 z')).setCell ⟨h, 1, none⟩ (.int .i64 x')).setCell ⟨h, 2, none⟩ (.int .i64 y')) h z' x' y' := by
  obtain ⟨c0, c1, c2, f0⟩ := s
  exact ⟨by simp [go_sem, c0], by simp [go_sem, c1], by simp [go_sem, c2], fun o => by simp [go_sem, f0]⟩
theorem spot_off {w : World} {h g : Nat} {z x y z' x' y' : Int} (s : Spot w h z x y) (hg : g ≠ h) : Spot (((w.setCell ⟨g, 0, none⟩ (.int .i64 z')).setCell ⟨g, 1, none⟩ (.int .i64 x')).setCell ⟨g, 2, none⟩ (.int .i64 y')) h z x y := by
  obtain ⟨c0, c1, c2, f0⟩ := s
  have hg' : h ≠ g := fun e => hg e.symm
  exact ⟨by simp [go_sem, c0], by simp [go_sem, c1], by simp [go_sem, c2], fun o => by simp [go_sem, f0]⟩
theorem below_set3 {B h : Nat} {w wx : World} (hb : Below B w wx) (hB : B ≤ h) (v0 v1 v2 : Value) : Below B w (((wx.setCell ⟨h, 0, none⟩ v0).setCell ⟨h, 1, none⟩ v1).setCell ⟨h, 2, none⟩ v2) := ((hb.setCell hB _).setCell hB _).setCell hB _
theorem p2_half (x : Int) (j : Nat) (hx : 0 ≤ x) : x / p2 j / 2 = x / p2 (j + 1) := by
  rw [show p2 (j + 1) = p2 j * 2 from by rw [p2, Int.mul_comm], Int.ediv_ediv_of_nonneg (by have := p2_pos j; omega)]
theorem div_le_self (x : Int) (j : Nat) (hx : 0 ≤ x) : 0 ≤ x / p2 j ∧ x / p2 j ≤ x := by
  have := p2_pos j
  exact ⟨Int.ediv_nonneg hx (by omega), Int.ediv_le_self _ hx⟩
def zAt (W : World) (g : Nat) : Int := match W.cell? ⟨g, 0, none⟩ with | some (.int _ n) => n | _ => 0
theorem zAt_spot {W : World} {g : Nat} {z x y : Int} (h : Spot W g z x y) : zAt W g = z := by unfold zAt; rw [h.1]
end Go.Proofs.YthlekifagidijaaDoor
