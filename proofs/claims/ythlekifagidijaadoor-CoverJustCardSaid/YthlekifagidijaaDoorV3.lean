/- Contracts of Up, lifted, isTile, Over and Range, and of the document's Up and Over. -/
import Derived.Test.YthlekifagidijaaDoorV2
namespace Go.Proofs.YthlekifagidijaaDoor
open Go.RowKit
set_option linter.unusedVariables false
/-- A tile's three cells stand in block h, and may be written. -/
def Spot (w : World) (h : Nat) (z x y : Int) : Prop :=
  w.cell? ⟨h, 0, none⟩ = some (.int .i64 z) ∧ w.cell? ⟨h, 1, none⟩ = some (.int .i64 x) ∧ w.cell? ⟨h, 2, none⟩ = some (.int .i64 y) ∧ ∀ o, w.frozen? ⟨h, o, none⟩ = false
theorem Spot.below {w w' : World} {h B : Nat} {z x y : Int} (hs : Spot w h z x y) (hb : Below B w w') (hB : h < B) : Spot w' h z x y :=
  ⟨(hb.cell (p := ⟨h, 0, none⟩) hB).trans hs.1, (hb.cell (p := ⟨h, 1, none⟩) hB).trans hs.2.1, (hb.cell (p := ⟨h, 2, none⟩) hB).trans hs.2.2.1, fun o => (hb.frozen (p := ⟨h, o, none⟩) hB).trans (hs.2.2.2 o)⟩
theorem spot_new (w : World) (z x y : Int) (T : TypeId) : Spot (w.alloc (.cells #[.int .i64 z, .int .i64 x, .int .i64 y] T)) w.heap.size z x y :=
  ⟨by simp [go_sem], by simp [go_sem], by simp [go_sem], fun o => by simp [go_sem]⟩
theorem spot_old {w : World} {h : Nat} {z x y : Int} (hs : Spot w h z x y) (hh : h < w.heap.size) (o : Obj) : Spot (w.alloc o) h z x y :=
  hs.below ((Below.refl w.heap.size w).alloc (Nat.le_refl _) o) hh
theorem up_in (z x y : Int) (h : plE z x y = 0) (g : z ≠ 0) : upE z x y = 0 ∧ upZ z x y = z - 1 ∧ upX z x y = x / 2 ∧ upY z x y = y / 2 := by
  have e : upE z x y = 0 := by unfold upE; rw [if_pos h, if_neg g]
  exact ⟨e, if_pos e, if_pos e, if_pos e⟩
theorem up_zero (x y : Int) (h : plE 0 x y = 0) : upE 0 x y = 6 ∧ upZ 0 x y = 0 ∧ upX 0 x y = 0 ∧ upY 0 x y = 0 := by
  have e : upE 0 x y = 6 := by unfold upE; rw [if_pos h, if_pos rfl]
  have n : ¬ upE 0 x y = 0 := by omega
  exact ⟨e, if_neg n, if_neg n, if_neg n⟩
theorem up_no (z x y : Int) (h : plE z x y ≠ 0) : upE z x y = plE z x y ∧ upZ z x y = 0 ∧ upX z x y = 0 ∧ upY z x y = 0 := by
  have e : upE z x y = plE z x y := if_neg h
  have n : ¬ upE z x y = 0 := by omega
  exact ⟨e, if_neg n, if_neg n, if_neg n⟩
theorem tile_bd (z x y : Int) (h : plE z x y = 0) : 0 ≤ z ∧ z ≤ 26 ∧ 0 ≤ x ∧ x < 67108864 ∧ 0 ≤ y ∧ y < 67108864 := by
  obtain ⟨hz, hi, _⟩ := pl_in z x y h
  unfold Zoom at hz
  have := p2_top z.toNat (by omega)
  obtain ⟨a, b, c, d⟩ := hi
  omega
end Go.Proofs.YthlekifagidijaaDoor
