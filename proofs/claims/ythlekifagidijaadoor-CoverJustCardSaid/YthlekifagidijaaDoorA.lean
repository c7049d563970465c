/- What every text of this layer stands on: the imports, how two endings of the same numbers are the same, the table of the quarters as the program's start lays it, and that it stays where nothing that was there is written. -/
import Derived.Test.YthlekifagidijaaDoorRows
import Derived.Test.YthlekifagidijaaDoorM
import Derived.WalkKit
import Derived.Outline
import Derived.WalkSpells
import Derived.WalkLawsBesides
import Derived.Lib.Hide
import Derived.Below
import Derived.Deep.MidRow
namespace Go.Proofs.YthlekifagidijaaDoor
open Go.RowKit
set_option linter.unusedVariables false
theorem ret2 {k l : IntKind} {a b c d : Int} (h : a = b) (g : c = d) : Ending.returned (.tuple #[.int k a, .int l c]) = .returned (.tuple #[.int k b, .int l d]) := by rw [h, g]
theorem ret3 {k l m : IntKind} {a b c d e f : Int} (h : a = b) (g : c = d) (i : e = f) : Ending.returned (.tuple #[.int k a, .int l c, .int m e]) = .returned (.tuple #[.int k b, .int l d, .int m f]) := by rw [h, g, i]
/-- One quarter's four cells. -/
def QCell (W : World) (n : Nat) (r u : Int) (s t : Bool) : Prop :=
  W.cell? ⟨0, 4 * n, none⟩ = some (.int .i64 r) ∧ W.cell? ⟨0, 4 * n + 1, none⟩ = some (.int .i64 u) ∧ W.cell? ⟨0, 4 * n + 2, none⟩ = some (.bool s) ∧ W.cell? ⟨0, 4 * n + 3, none⟩ = some (.bool t)
/-- The table: what each quarter does. -/
def QTab (W : World) : Prop := 0 < W.heap.size ∧ QCell W 0 0 0 true false ∧ QCell W 1 0 1 false false ∧ QCell W 2 1 1 false false ∧ QCell W 3 1 0 true true
theorem QCell.below {W W' : World} {n : Nat} {r u : Int} {s t : Bool} (h : QCell W n r u s t) (h0 : 0 < W.heap.size) (hb : Below W.heap.size W W') : QCell W' n r u s t :=
  ⟨(hb.cell (p := ⟨0, 4 * n, none⟩) h0).trans h.1, (hb.cell (p := ⟨0, 4 * n + 1, none⟩) h0).trans h.2.1, (hb.cell (p := ⟨0, 4 * n + 2, none⟩) h0).trans h.2.2.1, (hb.cell (p := ⟨0, 4 * n + 3, none⟩) h0).trans h.2.2.2⟩
theorem QTab.below {W W' : World} (h : QTab W) (hb : Below W.heap.size W W') : QTab W' :=
  ⟨Nat.lt_of_lt_of_le h.1 hb.size, h.2.1.below h.1 hb, h.2.2.1.below h.1 hb, h.2.2.2.1.below h.1 hb, h.2.2.2.2.below h.1 hb⟩
/-- A quarter, read whole. -/
theorem QCell.load {W : World} {n : Nat} {r u : Int} {s t : Bool} (h : QCell W n r u s t) : (Instr.loadAt 97 (.pointer (some ⟨0, 4 * n, none⟩))).run Tryd.prog W = .ok (.agg #[.int .i64 r, .int .i64 u, .bool s, .bool t]) W := by
  refine run_loadAt_mid W 0 (4 * n) 97 [.int .i64 r, .int .i64 u, .bool s, .bool t] _ ?_ Tryd.underlying97 rfl (by kernel_rfl)
  intro j v hj
  match j, hj with
  | 0, hj => cases hj; exact h.1
  | 1, hj => cases hj; exact h.2.1
  | 2, hj => cases hj; exact h.2.2.1
  | 3, hj => cases hj; exact h.2.2.2
end Go.Proofs.YthlekifagidijaaDoor
