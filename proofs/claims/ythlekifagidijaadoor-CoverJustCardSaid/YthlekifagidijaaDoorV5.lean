/- Contracts of Over, the program's and the document's. -/
import Derived.Test.YthlekifagidijaaDoorV4
import Derived.Deep.RegionHeld3
import Derived.Deep.DeepCutAuto
namespace Go.Proofs.YthlekifagidijaaDoor
open Go.RowKit
set_option linter.unusedVariables false
set_option linter.unusedSimpArgs false
theorem cell_lt {w : World} {a : Addr} {v : Value} (h : w.cell? a = some v) : a.block < w.heap.size := by
  rcases Nat.lt_or_ge a.block w.heap.size with h' | h'
  · exact h'
  · simp [World.cell?, Array.getElem?_eq_none h'] at h
theorem cell_later {w w' : World} {a : Addr} {v : Value} (hb : Below w.heap.size w w') (h : w.cell? a = some v) : w'.cell? a = some v := (hb.cell (p := a) (cell_lt h)).trans h
theorem keepO {w W w' : World} {g h : Nat} {z x y u a b : Int} (hk : Below W.heap.size W w')
    (hS : W.cell? ⟨g, 0, none⟩ = some (.int .i64 z) ∧ W.cell? ⟨g, 1, none⟩ = some (.int .i64 x) ∧ W.cell? ⟨g, 2, none⟩ = some (.int .i64 y) ∧ W.cell? ⟨h, 0, none⟩ = some (.int .i64 u) ∧ W.cell? ⟨h, 1, none⟩ = some (.int .i64 a) ∧ W.cell? ⟨h, 2, none⟩ = some (.int .i64 b) ∧ QTab W ∧ Below w.heap.size w W) :
    w'.cell? ⟨g, 0, none⟩ = some (.int .i64 z) ∧ w'.cell? ⟨g, 1, none⟩ = some (.int .i64 x) ∧ w'.cell? ⟨g, 2, none⟩ = some (.int .i64 y) ∧ w'.cell? ⟨h, 0, none⟩ = some (.int .i64 u) ∧ w'.cell? ⟨h, 1, none⟩ = some (.int .i64 a) ∧ w'.cell? ⟨h, 2, none⟩ = some (.int .i64 b) ∧ QTab w' ∧ Below w.heap.size w w' := by
  obtain ⟨c0, c1, c2, d0, d1, d2, hq, hb⟩ := hS
  exact ⟨cell_later hk c0, cell_later hk c1, cell_later hk c2, cell_later hk d0, cell_later hk d1, cell_later hk d2, hq.below hk, hb.trans (hk.mono hb.size)⟩
section
variable {P : Program} {ops : Array Oper} {Q : Exit → Act → World → Prop} {md : Region.Mode}
/-- An operation that its guard passes over, taken first. -/
theorem any_skip {i : Nat} {oi : Oper} {fuel : Nat} {listed : Array Bool} {a : Act} {w : World} (hi : ops[i]? = some oi)
    (hs : Region.noSelect ops = true) (hf : Region.free md ops listed i = true) (hr : (Region.ready md ops listed).contains i = true)
    (hQ : ∀ c a w, Q (.panic c) (a.put oi.dst undef) w → Q (.panic c) a w) (hw : Region.wanted oi (yielded ops a.tmps) = false)
    (h : wpAny P md ops Q fuel (listed.setIfInBounds i true) (a.put oi.dst undef) w) : wpAny P md ops Q (fuel + 1) listed a w :=
  wpAny_take hi hs hf hr hQ (Or.inr ⟨hw, rfl⟩) h
end
theorem ovB_at (z x y u a b : Int) (n : Nat) (hn : u - z = n) (e1 : plE z x y = 0) (e2 : plE u a b = 0) (hzu : z ≤ u) : ovB z x y u a b = (decide (a / p2 n = x) && decide (b / p2 n = y)) := by
  have hN : (u - z).toNat = n := by omega
  rw [Bool.eq_iff_iff, Bool.and_eq_true, decide_eq_true_iff, decide_eq_true_iff]
  unfold ovB
  rw [decide_eq_true_iff]
  unfold Over
  rw [hN]
  exact ⟨fun h => h.2.2.2, fun h => ⟨e1, e2, hzu, h⟩⟩
end Go.Proofs.YthlekifagidijaaDoor
