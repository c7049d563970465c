/- An append of a list of entries to a row of the call's own; an empty row. -/
import Derived.Test.YtdgohnpkpijmbaaEg
import Derived.Lib.AppendZerosOnto
import Derived.Lib.AppendZeros
namespace Go.Proofs.Ytdgohnpkpijmbaa
open Go.RowKit
set_option linter.unusedVariables false
set_option linter.unusedSimpArgs false
theorem append_noneE (W : World) (B : Nat) (v : Value) (L : List En) (cap : Nat) (ty : TypeId) (hown : OwnE W B 26 v L) : (Builtin.append_ #[37, 37] ty #[v, .slice none 0 cap]).run Try.prog W = .ok v W := by
  obtain ⟨i0, hi, hz0, hz1, hz2⟩ := info_parts info_ent
  have ht := Try.underlying37
  rcases hown.2 with ⟨rfl, hn⟩ | ⟨g, cap2, cur, rfl, hbg, hg, hnc, hcm, hcs, htake⟩
  · simp [Builtin.append_, run_underlying ht, sizeOf, typeInfo, hi, Builtin.lenOf, Builtin.firstCells, loadCells, loadCellsFrom]
  · simp [Builtin.append_, run_underlying ht, sizeOf, typeInfo, hi, Builtin.lenOf, Builtin.firstCells, loadCells, loadCellsFrom, hnc, storeCells]
set_option maxRecDepth 20000 in
/-- An append of a list of entries, run. -/
theorem append_allE (W : World) (B : Nat) (v x : Value) (L l : List En) (hown : OwnE W B 26 v L) (hx : EnsAt W x l) (hl : L.length + l.length ≤ 200000) (hb : B ≤ W.heap.size) (ty : TypeId) :
    ∃ v' w', (Builtin.append_ #[37, 37] ty #[v, x]).run Try.prog W = .ok v' w' ∧ OwnE w' B 26 v' (L ++ l) ∧ W.grownBy w' v.ownBlock := by
  obtain ⟨i0, hi, hz0, hz1, hz2⟩ := info_parts info_ent
  obtain ⟨a, cap, rfl, h1, h2, hc⟩ := hx
  cases a with
  | none =>
    have hl0 : l = [] := by
      cases l with
      | nil => rfl
      | cons t l => obtain ⟨g, off, ha, _⟩ := hc 0 t rfl; cases ha
    subst hl0
    exact ⟨v, W, append_noneE W B v L cap ty hown, by rw [List.append_nil]; exact hown, World.grownBy.refl _ _⟩
  | some ad =>
    have hnews : ∀ j u, (flat4 l)[j]? = some u → W.cell? (ad.add j) = some u := by
      intro j u hu
      have hj : j < l.length * 4 := by rw [← flat4_len]; exact (List.getElem?_eq_some_iff.1 hu).1
      obtain ⟨t, ht⟩ : ∃ t, l[j / 4]? = some t := ⟨_, List.getElem?_eq_getElem (by omega)⟩
      obtain ⟨g, off, ha, _, c0, c1, c2, c3⟩ := hc (j / 4) t ht
      obtain ⟨f0, f1, f2, f3⟩ := flat4_at l (j / 4) t ht
      injection ha with ha
      subst ha
      have hadd : (⟨g, off, none⟩ : Addr).add j = ⟨g, off + j, none⟩ := by simp [Addr.add]
      rw [hadd]
      rcases (by omega : j = j / 4 * 4 ∨ j = j / 4 * 4 + 1 ∨ j = j / 4 * 4 + 2 ∨ j = j / 4 * 4 + 3) with e | e | e | e
      · rw [e, f0] at hu; rw [← hu]; rw [show off + j = off + j / 4 * 4 from by omega]; exact c0
      · rw [e, f1] at hu; rw [← hu]; rw [show off + j = off + j / 4 * 4 + 1 from by omega]; exact c1
      · rw [e, f2] at hu; rw [← hu]; rw [show off + j = off + j / 4 * 4 + 2 from by omega]; exact c2
      · rw [e, f3] at hu; rw [← hu]; rw [show off + j = off + j / 4 * 4 + 3 from by omega]; exact c3
    obtain ⟨v', w', hr, h2, h3, h4⟩ := run_append_own (P := Try.prog) W B 37 ty 26 i0 _ 4 24 Try.underlying37 hi hz0 hz1 hz2 rfl (by omega) v L.length (flat4 L) hown ad l.length cap (flat4 l) (flat4_len l) hnews (flat4_cells l) (by unfold maxLen; omega) (by omega) hb
    exact ⟨v', w', hr, owne_conv h2 (by simp) (by rw [flat4_append]), h3⟩
/-- A row of none. -/
theorem own_none (W : World) (n : Nat) (hn : n = W.heap.size) : OwnE (W.alloc (.cells #[] 26)) W.heap.size 26 (.slice (some ⟨n, 0, none⟩) 0 0) [] := by
  subst hn
  exact ⟨rfl, .inr ⟨W.heap.size, 0, #[], rfl, Nat.le_refl _, heap_alloc_new W _, Nat.le_refl _, by simp, rfl, rfl⟩⟩
end Go.Proofs.Ytdgohnpkpijmbaa
