/- Rows of entries cut and appended; rows of rows; the document's Cut. -/
import Derived.Test.YtbkodaijigcebaaKv
import Derived.Test.YtbkodaijigcebaaUb
namespace Go.Proofs.Ytbkodaijigcebaa
open Go.RowKit
set_option maxRecDepth 20000
set_option linter.unusedVariables false
set_option linter.unusedSimpArgs false
theorem EnsAt.takeS {w : World} {l : List En} {g off cap : Nat} (h : EnsAt w (.slice (some ⟨g, off, none⟩) l.length cap) l) (i : Nat) (hi : i ≤ l.length) : EnsAt w (.slice (some ⟨g, off, none⟩) i cap) (l.take i) := by
  obtain ⟨a', c', e', h1, h2, hc⟩ := h
  cases e'
  refine ⟨_, cap, by rw [List.length_take, Nat.min_eq_left hi], by rw [List.length_take]; omega, h2, fun k t ht => ?_⟩
  refine hc k t ?_
  rw [List.getElem?_take] at ht
  split at ht
  · exact ht
  · cases ht
theorem EnsAt.dropS {w : World} {l : List En} {g off cap : Nat} (h : EnsAt w (.slice (some ⟨g, off, none⟩) l.length cap) l) (i : Nat) (hi : i ≤ l.length) : EnsAt w (.slice (some ⟨g, off + i * 4, none⟩) (l.length - i) (cap - i)) (l.drop i) := by
  obtain ⟨a', c', e', h1, h2, hc⟩ := h
  cases e'
  refine ⟨_, cap - i, by rw [List.length_drop], by rw [List.length_drop]; omega, by omega, fun k t ht => ?_⟩
  rw [List.getElem?_drop] at ht
  obtain ⟨g', o', e, hg, c0, c1, c2, c3⟩ := hc (i + k) t ht
  cases e
  refine ⟨g, off + i * 4, rfl, hg, ?_, ?_, ?_, ?_⟩
  · rw [show off + i * 4 + k * 4 = off + (i + k) * 4 by omega]; exact c0
  · rw [show off + i * 4 + k * 4 + 1 = off + (i + k) * 4 + 1 by omega]; exact c1
  · rw [show off + i * 4 + k * 4 + 2 = off + (i + k) * 4 + 2 by omega]; exact c2
  · rw [show off + i * 4 + k * 4 + 3 = off + (i + k) * 4 + 3 by omega]; exact c3
/-- A row of rows: its values, and what each is. -/
def Pcs (w : World) (vs : List Value) (ps : List (List En)) : Prop := vs.length = ps.length ∧ ∀ (k : Nat) (x : Value) (p : List En), vs[k]? = some x → ps[k]? = some p → EnsAt w x p
theorem pcs_nil (w : World) : Pcs w [] [] := ⟨rfl, fun k x p h => by simp at h⟩
theorem Pcs.below {w w' : World} {vs : List Value} {ps : List (List En)} (h : Pcs w vs ps) (hb : Below w.heap.size w w') : Pcs w' vs ps := ⟨h.1, fun k x p hx hp => (h.2 k x p hx hp).below hb⟩
theorem Pcs.snoc {w : World} {vs : List Value} {ps : List (List En)} (h : Pcs w vs ps) {x : Value} {p : List En} (hx : EnsAt w x p) : Pcs w (vs ++ [x]) (ps ++ [p]) := by
  refine ⟨by rw [List.length_append, List.length_append, h.1]; rfl, fun k y q hy hq => ?_⟩
  rcases Nat.lt_or_ge k vs.length with hlt | hge
  · rw [List.getElem?_append_left hlt] at hy
    rw [List.getElem?_append_left (by have := h.1; omega)] at hq
    exact h.2 k y q hy hq
  · rw [List.getElem?_append_right hge] at hy
    rw [List.getElem?_append_right (by have := h.1; omega), ← h.1] at hq
    have h0 : k - vs.length = 0 := by
      have := (List.getElem?_eq_some_iff.1 hy).1
      simp at this
      omega
    rw [h0] at hy hq
    simp at hy hq
    rw [← hy, ← hq]
    exact hx
def PcsAt (w : World) (v : Value) (ps : List (List En)) : Prop := ∃ vs, ValsAt w v vs ∧ Pcs w vs ps
theorem PcsAt.below {w w' : World} {v : Value} {ps : List (List En)} (h : PcsAt w v ps) (hb : Below w.heap.size w w') : PcsAt w' v ps := by
  obtain ⟨vs, h1, h2⟩ := h
  exact ⟨vs, h1.below hb, h2.below hb⟩
/-- The k-th of a row of rows, loaded. -/
theorem PcsAt.at {w : World} {v : Value} {ps : List (List En)} (h : PcsAt w v ps) (k : Nat) (p : List En) (hp : ps[k]? = some p) : ∃ g off cap x, v = .slice (some ⟨g, off, none⟩) ps.length cap ∧ g < w.heap.size ∧ w.cell? ⟨g, off + k, none⟩ = some x ∧ EnsAt w x p := by
  obtain ⟨vs, ⟨a, cap, rfl, h1, h2, hc⟩, hl, he⟩ := h
  have hk := (List.getElem?_eq_some_iff.1 hp).1
  obtain ⟨x, hx⟩ : ∃ x, vs[k]? = some x := ⟨_, List.getElem?_eq_getElem (by omega)⟩
  obtain ⟨g, off, rfl, hg, c0⟩ := hc k x hx
  exact ⟨g, off, cap, x, by rw [hl], hg, c0, he k x p hx hp⟩
theorem PcsAt.form {w : World} {v : Value} {ps : List (List En)} (h : PcsAt w v ps) : ∃ a cap, v = .slice a ps.length cap ∧ ps.length ≤ cap ∧ cap ≤ maxLen := by
  obtain ⟨vs, ⟨a, cap, rfl, h1, h2, hc⟩, hl, he⟩ := h
  exact ⟨a, cap, by rw [hl], by omega, h2⟩
/-- An append of some entries to a row of one's own, run. -/
theorem enappend_run (W : World) (B : Nat) (TS E ty : TypeId) (z : Value) (ht : Try.prog.underlying TS = some (.slice E)) (hI : (Try.prog.info? E).map (fun i => (i.zero, i.size, i.bytes)) = some (some z, 4, 24)) (hzs : z.cells.size = 4)
    (v x : Value) (L m : List En) (hown : OwnE W B E v L) (hx : EnsAt W x m) (hl : L.length + m.length ≤ 1000000) (hb : B ≤ W.heap.size) :
    ∃ v' w', (Builtin.append_ #[TS, TS] ty #[v, x]).run Try.prog W = .ok v' w' ∧ OwnE w' B E v' (L ++ m) ∧ W.grownBy w' v.ownBlock := by
  obtain ⟨a, cap, rfl, h1, h2, hc⟩ := hx
  have fin : ∀ {w' : World} {v' : Value}, w'.ownsRow B E 4 v' (L.length + m.length) (flat4 L ++ flat4 m) → OwnE w' B E v' (L ++ m) := by
    intro w' v' h
    unfold OwnE
    rw [flat4_append, List.length_append]
    exact h
  cases a with
  | none =>
    have hl0 : m = [] := by
      cases m with
      | nil => rfl
      | cons t l => obtain ⟨g, off, ha, _⟩ := hc 0 t rfl; cases ha
    subst hl0
    refine ⟨v, W, ?_, by rw [List.append_nil]; exact hown, World.grownBy.refl _ _⟩
    obtain ⟨i0, hi, hz0, hz1, hz2⟩ := info_parts hI
    rcases hown.2 with ⟨rfl, hn⟩ | ⟨g, cap2, cur, rfl, hbg, hg, hnc, hcm, hcs, htake⟩
    · simp [Builtin.append_, run_underlying ht, sizeOf, typeInfo, hi, Builtin.lenOf, Builtin.firstCells, loadCells, loadCellsFrom]
    · simp [Builtin.append_, run_underlying ht, sizeOf, typeInfo, hi, Builtin.lenOf, Builtin.firstCells, loadCells, loadCellsFrom, hnc, storeCells]
  | some ad =>
    have hnews : ∀ j u, (flat4 m)[j]? = some u → W.cell? (ad.add j) = some u := by
      intro j u hu
      have hj : j < m.length * 4 := by rw [← flat4_len]; exact (List.getElem?_eq_some_iff.1 hu).1
      obtain ⟨t, ht⟩ : ∃ t, m[j / 4]? = some t := ⟨_, List.getElem?_eq_getElem (by omega)⟩
      obtain ⟨g, off, ha, _, c0, c1, c2, c3⟩ := hc (j / 4) t ht
      obtain ⟨f0, f1, f2, f3⟩ := flat4_at m (j / 4) t ht
      injection ha with ha
      subst ha
      have hadd : (⟨g, off, none⟩ : Addr).add j = ⟨g, off + j, none⟩ := by simp [Addr.add]
      rw [hadd]
      rcases (by omega : j = j / 4 * 4 ∨ j = j / 4 * 4 + 1 ∨ j = j / 4 * 4 + 2 ∨ j = j / 4 * 4 + 3) with e | e | e | e
      · rw [e, f0] at hu; rw [← hu]; rw [show off + j = off + j / 4 * 4 from by omega]; exact c0
      · rw [e, f1] at hu; rw [← hu]; rw [show off + j = off + j / 4 * 4 + 1 from by omega]; exact c1
      · rw [e, f2] at hu; rw [← hu]; rw [show off + j = off + j / 4 * 4 + 2 from by omega]; exact c2
      · rw [e, f3] at hu; rw [← hu]; rw [show off + j = off + j / 4 * 4 + 3 from by omega]; exact c3
    obtain ⟨i0, hi, hz0, hz1, hz2⟩ := info_parts hI
    obtain ⟨v', w', hr, h2, h3, h4⟩ := run_append_own (P := Try.prog) W B TS ty E i0 _ 4 24 ht hi hz0 hz1 hz2 hzs (by omega) v L.length (flat4 L) hown ad m.length cap (flat4 m) (flat4_len m) hnews (flat4_cells m) (by unfold maxLen; omega) (by omega) hb
    exact ⟨v', w', hr, fin h2, h3⟩
theorem infoRs : (Try.prog.info? 22).map (fun i => (i.zero, i.size, i.bytes)) = some (some (.slice none 0 0), 1, 24) := by kernel_rfl
theorem infoRe : (Try.prog.info? 58).map (fun i => (i.zero, i.size, i.bytes)) = some (some (.agg #[.int .u64 0, .int .u64 0, .int .u32 0, .int .u32 0]), 4, 24) := by kernel_rfl
def cutZ (n : Int) (l : List En) : List (List En) := if n < 1 then [] else cutN n.toNat l
end Go.Proofs.Ytbkodaijigcebaa
