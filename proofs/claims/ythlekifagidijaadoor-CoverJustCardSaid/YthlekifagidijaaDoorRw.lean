/- Rows of tiles: a slice that reads as a list of tiles (TilesAt), a row of the call's own (OwnT), what stays of both. -/
import Derived.Test.YthlekifagidijaaDoorV6
import Derived.Laws.OwnMore
import Derived.Laws.AppendOwn
import Derived.Laws.AppendOwnNone
import Derived.OwnWalk
namespace Go.Proofs.YthlekifagidijaaDoor
open Go.RowKit
set_option linter.unusedVariables false
/-- The cells of some tiles. -/
def flat : List (Int × Int × Int) → List Value
  | [] => []
  | t :: l => .int .i64 t.1 :: .int .i64 t.2.1 :: .int .i64 t.2.2 :: flat l
theorem flat_len (l : List (Int × Int × Int)) : (flat l).length = l.length * 3 := by
  induction l with
  | nil => rfl
  | cons t l ih => simp only [flat, List.length_cons, ih]; omega
theorem flat_append (l m : List (Int × Int × Int)) : flat (l ++ m) = flat l ++ flat m := by
  induction l with
  | nil => rfl
  | cons t l ih => simp only [List.cons_append, flat, ih]
theorem flat_take (l : List (Int × Int × Int)) (n : Nat) : flat (l.take n) = (flat l).take (n * 3) := by
  induction l generalizing n with
  | nil => simp [flat]
  | cons t l ih =>
    cases n with
    | zero => simp [flat]
    | succ n => rw [show (n + 1) * 3 = n * 3 + 1 + 1 + 1 from by omega]; simp [flat, ih]
theorem flat_drop (l : List (Int × Int × Int)) (n : Nat) : flat (l.drop n) = (flat l).drop (n * 3) := by
  induction l generalizing n with
  | nil => simp [flat]
  | cons t l ih =>
    cases n with
    | zero => simp [flat]
    | succ n => rw [show (n + 1) * 3 = n * 3 + 1 + 1 + 1 from by omega]; simp [flat, ih]
theorem flat_at (l : List (Int × Int × Int)) (n : Nat) (t : Int × Int × Int) (h : l[n]? = some t) : (flat l)[n * 3]? = some (.int .i64 t.1) ∧ (flat l)[n * 3 + 1]? = some (.int .i64 t.2.1) ∧ (flat l)[n * 3 + 2]? = some (.int .i64 t.2.2) := by
  induction l generalizing n with
  | nil => simp at h
  | cons u l ih =>
    cases n with
    | zero => simp only [List.getElem?_cons_zero, Option.some.injEq] at h; subst h; exact ⟨rfl, rfl, rfl⟩
    | succ n =>
      have := ih n (by simpa using h)
      rw [show (n + 1) * 3 = n * 3 + 1 + 1 + 1 from by omega]
      simpa [flat] using this
theorem flat_one (l : List (Int × Int × Int)) : ∀ u ∈ flat l, u.oneCell' = true := by
  induction l with
  | nil => intro u hu; simp [flat] at hu
  | cons t l ih =>
    intro u hu
    simp only [flat, List.mem_cons] at hu
    rcases hu with rfl | rfl | rfl | hu
    · rfl
    · rfl
    · rfl
    · exact ih u hu
/-- A slice that reads as these tiles. -/
def TilesAt (w : World) (v : Value) (l : List (Int × Int × Int)) : Prop :=
  ∃ a cap, v = .slice a l.length cap ∧ l.length ≤ cap ∧ cap ≤ maxLen ∧ ∀ (k : Nat) (t : Int × Int × Int), l[k]? = some t → ∃ g off, a = some ⟨g, off, none⟩ ∧ g < w.heap.size ∧ w.cell? ⟨g, off + k * 3, none⟩ = some (.int .i64 t.1) ∧ w.cell? ⟨g, off + k * 3 + 1, none⟩ = some (.int .i64 t.2.1) ∧ w.cell? ⟨g, off + k * 3 + 2, none⟩ = some (.int .i64 t.2.2)
theorem TilesAt.below {w w' : World} {v : Value} {l : List (Int × Int × Int)} (h : TilesAt w v l) (hb : Below w.heap.size w w') : TilesAt w' v l := by
  obtain ⟨a, cap, hv, h1, h2, hc⟩ := h
  refine ⟨a, cap, hv, h1, h2, fun k t ht => ?_⟩
  obtain ⟨g, off, ha, hg, c0, c1, c2⟩ := hc k t ht
  exact ⟨g, off, ha, Nat.lt_of_lt_of_le hg hb.size, cell_later hb c0, cell_later hb c1, cell_later hb c2⟩
theorem tiles_nil (w : World) : TilesAt w (.slice none 0 0) [] := ⟨none, 0, rfl, Nat.le_refl _, by unfold maxLen; omega, fun k t h => by simp at h⟩
/-- A row of the call's own, from block B on. -/
def OwnT (w : World) (B : Nat) (E : TypeId) (v : Value) (l : List (Int × Int × Int)) : Prop := w.ownsRow B E 3 v l.length (flat l)
theorem ownT_nil (w : World) (B : Nat) (E : TypeId) : OwnT w B E (.slice none 0 0) [] := World.ownsRow_nil _ _ _ _
theorem OwnT.lt {w : World} {B : Nat} {E : TypeId} {v : Value} {l : List (Int × Int × Int)} (h : OwnT w B E v l) : ∀ k, v.ownBlock = some k → B ≤ k ∧ k < w.heap.size := World.ownsRow.lt h
theorem OwnT.below {w w' : World} {B : Nat} {E : TypeId} {v : Value} {l : List (Int × Int × Int)} (h : OwnT w B E v l) (hb : Below w.heap.size w w') : OwnT w' B E v l := by
  have hlt := h.lt
  obtain ⟨h1, h2⟩ := h
  refine ⟨h1, ?_⟩
  rcases h2 with h2 | ⟨g, cap, cur, hv, hg, hh, r⟩
  · exact .inl h2
  · refine .inr ⟨g, cap, cur, hv, hg, ?_, r⟩
    rw [hb.block g (hlt g (by rw [hv]; rfl)).2]; exact hh
theorem OwnT.mono {w : World} {B B' : Nat} {E : TypeId} {v : Value} {l : List (Int × Int × Int)} (h : OwnT w B E v l) (hb : B' ≤ B) : OwnT w B' E v l := by
  obtain ⟨h1, h2⟩ := h
  refine ⟨h1, ?_⟩
  rcases h2 with h2 | ⟨g, cap, cur, hv, hg, r⟩
  · exact .inl h2
  · exact .inr ⟨g, cap, cur, hv, Nat.le_trans hb hg, r⟩
/-- What a row of the call's own is, looked into. -/
theorem OwnT.form {w : World} {B : Nat} {E : TypeId} {v : Value} {l : List (Int × Int × Int)} (h : OwnT w B E v l) :
    (v = .slice none 0 0 ∧ l = []) ∨ ∃ g cap, v = .slice (some ⟨g, 0, none⟩) l.length cap ∧ B ≤ g ∧ g < w.heap.size ∧ l.length ≤ cap ∧ cap ≤ maxLen ∧ (∀ j, j < l.length * 3 → w.cell? ⟨g, j, none⟩ = (flat l)[j]?) ∧ ∀ j, w.frozen? ⟨g, j, none⟩ = false := by
  have hlt := h.lt
  have h' := h
  obtain ⟨h1, h2⟩ := h
  rcases h2 with ⟨rfl, hn⟩ | ⟨g, cap, cur, rfl, hg, hh, hle, hm, _⟩
  · exact .inl ⟨rfl, List.eq_nil_of_length_eq_zero hn⟩
  · exact .inr ⟨g, cap, rfl, hg, (hlt g rfl).2, hle, hm, fun j hj => World.ownsRow.cellAt h' j hj, fun j => World.ownsRow.frozenAt h' j⟩
theorem OwnT.tilesAt {w : World} {B : Nat} {E : TypeId} {v : Value} {l : List (Int × Int × Int)} (h : OwnT w B E v l) : TilesAt w v l := by
  rcases h.form with ⟨rfl, rfl⟩ | ⟨g, cap, rfl, hB, hg, hle, hm, hc, _⟩
  · exact tiles_nil w
  · refine ⟨_, cap, rfl, hle, hm, fun k t ht => ⟨g, 0, rfl, hg, ?_⟩⟩
    have hk : k < l.length := (List.getElem?_eq_some_iff.1 ht).1
    obtain ⟨f0, f1, f2⟩ := flat_at l k t ht
    exact ⟨by rw [Nat.zero_add, hc _ (by omega)]; exact f0, by rw [Nat.zero_add, hc _ (by omega)]; exact f1, by rw [Nat.zero_add, hc _ (by omega)]; exact f2⟩
end Go.Proofs.YthlekifagidijaaDoor
