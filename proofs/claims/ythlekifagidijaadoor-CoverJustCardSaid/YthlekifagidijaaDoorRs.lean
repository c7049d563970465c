/- Rows of intervals: a slice that reads as a list of intervals (SpansAt), a row of the call's own (OwnS), what stays of both. -/
import Derived.Test.YthlekifagidijaaDoorA
import Derived.Test.YthlekifagidijaaDoorCv
import Derived.Laws.OwnMore
import Derived.Laws.AppendOwn
import Derived.Laws.AppendOwnNone
import Derived.OwnWalk
namespace Go.Proofs.YthlekifagidijaaDoor
open Go.RowKit
set_option linter.unusedVariables false
theorem scell_lt {w : World} {a : Addr} {v : Value} (h : w.cell? a = some v) : a.block < w.heap.size := by
  rcases Nat.lt_or_ge a.block w.heap.size with h' | h'
  · exact h'
  · simp [World.cell?, Array.getElem?_eq_none h'] at h
theorem scell_later {w w' : World} {a : Addr} {v : Value} (hb : Below w.heap.size w w') (h : w.cell? a = some v) : w'.cell? a = some v := (hb.cell (p := a) (scell_lt h)).trans h
/-- The cells of some intervals. -/
def flat2 : List (Int × Int) → List Value
  | [] => []
  | t :: l => .int .u64 t.1 :: .int .u64 t.2 :: flat2 l
theorem flat2_len (l : List (Int × Int)) : (flat2 l).length = l.length * 2 := by
  induction l with
  | nil => rfl
  | cons t l ih => simp only [flat2, List.length_cons, ih]; omega
theorem flat2_append (l m : List (Int × Int)) : flat2 (l ++ m) = flat2 l ++ flat2 m := by
  induction l with
  | nil => rfl
  | cons t l ih => simp only [List.cons_append, flat2, ih]
theorem flat2_take (l : List (Int × Int)) (n : Nat) : flat2 (l.take n) = (flat2 l).take (n * 2) := by
  induction l generalizing n with
  | nil => simp [flat2]
  | cons t l ih =>
    cases n with
    | zero => simp [flat2]
    | succ n => rw [show (n + 1) * 2 = n * 2 + 1 + 1 from by omega]; simp [flat2, ih]
theorem flat2_drop (l : List (Int × Int)) (n : Nat) : flat2 (l.drop n) = (flat2 l).drop (n * 2) := by
  induction l generalizing n with
  | nil => simp [flat2]
  | cons t l ih =>
    cases n with
    | zero => simp [flat2]
    | succ n => rw [show (n + 1) * 2 = n * 2 + 1 + 1 from by omega]; simp [flat2, ih]
theorem flat2_at (l : List (Int × Int)) (n : Nat) (t : Int × Int) (h : l[n]? = some t) : (flat2 l)[n * 2]? = some (.int .u64 t.1) ∧ (flat2 l)[n * 2 + 1]? = some (.int .u64 t.2) := by
  induction l generalizing n with
  | nil => simp at h
  | cons u l ih =>
    cases n with
    | zero => simp only [List.getElem?_cons_zero, Option.some.injEq] at h; subst h; exact ⟨rfl, rfl⟩
    | succ n =>
      have := ih n (by simpa using h)
      rw [show (n + 1) * 2 = n * 2 + 1 + 1 from by omega]
      simpa [flat2] using this
theorem flat2_one (l : List (Int × Int)) : ∀ u ∈ flat2 l, u.oneCell' = true := by
  induction l with
  | nil => intro u hu; simp [flat2] at hu
  | cons t l ih =>
    intro u hu
    simp only [flat2, List.mem_cons] at hu
    rcases hu with rfl | rfl | hu
    · rfl
    · rfl
    · exact ih u hu
/-- A slice that reads as these intervals. -/
def SpansAt (w : World) (v : Value) (l : List (Int × Int)) : Prop :=
  ∃ a cap, v = .slice a l.length cap ∧ l.length ≤ cap ∧ cap ≤ maxLen ∧ ∀ (k : Nat) (t : Int × Int), l[k]? = some t → ∃ g off, a = some ⟨g, off, none⟩ ∧ g < w.heap.size ∧ w.cell? ⟨g, off + k * 2, none⟩ = some (.int .u64 t.1) ∧ w.cell? ⟨g, off + k * 2 + 1, none⟩ = some (.int .u64 t.2)
theorem SpansAt.below {w w' : World} {v : Value} {l : List (Int × Int)} (h : SpansAt w v l) (hb : Below w.heap.size w w') : SpansAt w' v l := by
  obtain ⟨a, cap, hv, h1, h2, hc⟩ := h
  refine ⟨a, cap, hv, h1, h2, fun k t ht => ?_⟩
  obtain ⟨g, off, ha, hg, c0, c1⟩ := hc k t ht
  exact ⟨g, off, ha, Nat.lt_of_lt_of_le hg hb.size, scell_later hb c0, scell_later hb c1⟩
theorem spans_nil (w : World) : SpansAt w (.slice none 0 0) [] := ⟨none, 0, rfl, Nat.le_refl _, by unfold maxLen; omega, fun k t h => by simp at h⟩
/-- A row of the call's own, from block B on. -/
def OwnS (w : World) (B : Nat) (E : TypeId) (v : Value) (l : List (Int × Int)) : Prop := w.ownsRow B E 2 v l.length (flat2 l)
theorem ownS_nil (w : World) (B : Nat) (E : TypeId) : OwnS w B E (.slice none 0 0) [] := World.ownsRow_nil _ _ _ _
theorem OwnS.lt {w : World} {B : Nat} {E : TypeId} {v : Value} {l : List (Int × Int)} (h : OwnS w B E v l) : ∀ k, v.ownBlock = some k → B ≤ k ∧ k < w.heap.size := World.ownsRow.lt h
theorem OwnS.below {w w' : World} {B : Nat} {E : TypeId} {v : Value} {l : List (Int × Int)} (h : OwnS w B E v l) (hb : Below w.heap.size w w') : OwnS w' B E v l := by
  have hlt := h.lt
  obtain ⟨h1, h2⟩ := h
  refine ⟨h1, ?_⟩
  rcases h2 with h2 | ⟨g, cap, cur, hv, hg, hh, r⟩
  · exact .inl h2
  · refine .inr ⟨g, cap, cur, hv, hg, ?_, r⟩
    rw [hb.block g (hlt g (by rw [hv]; rfl)).2]; exact hh
theorem OwnS.mono {w : World} {B B' : Nat} {E : TypeId} {v : Value} {l : List (Int × Int)} (h : OwnS w B E v l) (hb : B' ≤ B) : OwnS w B' E v l := by
  obtain ⟨h1, h2⟩ := h
  refine ⟨h1, ?_⟩
  rcases h2 with h2 | ⟨g, cap, cur, hv, hg, r⟩
  · exact .inl h2
  · exact .inr ⟨g, cap, cur, hv, Nat.le_trans hb hg, r⟩
/-- What a row of the call's own is, looked into. -/
theorem OwnS.form {w : World} {B : Nat} {E : TypeId} {v : Value} {l : List (Int × Int)} (h : OwnS w B E v l) :
    (v = .slice none 0 0 ∧ l = []) ∨ ∃ g cap, v = .slice (some ⟨g, 0, none⟩) l.length cap ∧ B ≤ g ∧ g < w.heap.size ∧ l.length ≤ cap ∧ cap ≤ maxLen ∧ (∀ j, j < l.length * 2 → w.cell? ⟨g, j, none⟩ = (flat2 l)[j]?) ∧ ∀ j, w.frozen? ⟨g, j, none⟩ = false := by
  have hlt := h.lt
  have h' := h
  obtain ⟨h1, h2⟩ := h
  rcases h2 with ⟨rfl, hn⟩ | ⟨g, cap, cur, rfl, hg, hh, hle, hm, _⟩
  · exact .inl ⟨rfl, List.eq_nil_of_length_eq_zero hn⟩
  · exact .inr ⟨g, cap, rfl, hg, (hlt g rfl).2, hle, hm, fun j hj => World.ownsRow.cellAt h' j hj, fun j => World.ownsRow.frozenAt h' j⟩
theorem OwnS.spansAt {w : World} {B : Nat} {E : TypeId} {v : Value} {l : List (Int × Int)} (h : OwnS w B E v l) : SpansAt w v l := by
  rcases h.form with ⟨rfl, rfl⟩ | ⟨g, cap, rfl, hB, hg, hle, hm, hc, _⟩
  · exact spans_nil w
  · refine ⟨_, cap, rfl, hle, hm, fun k t ht => ⟨g, 0, rfl, hg, ?_⟩⟩
    have hk : k < l.length := (List.getElem?_eq_some_iff.1 ht).1
    obtain ⟨f0, f1⟩ := flat2_at l k t ht
    exact ⟨by rw [Nat.zero_add, hc _ (by omega)]; exact f0, by rw [Nat.zero_add, hc _ (by omega)]; exact f1⟩
theorem owns_conv {w : World} {B n : Nat} {E : TypeId} {v : Value} {xs : List Value} {l : List (Int × Int)} (h : w.ownsRow B E 2 v n xs) (hn : n = l.length) (hx : xs = flat2 l) : OwnS w B E v l := by
  subst hn; subst hx; exact h
end Go.Proofs.YthlekifagidijaaDoor
