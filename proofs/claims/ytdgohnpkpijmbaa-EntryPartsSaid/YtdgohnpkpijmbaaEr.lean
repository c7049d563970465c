/- Rows of entries: a slice that reads as a list of entries (EnsAt), a row of the call's own (OwnE), what stays of both. -/
import Derived.Test.YtdgohnpkpijmbaaRows
import Derived.WalkKit
import Derived.Outline
import Derived.WalkSpells
import Derived.WalkLawsBesides
import Derived.Lib.Hide
import Derived.Below
import Derived.Handy
import Derived.Deep.MidRow
import Derived.Deep.RegionHeld3
import Derived.Deep.DeepCutAuto
import Derived.BigRegion
import Derived.BigQuiet
import Derived.Test.YtdgohnpkpijmbaaEp
import Derived.Laws.OwnMore
import Derived.Laws.AppendOwn
import Derived.Laws.AppendOwnNone
import Derived.OwnWalk
namespace Go.Proofs.Ytdgohnpkpijmbaa
open Go.RowKit
set_option linter.unusedVariables false
theorem ecell_lt {w : World} {a : Addr} {v : Value} (h : w.cell? a = some v) : a.block < w.heap.size := by
  rcases Nat.lt_or_ge a.block w.heap.size with h' | h'
  · exact h'
  · simp [World.cell?, Array.getElem?_eq_none h'] at h
theorem ecell_later {w w' : World} {a : Addr} {v : Value} (hb : Below w.heap.size w w') (h : w.cell? a = some v) : w'.cell? a = some v := (hb.cell (p := a) (ecell_lt h)).trans h
/-- The cells of some entries. -/
def cE (e : En) : List Value := [.int .u64 e.id, .int .u64 e.off, .int .u32 e.ln, .int .u32 e.rn]
def flat4 : List En → List Value
  | [] => []
  | t :: l => .int .u64 t.id :: .int .u64 t.off :: .int .u32 t.ln :: .int .u32 t.rn :: flat4 l
theorem flat4_len (l : List En) : (flat4 l).length = l.length * 4 := by
  induction l with
  | nil => rfl
  | cons t l ih => simp only [flat4, List.length_cons, ih]; omega
theorem flat4_append (l m : List En) : flat4 (l ++ m) = flat4 l ++ flat4 m := by
  induction l with
  | nil => rfl
  | cons t l ih => simp only [List.cons_append, flat4, ih]
theorem flat4_one1 (e : En) : flat4 [e] = cE e := rfl
theorem flat4_take (l : List En) (n : Nat) : flat4 (l.take n) = (flat4 l).take (n * 4) := by
  induction l generalizing n with
  | nil => simp [flat4]
  | cons t l ih =>
    cases n with
    | zero => simp [flat4]
    | succ n => rw [show (n + 1) * 4 = n * 4 + 1 + 1 + 1 + 1 from by omega]; simp [flat4, ih]
theorem flat4_drop (l : List En) (n : Nat) : flat4 (l.drop n) = (flat4 l).drop (n * 4) := by
  induction l generalizing n with
  | nil => simp [flat4]
  | cons t l ih =>
    cases n with
    | zero => simp [flat4]
    | succ n => rw [show (n + 1) * 4 = n * 4 + 1 + 1 + 1 + 1 from by omega]; simp [flat4, ih]
theorem flat4_at (l : List En) (n : Nat) (t : En) (h : l[n]? = some t) : (flat4 l)[n * 4]? = some (.int .u64 t.id) ∧ (flat4 l)[n * 4 + 1]? = some (.int .u64 t.off) ∧ (flat4 l)[n * 4 + 2]? = some (.int .u32 t.ln) ∧ (flat4 l)[n * 4 + 3]? = some (.int .u32 t.rn) := by
  induction l generalizing n with
  | nil => simp at h
  | cons u l ih =>
    cases n with
    | zero => simp only [List.getElem?_cons_zero, Option.some.injEq] at h; subst h; exact ⟨rfl, rfl, rfl, rfl⟩
    | succ n =>
      have := ih n (by simpa using h)
      rw [show (n + 1) * 4 = n * 4 + 1 + 1 + 1 + 1 from by omega]
      simpa [flat4] using this
theorem flat4_cells (l : List En) : ∀ u ∈ flat4 l, u.oneCell' = true := by
  induction l with
  | nil => intro u hu; simp [flat4] at hu
  | cons t l ih =>
    intro u hu
    simp only [flat4, List.mem_cons] at hu
    rcases hu with rfl | rfl | rfl | rfl | hu
    · rfl
    · rfl
    · rfl
    · rfl
    · exact ih u hu
/-- A slice that reads as these entries. -/
def EnsAt (w : World) (v : Value) (l : List En) : Prop :=
  ∃ a cap, v = .slice a l.length cap ∧ l.length ≤ cap ∧ cap ≤ maxLen ∧ ∀ (k : Nat) (t : En), l[k]? = some t → ∃ g off, a = some ⟨g, off, none⟩ ∧ g < w.heap.size ∧ w.cell? ⟨g, off + k * 4, none⟩ = some (.int .u64 t.id) ∧ w.cell? ⟨g, off + k * 4 + 1, none⟩ = some (.int .u64 t.off) ∧ w.cell? ⟨g, off + k * 4 + 2, none⟩ = some (.int .u32 t.ln) ∧ w.cell? ⟨g, off + k * 4 + 3, none⟩ = some (.int .u32 t.rn)
theorem EnsAt.below {w w' : World} {v : Value} {l : List En} (h : EnsAt w v l) (hb : Below w.heap.size w w') : EnsAt w' v l := by
  obtain ⟨a, cap, hv, h1, h2, hc⟩ := h
  refine ⟨a, cap, hv, h1, h2, fun k t ht => ?_⟩
  obtain ⟨g, off, ha, hg, c0, c1, c2, c3⟩ := hc k t ht
  exact ⟨g, off, ha, Nat.lt_of_lt_of_le hg hb.size, ecell_later hb c0, ecell_later hb c1, ecell_later hb c2, ecell_later hb c3⟩
theorem ens_nil (w : World) : EnsAt w (.slice none 0 0) [] := ⟨none, 0, rfl, Nat.le_refl _, by unfold maxLen; omega, fun k t h => by simp at h⟩
/-- A row of the call's own, from block B on. -/
def OwnE (w : World) (B : Nat) (E : TypeId) (v : Value) (l : List En) : Prop := w.ownsRow B E 4 v l.length (flat4 l)
theorem ownE_nil (w : World) (B : Nat) (E : TypeId) : OwnE w B E (.slice none 0 0) [] := World.ownsRow_nil _ _ _ _
theorem OwnE.lt {w : World} {B : Nat} {E : TypeId} {v : Value} {l : List En} (h : OwnE w B E v l) : ∀ k, v.ownBlock = some k → B ≤ k ∧ k < w.heap.size := World.ownsRow.lt h
theorem OwnE.below {w w' : World} {B : Nat} {E : TypeId} {v : Value} {l : List En} (h : OwnE w B E v l) (hb : Below w.heap.size w w') : OwnE w' B E v l := by
  have hlt := h.lt
  obtain ⟨h1, h2⟩ := h
  refine ⟨h1, ?_⟩
  rcases h2 with h2 | ⟨g, cap, cur, hv, hg, hh, r⟩
  · exact .inl h2
  · refine .inr ⟨g, cap, cur, hv, hg, ?_, r⟩
    rw [hb.block g (hlt g (by rw [hv]; rfl)).2]; exact hh
theorem OwnE.mono {w : World} {B B' : Nat} {E : TypeId} {v : Value} {l : List En} (h : OwnE w B E v l) (hb : B' ≤ B) : OwnE w B' E v l := by
  obtain ⟨h1, h2⟩ := h
  refine ⟨h1, ?_⟩
  rcases h2 with h2 | ⟨g, cap, cur, hv, hg, r⟩
  · exact .inl h2
  · exact .inr ⟨g, cap, cur, hv, Nat.le_trans hb hg, r⟩
/-- What a row of the call's own is, looked into. -/
theorem OwnE.form {w : World} {B : Nat} {E : TypeId} {v : Value} {l : List En} (h : OwnE w B E v l) :
    (v = .slice none 0 0 ∧ l = []) ∨ ∃ g cap, v = .slice (some ⟨g, 0, none⟩) l.length cap ∧ B ≤ g ∧ g < w.heap.size ∧ l.length ≤ cap ∧ cap ≤ maxLen ∧ (∀ j, j < l.length * 4 → w.cell? ⟨g, j, none⟩ = (flat4 l)[j]?) ∧ ∀ j, w.frozen? ⟨g, j, none⟩ = false := by
  have hlt := h.lt
  have h' := h
  obtain ⟨h1, h2⟩ := h
  rcases h2 with ⟨rfl, hn⟩ | ⟨g, cap, cur, rfl, hg, hh, hle, hm, _⟩
  · exact .inl ⟨rfl, List.eq_nil_of_length_eq_zero hn⟩
  · exact .inr ⟨g, cap, rfl, hg, (hlt g rfl).2, hle, hm, fun j hj => World.ownsRow.cellAt h' j hj, fun j => World.ownsRow.frozenAt h' j⟩
theorem OwnE.ensAt {w : World} {B : Nat} {E : TypeId} {v : Value} {l : List En} (h : OwnE w B E v l) : EnsAt w v l := by
  rcases h.form with ⟨rfl, rfl⟩ | ⟨g, cap, rfl, hB, hg, hle, hm, hc, _⟩
  · exact ens_nil w
  · refine ⟨_, cap, rfl, hle, hm, fun k t ht => ⟨g, 0, rfl, hg, ?_⟩⟩
    have hk : k < l.length := (List.getElem?_eq_some_iff.1 ht).1
    obtain ⟨f0, f1, f2, f3⟩ := flat4_at l k t ht
    exact ⟨by rw [Nat.zero_add, hc _ (by omega)]; exact f0, by rw [Nat.zero_add, hc _ (by omega)]; exact f1, by rw [Nat.zero_add, hc _ (by omega)]; exact f2, by rw [Nat.zero_add, hc _ (by omega)]; exact f3⟩
theorem owne_conv {w : World} {B n : Nat} {E : TypeId} {v : Value} {xs : List Value} {l : List En} (h : w.ownsRow B E 4 v n xs) (hn : n = l.length) (hx : xs = flat4 l) : OwnE w B E v l := by
  subst hn; subst hx; exact h
end Go.Proofs.Ytdgohnpkpijmbaa
