/- The four tiles in a tile in the order in which the document puts them in: what each place is, and that putting them in leaves them by rising places. Plain. -/
import Derived.Test.YtanhoppclgeogaaDoorFo
namespace Go.Proofs.YtanhoppclgeogaaDoor
open Go.RowKit
set_option linter.unusedVariables false
/-- The place of the j-th of the four, among the four. -/
def og (k : Nat) (x y : Int) (j : Nat) : Int := hpl (k + 1) (2 * x + (j : Int) % 2) (2 * y + (j : Int) / 2) - 4 * hpl k x y
theorem og_facts (k : Nat) (x y : Int) (j : Nat) (h : In k x y) (hj : j < 4) : 0 ≤ og k x y j ∧ og k x y j < 4 ∧ kidT k x y (og k x y j) = ((k : Int) + 1, 2 * x + (j : Int) % 2, 2 * y + (j : Int) / 2) := by
  obtain ⟨_, i, i0, i1, e, he⟩ := kid_of k x y (2 * x + (j : Int) % 2) (2 * y + (j : Int) / 2) h (by omega) (by omega)
  have ei : og k x y j = i := by unfold og; omega
  rw [ei]
  refine ⟨i0, i1, ?_⟩
  unfold kidT
  rw [← he]
theorem og_inj (k : Nat) (x y : Int) (h : In k x y) (a b : Nat) (ha : a < 4) (hb : b < 4) (e : og k x y a = og k x y b) : a = b := by
  obtain ⟨ga, _⟩ := kid_of k x y (2 * x + (a : Int) % 2) (2 * y + (a : Int) / 2) h (by omega) (by omega)
  obtain ⟨gb, _⟩ := kid_of k x y (2 * x + (b : Int) % 2) (2 * y + (b : Int) / 2) h (by omega) (by omega)
  unfold og at e
  have := hpl_inj (k + 1) _ _ _ _ ga gb (by omega)
  omega
def Good (G : Nat → Int) (i : Nat) (Ls : List Int) : Prop := Ls.length = i ∧ Ls.Pairwise (· < ·) ∧ ∀ l ∈ Ls, ∃ j, j < i ∧ l = G j
theorem good_nil (G : Nat → Int) : Good G 0 [] := ⟨rfl, List.Pairwise.nil, fun l h => by simp at h⟩
theorem good_step (G : Nat → Int) (i at_ : Nat) (Ls : List Int) (g : Good G i Ls) (ha : at_ ≤ i) (hhi : ∀ j, at_ ≤ j → j < i → G i < Ls.getD j 0) (hlo : at_ = 0 ∨ Ls.getD (at_ - 1) 0 < G i) :
    Good G (i + 1) (Ls.take at_ ++ G i :: Ls.drop at_) := by
  obtain ⟨h1, h2, h3⟩ := g
  have hdrop : ∀ b ∈ Ls.drop at_, G i < b := by
    intro b hb
    obtain ⟨m, hm, rfl⟩ := List.getElem_of_mem hb
    rw [List.length_drop] at hm
    have := hhi (at_ + m) (by omega) (by omega)
    rw [List.getElem_drop]
    simpa [List.getD, List.getElem?_eq_getElem (show at_ + m < Ls.length by omega)] using this
  have htake : ∀ a ∈ Ls.take at_, a < G i := by
    intro a ha'
    obtain ⟨m, hm, rfl⟩ := List.getElem_of_mem ha'
    rw [List.length_take] at hm
    rw [List.getElem_take]
    have hm2 : m < Ls.length := by omega
    have hl : at_ - 1 < Ls.length := by omega
    rcases hlo with h0 | h0
    · omega
    · have h0' : Ls[at_ - 1] < G i := by simpa [List.getD, List.getElem?_eq_getElem hl] using h0
      by_cases e : m = at_ - 1
      · subst e; exact h0'
      · have := List.pairwise_iff_getElem.1 h2 m (at_ - 1) hm2 hl (by omega)
        omega
  refine ⟨?_, ?_, ?_⟩
  · simp only [List.length_append, List.length_take, List.length_cons, List.length_drop]; omega
  · rw [List.pairwise_append, List.pairwise_cons]
    refine ⟨h2.sublist (List.take_sublist _ _), ⟨hdrop, h2.sublist (List.drop_sublist _ _)⟩, ?_⟩
    intro a ha' b hb
    have := htake a ha'
    rcases List.mem_cons.1 hb with rfl | hb
    · exact this
    · have := hdrop b hb; omega
  · intro l hl
    rcases List.mem_append.1 hl with hl | hl
    · obtain ⟨j, a, b⟩ := h3 l (List.mem_of_mem_take hl); exact ⟨j, by omega, b⟩
    · rcases List.mem_cons.1 hl with rfl | hl
      · exact ⟨i, by omega, rfl⟩
      · obtain ⟨j, a, b⟩ := h3 l (List.mem_of_mem_drop hl); exact ⟨j, by omega, b⟩
theorem sorted4 (Ls : List Int) (h : Ls.length = 4) (hs : Ls.Pairwise (· < ·)) (hb : ∀ l ∈ Ls, 0 ≤ l ∧ l < 4) : Ls = [0, 1, 2, 3] := by
  match Ls, h with
  | [a, b, c, d], _ =>
    simp only [List.pairwise_cons, List.mem_cons, List.not_mem_nil, or_false, forall_eq_or_imp, forall_eq] at hs hb
    obtain ⟨⟨x1, x2, x3⟩, ⟨y1, y2⟩, z1, _⟩ := hs
    obtain ⟨p, q, r, s⟩ := hb
    have : a = 0 := by omega
    have : b = 1 := by omega
    have : c = 2 := by omega
    have : d = 3 := by omega
    subst_vars
    rfl
theorem own_conv {w : World} {B n : Nat} {E : TypeId} {v : Value} {xs : List Value} {l : List (Int × Int × Int)} (h : w.ownsRow B E 3 v n xs) (hn : n = l.length) (hx : xs = flat l) : OwnT w B E v l := by
  subst hn; subst hx; exact h
end Go.Proofs.YtanhoppclgeogaaDoor
