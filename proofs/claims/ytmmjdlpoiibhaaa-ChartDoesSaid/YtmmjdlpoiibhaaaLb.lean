/- Rows of items (an identifier and a text): a slice that reads as a list of items (ItsAt), a row of one's own (OwnIt); appends. -/
import Derived.Test.YtmmjdlpoiibhaaaKb
import Derived.Test.YtmmjdlpoiibhaaaLa
namespace Go.Proofs.Ytmmjdlpoiibhaaa
open Go.RowKit
set_option maxRecDepth 20000
set_option linter.unusedVariables false
set_option linter.unusedSimpArgs false
def flatI : List It → List Value
  | [] => []
  | t :: l => .int .u64 t.1 :: .string t.2 :: flatI l
theorem flatI_len (l : List It) : (flatI l).length = l.length * 2 := by
  induction l with
  | nil => rfl
  | cons t l ih => simp [flatI, ih]; omega
theorem flatI_append (a b : List It) : flatI (a ++ b) = flatI a ++ flatI b := by
  induction a with
  | nil => rfl
  | cons t l ih => simp [flatI, ih]
theorem flatI_at (l : List It) : ∀ (k : Nat) (t : It), l[k]? = some t → (flatI l)[k * 2]? = some (.int .u64 t.1) ∧ (flatI l)[k * 2 + 1]? = some (.string t.2) := by
  induction l with
  | nil => intro k t h; simp at h
  | cons s l ih =>
    intro k t h
    cases k with
    | zero => simp at h; subst h; simp [flatI]
    | succ k =>
      have := ih k t (by simpa using h)
      rw [show (k + 1) * 2 = k * 2 + 1 + 1 by omega]
      simpa [flatI] using this
theorem flatI_one (l : List It) : ∀ u ∈ flatI l, u.oneCell' = true := by
  induction l with
  | nil => intro u h; simp [flatI] at h
  | cons t l ih =>
    intro u h
    simp only [flatI, List.mem_cons] at h
    rcases h with rfl | rfl | h
    · rfl
    · rfl
    · exact ih u h
def ItsAt (w : World) (v : Value) (l : List It) : Prop := ∃ a cap, v = .slice a l.length cap ∧ l.length ≤ cap ∧ cap ≤ maxLen ∧ ∀ k t, l[k]? = some t → ∃ g off, a = some ⟨g, off, none⟩ ∧ g < w.heap.size ∧ w.cell? ⟨g, off + k * 2, none⟩ = some (.int .u64 t.1) ∧ w.cell? ⟨g, off + k * 2 + 1, none⟩ = some (.string t.2)
theorem its_nil (w : World) : ItsAt w (.slice none 0 0) [] := ⟨none, 0, rfl, Nat.le_refl _, by simp, fun k t h => by simp at h⟩
theorem ItsAt.below {w w' : World} {v : Value} {l : List It} (h : ItsAt w v l) (hb : Below w.heap.size w w') : ItsAt w' v l := by
  obtain ⟨a, cap, rfl, h1, h2, hc⟩ := h
  refine ⟨a, cap, rfl, h1, h2, fun k t ht => ?_⟩
  obtain ⟨g, off, ha, hg, c0, c1⟩ := hc k t ht
  exact ⟨g, off, ha, Nat.lt_of_lt_of_le hg hb.size, vcell_later hb c0, vcell_later hb c1⟩
def OwnIt (w : World) (B : Nat) (E : TypeId) (v : Value) (l : List It) : Prop := w.ownsRow B E 2 v l.length (flatI l)
theorem ownIt_nil (w : World) (B : Nat) (E : TypeId) : OwnIt w B E (.slice none 0 0) [] := World.ownsRow_nil _ _ _ _
theorem OwnIt.lt {w : World} {B : Nat} {E : TypeId} {v : Value} {l : List It} (h : OwnIt w B E v l) : ∀ k, v.ownBlock = some k → B ≤ k ∧ k < w.heap.size := World.ownsRow.lt h
theorem OwnIt.below {w w' : World} {B : Nat} {E : TypeId} {v : Value} {l : List It} (h : OwnIt w B E v l) (hb : Below w.heap.size w w') : OwnIt w' B E v l := by
  have hlt := h.lt
  obtain ⟨h1, h2⟩ := h
  refine ⟨h1, ?_⟩
  rcases h2 with h2 | ⟨g, cap, cur, hv, hg, hh, r⟩
  · exact .inl h2
  · refine .inr ⟨g, cap, cur, hv, hg, ?_, r⟩
    rw [hb.block g (hlt g (by rw [hv]; rfl)).2]; exact hh
theorem OwnIt.mono {w : World} {B B' : Nat} {E : TypeId} {v : Value} {l : List It} (h : OwnIt w B E v l) (hb : B' ≤ B) : OwnIt w B' E v l := by
  obtain ⟨h1, h2⟩ := h
  refine ⟨h1, ?_⟩
  rcases h2 with h2 | ⟨g, cap, cur, hv, hg, r⟩
  · exact .inl h2
  · exact .inr ⟨g, cap, cur, hv, Nat.le_trans hb hg, r⟩
theorem OwnIt.itsAt {w : World} {B : Nat} {E : TypeId} {v : Value} {l : List It} (h : OwnIt w B E v l) : ItsAt w v l := by
  have hlt := h.lt
  have h' := h
  obtain ⟨h1, h2⟩ := h
  rcases h2 with ⟨rfl, hn⟩ | ⟨g, cap, cur, rfl, hg, hh, hle, hm, _⟩
  · obtain rfl : l = [] := List.eq_nil_of_length_eq_zero hn
    exact its_nil w
  · refine ⟨_, cap, rfl, hle, hm, fun k t ht => ⟨g, 0, rfl, (hlt g rfl).2, ?_⟩⟩
    have hk := (List.getElem?_eq_some_iff.1 ht).1
    obtain ⟨f0, f1⟩ := flatI_at l k t ht
    rw [Nat.zero_add]
    exact ⟨(World.ownsRow.cellAt h' (k * 2) (by omega)).trans f0, (World.ownsRow.cellAt h' (k * 2 + 1) (by omega)).trans f1⟩
theorem it_size : (Try.prog.info? 53).map (·.size) = some 2 := by kernel_rfl
theorem pit_size : (Try.prog.info? 52).map (·.size) = some 2 := by kernel_rfl
theorem infoIt : (Try.prog.info? 53).map (fun i => (i.zero, i.size, i.bytes)) = some (some (.agg #[.int .u64 0, .string { data := #[] }]), 2, 24) := by kernel_rfl
theorem infoPit : (Try.prog.info? 52).map (fun i => (i.zero, i.size, i.bytes)) = some (some (.agg #[.int .u64 0, .string { data := #[] }]), 2, 24) := by kernel_rfl
/-- An append of some items to a row of one's own, run. -/
theorem itappend_run (W : World) (B : Nat) (TS E ty : TypeId) (z : Value) (ht : Try.prog.underlying TS = some (.slice E)) (hI : (Try.prog.info? E).map (fun i => (i.zero, i.size, i.bytes)) = some (some z, 2, 24)) (hzs : z.cells.size = 2)
    (v x : Value) (L m : List It) (hown : OwnIt W B E v L) (hx : ItsAt W x m) (hl : L.length + m.length ≤ 1000000) (hb : B ≤ W.heap.size) :
    ∃ v' w', (Builtin.append_ #[TS, TS] ty #[v, x]).run Try.prog W = .ok v' w' ∧ OwnIt w' B E v' (L ++ m) ∧ W.grownBy w' v.ownBlock := by
  obtain ⟨a, cap, rfl, h1, h2, hc⟩ := hx
  have fin : ∀ {w' : World} {v' : Value}, w'.ownsRow B E 2 v' (L.length + m.length) (flatI L ++ flatI m) → OwnIt w' B E v' (L ++ m) := by
    intro w' v' h
    unfold OwnIt
    rw [flatI_append, List.length_append]
    exact h
  cases a with
  | none =>
    have hl0 : m = [] := by
      cases m with
      | nil => rfl
      | cons t l => obtain ⟨g, off, ha, _⟩ := hc 0 t rfl; cases ha
    subst hl0
    refine ⟨v, W, ?_, by rw [List.append_nil]; exact hown, World.grownBy.refl _ _⟩
    obtain ⟨i0, hi, hz0, hz1, hz2⟩ := info_parts hI
    rcases hown.2 with ⟨rfl, hn⟩ | ⟨g, cap2, cur, rfl, hbg, hg, hnc, hcm, hcs, htake⟩
    · simp [Builtin.append_, run_underlying ht, sizeOf, typeInfo, hi, Builtin.lenOf, Builtin.firstCells, loadCells, loadCellsFrom]
    · simp [Builtin.append_, run_underlying ht, sizeOf, typeInfo, hi, Builtin.lenOf, Builtin.firstCells, loadCells, loadCellsFrom, hnc, storeCells]
  | some ad =>
    have hnews : ∀ j u, (flatI m)[j]? = some u → W.cell? (ad.add j) = some u := by
      intro j u hu
      have hj : j < m.length * 2 := by rw [← flatI_len]; exact (List.getElem?_eq_some_iff.1 hu).1
      obtain ⟨t, ht⟩ : ∃ t, m[j / 2]? = some t := ⟨_, List.getElem?_eq_getElem (by omega)⟩
      obtain ⟨g, off, ha, _, c0, c1⟩ := hc (j / 2) t ht
      obtain ⟨f0, f1⟩ := flatI_at m (j / 2) t ht
      injection ha with ha
      subst ha
      have hadd : (⟨g, off, none⟩ : Addr).add j = ⟨g, off + j, none⟩ := by simp [Addr.add]
      rw [hadd]
      rcases (by omega : j = j / 2 * 2 ∨ j = j / 2 * 2 + 1) with e | e
      · rw [e, f0] at hu; rw [← hu]; rw [show off + j = off + j / 2 * 2 from by omega]; exact c0
      · rw [e, f1] at hu; rw [← hu]; rw [show off + j = off + j / 2 * 2 + 1 from by omega]; exact c1
    obtain ⟨i0, hi, hz0, hz1, hz2⟩ := info_parts hI
    obtain ⟨v', w', hr, h2, h3, h4⟩ := run_append_own (P := Try.prog) W B TS ty E i0 _ 2 24 ht hi hz0 hz1 hz2 hzs (by omega) v L.length (flatI L) hown ad m.length cap (flatI m) (flatI_len m) hnews (flatI_one m) (by unfold maxLen; omega) (by omega) hb
    exact ⟨v', w', hr, fin h2, h3⟩
theorem it_lit (w : World) (x : Nat) (s : ByteArray) (T : TypeId) : ItsAt (w.alloc (.cells #[.int .u64 x, .string s] T)) (.slice (some ⟨w.heap.size, 0, none⟩) 1 1) [(x, s)] := by
  refine ⟨_, 1, rfl, Nat.le_refl _, by unfold maxLen; omega, fun k t ht => ⟨w.heap.size, 0, rfl, by simp, ?_⟩⟩
  match k, ht with
  | 0, ht => simp only [List.getElem?_cons_zero, Option.some.injEq] at ht; subst ht; exact ⟨by simp [go_sem], by simp [go_sem]⟩
  | k + 1, ht => simp at ht
end Go.Proofs.Ytmmjdlpoiibhaaa
