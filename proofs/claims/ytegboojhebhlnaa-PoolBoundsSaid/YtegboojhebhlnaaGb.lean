/- Rows of kept contents (three cells each): a slice that reads as a list of them (KtsAt), a row of one's own (OwnK); an append. -/
import Derived.Test.YtegboojhebhlnaaGa
import Derived.Test.YtegboojhebhlnaaKr
namespace Go.Proofs.Ytegboojhebhlnaa
open Go.RowKit
set_option linter.unusedVariables false
set_option linter.unusedSimpArgs false
def ktC (t : Kt) : List Value := [.int .u64 t.1, .int .u32 t.2.size, .string t.2]
def flatK : List Kt → List Value
  | [] => []
  | t :: l => .int .u64 t.1 :: .int .u32 t.2.size :: .string t.2 :: flatK l
theorem flatK_len (l : List Kt) : (flatK l).length = l.length * 3 := by
  induction l with
  | nil => rfl
  | cons t l ih => simp [flatK, ih]; omega
theorem flatK_append (a b : List Kt) : flatK (a ++ b) = flatK a ++ flatK b := by
  induction a with
  | nil => rfl
  | cons t l ih => simp [flatK, ih]
theorem flatK_at (l : List Kt) : ∀ (k : Nat) (t : Kt), l[k]? = some t → (flatK l)[k * 3]? = some (.int .u64 t.1) ∧ (flatK l)[k * 3 + 1]? = some (.int .u32 t.2.size) ∧ (flatK l)[k * 3 + 2]? = some (.string t.2) := by
  induction l with
  | nil => intro k t h; simp at h
  | cons s l ih =>
    intro k t h
    cases k with
    | zero => simp at h; subst h; simp [flatK]
    | succ k =>
      have := ih k t (by simpa using h)
      rw [show (k + 1) * 3 = k * 3 + 1 + 1 + 1 by omega]
      simpa [flatK] using this
theorem flatK_one (l : List Kt) : ∀ u ∈ flatK l, u.oneCell' = true := by
  induction l with
  | nil => intro u h; simp [flatK] at h
  | cons t l ih =>
    intro u h
    simp only [flatK, List.mem_cons] at h
    rcases h with rfl | rfl | rfl | h
    · rfl
    · rfl
    · rfl
    · exact ih u h
def KtsAt (w : World) (v : Value) (l : List Kt) : Prop := ∃ a cap, v = .slice a l.length cap ∧ l.length ≤ cap ∧ cap ≤ maxLen ∧ ∀ k t, l[k]? = some t → ∃ g off, a = some ⟨g, off, none⟩ ∧ g < w.heap.size ∧ w.cell? ⟨g, off + k * 3, none⟩ = some (.int .u64 t.1) ∧ w.cell? ⟨g, off + k * 3 + 1, none⟩ = some (.int .u32 t.2.size) ∧ w.cell? ⟨g, off + k * 3 + 2, none⟩ = some (.string t.2)
theorem KtsAt.below {w w' : World} {v : Value} {l : List Kt} (h : KtsAt w v l) (hb : Below w.heap.size w w') : KtsAt w' v l := by
  obtain ⟨a, cap, rfl, h1, h2, hc⟩ := h
  refine ⟨a, cap, rfl, h1, h2, fun k t ht => ?_⟩
  obtain ⟨g, off, ha, hg, c0, c1, c2⟩ := hc k t ht
  exact ⟨g, off, ha, Nat.lt_of_lt_of_le hg hb.size, vcell_later hb c0, vcell_later hb c1, vcell_later hb c2⟩
def OwnK (w : World) (B : Nat) (v : Value) (l : List Kt) : Prop := w.ownsRow B 67 3 v l.length (flatK l)
theorem ownK_nil (w : World) (B : Nat) : OwnK w B (.slice none 0 0) [] := World.ownsRow_nil _ _ _ _
theorem OwnK.lt {w : World} {B : Nat} {v : Value} {l : List Kt} (h : OwnK w B v l) : ∀ k, v.ownBlock = some k → B ≤ k ∧ k < w.heap.size := World.ownsRow.lt h
theorem OwnK.keep {w w' : World} {B : Nat} {v : Value} {l : List Kt} (h : OwnK w B v l) (hk : ∀ k, v.ownBlock = some k → w'.heap[k]? = w.heap[k]?) : OwnK w' B v l := by
  obtain ⟨h1, h2⟩ := h
  refine ⟨h1, ?_⟩
  rcases h2 with h2 | ⟨g, cap, cur, hv, hg, hh, r⟩
  · exact .inl h2
  · refine .inr ⟨g, cap, cur, hv, hg, ?_, r⟩
    rw [hk g (by rw [hv]; rfl)]; exact hh
theorem OwnK.below {w w' : World} {B : Nat} {v : Value} {l : List Kt} (h : OwnK w B v l) (hb : Below w.heap.size w w') : OwnK w' B v l :=
  h.keep (fun k hk => hb.block k (h.lt k hk).2)
theorem OwnK.mono {w : World} {B B' : Nat} {v : Value} {l : List Kt} (h : OwnK w B v l) (hb : B' ≤ B) : OwnK w B' v l := by
  obtain ⟨h1, h2⟩ := h
  refine ⟨h1, ?_⟩
  rcases h2 with h2 | ⟨g, cap, cur, hv, hg, r⟩
  · exact .inl h2
  · exact .inr ⟨g, cap, cur, hv, Nat.le_trans hb hg, r⟩
/-- A row is no map. -/
theorem OwnK.cells {w : World} {B : Nat} {v : Value} {l : List Kt} (h : OwnK w B v l) {g : Nat} (hg : v.ownBlock = some g) : ∃ cur T fz, w.heap[g]? = some (.cells cur T fz) := by
  rcases h.2 with ⟨rfl, _⟩ | ⟨g', cap, cur, rfl, _, hh, _⟩
  · cases hg
  · cases hg
    exact ⟨_, _, _, hh⟩
theorem OwnK.ktsAt {w : World} {B : Nat} {v : Value} {l : List Kt} (h : OwnK w B v l) : KtsAt w v l := by
  have hlt := h.lt
  have h' := h
  obtain ⟨h1, h2⟩ := h
  rcases h2 with ⟨rfl, hn⟩ | ⟨g, cap, cur, rfl, hg, hh, hle, hm, _⟩
  · obtain rfl : l = [] := List.eq_nil_of_length_eq_zero hn
    exact ⟨none, 0, rfl, Nat.le_refl _, by simp, fun k t h => by simp at h⟩
  · refine ⟨_, cap, rfl, hle, hm, fun k t ht => ⟨g, 0, rfl, (hlt g rfl).2, ?_⟩⟩
    have hk := (List.getElem?_eq_some_iff.1 ht).1
    obtain ⟨f0, f1, f2⟩ := flatK_at l k t ht
    rw [Nat.zero_add]
    exact ⟨(World.ownsRow.cellAt h' (k * 3) (by omega)).trans f0, (World.ownsRow.cellAt h' (k * 3 + 1) (by omega)).trans f1, (World.ownsRow.cellAt h' (k * 3 + 2) (by omega)).trans f2⟩
theorem OwnK.slice {w : World} {B : Nat} {v : Value} {l : List Kt} (h : OwnK w B v l) : ∃ a cap, v = .slice a l.length cap := by
  obtain ⟨a, cap, hv, _⟩ := h.ktsAt
  exact ⟨a, cap, hv⟩
theorem ownk_conv {w : World} {B : Nat} {v : Value} {n : Nat} {l : List Kt} {ys : List Value} (h : w.ownsRow B 67 3 v n ys) (hn : n = l.length) (he : ys = flatK l) : OwnK w B v l := by
  subst hn; subst he; exact h
theorem infoKt : (Try.prog.info? 67).map (fun i => (i.zero, i.size, i.bytes)) = some (some (.agg #[.int .u64 0, .int .u32 0, .string { data := #[] }]), 3, 32) := by kernel_rfl
/-- Three cells of a block. -/
def Three (w : World) (g : Nat) (t : Kt) : Prop := w.cell? ⟨g, 0, none⟩ = some (.int .u64 t.1) ∧ w.cell? ⟨g, 1, none⟩ = some (.int .u32 t.2.size) ∧ w.cell? ⟨g, 2, none⟩ = some (.string t.2)
theorem Three.lt {w : World} {g : Nat} {t : Kt} (h : Three w g t) : g < w.heap.size := vcell_lt h.1
theorem Three.below {w w' : World} {g : Nat} {t : Kt} (h : Three w g t) (hb : Below w.heap.size w w') : Three w' g t := ⟨vcell_later hb h.1, vcell_later hb h.2.1, vcell_later hb h.2.2⟩
theorem three_new (w : World) (t : Kt) (T : TypeId) : Three (w.alloc (.cells #[.int .u64 t.1, .int .u32 t.2.size, .string t.2] T)) w.heap.size t := ⟨by simp [go_sem], by simp [go_sem], by simp [go_sem]⟩
/-- An append of one. -/
theorem kappend_run (W : World) (ty : TypeId) (v : Value) (L : List Kt) (t : Kt) (g c : Nat) (hown : OwnK W 0 v L) (hx : Three W g t) (hl : L.length ≤ 1000000) :
    ∃ v' w', (Builtin.append_ #[56, 56] ty #[v, .slice (some ⟨g, 0, none⟩) 1 c]).run Try.prog W = .ok v' w' ∧ OwnK w' 0 v' (L ++ [t]) ∧ W.grownBy w' v.ownBlock ∧ (v'.ownBlock = v.ownBlock ∨ ∃ g, v'.ownBlock = some g ∧ W.heap.size ≤ g) := by
  obtain ⟨v', w', hr, h2, h3, h4⟩ := rappend_run 3 32 W 0 56 67 ty _ Try.underlying56 infoKt rfl (by omega) (by omega) v L.length (flatK L) hown ⟨g, 0, none⟩ 1 c (ktC t) rfl (by
    intro j u hu
    match j, hu with
    | 0, hu => simp only [ktC, List.getElem?_cons_zero, Option.some.injEq] at hu; rw [← hu]; exact hx.1
    | 1, hu => simp only [ktC, List.getElem?_cons_succ, List.getElem?_cons_zero, Option.some.injEq] at hu; rw [← hu]; exact hx.2.1
    | 2, hu => simp only [ktC, List.getElem?_cons_succ, List.getElem?_cons_zero, Option.some.injEq] at hu; rw [← hu]; exact hx.2.2
    | j + 3, hu => simp [ktC] at hu) (by
    intro u hu
    simp only [ktC, List.mem_cons, List.not_mem_nil, or_false] at hu
    rcases hu with rfl | rfl | rfl <;> rfl) (by omega) (by omega) (Nat.zero_le _)
  refine ⟨v', w', hr, ?_, h3, h4⟩
  exact ownk_conv h2 (by simp) (by rw [flatK_append]; rfl)
end Go.Proofs.Ytegboojhebhlnaa
