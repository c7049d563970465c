/- Rows of places (two cells each): a slice that reads as a list of places (PlsAt), a row of one's own (OwnPl); an append told with where the row lies. -/
import Derived.Test.YtegboojhebhlnaaKk
namespace Go.Proofs.Ytegboojhebhlnaa
open Go.RowKit
set_option linter.unusedVariables false
set_option linter.unusedSimpArgs false
def flatP : List (Nat × Nat) → List Value
  | [] => []
  | t :: l => .int .u64 t.1 :: .int .u32 t.2 :: flatP l
theorem flatP_len (l : List (Nat × Nat)) : (flatP l).length = l.length * 2 := by
  induction l with
  | nil => rfl
  | cons t l ih => simp [flatP, ih]; omega
theorem flatP_append (a b : List (Nat × Nat)) : flatP (a ++ b) = flatP a ++ flatP b := by
  induction a with
  | nil => rfl
  | cons t l ih => simp [flatP, ih]
theorem flatP_at (l : List (Nat × Nat)) : ∀ (k : Nat) (t : Nat × Nat), l[k]? = some t → (flatP l)[k * 2]? = some (.int .u64 t.1) ∧ (flatP l)[k * 2 + 1]? = some (.int .u32 t.2) := by
  induction l with
  | nil => intro k t h; simp at h
  | cons s l ih =>
    intro k t h
    cases k with
    | zero => simp at h; subst h; simp [flatP]
    | succ k =>
      have := ih k t (by simpa using h)
      rw [show (k + 1) * 2 = k * 2 + 1 + 1 by omega]
      simpa [flatP] using this
theorem flatP_one (l : List (Nat × Nat)) : ∀ u ∈ flatP l, u.oneCell' = true := by
  induction l with
  | nil => intro u h; simp [flatP] at h
  | cons t l ih =>
    intro u h
    simp only [flatP, List.mem_cons] at h
    rcases h with rfl | rfl | h
    · rfl
    · rfl
    · exact ih u h
def PlsAt (w : World) (v : Value) (l : List (Nat × Nat)) : Prop := ∃ a cap, v = .slice a l.length cap ∧ l.length ≤ cap ∧ cap ≤ maxLen ∧ ∀ k t, l[k]? = some t → ∃ g off, a = some ⟨g, off, none⟩ ∧ g < w.heap.size ∧ w.cell? ⟨g, off + k * 2, none⟩ = some (.int .u64 t.1) ∧ w.cell? ⟨g, off + k * 2 + 1, none⟩ = some (.int .u32 t.2)
def OwnPl (w : World) (B : Nat) (E : TypeId) (v : Value) (l : List (Nat × Nat)) : Prop := w.ownsRow B E 2 v l.length (flatP l)
theorem ownPl_nil (w : World) (B : Nat) (E : TypeId) : OwnPl w B E (.slice none 0 0) [] := World.ownsRow_nil _ _ _ _
theorem OwnPl.lt {w : World} {B : Nat} {E : TypeId} {v : Value} {l : List (Nat × Nat)} (h : OwnPl w B E v l) : ∀ k, v.ownBlock = some k → B ≤ k ∧ k < w.heap.size := World.ownsRow.lt h
theorem OwnPl.keep {w w' : World} {B : Nat} {E : TypeId} {v : Value} {l : List (Nat × Nat)} (h : OwnPl w B E v l) (hk : ∀ k, v.ownBlock = some k → w'.heap[k]? = w.heap[k]?) : OwnPl w' B E v l := by
  obtain ⟨h1, h2⟩ := h
  refine ⟨h1, ?_⟩
  rcases h2 with h2 | ⟨g, cap, cur, hv, hg, hh, r⟩
  · exact .inl h2
  · refine .inr ⟨g, cap, cur, hv, hg, ?_, r⟩
    rw [hk g (by rw [hv]; rfl)]; exact hh
theorem OwnPl.below {w w' : World} {B : Nat} {E : TypeId} {v : Value} {l : List (Nat × Nat)} (h : OwnPl w B E v l) (hb : Below w.heap.size w w') : OwnPl w' B E v l :=
  h.keep (fun k hk => hb.block k (h.lt k hk).2)
theorem OwnPl.kept {S S' : Nat → Prop} {w w' : World} {B : Nat} {E : TypeId} {v : Value} {l : List (Nat × Nat)} (h : OwnPl w B E v l) (ho : Off S w v) (hk : Kept S S' w w') : OwnPl w' B E v l := by
  refine h.keep (fun k hb => ?_)
  cases v with
  | slice a n c =>
    cases a with
    | none => cases hb
    | some a => cases hb; exact hk.same _ (ho a n c rfl).1 (ho a n c rfl).2
  | _ => cases hb
theorem OwnPl.plsAt {w : World} {B : Nat} {E : TypeId} {v : Value} {l : List (Nat × Nat)} (h : OwnPl w B E v l) : PlsAt w v l := by
  have hlt := h.lt
  have h' := h
  obtain ⟨h1, h2⟩ := h
  rcases h2 with ⟨rfl, hn⟩ | ⟨g, cap, cur, rfl, hg, hh, hle, hm, _⟩
  · obtain rfl : l = [] := List.eq_nil_of_length_eq_zero hn
    exact ⟨none, 0, rfl, Nat.le_refl _, by simp, fun k t h => by simp at h⟩
  · refine ⟨_, cap, rfl, hle, hm, fun k t ht => ⟨g, 0, rfl, (hlt g rfl).2, ?_⟩⟩
    have hk := (List.getElem?_eq_some_iff.1 ht).1
    obtain ⟨f0, f1⟩ := flatP_at l k t ht
    rw [Nat.zero_add]
    exact ⟨(World.ownsRow.cellAt h' (k * 2) (by omega)).trans f0, (World.ownsRow.cellAt h' (k * 2 + 1) (by omega)).trans f1⟩
/-- An append of one's own row, run: where it lies behind it. -/
theorem rappend_run (sz bytes : Nat) (W : World) (B : Nat) (TS E ty : TypeId) (z : Value) (ht : Try.prog.underlying TS = some (.slice E)) (hI : (Try.prog.info? E).map (fun i => (i.zero, i.size, i.bytes)) = some (some z, sz, bytes)) (hzs : z.cells.size = sz) (hsz : 0 < sz) (hby : bytes ≤ 64)
    (v : Value) (n : Nat) (L : List Value) (hown : W.ownsRow B E sz v n L) (ad : Addr) (m c : Nat) (xs : List Value) (hxs : xs.length = m * sz) (hnews : ∀ j u, xs[j]? = some u → W.cell? (ad.add j) = some u) (hone : ∀ u ∈ xs, u.oneCell' = true) (hm : 0 < m) (hl : n + m ≤ 1000000000) (hb : B ≤ W.heap.size) :
    ∃ v' w', (Builtin.append_ #[TS, TS] ty #[v, .slice (some ad) m c]).run Try.prog W = .ok v' w' ∧ w'.ownsRow B E sz v' (n + m) (L ++ xs) ∧ W.grownBy w' v.ownBlock ∧ (v'.ownBlock = v.ownBlock ∨ ∃ g, v'.ownBlock = some g ∧ W.heap.size ≤ g) := by
  obtain ⟨i0, hi, hz0, hz1, hz2⟩ := info_parts hI
  have hbb : (n + m) * bytes ≤ 1000000000 * 64 := Nat.mul_le_mul hl hby
  obtain ⟨v', w', hr, h2, h3, h4⟩ := run_append_own (P := Try.prog) W B TS ty E i0 _ sz bytes ht hi hz0 hz1 hz2 hzs hsz v n L hown ad m c xs hxs hnews hone (by unfold maxLen; omega) (by omega) hb
  refine ⟨v', w', hr, h2, h3, ?_⟩
  rcases hown.2 with ⟨rfl, hn⟩ | ⟨g, cap, cur, rfl, hbg, hg, hnc, hcm, hcs, htake⟩
  · obtain ⟨_, _, hr2, h22, _, _⟩ := run_append_own (P := Try.prog) W W.heap.size TS ty E i0 _ sz bytes ht hi hz0 hz1 hz2 hzs hsz (.slice none 0 0) n L ⟨hown.1, .inl ⟨rfl, hn⟩⟩ ad m c xs hxs hnews hone (by unfold maxLen; omega) (by omega) (Nat.le_refl _)
    rw [hr] at hr2
    injection hr2 with e1 e2
    subst e1 e2
    rcases h22.2 with ⟨rfl, _⟩ | ⟨g, cap, cur, rfl, hg, _⟩
    · exact .inl rfl
    · exact .inr ⟨g, rfl, hg⟩
  · have hL : L.length = n * i0.size := by rw [hz1]; exact hown.1
    by_cases hroom : n + m ≤ cap
    · have hmul : (n + m) * sz ≤ cap * sz := Nat.mul_le_mul_right _ hroom
      have hr2 := run_append_room (P := Try.prog) W TS ty E i0 ht hi g n cap cur hg ad m c xs (by rw [hz1]; exact hxs) hnews hone hroom (by rw [hz1, hxs, hcs, ← Nat.add_mul]; exact hmul)
      rw [hr] at hr2
      injection hr2 with e1 e2
      rw [e1]
      exact .inl rfl
    · have hr2 := run_append_grow (P := Try.prog) W TS ty E i0 _ ht hi hz0 ⟨g, 0, none⟩ n cap L hL (World.ownsRow.cells hown rfl) ad m c xs (by rw [hz1]; exact hxs) hnews (by omega) (by omega) (growslice_fits (by omega) (by rw [hz2]; omega))
      rw [hr] at hr2
      injection hr2 with e1 e2
      rw [e1]
      exact .inr ⟨_, rfl, Nat.le_refl _⟩
theorem infoPl : (Try.prog.info? 31).map (fun i => (i.zero, i.size, i.bytes)) = some (some (.agg #[.int .u64 0, .int .u32 0]), 2, 16) := by kernel_rfl
/-- An append of a place. -/
theorem plappend_run (W : World) (B : Nat) (ty : TypeId) (v : Value) (L : List (Nat × Nat)) (p q : Nat) (g c : Nat) (hown : OwnPl W B 31 v L) (hx : Two W g (.int .u64 p) (.int .u32 q)) (hl : L.length ≤ 1000000) (hb : B ≤ W.heap.size) :
    ∃ v' w', (Builtin.append_ #[53, 53] ty #[v, .slice (some ⟨g, 0, none⟩) 1 c]).run Try.prog W = .ok v' w' ∧ OwnPl w' B 31 v' (L ++ [(p, q)]) ∧ W.grownBy w' v.ownBlock ∧ (v'.ownBlock = v.ownBlock ∨ ∃ g, v'.ownBlock = some g ∧ W.heap.size ≤ g) := by
  obtain ⟨v', w', hr, h2, h3, h4⟩ := rappend_run 2 16 W B 53 31 ty _ Try.underlying53 infoPl rfl (by omega) (by omega) v L.length (flatP L) hown ⟨g, 0, none⟩ 1 c [.int .u64 p, .int .u32 q] rfl (by
    intro j u hu
    match j, hu with
    | 0, hu => simp only [List.getElem?_cons_zero, Option.some.injEq] at hu; rw [← hu]; exact hx.1
    | 1, hu => simp only [List.getElem?_cons_succ, List.getElem?_cons_zero, Option.some.injEq] at hu; rw [← hu]; exact hx.2.1
    | j + 2, hu => simp at hu) (by
    intro u hu
    simp only [List.mem_cons, List.not_mem_nil, or_false] at hu
    rcases hu with rfl | rfl <;> rfl) (by omega) (by omega) hb
  refine ⟨v', w', hr, ?_, h3, h4⟩
  unfold OwnPl
  rw [flatP_append, List.length_append]
  exact h2
/-- Behind such an append the row is still nobody's of S. -/
theorem Off.moved {S : Nat → Prop} {W W' : World} {B : Nat} {E : TypeId} {v v' : Value} {l : List (Nat × Nat)} (h : Off S W v) (hown : OwnPl W' B E v' l) (hS : ∀ b, S b → b < W.heap.size) (hs : W.heap.size ≤ W'.heap.size) (hm : v'.ownBlock = v.ownBlock ∨ ∃ g, v'.ownBlock = some g ∧ W.heap.size ≤ g) : Off S W' v' := fun a n c e => by
  refine ⟨(hown.lt a.block (by rw [e]; rfl)).2, fun hsa => ?_⟩
  rcases hm with hm | ⟨g, hg, hge⟩
  · rw [e] at hm
    cases v with
    | slice a' n' c' =>
      cases a' with
      | none => cases hm
      | some a' =>
        have : a.block = a'.block := by injection hm
        exact (h a' n' c' rfl).2 (this ▸ hsa)
    | _ => cases hm
  · rw [e] at hg
    have : a.block = g := by injection hg
    have := hS _ hsa
    omega
/-- What such an append leaves of the world. -/
theorem Kept.grown {S : Nat → Prop} {W W' : World} {v : Value} (hg : W.grownBy W' v.ownBlock) (T : Nat → Prop) (hT : ∀ k, v.ownBlock = some k → T k) : Kept T T W W' :=
  ⟨hg.os, hg.tape, hg.output, hg.size, fun b hb hs => hg.block b hb (fun e => hs (hT b e.symm)), fun _ h => .inl h⟩
end Go.Proofs.Ytegboojhebhlnaa
