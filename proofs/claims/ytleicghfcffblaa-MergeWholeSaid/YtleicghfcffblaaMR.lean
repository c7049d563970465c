/- Several texts, one behind the other: Kk, Kr. -/
import Derived.Test.YtleicghfcffblaaMA
/- Who owns which blocks: a step that writes the blocks of S alone; behind it S' are the writer's own: those of S and new ones. -/
namespace Go.Proofs.Ytleicghfcffblaa
open Go.RowKit
set_option maxRecDepth 20000
set_option linter.unusedVariables false
structure Kept (S S' : Nat → Prop) (W W' : World) : Prop where
  os : W'.os = W.os
  tape : W'.tape = W.tape
  output : W'.output = W.output
  size : W.heap.size ≤ W'.heap.size
  same : ∀ b, b < W.heap.size → ¬ S b → W'.heap[b]? = W.heap[b]?
  own : ∀ b, S' b → S b ∨ W.heap.size ≤ b
theorem Kept.refl (S : Nat → Prop) (W : World) : Kept S S W W := ⟨rfl, rfl, rfl, Nat.le_refl _, fun _ _ _ => rfl, fun _ h => .inl h⟩
theorem Kept.trans {S S' S'' : Nat → Prop} {X Y Z : World} (h : Kept S S' X Y) (h' : Kept S' S'' Y Z) : Kept S S'' X Z := by
  refine ⟨h'.os.trans h.os, h'.tape.trans h.tape, h'.output.trans h.output, Nat.le_trans h.size h'.size, fun b hb hs => ?_, fun b hb => ?_⟩
  · rw [h'.same b (Nat.lt_of_lt_of_le hb h.size) (fun hs' => ?_), h.same b hb hs]
    rcases h.own b hs' with h1 | h1
    · exact hs h1
    · omega
  · rcases h'.own b hb with h1 | h1
    · exact h.own b h1
    · exact .inr (Nat.le_trans h.size h1)
theorem Kept.below (S : Nat → Prop) {W W' : World} (hb : Below W.heap.size W W') : Kept S S W W' := ⟨hb.os, hb.tape, hb.output, hb.size, fun b hl _ => hb.block b hl, fun _ h => .inl h⟩
/-- A step of one's own that one's caller need not know of. -/
theorem Below.kept {S S' : Nat → Prop} {B : Nat} {w W W' : World} (h : Below B w W) (hk : Kept S S' W W') (hS : ∀ b, S b → B ≤ b) (hB : B ≤ W.heap.size) : Below B w W' :=
  ⟨hk.os.trans h.os, hk.tape.trans h.tape, hk.output.trans h.output, Nat.le_trans h.size hk.size, fun b hb => (hk.same b (Nat.lt_of_lt_of_le hb hB) (fun hs => absurd (hS b hs) (by omega))).trans (h.block b hb)⟩
theorem Kept.base {S S' : Nat → Prop} {B : Nat} {W W' : World} (hk : Kept S S' W W') (hS : ∀ b, S b → B ≤ b) (hB : B ≤ W.heap.size) : ∀ b, S' b → B ≤ b := fun b hb => by
  rcases hk.own b hb with h | h
  · exact hS b h
  · omega
/-- What is apart stays apart. -/
theorem Kept.apart {S S' T : Nat → Prop} {W W' : World} (hk : Kept S S' W W') (hT : ∀ b, T b → b < W.heap.size) (hST : ∀ b, S b → ¬ T b) : ∀ b, S' b → ¬ T b := fun b hb ht => by
  rcases hk.own b hb with h | h
  · exact hST b h ht
  · have := hT b ht; omega
theorem Kept.cell {S S' : Nat → Prop} {W W' : World} (h : Kept S S' W W') {p : Addr} (hl : p.block < W.heap.size) (hp : ¬ S p.block) : W'.cell? p = W.cell? p := World.cell?_of_block (h.same _ hl hp)
theorem Kept.vals {S S' : Nat → Prop} {W W' : World} (h : Kept S S' W W') {v : Value} {xs : List Value} (hv : ValsAt W v xs) (hn : ∀ a n c, v = .slice (some a) n c → ¬ S a.block) : ValsAt W' v xs :=
  hv.keep h.size (fun a n c e hl => h.same _ hl (hn a n c e))
/-- Two cells that are nobody's of S. -/
def Side (S : Nat → Prop) (W : World) (g : Nat) (x y : Value) : Prop := Two W g x y ∧ ¬ S g
theorem Side.kept {S S' : Nat → Prop} {W W' : World} {g : Nat} {x y : Value} (h : Side S W g x y) (hk : Kept S S' W W') : Side S' W' g x y := by
  obtain ⟨⟨h0, h1, h2, h3⟩, hn⟩ := h
  have hl := vcell_lt h0
  have hs := hk.same g hl hn
  refine ⟨⟨(World.cell?_of_block (a := ⟨g, 0, none⟩) hs).trans h0, (World.cell?_of_block (a := ⟨g, 1, none⟩) hs).trans h1, (World.frozen?_of_block (a := ⟨g, 0, none⟩) hs).trans h2, (World.frozen?_of_block (a := ⟨g, 1, none⟩) hs).trans h3⟩, fun hg => ?_⟩
  rcases hk.own g hg with h | h
  · exact hn h
  · exact absurd h (Nat.not_le.2 hl)
theorem Side.below {S : Nat → Prop} {W W' : World} {g : Nat} {x y : Value} (h : Side S W g x y) (hb : Below W.heap.size W W') : Side S W' g x y := ⟨h.1.below hb, h.2⟩
theorem Side.alloc {S : Nat → Prop} {W : World} {g : Nat} {x y : Value} (h : Side S W g x y) (o : Obj) : Side S (W.alloc o) g x y := ⟨h.1.alloc o, h.2⟩
theorem side_new {S : Nat → Prop} {W : World} (x y : Value) (T : TypeId) (hS : ∀ b, S b → b < W.heap.size) : Side S (W.alloc (.cells #[x, y] T)) W.heap.size x y :=
  ⟨two_new W x y T, fun h => absurd (hS _ h) (Nat.lt_irrefl _)⟩
/-- A slice's row is nobody's of S. -/
def Off (S : Nat → Prop) (W : World) (v : Value) : Prop := ∀ a n c, v = .slice (some a) n c → a.block < W.heap.size ∧ ¬ S a.block
theorem off_nil (S : Nat → Prop) (W : World) (n c : Nat) : Off S W (.slice none n c) := fun a n c e => by cases e
theorem Off.kept {S S' : Nat → Prop} {W W' : World} {v : Value} (h : Off S W v) (hk : Kept S S' W W') : Off S' W' v := fun a n c e => by
  obtain ⟨h1, h2⟩ := h a n c e
  refine ⟨Nat.lt_of_lt_of_le h1 hk.size, fun hs => ?_⟩
  rcases hk.own _ hs with h | h
  · exact h2 h
  · omega
theorem Off.below {S : Nat → Prop} {W W' : World} {v : Value} (h : Off S W v) (hs : W.heap.size ≤ W'.heap.size) : Off S W' v := fun a n c e => ⟨Nat.lt_of_lt_of_le (h a n c e).1 hs, (h a n c e).2⟩
theorem Off.turn {S : Nat → Prop} {W W' : World} {v v' : Value} (h : Off S W v) (hs : W.heap.size ≤ W'.heap.size) (hS : ∀ b, S b → b < W.heap.size) (hv : ∀ a n c, v' = .slice (some a) n c → v' = v ∨ (W.heap.size ≤ a.block ∧ a.block < W'.heap.size)) : Off S W' v' := fun a n c e => by
  rcases hv a n c e with rfl | ⟨h1, h2⟩
  · exact h.below hs a n c e
  · exact ⟨h2, fun hs => absurd (hS _ hs) (by omega)⟩
theorem StrsAt.kept {S S' : Nat → Prop} {W W' : World} {v : Value} {l : List ByteArray} (h : StrsAt W v l) (ho : Off S W v) (hk : Kept S S' W W') : StrsAt W' v l :=
  (hk.vals h.vals (fun a n c e => (ho a n c e).2)).strs
end Go.Proofs.Ytleicghfcffblaa
/- Rows of places (two cells each): a slice that reads as a list of places (PlsAt), a row of one's own (OwnPl); an append told with where the row lies. -/
namespace Go.Proofs.Ytleicghfcffblaa
open Go.RowKit
set_option maxRecDepth 20000
set_option linter.unusedVariables false
set_option linter.unusedSimpArgs false
def flatP : List (Nat × Nat) → List Value
  | [] => []
  | t :: l => .int .u64 t.1 :: .int .u32 t.2 :: flatP l
theorem flatP_len (l : List (Nat × Nat)) : (flatP l).length = l.length * 2 := by
  induction l with
  | nil => rfl
  | cons t l ih => simp [flatP, ih]; omega
theorem flatP_append (a b : List (Nat × Nat)) : flatP (a ++ b) = flatP a ++ flatP b := by
  induction a with
  | nil => rfl
  | cons t l ih => simp [flatP, ih]
theorem flatP_at (l : List (Nat × Nat)) : ∀ (k : Nat) (t : Nat × Nat), l[k]? = some t → (flatP l)[k * 2]? = some (.int .u64 t.1) ∧ (flatP l)[k * 2 + 1]? = some (.int .u32 t.2) := by
  induction l with
  | nil => intro k t h; simp at h
  | cons s l ih =>
    intro k t h
    cases k with
    | zero => simp at h; subst h; simp [flatP]
    | succ k =>
      have := ih k t (by simpa using h)
      rw [show (k + 1) * 2 = k * 2 + 1 + 1 by omega]
      simpa [flatP] using this
theorem flatP_one (l : List (Nat × Nat)) : ∀ u ∈ flatP l, u.oneCell' = true := by
  induction l with
  | nil => intro u h; simp [flatP] at h
  | cons t l ih =>
    intro u h
    simp only [flatP, List.mem_cons] at h
    rcases h with rfl | rfl | h
    · rfl
    · rfl
    · exact ih u h
def PlsAt (w : World) (v : Value) (l : List (Nat × Nat)) : Prop := ∃ a cap, v = .slice a l.length cap ∧ l.length ≤ cap ∧ cap ≤ maxLen ∧ ∀ k t, l[k]? = some t → ∃ g off, a = some ⟨g, off, none⟩ ∧ g < w.heap.size ∧ w.cell? ⟨g, off + k * 2, none⟩ = some (.int .u64 t.1) ∧ w.cell? ⟨g, off + k * 2 + 1, none⟩ = some (.int .u32 t.2)
def OwnPl (w : World) (B : Nat) (E : TypeId) (v : Value) (l : List (Nat × Nat)) : Prop := w.ownsRow B E 2 v l.length (flatP l)
theorem ownPl_nil (w : World) (B : Nat) (E : TypeId) : OwnPl w B E (.slice none 0 0) [] := World.ownsRow_nil _ _ _ _
theorem OwnPl.lt {w : World} {B : Nat} {E : TypeId} {v : Value} {l : List (Nat × Nat)} (h : OwnPl w B E v l) : ∀ k, v.ownBlock = some k → B ≤ k ∧ k < w.heap.size := World.ownsRow.lt h
theorem OwnPl.keep {w w' : World} {B : Nat} {E : TypeId} {v : Value} {l : List (Nat × Nat)} (h : OwnPl w B E v l) (hk : ∀ k, v.ownBlock = some k → w'.heap[k]? = w.heap[k]?) : OwnPl w' B E v l := by
  obtain ⟨h1, h2⟩ := h
  refine ⟨h1, ?_⟩
  rcases h2 with h2 | ⟨g, cap, cur, hv, hg, hh, r⟩
  · exact .inl h2
  · refine .inr ⟨g, cap, cur, hv, hg, ?_, r⟩
    rw [hk g (by rw [hv]; rfl)]; exact hh
theorem OwnPl.below {w w' : World} {B : Nat} {E : TypeId} {v : Value} {l : List (Nat × Nat)} (h : OwnPl w B E v l) (hb : Below w.heap.size w w') : OwnPl w' B E v l :=
  h.keep (fun k hk => hb.block k (h.lt k hk).2)
theorem OwnPl.kept {S S' : Nat → Prop} {w w' : World} {B : Nat} {E : TypeId} {v : Value} {l : List (Nat × Nat)} (h : OwnPl w B E v l) (ho : Off S w v) (hk : Kept S S' w w') : OwnPl w' B E v l := by
  refine h.keep (fun k hb => ?_)
  cases v with
  | slice a n c =>
    cases a with
    | none => cases hb
    | some a => cases hb; exact hk.same _ (ho a n c rfl).1 (ho a n c rfl).2
  | _ => cases hb
theorem OwnPl.plsAt {w : World} {B : Nat} {E : TypeId} {v : Value} {l : List (Nat × Nat)} (h : OwnPl w B E v l) : PlsAt w v l := by
  have hlt := h.lt
  have h' := h
  obtain ⟨h1, h2⟩ := h
  rcases h2 with ⟨rfl, hn⟩ | ⟨g, cap, cur, rfl, hg, hh, hle, hm, _⟩
  · obtain rfl : l = [] := List.eq_nil_of_length_eq_zero hn
    exact ⟨none, 0, rfl, Nat.le_refl _, by simp, fun k t h => by simp at h⟩
  · refine ⟨_, cap, rfl, hle, hm, fun k t ht => ⟨g, 0, rfl, (hlt g rfl).2, ?_⟩⟩
    have hk := (List.getElem?_eq_some_iff.1 ht).1
    obtain ⟨f0, f1⟩ := flatP_at l k t ht
    rw [Nat.zero_add]
    exact ⟨(World.ownsRow.cellAt h' (k * 2) (by omega)).trans f0, (World.ownsRow.cellAt h' (k * 2 + 1) (by omega)).trans f1⟩
/-- An append of one's own row, run: where it lies behind it. -/
theorem rappend_run (sz bytes : Nat) (W : World) (B : Nat) (TS E ty : TypeId) (z : Value) (ht : Try.prog.underlying TS = some (.slice E)) (hI : (Try.prog.info? E).map (fun i => (i.zero, i.size, i.bytes)) = some (some z, sz, bytes)) (hzs : z.cells.size = sz) (hsz : 0 < sz) (hby : bytes ≤ 64)
    (v : Value) (n : Nat) (L : List Value) (hown : W.ownsRow B E sz v n L) (ad : Addr) (m c : Nat) (xs : List Value) (hxs : xs.length = m * sz) (hnews : ∀ j u, xs[j]? = some u → W.cell? (ad.add j) = some u) (hone : ∀ u ∈ xs, u.oneCell' = true) (hm : 0 < m) (hl : n + m ≤ 1000000000) (hb : B ≤ W.heap.size) :
    ∃ v' w', (Builtin.append_ #[TS, TS] ty #[v, .slice (some ad) m c]).run Try.prog W = .ok v' w' ∧ w'.ownsRow B E sz v' (n + m) (L ++ xs) ∧ W.grownBy w' v.ownBlock ∧ (v'.ownBlock = v.ownBlock ∨ ∃ g, v'.ownBlock = some g ∧ W.heap.size ≤ g) := by
  obtain ⟨i0, hi, hz0, hz1, hz2⟩ := info_parts hI
  have hbb : (n + m) * bytes ≤ 1000000000 * 64 := Nat.mul_le_mul hl hby
  obtain ⟨v', w', hr, h2, h3, h4⟩ := run_append_own (P := Try.prog) W B TS ty E i0 _ sz bytes ht hi hz0 hz1 hz2 hzs hsz v n L hown ad m c xs hxs hnews hone (by unfold maxLen; omega) (by omega) hb
  refine ⟨v', w', hr, h2, h3, ?_⟩
  rcases hown.2 with ⟨rfl, hn⟩ | ⟨g, cap, cur, rfl, hbg, hg, hnc, hcm, hcs, htake⟩
  · obtain ⟨_, _, hr2, h22, _, _⟩ := run_append_own (P := Try.prog) W W.heap.size TS ty E i0 _ sz bytes ht hi hz0 hz1 hz2 hzs hsz (.slice none 0 0) n L ⟨hown.1, .inl ⟨rfl, hn⟩⟩ ad m c xs hxs hnews hone (by unfold maxLen; omega) (by omega) (Nat.le_refl _)
    rw [hr] at hr2
    injection hr2 with e1 e2
    subst e1 e2
    rcases h22.2 with ⟨rfl, _⟩ | ⟨g, cap, cur, rfl, hg, _⟩
    · exact .inl rfl
    · exact .inr ⟨g, rfl, hg⟩
  · have hL : L.length = n * i0.size := by rw [hz1]; exact hown.1
    by_cases hroom : n + m ≤ cap
    · have hmul : (n + m) * sz ≤ cap * sz := Nat.mul_le_mul_right _ hroom
      have hr2 := run_append_room (P := Try.prog) W TS ty E i0 ht hi g n cap cur hg ad m c xs (by rw [hz1]; exact hxs) hnews hone hroom (by rw [hz1, hxs, hcs, ← Nat.add_mul]; exact hmul)
      rw [hr] at hr2
      injection hr2 with e1 e2
      rw [e1]
      exact .inl rfl
    · have hr2 := run_append_grow (P := Try.prog) W TS ty E i0 _ ht hi hz0 ⟨g, 0, none⟩ n cap L hL (World.ownsRow.cells hown rfl) ad m c xs (by rw [hz1]; exact hxs) hnews (by omega) (by omega) (growslice_fits (by omega) (by rw [hz2]; omega))
      rw [hr] at hr2
      injection hr2 with e1 e2
      rw [e1]
      exact .inr ⟨_, rfl, Nat.le_refl _⟩
theorem infoPl : (Try.prog.info? 77).map (fun i => (i.zero, i.size, i.bytes)) = some (some (.agg #[.int .u64 0, .int .u32 0]), 2, 16) := by kernel_rfl
/-- Behind such an append the row is still nobody's of S. -/
theorem Off.moved {S : Nat → Prop} {W W' : World} {B : Nat} {E : TypeId} {v v' : Value} {l : List (Nat × Nat)} (h : Off S W v) (hown : OwnPl W' B E v' l) (hS : ∀ b, S b → b < W.heap.size) (hs : W.heap.size ≤ W'.heap.size) (hm : v'.ownBlock = v.ownBlock ∨ ∃ g, v'.ownBlock = some g ∧ W.heap.size ≤ g) : Off S W' v' := fun a n c e => by
  refine ⟨(hown.lt a.block (by rw [e]; rfl)).2, fun hsa => ?_⟩
  rcases hm with hm | ⟨g, hg, hge⟩
  · rw [e] at hm
    cases v with
    | slice a' n' c' =>
      cases a' with
      | none => cases hm
      | some a' =>
        have : a.block = a'.block := by injection hm
        exact (h a' n' c' rfl).2 (this ▸ hsa)
    | _ => cases hm
  · rw [e] at hg
    have : a.block = g := by injection hg
    have := hS _ hsa
    omega
/-- What such an append leaves of the world. -/
theorem Kept.grown {S : Nat → Prop} {W W' : World} {v : Value} (hg : W.grownBy W' v.ownBlock) (T : Nat → Prop) (hT : ∀ k, v.ownBlock = some k → T k) : Kept T T W W' :=
  ⟨hg.os, hg.tape, hg.output, hg.size, fun b hb hs => hg.block b hb (fun e => hs (hT b e.symm)), fun _ h => .inl h⟩
end Go.Proofs.Ytleicghfcffblaa
