/- Who owns which blocks: a step that writes the blocks of S alone; behind it S' are the writer's own: those of S and new ones. -/
import Derived.Test.YtegboojhebhlnaaKb
namespace Go.Proofs.Ytegboojhebhlnaa
open Go.RowKit
set_option linter.unusedVariables false
structure Kept (S S' : Nat → Prop) (W W' : World) : Prop where
  os : W'.os = W.os
  tape : W'.tape = W.tape
  output : W'.output = W.output
  size : W.heap.size ≤ W'.heap.size
  same : ∀ b, b < W.heap.size → ¬ S b → W'.heap[b]? = W.heap[b]?
  own : ∀ b, S' b → S b ∨ W.heap.size ≤ b
theorem Kept.refl (S : Nat → Prop) (W : World) : Kept S S W W := ⟨rfl, rfl, rfl, Nat.le_refl _, fun _ _ _ => rfl, fun _ h => .inl h⟩
theorem Kept.trans {S S' S'' : Nat → Prop} {X Y Z : World} (h : Kept S S' X Y) (h' : Kept S' S'' Y Z) : Kept S S'' X Z := by
  refine ⟨h'.os.trans h.os, h'.tape.trans h.tape, h'.output.trans h.output, Nat.le_trans h.size h'.size, fun b hb hs => ?_, fun b hb => ?_⟩
  · rw [h'.same b (Nat.lt_of_lt_of_le hb h.size) (fun hs' => ?_), h.same b hb hs]
    rcases h.own b hs' with h1 | h1
    · exact hs h1
    · omega
  · rcases h'.own b hb with h1 | h1
    · exact h.own b h1
    · exact .inr (Nat.le_trans h.size h1)
theorem Kept.below (S : Nat → Prop) {W W' : World} (hb : Below W.heap.size W W') : Kept S S W W' := ⟨hb.os, hb.tape, hb.output, hb.size, fun b hl _ => hb.block b hl, fun _ h => .inl h⟩
/-- A step of one's own that one's caller need not know of. -/
theorem Below.kept {S S' : Nat → Prop} {B : Nat} {w W W' : World} (h : Below B w W) (hk : Kept S S' W W') (hS : ∀ b, S b → B ≤ b) (hB : B ≤ W.heap.size) : Below B w W' :=
  ⟨hk.os.trans h.os, hk.tape.trans h.tape, hk.output.trans h.output, Nat.le_trans h.size hk.size, fun b hb => (hk.same b (Nat.lt_of_lt_of_le hb hB) (fun hs => absurd (hS b hs) (by omega))).trans (h.block b hb)⟩
theorem Kept.base {S S' : Nat → Prop} {B : Nat} {W W' : World} (hk : Kept S S' W W') (hS : ∀ b, S b → B ≤ b) (hB : B ≤ W.heap.size) : ∀ b, S' b → B ≤ b := fun b hb => by
  rcases hk.own b hb with h | h
  · exact hS b h
  · omega
/-- What is apart stays apart. -/
theorem Kept.apart {S S' T : Nat → Prop} {W W' : World} (hk : Kept S S' W W') (hT : ∀ b, T b → b < W.heap.size) (hST : ∀ b, S b → ¬ T b) : ∀ b, S' b → ¬ T b := fun b hb ht => by
  rcases hk.own b hb with h | h
  · exact hST b h ht
  · have := hT b ht; omega
theorem Kept.cell {S S' : Nat → Prop} {W W' : World} (h : Kept S S' W W') {p : Addr} (hl : p.block < W.heap.size) (hp : ¬ S p.block) : W'.cell? p = W.cell? p := World.cell?_of_block (h.same _ hl hp)
theorem Kept.vals {S S' : Nat → Prop} {W W' : World} (h : Kept S S' W W') {v : Value} {xs : List Value} (hv : ValsAt W v xs) (hn : ∀ a n c, v = .slice (some a) n c → ¬ S a.block) : ValsAt W' v xs :=
  hv.keep h.size (fun a n c e hl => h.same _ hl (hn a n c e))
/-- Two cells that are nobody's of S. -/
def Side (S : Nat → Prop) (W : World) (g : Nat) (x y : Value) : Prop := Two W g x y ∧ ¬ S g
theorem Side.kept {S S' : Nat → Prop} {W W' : World} {g : Nat} {x y : Value} (h : Side S W g x y) (hk : Kept S S' W W') : Side S' W' g x y := by
  obtain ⟨⟨h0, h1, h2, h3⟩, hn⟩ := h
  have hl := vcell_lt h0
  have hs := hk.same g hl hn
  refine ⟨⟨(World.cell?_of_block (a := ⟨g, 0, none⟩) hs).trans h0, (World.cell?_of_block (a := ⟨g, 1, none⟩) hs).trans h1, (World.frozen?_of_block (a := ⟨g, 0, none⟩) hs).trans h2, (World.frozen?_of_block (a := ⟨g, 1, none⟩) hs).trans h3⟩, fun hg => ?_⟩
  rcases hk.own g hg with h | h
  · exact hn h
  · exact absurd h (Nat.not_le.2 hl)
theorem Side.below {S : Nat → Prop} {W W' : World} {g : Nat} {x y : Value} (h : Side S W g x y) (hb : Below W.heap.size W W') : Side S W' g x y := ⟨h.1.below hb, h.2⟩
theorem Side.alloc {S : Nat → Prop} {W : World} {g : Nat} {x y : Value} (h : Side S W g x y) (o : Obj) : Side S (W.alloc o) g x y := ⟨h.1.alloc o, h.2⟩
theorem side_new {S : Nat → Prop} {W : World} (x y : Value) (T : TypeId) (hS : ∀ b, S b → b < W.heap.size) : Side S (W.alloc (.cells #[x, y] T)) W.heap.size x y :=
  ⟨two_new W x y T, fun h => absurd (hS _ h) (Nat.lt_irrefl _)⟩
/-- A slice's row is nobody's of S. -/
def Off (S : Nat → Prop) (W : World) (v : Value) : Prop := ∀ a n c, v = .slice (some a) n c → a.block < W.heap.size ∧ ¬ S a.block
theorem off_nil (S : Nat → Prop) (W : World) (n c : Nat) : Off S W (.slice none n c) := fun a n c e => by cases e
theorem Off.kept {S S' : Nat → Prop} {W W' : World} {v : Value} (h : Off S W v) (hk : Kept S S' W W') : Off S' W' v := fun a n c e => by
  obtain ⟨h1, h2⟩ := h a n c e
  refine ⟨Nat.lt_of_lt_of_le h1 hk.size, fun hs => ?_⟩
  rcases hk.own _ hs with h | h
  · exact h2 h
  · omega
theorem Off.below {S : Nat → Prop} {W W' : World} {v : Value} (h : Off S W v) (hs : W.heap.size ≤ W'.heap.size) : Off S W' v := fun a n c e => ⟨Nat.lt_of_lt_of_le (h a n c e).1 hs, (h a n c e).2⟩
theorem Off.turn {S : Nat → Prop} {W W' : World} {v v' : Value} (h : Off S W v) (hs : W.heap.size ≤ W'.heap.size) (hS : ∀ b, S b → b < W.heap.size) (hv : ∀ a n c, v' = .slice (some a) n c → v' = v ∨ (W.heap.size ≤ a.block ∧ a.block < W'.heap.size)) : Off S W' v' := fun a n c e => by
  rcases hv a n c e with rfl | ⟨h1, h2⟩
  · exact h.below hs a n c e
  · exact ⟨h2, fun hs => absurd (hS _ hs) (by omega)⟩
theorem StrsAt.kept {S S' : Nat → Prop} {W W' : World} {v : Value} {l : List ByteArray} (h : StrsAt W v l) (ho : Off S W v) (hk : Kept S S' W W') : StrsAt W' v l :=
  (hk.vals h.vals (fun a n c e => (ho a n c e).2)).strs
end Go.Proofs.Ytegboojhebhlnaa
