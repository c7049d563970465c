/- What Each hands, said of any function value: the entries of a row, each with its place; what a range's body may do. -/
import Derived.Deep.RegionHeld3
import Derived.RangeFuncNested
import Derived.RangeFuncBound
import Derived.RangeFuncCalls
import Derived.RangeFuncLeaves
import Derived.RangeFuncWrites
import Derived.Shelf.Abstract
import Derived.Shelf.RegionOpen
import Derived.OwnWalkIn
import Derived.TacticsInMore
import Derived.LoopNIn
import Derived.LoopIn
import Derived.Test.YtgnghnekckhcdaaMI
import Derived.Test.YtgnghnekckhcdaaMP
namespace Go.Proofs.Ytgnghnekckhcdaa
open Go.RowKit Go.Shelf
set_option linter.unusedVariables false
set_option linter.unusedSimpArgs false
/-- An entry with its place. -/
abbrev PE := { p : Nat × En // p.1 ≤ 5000 }
def atE (l : List En) (k : Nat) : PE := ⟨(min k 5000, gE l k), Nat.min_le_right _ _⟩
/-- The first k entries of a row, each with its place. -/
def upE (l : List En) (k : Nat) : List PE := (List.range k).map (atE l)
theorem upE_succ (l : List En) (k : Nat) : upE l (k + 1) = upE l k ++ [atE l k] := by simp [upE, List.range_succ]
theorem upE_len (l : List En) (k : Nat) : (upE l k).length = k := by simp [upE]
def encE (p : PE) : Array Value := #[.int .u64 (p.1.1 : Int), .agg (eC p.1.2)]
/-- What lies of cells and walks lies on, but block B. -/
def KC (B : Nat) (W W' : World) : Prop := W.heap.size ≤ W'.heap.size ∧ ∀ (k : Nat) (o : Obj), k ≠ B → W.heap[k]? = some o → (o.isCells = true ∨ o.isWalk = true) → W'.heap[k]? = some o
theorem KC.trans {B : Nat} {X Y Z : World} (h : KC B X Y) (h' : KC B Y Z) : KC B X Z := ⟨Nat.le_trans h.1 h'.1, fun k o hk ho hc => h'.2 k o hk (h.2 k o hk ho hc) hc⟩
theorem KC.putObj (B : Nat) (W : World) (l : Nat) (o o' : Obj) (hl : W.heap[l]? = some o) (h1 : o.isCells = false) (h2 : o.isWalk = false) : KC B W (W.putObj l o') := by
  refine ⟨by simp, fun k q hk hq hc => ?_⟩
  by_cases h : k = l
  · subst h
    rw [hl] at hq
    cases hq
    rw [h1, h2] at hc
    simp at hc
  · exact (World.putObj_heap_other h).trans hq
theorem KC.grown {B : Nat} {W W' : World} (h : W.grownBy W' (some B)) : KC B W W' := ⟨h.size, fun k o hk ho _ => (h.block k (Array.getElem?_eq_some_iff.1 ho).1 (fun e => hk (Option.some.inj e))).trans ho⟩
theorem KC.below {B : Nat} {W W' : World} (h : Below W.heap.size W W') : KC B W W' := ⟨h.size, fun k o hk ho _ => (h.block k (Array.getElem?_eq_some_iff.1 ho).1).trans ho⟩
theorem KC.setCell (B : Nat) (W : World) (u : Value) : KC B W (W.setCell ⟨B, 0, none⟩ u) := KC.grown (grownBy_setCell' W B u)
theorem fn_nil (g : Nat) (lb : Array Value) (w : World) : (Op.equal 46 (.func (.func g) #[] lb) .nilFunc).run Try.prog w = .ok false w := by
  rw [Op.equal, show Op.maxDepth = 9999 + 1 from rfl]
  unfold Op.equalIn
  simp [go_sem]
theorem fn_neq (g : Nat) (lb : Array Value) (w : World) : (binOp BinOp.neq 46 (.func (.func g) #[] lb) .nilFunc).run Try.prog w = .ok (.bool true) w := by
  simp [binOp, go_sem, fn_nil]
theorem fn_eql (g : Nat) (lb : Array Value) (w : World) : (binOp BinOp.eql 46 (.func (.func g) #[] lb) .nilFunc).run Try.prog w = .ok (.bool false) w := by
  simp [binOp, go_sem, fn_nil]
theorem keeps_below {B : Nat} {W W' : World} (hb : Below W.heap.size W W') : KeepsFrom B W W' := ⟨hb.size, fun k o _ hk _ => (hb.block k (Array.getElem?_eq_some_iff.1 hk).1).trans hk⟩
theorem boxed_later {W W' : World} {b : Nat} {t : TypeId} {v : Value} (h : Boxed W b t v) (hb : Below W.heap.size W W') : Boxed W' b t v := (hb.block b h.lt).trans h
theorem ens_own {β : Type} (v : Value) (l : List En) (B : Nat) : OwnFrom B (fun (_ : β) W => EnsAt W v l) := fun _ X Y row hs hg hr => by
  obtain ⟨a, cap, e, h1, h2, hc⟩ := hs
  refine ⟨a, cap, e, h1, h2, fun k t ht => ?_⟩
  obtain ⟨g, off, ea, hb, c0, c1, c2, c3⟩ := hc k t ht
  exact ⟨g, off, ea, Nat.lt_of_lt_of_le hb hg.size, cell_kept c0 hg (fun r e => (hr r e).2), cell_kept c1 hg (fun r e => (hr r e).2), cell_kept c2 hg (fun r e => (hr r e).2), cell_kept c3 hg (fun r e => (hr r e).2)⟩
theorem eat_own {B : Nat} (b : Nat) (e : En) : OwnFrom B (fun (_ : Unit) W => EAt W b e) := fun _ X Y row hs hg hr =>
  ⟨cell_kept hs.1 hg (fun r h => (hr r h).2), cell_kept hs.2.1 hg (fun r h => (hr r h).2), cell_kept hs.2.2.1 hg (fun r h => (hr r h).2), cell_kept hs.2.2.2 hg (fun r h => (hr r h).2)⟩
theorem ens_set {W : World} {b : Nat} {t : TypeId} {u v : Value} {l : List En} (h : EnsAt W v l) (hb : Boxed W b t u) (u' : Value) : EnsAt (W.setCell ⟨b, 0, none⟩ u') v l := by
  obtain ⟨a, cap, e, h1, h2, hc⟩ := h
  refine ⟨a, cap, e, h1, h2, fun k t' ht => ?_⟩
  obtain ⟨g, off, ea, hg, c0, c1, c2, c3⟩ := hc k t' ht
  have hne : b ≠ g := by
    rintro rfl
    have hb' : W.heap[b]? = some (.cells #[u] t (0, 0)) := hb
    simp [World.cell?, hb'] at c1
  have hf : ∀ o, (W.setCell ⟨b, 0, none⟩ u').cell? ⟨g, o, none⟩ = W.cell? ⟨g, o, none⟩ := fun o => World.cell?_setCell_far W ⟨b, 0, none⟩ ⟨g, o, none⟩ u' hne
  exact ⟨g, off, ea, by simpa using hg, (hf _).trans c0, (hf _).trans c1, (hf _).trans c2, (hf _).trans c3⟩
/-- What Each hands. -/
def EachVal (l : List En) (w : World) (y : Value) (w' : World) : Prop :=
  (∃ (g : Nat) (lb : Array Value), y = .func (.func g) #[] lb ∧ (∀ args W, (callFunc g args).run Try.prog W = .ok (.enter g args) W) ∧
    ∀ (n : Nat) (w2 : World) (B : Nat), 3 ≤ n → Below w'.heap.size w' w2 → B < w2.heap.size → (B < w.heap.size ∨ w'.heap.size ≤ B) →
      SeqStopsK Fence.wide n Try.prog g lb encE (KC B) (fun ys => ys = upE l l.length) (fun pre => ∃ k, k ≤ l.length ∧ pre = upE l k) l.length w2) ∧ Below w.heap.size w w'
end Go.Proofs.Ytgnghnekckhcdaa
