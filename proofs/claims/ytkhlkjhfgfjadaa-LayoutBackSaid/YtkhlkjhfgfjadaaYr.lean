/- Arrays in boxes as letters: read in a region that draws its order; made and filled. -/
import Derived.Test.YtkhlkjhfgfjadaaYk
import Derived.Deep.RegionHeld3
namespace Go.Proofs.Ytkhlkjhfgfjadaa
open Go.RowKit
set_option maxRecDepth 20000
set_option linter.unusedVariables false
set_option linter.unusedSimpArgs false
theorem takeH {P : Program} {ops : Array Oper} {Q : Exit → Act → World → Prop} {md : Region.Mode} {S : World → Prop} {i d : Nat} {oi : Oper} {v : Value} {fuel : Nat} {listed : Array Bool} {a : Act} {w : World} (hi : ops[i]? = some oi) (hd : oi.dst = some d)
    (hs : Region.noSelect ops = true) (hf : Region.free md ops listed i = true) (hr : (Region.ready md ops listed).contains i = true)
    (hQ : ∀ c a w, Q (.panic c) (a.put (some d) v) w → Q (.panic c) a w) (hy : YieldsIf P ops S oi v a) (hS : S w)
    (h : wpAnyH P md ops Q S fuel (listed.setIfInBounds i true) (a.put (some d) v) w) : wpAnyH P md ops Q S (fuel + 1) listed a w :=
  wpAnyH_take hi hs hf hr (by rw [hd]; exact hQ) hy hS (by rw [hd]; exact h)
theorem yieldsIf_row {ops : Array Oper} {S : World → Prop} {op : Oper} {a : Act} (hw : Region.wanted op (yielded ops a.tmps) = true) (ty : TypeId) (x : Operand) (ho : op.op = .load ty x)
    (g : Nat) (hx : a.eval x = .pointer (some ⟨g, 0, none⟩)) (T : TypeId) (A : Array Value) (hl : ∀ w : World, w.heap[g]? = some (.cells A T (0, 0)) → (loadVar ty ⟨g, 0, none⟩).run Try.prog w = .ok (.agg A) w)
    (hS : ∀ w, S w → w.heap[g]? = some (.cells A T (0, 0))) : YieldsIf Try.prog ops S op (.agg A) a :=
  .inl ⟨hw, fun w hw' => by
    unfold execOp
    simp only [ho, hx, Instr.loadAt, Instr.sureAddr, Sem.run_bind, Sem.run_pure, Result.andThen_ok, hl w (hS w hw')]⟩
theorem hk_later {w w' : World} {b : Nat} {o : Obj} (hb : Below w.heap.size w w') (h : w.heap[b]? = some o) : w'.heap[b]? = some o :=
  (hb.block b (Array.getElem?_eq_some_iff.1 h).1).trans h
/-- A box made and filled. -/
structure OneW (w : World) (Z A : Array Value) (T : TypeId) : Prop where
  s1 : (w.alloc (.cells Z T)).heap[w.heap.size]? = some (.cells Z T (0, 0))
  e1 : ((w.alloc (.cells Z T)).setRow w.heap.size A).heap[w.heap.size]? = some (.cells A T (0, 0))
  e3 : Below w.heap.size w ((w.alloc (.cells Z T)).setRow w.heap.size A)
theorem one_of (w : World) (Z A : Array Value) (T : TypeId) (hz : Z.size = A.size) : OneW w Z A T := by
  have h1 := heap_new15 w (.cells Z T)
  exact ⟨h1, hrow h1 hz, below_setRow ((Below.refl _ w).alloc (Nat.le_refl _) _) (Nat.le_refl _) _⟩
/-- Two boxes made and filled. -/
structure TwoG (w : World) (Z A : Array Value) (T : TypeId) (Z2 A2 : Array Value) (T2 : TypeId) : Prop where
  s1 : ((w.alloc (.cells Z T)).alloc (.cells Z2 T2)).heap[w.heap.size]? = some (.cells Z T (0, 0))
  s2 : (((w.alloc (.cells Z T)).alloc (.cells Z2 T2)).setRow w.heap.size A).heap[w.heap.size + 1]? = some (.cells Z2 T2 (0, 0))
  e1 : ((((w.alloc (.cells Z T)).alloc (.cells Z2 T2)).setRow w.heap.size A).setRow (w.heap.size + 1) A2).heap[w.heap.size]? = some (.cells A T (0, 0))
  e2 : ((((w.alloc (.cells Z T)).alloc (.cells Z2 T2)).setRow w.heap.size A).setRow (w.heap.size + 1) A2).heap[w.heap.size + 1]? = some (.cells A2 T2 (0, 0))
  e3 : Below w.heap.size w ((((w.alloc (.cells Z T)).alloc (.cells Z2 T2)).setRow w.heap.size A).setRow (w.heap.size + 1) A2)
theorem twog_of (w : World) (Z A : Array Value) (T : TypeId) (Z2 A2 : Array Value) (T2 : TypeId) (hz : Z.size = A.size) (hz2 : Z2.size = A2.size) : TwoG w Z A T Z2 A2 T2 := by
  have h1 : ((w.alloc (.cells Z T)).alloc (.cells Z2 T2)).heap[w.heap.size]? = some (.cells Z T (0, 0)) := (heap_alloc_old (by simp)).trans (heap_new15 w _)
  have h2 : ((w.alloc (.cells Z T)).alloc (.cells Z2 T2)).heap[w.heap.size + 1]? = some (.cells Z2 T2 (0, 0)) := by
    have := heap_new15 (w.alloc (.cells Z T)) (.cells Z2 T2)
    rw [World.size_alloc] at this
    exact this
  have hb : Below w.heap.size w ((w.alloc (.cells Z T)).alloc (.cells Z2 T2)) := ((Below.refl _ w).alloc (Nat.le_refl _) _).alloc (by simp) _
  have key : ∀ W : World, W.heap[w.heap.size]? = some (.cells Z T (0, 0)) → W.heap[w.heap.size + 1]? = some (.cells Z2 T2 (0, 0)) → Below w.heap.size w W →
      (W.setRow w.heap.size A).heap[w.heap.size + 1]? = some (.cells Z2 T2 (0, 0)) ∧ ((W.setRow w.heap.size A).setRow (w.heap.size + 1) A2).heap[w.heap.size]? = some (.cells A T (0, 0)) ∧ ((W.setRow w.heap.size A).setRow (w.heap.size + 1) A2).heap[w.heap.size + 1]? = some (.cells A2 T2 (0, 0)) ∧
      Below w.heap.size w ((W.setRow w.heap.size A).setRow (w.heap.size + 1) A2) := fun W h1 h2 hb => by
    have h3 := hrow h1 hz
    have g2 : (W.setRow w.heap.size A).heap[w.heap.size + 1]? = some (.cells Z2 T2 (0, 0)) := (setRow_other _ _ _ _ (by omega)).trans h2
    exact ⟨g2, (setRow_other _ _ _ _ (by omega)).trans h3, hrow g2 hz2, below_setRow (below_setRow hb (Nat.le_refl _) _) (by omega) _⟩
  obtain ⟨k1, k2, k3, k4⟩ := key _ h1 h2 hb
  exact ⟨h1, k1, k2, k3, k4⟩
theorem loadW_hd {ops : Array Oper} {rest : List Oper} {o : Oper} {a : Act} {w : World} {Q : Exit → Act → World → Prop} (hw : Region.wanted o (yielded ops a.tmps) = true) (x : Operand) (ho : o.op = .load 38 x)
    (g : Nat) (hx : a.eval x = .pointer (some ⟨g, 0, none⟩)) (T : TypeId) (A : Array Value) (H : w.heap[g]? = some (.cells A T (0, 0))) (hz : (Try.prog.info? 38).map (·.size) = some A.size) (k : wpList Try.prog ops Q rest (a.put o.dst (.agg A)) w) : wpList Try.prog ops Q (o :: rest) a w :=
  BigFrame.wpList_want hw fun _ hK => wp_load_row 38 x ho g hx T A (0, 0) _ H Try.underlying38 rfl hz (hK _ _ k)
theorem loadW_str {ops : Array Oper} {rest : List Oper} {o : Oper} {a : Act} {w : World} {Q : Exit → Act → World → Prop} (hw : Region.wanted o (yielded ops a.tmps) = true) (x : Operand) (ho : o.op = .load 44 x)
    (g : Nat) (hx : a.eval x = .pointer (some ⟨g, 0, none⟩)) (T : TypeId) (A : Array Value) (H : w.heap[g]? = some (.cells A T (0, 0))) (hz : (Try.prog.info? 44).map (·.size) = some A.size) (k : wpList Try.prog ops Q rest (a.put o.dst (.agg A)) w) : wpList Try.prog ops Q (o :: rest) a w :=
  BigFrame.wpList_want hw fun _ hK => wp_load_row 44 x ho g hx T A (0, 0) _ H Try.underlying44 rfl hz (hK _ _ k)
/-- A letter for an array that a box may hold. -/
structure Ar (ty : TypeId) (k : Nat) (A : Array Value) : Prop where
  sz : (Try.prog.info? ty).map (·.size) = some A.size
  eq : k = A.size
  one : A.all (·.oneCell') = true
theorem ar_head (h : Hd) : Ar 38 24 (cH h) := ⟨head_size, rfl, cH_one h⟩
theorem ar_rhead (h : Hd) : Ar 27 24 (cH h) := ⟨rhead_size, rfl, cH_one h⟩
theorem ar_sec (s : Sc) : Ar 30 8 (sArr s) := ⟨by kernel_rfl, rfl, by simp [sArr, Value.oneCell']⟩
theorem ar_rsec (s : Sc) : Ar 28 8 (sArr s) := ⟨by kernel_rfl, rfl, by simp [sArr, Value.oneCell']⟩
theorem ar_str (p : Pt) : Ar 44 4 (pArr p) := ⟨str4_size, rfl, by simp [pArr, Value.oneCell']⟩
theorem ar_num (a b c d : Int) : Ar 23 4 #[.int .u64 a, .int .u64 b, .int .u64 c, .int .u64 d] := ⟨by kernel_rfl, rfl, by simp [Value.oneCell']⟩
end Go.Proofs.Ytkhlkjhfgfjadaa
