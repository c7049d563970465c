/- Appends of items as steps of a region that draws; slices of a row. -/
import Derived.Test.YtmmjdlpoiibhaaaLx
import Derived.Deep.RegionLawGrows
namespace Go.Proofs.Ytmmjdlpoiibhaaa
open Go.RowKit
set_option maxRecDepth 20000
set_option linter.unusedVariables false
set_option linter.unusedSimpArgs false
theorem own_built (X : World) (B b : Nat) (hb : X.heap[b]? = some (.cells #[] 52 (0, 0))) (hB : B ≤ b) : OwnIt X B 52 (.slice (some ⟨b, 0, none⟩) 0 0) [] :=
  ⟨rfl, .inr ⟨b, 0, #[], rfl, hB, hb, Nat.le_refl _, Nat.zero_le _, rfl, rfl⟩⟩
theorem step_itappend {ops : Array Oper} {o : Oper} {a : Act} {w : World} {K : Act → World → Prop} {Q : Exit → Act → World → Prop} {E : Prop}
    (hg : o.guard = none) (s x : Operand) (hop : o.op = Op.call { callee := Callee.builtin Builtin.append, args := #[s, x], argTypes := #[24, 24] })
    (B : Nat) (v xv : Value) (L m : List It) (hown : OwnIt w B 52 v L) (hxa : ItsAt w xv m) (hl : L.length + m.length ≤ 1000000) (hb : B ≤ w.heap.size) (hs : a.eval s = v) (hx : a.eval x = xv)
    (hK : ∀ v' w', OwnIt w' B 52 v' (L ++ m) → w.grownBy w' v.ownBlock → K (a.put o.dst v') w') :
    if Region.wanted o (yielded ops a.tmps) = true then Oper.wp Try.prog o a w K Q else E := by
  have hw : Region.wanted o (yielded ops a.tmps) = true := by simp [Region.wanted, hg]
  rw [if_pos hw]
  obtain ⟨v', w', hrun, h1, h2⟩ := itappend_run w B 24 52 o.type _ Try.underlying24 infoPit rfl v xv L m hown hxa hl hb
  unfold Oper.wp
  simp [execOp, hop, resolve, invoke, builtin, hs, hx, hrun, Result.andThen]
  exact hK v' w' h1 h2
theorem heap_new2 (w : World) (o o' : Obj) : ((w.alloc o).alloc o').heap[w.heap.size + 1]? = some o' := by
  have h := heap_new (w.alloc o) o'
  rw [World.size_alloc] at h
  exact h
theorem heap_old2 (w : World) (o o' : Obj) : ((w.alloc o).alloc o').heap[w.heap.size]? = some o :=
  ((below_one (w.alloc o) o').block w.heap.size (by rw [World.size_alloc]; omega)).trans (heap_new w o)
end Go.Proofs.Ytmmjdlpoiibhaaa
