/- Ranges in a law: the marks that they leave; boxes that last. -/
import Derived.Test.YtmmjdlpoiibhaaaRn
import Derived.Test.YtmmjdlpoiibhaaaLr
import Derived.RangeFuncBox
namespace Go.Proofs.Ytmmjdlpoiibhaaa
open Go.RowKit Go.Shelf
set_option maxRecDepth 20000
set_option linter.unusedVariables false
set_option linter.unusedSimpArgs false
/-- The marks that ranges have left. -/
def mksD (Ds : List Nat) : List Deferred := Ds.map fun D => { target := .collected D, args := #[] }
/-- They lie as they were laid. -/
def MkAt (Ds : List Nat) (W : World) : Prop := ∀ D, D ∈ Ds → W.heap[D]? = some (.deferred (some []))
theorem leaves_marks {n : Nat} {P : Program} {fn : Func} {tmps : Array Value} {R : Ending → World → Prop} (p : World → Prop) : ∀ (Ds : List Nat) (W : World), MkAt Ds W → Ds.Nodup → p W →
    (∀ X D, D ∈ Ds → X.heap[D]? = some (.deferred (some [])) → p X → p (X.putObj D (.deferred none))) → (∀ W', p W' → LeavesInM Fence.wide n P fn tmps R [] .returning W') → LeavesInM Fence.wide n P fn tmps R (mksD Ds) .returning W
  | [], W, _, _, hp, _, h => h W hp
  | D :: Ds, W, hm, hn, hp, hs, h => by
    have hD := hm D (List.mem_cons_self ..)
    refine ⟨by simp, .inl ⟨D, _, rfl, run_takeDeferred hD, ?_⟩⟩
    refine leaves_marks p Ds _ (fun D' h' => ?_) (List.nodup_cons.1 hn).2 (hs W D (List.mem_cons_self ..) hD hp) (fun X E hE => hs X E (List.mem_cons_of_mem _ hE)) h
    have hne : D' ≠ D := fun e => (List.nodup_cons.1 hn).1 (e ▸ h')
    exact (World.putObj_heap_other hne).trans (hm D' (List.mem_cons_of_mem _ h'))
theorem res_cell6 {fn : Func} (h : fn.results = #[.cell 6 4]) (tmps : Array Value) (W : World) (b : Nat) (x : Bool) (hp : tmps.getD 6 undef = .pointer (some ⟨b, 0, none⟩)) (hb : Boxed W b 4 (.bool x)) : (results fn tmps).run Try.prog W = .ok (.bool x) W := by
  have hc := hb.cell
  have hp' : tmps[6]?.getD undef = .pointer (some ⟨b, 0, none⟩) := by simpa using hp
  simp only [results, h]
  simp [go_sem, hp', hc]
theorem boxed_later {W W' : World} {b : Nat} {t : TypeId} {v : Value} (h : Boxed W b t v) (hb : Below W.heap.size W W') : Boxed W' b t v := (hb.block b h.lt).trans h
theorem boxed_bears {β : Type} (b : Nat) (t : TypeId) (f : β → Value) (B : Nat) : Bears (fun _ => False) B (fun s W => Boxed W b t (f s)) := fun s X Y row hs hg hr => hs.kept hg (fun e' => by
  rcases hr b e'.symm with h | ⟨_, o, ho, hc⟩
  · exact h
  · rw [show X.heap[b]? = _ from hs] at ho; cases ho; cases hc)
theorem Boxed.one {W : World} {b : Nat} {t : TypeId} {v : Value} (h : Boxed W b t v) : One W b v := ⟨t, h⟩
/-- What must be achieved where a piece of code goes on as usual, and in no other way. -/
def normOnly (Q : Exit → Act → World → Prop) : Exit → Act → World → Prop
  | .normal, a, w => Q .normal a w
  | _, _, _ => False
theorem normOnly_to {Q : Exit → Act → World → Prop} : ∀ (e : Exit) (a : Act) (w : World), normOnly Q e a w → Q e a w
  | .normal, _, _, h => h
theorem normOnly_region {P : Program} {ops : Array Oper} {Q : Exit → Act → World → Prop} {S : World → Prop} {id : Nat} {a : Act} {w : World} (hm : P.follows .mixedOrders = true) (hS : S w.drew)
    (h : S w.drew → wpAnyH P .any ops (normOnly Q) S ops.size (Array.replicate ops.size false) a w.drew) : (Code.region id ops true).wp P (normOnly Q) a w := wp_region_held_drew hm hS h
/-- A piece of code that goes on as usual, with what it leaves. -/
def onlyN (R : Act → World → Prop) : Exit → Act → World → Prop
  | .normal, a, w => R a w
  | _, _, _ => False
theorem onlyN_to {R : Act → World → Prop} {Q : Exit → Act → World → Prop} (h : ∀ a w, R a w → Q .normal a w) : ∀ (e : Exit) (a : Act) (w : World), onlyN R e a w → Q e a w
  | .normal, a, w, h' => h a w h'
end Go.Proofs.Ytmmjdlpoiibhaaa
