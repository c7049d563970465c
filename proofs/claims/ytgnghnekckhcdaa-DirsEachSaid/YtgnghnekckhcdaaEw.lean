/- A range over what Each hands: the library's law at the pair of an entry and its place, the activation told by four slots. -/
import Derived.Test.YtgnghnekckhcdaaEv
namespace Go.Proofs.Ytgnghnekckhcdaa
open Go.RowKit Go.Shelf
set_option linter.unusedVariables false
set_option linter.unusedSimpArgs false
/-- The temporaries of a round: the two that are handed, the two that the loop names (the entry in a box). -/
def tE (T : Array Value) (p q r s : Nat) (x : PE) (Bx : Nat) : Array Value := (((T.setIfInBounds p (.int .u64 (x.1.1 : Int))).setIfInBounds q (.agg (eC x.1.2))).setIfInBounds r (.int .u64 (x.1.1 : Int))).setIfInBounds s (.pointer (some ⟨Bx, 0, none⟩))
def AxE (T : Array Value) (p q r s n1 : Nat) (x : PE) (a' : Act) (W : World) : Prop := ∃ Bx, n1 < Bx ∧ EAt W Bx x.1.2 ∧ a' = { tmps := tE T p q r s x Bx, defers := [] }
theorem range_e {n : Nat} {g : Operand} {p q r s : Nat} {assign body : Code} {Q : Exit → Act → World → Prop} {a : Act} {w : World} (h1 : 1 ≤ n) {gf : Nat} {lb : Array Value} (hg : a.eval g = .func (.func gf) #[] lb) (eg : ∀ args w, (callFunc gf args).run Try.prog w = .ok (.enter gf args) w)
    {B n1 : Nat} {S Sp : List PE → Prop} {N : Nat} {w0 : World} (hseq : SeqStopsK Fence.wide (n - 1) Try.prog gf lb encE (KC B) S Sp N w0) (hb0 : Below w0.heap.size w0 w)
    (I : List PE → World → Prop) (Ix : Code → List PE → World → Prop) (hI : OwnFrom w.heap.size I) (hIx : ∀ c, OwnFrom w.heap.size (Ix c)) (h0 : I [] w)
    (hassign : ∀ (l : Nat) (pre : List PE) (x : PE) (W : World) (K : Act → World → Prop), I pre W → (∀ (Bx : Nat) W', n1 < Bx → KeepsFrom w.heap.size W W' → KC B W W' → I pre W' → EAt W' Bx x.1.2 → K { tmps := tE a.tmps p q r s x Bx, defers := [] } W') →
      assign.wpIn (Fence.wide.inRound l) (n - 1 - 1) Try.prog (Exit.then K (fun _ _ _ => False)) { tmps := (a.tmps.setIfInBounds p (.int .u64 (x.1.1 : Int))).setIfInBounds q (.agg (eC x.1.2)), defers := [] } W)
    (hbody : ∀ (l : Nat) (pre : List PE) (x : PE) (Bx : Nat) (W : World), w.heap.size ≤ l → I pre W → n1 < Bx → EAt W Bx x.1.2 → pre.length < N → body.wpIn (Fence.wide.inRound l) (n - 1 - 1) Try.prog (ownPostG w.heap.size (KC B) I Ix (pre ++ [x]) W) { tmps := tE a.tmps p q r s x Bx, defers := [] } W)
    (hdone : ∀ (D : Nat) (xs : List PE) (W : World), w.heap.size ≤ D → S xs → I xs W → W.heap[D]? = some (.deferred (some [])) → Q .normal { a with defers := { target := .collected D, args := #[] } :: a.defers } W)
    (hstop : ∀ (D : Nat) (c : Code) (pre : List PE) (W : World), w.heap.size ≤ D → Sp pre → Ix c pre W → W.heap[D]? = some (.deferred (some [])) → c.wpIn Fence.wide n Try.prog Q { a with defers := { target := .collected D, args := #[] } :: a.defers } W) :
    (Code.rangeFunc g #[p, q] assign body).wpIn Fence.wide n Try.prog Q a w :=
  wpIn_rangeFunc_ownH (F := Fence.wide) rfl h1 hg trivial eg hseq (fun h k => KC.trans h k) (fun W l o o' _ hl h1 h2 => KC.putObj B W l o o' hl h1 h2) hb0 (fun _ => rfl) I Ix hI hIx h0 (AxE a.tmps p q r s n1)
    (fun x a' _ X Y row hs hg hr => by obtain ⟨Bx, h1, h2, h3⟩ := hs; exact ⟨Bx, h1, eat_own Bx x.1.2 () X Y row h2 hg hr, h3⟩)
    (fun l pre x W K hi hK => by
      have h := hassign l pre x W K hi (fun Bx W' hn hkf hkc hi' he => hK _ W' hkf hkc hi' ⟨Bx, hn, he, rfl⟩)
      have e : Array.foldl (fun t (y : Nat × Value) => t.setIfInBounds y.1 y.2) a.tmps (#[p, q].zip (encE x)) = (a.tmps.setIfInBounds p (.int .u64 (x.1.1 : Int))).setIfInBounds q (.agg (eC x.1.2)) := by simp [encE]
      rw [← e] at h
      exact h)
    (fun l pre x a' W hl _ hi hax hlen => by obtain ⟨Bx, hn, he, rfl⟩ := hax; exact hbody l pre x Bx W hl hi hn he hlen)
    hdone hstop
end Go.Proofs.Ytgnghnekckhcdaa
