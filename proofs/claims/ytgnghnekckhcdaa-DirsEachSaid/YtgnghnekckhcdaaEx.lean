/- The range of DirsEach: what each round leaves, the two ways out made one. -/
import Derived.Test.YtgnghnekckhcdaaRd
namespace Go.Proofs.Ytgnghnekckhcdaa
open Go.RowKit Go.Shelf
set_option linter.unusedVariables false
set_option linter.unusedSimpArgs false
/-- The block for the rounds' deferred calls of an earlier range, if there is one, lies as it lay. -/
def KD (D : Option Nat) (W : World) : Prop := ∀ d, D = some d → W.heap[d]? = some (.deferred (some []))
theorem KD.none (W : World) : KD none W := fun d h => by cases h
theorem KD.below {D : Option Nat} {W W' : World} (h : KD D W) (hb : Below W.heap.size W W') : KD D W' := fun d e => (hb.block d (Array.getElem?_eq_some_iff.1 (h d e)).1).trans (h d e)
theorem KD.setCell {D : Option Nat} {W : World} (h : KD D W) (b : Nat) (u : Value) (hb : D ≠ some b) : KD D (W.setCell ⟨b, 0, Option.none⟩ u) := fun d e =>
  ((grownBy_setCell' W b u).block d (Array.getElem?_eq_some_iff.1 (h d e)).1 (fun e' => hb (e.trans e'))).trans (h d e)
theorem kd_own {β : Type} {B : Nat} (D : Option Nat) (hD : ∀ d, D = some d → d < B) : OwnFrom B (fun (_ : β) W => KD D W) := fun _ X Y row hs hg hr d e =>
  (hg.block d (Array.getElem?_eq_some_iff.1 (hs d e)).1 (fun e' => by have h1 := (hr _ e'.symm).1; have h2 := hD d e; omega)).trans (hs d e)
def IE (J : Nat → World → Prop) (l : List En) (pre : List PE) (W : World) : Prop := J pre.length W ∧ pre = upE l pre.length ∧ pre.length ≤ l.length
def IxE (J : Nat → World → Prop) (l : List En) (most : Int) (c : Code) (pre : List PE) (W : World) : Prop := (c = .exit 2 ∧ J pre.length W ∧ (pre.length : Int) = most) ∨ (c = .ret ∧ ¬ ∃ k, k ≤ l.length ∧ pre = upE l k)
theorem ie_step {J : Nat → World → Prop} {l : List En} {pre : List PE} {x : PE} {W W' : World} (hl : l.length ≤ 5000) (h : IE J l pre W) (h1 : x.1.1 = pre.length) (h2 : pre.length < l.length) (h3 : x.1.2 = gE l pre.length) (hJ : J (pre.length + 1) W') : IE J l (pre ++ [x]) W' := by
  refine ⟨by rw [List.length_append]; exact hJ, ?_, by rw [List.length_append]; exact h2⟩
  rw [List.length_append, List.length_singleton, upE_succ, ← h.2.1]
  congr 1
  simp only [List.cons.injEq, and_true]
  apply Subtype.ext
  show x.1 = (min pre.length 5000, gE l pre.length)
  rw [show min pre.length 5000 = pre.length from by omega]
  exact Prod.ext h1 h3
theorem ix_exit {J : Nat → World → Prop} {l : List En} {most : Int} {pre : List PE} {x : PE} {W' : World} (hJ : J (pre.length + 1) W') (hm : ((pre.length + 1 : Nat) : Int) = most) : IxE J l most (.exit 2) (pre ++ [x]) W' :=
  .inl ⟨rfl, by rw [List.length_append]; exact hJ, by rw [List.length_append]; exact hm⟩
theorem ix_ret {J : Nat → World → Prop} {l : List En} {most : Int} {pre : List PE} {x : PE} {W W' : World} (hl : l.length ≤ 5000) (h : IE J l pre W) (hn : ¬ (x.1.1 = pre.length ∧ pre.length < l.length ∧ x.1.2 = gE l pre.length)) : IxE J l most .ret (pre ++ [x]) W' := by
  refine .inr ⟨rfl, ?_⟩
  rintro ⟨k, hk, he⟩
  have hkl := congrArg List.length he
  rw [List.length_append, upE_len, List.length_singleton] at hkl
  subst hkl
  rw [upE_succ, ← h.2.1] at he
  have hx : x = atE l pre.length := by
    have := List.append_cancel_left he
    simpa using this
  apply hn
  rw [hx]
  exact ⟨show min pre.length 5000 = pre.length by omega, hk, rfl⟩
theorem range_each {n : Nat} {g : Operand} {p q r s : Nat} {assign body : Code} {Q : Exit → Act → World → Prop} {a : Act} {w : World} (h1 : 1 ≤ n) {gf : Nat} {lb : Array Value} (hg : a.eval g = .func (.func gf) #[] lb) (eg : ∀ args w, (callFunc gf args).run Try.prog w = .ok (.enter gf args) w)
    (B n1 : Nat) (l : List En) (most : Int) {w0 : World} (hseq : SeqStopsK Fence.wide (n - 1) Try.prog gf lb encE (KC B) (fun ys => ys = upE l l.length) (fun pre => ∃ k, k ≤ l.length ∧ pre = upE l k) l.length w0) (hb0 : Below w0.heap.size w0 w)
    (J : Nat → World → Prop) (hJ : OwnFrom w.heap.size J) (h0 : J 0 w) (hQ : ∀ a W, Q .normal a W → Q (.exit 2) a W)
    (hassign : ∀ (lp nn : Nat) (x : PE) (W : World) (K : Act → World → Prop), J nn W → (∀ (Bx : Nat) W', n1 < Bx → KeepsFrom w.heap.size W W' → KC B W W' → J nn W' → EAt W' Bx x.1.2 → K { tmps := tE a.tmps p q r s x Bx, defers := [] } W') →
      assign.wpIn (Fence.wide.inRound lp) (n - 1 - 1) Try.prog (Exit.then K (fun _ _ _ => False)) { tmps := (a.tmps.setIfInBounds p (.int .u64 (x.1.1 : Int))).setIfInBounds q (.agg (eC x.1.2)), defers := [] } W)
    (hbody : ∀ (lp : Nat) (pre : List PE) (x : PE) (Bx : Nat) (W : World), w.heap.size ≤ lp → IE J l pre W → n1 < Bx → EAt W Bx x.1.2 → body.wpIn (Fence.wide.inRound lp) (n - 1 - 1) Try.prog (ownPostG w.heap.size (KC B) (IE J l) (IxE J l most) (pre ++ [x]) W) { tmps := tE a.tmps p q r s x Bx, defers := [] } W)
    (hend : ∀ (D nn : Nat) (W : World), w.heap.size ≤ D → nn ≤ l.length → (nn = l.length ∨ (nn : Int) = most) → J nn W → W.heap[D]? = some (.deferred (some [])) → Q .normal { a with defers := { target := .collected D, args := #[] } :: a.defers } W) :
    (Code.rangeFunc g #[p, q] assign body).wpIn Fence.wide n Try.prog Q a w := by
  refine range_e (r := r) (s := s) (n1 := n1) h1 hg eg hseq hb0 (IE J l) (IxE J l most) ?_ ?_ ?_ ?_ ?_ ?_ ?_
  · intro pre X Y row hs hg hr
    exact ⟨hJ _ X Y row hs.1 hg hr, hs.2⟩
  · intro c pre X Y row hs hg hr
    rcases hs with ⟨e, hj, hm⟩ | hs
    · exact .inl ⟨e, hJ _ X Y row hj hg hr, hm⟩
    · exact .inr hs
  · exact ⟨h0, rfl, Nat.zero_le _⟩
  · intro lp pre x W K hi hK
    exact hassign lp pre.length x W K hi.1 (fun Bx W' hn hkf hkc hj he => hK Bx W' hn hkf hkc ⟨hj, hi.2⟩ he)
  · intro lp pre x Bx W hlp hi hn he _
    exact hbody lp pre x Bx W hlp hi hn he
  · rintro D xs W hD rfl hi hK
    have := hi.1
    rw [upE_len] at this
    exact hend D l.length W hD (Nat.le_refl _) (.inl rfl) this hK
  · rintro D c pre W hD ⟨k, hk, he⟩ (⟨rfl, hj, hm⟩ | ⟨rfl, hno⟩) hK
    · have hpk : pre.length = k := by rw [he, upE_len]
      exact wpIn_exit (hQ _ _ (hend D pre.length W hD (by omega) (.inr hm) hj hK))
    · exact absurd ⟨k, hk, he⟩ hno
end Go.Proofs.Ytgnghnekckhcdaa
