/- Several texts, one behind the other: Ev, Ew, Rd, Ex. -/
import Derived.Deep.RegionHeld3
import Derived.RangeFuncNested
import Derived.RangeFuncBound
import Derived.RangeFuncCalls
import Derived.RangeFuncLeaves
import Derived.RangeFuncWrites
import Derived.Shelf.Abstract
import Derived.Shelf.RegionOpen
import Derived.OwnWalkIn
import Derived.TacticsInMore
import Derived.LoopNIn
import Derived.LoopIn
import Derived.Test.YtbkodaijigcebaaMI
import Derived.Test.YtbkodaijigcebaaMP
/- What Each hands, said of any function value: the entries of a row, each with its place; what a range's body may do. -/
namespace Go.Proofs.Ytbkodaijigcebaa
open Go.RowKit Go.Shelf
set_option maxRecDepth 20000
set_option linter.unusedVariables false
set_option linter.unusedSimpArgs false
/-- An entry with its place. -/
abbrev PE := { p : Nat × En // p.1 ≤ 5000 }
def atE (l : List En) (k : Nat) : PE := ⟨(min k 5000, gE l k), Nat.min_le_right _ _⟩
/-- The first k entries of a row, each with its place. -/
def upE (l : List En) (k : Nat) : List PE := (List.range k).map (atE l)
theorem upE_succ (l : List En) (k : Nat) : upE l (k + 1) = upE l k ++ [atE l k] := by simp [upE, List.range_succ]
theorem upE_len (l : List En) (k : Nat) : (upE l k).length = k := by simp [upE]
def encE (p : PE) : Array Value := #[.int .u64 (p.1.1 : Int), .agg (eC p.1.2)]
/-- What lies of cells and walks lies on, but block B. -/
def KC (B : Nat) (W W' : World) : Prop := W.heap.size ≤ W'.heap.size ∧ ∀ (k : Nat) (o : Obj), k ≠ B → W.heap[k]? = some o → (o.isCells = true ∨ o.isWalk = true) → W'.heap[k]? = some o
theorem KC.trans {B : Nat} {X Y Z : World} (h : KC B X Y) (h' : KC B Y Z) : KC B X Z := ⟨Nat.le_trans h.1 h'.1, fun k o hk ho hc => h'.2 k o hk (h.2 k o hk ho hc) hc⟩
theorem KC.putObj (B : Nat) (W : World) (l : Nat) (o o' : Obj) (hl : W.heap[l]? = some o) (h1 : o.isCells = false) (h2 : o.isWalk = false) : KC B W (W.putObj l o') := by
  refine ⟨by simp, fun k q hk hq hc => ?_⟩
  by_cases h : k = l
  · subst h
    rw [hl] at hq
    cases hq
    rw [h1, h2] at hc
    simp at hc
  · exact (World.putObj_heap_other h).trans hq
theorem KC.grown {B : Nat} {W W' : World} (h : W.grownBy W' (some B)) : KC B W W' := ⟨h.size, fun k o hk ho _ => (h.block k (Array.getElem?_eq_some_iff.1 ho).1 (fun e => hk (Option.some.inj e))).trans ho⟩
theorem KC.below {B : Nat} {W W' : World} (h : Below W.heap.size W W') : KC B W W' := ⟨h.size, fun k o hk ho _ => (h.block k (Array.getElem?_eq_some_iff.1 ho).1).trans ho⟩
theorem KC.setCell (B : Nat) (W : World) (u : Value) : KC B W (W.setCell ⟨B, 0, none⟩ u) := KC.grown (grownBy_setCell' W B u)
theorem keeps_below {B : Nat} {W W' : World} (hb : Below W.heap.size W W') : KeepsFrom B W W' := ⟨hb.size, fun k o _ hk _ => (hb.block k (Array.getElem?_eq_some_iff.1 hk).1).trans hk⟩
theorem boxed_later {W W' : World} {b : Nat} {t : TypeId} {v : Value} (h : Boxed W b t v) (hb : Below W.heap.size W W') : Boxed W' b t v := (hb.block b h.lt).trans h
theorem ens_own {β : Type} (v : Value) (l : List En) (B : Nat) : OwnFrom B (fun (_ : β) W => EnsAt W v l) := fun _ X Y row hs hg hr => by
  obtain ⟨a, cap, e, h1, h2, hc⟩ := hs
  refine ⟨a, cap, e, h1, h2, fun k t ht => ?_⟩
  obtain ⟨g, off, ea, hb, c0, c1, c2, c3⟩ := hc k t ht
  exact ⟨g, off, ea, Nat.lt_of_lt_of_le hb hg.size, cell_kept c0 hg (fun r e => (hr r e).2), cell_kept c1 hg (fun r e => (hr r e).2), cell_kept c2 hg (fun r e => (hr r e).2), cell_kept c3 hg (fun r e => (hr r e).2)⟩
theorem eat_ownR {B : Nat} (b : Nat) (e : En) : OwnFrom B (fun (_ : Unit) W => EAt W b e) := fun _ X Y row hs hg hr =>
  ⟨cell_kept hs.1 hg (fun r h => (hr r h).2), cell_kept hs.2.1 hg (fun r h => (hr r h).2), cell_kept hs.2.2.1 hg (fun r h => (hr r h).2), cell_kept hs.2.2.2 hg (fun r h => (hr r h).2)⟩
theorem ens_set {W : World} {b : Nat} {t : TypeId} {u v : Value} {l : List En} (h : EnsAt W v l) (hb : Boxed W b t u) (u' : Value) : EnsAt (W.setCell ⟨b, 0, none⟩ u') v l := by
  obtain ⟨a, cap, e, h1, h2, hc⟩ := h
  refine ⟨a, cap, e, h1, h2, fun k t' ht => ?_⟩
  obtain ⟨g, off, ea, hg, c0, c1, c2, c3⟩ := hc k t' ht
  have hne : b ≠ g := by
    rintro rfl
    have hb' : W.heap[b]? = some (.cells #[u] t (0, 0)) := hb
    simp [World.cell?, hb'] at c1
  have hf : ∀ o, (W.setCell ⟨b, 0, none⟩ u').cell? ⟨g, o, none⟩ = W.cell? ⟨g, o, none⟩ := fun o => World.cell?_setCell_far W ⟨b, 0, none⟩ ⟨g, o, none⟩ u' hne
  exact ⟨g, off, ea, by simpa using hg, (hf _).trans c0, (hf _).trans c1, (hf _).trans c2, (hf _).trans c3⟩
/-- What Each hands. -/
def EachVal (l : List En) (w : World) (y : Value) (w' : World) : Prop :=
  (∃ (g : Nat) (lb : Array Value), y = .func (.func g) #[] lb ∧ (∀ args W, (callFunc g args).run Try.prog W = .ok (.enter g args) W) ∧
    ∀ (n : Nat) (w2 : World) (B : Nat), 3 ≤ n → Below w'.heap.size w' w2 → B < w2.heap.size → (B < w.heap.size ∨ w'.heap.size ≤ B) →
      SeqStopsK Fence.wide n Try.prog g lb encE (KC B) (fun ys => ys = upE l l.length) (fun pre => ∃ k, k ≤ l.length ∧ pre = upE l k) l.length w2) ∧ Below w.heap.size w w'
end Go.Proofs.Ytbkodaijigcebaa
/- A range over what Each hands: the library's law at the pair of an entry and its place, the activation told by four slots. -/
namespace Go.Proofs.Ytbkodaijigcebaa
open Go.RowKit Go.Shelf
set_option maxRecDepth 20000
set_option linter.unusedVariables false
set_option linter.unusedSimpArgs false
/-- The temporaries of a round: the two that are handed, the two that the loop names (the entry in a box). -/
def tE (T : Array Value) (p q r s : Nat) (x : PE) (Bx : Nat) : Array Value := (((T.setIfInBounds p (.int .u64 (x.1.1 : Int))).setIfInBounds q (.agg (eC x.1.2))).setIfInBounds r (.int .u64 (x.1.1 : Int))).setIfInBounds s (.pointer (some ⟨Bx, 0, none⟩))
def AxE (T : Array Value) (p q r s n1 : Nat) (x : PE) (a' : Act) (W : World) : Prop := ∃ Bx, n1 < Bx ∧ EAt W Bx x.1.2 ∧ a' = { tmps := tE T p q r s x Bx, defers := [] }
theorem range_e {n : Nat} {g : Operand} {p q r s : Nat} {assign body : Code} {Q : Exit → Act → World → Prop} {a : Act} {w : World} (h1 : 1 ≤ n) {gf : Nat} {lb : Array Value} (hg : a.eval g = .func (.func gf) #[] lb) (eg : ∀ args w, (callFunc gf args).run Try.prog w = .ok (.enter gf args) w)
    {B n1 : Nat} {S Sp : List PE → Prop} {N : Nat} {w0 : World} (hseq : SeqStopsK Fence.wide (n - 1) Try.prog gf lb encE (KC B) S Sp N w0) (hb0 : Below w0.heap.size w0 w)
    (I : List PE → World → Prop) (Ix : Code → List PE → World → Prop) (hI : OwnFrom w.heap.size I) (hIx : ∀ c, OwnFrom w.heap.size (Ix c)) (h0 : I [] w)
    (hassign : ∀ (l : Nat) (pre : List PE) (x : PE) (W : World) (K : Act → World → Prop), I pre W → (∀ (Bx : Nat) W', n1 < Bx → KeepsFrom w.heap.size W W' → KC B W W' → I pre W' → EAt W' Bx x.1.2 → K { tmps := tE a.tmps p q r s x Bx, defers := [] } W') →
      assign.wpIn (Fence.wide.inRound l) (n - 1 - 1) Try.prog (Exit.then K (fun _ _ _ => False)) { tmps := (a.tmps.setIfInBounds p (.int .u64 (x.1.1 : Int))).setIfInBounds q (.agg (eC x.1.2)), defers := [] } W)
    (hbody : ∀ (l : Nat) (pre : List PE) (x : PE) (Bx : Nat) (W : World), w.heap.size ≤ l → I pre W → n1 < Bx → EAt W Bx x.1.2 → pre.length < N → body.wpIn (Fence.wide.inRound l) (n - 1 - 1) Try.prog (ownPostG w.heap.size (KC B) I Ix (pre ++ [x]) W) { tmps := tE a.tmps p q r s x Bx, defers := [] } W)
    (hdone : ∀ (D : Nat) (xs : List PE) (W : World), w.heap.size ≤ D → S xs → I xs W → W.heap[D]? = some (.deferred (some [])) → Q .normal { a with defers := { target := .collected D, args := #[] } :: a.defers } W)
    (hstop : ∀ (D : Nat) (c : Code) (pre : List PE) (W : World), w.heap.size ≤ D → Sp pre → Ix c pre W → W.heap[D]? = some (.deferred (some [])) → c.wpIn Fence.wide n Try.prog Q { a with defers := { target := .collected D, args := #[] } :: a.defers } W) :
    (Code.rangeFunc g #[p, q] assign body).wpIn Fence.wide n Try.prog Q a w :=
  wpIn_rangeFunc_ownH (F := Fence.wide) rfl h1 hg trivial eg hseq (fun h k => KC.trans h k) (fun W l o o' _ hl h1 h2 => KC.putObj B W l o o' hl h1 h2) hb0 (fun _ => rfl) I Ix hI hIx h0 (AxE a.tmps p q r s n1)
    (fun x a' _ X Y row hs hg hr => by obtain ⟨Bx, h1, h2, h3⟩ := hs; exact ⟨Bx, h1, eat_ownR Bx x.1.2 () X Y row h2 hg hr, h3⟩)
    (fun l pre x W K hi hK => by
      have h := hassign l pre x W K hi (fun Bx W' hn hkf hkc hi' he => hK _ W' hkf hkc hi' ⟨Bx, hn, he, rfl⟩)
      have e : Array.foldl (fun t (y : Nat × Value) => t.setIfInBounds y.1 y.2) a.tmps (#[p, q].zip (encE x)) = (a.tmps.setIfInBounds p (.int .u64 (x.1.1 : Int))).setIfInBounds q (.agg (eC x.1.2)) := by simp [encE]
      rw [← e] at h
      exact h)
    (fun l pre x a' W hl _ hi hax hlen => by obtain ⟨Bx, hn, he, rfl⟩ := hax; exact hbody l pre x Bx W hl hi hn he hlen)
    hdone hstop
end Go.Proofs.Ytbkodaijigcebaa
/- A region that draws its order, in a round of a range over a function: the held walk serves there too. -/
namespace Go.Proofs.Ytbkodaijigcebaa
open Go.RowKit
set_option maxRecDepth 20000
set_option linter.unusedVariables false
set_option linter.unusedSimpArgs false
def noDefer (ops : Array Oper) : Bool := ops.all fun o => match o.op with | .defer _ => false | _ => true
theorem noDefer_spec {ops : Array Oper} (h : noDefer ops = true) {i : Nat} {o : Oper} (ho : ops[i]? = some o) : ∀ c, o.op ≠ .defer c := by
  intro c hc
  unfold noDefer at h
  rw [Array.all_eq_true] at h
  obtain ⟨hi, rfl⟩ := Array.getElem?_eq_some_iff.1 ho
  have := h i hi
  rw [hc] at this
  simp at this
theorem upon_round {P : Program} {o : Oper} {a : Act} {K K' : Act → World → Prop} {Q : Exit → Act → World → Prop} {l n : Nat} (hK : ∀ a w, K a w → K' a w) : ∀ r : Result Next, o.upon P a K Q r → o.uponIn (Fence.wide.inRound l) n P a K' Q r
  | .ok (.value v) w', h => hK _ _ h
  | .ok .skip w', h => hK _ _ h
  | .ok (.defer d) w', h => hK _ _ h
  | .ok (.enter f args) w', h => ⟨fun e => by simp [Fence.wide, Fence.inRound] at e, (CallsIn.inRound l (callsIn_wide.2 h)).mono fun e w'' he => by
      cases e with
      | returned v => exact hK _ _ he
      | panicked chain => exact he
      | outgrown => exact he⟩
  | .ok (.row row args) w', h => ⟨fun e => by simp [Fence.wide, Fence.inRound] at e, fun c cs _ => by
      obtain ⟨v, w'', r, s⟩ := h c cs
      exact ⟨v, w'', hK _ _ r, stepsIn_wide.2 s⟩⟩
  | .halt (.panic v) w', h => h
theorem ops_round {P : Program} {ops : Array Oper} {Q : Exit → Act → World → Prop} {l n : Nat} (hQ : ¬ LetsOut Q) (hops : noDefer ops = true) : ∀ (L : List Nat) (a : Act) (w : World), wpOps P ops Q L a w → wpOpsIn (Fence.wide.inRound l) n P ops Q L a w
  | [], a, w, h => h
  | i :: rest, a, w, h => by
    unfold wpOps at h
    unfold wpOpsIn
    cases ho : ops[i]? with
    | none =>
      rw [ho] at h
      exact ops_round hQ hops rest a w h
    | some o =>
      rw [ho] at h
      simp only at h ⊢
      by_cases hw : Region.wanted o (yielded ops a.tmps) = true
      · rw [if_pos hw] at h ⊢
        rcases h with h | h
        · refine ⟨fun _ _ => trivial, ?_⟩
          rw [Oper.semAt_plain (Fence.wide.inRound l) a.eval o (noDefer_spec hops ho)]
          exact upon_round (fun a w => ops_round hQ hops rest a w) _ h
        · exact absurd h.2 hQ
      · rw [if_neg hw] at h ⊢
        exact ⟨fun _ _ => trivial, ops_round hQ hops rest _ w h⟩
theorem round_held {P : Program} {ops : Array Oper} {Q : Exit → Act → World → Prop} {S : World → Prop} {l n id : Nat} {a : Act} {w : World} (hm : P.follows .mixedOrders = true) (hops : noDefer ops = true) (hQ : ¬ LetsOut Q) (hS : S w.drew)
    (h : S w.drew → wpAnyH P .any ops Q S ops.size (Array.replicate ops.size false) a w.drew) : (Code.region id ops true).wpIn (Fence.wide.inRound l) n P Q a w :=
  wpIn_region_draw fun t => by
    simp only [Region.schedule, hm, Bool.true_or, if_true]
    exact ops_round hQ hops _ _ _ (wpAny_sound ops.size t _ a _ (wpAny_of_held _ _ _ _ (h hS)))
end Go.Proofs.Ytbkodaijigcebaa
/- The range of DirsEach: what each round leaves, the two ways out made one. -/
namespace Go.Proofs.Ytbkodaijigcebaa
open Go.RowKit Go.Shelf
set_option maxRecDepth 20000
set_option linter.unusedVariables false
set_option linter.unusedSimpArgs false
/-- The block for the rounds' deferred calls of an earlier range, if there is one, lies as it lay. -/
def KD (D : Option Nat) (W : World) : Prop := ∀ d, D = some d → W.heap[d]? = some (.deferred (some []))
theorem KD.none (W : World) : KD none W := fun d h => by cases h
theorem KD.below {D : Option Nat} {W W' : World} (h : KD D W) (hb : Below W.heap.size W W') : KD D W' := fun d e => (hb.block d (Array.getElem?_eq_some_iff.1 (h d e)).1).trans (h d e)
theorem KD.setCell {D : Option Nat} {W : World} (h : KD D W) (b : Nat) (u : Value) (hb : D ≠ some b) : KD D (W.setCell ⟨b, 0, Option.none⟩ u) := fun d e =>
  ((grownBy_setCell' W b u).block d (Array.getElem?_eq_some_iff.1 (h d e)).1 (fun e' => hb (e.trans e'))).trans (h d e)
theorem kd_own {β : Type} {B : Nat} (D : Option Nat) (hD : ∀ d, D = some d → d < B) : OwnFrom B (fun (_ : β) W => KD D W) := fun _ X Y row hs hg hr d e =>
  (hg.block d (Array.getElem?_eq_some_iff.1 (hs d e)).1 (fun e' => by have h1 := (hr _ e'.symm).1; have h2 := hD d e; omega)).trans (hs d e)
def IE (J : Nat → World → Prop) (l : List En) (pre : List PE) (W : World) : Prop := J pre.length W ∧ pre = upE l pre.length ∧ pre.length ≤ l.length
def IxE (J : Nat → World → Prop) (l : List En) (most : Int) (c : Code) (pre : List PE) (W : World) : Prop := (c = .exit 2 ∧ J pre.length W ∧ (pre.length : Int) = most) ∨ (c = .ret ∧ ¬ ∃ k, k ≤ l.length ∧ pre = upE l k)
theorem ie_step {J : Nat → World → Prop} {l : List En} {pre : List PE} {x : PE} {W W' : World} (hl : l.length ≤ 5000) (h : IE J l pre W) (h1 : x.1.1 = pre.length) (h2 : pre.length < l.length) (h3 : x.1.2 = gE l pre.length) (hJ : J (pre.length + 1) W') : IE J l (pre ++ [x]) W' := by
  refine ⟨by rw [List.length_append]; exact hJ, ?_, by rw [List.length_append]; exact h2⟩
  rw [List.length_append, List.length_singleton, upE_succ, ← h.2.1]
  congr 1
  simp only [List.cons.injEq, and_true]
  apply Subtype.ext
  show x.1 = (min pre.length 5000, gE l pre.length)
  rw [show min pre.length 5000 = pre.length from by omega]
  exact Prod.ext h1 h3
theorem ix_exit {J : Nat → World → Prop} {l : List En} {most : Int} {pre : List PE} {x : PE} {W' : World} (hJ : J (pre.length + 1) W') (hm : ((pre.length + 1 : Nat) : Int) = most) : IxE J l most (.exit 2) (pre ++ [x]) W' :=
  .inl ⟨rfl, by rw [List.length_append]; exact hJ, by rw [List.length_append]; exact hm⟩
theorem ix_ret {J : Nat → World → Prop} {l : List En} {most : Int} {pre : List PE} {x : PE} {W W' : World} (hl : l.length ≤ 5000) (h : IE J l pre W) (hn : ¬ (x.1.1 = pre.length ∧ pre.length < l.length ∧ x.1.2 = gE l pre.length)) : IxE J l most .ret (pre ++ [x]) W' := by
  refine .inr ⟨rfl, ?_⟩
  rintro ⟨k, hk, he⟩
  have hkl := congrArg List.length he
  rw [List.length_append, upE_len, List.length_singleton] at hkl
  subst hkl
  rw [upE_succ, ← h.2.1] at he
  have hx : x = atE l pre.length := by
    have := List.append_cancel_left he
    simpa using this
  apply hn
  rw [hx]
  exact ⟨show min pre.length 5000 = pre.length by omega, hk, rfl⟩
theorem range_each {n : Nat} {g : Operand} {p q r s : Nat} {assign body : Code} {Q : Exit → Act → World → Prop} {a : Act} {w : World} (h1 : 1 ≤ n) {gf : Nat} {lb : Array Value} (hg : a.eval g = .func (.func gf) #[] lb) (eg : ∀ args w, (callFunc gf args).run Try.prog w = .ok (.enter gf args) w)
    (B n1 : Nat) (l : List En) (most : Int) {w0 : World} (hseq : SeqStopsK Fence.wide (n - 1) Try.prog gf lb encE (KC B) (fun ys => ys = upE l l.length) (fun pre => ∃ k, k ≤ l.length ∧ pre = upE l k) l.length w0) (hb0 : Below w0.heap.size w0 w)
    (J : Nat → World → Prop) (hJ : OwnFrom w.heap.size J) (h0 : J 0 w) (hQ : ∀ a W, Q .normal a W → Q (.exit 2) a W)
    (hassign : ∀ (lp nn : Nat) (x : PE) (W : World) (K : Act → World → Prop), J nn W → (∀ (Bx : Nat) W', n1 < Bx → KeepsFrom w.heap.size W W' → KC B W W' → J nn W' → EAt W' Bx x.1.2 → K { tmps := tE a.tmps p q r s x Bx, defers := [] } W') →
      assign.wpIn (Fence.wide.inRound lp) (n - 1 - 1) Try.prog (Exit.then K (fun _ _ _ => False)) { tmps := (a.tmps.setIfInBounds p (.int .u64 (x.1.1 : Int))).setIfInBounds q (.agg (eC x.1.2)), defers := [] } W)
    (hbody : ∀ (lp : Nat) (pre : List PE) (x : PE) (Bx : Nat) (W : World), w.heap.size ≤ lp → IE J l pre W → n1 < Bx → EAt W Bx x.1.2 → body.wpIn (Fence.wide.inRound lp) (n - 1 - 1) Try.prog (ownPostG w.heap.size (KC B) (IE J l) (IxE J l most) (pre ++ [x]) W) { tmps := tE a.tmps p q r s x Bx, defers := [] } W)
    (hend : ∀ (D nn : Nat) (W : World), w.heap.size ≤ D → nn ≤ l.length → (nn = l.length ∨ (nn : Int) = most) → J nn W → W.heap[D]? = some (.deferred (some [])) → Q .normal { a with defers := { target := .collected D, args := #[] } :: a.defers } W) :
    (Code.rangeFunc g #[p, q] assign body).wpIn Fence.wide n Try.prog Q a w := by
  refine range_e (r := r) (s := s) (n1 := n1) h1 hg eg hseq hb0 (IE J l) (IxE J l most) ?_ ?_ ?_ ?_ ?_ ?_ ?_
  · intro pre X Y row hs hg hr
    exact ⟨hJ _ X Y row hs.1 hg hr, hs.2⟩
  · intro c pre X Y row hs hg hr
    rcases hs with ⟨e, hj, hm⟩ | hs
    · exact .inl ⟨e, hJ _ X Y row hj hg hr, hm⟩
    · exact .inr hs
  · exact ⟨h0, rfl, Nat.zero_le _⟩
  · intro lp pre x W K hi hK
    exact hassign lp pre.length x W K hi.1 (fun Bx W' hn hkf hkc hj he => hK Bx W' hn hkf hkc ⟨hj, hi.2⟩ he)
  · intro lp pre x Bx W hlp hi hn he _
    exact hbody lp pre x Bx W hlp hi hn he
  · rintro D xs W hD rfl hi hK
    have := hi.1
    rw [upE_len] at this
    exact hend D l.length W hD (Nat.le_refl _) (.inl rfl) this hK
  · rintro D c pre W hD ⟨k, hk, he⟩ (⟨rfl, hj, hm⟩ | ⟨rfl, hno⟩) hK
    · have hpk : pre.length = k := by rw [he, upE_len]
      exact wpIn_exit (hQ _ _ (hend D pre.length W hD (by omega) (.inr hm) hj hK))
    · exact absurd ⟨k, hk, he⟩ hno
end Go.Proofs.Ytbkodaijigcebaa
