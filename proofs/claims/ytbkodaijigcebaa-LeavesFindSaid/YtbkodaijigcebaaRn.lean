/- A range over a function of which it is known ahead what it hands on, row by row: who owns which blocks (KeepsS), what an iterator promises (SeqD), the statement (range_d). -/
import Derived.RangeFuncNested
import Derived.RangeFuncBound
import Derived.RangeFuncCalls
import Derived.RangeFuncLeaves
import Derived.Shelf.Abstract
import Derived.Shelf.RegionOpen
import Derived.WalkKit
import Derived.OwnWalkIn
import Derived.TacticsInMore
import Derived.LoopNIn
import Derived.LoopIn
import Derived.Test.YtbkodaijigcebaaME
namespace Go.Proofs.Ytbkodaijigcebaa
open Go.RowKit Go.Shelf
set_option maxRecDepth 20000
set_option linter.unusedVariables false
set_option linter.unusedSimpArgs false
theorem noDepth {p : Prop} (h : Fence.wide.depth.isSome = true) : p := absurd h (by simp [Fence.wide])
/-- A step that may write the blocks of S alone; behind it S' are the writer's own: those of S and new ones. -/
structure KeepsS (S S' : Nat → Prop) (W W' : World) : Prop where
  size : W.heap.size ≤ W'.heap.size
  same : ∀ (b : Nat) (o : Obj), ¬ S b → W.heap[b]? = some o → W'.heap[b]? = some o
  own : ∀ b, S' b → S b ∨ W.heap.size ≤ b
theorem hlt_of {W : World} {b : Nat} {o : Obj} (h : W.heap[b]? = some o) : b < W.heap.size := (Array.getElem?_eq_some_iff.1 h).1
theorem KeepsS.refl (S : Nat → Prop) (W : World) : KeepsS S S W W := ⟨Nat.le_refl _, fun _ _ _ h => h, fun _ h => .inl h⟩
theorem KeepsS.trans {S S' S'' : Nat → Prop} {X Y Z : World} (h : KeepsS S S' X Y) (h' : KeepsS S' S'' Y Z) : KeepsS S S'' X Z := by
  refine ⟨Nat.le_trans h.size h'.size, fun b o hb ho => h'.same b o (fun hs => ?_) (h.same b o hb ho), fun b hb => ?_⟩
  · have := hlt_of ho
    rcases h.own b hs with h1 | h1
    · exact hb h1
    · omega
  · rcases h'.own b hb with h1 | h1
    · exact h.own b h1
    · exact .inr (Nat.le_trans h.size h1)
theorem KeepsS.below (S : Nat → Prop) {W W' : World} (hb : Below W.heap.size W W') : KeepsS S S W W' := ⟨hb.size, fun b o _ ho => (hb.block b (hlt_of ho)).trans ho, fun _ h => .inl h⟩
theorem KeepsS.alloc (S : Nat → Prop) (W : World) (o : Obj) : KeepsS S S W (W.alloc o) := .below S ((Below.refl _ W).alloc (Nat.le_refl _) o)
theorem KeepsS.setCell (S : Nat → Prop) (W : World) (a : Addr) (v : Value) (ha : S a.block) : KeepsS S S W (W.setCell a v) :=
  ⟨(KeepsWalks.setCell W a v).size, fun b o hb ho => (Below.heap_setCell W a v b (fun e => hb (e ▸ ha))).trans ho, fun _ h => .inl h⟩
theorem KeepsS.cell {S S' : Nat → Prop} {W W' : World} (h : KeepsS S S' W W') {p : Addr} {v : Value} (hp : ¬ S p.block) (hc : W.cell? p = some v) : W'.cell? p = some v := by
  have hlt := ecell_lt hc
  have : W'.heap[p.block]? = W.heap[p.block]? := by rw [Array.getElem?_eq_getElem hlt]; exact h.same _ _ hp (Array.getElem?_eq_getElem hlt)
  simpa [World.cell?, this] using hc
theorem KeepsS.heap {S S' : Nat → Prop} {W W' : World} (h : KeepsS S S' W W') {b : Nat} (hp : ¬ S b) (hb : b < W.heap.size) : W'.heap[b]? = W.heap[b]? := by
  rw [Array.getElem?_eq_getElem hb]; exact h.same _ _ hp (Array.getElem?_eq_getElem hb)
/-- A slice's row lies in no block of S. -/
def Off (S : Nat → Prop) (l : List En) (v : Value) : Prop := l ≠ [] → ∀ a n c, v = .slice (some a) n c → ¬ S a.block
theorem ens_lt {W : World} {v : Value} {l : List En} (he : EnsAt W v l) (hl : l ≠ []) {a : Addr} {n c : Nat} (hv : v = .slice (some a) n c) : a.block < W.heap.size := by
  obtain ⟨a', cap, rfl, h1, h2, hc⟩ := he
  obtain ⟨g, off, ha, hg, _⟩ := hc 0 _ (List.getElem?_eq_getElem (List.length_pos_iff.2 hl))
  cases hv
  cases ha
  exact hg
theorem KeepsS.ens {S S' : Nat → Prop} {W W' : World} (h : KeepsS S S' W W') {v : Value} {l : List En} (hv : Off S l v) (he : EnsAt W v l) : EnsAt W' v l := by
  obtain ⟨a, cap, rfl, h1, h2, hc⟩ := he
  refine ⟨a, cap, rfl, h1, h2, fun k t ht => ?_⟩
  obtain ⟨g, off, rfl, hg, c0, c1, c2, c3⟩ := hc k t ht
  have hn : ¬ S g := hv (fun h => by rw [h] at ht; simp at ht) _ _ _ rfl
  exact ⟨g, off, rfl, Nat.lt_of_lt_of_le hg h.size, h.cell hn c0, h.cell hn c1, h.cell hn c2, h.cell hn c3⟩
/-- What bears an iterator's steps: new blocks; one of T; one beyond B that is no cells. -/
def Bears {β : Type} (T : Nat → Prop) (B : Nat) (J : β → World → Prop) : Prop :=
  ∀ s X Y row, J s X → X.grownBy Y row → (∀ r, row = some r → T r ∨ (B ≤ r ∧ ∃ o : Obj, X.heap[r]? = some o ∧ o.isCells = false)) → J s Y
abbrev Bears2 (T : Nat → Prop) (B : Nat) (J : Nat → (Nat → Prop) → World → Prop) : Prop := Bears T B (fun (s : Nat × (Nat → Prop)) => J s.1 s.2)
theorem Bears.mono {β : Type} {T : Nat → Prop} {B B' : Nat} {J : β → World → Prop} (h : Bears T B J) (hB : B ≤ B') : Bears T B' J := fun s X Y row hs hg hr =>
  h s X Y row hs hg (fun r e => (hr r e).imp id (fun h => ⟨Nat.le_trans hB h.1, h.2⟩))
theorem Bears.less {β : Type} {T T' : Nat → Prop} {B : Nat} {J : β → World → Prop} (h : Bears T B J) (hT : ∀ r, T' r → T r) : Bears T' B J := fun s X Y row hs hg hr =>
  h s X Y row hs hg (fun r e => (hr r e).imp (hT r) id)
theorem Bears.and {β : Type} {T : Nat → Prop} {B : Nat} {J J' : β → World → Prop} (h : Bears T B J) (h' : Bears T B J') : Bears T B (fun s W => J s W ∧ J' s W) := fun s X Y row hs hg hr => ⟨h s X Y row hs.1 hg hr, h' s X Y row hs.2 hg hr⟩
theorem Bears.put {β : Type} {T : Nat → Prop} {B : Nat} {J : β → World → Prop} (h : Bears T B J) {s : β} {W : World} (hs : J s W) {l : Nat} {o : Obj} (o' : Obj) (hB : B ≤ l) (hl : W.heap[l]? = some o) (ho : o.isCells = false) : J s (W.putObj l o') :=
  h s W _ (some l) hs (grownBy_putObj' W l o') (fun r e => by cases e; exact .inr ⟨hB, o, hl, ho⟩)
theorem Bears.grow {β : Type} {T : Nat → Prop} {B : Nat} {J : β → World → Prop} (h : Bears T B J) {s : β} {W W' : World} (hs : J s W) (hb : Below W.heap.size W W') : J s W' :=
  h s W W' none hs ⟨hb.os, hb.tape, hb.output, hb.size, fun k hk _ => hb.block k hk⟩ (fun r e => by cases e)
theorem Bears.alloc {β : Type} {T : Nat → Prop} {B : Nat} {J : β → World → Prop} (h : Bears T B J) {s : β} {W : World} (hs : J s W) (o : Obj) : J s (W.alloc o) := h.grow hs ((Below.refl _ W).alloc (Nat.le_refl _) o)
/-- Whatever lay below n₀ lies on: it bears steps of blocks beyond. -/
theorem bears_below {β : Type} {T : Nat → Prop} {n₀ B : Nat} {w₀ : World} (h0 : n₀ ≤ w₀.heap.size) (hB : n₀ ≤ B) (hT : ∀ r, T r → n₀ ≤ r) : Bears T B (fun (_ : β) W => Below n₀ w₀ W) := fun s X Y row hs hg hr =>
  ⟨hg.os.trans hs.os, hg.tape.trans hs.tape, hg.output.trans hs.output, Nat.le_trans hs.size hg.size, fun k hk => by
    refine (hg.block k ?_ (fun e => ?_)).trans (hs.block k hk)
    · have := hs.size; omega
    · rcases hr k e.symm with h | h
      · have := hT k h; omega
      · omega⟩
theorem bears_keeps {T S1 : Nat → Prop} {B : Nat} {X : World} (hB : X.heap.size ≤ B) (hT : ∀ r, T r → X.heap.size ≤ r) : Bears2 T B (fun _ S W => KeepsS S1 S X W) := fun s Y Z row hs hg hr =>
  ⟨Nat.le_trans hs.size hg.size, fun b o hb ho => by
    have hY := hs.same b o hb ho
    have hX := hlt_of ho
    refine (hg.block b (hlt_of hY) (fun e => ?_)).trans hY
    rcases hr b e.symm with h | h
    · have := hT b h; omega
    · omega, hs.own⟩
theorem bears_lt {T : Nat → Prop} {B : Nat} : Bears2 T B (fun _ S W => ∀ b, S b → b < W.heap.size) := fun s Y Z row hs hg hr b hb => Nat.lt_of_lt_of_le (hs b hb) hg.size
/-- What is known ahead of an iterator: the k-th of its N values is encs k; it writes the blocks of T alone (beside new ones that are no cells), and reads those of V, which no round writes; G is what it may lean on when k rounds are over; Z is what it leaves when all have come. -/
def SeqD (P : Program) (g : Nat) (lb : Array Value) (encs : Nat → Array Value) (N : Nat) (T V : Nat → Prop) (G : Nat → World → Prop) (Z : World → Prop) (w : World) : Prop :=
  ∀ (n l : Nat) (J : Nat → (Nat → Prop) → World → Prop) (Jx : Nat → World → Prop) (S0 : Nat → Prop) (W : World), Below w.heap.size w W →
    Bears2 T W.heap.size J → Bears T W.heap.size Jx → (∀ k S W1, J k S W1 → G k W1 ∧ ∀ b, S b → b < W1.heap.size) → (∀ b, S0 b → b < W.heap.size ∧ ¬ V b) →
    (∀ k S W1, J k S W1 → k < N → YieldAt Fence.wide (n - 1) P l (encs k) W1 fun e W' => (e = .returned (.bool true) ∧ ∃ S', J (k + 1) S' W' ∧ KeepsS S S' W1 W') ∨ (e = .returned (.bool false) ∧ Jx (k + 1) W' ∧ ∃ S', KeepsS S S' W1 W')) →
    J 0 S0 W → CallsIn Fence.wide n P g (#[.func (.yield l) #[] #[]] ++ lb) W fun e W' => (∃ v, e = .returned v) ∧ ((∃ S', J N S' W' ∧ Z W') ∨ ∃ k, k ≤ N ∧ Jx k W')
/-- The same where each round is told more of the world (Y): the k-th of its N values is encs k; it writes the blocks of T alone (beside new ones that are no cells), and reads those of V, which no round writes; G is what it may lean on when k rounds are over; Z is what it leaves when all have come. -/
def SeqY (P : Program) (g : Nat) (lb : Array Value) (encs : Nat → Array Value) (N : Nat) (T V : Nat → Prop) (G : Nat → World → Prop) (Y : Nat → World → Prop) (Z : World → Prop) (w : World) : Prop :=
  ∀ (n l : Nat) (J : Nat → (Nat → Prop) → World → Prop) (Jx : Nat → World → Prop) (S0 : Nat → Prop) (W : World), Below w.heap.size w W →
    Bears2 T W.heap.size J → Bears T W.heap.size Jx → (∀ k S W1, J k S W1 → G k W1 ∧ ∀ b, S b → b < W1.heap.size) → (∀ b, S0 b → b < W.heap.size ∧ ¬ V b) →
    (∀ k S W1, J k S W1 → Y k W1 → k < N → YieldAt Fence.wide (n - 1) P l (encs k) W1 fun e W' => (e = .returned (.bool true) ∧ ∃ S', J (k + 1) S' W' ∧ KeepsS S S' W1 W') ∨ (e = .returned (.bool false) ∧ Jx (k + 1) W' ∧ ∃ S', KeepsS S S' W1 W')) →
    J 0 S0 W → CallsIn Fence.wide n P g (#[.func (.yield l) #[] #[]] ++ lb) W fun e W' => (∃ v, e = .returned v) ∧ ((∃ S', J N S' W' ∧ Z W') ∨ ∃ k, k ≤ N ∧ Jx k W')
theorem SeqD.toY {P : Program} {g : Nat} {lb : Array Value} {encs : Nat → Array Value} {N : Nat} {T V : Nat → Prop} {G : Nat → World → Prop} {Z : World → Prop} {w : World} (h : SeqD P g lb encs N T V G Z w) : SeqY P g lb encs N T V G (fun _ _ => True) Z w :=
  fun n l J Jx S0 W hW hJ hJx hG hS0 hY h0 => h n l J Jx S0 W hW hJ hJx hG hS0 (fun k S W1 hj hk => hY k S W1 hj trivial hk) h0
/-- How a round's body may be left. -/
def postD (I : Nat → (Nat → Prop) → World → Prop) (Ix : Code → Nat → World → Prop) (k : Nat) (S : Nat → Prop) (W : World) : Exit → Act → World → Prop
  | .normal, _, W' => ∃ S', I k S' W' ∧ KeepsS S S' W W'
  | .ret, _, W' => Ix .ret k W' ∧ ∃ S', KeepsS S S' W W'
  | .exit id, _, W' => Ix (.exit id) k W' ∧ ∃ S', KeepsS S S' W W'
  | .goto t, _, W' => Ix (.goto t) k W' ∧ ∃ S', KeepsS S S' W W'
  | .panic _, _, _ => False
  | .outgrown, _, _ => False
/-- The mark that a range over a function leaves. -/
abbrev markD (D : Nat) (a : Act) : Act := { a with defers := { target := .collected D, args := #[] } :: a.defers }
set_option maxHeartbeats 1000000 in
/-- The statement. -/
theorem range_d {n : Nat} {P : Program} {w : World} {a : Act} {Q : Exit → Act → World → Prop} {g : Operand} {ps : Array Tmp} {assign body : Code}
    {gf : Nat} {lb : Array Value} (hg : a.eval g = .func (.func gf) #[] lb) (eg : ∀ args w, (callFunc gf args).run P w = .ok (.enter gf args) w)
    {encs : Nat → Array Value} {N : Nat} {T V : Nat → Prop} {G : Nat → World → Prop} {Y : Nat → World → Prop} {Z : World → Prop} {w0 : World} (hseq : SeqY P gf lb encs N T V G Y Z w0) (hb0 : Below w0.heap.size w0 w)
    (hT : ∀ r, T r → r < w.heap.size) (hV : ∀ r, V r → r < w.heap.size) (hps : ∀ k, (encs k).size = ps.size)
    (I : Nat → (Nat → Prop) → World → Prop) (Ix : Code → Nat → World → Prop) (hI : Bears2 T w.heap.size I) (hIx : ∀ c, Bears T w.heap.size (Ix c)) (hG : ∀ k S W, I k S W → G k W ∧ ∀ b, S b → b < W.heap.size)
    (S0 : Nat → Prop) (hS0 : ∀ b, S0 b → b < w.heap.size ∧ ¬ V b) (h0 : I 0 S0 w) (hZ : ∀ (W : World) (l : Nat) (o o' : Obj), Z W → w.heap.size ≤ l → W.heap[l]? = some o → o.isCells = false → Z (W.putObj l o'))
    (hYp : ∀ (k : Nat) (W : World) (l : Nat) (o o' : Obj), Y k W → w.heap.size ≤ l → W.heap[l]? = some o → o.isCells = false → Y k (W.putObj l o')) (Ax : Nat → Act → World → Prop) (hAx : ∀ k a', Bears T w.heap.size (fun (_ : Unit) W => Ax k a' W))
    (hassign : ∀ (l k : Nat) (S : Nat → Prop) (W : World) (K : Act → World → Prop), I k S W → Y k W → k < N → (∀ a' W' S', I k S' W' → Y k W' → KeepsS S S' W W' → Ax k a' W' → K a' W') →
      assign.wpIn (Fence.wide.inRound l) (n - 1 - 1) P (Exit.then K (fun _ _ _ => False)) { tmps := (ps.zip (encs k)).foldl (fun t (p, v) => t.setIfInBounds p v) a.tmps, defers := [] } W)
    (hbody : ∀ (l k : Nat) (S : Nat → Prop) (a' : Act) (W : World), w.heap.size ≤ l → I k S W → Y k W → Ax k a' W → k < N → body.wpIn (Fence.wide.inRound l) (n - 1 - 1) P (postD I Ix (k + 1) S W) a' W)
    (hdone : ∀ (D : Nat) (S : Nat → Prop) (W : World), w.heap.size ≤ D → ¬ S D → I N S W → Z W → W.heap[D]? = some (.deferred (some [])) → Q .normal (markD D a) W)
    (hstop : ∀ (D : Nat) (c : Code) (k : Nat) (W : World), w.heap.size ≤ D → k ≤ N → Ix c k W → W.heap[D]? = some (.deferred (some [])) → c.wpIn Fence.wide n P Q (markD D a) W) :
    (Code.rangeFunc g ps assign body).wpIn Fence.wide n P Q a w := by
  refine wpIn_rangeFunc fun fn hfn => ?_
  -- the record of the loop, and the world in which the iterator is called
  generalize hL : w.heap.size + 1 = L
  have hD : w.heap.size < L := by omega
  let rec0 : LoopState → Option Code → Loop := fun st pe => { state := st, pending := pe, fn, tmps := a.tmps, params := ps, assign, body, defers := w.heap.size }
  have hrec : rec0 = fun st pe => { state := st, pending := pe, fn, tmps := a.tmps, params := ps, assign, body, defers := w.heap.size } := rfl
  generalize rec0 = rec at hrec
  have hnew : Below w.heap.size w ((w.alloc (.deferred (some []))).alloc (.loop (rec .ready none))) := ((Below.refl _ w).alloc (Nat.le_refl _) _).alloc (by simp) _
  have e1 : ((w.alloc (.deferred (some []))).alloc (.loop (rec .ready none))).heap[L]? = some (.loop (rec .ready none)) := by
    have := World.alloc_heap_new (w.alloc (.deferred (some []))) (.loop (rec .ready none))
    rwa [World.size_alloc, hL] at this
  have e2 : ((w.alloc (.deferred (some []))).alloc (.loop (rec .ready none))).heap[w.heap.size]? = some (.deferred (some [])) :=
    (Below.heap_alloc _ _ _ (by simp)).trans (World.alloc_heap_new w _)
  have e3 : ((w.alloc (.deferred (some []))).alloc (.loop (rec .ready none))).heap.size = L + 1 := by simp; omega
  have e4 : (Instr.enterLoop fn a.tmps ps assign body Fence.wide.round).run P w = .ok (L, [{ target := .collected w.heap.size, args := #[] }]) ((w.alloc (.deferred (some []))).alloc (.loop (rec .ready none))) := by
    rw [hrec, ← hL]; exact run_enterLoop_outer _ _ _ _ _
  generalize (w.alloc (.deferred (some []))).alloc (.loop (rec .ready none)) = W1 at hnew e1 e2 e3 e4
  refine ⟨L, _, W1, { target := .fn (.func gf) lb, args := #[.func (.yield L) #[] #[]] }, W1, gf, #[.func (.yield L) #[] #[]] ++ lb, W1, e4, ?_, fun _ _ => trivial, ?_, fun h => absurd h (by simp [Fence.wide]), ?_⟩
  · simp only [resolve, hg]; simp [go_sem]
  · simp [invoke, go_sem, eg]
  have hmonoI : Bears2 T (L + 1) I := hI.mono (by omega)
  refine (hseq (n - 1) L
    (fun k S W => ∃ S1, (∀ b, S b ↔ (S1 b ∨ b = L)) ∧ I k S1 W ∧ (¬ S1 L ∧ ¬ S1 w.heap.size) ∧ W.heap[L]? = some (.loop (rec .ready none)) ∧ W.heap[w.heap.size]? = some (.deferred (some [])))
    (fun k W => ∃ c, Ix c k W ∧ W.heap[L]? = some (.loop (rec .done (some c))) ∧ W.heap[w.heap.size]? = some (.deferred (some [])))
    (fun b => S0 b ∨ b = L) W1 (hb0.trans (hnew.mono hb0.size)) ?_ ?_ ?_ ?_ ?_ ?_).mono ?_
  · rintro ⟨k, S⟩ X Y row ⟨S1, hS, hi, hl, h1, h2⟩ hgr hr
    refine ⟨S1, hS, hmonoI (k, S1) X Y row hi hgr (by rw [e3] at hr; exact hr), hl, ?_, ?_⟩
    · refine (hgr.block L (hlt_of h1) (fun e => ?_)).trans h1
      rcases hr L e.symm with h | h
      · have := hT L h; omega
      · omega
    · refine (hgr.block _ (hlt_of h2) (fun e => ?_)).trans h2
      rcases hr _ e.symm with h | h
      · have := hT _ h; omega
      · omega
  · rintro k X Y row ⟨c, hi, h1, h2⟩ hgr hr
    refine ⟨c, (hIx c).mono (B' := L + 1) (by omega) k X Y row hi hgr (by rw [e3] at hr; exact hr), ?_, ?_⟩
    · refine (hgr.block L (hlt_of h1) (fun e => ?_)).trans h1
      rcases hr L e.symm with h | h
      · have := hT L h; omega
      · omega
    · refine (hgr.block _ (hlt_of h2) (fun e => ?_)).trans h2
      rcases hr _ e.symm with h | h
      · have := hT _ h; omega
      · omega
  · rintro k S W ⟨S1, hS, hi, _, hl, _⟩
    refine ⟨(hG _ _ _ hi).1, fun b hb => ?_⟩
    rcases (hS b).1 hb with h | rfl
    · exact (hG _ _ _ hi).2 b h
    · exact hlt_of hl
  · rintro b (hb | rfl)
    · have := hS0 b hb; exact ⟨by omega, this.2⟩
    · exact ⟨by omega, fun hv => by have := hV _ hv; omega⟩
  · -- a round
    rintro k S W ⟨S1, hS, hi, ⟨hs1, hs2⟩, hl, hk⟩ hyk hlt
    have hy := run_yield (P := P) (args := encs k) hl (by rw [hrec]; exact hps k)
    rw [hrec] at hy
    refine ⟨fn, _, assign, body, hy, roundIn_of_wpIn hfn (hassign L k S1 W _ hi hyk hlt ?_)⟩
    clear hy
    intro a' Wa Sa hia hya hka hax
    have hla := hka.same _ _ hs1 hl
    have hda := hka.same _ _ hs2 hk
    have hLW := hlt_of hl
    have hsa1 : ¬ Sa L := fun h => by rcases hka.own _ h with h | h <;> first | exact hs1 h | omega
    have hsa2 : ¬ Sa w.heap.size := fun h => by rcases hka.own _ h with h | h <;> first | exact hs2 h | omega
    refine ⟨_, run_beginRound hla (by rw [hrec]), ?_⟩
    have hlb : (Wa.putObj L (.loop { rec .ready none with state := .busy })).heap[L]? = some (.loop { rec .ready none with state := .busy }) := World.putObj_heap_same (hlt_of hla)
    have hdb : (Wa.putObj L (.loop { rec .ready none with state := .busy })).heap[w.heap.size]? = some (.deferred (some [])) := (World.putObj_heap_other (by omega)).trans hda
    have hpb : ∀ b, b ≠ L → (Wa.putObj L (.loop { rec .ready none with state := .busy })).heap[b]? = Wa.heap[b]? := fun b hb => World.putObj_heap_other hb
    have hszb : (Wa.putObj L (.loop { rec .ready none with state := .busy })).heap.size = Wa.heap.size := by simp
    refine wpIn_mono (hbody L k Sa a' _ (by omega) (hI.put (s := (k, Sa)) hia _ (by omega) hla rfl) (hYp k _ _ _ _ hya (by omega) hla rfl) ((hAx k a').put (s := ()) hax _ (by omega) hla rfl) hlt) ?_
    generalize Wa.putObj L (.loop { rec .ready none with state := .busy }) = Wb at hlb hdb hpb hszb
    -- what any way out leaves
    have fin : ∀ (jump : Option Code) (W3 : World) (S3 : Nat → Prop), KeepsS Sa S3 Wb W3 →
        (Instr.endRound L jump).run P W3 = .ok (.bool jump.isNone) (W3.putObj L (.loop (rec (if jump.isNone then .ready else .done) jump))) ∧
        W3.heap[L]? = some (.loop { rec .ready none with state := .busy }) ∧
        (W3.putObj L (.loop (rec (if jump.isNone then .ready else .done) jump))).heap[L]? = some (.loop (rec (if jump.isNone then .ready else .done) jump)) ∧
        (W3.putObj L (.loop (rec (if jump.isNone then .ready else .done) jump))).heap[w.heap.size]? = some (.deferred (some [])) ∧ (¬ S3 L ∧ ¬ S3 w.heap.size) ∧ KeepsS S (fun b => S3 b ∨ b = L) W (W3.putObj L (.loop (rec (if jump.isNone then .ready else .done) jump))) := by
      intro jump W3 S3 hk3
      have hl3 := hk3.same _ _ hsa1 hlb
      have hd3 := hk3.same _ _ hsa2 hdb
      have hLb := hlt_of hlb
      have hr3 := run_endRound (P := P) jump hl3
      refine ⟨by rw [hrec] at hr3 ⊢; exact hr3, hl3, World.putObj_heap_same (hlt_of hl3), (World.putObj_heap_other (by omega)).trans hd3, ⟨fun h => ?_, fun h => ?_⟩, ?_⟩
      · rcases hk3.own _ h with h | h <;> first | exact hsa1 h | omega
      · rcases hk3.own _ h with h | h <;> first | exact hsa2 h | omega
      · refine ⟨?_, fun b o hb ho => ?_, fun b hb => ?_⟩
        · have := hka.size; have := hk3.size; simp; omega
        · have hb1 : ¬ S1 b := fun h => hb ((hS b).2 (.inl h))
          have hb2 : b ≠ L := fun h => hb ((hS b).2 (.inr h))
          have hb3 : ¬ Sa b := fun h => by have := hlt_of ho; rcases hka.own _ h with h | h <;> first | exact hb1 h | omega
          refine (World.putObj_heap_other hb2).trans (hk3.same _ _ hb3 ((hpb b hb2).trans (hka.same _ _ hb1 ho)))
        · rcases hb with hb | hb
          · rcases hk3.own _ hb with h | h
            · exact (hka.own _ h).imp (fun h => (hS b).2 (.inl h)) id
            · have := hka.size; exact .inr (by omega)
          · exact .inl ((hS b).2 (.inr hb))
    rintro e a3 W3 hp
    cases e with
    | normal =>
      obtain ⟨S3, hi3, hk3⟩ := hp
      obtain ⟨hr3, hl3, hl4, hd4, hn1, hn2⟩ := fin none W3 S3 hk3
      refine ⟨_, _, hr3, .inl ⟨rfl, fun b => S3 b ∨ b = L, ⟨S3, fun b => Iff.rfl, hI.put (s := (k + 1, S3)) hi3 _ (by omega) hl3 rfl, hn1, hl4, hd4⟩, hn2⟩⟩
    | ret =>
      obtain ⟨hi3, S3, hk3⟩ := hp
      obtain ⟨hr3, hl3, hl4, hd4, hn1, hn2⟩ := fin (some .ret) W3 S3 hk3
      exact ⟨_, _, hr3, .inr ⟨rfl, ⟨.ret, (hIx _).put hi3 _ (by omega) hl3 rfl, hl4, hd4⟩, _, hn2⟩⟩
    | exit id =>
      obtain ⟨hi3, S3, hk3⟩ := hp
      obtain ⟨hr3, hl3, hl4, hd4, hn1, hn2⟩ := fin (some (.exit id)) W3 S3 hk3
      exact ⟨_, _, hr3, .inr ⟨rfl, ⟨.exit id, (hIx _).put hi3 _ (by omega) hl3 rfl, hl4, hd4⟩, _, hn2⟩⟩
    | goto t =>
      obtain ⟨hi3, S3, hk3⟩ := hp
      obtain ⟨hr3, hl3, hl4, hd4, hn1, hn2⟩ := fin (some (.goto t)) W3 S3 hk3
      exact ⟨_, _, hr3, .inr ⟨rfl, ⟨.goto t, (hIx _).put hi3 _ (by omega) hl3 rfl, hl4, hd4⟩, _, hn2⟩⟩
    | panic ch => exact hp.elim
    | outgrown => exact hp.elim
  · have hs0L : ¬ S0 L := fun h => by have := (hS0 _ h).1; omega
    have hs0D : ¬ S0 w.heap.size := fun h => by have := (hS0 _ h).1; omega
    exact ⟨S0, fun b => Iff.rfl, hI.grow (s := (0, S0)) h0 hnew, ⟨hs0L, hs0D⟩, e1, e2⟩
  · -- behind the iterator
    rintro e W2 ⟨⟨v, rfl⟩, (⟨S', ⟨S1, hS, hi, hnD, hl, hk⟩, hz⟩ | ⟨k, hk1, c, hi, hl, hk⟩)⟩
    · refine ⟨none, _, by have := run_endLoop (P := P) hl (by rw [hrec]; simp); rw [hrec] at this; exact this, ?_⟩
      exact hdone _ S1 _ (Nat.le_refl _) hnD.2 (hI.put (s := (N, S1)) hi _ (by omega) hl rfl) (hZ _ _ _ _ hz (by omega) hl rfl) ((World.putObj_heap_other (by omega)).trans hk)
    · refine ⟨some c, _, by have := run_endLoop (P := P) hl (by rw [hrec]; simp); rw [hrec] at this; exact this, ?_⟩
      exact hstop _ c k _ (Nat.le_refl _) hk1 ((hIx c).put hi _ (by omega) hl rfl) ((World.putObj_heap_other (by omega)).trans hk)
/-- One loop variable, in a slot of its own. -/
theorem range_d1 {n : Nat} {P : Program} {w : World} {a : Act} {Q : Exit → Act → World → Prop} {g : Operand} {assign body : Code}
    {gf : Nat} {lb : Array Value} (hg : a.eval g = .func (.func gf) #[] lb) (eg : ∀ args w, (callFunc gf args).run P w = .ok (.enter gf args) w)
    {val : Nat → Value} {p : Nat} {r : Nat} {N : Nat} {T V : Nat → Prop} {G : Nat → World → Prop} {Z : World → Prop} {w0 : World} (hseq : SeqD P gf lb (fun k => #[val k]) N T V G Z w0) (hb0 : Below w0.heap.size w0 w)
    (hT : ∀ r, T r → r < w.heap.size) (hV : ∀ r, V r → r < w.heap.size)
    (I : Nat → (Nat → Prop) → World → Prop) (Ix : Code → Nat → World → Prop) (hI : Bears2 T w.heap.size I) (hIx : ∀ c, Bears T w.heap.size (Ix c)) (hG : ∀ k S W, I k S W → G k W ∧ ∀ b, S b → b < W.heap.size)
    (S0 : Nat → Prop) (hS0 : ∀ b, S0 b → b < w.heap.size ∧ ¬ V b) (h0 : I 0 S0 w) (hZ : ∀ (W : World) (l : Nat) (o o' : Obj), Z W → w.heap.size ≤ l → W.heap[l]? = some o → o.isCells = false → Z (W.putObj l o'))
    (hassign : ∀ (l k : Nat) (W : World) (K : Act → World → Prop), K { tmps := (a.tmps.setIfInBounds p (val k)).setIfInBounds r (val k), defers := [] } W → assign.wpIn (Fence.wide.inRound l) (n - 1 - 1) P (Exit.then K (fun _ _ _ => False)) { tmps := a.tmps.setIfInBounds p (val k), defers := [] } W)
    (hbody : ∀ (l k : Nat) (S : Nat → Prop) (W : World), w.heap.size ≤ l → I k S W → k < N → body.wpIn (Fence.wide.inRound l) (n - 1 - 1) P (postD I Ix (k + 1) S W) { tmps := (a.tmps.setIfInBounds p (val k)).setIfInBounds r (val k), defers := [] } W)
    (hdone : ∀ (D : Nat) (S : Nat → Prop) (W : World), w.heap.size ≤ D → ¬ S D → I N S W → Z W → W.heap[D]? = some (.deferred (some [])) → Q .normal (markD D a) W)
    (hstop : ∀ (D : Nat) (c : Code) (k : Nat) (W : World), w.heap.size ≤ D → k ≤ N → Ix c k W → W.heap[D]? = some (.deferred (some [])) → c.wpIn Fence.wide n P Q (markD D a) W) :
    (Code.rangeFunc g #[p] assign body).wpIn Fence.wide n P Q a w :=
  range_d hg eg hseq.toY hb0 hT hV (fun _ => rfl) I Ix hI hIx hG S0 hS0 h0 hZ (fun _ _ _ _ _ _ _ _ _ => trivial) (fun k a' _ => a' = { tmps := (a.tmps.setIfInBounds p (val k)).setIfInBounds r (val k), defers := [] }) (fun k a' _ X Y row hs _ _ => hs)
    (fun l k S W K hi _ hk hK => by
      have h := hassign l k W K (hK _ W S hi trivial ⟨Nat.le_refl _, fun _ _ _ h => h, fun _ h => .inl h⟩ rfl)
      have e : Array.foldl (fun t (y : Nat × Value) => t.setIfInBounds y.1 y.2) a.tmps (#[p].zip #[val k]) = a.tmps.setIfInBounds p (val k) := by simp
      rw [← e] at h
      exact h)
    (fun l k S a' W hl hi _ hax hk => by subst hax; exact hbody l k S W hl hi hk)
    hdone hstop
/-- Two loop variables, in slots of their own. -/
theorem range_d2 {n : Nat} {P : Program} {w : World} {a : Act} {Q : Exit → Act → World → Prop} {g : Operand} {assign body : Code}
    {gf : Nat} {lb : Array Value} (hg : a.eval g = .func (.func gf) #[] lb) (eg : ∀ args w, (callFunc gf args).run P w = .ok (.enter gf args) w)
    {val va2 : Nat → Value} {p q : Nat} {r s : Nat} {N : Nat} {T V : Nat → Prop} {G : Nat → World → Prop} {Y : Nat → World → Prop} {Z : World → Prop} {w0 : World} (hseq : SeqY P gf lb (fun k => #[val k, va2 k]) N T V G Y Z w0) (hb0 : Below w0.heap.size w0 w)
    (hT : ∀ r, T r → r < w.heap.size) (hV : ∀ r, V r → r < w.heap.size)
    (I : Nat → (Nat → Prop) → World → Prop) (Ix : Code → Nat → World → Prop) (hI : Bears2 T w.heap.size I) (hIx : ∀ c, Bears T w.heap.size (Ix c)) (hG : ∀ k S W, I k S W → G k W ∧ ∀ b, S b → b < W.heap.size)
    (S0 : Nat → Prop) (hS0 : ∀ b, S0 b → b < w.heap.size ∧ ¬ V b) (h0 : I 0 S0 w) (hZ : ∀ (W : World) (l : Nat) (o o' : Obj), Z W → w.heap.size ≤ l → W.heap[l]? = some o → o.isCells = false → Z (W.putObj l o'))
    (hYp : ∀ (k : Nat) (W : World) (l : Nat) (o o' : Obj), Y k W → w.heap.size ≤ l → W.heap[l]? = some o → o.isCells = false → Y k (W.putObj l o'))
    (hassign : ∀ (l k : Nat) (W : World) (K : Act → World → Prop), K { tmps := (((a.tmps.setIfInBounds p (val k)).setIfInBounds q (va2 k)).setIfInBounds r (val k)).setIfInBounds s (va2 k), defers := [] } W → assign.wpIn (Fence.wide.inRound l) (n - 1 - 1) P (Exit.then K (fun _ _ _ => False)) { tmps := (a.tmps.setIfInBounds p (val k)).setIfInBounds q (va2 k), defers := [] } W)
    (hbody : ∀ (l k : Nat) (S : Nat → Prop) (W : World), w.heap.size ≤ l → I k S W → Y k W → k < N → body.wpIn (Fence.wide.inRound l) (n - 1 - 1) P (postD I Ix (k + 1) S W) { tmps := (((a.tmps.setIfInBounds p (val k)).setIfInBounds q (va2 k)).setIfInBounds r (val k)).setIfInBounds s (va2 k), defers := [] } W)
    (hdone : ∀ (D : Nat) (S : Nat → Prop) (W : World), w.heap.size ≤ D → ¬ S D → I N S W → Z W → W.heap[D]? = some (.deferred (some [])) → Q .normal (markD D a) W)
    (hstop : ∀ (D : Nat) (c : Code) (k : Nat) (W : World), w.heap.size ≤ D → k ≤ N → Ix c k W → W.heap[D]? = some (.deferred (some [])) → c.wpIn Fence.wide n P Q (markD D a) W) :
    (Code.rangeFunc g #[p, q] assign body).wpIn Fence.wide n P Q a w :=
  range_d hg eg hseq hb0 hT hV (fun _ => rfl) I Ix hI hIx hG S0 hS0 h0 hZ hYp (fun k a' _ => a' = { tmps := (((a.tmps.setIfInBounds p (val k)).setIfInBounds q (va2 k)).setIfInBounds r (val k)).setIfInBounds s (va2 k), defers := [] }) (fun k a' _ X Y row hs _ _ => hs)
    (fun l k S W K hi hy hk hK => by
      have h := hassign l k W K (hK _ W S hi hy ⟨Nat.le_refl _, fun _ _ _ h => h, fun _ h => .inl h⟩ rfl)
      have e : Array.foldl (fun t (y : Nat × Value) => t.setIfInBounds y.1 y.2) a.tmps (#[p, q].zip #[val k, va2 k]) = (a.tmps.setIfInBounds p (val k)).setIfInBounds q (va2 k) := by simp
      rw [← e] at h
      exact h)
    (fun l k S a' W hl hi hy hax hk => by subst hax; exact hbody l k S W hl hi hy hk)
    hdone hstop
end Go.Proofs.Ytbkodaijigcebaa
