/- Several texts, one behind the other: Rn, Hn, Vd, Ve. -/
import Derived.RangeFuncNested
import Derived.RangeFuncBound
import Derived.RangeFuncCalls
import Derived.RangeFuncLeaves
import Derived.Shelf.Abstract
import Derived.Shelf.RegionOpen
import Derived.WalkKit
import Derived.OwnWalkIn
import Derived.TacticsInMore
import Derived.LoopNIn
import Derived.LoopIn
import Derived.Test.YtleicghfcffblaaMA
import Derived.Test.YtleicghfcffblaaHe
import Derived.Test.YtleicghfcffblaaMV
import Derived.Test.YtleicghfcffblaaGt13
import Derived.Test.YtleicghfcffblaaGk
import Derived.RangeFuncWrites
/- A range over a function of which it is known ahead what it hands on, row by row: who owns which blocks (KeepsS), what an iterator promises (SeqD), the statement (range_d). -/
namespace Go.Proofs.Ytleicghfcffblaa
open Go.RowKit Go.Shelf
set_option maxRecDepth 20000
set_option linter.unusedVariables false
set_option linter.unusedSimpArgs false
/-- What a range over a function lays and rewrites: its record, its mark. -/
def isRec : Obj → Bool
  | .loop _ => true
  | .deferred _ => true
  | _ => false
theorem noDepth {p : Prop} (h : Fence.wide.depth.isSome = true) : p := absurd h (by simp [Fence.wide])
/-- A step that may write the blocks of S alone; behind it S' are the writer's own: those of S and new ones. -/
structure KeepsS (S S' : Nat → Prop) (W W' : World) : Prop where
  size : W.heap.size ≤ W'.heap.size
  same : ∀ (b : Nat) (o : Obj), ¬ S b → W.heap[b]? = some o → W'.heap[b]? = some o
  own : ∀ b, S' b → S b ∨ W.heap.size ≤ b
theorem hlt_of {W : World} {b : Nat} {o : Obj} (h : W.heap[b]? = some o) : b < W.heap.size := (Array.getElem?_eq_some_iff.1 h).1
theorem KeepsS.refl (S : Nat → Prop) (W : World) : KeepsS S S W W := ⟨Nat.le_refl _, fun _ _ _ h => h, fun _ h => .inl h⟩
theorem KeepsS.trans {S S' S'' : Nat → Prop} {X Y Z : World} (h : KeepsS S S' X Y) (h' : KeepsS S' S'' Y Z) : KeepsS S S'' X Z := by
  refine ⟨Nat.le_trans h.size h'.size, fun b o hb ho => h'.same b o (fun hs => ?_) (h.same b o hb ho), fun b hb => ?_⟩
  · have := hlt_of ho
    rcases h.own b hs with h1 | h1
    · exact hb h1
    · omega
  · rcases h'.own b hb with h1 | h1
    · exact h.own b h1
    · exact .inr (Nat.le_trans h.size h1)
theorem KeepsS.below (S : Nat → Prop) {W W' : World} (hb : Below W.heap.size W W') : KeepsS S S W W' := ⟨hb.size, fun b o _ ho => (hb.block b (hlt_of ho)).trans ho, fun _ h => .inl h⟩
theorem KeepsS.alloc (S : Nat → Prop) (W : World) (o : Obj) : KeepsS S S W (W.alloc o) := .below S ((Below.refl _ W).alloc (Nat.le_refl _) o)
theorem KeepsS.setCell (S : Nat → Prop) (W : World) (a : Addr) (v : Value) (ha : S a.block) : KeepsS S S W (W.setCell a v) :=
  ⟨(KeepsWalks.setCell W a v).size, fun b o hb ho => (Below.heap_setCell W a v b (fun e => hb (e ▸ ha))).trans ho, fun _ h => .inl h⟩
theorem KeepsS.cell {S S' : Nat → Prop} {W W' : World} (h : KeepsS S S' W W') {p : Addr} {v : Value} (hp : ¬ S p.block) (hc : W.cell? p = some v) : W'.cell? p = some v := by
  have hlt := vcell_lt hc
  have : W'.heap[p.block]? = W.heap[p.block]? := by rw [Array.getElem?_eq_getElem hlt]; exact h.same _ _ hp (Array.getElem?_eq_getElem hlt)
  simpa [World.cell?, this] using hc
theorem KeepsS.heap {S S' : Nat → Prop} {W W' : World} (h : KeepsS S S' W W') {b : Nat} (hp : ¬ S b) (hb : b < W.heap.size) : W'.heap[b]? = W.heap[b]? := by
  rw [Array.getElem?_eq_getElem hb]; exact h.same _ _ hp (Array.getElem?_eq_getElem hb)
/-- What bears an iterator's steps: new blocks; one of T; one beyond B that is a range's own record. -/
def Bears {β : Type} (T : Nat → Prop) (B : Nat) (J : β → World → Prop) : Prop :=
  ∀ s X Y row, J s X → X.grownBy Y row → (∀ r, row = some r → T r ∨ (B ≤ r ∧ ∃ o : Obj, X.heap[r]? = some o ∧ isRec o = true)) → J s Y
abbrev Bears2 (T : Nat → Prop) (B : Nat) (J : Nat → (Nat → Prop) → World → Prop) : Prop := Bears T B (fun (s : Nat × (Nat → Prop)) => J s.1 s.2)
theorem Bears.mono {β : Type} {T : Nat → Prop} {B B' : Nat} {J : β → World → Prop} (h : Bears T B J) (hB : B ≤ B') : Bears T B' J := fun s X Y row hs hg hr =>
  h s X Y row hs hg (fun r e => (hr r e).imp id (fun h => ⟨Nat.le_trans hB h.1, h.2⟩))
theorem Bears.less {β : Type} {T T' : Nat → Prop} {B : Nat} {J : β → World → Prop} (h : Bears T B J) (hT : ∀ r, T' r → T r) : Bears T' B J := fun s X Y row hs hg hr =>
  h s X Y row hs hg (fun r e => (hr r e).imp (hT r) id)
theorem Bears.and {β : Type} {T : Nat → Prop} {B : Nat} {J J' : β → World → Prop} (h : Bears T B J) (h' : Bears T B J') : Bears T B (fun s W => J s W ∧ J' s W) := fun s X Y row hs hg hr => ⟨h s X Y row hs.1 hg hr, h' s X Y row hs.2 hg hr⟩
theorem Bears.put {β : Type} {T : Nat → Prop} {B : Nat} {J : β → World → Prop} (h : Bears T B J) {s : β} {W : World} (hs : J s W) {l : Nat} {o : Obj} (o' : Obj) (hB : B ≤ l) (hl : W.heap[l]? = some o) (ho : isRec o = true) : J s (W.putObj l o') :=
  h s W _ (some l) hs (grownBy_putObj' W l o') (fun r e => by cases e; exact .inr ⟨hB, o, hl, ho⟩)
theorem Bears.grow {β : Type} {T : Nat → Prop} {B : Nat} {J : β → World → Prop} (h : Bears T B J) {s : β} {W W' : World} (hs : J s W) (hb : Below W.heap.size W W') : J s W' :=
  h s W W' none hs ⟨hb.os, hb.tape, hb.output, hb.size, fun k hk _ => hb.block k hk⟩ (fun r e => by cases e)
theorem Bears.alloc {β : Type} {T : Nat → Prop} {B : Nat} {J : β → World → Prop} (h : Bears T B J) {s : β} {W : World} (hs : J s W) (o : Obj) : J s (W.alloc o) := h.grow hs ((Below.refl _ W).alloc (Nat.le_refl _) o)
/-- Whatever lay below n₀ lies on: it bears steps of blocks beyond. -/
theorem bears_below {β : Type} {T : Nat → Prop} {n₀ B : Nat} {w₀ : World} (h0 : n₀ ≤ w₀.heap.size) (hB : n₀ ≤ B) (hT : ∀ r, T r → n₀ ≤ r) : Bears T B (fun (_ : β) W => Below n₀ w₀ W) := fun s X Y row hs hg hr =>
  ⟨hg.os.trans hs.os, hg.tape.trans hs.tape, hg.output.trans hs.output, Nat.le_trans hs.size hg.size, fun k hk => by
    refine (hg.block k ?_ (fun e => ?_)).trans (hs.block k hk)
    · have := hs.size; omega
    · rcases hr k e.symm with h | h
      · have := hT k h; omega
      · omega⟩
theorem bears_keeps {T S1 : Nat → Prop} {B : Nat} {X : World} (hB : X.heap.size ≤ B) (hT : ∀ r, T r → X.heap.size ≤ r) : Bears2 T B (fun _ S W => KeepsS S1 S X W) := fun s Y Z row hs hg hr =>
  ⟨Nat.le_trans hs.size hg.size, fun b o hb ho => by
    have hY := hs.same b o hb ho
    have hX := hlt_of ho
    refine (hg.block b (hlt_of hY) (fun e => ?_)).trans hY
    rcases hr b e.symm with h | h
    · have := hT b h; omega
    · omega, hs.own⟩
theorem bears_lt {T : Nat → Prop} {B : Nat} : Bears2 T B (fun _ S W => ∀ b, S b → b < W.heap.size) := fun s Y Z row hs hg hr b hb => Nat.lt_of_lt_of_le (hs b hb) hg.size
/-- What is known ahead of an iterator: the k-th of its N values is encs k; it writes the blocks of T alone (beside the ranges' own records), and reads those of V, which no round writes; G is what it may lean on when k rounds are over; Z is what it leaves when all have come. -/
def SeqD (P : Program) (g : Nat) (lb : Array Value) (encs : Nat → Array Value) (N : Nat) (T V : Nat → Prop) (G : Nat → World → Prop) (Z : World → Prop) (w : World) : Prop :=
  ∀ (n l : Nat) (J : Nat → (Nat → Prop) → World → Prop) (Jx : Nat → World → Prop) (S0 : Nat → Prop) (W : World), Below w.heap.size w W →
    Bears2 T W.heap.size J → Bears T W.heap.size Jx → (∀ k S W1, J k S W1 → G k W1 ∧ ∀ b, S b → b < W1.heap.size) → (∀ b, S0 b → b < W.heap.size ∧ ¬ V b) →
    (∀ k S W1, J k S W1 → k < N → YieldAt Fence.wide (n - 1) P l (encs k) W1 fun e W' => (e = .returned (.bool true) ∧ ∃ S', J (k + 1) S' W' ∧ KeepsS S S' W1 W') ∨ (e = .returned (.bool false) ∧ Jx (k + 1) W' ∧ ∃ S', KeepsS S S' W1 W')) →
    J 0 S0 W → CallsIn Fence.wide n P g (#[.func (.yield l) #[] #[]] ++ lb) W fun e W' => (∃ v, e = .returned v) ∧ ((∃ S', J N S' W' ∧ Z W') ∨ ∃ k, k ≤ N ∧ Jx k W')
/-- The same where each round is told more of the world (Y): the k-th of its N values is encs k; it writes the blocks of T alone (beside the ranges' own records), and reads those of V, which no round writes; G is what it may lean on when k rounds are over; Z is what it leaves when all have come. -/
def SeqY (P : Program) (g : Nat) (lb : Array Value) (encs : Nat → Array Value) (N : Nat) (T V : Nat → Prop) (G : Nat → World → Prop) (Y : Nat → World → Prop) (Z : World → Prop) (w : World) : Prop :=
  ∀ (n l : Nat) (J : Nat → (Nat → Prop) → World → Prop) (Jx : Nat → World → Prop) (S0 : Nat → Prop) (W : World), Below w.heap.size w W →
    Bears2 T W.heap.size J → Bears T W.heap.size Jx → (∀ k S W1, J k S W1 → G k W1 ∧ ∀ b, S b → b < W1.heap.size) → (∀ b, S0 b → b < W.heap.size ∧ ¬ V b) →
    (∀ k S W1, J k S W1 → Y k W1 → k < N → YieldAt Fence.wide (n - 1) P l (encs k) W1 fun e W' => (e = .returned (.bool true) ∧ ∃ S', J (k + 1) S' W' ∧ KeepsS S S' W1 W') ∨ (e = .returned (.bool false) ∧ Jx (k + 1) W' ∧ ∃ S', KeepsS S S' W1 W')) →
    J 0 S0 W → CallsIn Fence.wide n P g (#[.func (.yield l) #[] #[]] ++ lb) W fun e W' => (∃ v, e = .returned v) ∧ ((∃ S', J N S' W' ∧ Z W') ∨ ∃ k, k ≤ N ∧ Jx k W')
theorem SeqD.toY {P : Program} {g : Nat} {lb : Array Value} {encs : Nat → Array Value} {N : Nat} {T V : Nat → Prop} {G : Nat → World → Prop} {Z : World → Prop} {w : World} (h : SeqD P g lb encs N T V G Z w) : SeqY P g lb encs N T V G (fun _ _ => True) Z w :=
  fun n l J Jx S0 W hW hJ hJx hG hS0 hY h0 => h n l J Jx S0 W hW hJ hJx hG hS0 (fun k S W1 hj hk => hY k S W1 hj trivial hk) h0
/-- How a round's body may be left. -/
def postD (I : Nat → (Nat → Prop) → World → Prop) (Ix : Code → Nat → World → Prop) (k : Nat) (S : Nat → Prop) (W : World) : Exit → Act → World → Prop
  | .normal, _, W' => ∃ S', I k S' W' ∧ KeepsS S S' W W'
  | .ret, _, W' => Ix .ret k W' ∧ ∃ S', KeepsS S S' W W'
  | .exit id, _, W' => Ix (.exit id) k W' ∧ ∃ S', KeepsS S S' W W'
  | .goto t, _, W' => Ix (.goto t) k W' ∧ ∃ S', KeepsS S S' W W'
  | .panic _, _, _ => False
  | .outgrown, _, _ => False
/-- The mark that a range over a function leaves. -/
abbrev markD (D : Nat) (a : Act) : Act := { a with defers := { target := .collected D, args := #[] } :: a.defers }
set_option maxHeartbeats 1000000 in
/-- The statement. -/
theorem range_d {n : Nat} {P : Program} {w : World} {a : Act} {Q : Exit → Act → World → Prop} {g : Operand} {ps : Array Tmp} {assign body : Code}
    {gf : Nat} {lb : Array Value} (hg : a.eval g = .func (.func gf) #[] lb) (eg : ∀ args w, (callFunc gf args).run P w = .ok (.enter gf args) w)
    {encs : Nat → Array Value} {N : Nat} {T V : Nat → Prop} {G : Nat → World → Prop} {Y : Nat → World → Prop} {Z : World → Prop} {w0 : World} (hseq : SeqY P gf lb encs N T V G Y Z w0) (hb0 : Below w0.heap.size w0 w)
    (hT : ∀ r, T r → r < w.heap.size) (hV : ∀ r, V r → r < w.heap.size) (hps : ∀ k, (encs k).size = ps.size)
    (I : Nat → (Nat → Prop) → World → Prop) (Ix : Code → Nat → World → Prop) (hI : Bears2 T w.heap.size I) (hIx : ∀ c, Bears T w.heap.size (Ix c)) (hG : ∀ k S W, I k S W → G k W ∧ ∀ b, S b → b < W.heap.size)
    (S0 : Nat → Prop) (hS0 : ∀ b, S0 b → b < w.heap.size ∧ ¬ V b) (h0 : I 0 S0 w) (hZ : ∀ (W : World) (l : Nat) (o o' : Obj), Z W → w.heap.size ≤ l → W.heap[l]? = some o → isRec o = true → Z (W.putObj l o'))
    (hYp : ∀ (k : Nat) (W : World) (l : Nat) (o o' : Obj), Y k W → w.heap.size ≤ l → W.heap[l]? = some o → isRec o = true → Y k (W.putObj l o')) (Ax : Nat → Act → World → Prop) (hAx : ∀ k a', Bears T w.heap.size (fun (_ : Unit) W => Ax k a' W))
    (hassign : ∀ (l k : Nat) (S : Nat → Prop) (W : World) (K : Act → World → Prop), I k S W → Y k W → k < N → (∀ a' W' S', I k S' W' → Y k W' → KeepsS S S' W W' → Ax k a' W' → K a' W') →
      assign.wpIn (Fence.wide.inRound l) (n - 1 - 1) P (Exit.then K (fun _ _ _ => False)) { tmps := (ps.zip (encs k)).foldl (fun t (p, v) => t.setIfInBounds p v) a.tmps, defers := [] } W)
    (hbody : ∀ (l k : Nat) (S : Nat → Prop) (a' : Act) (W : World), w.heap.size ≤ l → I k S W → Y k W → Ax k a' W → k < N → body.wpIn (Fence.wide.inRound l) (n - 1 - 1) P (postD I Ix (k + 1) S W) a' W)
    (hdone : ∀ (D : Nat) (S : Nat → Prop) (W : World), w.heap.size ≤ D → ¬ S D → I N S W → Z W → W.heap[D]? = some (.deferred (some [])) → Q .normal (markD D a) W)
    (hstop : ∀ (D : Nat) (c : Code) (k : Nat) (W : World), w.heap.size ≤ D → k ≤ N → Ix c k W → W.heap[D]? = some (.deferred (some [])) → c.wpIn Fence.wide n P Q (markD D a) W) :
    (Code.rangeFunc g ps assign body).wpIn Fence.wide n P Q a w := by
  refine wpIn_rangeFunc fun fn hfn => ?_
  -- the record of the loop, and the world in which the iterator is called
  generalize hL : w.heap.size + 1 = L
  have hD : w.heap.size < L := by omega
  let rec0 : LoopState → Option Code → Loop := fun st pe => { state := st, pending := pe, fn, tmps := a.tmps, params := ps, assign, body, defers := w.heap.size }
  have hrec : rec0 = fun st pe => { state := st, pending := pe, fn, tmps := a.tmps, params := ps, assign, body, defers := w.heap.size } := rfl
  generalize rec0 = rec at hrec
  have hnew : Below w.heap.size w ((w.alloc (.deferred (some []))).alloc (.loop (rec .ready none))) := ((Below.refl _ w).alloc (Nat.le_refl _) _).alloc (by simp) _
  have e1 : ((w.alloc (.deferred (some []))).alloc (.loop (rec .ready none))).heap[L]? = some (.loop (rec .ready none)) := by
    have := World.alloc_heap_new (w.alloc (.deferred (some []))) (.loop (rec .ready none))
    rwa [World.size_alloc, hL] at this
  have e2 : ((w.alloc (.deferred (some []))).alloc (.loop (rec .ready none))).heap[w.heap.size]? = some (.deferred (some [])) :=
    (Below.heap_alloc _ _ _ (by simp)).trans (World.alloc_heap_new w _)
  have e3 : ((w.alloc (.deferred (some []))).alloc (.loop (rec .ready none))).heap.size = L + 1 := by simp; omega
  have e4 : (Instr.enterLoop fn a.tmps ps assign body Fence.wide.round).run P w = .ok (L, [{ target := .collected w.heap.size, args := #[] }]) ((w.alloc (.deferred (some []))).alloc (.loop (rec .ready none))) := by
    rw [hrec, ← hL]; exact run_enterLoop_outer _ _ _ _ _
  generalize (w.alloc (.deferred (some []))).alloc (.loop (rec .ready none)) = W1 at hnew e1 e2 e3 e4
  refine ⟨L, _, W1, { target := .fn (.func gf) lb, args := #[.func (.yield L) #[] #[]] }, W1, gf, #[.func (.yield L) #[] #[]] ++ lb, W1, e4, ?_, fun _ _ => trivial, ?_, fun h => absurd h (by simp [Fence.wide]), ?_⟩
  · simp only [resolve, hg]; simp [go_sem]
  · simp [invoke, go_sem, eg]
  have hmonoI : Bears2 T (L + 1) I := hI.mono (by omega)
  refine (hseq (n - 1) L
    (fun k S W => ∃ S1, (∀ b, S b ↔ (S1 b ∨ b = L)) ∧ I k S1 W ∧ (¬ S1 L ∧ ¬ S1 w.heap.size) ∧ W.heap[L]? = some (.loop (rec .ready none)) ∧ W.heap[w.heap.size]? = some (.deferred (some [])))
    (fun k W => ∃ c, Ix c k W ∧ W.heap[L]? = some (.loop (rec .done (some c))) ∧ W.heap[w.heap.size]? = some (.deferred (some [])))
    (fun b => S0 b ∨ b = L) W1 (hb0.trans (hnew.mono hb0.size)) ?_ ?_ ?_ ?_ ?_ ?_).mono ?_
  · rintro ⟨k, S⟩ X Y row ⟨S1, hS, hi, hl, h1, h2⟩ hgr hr
    refine ⟨S1, hS, hmonoI (k, S1) X Y row hi hgr (by rw [e3] at hr; exact hr), hl, ?_, ?_⟩
    · refine (hgr.block L (hlt_of h1) (fun e => ?_)).trans h1
      rcases hr L e.symm with h | h
      · have := hT L h; omega
      · omega
    · refine (hgr.block _ (hlt_of h2) (fun e => ?_)).trans h2
      rcases hr _ e.symm with h | h
      · have := hT _ h; omega
      · omega
  · rintro k X Y row ⟨c, hi, h1, h2⟩ hgr hr
    refine ⟨c, (hIx c).mono (B' := L + 1) (by omega) k X Y row hi hgr (by rw [e3] at hr; exact hr), ?_, ?_⟩
    · refine (hgr.block L (hlt_of h1) (fun e => ?_)).trans h1
      rcases hr L e.symm with h | h
      · have := hT L h; omega
      · omega
    · refine (hgr.block _ (hlt_of h2) (fun e => ?_)).trans h2
      rcases hr _ e.symm with h | h
      · have := hT _ h; omega
      · omega
  · rintro k S W ⟨S1, hS, hi, _, hl, _⟩
    refine ⟨(hG _ _ _ hi).1, fun b hb => ?_⟩
    rcases (hS b).1 hb with h | rfl
    · exact (hG _ _ _ hi).2 b h
    · exact hlt_of hl
  · rintro b (hb | rfl)
    · have := hS0 b hb; exact ⟨by omega, this.2⟩
    · exact ⟨by omega, fun hv => by have := hV _ hv; omega⟩
  · -- a round
    rintro k S W ⟨S1, hS, hi, ⟨hs1, hs2⟩, hl, hk⟩ hyk hlt
    have hy := run_yield (P := P) (args := encs k) hl (by rw [hrec]; exact hps k)
    rw [hrec] at hy
    refine ⟨fn, _, assign, body, hy, roundIn_of_wpIn hfn (hassign L k S1 W _ hi hyk hlt ?_)⟩
    clear hy
    intro a' Wa Sa hia hya hka hax
    have hla := hka.same _ _ hs1 hl
    have hda := hka.same _ _ hs2 hk
    have hLW := hlt_of hl
    have hsa1 : ¬ Sa L := fun h => by rcases hka.own _ h with h | h <;> first | exact hs1 h | omega
    have hsa2 : ¬ Sa w.heap.size := fun h => by rcases hka.own _ h with h | h <;> first | exact hs2 h | omega
    refine ⟨_, run_beginRound hla (by rw [hrec]), ?_⟩
    have hlb : (Wa.putObj L (.loop { rec .ready none with state := .busy })).heap[L]? = some (.loop { rec .ready none with state := .busy }) := World.putObj_heap_same (hlt_of hla)
    have hdb : (Wa.putObj L (.loop { rec .ready none with state := .busy })).heap[w.heap.size]? = some (.deferred (some [])) := (World.putObj_heap_other (by omega)).trans hda
    have hpb : ∀ b, b ≠ L → (Wa.putObj L (.loop { rec .ready none with state := .busy })).heap[b]? = Wa.heap[b]? := fun b hb => World.putObj_heap_other hb
    have hszb : (Wa.putObj L (.loop { rec .ready none with state := .busy })).heap.size = Wa.heap.size := by simp
    refine wpIn_mono (hbody L k Sa a' _ (by omega) (hI.put (s := (k, Sa)) hia _ (by omega) hla rfl) (hYp k _ _ _ _ hya (by omega) hla rfl) ((hAx k a').put (s := ()) hax _ (by omega) hla rfl) hlt) ?_
    generalize Wa.putObj L (.loop { rec .ready none with state := .busy }) = Wb at hlb hdb hpb hszb
    -- what any way out leaves
    have fin : ∀ (jump : Option Code) (W3 : World) (S3 : Nat → Prop), KeepsS Sa S3 Wb W3 →
        (Instr.endRound L jump).run P W3 = .ok (.bool jump.isNone) (W3.putObj L (.loop (rec (if jump.isNone then .ready else .done) jump))) ∧
        W3.heap[L]? = some (.loop { rec .ready none with state := .busy }) ∧
        (W3.putObj L (.loop (rec (if jump.isNone then .ready else .done) jump))).heap[L]? = some (.loop (rec (if jump.isNone then .ready else .done) jump)) ∧
        (W3.putObj L (.loop (rec (if jump.isNone then .ready else .done) jump))).heap[w.heap.size]? = some (.deferred (some [])) ∧ (¬ S3 L ∧ ¬ S3 w.heap.size) ∧ KeepsS S (fun b => S3 b ∨ b = L) W (W3.putObj L (.loop (rec (if jump.isNone then .ready else .done) jump))) := by
      intro jump W3 S3 hk3
      have hl3 := hk3.same _ _ hsa1 hlb
      have hd3 := hk3.same _ _ hsa2 hdb
      have hLb := hlt_of hlb
      have hr3 := run_endRound (P := P) jump hl3
      refine ⟨by rw [hrec] at hr3 ⊢; exact hr3, hl3, World.putObj_heap_same (hlt_of hl3), (World.putObj_heap_other (by omega)).trans hd3, ⟨fun h => ?_, fun h => ?_⟩, ?_⟩
      · rcases hk3.own _ h with h | h <;> first | exact hsa1 h | omega
      · rcases hk3.own _ h with h | h <;> first | exact hsa2 h | omega
      · refine ⟨?_, fun b o hb ho => ?_, fun b hb => ?_⟩
        · have := hka.size; have := hk3.size; simp; omega
        · have hb1 : ¬ S1 b := fun h => hb ((hS b).2 (.inl h))
          have hb2 : b ≠ L := fun h => hb ((hS b).2 (.inr h))
          have hb3 : ¬ Sa b := fun h => by have := hlt_of ho; rcases hka.own _ h with h | h <;> first | exact hb1 h | omega
          refine (World.putObj_heap_other hb2).trans (hk3.same _ _ hb3 ((hpb b hb2).trans (hka.same _ _ hb1 ho)))
        · rcases hb with hb | hb
          · rcases hk3.own _ hb with h | h
            · exact (hka.own _ h).imp (fun h => (hS b).2 (.inl h)) id
            · have := hka.size; exact .inr (by omega)
          · exact .inl ((hS b).2 (.inr hb))
    rintro e a3 W3 hp
    cases e with
    | normal =>
      obtain ⟨S3, hi3, hk3⟩ := hp
      obtain ⟨hr3, hl3, hl4, hd4, hn1, hn2⟩ := fin none W3 S3 hk3
      refine ⟨_, _, hr3, .inl ⟨rfl, fun b => S3 b ∨ b = L, ⟨S3, fun b => Iff.rfl, hI.put (s := (k + 1, S3)) hi3 _ (by omega) hl3 rfl, hn1, hl4, hd4⟩, hn2⟩⟩
    | ret =>
      obtain ⟨hi3, S3, hk3⟩ := hp
      obtain ⟨hr3, hl3, hl4, hd4, hn1, hn2⟩ := fin (some .ret) W3 S3 hk3
      exact ⟨_, _, hr3, .inr ⟨rfl, ⟨.ret, (hIx _).put hi3 _ (by omega) hl3 rfl, hl4, hd4⟩, _, hn2⟩⟩
    | exit id =>
      obtain ⟨hi3, S3, hk3⟩ := hp
      obtain ⟨hr3, hl3, hl4, hd4, hn1, hn2⟩ := fin (some (.exit id)) W3 S3 hk3
      exact ⟨_, _, hr3, .inr ⟨rfl, ⟨.exit id, (hIx _).put hi3 _ (by omega) hl3 rfl, hl4, hd4⟩, _, hn2⟩⟩
    | goto t =>
      obtain ⟨hi3, S3, hk3⟩ := hp
      obtain ⟨hr3, hl3, hl4, hd4, hn1, hn2⟩ := fin (some (.goto t)) W3 S3 hk3
      exact ⟨_, _, hr3, .inr ⟨rfl, ⟨.goto t, (hIx _).put hi3 _ (by omega) hl3 rfl, hl4, hd4⟩, _, hn2⟩⟩
    | panic ch => exact hp.elim
    | outgrown => exact hp.elim
  · have hs0L : ¬ S0 L := fun h => by have := (hS0 _ h).1; omega
    have hs0D : ¬ S0 w.heap.size := fun h => by have := (hS0 _ h).1; omega
    exact ⟨S0, fun b => Iff.rfl, hI.grow (s := (0, S0)) h0 hnew, ⟨hs0L, hs0D⟩, e1, e2⟩
  · -- behind the iterator
    rintro e W2 ⟨⟨v, rfl⟩, (⟨S', ⟨S1, hS, hi, hnD, hl, hk⟩, hz⟩ | ⟨k, hk1, c, hi, hl, hk⟩)⟩
    · refine ⟨none, _, by have := run_endLoop (P := P) hl (by rw [hrec]; simp); rw [hrec] at this; exact this, ?_⟩
      exact hdone _ S1 _ (Nat.le_refl _) hnD.2 (hI.put (s := (N, S1)) hi _ (by omega) hl rfl) (hZ _ _ _ _ hz (by omega) hl rfl) ((World.putObj_heap_other (by omega)).trans hk)
    · refine ⟨some c, _, by have := run_endLoop (P := P) hl (by rw [hrec]; simp); rw [hrec] at this; exact this, ?_⟩
      exact hstop _ c k _ (Nat.le_refl _) hk1 ((hIx c).put hi _ (by omega) hl rfl) ((World.putObj_heap_other (by omega)).trans hk)
/-- One loop variable, in a slot of its own. -/
theorem range_d1 {n : Nat} {P : Program} {w : World} {a : Act} {Q : Exit → Act → World → Prop} {g : Operand} {assign body : Code}
    {gf : Nat} {lb : Array Value} (hg : a.eval g = .func (.func gf) #[] lb) (eg : ∀ args w, (callFunc gf args).run P w = .ok (.enter gf args) w)
    {val : Nat → Value} {p : Nat} {r : Nat} {N : Nat} {T V : Nat → Prop} {G : Nat → World → Prop} {Z : World → Prop} {w0 : World} (hseq : SeqD P gf lb (fun k => #[val k]) N T V G Z w0) (hb0 : Below w0.heap.size w0 w)
    (hT : ∀ r, T r → r < w.heap.size) (hV : ∀ r, V r → r < w.heap.size)
    (I : Nat → (Nat → Prop) → World → Prop) (Ix : Code → Nat → World → Prop) (hI : Bears2 T w.heap.size I) (hIx : ∀ c, Bears T w.heap.size (Ix c)) (hG : ∀ k S W, I k S W → G k W ∧ ∀ b, S b → b < W.heap.size)
    (S0 : Nat → Prop) (hS0 : ∀ b, S0 b → b < w.heap.size ∧ ¬ V b) (h0 : I 0 S0 w) (hZ : ∀ (W : World) (l : Nat) (o o' : Obj), Z W → w.heap.size ≤ l → W.heap[l]? = some o → isRec o = true → Z (W.putObj l o'))
    (hassign : ∀ (l k : Nat) (W : World) (K : Act → World → Prop), K { tmps := (a.tmps.setIfInBounds p (val k)).setIfInBounds r (val k), defers := [] } W → assign.wpIn (Fence.wide.inRound l) (n - 1 - 1) P (Exit.then K (fun _ _ _ => False)) { tmps := a.tmps.setIfInBounds p (val k), defers := [] } W)
    (hbody : ∀ (l k : Nat) (S : Nat → Prop) (W : World), w.heap.size ≤ l → I k S W → k < N → body.wpIn (Fence.wide.inRound l) (n - 1 - 1) P (postD I Ix (k + 1) S W) { tmps := (a.tmps.setIfInBounds p (val k)).setIfInBounds r (val k), defers := [] } W)
    (hdone : ∀ (D : Nat) (S : Nat → Prop) (W : World), w.heap.size ≤ D → ¬ S D → I N S W → Z W → W.heap[D]? = some (.deferred (some [])) → Q .normal (markD D a) W)
    (hstop : ∀ (D : Nat) (c : Code) (k : Nat) (W : World), w.heap.size ≤ D → k ≤ N → Ix c k W → W.heap[D]? = some (.deferred (some [])) → c.wpIn Fence.wide n P Q (markD D a) W) :
    (Code.rangeFunc g #[p] assign body).wpIn Fence.wide n P Q a w :=
  range_d hg eg hseq.toY hb0 hT hV (fun _ => rfl) I Ix hI hIx hG S0 hS0 h0 hZ (fun _ _ _ _ _ _ _ _ _ => trivial) (fun k a' _ => a' = { tmps := (a.tmps.setIfInBounds p (val k)).setIfInBounds r (val k), defers := [] }) (fun k a' _ X Y row hs _ _ => hs)
    (fun l k S W K hi _ hk hK => by
      have h := hassign l k W K (hK _ W S hi trivial ⟨Nat.le_refl _, fun _ _ _ h => h, fun _ h => .inl h⟩ rfl)
      have e : Array.foldl (fun t (y : Nat × Value) => t.setIfInBounds y.1 y.2) a.tmps (#[p].zip #[val k]) = a.tmps.setIfInBounds p (val k) := by simp
      rw [← e] at h
      exact h)
    (fun l k S a' W hl hi _ hax hk => by subst hax; exact hbody l k S W hl hi hk)
    hdone hstop
/-- Two loop variables, in slots of their own. -/
theorem range_d2 {n : Nat} {P : Program} {w : World} {a : Act} {Q : Exit → Act → World → Prop} {g : Operand} {assign body : Code}
    {gf : Nat} {lb : Array Value} (hg : a.eval g = .func (.func gf) #[] lb) (eg : ∀ args w, (callFunc gf args).run P w = .ok (.enter gf args) w)
    {val va2 : Nat → Value} {p q : Nat} {r s : Nat} {N : Nat} {T V : Nat → Prop} {G : Nat → World → Prop} {Y : Nat → World → Prop} {Z : World → Prop} {w0 : World} (hseq : SeqY P gf lb (fun k => #[val k, va2 k]) N T V G Y Z w0) (hb0 : Below w0.heap.size w0 w)
    (hT : ∀ r, T r → r < w.heap.size) (hV : ∀ r, V r → r < w.heap.size)
    (I : Nat → (Nat → Prop) → World → Prop) (Ix : Code → Nat → World → Prop) (hI : Bears2 T w.heap.size I) (hIx : ∀ c, Bears T w.heap.size (Ix c)) (hG : ∀ k S W, I k S W → G k W ∧ ∀ b, S b → b < W.heap.size)
    (S0 : Nat → Prop) (hS0 : ∀ b, S0 b → b < w.heap.size ∧ ¬ V b) (h0 : I 0 S0 w) (hZ : ∀ (W : World) (l : Nat) (o o' : Obj), Z W → w.heap.size ≤ l → W.heap[l]? = some o → isRec o = true → Z (W.putObj l o'))
    (hYp : ∀ (k : Nat) (W : World) (l : Nat) (o o' : Obj), Y k W → w.heap.size ≤ l → W.heap[l]? = some o → isRec o = true → Y k (W.putObj l o'))
    (hassign : ∀ (l k : Nat) (W : World) (K : Act → World → Prop), K { tmps := (((a.tmps.setIfInBounds p (val k)).setIfInBounds q (va2 k)).setIfInBounds r (val k)).setIfInBounds s (va2 k), defers := [] } W → assign.wpIn (Fence.wide.inRound l) (n - 1 - 1) P (Exit.then K (fun _ _ _ => False)) { tmps := (a.tmps.setIfInBounds p (val k)).setIfInBounds q (va2 k), defers := [] } W)
    (hbody : ∀ (l k : Nat) (S : Nat → Prop) (W : World), w.heap.size ≤ l → I k S W → Y k W → k < N → body.wpIn (Fence.wide.inRound l) (n - 1 - 1) P (postD I Ix (k + 1) S W) { tmps := (((a.tmps.setIfInBounds p (val k)).setIfInBounds q (va2 k)).setIfInBounds r (val k)).setIfInBounds s (va2 k), defers := [] } W)
    (hdone : ∀ (D : Nat) (S : Nat → Prop) (W : World), w.heap.size ≤ D → ¬ S D → I N S W → Z W → W.heap[D]? = some (.deferred (some [])) → Q .normal (markD D a) W)
    (hstop : ∀ (D : Nat) (c : Code) (k : Nat) (W : World), w.heap.size ≤ D → k ≤ N → Ix c k W → W.heap[D]? = some (.deferred (some [])) → c.wpIn Fence.wide n P Q (markD D a) W) :
    (Code.rangeFunc g #[p, q] assign body).wpIn Fence.wide n P Q a w :=
  range_d hg eg hseq hb0 hT hV (fun _ => rfl) I Ix hI hIx hG S0 hS0 h0 hZ hYp (fun k a' _ => a' = { tmps := (((a.tmps.setIfInBounds p (val k)).setIfInBounds q (va2 k)).setIfInBounds r (val k)).setIfInBounds s (va2 k), defers := [] }) (fun k a' _ X Y row hs _ _ => hs)
    (fun l k S W K hi hy hk hK => by
      have h := hassign l k W K (hK _ W S hi hy ⟨Nat.le_refl _, fun _ _ _ h => h, fun _ h => .inl h⟩ rfl)
      have e : Array.foldl (fun t (y : Nat × Value) => t.setIfInBounds y.1 y.2) a.tmps (#[p, q].zip #[val k, va2 k]) = (a.tmps.setIfInBounds p (val k)).setIfInBounds q (va2 k) := by simp
      rw [← e] at h
      exact h)
    (fun l k S a' W hl hi hy hax hk => by subst hax; exact hbody l k S W hl hi hy hk)
    hdone hstop
end Go.Proofs.Ytleicghfcffblaa
/- Each: what it hands on. -/
namespace Go.Proofs.Ytleicghfcffblaa
open Go.RowKit Go.Shelf
set_option maxRecDepth 20000
set_option linter.unusedVariables false
set_option linter.unusedSimpArgs false
attribute [local go_sem] Oper.semAt_some
def idC (l : List It) (k : Nat) : Int := ((l.getD k (0, { data := #[] })).1 : Int)
def txC (l : List It) (k : Nat) : ByteArray := (l.getD k (0, { data := #[] })).2
/-- The blocks that a going through reads: the box of the row, the row. -/
def VC (B0 : Nat) (v : Value) (l : List It) (b : Nat) : Prop := b = B0 ∨ (l ≠ [] ∧ ∃ a n c, v = .slice (some a) n c ∧ b = a.block)
theorem KeepsS.its {S S' : Nat → Prop} {W W' : World} {v : Value} {l : List It} (h : KeepsS S S' W W') (hoff : ∀ a n c, l ≠ [] → v = .slice (some a) n c → ¬ S a.block) (hv : ItsAt W v l) : ItsAt W' v l := by
  obtain ⟨a, cap, rfl, h1, h2, hc⟩ := hv
  refine ⟨a, cap, rfl, h1, h2, fun k t ht => ?_⟩
  obtain ⟨g, off, rfl, hg, c0, c1⟩ := hc k t ht
  have hn := hoff ⟨g, off, none⟩ _ _ (by rintro rfl; simp at ht) rfl
  exact ⟨g, off, rfl, Nat.lt_of_lt_of_le hg h.size, h.cell (p := ⟨g, off + k * 2, none⟩) hn c0, h.cell (p := ⟨g, off + k * 2 + 1, none⟩) hn c1⟩
set_option maxRecDepth 100000 in
set_option maxHeartbeats 4000000 in
theorem peach1_seq (v : Value) (l : List It) (B0 : Nat) (w : World) (hv : ItsAt w v l) (h1 : w.cell? ⟨B0, 0, none⟩ = some v) :
    SeqD Try.prog 58 #[.pointer (some ⟨B0, 0, none⟩)] (fun k => #[.int .u64 (idC l k), .string (txC l k)]) l.length (fun _ => False) (VC B0 v l) (fun _ _ => True) (fun _ => True) w := by
  intro n lp J Jx S0 W hW hJ hJx hG hS0 hY h0
  have hoff : ∀ a n c, l ≠ [] → v = .slice (some a) n c → ¬ S0 a.block := fun a n c hl hv hs => (hS0 _ hs).2 (.inr ⟨hl, a, n, c, hv, rfl⟩)
  have hvW := hv.below hW
  have hn1 : ¬ S0 B0 := fun h => (hS0 _ h).2 (.inl rfl)
  have g1 := vcell_later hW h1
  obtain ⟨al, cap, rfl, hcap, hmx, _⟩ := hv
  have hml : l.length ≤ 9223372036854775807 := by unfold maxLen at hmx; omega
  have HJ := Lib.hid hJ
  have HG := Lib.hid hG
  have HY := Lib.hid hY
  have HO := Lib.hid hoff
  have HVW := Lib.hid hvW
  have HN := Lib.hid hn1
  clear hJ hY hS0 hJx hoff hvW h1 hn1 hcap hmx hG
  refine callsIn_of_wp Try.func58 rfl trivial ?_ rfl
  simp only [Try.ntmps58, List.size_toArray, List.length_cons, List.length_nil, Nat.reduceAdd, Nat.reduceSub, Array.replicate_succ, Array.replicate_zero, List.push_toArray, List.append_toArray, List.nil_append, List.cons_append]
  gi_wp2
  gi_loopw [8] (fun i wr => ∃ k : Nat, k ≤ l.length ∧ i = .int .i64 k ∧ ∃ S, Hid (J k S wr) ∧ Hid (KeepsS S0 S W wr)) (fun i _ => l.length - (intOf i).toNat)
  case atStart => exact ⟨0, Nat.zero_le _, rfl, S0, Lib.hid h0, Lib.hid (.refl _ _)⟩
  case round =>
    obtain ⟨k, hk, rfl, S, HJs, HK⟩ := hrel
    by_cases hlt : k < l.length
    · obtain ⟨⟨x, t⟩, he⟩ : ∃ t, l[k]? = some t := ⟨_, List.getElem?_eq_getElem hlt⟩
      have hi2 : (k : Int) < (l.length : Int) := by omega
      have hV := HK.out.its HO.out HVW.out
      obtain ⟨al', cap', hav, _, _, hc⟩ := hV
      obtain ⟨g, off, rfl, hg, l0, l1⟩ := hc k _ he
      have hid : idC l k = (x : Int) := by unfold idC; rw [List.getD_eq_getElem?_getD, he]; rfl
      have htx : txC l k = t := by unfold txC; rw [List.getD_eq_getElem?_getD, he]; rfl
      have HKX := Lib.hid (KeepsS.alloc S wr (.cells #[.int .u64 x, .string t] 58))
      have HJX := Lib.hid (HJ.out.alloc (s := (k, S)) HJs.out (.cells #[.int .u64 x, .string t] 58))
      cases hav
      obtain ⟨fn, tmps, assign, body, hy, hR⟩ := HY.out k S _ HJX.out hlt
      rw [hid, htx] at hy
      have HR := Lib.hid hR
      clear hR he hc g1 hid htx HJs
      gi_wp2
      refine ⟨noDepth, HR.out.mono ?_⟩
      rintro x W3 (⟨rfl, S3, hJ3, hk3⟩ | ⟨rfl, hJx3, _⟩)
      · have HJ3 := Lib.hid hJ3
        have HK3 := Lib.hid ((HK.out.trans HKX.out).trans hk3)
        clear hJ3 hk3 hy HR l0 l1
        gi_wp2
        go_roundw
        case rel => exact ⟨k + 1, by omega, by go_num, S3, HJ3, HK3⟩
        case measure => simp [intOf]; omega
      · have HJ3 := Lib.hid hJx3
        clear hJx3 hy HR l0 l1
        gi_wp2
        refine bodyPost_ret (results_none rfl _ _ _) rfl ?_
        exact ⟨⟨_, rfl⟩, .inr ⟨k + 1, by omega, HJ3.out⟩⟩
    · obtain rfl : k = l.length := by omega
      clear g1
      gi_wp2
      go_end0
      exact ⟨⟨_, rfl⟩, .inl ⟨S, HJs.out, trivial⟩⟩
/-- Each, told with what it hands. -/
theorem each13_any (s : Value) (l : List It) (w : World) (h : ChS w s l) :
    Calls Try.prog 35 #[.agg #[s]] w fun e w' => e = .returned (.func (.func 58) #[] #[.pointer (some ⟨w.heap.size, 0, none⟩)]) ∧ w'.cell? ⟨w.heap.size, 0, none⟩ = some s ∧ Below w.heap.size w w' := by
  obtain ⟨a, n, c, rfl⟩ := h.form
  clear h
  go_enter Try.func35, Try.ntmps35
  go_wp2_with fail
  go_ret
  exact ⟨rfl, by simp [go_sem], by go_grown⟩
end Go.Proofs.Ytleicghfcffblaa
/- What the program's Rows keeps while it goes through the tiles: the boxes of the pool and of the row, the row, the pool. -/
namespace Go.Proofs.Ytleicghfcffblaa
open Go.RowKit
set_option maxRecDepth 20000
set_option linter.unusedVariables false
set_option linter.unusedSimpArgs false
theorem OwnE.keep {w w' : World} {B : Nat} {E : TypeId} {v : Value} {l : List En} (h : OwnE w B E v l) (hk : ∀ k, v.ownBlock = some k → w'.heap[k]? = w.heap[k]?) : OwnE w' B E v l := by
  obtain ⟨h1, h2⟩ := h
  refine ⟨h1, ?_⟩
  rcases h2 with h2 | ⟨g, cap, cur, hv, hg, hh, r⟩
  · exact .inl h2
  · refine .inr ⟨g, cap, cur, hv, hg, ?_, r⟩
    rw [hk g (by rw [hv]; rfl)]; exact hh
theorem OwnE.cells {w : World} {B : Nat} {E : TypeId} {v : Value} {l : List En} (h : OwnE w B E v l) {g : Nat} (hg : v.ownBlock = some g) : ∃ cur T fz, w.heap[g]? = some (.cells cur T fz) := by
  rcases h.2 with ⟨rfl, _⟩ | ⟨g', cap, cur, rfl, _, hh, _⟩
  · cases hg
  · cases hg
    exact ⟨_, _, _, hh⟩
theorem own_oneE {w : World} {B g : Nat} {E : TypeId} {v x : Value} {l : List En} (h : OwnE w B E v l) (ho : One w g x) : v.ownBlock ≠ some g := by
  intro e
  obtain ⟨T, hh⟩ := ho
  rcases h.2 with ⟨rfl, _⟩ | ⟨g', cap, cur, rfl, _, h2, _, _, hcs, _⟩
  · cases e
  · cases e
    rw [hh] at h2
    cases h2
    simp at hcs
    omega
theorem One.keep {w w' : World} {g : Nat} {x : Value} (h : One w g x) (hk : w'.heap[g]? = w.heap[g]?) : One w' g x := by
  obtain ⟨T, h⟩ := h
  exact ⟨T, hk.trans h⟩
/-- No block of a pool is a range's record. -/
theorem pool_norec {w : World} {v : Value} {l : List ByteArray} {S : Nat → Prop} (h : PoolS w v l S) {b : Nat} (hb : S b) {o : Obj} (ho : w.heap[b]? = some o) : isRec o = false := by
  obtain ⟨pb, va, vm, G, rfl, hP, hS⟩ := h
  rcases (hS b).1 hb with rfl | hb | hb | ⟨k, hb⟩
  · have h0 := hP.two.1
    unfold World.cell? at h0
    simp only [ho] at h0
    cases o <;> first | rfl | simp at h0
  · obtain ⟨_, _, _, hh⟩ := hP.all.cells hb
    rw [ho] at hh; cases hh; rfl
  · rcases hP.map with ⟨e, _⟩ | ⟨mb, e, hm⟩
    · rw [e] at hb; cases hb
    · rw [e] at hb; cases hb
      obtain ⟨_, _, hh⟩ := hm.block
      rw [ho] at hh; cases hh; rfl
  · obtain ⟨_, _, _, hh⟩ := (hP.grps k).cells hb
    rw [ho] at hh; cases hh; rfl
/-- The writer's own blocks. -/
def blkR (bl : Nat) (vo : Value) (Sp : Nat → Prop) (b : Nat) : Prop := b = bl ∨ vo.ownBlock = some b ∨ Sp b
structure RwP (w : World) (B bp bl : Nat) (pv : Value) (rows : List En) (ts : List ByteArray) (vo : Value) (Sp : Nat → Prop) (W : World) : Prop where
  bxp : One W bp pv
  bxl : One W bl vo
  out : OwnE W B 62 vo rows
  pool : PoolS W pv ts Sp
  np : ¬ Sp bp
  nl : ¬ Sp bl
  no : ∀ b, vo.ownBlock = some b → ¬ Sp b
  npl : bp ≠ bl
  bas : ∀ b, Sp b → B ≤ b
  bll : B ≤ bl
  bel : Below B w W
section
variable {w : World} {B bp bl : Nat} {pv : Value} {rows : List En} {ts : List ByteArray} {vo : Value} {Sp : Nat → Prop} {W W' : World}
theorem RwP.lt (h : RwP w B bp bl pv rows ts vo Sp W) : ∀ b, blkR bl vo Sp b → b < W.heap.size := by
  rintro b (rfl | hb | hb)
  · exact h.bxl.lt
  · exact (h.out.lt b hb).2
  · exact h.pool.lt b hb
theorem RwP.low (h : RwP w B bp bl pv rows ts vo Sp W) : ∀ b, blkR bl vo Sp b → B ≤ b := by
  rintro b (rfl | hb | hb)
  · exact h.bll
  · exact (h.out.lt b hb).1
  · exact h.bas b hb
theorem RwP.keep (h : RwP w B bp bl pv rows ts vo Sp W) (hs : W.heap.size ≤ W'.heap.size) (hk : ∀ b, b = bp ∨ blkR bl vo Sp b → W'.heap[b]? = W.heap[b]?) (hb : Below B w W') : RwP w B bp bl pv rows ts vo Sp W' :=
  ⟨h.bxp.keep (hk _ (.inl rfl)), h.bxl.keep (hk _ (.inr (.inl rfl))), h.out.keep (fun k hv => hk k (.inr (.inr (.inl hv)))), h.pool.keep hs (fun b hS => hk b (.inr (.inr (.inr hS)))), h.np, h.nl, h.no, h.npl, h.bas, h.bll, hb⟩
theorem RwP.below (h : RwP w B bp bl pv rows ts vo Sp W) (hb : Below W.heap.size W W') (hB : B ≤ W.heap.size) : RwP w B bp bl pv rows ts vo Sp W' :=
  h.keep hb.size (fun b hk => hb.block b (by rcases hk with rfl | hk; exact h.bxp.lt; exact h.lt b hk)) (h.bel.trans (hb.mono hB))
theorem RwP.size (h : RwP w B bp bl pv rows ts vo Sp W) : B ≤ W.heap.size := Nat.le_of_lt (Nat.lt_of_le_of_lt h.bll h.bxl.lt)
theorem RwP.later (h : RwP w B bp bl pv rows ts vo Sp W) (hb : Below W.heap.size W W') : RwP w B bp bl pv rows ts vo Sp W' := h.below hb h.size
/-- The pool takes a content. -/
theorem RwP.add {ts' : List ByteArray} {Sp' : Nat → Prop} (h : RwP w B bp bl pv rows ts vo Sp W) (hp : PoolS W' pv ts' Sp') (hk : Kept Sp Sp' W W') : RwP w B bp bl pv rows ts' vo Sp' W' ∧ KeepsS (blkR bl vo Sp) (blkR bl vo Sp') W W' := by
  refine ⟨⟨h.bxp.keep (hk.same _ h.bxp.lt h.np), h.bxl.keep (hk.same _ h.bxl.lt h.nl), h.out.keep (fun k hv => hk.same k (h.out.lt k hv).2 (h.no k hv)), hp, fun hb => ?_, fun hb => ?_, fun b hv hb => ?_, h.npl, fun b hb => ?_, h.bll, Below.kept h.bel hk h.bas h.size⟩, ⟨hk.size, fun b o hb ho => ?_, fun b hb => ?_⟩⟩
  · rcases hk.own _ hb with hq | hq
    · exact h.np hq
    · have := h.bxp.lt; omega
  · rcases hk.own _ hb with hq | hq
    · exact h.nl hq
    · have := h.bxl.lt; omega
  · rcases hk.own _ hb with hq | hq
    · exact h.no b hv hq
    · have := (h.out.lt b hv).2; omega
  · rcases hk.own _ hb with hq | hq
    · exact h.bas b hq
    · exact Nat.le_trans h.size hq
  · exact (hk.same b (hlt_of ho) (fun hq => hb (.inr (.inr hq)))).trans ho
  · rcases hb with rfl | hb | hb
    · exact .inl (.inl rfl)
    · exact .inl (.inr (.inl hb))
    · rcases hk.own _ hb with hq | hq
      · exact .inl (.inr (.inr hq))
      · exact .inr hq
/-- What any step of the row itself leaves. -/
theorem RwP.row {rows' : List En} (h : RwP w B bp bl pv rows ts vo Sp W) (ho : OwnE W' B 62 vo rows') (hg : W.grownBy W' vo.ownBlock) : RwP w B bp bl pv rows' ts vo Sp W' := by
  have hbp := own_oneE h.out h.bxp
  have hbl := own_oneE h.out h.bxl
  exact ⟨h.bxp.keep (hg.block _ h.bxp.lt (fun e => hbp e.symm)), h.bxl.keep (hg.block _ h.bxl.lt (fun e => hbl e.symm)), ho, h.pool.keep hg.size (fun b hS => hg.block b (h.pool.lt b hS) (fun e => h.no b e.symm hS)), h.np, h.nl, h.no, h.npl, h.bas, h.bll, h.bel.grown hg h.size (fun k hk => (h.out.lt k hk).1)⟩
theorem grown_keepsS {S : Nat → Prop} {X Y : World} {r : Option Nat} (h : X.grownBy Y r) (hr : ∀ k, r = some k → S k) : KeepsS S S X Y :=
  ⟨h.size, fun b o hb ho => (h.block b (hlt_of ho) (fun e => hb (hr b e.symm))).trans ho, fun _ h => .inl h⟩
/-- The last entry's Run, one greater. -/
theorem RwP.run {r : List En} {a : En} {g cap : Nat} (h : RwP w B bp bl pv (r ++ [a]) ts (.slice (some ⟨g, 0, none⟩) (r.length + 1) cap) Sp W) (x : Int) :
    RwP w B bp bl pv (r ++ [{ a with rn := x }]) ts (.slice (some ⟨g, 0, none⟩) (r.length + 1) cap) Sp (W.setCell ⟨g, r.length * 4 + 3, none⟩ (.int .u32 x)) ∧ KeepsS (blkR bl (.slice (some ⟨g, 0, none⟩) (r.length + 1) cap) Sp) (blkR bl (.slice (some ⟨g, 0, none⟩) (r.length + 1) cap) Sp) W (W.setCell ⟨g, r.length * 4 + 3, none⟩ (.int .u32 x)) := by
  obtain ⟨h1, h2⟩ := own_run h.out x
  exact ⟨h.row h1 h2, grown_keepsS h2 (fun k e => .inr (.inl e))⟩
/-- One entry more, and the box set. -/
theorem RwP.app {rows' : List En} {v' : Value} (h : RwP w B bp bl pv rows ts vo Sp W) (ho : OwnE W' B 62 v' rows') (hg : W.grownBy W' vo.ownBlock) (hl : v'.ownBlock = vo.ownBlock ∨ ∃ g, v'.ownBlock = some g ∧ W.heap.size ≤ g) :
    RwP w B bp bl pv rows' ts v' Sp (W'.setCell ⟨bl, 0, none⟩ v') ∧ KeepsS (blkR bl vo Sp) (blkR bl v' Sp) W (W'.setCell ⟨bl, 0, none⟩ v') := by
  have hbp := own_oneE h.out h.bxp
  have hbl := own_oneE h.out h.bxl
  have hp1 := h.bxp.keep (w' := W') (hg.block _ h.bxp.lt (fun e => hbp e.symm))
  have hl1 := h.bxl.keep (w' := W') (hg.block _ h.bxl.lt (fun e => hbl e.symm))
  have hbl' := own_oneE ho hl1
  have hset : ∀ b, b ≠ bl → (W'.setCell ⟨bl, 0, none⟩ v').heap[b]? = W'.heap[b]? := fun b hb => Below.heap_setCell _ _ _ _ (by simpa using hb)
  have hsz : (W'.setCell ⟨bl, 0, none⟩ v').heap.size = W'.heap.size := by simp
  refine ⟨⟨hp1.set_other h.npl v', hl1.set v', ho.keep (fun k hk => hset k (fun e => hbl' (by rw [hk, e]))), h.pool.keep (by rw [hsz]; exact hg.size) (fun b hS => (hset b (fun e => h.nl (e ▸ hS))).trans (hg.block b (h.pool.lt b hS) (fun e => h.no b e.symm hS))), h.np, h.nl, fun b hv hS => ?_, h.npl, h.bas, h.bll, (h.bel.grown hg h.size (fun k hk => (h.out.lt k hk).1)).setCell (p := ⟨bl, 0, none⟩) h.bll v'⟩, ⟨by rw [hsz]; exact hg.size, fun b o hb hq => ?_, fun b hb => ?_⟩⟩
  · rcases hl with hl | ⟨g, hl, hge⟩
    · exact h.no b (by rw [← hl]; exact hv) hS
    · rw [hv] at hl
      cases hl
      have := h.pool.lt b hS
      omega
  · exact (hset b (fun e => hb (.inl e))).trans ((hg.block b (hlt_of hq) (fun e => hb (.inr (.inl e.symm)))).trans hq)
  · rcases hb with rfl | hb | hb
    · exact .inl (.inl rfl)
    · rcases hl with hl | ⟨g, hl, hge⟩
      · exact .inl (.inr (.inl (by rw [← hl]; exact hb)))
      · rw [hb] at hl
        cases hl
        exact .inr hge
    · exact .inl (.inr (.inr hb))
/-- A range's own record is rewritten elsewhere. -/
theorem RwP.grown {row : Option Nat} (h : RwP w B bp bl pv rows ts vo Sp W) (hg : W.grownBy W' row) (hrow : ∀ r, row = some r → B ≤ r ∧ ∃ o : Obj, W.heap[r]? = some o ∧ isRec o = true) : RwP w B bp bl pv rows ts vo Sp W' := by
  have hne : ∀ b o, W.heap[b]? = some o → isRec o = false → row ≠ some b := fun b o ho hn e => by
    obtain ⟨_, o', ho', hy⟩ := hrow b e
    rw [ho] at ho'
    cases ho'
    rw [hn] at hy
    cases hy
  refine h.keep hg.size (fun b hb => ?_) (h.bel.grown hg h.size (fun r e => (hrow r e).1))
  rcases hb with rfl | rfl | hb | hb
  · obtain ⟨T, hh⟩ := h.bxp
    exact hg.block _ (hlt_of hh) (fun e => hne _ _ hh rfl e.symm)
  · obtain ⟨T, hh⟩ := h.bxl
    exact hg.block _ (hlt_of hh) (fun e => hne _ _ hh rfl e.symm)
  · obtain ⟨_, _, _, hh⟩ := h.out.cells hb
    exact hg.block _ (hlt_of hh) (fun e => hne _ _ hh rfl e.symm)
  · have hlt := h.pool.lt b hb
    have ho := Array.getElem?_eq_getElem hlt
    exact hg.block _ hlt (fun e => hne _ _ ho (pool_norec h.pool hb ho) e.symm)
end
/-- What holds when k tiles are come. -/
def RwI (w : World) (B bp bl : Nat) (pv : Value) (L : List It) (k : Nat) (S : Nat → Prop) (W : World) : Prop :=
  ∃ vo Sp, RwP w B bp bl pv (rowsS (L.take k)).1 (rowsS (L.take k)).2 vo Sp W ∧ ∀ b, S b ↔ blkR bl vo Sp b
theorem rwi_bears (w : World) (B bp bl : Nat) (pv : Value) (L : List It) (B' : Nat) (hB : B ≤ B') : Bears2 (fun _ => False) B' (RwI w B bp bl pv L) := by
  rintro ⟨k, S⟩ X Y row ⟨vo, Sp, h, hS⟩ hg hr
  refine ⟨vo, Sp, h.grown hg (fun r e => ?_), hS⟩
  rcases hr r e with h | h
  · exact h.elim
  · exact ⟨Nat.le_trans hB h.1, h.2⟩
theorem RwI.lt {w : World} {B bp bl : Nat} {pv : Value} {L : List It} {k : Nat} {S : Nat → Prop} {W : World} (h : RwI w B bp bl pv L k S W) : ∀ b, S b → b < W.heap.size := by
  obtain ⟨vo, Sp, h, hS⟩ := h
  exact fun b hb => h.lt b ((hS b).1 hb)
theorem info_pent2 : (Try.prog.info? 62).map (fun i => (i.zero, i.size, i.bytes)) = some (some (.agg #[.int .u64 0, .int .u64 0, .int .u32 0, .int .u32 0]), 4, 24) := by kernel_rfl
/-- An append of one entry to the program's row, told with where the row lies. -/
theorem peappend_run (W : World) (ty : TypeId) (B : Nat) (v : Value) (L : List En) (e : En) (b c : Nat) (hown : OwnE W B 62 v L) (he : EAt W b e) (hl : L.length ≤ 1000000) (hB : B ≤ W.heap.size) :
    ∃ v' w', (Builtin.append_ #[30, 30] ty #[v, .slice (some ⟨b, 0, none⟩) 1 c]).run Try.prog W = .ok v' w' ∧ OwnE w' B 62 v' (L ++ [e]) ∧ W.grownBy w' v.ownBlock ∧ (v'.ownBlock = v.ownBlock ∨ ∃ g, v'.ownBlock = some g ∧ W.heap.size ≤ g) := by
  obtain ⟨v', w', hr, h2, h3, h4⟩ := rappend_run 4 24 W B 30 62 ty _ Try.underlying30 info_pent2 rfl (by omega) (by omega) v L.length (flat4 L) hown ⟨b, 0, none⟩ 1 c (flat4 [e]) rfl (by
    intro j u hu
    match j, hu with
    | 0, hu => simp only [flat4_one1, cE, List.getElem?_cons_zero, Option.some.injEq] at hu; rw [← hu]; exact he.1
    | 1, hu => simp only [flat4_one1, cE, List.getElem?_cons_succ, List.getElem?_cons_zero, Option.some.injEq] at hu; rw [← hu]; exact he.2.1
    | 2, hu => simp only [flat4_one1, cE, List.getElem?_cons_succ, List.getElem?_cons_zero, Option.some.injEq] at hu; rw [← hu]; exact he.2.2.1
    | 3, hu => simp only [flat4_one1, cE, List.getElem?_cons_succ, List.getElem?_cons_zero, Option.some.injEq] at hu; rw [← hu]; exact he.2.2.2
    | j + 4, hu => simp [flat4_one1, cE] at hu) (flat4_cells [e]) (by omega) (by omega) hB
  exact ⟨v', w', hr, owne_conv h2 (by simp) (by rw [flat4_append]), h3, h4⟩
end Go.Proofs.Ytleicghfcffblaa
/- merge's Rows. -/
namespace Go.Proofs.Ytleicghfcffblaa
open Go.RowKit Go.Shelf
set_option maxRecDepth 20000
set_option linter.unusedVariables false
set_option linter.unusedSimpArgs false
/-- An append in a round, its run known. -/
theorem app_in13 {F : Fence} {n : Nat} {P : Program} (w : World) {ops : Array Oper} {rest : List Oper} {o : Oper} {a : Act} {Q : Exit → Act → World → Prop} (hg : o.guard = none) (s x : Operand) (t : TypeId)
    (hop : o.op = Op.call { callee := Callee.builtin Builtin.append, args := #[s, x], argTypes := #[t, t] }) (v : Value) (ad : Addr) (m c : Nat) (hs : a.eval s = v) (hx : a.eval x = .slice (some ad) m c) (v' : Value) (w' : World)
    (hrun : (Builtin.append_ #[t, t] o.type #[v, .slice (some ad) m c]).run P w = .ok v' w') (hK : wpListIn F n P ops Q rest (a.put o.dst v') w') : wpListIn F n P ops Q (o :: rest) a w := by
  refine wpListIn_plain hg fun K hK' => ⟨?_, ?_⟩
  · simp [Oper.about, hop, resolve, Target.leads, Sem.run_pure]
  · rw [Oper.semAt_plain F _ _ (by rw [hop]; intro c hc'; cases hc')]
    simp [execOp, hop, resolve, invoke, builtin, hs, hx, hrun, Result.andThen]
    exact hK' _ _ hK
attribute [local go_sem] Oper.semAt_some
/-- What must be achieved where a piece of code goes on as usual, and in no other way. -/
def normOnly (Q : Exit → Act → World → Prop) : Exit → Act → World → Prop
  | .normal, a, w => Q .normal a w
  | _, _, _ => False
theorem normOnly_to {Q : Exit → Act → World → Prop} : ∀ (e : Exit) (a : Act) (w : World), normOnly Q e a w → Q e a w
  | .normal, _, _, h => h
theorem normOnly_region {P : Program} {ops : Array Oper} {Q : Exit → Act → World → Prop} {S : World → Prop} {id : Nat} {a : Act} {w : World} (hm : P.follows .mixedOrders = true) (hS : S w.drew)
    (h : S w.drew → wpAnyH P .any ops (normOnly Q) S ops.size (Array.replicate ops.size false) a w.drew) : (Code.region id ops true).wp P (normOnly Q) a w := wp_region_held_drew hm hS h
theorem keepsS_cast {S S' T T' : Nat → Prop} {X Y : World} (h : KeepsS S S' X Y) (hS : ∀ b, T b ↔ S b) (hS' : ∀ b, T' b ↔ S' b) : KeepsS T T' X Y :=
  ⟨h.size, fun b o hb => h.same b o (fun hs => hb ((hS b).2 hs)), fun b hb => (h.own b ((hS' b).1 hb)).imp (hS b).2 id⟩
set_option maxRecDepth 100000 in
set_option maxHeartbeats 8000000 in
theorem rows13_any (s : Value) (L : List It) (w : World) (h : ChS w s L) :
    Calls Try.prog 10 #[.agg #[s]] w fun e w' => ∃ v', e = .returned (.tuple #[v', .string (catF (rowsS L).2)]) ∧ EnsAt w' v' (rowsS L).1 ∧ Below w.heap.size w w' := by
  have HG := Lib.hid h.good
  have HCH := Lib.hid h
  have HVC : Hid (∀ b a n c, L ≠ [] → s = .slice (some a) n c → b = a.block → b < w.heap.size) := Lib.hid (fun b a n c hl e hb => by
    obtain ⟨a', cap, e', _, _, hc⟩ := h.its
    rw [e] at e'
    cases e'
    obtain ⟨t0, ht0⟩ : ∃ t, L[0]? = some t := ⟨_, List.getElem?_eq_getElem (by cases L with | nil => exact absurd rfl hl | cons _ _ => simp)⟩
    obtain ⟨g, off, ha, hg, _⟩ := hc 0 t0 ht0
    cases ha
    rw [hb]
    exact hg)
  obtain ⟨a7, n7, p7, rfl⟩ := h.form
  clear h
  refine (callsIn_wide (n := 10)).1 ?_
  refine callsIn_of_wp_marks Try.func10 rfl trivial ?_ rfl
  simp only [Try.ntmps10, List.size_toArray, List.length_cons, List.length_nil, Nat.reduceAdd, Nat.reduceSub, Array.replicate_succ, Array.replicate_zero, List.push_toArray, List.append_toArray, List.nil_append, List.cons_append]
  have HB0 : Hid (Below w.heap.size w (w.alloc (.cells #[.slice a7 n7 p7] 27))) := Lib.hid (below_oneC _ _)
  have HC0 := Lib.hid (one_new w (.slice a7 n7 p7) 27)
  have HNW := Lib.hid (new_any (w.alloc (.cells #[.slice a7 n7 p7] 27)))
  gi_wp2
  generalize hW0 : w.alloc (.cells #[.slice a7 n7 p7] 27) = W0 at *
  refine ⟨trivial, (callsIn_wide.2 HNW.out).mono ?_⟩
  rintro y w1 ⟨pv, Sp, rfl, hpool, hbas, hb1⟩
  obtain ⟨pa, rfl⟩ := hpool.ptr
  have HBW1 := Lib.hid (HB0.out.trans (hb1.mono HB0.out.size))
  have HC1 := Lib.hid (HC0.out.below hb1)
  have HP1 := Lib.hid hpool
  have HPL := Lib.hid (fun b (hb : Sp b) => hpool.lt b hb)
  have HBS := Lib.hid (fun b (hb : Sp b) => Nat.le_trans HB0.out.size (hbas b hb))
  have HEA := Lib.hid (fun X (hX : Below w.heap.size w X) => each13_any (.slice a7 n7 p7) L X (HCH.out.below hX))
  have cc := HC1.out.cell
  have hlc : w.heap.size < w1.heap.size := HC1.out.lt
  clear hpool hbas hb1 hW0 HB0 HC0 HNW
  gi_wp2
  obtain ⟨W2, hW2⟩ : ∃ W2, (w1.alloc (.cells #[.pointer (some pa)] 71)).alloc (.cells #[.slice none 0 0] 30) = W2 := ⟨_, rfl⟩
  have hz2 : w1.heap.size + 2 ≤ W2.heap.size := by rw [← hW2]; simp
  have hb12 : Below w1.heap.size w1 W2 := by rw [← hW2]; go_grown
  have HBp : One W2 w1.heap.size (.pointer (some pa)) := by rw [← hW2]; exact (one_new w1 _ _).alloc _
  have HBl : One W2 (w1.heap.size + 1) (.slice none 0 0) := by
    have h := one_new (w1.alloc (.cells #[.pointer (some pa)] 71)) (.slice none 0 0) 30
    rw [World.size_alloc] at h
    rw [← hW2]
    exact h
  try rw [hW2]
  have hbw2 : Below w.heap.size w W2 := HBW1.out.trans (hb12.mono HBW1.out.size)
  have HR2 : Hid (RwP w w.heap.size w1.heap.size (w1.heap.size + 1) (.pointer (some pa)) [] [] (.slice none 0 0) Sp W2) := Lib.hid
    ⟨HBp, HBl, ownE_nil _ _ _, HP1.out.belowG hb12, fun h => by have := HP1.out.lt _ h; omega, fun h => by have := HP1.out.lt _ h; omega, (fun b h => by cases h), by omega, HBS.out, by omega, hbw2⟩
  refine ⟨trivial, (callsIn_wide.2 (HEA.out _ hbw2)).mono ?_⟩
  rintro y w3 ⟨rfl, hcell, hb3⟩
  have hR3 := HR2.out.later hb3
  have HITS := Lib.hid ((HCH.out.below (hbw2.trans (hb3.mono hbw2.size))).its)
  have hz3 := hb3.size
  have hVV : ∀ b, VC W2.heap.size (.slice a7 n7 p7) L b → b < w3.heap.size ∧ (b = W2.heap.size ∨ b < w.heap.size) := fun b hb => by
    rcases hb with rfl | ⟨hl, a, n, c, e, hb⟩
    · exact ⟨vcell_lt hcell, .inl rfl⟩
    · have := HVC.out b a n c hl e hb
      exact ⟨by omega, .inr this⟩
  have HCE := Lib.hid hcell
  have HR3 := Lib.hid hR3
  have HVV := Lib.hid hVV
  clear hcell hR3 hVV hW2 HBp HBl hb12 HR2 HP1 HC1 HEA cc
  gi_wp2
  refine range_d2 (n := 10) (val := fun k => .int .u64 (idC L k)) (va2 := fun k => .string (txC L k)) (r := 6) (s := 7) rfl (enters_of Try.func58 (by kernel_rfl) rfl) (peach1_seq (.slice a7 n7 p7) L W2.heap.size w3 HITS.out HCE.out).toY (Below.refl _ _) (fun _ h => h.elim) (fun b hb => (HVV.out b hb).1)
    (RwI w w.heap.size w1.heap.size (w1.heap.size + 1) (.pointer (some pa)) L) (fun _ _ _ => False) ?hI (fun _ _ _ _ _ h _ _ => h) (fun k S W h => ⟨trivial, h.lt⟩) (blkR (w1.heap.size + 1) (.slice none 0 0) Sp) ?hS0 ?h0 (fun _ _ _ _ _ _ _ _ => trivial) (fun _ _ _ _ _ _ _ _ _ => trivial) ?assign ?body ?done (fun _ _ _ _ _ _ h _ => h.elim)
  case hI => exact rwi_bears w w.heap.size w1.heap.size (w1.heap.size + 1) (.pointer (some pa)) L w3.heap.size HR3.out.size
  case hS0 =>
    intro b hb
    refine ⟨HR3.out.lt b hb, fun hv => ?_⟩
    have h1 := HR3.out.low b hb
    rcases (HVV.out b hv).2 with rfl | h2
    · rcases hb with hb | hb | hb
      · omega
      · cases hb
      · have := HPL.out _ hb; omega
    · omega
  case h0 => exact ⟨_, _, HR3.out, fun b => Iff.rfl⟩
  case assign =>
    intro lq k W' K hK
    simp only [List.setIfInBounds_toArray, List.set_cons_zero, List.set_cons_succ] at hK ⊢
    gi_wp2
    exact hK
  case body =>
    rintro lq k S W hlq ⟨vo, Sq, hR, hS⟩ - hk
    obtain ⟨⟨x, t⟩, htk⟩ : ∃ t, L[k]? = some t := ⟨_, List.getElem?_eq_getElem hk⟩
    have hidk : idC L k = (x : Int) := by unfold idC; rw [List.getD_eq_getElem?_getD, htk]; rfl
    have htxk : txC L k = t := by unfold txC; rw [List.getD_eq_getElem?_getD, htk]; rfl
    have hm := List.mem_of_getElem? htk
    have hri := rinv_take HG.out k (Nat.le_of_lt hk)
    have hNX : (rowsS (L.take (k + 1))).1 = addE (rowsS (L.take k)).1 ⟨x, offA (rowsS (L.take k)).2 t, lenA (rowsS (L.take k)).2 t, 1⟩ := by rw [rowsS_step L k _ htk]; rfl
    have hNT : (rowsS (L.take (k + 1))).2 = newL (rowsS (L.take k)).2 t := by rw [rowsS_step L k _ htk]; rfl
    have hlen := hri.len
    have hgad := hri.good.add t
    have hok := hri.ok
    have hfw := hri.few
    have hex := congrArg List.length hri.exp
    have hfew := HG.out.few
    have hS' : S = blkR (w1.heap.size + 1) vo Sq := funext fun b => propext (hS b)
    subst hS'
    clear hS
    generalize hrows : (rowsS (L.take k)).1 = rows at *
    generalize hts : (rowsS (L.take k)).2 = ts at *
    rw [List.length_take] at hlen hfw
    have hpl := new_place (ts := ts) (s := t) (HG.out.pos _ hm) (HG.out.short _ hm) (by omega)
    have hfl := findF_le _ _ _ _ hpl.2
    have htt : totF (newL ts t) ≤ 134217728 := hgad.tot
    have hts2 : t.size ≤ 65536 := HG.out.short _ hm
    have hxl := HG.out.low _ hm
    have hrn : ∀ e ∈ rows, e.rn ≤ 2048 := fun e he => by have := run_le (d := catF ts) he; rw [List.length_take] at hex; omega
    have hmr : MaysN rows := fun e he => (hok e he).may
    dsimp only at hxl
    rw [hpl.1] at hNX
    obtain ⟨e1, he1⟩ : ∃ e1 : En, e1 = ⟨x, offA ts t, t.size, 1⟩ := ⟨_, rfl⟩
    rw [← he1] at hNX
    have HNX := Lib.hid hNX
    have HNT := Lib.hid hNT
    clear hNX hNT
    have hme1 : MayN e1 := by rw [he1]; unfold MayN; simp only; omega
    have HAD := Lib.hid (addR_any (.pointer (some pa)) ts Sq t W hR.pool (by unfold maxLen; omega))
    have hAR : AddR ts t = .tuple #[.agg #[.int .u64 (offA ts t : Nat), .int .u32 (t.size : Nat)], .bool (isNew ts t), .int .i64 (eV ts t : Nat)] := by unfold AddR; rw [hpl.1]
    rw [hAR] at HAD
    obtain ⟨lo, hlo⟩ : ∃ lo, lastOne rows e1 = lo := ⟨_, rfl⟩
    have hAH := fun X (h : EnsAt X vo rows) => ahead_any vo rows e1 X h hmr hme1
    rw [hlo] at hAH
    rw [he1] at hAH
    unfold eC at hAH
    have HAH := Lib.hid hAH
    have HE1 := Lib.hid he1
    have HLO := Lib.hid hlo
    have HME := Lib.hid hmr
    clear hAH hlo
    obtain ⟨av, cv, hvo⟩ : ∃ a c, vo = .slice a rows.length c := by
      obtain ⟨a, c, h, _⟩ := hR.out.ensAt
      exact ⟨a, c, h⟩
    subst hvo
    have HR := Lib.hid hR
    have HOK := Lib.hid hok
    have HRN := Lib.hid hrn
    have c1 := hR.bxp.cell
    have hlb := hR.bxl.lt
    have hlp := hR.bxp.lt
    rw [hidk, htxk]
    clear hidk htxk hR hok hrn hm hri hlen hgad hex hrows hts hfl htt he1 hAR htk hmr hpl
    generalize offA ts t = oA at *
    generalize isNew ts t = bN at *
    generalize eV ts t = eN at *
    simp only [List.setIfInBounds_toArray, List.set_cons_zero, List.set_cons_succ]
    gi_wp2
    refine ⟨trivial, (CallsIn.inRound lq (callsIn_wide.2 HAD.out)).mono ?_⟩
    rintro y w4 ⟨rfl, Sr, hp4, hk4⟩
    have hr4 := HR.out.add hp4 hk4
    have HR4 := Lib.hid hr4.1
    have HK4 := Lib.hid hr4.2
    have c4 := hr4.1.bxl.cell
    have c4a : ∀ O, (w4.alloc O).cell? ⟨w1.heap.size + 1, 0, none⟩ = _ := fun O => (hr4.1.bxl.alloc O).cell
    have c4b : ∀ O O', ((w4.alloc O).alloc O').cell? ⟨w1.heap.size + 1, 0, none⟩ = _ := fun O O' => ((hr4.1.bxl.alloc O).alloc O').cell
    clear hp4 hk4 hr4 c1 hlb hlp HAD HR
    gi_wp2
    have HE5 := Lib.hid (EAt.made (w4.alloc (.cells #[.int .u64 (oA : Nat), .int .u32 (t.size : Nat)] 77)) e1 62)
    have hb45 : Below w4.heap.size w4 ((w4.alloc (.cells #[.int .u64 (oA : Nat), .int .u32 (t.size : Nat)] 77)).alloc (.cells #[.int .u64 (x : Nat), .int .u64 (oA : Nat), .int .u32 (t.size : Nat), .int .u32 1] 62)) := by go_grown
    rw [HE1.out] at HE5
    unfold eC at HE5
    dsimp only at HE5
    rw [World.size_alloc] at HE5
    have HB45 := Lib.hid hb45
    clear c4 c4a c4b hb45
    generalize hW5 : (w4.alloc (.cells #[.int .u64 (oA : Nat), .int .u32 (t.size : Nat)] 77)).alloc (.cells #[.int .u64 (x : Nat), .int .u64 (oA : Nat), .int .u32 (t.size : Nat), .int .u32 1] 62) = W5 at *
    refine ⟨trivial, (CallsIn.inRound lq (callsIn_wide.2 (HAH.out _ (HR4.out.later HB45.out).out.ensAt))).mono ?_⟩
    rintro y w6 ⟨rfl, hb6⟩
    have hb46 := HB45.out.trans (hb6.mono HB45.out.size)
    have HR6 := Lib.hid (HR4.out.later hb46)
    have HK6 := Lib.hid (HK4.out.trans (KeepsS.below _ hb46))
    have he6 := HE5.out.later hb6
    obtain ⟨k0, k1, k2, k3⟩ := he6
    dsimp only at k0 k1 k2 k3
    clear hb6 hb46 hW5 HR4 HK4 HB45 HAH HE5
    cases lo with
    | true =>
      obtain ⟨r, a, rfl, hadd⟩ := addE_yes HLO.out
      have hlt : (r ++ [a]).length = r.length + 1 := by simp
      rw [hlt] at hfw HR6 HK6 ⊢
      have hra := HRN.out a (by simp)
      have hma := (HOK.out a (by simp)).may
      unfold MayN at hma
      obtain ⟨go, hu, hcn, hfz⟩ : ∃ go, av = some ⟨go, 0, none⟩ ∧ w6.cell? ⟨go, r.length * 4 + 3, none⟩ = some (.int .u32 a.rn) ∧ w6.frozen? ⟨go, r.length * 4 + 3, none⟩ = false := by
        rcases HR6.out.out.form with ⟨_, h⟩ | ⟨go, c, h, _, _, _, _, _, hf⟩
        · simp at h
        · have hav : av = some ⟨go, 0, none⟩ := by injection h
          refine ⟨go, hav, ?_, hf _⟩
          obtain ⟨a', c', e, _, _, hcc⟩ := HR6.out.out.ensAt
          have ha' : a' = some ⟨go, 0, none⟩ := by
            injection e with e' _ _
            rw [← e', hav]
          obtain ⟨g', o', e2, _, hq⟩ := hcc r.length a (by simp)
          rw [ha'] at e2
          cases e2
          simpa using hq.2.2.2
      subst hu
      have hrun := HR6.out.run (a.rn + 1)
      have HN : Hid (RwI w w.heap.size w1.heap.size (w1.heap.size + 1) (.pointer (some pa)) L (k + 1) (blkR (w1.heap.size + 1) (.slice (some ⟨go, 0, none⟩) (r.length + 1) cv) Sr) (w6.setCell ⟨go, r.length * 4 + 3, none⟩ (.int .u32 (a.rn + 1))) ∧ KeepsS (blkR (w1.heap.size + 1) (.slice (some ⟨go, 0, none⟩) (r.length + 1) cv) Sq) (blkR (w1.heap.size + 1) (.slice (some ⟨go, 0, none⟩) (r.length + 1) cv) Sr) W (w6.setCell ⟨go, r.length * 4 + 3, none⟩ (.int .u32 (a.rn + 1)))) := Lib.hid
        ⟨⟨_, _, by rw [HNX.out, HNT.out, hadd]; exact hrun.1, fun b => Iff.rfl⟩, HK6.out.trans hrun.2⟩
      have c6 := HR6.out.bxl.cell
      have hrl : r.length ≤ 2048 := by omega
      have hi1 : IntKind.i64.wrap ((r.length : Int) + 1 - 1) = (r.length : Int) := by rw [IntKind.wrap_i64]; omega
      have hi2 : IntKind.i64.wrap (r.length : Int) = (r.length : Int) := by rw [IntKind.wrap_i64]; omega
      have hi3 : (r.length : Int) < (r.length : Int) + 1 := by omega
      have hi4 : IntKind.u32.wrap (a.rn + 1) = a.rn + 1 := by rw [IntKind.wrap_u32]; omega
      clear hrun hadd hlt HR6 HK6 hma hra HRN HOK HLO HNX HNT HME
      generalize r.length = rl at *
      gi_wp2
      exact ⟨_, HN.out⟩
    | false =>
      have hadd := addE_no HLO.out
      have hba : Below w6.heap.size w6 (w6.alloc (.cells (eC e1) 62)) := below_oneC _ _
      have hr7 := HR6.out.later hba
      have hea := EAt.made w6 e1 62
      obtain ⟨v8, w8, hr8, ho8, hg8, hl8⟩ := peappend_run (w6.alloc (.cells (eC e1) 62)) 30 w.heap.size (.slice av rows.length cv) rows e1 w6.heap.size 1 hr7.out hea (by omega) hr7.size
      have hb8 : One w8 (w1.heap.size + 1) (.slice av rows.length cv) := hr7.bxl.keep (hg8.block _ hr7.bxl.lt (fun e => own_oneE hr7.out hr7.bxl e.symm))
      have happ := hr7.app ho8 hg8 hl8
      have HN : Hid (RwI w w.heap.size w1.heap.size (w1.heap.size + 1) (.pointer (some pa)) L (k + 1) (blkR (w1.heap.size + 1) v8 Sr) (w8.setCell ⟨w1.heap.size + 1, 0, none⟩ v8) ∧ KeepsS (blkR (w1.heap.size + 1) (.slice av rows.length cv) Sq) (blkR (w1.heap.size + 1) v8 Sr) W (w8.setCell ⟨w1.heap.size + 1, 0, none⟩ v8)) := Lib.hid
        ⟨⟨_, _, by rw [HNX.out, HNT.out, hadd]; exact happ.1, fun b => Iff.rfl⟩, (HK6.out.trans (KeepsS.below _ hba)).trans happ.2⟩
      obtain ⟨a8, n8, p8, rfl⟩ : ∃ a n c, v8 = .slice a n c := by
        obtain ⟨a, c, h, _⟩ := ho8.ensAt
        exact ⟨a, _, c, h⟩
      have c6 := HR6.out.bxl.cell
      have c8 := hb8.cell
      have f8 := hb8.frz
      rw [HE1.out] at hr8
      unfold eC at hr8
      dsimp only at hr8
      clear happ hb8 ho8 hg8 hl8 hea hr7 hba hadd HR6 HK6 HRN HOK HLO HNX HNT HME
      gi_wp2_with (first | (gi_at_builtin; refine app_in13 _ rfl _ _ _ rfl _ _ _ _ rfl rfl _ _ hr8 ?_) | fail)
      exact ⟨_, HN.out⟩
  case done =>
    rintro D S W hD hSD ⟨vo, Sq, hR, hS⟩ - hDW
    rw [List.take_length] at hR
    obtain ⟨av, cv, hvo⟩ : ∃ a c, vo = .slice a (rowsS L).1.length c := by
      obtain ⟨a, c, h, _⟩ := hR.out.ensAt
      exact ⟨a, c, h⟩
    subst hvo
    have HR := Lib.hid hR
    have HTX := Lib.hid (fun X (hX : Below W.heap.size W X) => text_any (.pointer (some pa)) (rowsS L).2 Sq X (hR.pool.belowG hX))
    have HCC : Hid (∀ w', Below W.heap.size W w' → (w'.cell? ⟨w1.heap.size + 1, 0, none⟩ = some (.slice av (rowsS L).1.length cv) ∧ w'.cell? ⟨w1.heap.size, 0, none⟩ = some (.pointer (some pa))) ∧ Below W.heap.size W w') := Lib.hid (fun X hX => ⟨⟨(hR.bxl.below hX).cell, (hR.bxp.below hX).cell⟩, hX⟩)
    have HD := Lib.hid hDW
    have HDL := Lib.hid hD
    clear hR hDW hS hD
    gi_wp2
    refine wpIn_wide.2 (wp_mono (normOnly_region (S := fun w' => (w'.cell? ⟨w1.heap.size + 1, 0, none⟩ = some (.slice av (rowsS L).1.length cv) ∧ w'.cell? ⟨w1.heap.size, 0, none⟩ = some (.pointer (some pa))) ∧ Below W.heap.size W w') (by kernel_rfl) (HCC.out _ (Below.drew (Below.refl _ _))) (fun hH0 => ?_)) normOnly_to)
    refine takeH (i := 0) (d := 47) (v := ?_) rfl rfl (by kernel_rfl) (by kernel_rfl) (by kernel_rfl) (fun _ _ _ h => h) (Or.inl ⟨by rfl, ?y0⟩) hH0 ?_
    case y0 => intro w hSw; go_simp; try with_reducible rfl
    try simp only [Act.put, List.setIfInBounds_toArray, List.set_cons_zero, List.set_cons_succ]
    refine takeH (i := 1) (d := 48) (v := ?_) rfl rfl (by kernel_rfl) (by kernel_rfl) (by kernel_rfl) (fun _ _ _ h => h) (Or.inl ⟨by rfl, ?y1⟩) hH0 ?_
    case y1 => intro w hSw; go_simp; try with_reducible rfl
    try simp only [Act.put, List.setIfInBounds_toArray, List.set_cons_zero, List.set_cons_succ]
    refine wpAnyH_ready (rs := [2]) (by kernel_rfl) (by simp) ?_
    refine AllReadyH.cons rfl (fun K hK => ?_) AllReadyH.nil
    go_simp
    refine (HTX.out _ hH0.2).mono ?_
    rintro e w' ⟨rfl, hb⟩
    go_wp2_with fail
    refine hK.out _ _ (HCC.out _ (hH0.2.trans (hb.mono hH0.2.size))) (fun hH1 => ?_)
    clear hK K hb hH0
    try simp only [Act.put, List.setIfInBounds_toArray, List.set_cons_zero, List.set_cons_succ]
    refine takeH (i := 3) (d := 2) (v := ?_) rfl rfl (by kernel_rfl) (by kernel_rfl) (by kernel_rfl) (fun _ _ _ h => h) (Or.inl ⟨by rfl, ?y3⟩) hH1 ?_
    case y3 => intro w hSw; go_simp; try with_reducible rfl
    try simp only [Act.put, List.setIfInBounds_toArray, List.set_cons_zero, List.set_cons_succ]
    refine takeH (i := 4) (d := 3) (v := ?_) rfl rfl (by kernel_rfl) (by kernel_rfl) (by kernel_rfl) (fun _ _ _ h => h) (Or.inl ⟨by rfl, ?y4⟩) hH1 ?_
    case y4 => intro w hSw; go_simp; try with_reducible rfl
    try simp only [Act.put, List.setIfInBounds_toArray, List.set_cons_zero, List.set_cons_succ]
    refine wpAnyH_done (by kernel_rfl) ?_ _
    dsimp only [normOnly]
    gi_wp2
    have hK9 := (hH1.2.block D (hlt_of HD.out)).trans HD.out
    have hR9 := (HR.out.later hH1.2).grown (grownBy_putObj' _ D (.deferred none)) (fun r e => by cases e; exact ⟨Nat.le_trans HR3.out.size HDL.out, _, hK9, rfl⟩)
    refine ⟨by simp, .inl ⟨_, _, rfl, run_takeDeferred hK9, ?_⟩⟩
    refine ⟨_, results_tmp2 rfl _ _ _, ?_⟩
    exact ⟨_, rfl, hR9.out.ensAt, hR9.bel⟩
end Go.Proofs.Ytleicghfcffblaa
