/- What Tiles hands, told ahead: the k-th identifier with its entry; a range over it, the entry in a box. -/
import Derived.Test.YthaembnfdkcheaaRn
import Derived.Test.YthaembnfdkcheaaMS
import Derived.Test.YthaembnfdkcheaaMP
import Derived.RangeFuncBox
namespace Go.Proofs.Ythaembnfdkcheaa
open Go.RowKit Go.Shelf
set_option linter.unusedVariables false
set_option linter.unusedSimpArgs false
def idT (xs : List (Int × En)) (k : Nat) : Int := (xs.getD k (0, zeroE)).1
def enT (xs : List (Int × En)) (k : Nat) : En := (xs.getD k (0, zeroE)).2
theorem til_mem (xs : List (Int × En)) (k : Nat) (h : k < xs.length) : (idT xs k, enT xs k) ∈ xs := by
  unfold idT enT
  rw [List.getD_eq_getElem?_getD, List.getElem?_eq_getElem h]
  exact List.getElem_mem h
theorem til_rise (xs : List (Int × En)) (h : xs.Pairwise fun a b => a.1 < b.1) (i j : Nat) (hij : i < j) (hj : j < xs.length) : idT xs i < idT xs j := by
  unfold idT
  rw [List.getD_eq_getElem?_getD, List.getD_eq_getElem?_getD, List.getElem?_eq_getElem hj, List.getElem?_eq_getElem (by omega)]
  exact List.pairwise_iff_getElem.1 h i j (by omega) hj hij
theorem tiles_may {l : List En} (hm : MaysN l) (p : Int × En) (hp : p ∈ tilesN l) : (0 ≤ p.1 ∧ p.1 ≤ 18446744073709551615) ∧ MayN p.2 := by
  by_cases h : rowN l = 0
  · obtain ⟨he, hh⟩ := (mem_tiles hm h p.1 p.2).1 hp
    obtain ⟨b1, b2, b3, b4⟩ := (has_iff _ _).1 hh
    have hme := hm _ he
    have hla := la_ge _ hme b1
    refine ⟨?_, hme⟩
    unfold MayN at hme
    omega
  · unfold tilesN at hp
    rw [if_neg h] at hp
    simp at hp
theorem fnT_nil (g : Nat) (lb : Array Value) (w : World) : (Op.equal 46 (.func (.func g) #[] lb) .nilFunc).run Try.prog w = .ok false w := by
  rw [Op.equal, show Op.maxDepth = 9999 + 1 from rfl]
  unfold Op.equalIn
  simp [go_sem]
theorem fnT_neq (g : Nat) (lb : Array Value) (w : World) : (binOp BinOp.neq 46 (.func (.func g) #[] lb) .nilFunc).run Try.prog w = .ok (.bool true) w := by
  simp [binOp, go_sem, fnT_nil]
theorem fnT_eql (g : Nat) (lb : Array Value) (w : World) : (binOp BinOp.eql 46 (.func (.func g) #[] lb) .nilFunc).run Try.prog w = .ok (.bool false) w := by
  simp [binOp, go_sem, fnT_nil]
/-- What Tiles hands. -/
def TilD (v : Value) (xs : List (Int × En)) (w : World) (y : Value) (w' : World) : Prop :=
  (∃ (g : Nat) (lb : Array Value) (V : Nat → Prop), y = .func (.func g) #[] lb ∧ (∀ args W, (callFunc g args).run Try.prog W = .ok (.enter g args) W) ∧ (∀ b, V b → b < w'.heap.size ∧ ((∃ a n c, v = .slice (some a) n c ∧ b = a.block) ∨ w.heap.size ≤ b)) ∧
    ∀ w2, Below w'.heap.size w' w2 → SeqD Try.prog g lb (fun k => #[.int .u64 (idT xs k), .agg (eC (enT xs k))]) xs.length (fun _ => False) V (fun _ _ => True) (fun _ => True) w2) ∧ Below w.heap.size w w'
theorem eat_bears {T : Nat → Prop} {B : Nat} (b : Nat) (e : En) (hT : ∀ r, T r → r ≠ b) : Bears T B (fun (_ : Unit) W => EAt W b e) := fun s X Y row hs hg hr => by
  obtain ⟨h0, h1, h2, h3⟩ := hs
  have hlt := ecell_lt h0
  have hh : Y.heap[b]? = X.heap[b]? := by
    refine hg.block b hlt (fun e' => ?_)
    rcases hr b e'.symm with h | ⟨_, o, ho, hc⟩
    · exact hT b h rfl
    · simp only [World.cell?, ho] at h0
      cases o <;> simp_all [Obj.isCells]
  have hc : ∀ o, Y.cell? ⟨b, o, none⟩ = X.cell? ⟨b, o, none⟩ := fun o => by simp [World.cell?, hh]
  exact ⟨(hc _).trans h0, (hc _).trans h1, (hc _).trans h2, (hc _).trans h3⟩
/-- Two loop variables, the second an entry in a box of its own. -/
theorem range_d2b {n : Nat} {P : Program} {w : World} {a : Act} {Q : Exit → Act → World → Prop} {g : Operand} {assign body : Code}
    {gf : Nat} {lb : Array Value} (hg : a.eval g = .func (.func gf) #[] lb) (eg : ∀ args w, (callFunc gf args).run P w = .ok (.enter gf args) w)
    {val : Nat → Value} {ent : Nat → En} {p q r s : Nat} {E : TypeId} {N : Nat} {V : Nat → Prop} {w0 : World} (hseq : SeqD P gf lb (fun k => #[val k, .agg (eC (ent k))]) N (fun _ => False) V (fun _ _ => True) (fun _ => True) w0) (hb0 : Below w0.heap.size w0 w)
    (hV : ∀ r, V r → r < w.heap.size)
    (I : Nat → (Nat → Prop) → World → Prop) (Ix : Code → Nat → World → Prop) (hI : Bears2 (fun _ => False) w.heap.size I) (hIx : ∀ c, Bears (fun _ => False) w.heap.size (Ix c)) (hG : ∀ k S W, I k S W → w.heap.size ≤ W.heap.size ∧ ∀ b, S b → b < W.heap.size)
    (S0 : Nat → Prop) (hS0 : ∀ b, S0 b → b < w.heap.size ∧ ¬ V b) (h0 : I 0 S0 w)
    (hassign : ∀ (l k : Nat) (W : World) (K : Act → World → Prop), K { tmps := (((a.tmps.setIfInBounds p (val k)).setIfInBounds q (.agg (eC (ent k)))).setIfInBounds r (val k)).setIfInBounds s (.pointer (some ⟨W.heap.size, 0, none⟩)), defers := [] } (W.alloc (.cells (eC (ent k)) E)) →
      assign.wpIn (Fence.wide.inRound l) (n - 1 - 1) P (Exit.then K (fun _ _ _ => False)) { tmps := (a.tmps.setIfInBounds p (val k)).setIfInBounds q (.agg (eC (ent k))), defers := [] } W)
    (hbody : ∀ (l k Bx : Nat) (S : Nat → Prop) (W : World), w.heap.size ≤ l → I k S W → w.heap.size ≤ Bx → EAt W Bx (ent k) → k < N → body.wpIn (Fence.wide.inRound l) (n - 1 - 1) P (postD I Ix (k + 1) S W)
      { tmps := (((a.tmps.setIfInBounds p (val k)).setIfInBounds q (.agg (eC (ent k)))).setIfInBounds r (val k)).setIfInBounds s (.pointer (some ⟨Bx, 0, none⟩)), defers := [] } W)
    (hdone : ∀ (D : Nat) (S : Nat → Prop) (W : World), w.heap.size ≤ D → ¬ S D → I N S W → W.heap[D]? = some (.deferred (some [])) → Q .normal (markD D a) W)
    (hstop : ∀ (D : Nat) (c : Code) (k : Nat) (W : World), w.heap.size ≤ D → k ≤ N → Ix c k W → W.heap[D]? = some (.deferred (some [])) → c.wpIn Fence.wide n P Q (markD D a) W) :
    (Code.rangeFunc g #[p, q] assign body).wpIn Fence.wide n P Q a w :=
  range_d hg eg hseq.toY hb0 (fun _ h => h.elim) hV (fun _ => rfl) I Ix hI hIx (fun k S W h => ⟨trivial, (hG k S W h).2⟩) S0 hS0 h0 (fun _ _ _ _ _ _ _ _ => trivial) (fun _ _ _ _ _ _ _ _ _ => trivial)
    (fun k a' W => ∃ Bx, w.heap.size ≤ Bx ∧ EAt W Bx (ent k) ∧ a' = { tmps := (((a.tmps.setIfInBounds p (val k)).setIfInBounds q (.agg (eC (ent k)))).setIfInBounds r (val k)).setIfInBounds s (.pointer (some ⟨Bx, 0, none⟩)), defers := [] })
    (fun k a' _ X Y row hs hgr hr => by obtain ⟨Bx, h1, h2, h3⟩ := hs; exact ⟨Bx, h1, eat_bears (T := fun _ => False) Bx (ent k) (fun _ h => h.elim) () X Y row h2 hgr hr, h3⟩)
    (fun l k S W K hi _ hk hK => by
      have h := hassign l k W K (hK _ (W.alloc (.cells (eC (ent k)) E)) S (hI.alloc (s := (k, S)) hi _) trivial (KeepsS.alloc S W _) ⟨W.heap.size, (hG k S W hi).1, EAt.made W (ent k) E, rfl⟩)
      have e : Array.foldl (fun t (y : Nat × Value) => t.setIfInBounds y.1 y.2) a.tmps (#[p, q].zip #[val k, .agg (eC (ent k))]) = (a.tmps.setIfInBounds p (val k)).setIfInBounds q (.agg (eC (ent k))) := by simp
      rw [← e] at h
      exact h)
    (fun l k S a' W hl hi _ hax hk => by obtain ⟨Bx, h1, h2, rfl⟩ := hax; exact hbody l k Bx S W hl hi h1 h2 hk)
    (fun D S W hD hS hi _ hDW => hdone D S W hD hS hi hDW) hstop
/-- The marks that ranges have left. -/
def mksD (Ds : List Nat) : List Deferred := Ds.map fun D => { target := .collected D, args := #[] }
/-- They lie as they were laid. -/
def MkAt (Ds : List Nat) (W : World) : Prop := ∀ D, D ∈ Ds → W.heap[D]? = some (.deferred (some []))
theorem leaves_marks {n : Nat} {P : Program} {fn : Func} {tmps : Array Value} {R : Ending → World → Prop} (p : World → Prop) : ∀ (Ds : List Nat) (W : World), MkAt Ds W → Ds.Nodup → p W →
    (∀ X D, D ∈ Ds → X.heap[D]? = some (.deferred (some [])) → p X → p (X.putObj D (.deferred none))) → (∀ W', p W' → LeavesInM Fence.wide n P fn tmps R [] .returning W') → LeavesInM Fence.wide n P fn tmps R (mksD Ds) .returning W
  | [], W, _, _, hp, _, h => h W hp
  | D :: Ds, W, hm, hn, hp, hs, h => by
    have hD := hm D (List.mem_cons_self ..)
    refine ⟨by simp, .inl ⟨D, _, rfl, run_takeDeferred hD, ?_⟩⟩
    refine leaves_marks p Ds _ (fun D' h' => ?_) (List.nodup_cons.1 hn).2 (hs W D (List.mem_cons_self ..) hD hp) (fun X E hE => hs X E (List.mem_cons_of_mem _ hE)) h
    have hne : D' ≠ D := fun e => (List.nodup_cons.1 hn).1 (e ▸ h')
    exact (World.putObj_heap_other hne).trans (hm D' (List.mem_cons_of_mem _ h'))
theorem res_cell {fn : Func} (h : fn.results = #[.cell 4 4]) (tmps : Array Value) (W : World) (b : Nat) (x : Bool) (hp : tmps.getD 4 undef = .pointer (some ⟨b, 0, none⟩)) (hb : Boxed W b 4 (.bool x)) : (results fn tmps).run Try.prog W = .ok (.bool x) W := by
  have hc := hb.cell
  have hp' : tmps[4]?.getD undef = .pointer (some ⟨b, 0, none⟩) := by simpa using hp
  simp only [results, h]
  simp [go_sem, hp', hc]
theorem boxed_later {W W' : World} {b : Nat} {t : TypeId} {v : Value} (h : Boxed W b t v) (hb : Below W.heap.size W W') : Boxed W' b t v := (hb.block b h.lt).trans h
theorem boxed_bears {β : Type} (b : Nat) (t : TypeId) (f : β → Value) (B : Nat) : Bears (fun _ => False) B (fun s W => Boxed W b t (f s)) := fun s X Y row hs hg hr => hs.kept hg (fun e' => by
  rcases hr b e'.symm with h | ⟨_, o, ho, hc⟩
  · exact h
  · rw [show X.heap[b]? = _ from hs] at ho; cases ho; cases hc)
theorem ens_bears {X Y : World} {B : Nat} {v : Value} {l : List En} {row : Option Nat} (h : EnsAt X v l) (hg : X.grownBy Y row) (hr : ∀ r, row = some r → False ∨ (B ≤ r ∧ ∃ o : Obj, X.heap[r]? = some o ∧ o.isCells = false)) : EnsAt Y v l := by
  obtain ⟨a, cap, e, h1, h2, hc⟩ := h
  refine ⟨a, cap, e, h1, h2, fun k t ht => ?_⟩
  obtain ⟨g, off, ea, hlt, c0, c1, c2, c3⟩ := hc k t ht
  have hh : Y.heap[g]? = X.heap[g]? := by
    refine hg.block g hlt (fun e' => ?_)
    rcases hr g e'.symm with h | ⟨_, o, ho, hco⟩
    · exact h
    · simp only [World.cell?, ho] at c0
      cases o <;> simp_all [Obj.isCells]
  have hcell : ∀ o, Y.cell? ⟨g, o, none⟩ = X.cell? ⟨g, o, none⟩ := fun o => by simp [World.cell?, hh]
  exact ⟨g, off, ea, Nat.lt_of_lt_of_le hlt hg.size, (hcell _).trans c0, (hcell _).trans c1, (hcell _).trans c2, (hcell _).trans c3⟩
theorem ens_set {W : World} {b : Nat} {t : TypeId} {u v : Value} {l : List En} (h : EnsAt W v l) (hb : Boxed W b t u) (u' : Value) : EnsAt (W.setCell ⟨b, 0, none⟩ u') v l := by
  obtain ⟨a, cap, e, h1, h2, hc⟩ := h
  refine ⟨a, cap, e, h1, h2, fun k t' ht => ?_⟩
  obtain ⟨g, off, ea, hg, c0, c1, c2, c3⟩ := hc k t' ht
  have hne : b ≠ g := by
    rintro rfl
    have hb' : W.heap[b]? = some (.cells #[u] t (0, 0)) := hb
    simp [World.cell?, hb'] at c1
  have hf : ∀ o, (W.setCell ⟨b, 0, none⟩ u').cell? ⟨g, o, none⟩ = W.cell? ⟨g, o, none⟩ := fun o => World.cell?_setCell_far W ⟨b, 0, none⟩ ⟨g, o, none⟩ u' hne
  exact ⟨g, off, ea, by simpa using hg, (hf _).trans c0, (hf _).trans c1, (hf _).trans c2, (hf _).trans c3⟩
end Go.Proofs.Ythaembnfdkcheaa
