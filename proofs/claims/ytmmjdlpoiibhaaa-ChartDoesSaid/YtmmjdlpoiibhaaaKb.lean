/- Rows of values of one cell each: a slice that reads as a list (ValsAt), a row of one's own (OwnV), texts (StrsAt); an append. -/
import Derived.Test.YtmmjdlpoiibhaaaKa
import Derived.Test.YtmmjdlpoiibhaaaRows
import Derived.ProofKit
import Derived.Outline
import Derived.WalkSpells
import Derived.WalkLawsBesides
import Derived.Below
import Derived.Laws.OwnMore
import Derived.Laws.AppendOwn
import Derived.Laws.AppendOwnNone
import Derived.OwnWalk
import Derived.Laws.Concat
import Derived.Laws.Rows
import Derived.Lib.AppendZeros
import Derived.Laws.StructEq
import Derived.Deep.QuietTactic
import Derived.BigQuiet
namespace Go.Proofs.Ytmmjdlpoiibhaaa
open Go.RowKit
set_option maxRecDepth 20000
set_option linter.unusedVariables false
set_option linter.unusedSimpArgs false
theorem ret_int {k : IntKind} {a b : Int} (h : a = b) : Ending.returned (.int k a) = .returned (.int k b) := by rw [h]
theorem ret_str {a b : ByteArray} (h : a = b) : Ending.returned (.string a) = .returned (.string b) := by rw [h]
theorem vcell_lt {w : World} {a : Addr} {v : Value} (h : w.cell? a = some v) : a.block < w.heap.size := by
  rcases Nat.lt_or_ge a.block w.heap.size with h' | h'
  · exact h'
  · simp [World.cell?, Array.getElem?_eq_none h'] at h
theorem vcell_later {w w' : World} {a : Addr} {v : Value} (hb : Below w.heap.size w w') (h : w.cell? a = some v) : w'.cell? a = some v := (hb.cell (p := a) (vcell_lt h)).trans h
/-- A slice that reads as these values. -/
def ValsAt (w : World) (v : Value) (xs : List Value) : Prop := ∃ a cap, v = .slice a xs.length cap ∧ xs.length ≤ cap ∧ cap ≤ maxLen ∧ ∀ k t, xs[k]? = some t → ∃ g off, a = some ⟨g, off, none⟩ ∧ g < w.heap.size ∧ w.cell? ⟨g, off + k, none⟩ = some t
theorem valsAt_nil (w : World) : ValsAt w (.slice none 0 0) [] := ⟨none, 0, rfl, Nat.le_refl _, by simp, fun k t h => by simp at h⟩
theorem ValsAt.below {w w' : World} {v : Value} {xs : List Value} (h : ValsAt w v xs) (hb : Below w.heap.size w w') : ValsAt w' v xs := by
  obtain ⟨a, cap, rfl, h1, h2, hc⟩ := h
  refine ⟨a, cap, rfl, h1, h2, fun k t ht => ?_⟩
  obtain ⟨g, off, ha, hg, c⟩ := hc k t ht
  exact ⟨g, off, ha, Nat.lt_of_lt_of_le hg hb.size, vcell_later hb c⟩
theorem ValsAt.keep {w w' : World} {v : Value} {xs : List Value} (h : ValsAt w v xs) (hs : w.heap.size ≤ w'.heap.size) (hk : ∀ a n c, v = .slice (some a) n c → a.block < w.heap.size → w'.heap[a.block]? = w.heap[a.block]?) : ValsAt w' v xs := by
  obtain ⟨a, cap, rfl, h1, h2, hc⟩ := h
  refine ⟨a, cap, rfl, h1, h2, fun k t ht => ?_⟩
  obtain ⟨g, off, rfl, hg, c⟩ := hc k t ht
  have hb := hk ⟨g, off, none⟩ _ _ rfl hg
  exact ⟨g, off, rfl, Nat.lt_of_lt_of_le hg hs, (World.cell?_of_block (a := ⟨g, off + k, none⟩) hb).trans c⟩
def OwnV (w : World) (B : Nat) (E : TypeId) (v : Value) (xs : List Value) : Prop := w.ownsRow B E 1 v xs.length xs
theorem ownV_nil (w : World) (B : Nat) (E : TypeId) : OwnV w B E (.slice none 0 0) [] := World.ownsRow_nil _ _ _ _
theorem OwnV.lt {w : World} {B : Nat} {E : TypeId} {v : Value} {xs : List Value} (h : OwnV w B E v xs) : ∀ k, v.ownBlock = some k → B ≤ k ∧ k < w.heap.size := World.ownsRow.lt h
theorem OwnV.keep {w w' : World} {B : Nat} {E : TypeId} {v : Value} {xs : List Value} (h : OwnV w B E v xs) (hk : ∀ k, v.ownBlock = some k → w'.heap[k]? = w.heap[k]?) : OwnV w' B E v xs := by
  obtain ⟨h1, h2⟩ := h
  refine ⟨h1, ?_⟩
  rcases h2 with h2 | ⟨g, cap, cur, hv, hg, hh, r⟩
  · exact .inl h2
  · refine .inr ⟨g, cap, cur, hv, hg, ?_, r⟩
    rw [hk g (by rw [hv]; rfl)]; exact hh
theorem OwnV.below {w w' : World} {B : Nat} {E : TypeId} {v : Value} {xs : List Value} (h : OwnV w B E v xs) (hb : Below w.heap.size w w') : OwnV w' B E v xs :=
  h.keep (fun k hk => hb.block k (h.lt k hk).2)
theorem OwnV.mono {w : World} {B B' : Nat} {E : TypeId} {v : Value} {xs : List Value} (h : OwnV w B E v xs) (hb : B' ≤ B) : OwnV w B' E v xs := by
  obtain ⟨h1, h2⟩ := h
  refine ⟨h1, ?_⟩
  rcases h2 with h2 | ⟨g, cap, cur, hv, hg, r⟩
  · exact .inl h2
  · exact .inr ⟨g, cap, cur, hv, Nat.le_trans hb hg, r⟩
theorem OwnV.form {w : World} {B : Nat} {E : TypeId} {v : Value} {xs : List Value} (h : OwnV w B E v xs) :
    (v = .slice none 0 0 ∧ xs = []) ∨ ∃ g cap, v = .slice (some ⟨g, 0, none⟩) xs.length cap ∧ B ≤ g ∧ g < w.heap.size ∧ xs.length ≤ cap ∧ cap ≤ maxLen ∧ (∀ j, j < xs.length → w.cell? ⟨g, j, none⟩ = xs[j]?) ∧ ∀ j, w.frozen? ⟨g, j, none⟩ = false := by
  have hlt := h.lt
  have h' := h
  obtain ⟨h1, h2⟩ := h
  rcases h2 with ⟨rfl, hn⟩ | ⟨g, cap, cur, rfl, hg, hh, hle, hm, _⟩
  · exact .inl ⟨rfl, List.eq_nil_of_length_eq_zero hn⟩
  · exact .inr ⟨g, cap, rfl, hg, (hlt g rfl).2, hle, hm, fun j hj => World.ownsRow.cellAt h' j (by omega), fun j => World.ownsRow.frozenAt h' j⟩
theorem OwnV.valsAt {w : World} {B : Nat} {E : TypeId} {v : Value} {xs : List Value} (h : OwnV w B E v xs) : ValsAt w v xs := by
  rcases h.form with ⟨rfl, rfl⟩ | ⟨g, cap, rfl, hg, hl, h1, h2, hc, _⟩
  · exact valsAt_nil w
  · refine ⟨_, cap, rfl, h1, h2, fun k t ht => ⟨g, 0, rfl, hl, ?_⟩⟩
    have hk := (List.getElem?_eq_some_iff.1 ht).1
    rw [Nat.zero_add, hc k hk]; exact ht
theorem vals_conv {w : World} {B : Nat} {E : TypeId} {v : Value} {n : Nat} {xs ys : List Value} (h : w.ownsRow B E 1 v n ys) (hn : n = xs.length) (he : ys = xs) : OwnV w B E v xs := by
  subst hn; subst he; exact h
/-- An append of one's own row, run. -/
theorem vappend_run (W : World) (B : Nat) (TS E ty : TypeId) (z : Value) (bytes : Nat) (ht : Try.prog.underlying TS = some (.slice E)) (hI : (Try.prog.info? E).map (fun i => (i.zero, i.size, i.bytes)) = some (some z, 1, bytes)) (hzs : z.cells.size = 1) (hby : bytes ≤ 64)
    (v x : Value) (L xs : List Value) (hown : OwnV W B E v L) (hx : ValsAt W x xs) (h1 : ∀ u ∈ xs, u.oneCell' = true) (hl : L.length + xs.length ≤ 1000000000) (hb : B ≤ W.heap.size) :
    ∃ v' w', (Builtin.append_ #[TS, TS] ty #[v, x]).run Try.prog W = .ok v' w' ∧ OwnV w' B E v' (L ++ xs) ∧ W.grownBy w' v.ownBlock := by
  obtain ⟨i0, hi, hz0, hz1, hz2⟩ := info_parts hI
  obtain ⟨a, cap, rfl, h1', h2, hc⟩ := hx
  cases a with
  | none =>
    have hl0 : xs = [] := by
      cases xs with
      | nil => rfl
      | cons t l => obtain ⟨g, off, ha, _⟩ := hc 0 t rfl; cases ha
    subst hl0
    refine ⟨v, W, ?_, by rw [List.append_nil]; exact hown, World.grownBy.refl _ _⟩
    rcases hown.2 with ⟨rfl, hn⟩ | ⟨g, cap2, cur, rfl, hbg, hg, hnc, hcm, hcs, htake⟩
    · simp [Builtin.append_, run_underlying ht, sizeOf, typeInfo, hi, Builtin.lenOf, Builtin.firstCells, loadCells, loadCellsFrom]
    · simp [Builtin.append_, run_underlying ht, sizeOf, typeInfo, hi, Builtin.lenOf, Builtin.firstCells, loadCells, loadCellsFrom, hnc, storeCells]
  | some ad =>
    have hnews : ∀ j u, xs[j]? = some u → W.cell? (ad.add j) = some u := by
      intro j u hu
      obtain ⟨g, off, ha, _, c⟩ := hc j u hu
      injection ha with ha
      subst ha
      have hadd : (⟨g, off, none⟩ : Addr).add j = ⟨g, off + j, none⟩ := by simp [Addr.add]
      rw [hadd]
      exact c
    have hbb : (L.length + xs.length) * bytes ≤ 1000000000 * 64 := Nat.mul_le_mul hl hby
    obtain ⟨v', w', hr, h2, h3, h4⟩ := run_append_own (P := Try.prog) W B TS ty E i0 _ 1 bytes ht hi hz0 hz1 hz2 hzs (by omega) v L.length L hown ad xs.length cap xs (by omega) hnews h1 (by unfold maxLen; omega) (by omega) hb
    exact ⟨v', w', hr, vals_conv h2 (by simp) rfl, h3⟩
/-- A slice of texts. -/
def strL (l : List ByteArray) : List Value := l.map Value.string
theorem strL_len (l : List ByteArray) : (strL l).length = l.length := by simp [strL]
theorem strL_at (l : List ByteArray) (k : Nat) : (strL l)[k]? = l[k]?.map Value.string := by simp [strL]
def StrsAt (w : World) (v : Value) (l : List ByteArray) : Prop := ∃ a cap, v = .slice a l.length cap ∧ l.length ≤ cap ∧ cap ≤ maxLen ∧ ∀ k t, l[k]? = some t → ∃ g off, a = some ⟨g, off, none⟩ ∧ g < w.heap.size ∧ w.cell? ⟨g, off + k, none⟩ = some (.string t)
theorem StrsAt.vals {w : World} {v : Value} {l : List ByteArray} (h : StrsAt w v l) : ValsAt w v (strL l) := by
  obtain ⟨a, cap, rfl, h1, h2, hc⟩ := h
  refine ⟨a, cap, by rw [strL_len], by rw [strL_len]; exact h1, h2, fun k t ht => ?_⟩
  rw [strL_at] at ht
  obtain ⟨s, hs, rfl⟩ := Option.map_eq_some_iff.1 ht
  exact hc k s hs
theorem ValsAt.strs {w : World} {v : Value} {l : List ByteArray} (h : ValsAt w v (strL l)) : StrsAt w v l := by
  obtain ⟨a, cap, hv, h1, h2, hc⟩ := h
  rw [strL_len] at hv h1
  exact ⟨a, cap, hv, h1, h2, fun k t ht => hc k (.string t) (by rw [strL_at, ht]; rfl)⟩
theorem StrsAt.below {w w' : World} {v : Value} {l : List ByteArray} (h : StrsAt w v l) (hb : Below w.heap.size w w') : StrsAt w' v l := (h.vals.below hb).strs
theorem strsAt_nil (w : World) : StrsAt w (.slice none 0 0) [] := (valsAt_nil w).strs (l := [])
theorem strL_one (l : List ByteArray) : ∀ u ∈ strL l, u.oneCell' = true := by
  intro u hu
  obtain ⟨s, _, rfl⟩ := List.mem_map.1 hu
  rfl
theorem strL_append (a b : List ByteArray) : strL (a ++ b) = strL a ++ strL b := by simp [strL]
theorem infoStr : (Try.prog.info? 9).map (fun i => (i.zero, i.size, i.bytes)) = some (some (.string { data := #[] }), 1, 16) := by kernel_rfl
theorem str_yes {a b : ByteArray} (h : a = b) : (a.toList == b.toList) = true := by rw [h]; simp
theorem str_no {a b : ByteArray} (h : ¬ a = b) : (a.toList == b.toList) = false := by
  rw [ByteArray.toList_eq, ByteArray.toList_eq, beq_eq_false_iff_ne]
  intro e
  exact h (ByteArray.ext (Array.toList_inj.1 e))
theorem heap_new (w : World) (o : Obj) : (w.alloc o).heap[w.heap.size]? = some o := by
  show (w.heap.push o)[w.heap.size]? = _
  simp
/-- A struct of two cells, read whole. -/
theorem two_load (w : World) (g : Nat) (ty : TypeId) (x y : Value) (d : TypeDesc) (c0 : w.cell? ⟨g, 0, none⟩ = some x) (c1 : w.cell? ⟨g, 1, none⟩ = some y)
    (hu : Try.prog.underlying ty = some d) (hd : (match d with | .struct _ | .array _ _ => true | _ => false) = true) (hi : (Try.prog.info? ty).map (·.size) = some 2) :
    (loadVar ty ⟨g, 0, none⟩).run Try.prog w = .ok (.agg #[x, y]) w := by
  have hl : (loadCells ⟨g, 0, none⟩ 2).run Try.prog w = .ok #[x, y] w :=
    run_loadCells_list (P := Try.prog) w ⟨g, 0, none⟩ [x, y] (fun j v hv => by
      have hadd : (⟨g, 0, none⟩ : Addr).add j = ⟨g, j, none⟩ := by unfold Addr.add; split <;> simp_all
      rw [hadd]
      match j, hv with
      | 0, hv => simp at hv; rw [c0, hv]
      | 1, hv => simp at hv; rw [c1, hv]
      | j + 2, hv => simp at hv)
  cases hq : Try.prog.info? ty with
  | none => simp [hq] at hi
  | some i =>
    have hs : i.size = 2 := by simpa [hq] using hi
    have hagg : (isAgg ty).run Try.prog w = .ok true w := by
      unfold isAgg
      rw [Sem.run_bind, run_underlying hu w]
      cases d <;> simp_all
    simp [loadVar, Sem.run_bind, hagg, sizeOf, typeInfo, hq, hs, hl]
/-- A place in a cell, and a bool, as results. -/
theorem results_ct {fn : Func} {p q : Tmp} {ty : TypeId} (h : fn.results = #[.cell p ty, .tmp q]) (tmps : Array Value) (w : World) (g : Nat) (x y v : Value) (d : TypeDesc) (hp : tmps.getD p undef = .pointer (some ⟨g, 0, none⟩)) (hq : tmps.getD q undef = v) (c0 : w.cell? ⟨g, 0, none⟩ = some x) (c1 : w.cell? ⟨g, 1, none⟩ = some y)
    (hu : Try.prog.underlying ty = some d) (hd : (match d with | .struct _ | .array _ _ => true | _ => false) = true) (hi : (Try.prog.info? ty).map (·.size) = some 2) :
    (results fn tmps).run Try.prog w = .ok (.tuple #[.agg #[x, y], v]) w := by
  have hl := two_load w g ty x y d c0 c1 hu hd hi
  have hp' : tmps[p]?.getD undef = .pointer (some ⟨g, 0, none⟩) := by simpa using hp
  have hq' : tmps[q]?.getD undef = v := by simpa using hq
  simp [results, h, hp', hq', asAddr, hl]
/-- A place in a cell, a bool and an error, as results. -/
theorem results_ct3 {fn : Func} {p q r : Tmp} {ty : TypeId} (h : fn.results = #[.cell p ty, .tmp q, .tmp r]) (tmps : Array Value) (w : World) (g : Nat) (x y v u : Value) (d : TypeDesc) (hp : tmps.getD p undef = .pointer (some ⟨g, 0, none⟩)) (hq : tmps.getD q undef = v) (hr : tmps.getD r undef = u) (c0 : w.cell? ⟨g, 0, none⟩ = some x) (c1 : w.cell? ⟨g, 1, none⟩ = some y)
    (hu : Try.prog.underlying ty = some d) (hd : (match d with | .struct _ | .array _ _ => true | _ => false) = true) (hi : (Try.prog.info? ty).map (·.size) = some 2) :
    (results fn tmps).run Try.prog w = .ok (.tuple #[.agg #[x, y], v, u]) w := by
  have hl := two_load w g ty x y d c0 c1 hu hd hi
  have hp' : tmps[p]?.getD undef = .pointer (some ⟨g, 0, none⟩) := by simpa using hp
  have hq' : tmps[q]?.getD undef = v := by simpa using hq
  have hr' : tmps[r]?.getD undef = u := by simpa using hr
  simp [results, h, hp', hq', hr', asAddr, hl]
/-- A list, a place in a cell, a bool and an error, as results. -/
theorem results_ct4 {fn : Func} {o p q r : Tmp} {ty : TypeId} (h : fn.results = #[.tmp o, .cell p ty, .tmp q, .tmp r]) (tmps : Array Value) (w : World) (g : Nat) (z x y v u : Value) (d : TypeDesc) (ho : tmps.getD o undef = z) (hp : tmps.getD p undef = .pointer (some ⟨g, 0, none⟩)) (hq : tmps.getD q undef = v) (hr : tmps.getD r undef = u) (c0 : w.cell? ⟨g, 0, none⟩ = some x) (c1 : w.cell? ⟨g, 1, none⟩ = some y)
    (hu : Try.prog.underlying ty = some d) (hd : (match d with | .struct _ | .array _ _ => true | _ => false) = true) (hi : (Try.prog.info? ty).map (·.size) = some 2) :
    (results fn tmps).run Try.prog w = .ok (.tuple #[z, .agg #[x, y], v, u]) w := by
  have hl := two_load w g ty x y d c0 c1 hu hd hi
  have ho' : tmps[o]?.getD undef = z := by simpa using ho
  have hp' : tmps[p]?.getD undef = .pointer (some ⟨g, 0, none⟩) := by simpa using hp
  have hq' : tmps[q]?.getD undef = v := by simpa using hq
  have hr' : tmps[r]?.getD undef = u := by simpa using hr
  simp [results, h, ho', hp', hq', hr', asAddr, hl]
/-- Two cells of a block. -/
def Two (w : World) (g : Nat) (x y : Value) : Prop := w.cell? ⟨g, 0, none⟩ = some x ∧ w.cell? ⟨g, 1, none⟩ = some y ∧ w.frozen? ⟨g, 0, none⟩ = false ∧ w.frozen? ⟨g, 1, none⟩ = false
theorem Two.lt {w : World} {g : Nat} {x y : Value} (h : Two w g x y) : g < w.heap.size := vcell_lt h.1
theorem Two.below {w w' : World} {g : Nat} {x y : Value} (h : Two w g x y) (hb : Below w.heap.size w w') : Two w' g x y :=
  ⟨vcell_later hb h.1, vcell_later hb h.2.1, (hb.frozen (p := ⟨g, 0, none⟩) h.lt).trans h.2.2.1, (hb.frozen (p := ⟨g, 1, none⟩) h.lt).trans h.2.2.2⟩
theorem Two.alloc {w : World} {g : Nat} {x y : Value} (h : Two w g x y) (o : Obj) : Two (w.alloc o) g x y := h.below (Below.alloc (Below.refl _ _) (Nat.le_refl _) _)
theorem two_new (w : World) (x y : Value) (T : TypeId) : Two (w.alloc (.cells #[x, y] T)) w.heap.size x y := ⟨by simp [go_sem], by simp [go_sem], by simp [go_sem], by simp [go_sem]⟩
theorem Two.set {w : World} {g : Nat} {x y : Value} (h : Two w g x y) (x' y' : Value) : Two ((w.setCell ⟨g, 0, none⟩ x').setCell ⟨g, 1, none⟩ y') g x' y' := by
  obtain ⟨h0, h1, h2, h3⟩ := h
  have e1 : (w.setCell ⟨g, 0, none⟩ x').cell? ⟨g, 1, none⟩ = some y := by rw [World.cell?_setCell_other (h := by simp), h1]
  refine ⟨?_, World.cell?_setCell_same _ _ _ e1, by simpa using h2, by simpa using h3⟩
  rw [World.cell?_setCell_other (h := by simp)]
  exact World.cell?_setCell_same _ _ _ h0
theorem below_two {w w1 : World} {B g : Nat} (hb : Below B w w1) (hg : B ≤ g) (x y : Value) : Below B w ((w1.setCell ⟨g, 0, none⟩ x).setCell ⟨g, 1, none⟩ y) := (hb.setCell hg _).setCell hg _
theorem Two.lower {w w' : World} {B g : Nat} {x y : Value} (h : Two w g x y) (hb : Below B w w') (hg : g < B) : Two w' g x y :=
  ⟨(hb.cell (p := ⟨g, 0, none⟩) hg).trans h.1, (hb.cell (p := ⟨g, 1, none⟩) hg).trans h.2.1, (hb.frozen (p := ⟨g, 0, none⟩) hg).trans h.2.2.1, (hb.frozen (p := ⟨g, 1, none⟩) hg).trans h.2.2.2⟩
theorem OwnV.slice {w : World} {B : Nat} {E : TypeId} {v : Value} {xs : List Value} (h : OwnV w B E v xs) : ∃ a cap, v = .slice a xs.length cap := by
  rcases h.form with ⟨rfl, rfl⟩ | ⟨g, cap, rfl, _⟩
  · exact ⟨none, 0, rfl⟩
  · exact ⟨_, cap, rfl⟩
theorem str_lit (w : World) (s : ByteArray) (T : TypeId) : StrsAt (w.alloc (.cells #[.string s] T)) (.slice (some ⟨w.heap.size, 0, none⟩) 1 1) [s] := by
  refine ⟨_, 1, rfl, Nat.le_refl _, by unfold maxLen; omega, fun k t ht => ⟨w.heap.size, 0, rfl, by simp, ?_⟩⟩
  match k, ht with
  | 0, ht => simp only [List.getElem?_cons_zero, Option.some.injEq] at ht; subst ht; simp [go_sem]
  | k + 1, ht => simp at ht
theorem OwnV.two {w : World} {B g : Nat} {E : TypeId} {v : Value} {xs : List Value} (h : OwnV w B E v xs) (hg : g < B) (x y : Value) : OwnV ((w.setCell ⟨g, 0, none⟩ x).setCell ⟨g, 1, none⟩ y) B E v xs := by
  refine h.keep (fun k hk => ?_)
  have := (h.lt k hk).1
  rw [Below.heap_setCell _ _ _ _ (by simp; omega), Below.heap_setCell _ _ _ _ (by simp; omega)]
end Go.Proofs.Ytmmjdlpoiibhaaa
