/- Several texts, one behind the other: Ka, Kb, Kh. -/
import Derived.WalkKit
import Derived.Lib.Hide
import Derived.Test.YtleicghfcffblaaRows
import Derived.ProofKit
import Derived.Outline
import Derived.WalkSpells
import Derived.WalkLawsBesides
import Derived.Below
import Derived.Laws.OwnMore
import Derived.Laws.AppendOwn
import Derived.Laws.AppendOwnNone
import Derived.OwnWalk
import Derived.Laws.Concat
import Derived.Laws.Rows
import Derived.Lib.AppendZeros
import Derived.Laws.StructEq
import Derived.Deep.QuietTactic
import Derived.BigQuiet
/- Plain words of a pool, no Go: contents one behind the other, where one stands, what adding one makes. -/
namespace Go.Proofs.Ytleicghfcffblaa
def totF : List ByteArray → Nat
  | [] => 0
  | t :: l => t.size + totF l
def catF : List ByteArray → ByteArray
  | [] => ByteArray.empty
  | t :: l => t ++ catF l
def findF (s : ByteArray) : List ByteArray → Nat → Option Nat
  | [], _ => none
  | t :: l, n => if t = s then some n else findF s l (n + t.size)
def getG (a b : Int) : List ByteArray → Nat → Option ByteArray
  | [], _ => none
  | t :: l, n => if (n : Int) = a ∧ (t.size : Int) = b then some t else getG a b l (n + t.size)
def offV (o : Option Nat) : Nat := o.getD 0
def lenV (o : Option Nat) (s : ByteArray) : Nat := if o.isSome then s.size else 0
def eV (l : List ByteArray) (s : ByteArray) : Nat := if s.size = 0 then 2 else if 65536 < s.size then 5 else if (findF s l 0).isSome then 0 else if 2048 ≤ l.length then 7 else 0
def isNew (l : List ByteArray) (s : ByteArray) : Bool := decide (eV l s = 0) && (findF s l 0).isNone
def newL (l : List ByteArray) (s : ByteArray) : List ByteArray := if isNew l s then l ++ [s] else l
def offA (l : List ByteArray) (s : ByteArray) : Nat := if isNew l s then totF l else if eV l s = 0 then offV (findF s l 0) else 0
def lenA (l : List ByteArray) (s : ByteArray) : Nat := if eV l s = 0 then s.size else 0
/-- What a pool's contents are: each is there once, none is empty or too long, there are not too many. -/
structure GoodP (l : List ByteArray) : Prop where
  pos : ∀ t ∈ l, 0 < t.size
  short : ∀ t ∈ l, t.size ≤ 65536
  once : l.Nodup
  few : l.length ≤ 2048
theorem goodP_nil : GoodP [] := ⟨by simp, by simp, by simp, by simp⟩
theorem totF_append (a b : List ByteArray) : totF (a ++ b) = totF a + totF b := by
  induction a with
  | nil => simp [totF]
  | cons t l ih => rw [List.cons_append, totF, totF, ih]; omega
theorem totF_one (s : ByteArray) : totF [s] = s.size := by simp [totF]
theorem totF_take (l : List ByteArray) (k : Nat) : totF (l.take k) ≤ totF l := by
  have h := totF_append (l.take k) (l.drop k)
  rw [List.take_append_drop] at h
  omega
theorem totF_step (l : List ByteArray) (k : Nat) (t : ByteArray) (h : l[k]? = some t) : totF (l.take (k + 1)) = totF (l.take k) + t.size := by
  rw [List.take_add_one, h, totF_append]
  simp [totF]
theorem totF_bound (l : List ByteArray) (M : Nat) (h : ∀ t ∈ l, t.size ≤ M) : totF l ≤ l.length * M := by
  induction l with
  | nil => simp [totF]
  | cons t l ih =>
    have h1 := h t (by simp)
    have h2 := ih (fun x hx => h x (by simp [hx]))
    rw [totF, List.length_cons, Nat.succ_mul]
    omega
theorem GoodP.tot {l : List ByteArray} (h : GoodP l) : totF l ≤ 134217728 := by
  have h1 := totF_bound l 65536 h.short
  have h2 := h.few
  omega
theorem mem_tot (l : List ByteArray) (t : ByteArray) (h : t ∈ l) : t.size ≤ totF l := by
  induction l with
  | nil => simp at h
  | cons x l ih =>
    rw [totF]
    rcases List.mem_cons.1 h with rfl | h
    · omega
    · have := ih h; omega
theorem cat_append (a b : List ByteArray) : catF (a ++ b) = catF a ++ catF b := by
  induction a with
  | nil => simp [catF]
  | cons t l ih => rw [List.cons_append, catF, catF, ih, ByteArray.append_assoc]
theorem catF_one (s : ByteArray) : catF [s] = s := by simp [catF]
theorem catF_step (l : List ByteArray) (k : Nat) (t : ByteArray) (h : l[k]? = some t) : catF (l.take (k + 1)) = catF (l.take k) ++ t := by
  rw [List.take_add_one, h, cat_append]
  simp [catF]
theorem catF_size (l : List ByteArray) : (catF l).size = totF l := by
  induction l with
  | nil => simp [catF, totF]
  | cons t l ih => rw [catF, totF, ByteArray.size_append, ih]
theorem drop_at {α : Type} (l : List α) (k : Nat) (t : α) (h : l[k]? = some t) : l.drop k = t :: l.drop (k + 1) := by
  obtain ⟨hk, rfl⟩ := List.getElem?_eq_some_iff.1 h
  exact List.drop_eq_getElem_cons hk
theorem findF_mem (s : ByteArray) (l : List ByteArray) : ∀ n, (findF s l n).isSome = true ↔ s ∈ l := by
  induction l with
  | nil => simp [findF]
  | cons t l ih =>
    intro n
    rw [findF]
    by_cases h : t = s
    · simp [h]
    · rw [if_neg h, ih]
      simp [h, Ne.symm h]
theorem findF_none (s : ByteArray) (l : List ByteArray) (n : Nat) : findF s l n = none ↔ s ∉ l := by
  rw [← findF_mem s l n]
  cases findF s l n <;> simp
theorem findF_append (s : ByteArray) (a b : List ByteArray) : ∀ n, findF s (a ++ b) n = match findF s a n with | some k => some k | none => findF s b (n + totF a) := by
  induction a with
  | nil => intro n; simp [findF, totF]
  | cons t l ih =>
    intro n
    rw [List.cons_append, findF, findF]
    by_cases h : t = s
    · simp [h]
    · rw [if_neg h, if_neg h, ih, totF]
      rw [Nat.add_assoc]
theorem findF_le (s : ByteArray) (l : List ByteArray) : ∀ n k, findF s l n = some k → n ≤ k ∧ k + s.size ≤ n + totF l := by
  induction l with
  | nil => intro n k h; simp [findF] at h
  | cons t l ih =>
    intro n k h
    rw [findF] at h
    rw [totF]
    by_cases e : t = s
    · rw [if_pos e] at h; injection h with h; subst e; omega
    · rw [if_neg e] at h; have := ih _ _ h; omega
/-- Where the k-th content stands that is not there before. -/
theorem findF_at (l : List ByteArray) (k : Nat) (t : ByteArray) (h : l[k]? = some t) (hn : l.Nodup) (n : Nat) : findF t l n = some (n + totF (l.take k)) := by
  have e : l = l.take k ++ t :: l.drop (k + 1) := by rw [← drop_at l k t h, List.take_append_drop]
  have hnot : t ∉ l.take k := by
    rw [e] at hn
    intro hm
    exact (List.nodup_append.1 hn).2.2 t hm t (by simp) rfl
  conv => lhs; rw [e]
  rw [findF_append, (findF_none t _ n).2 hnot]
  simp [findF]
theorem eV_iff (l : List ByteArray) (s : ByteArray) : eV l s = 0 ↔ 0 < s.size ∧ s.size ≤ 65536 ∧ (s ∈ l ∨ l.length < 2048) := by
  unfold eV
  have := findF_mem s l 0
  by_cases h1 : s.size = 0
  · simp [h1]
  · rw [if_neg h1]
    by_cases h2 : 65536 < s.size
    · rw [if_pos h2]; simp; omega
    · rw [if_neg h2]
      by_cases h3 : (findF s l 0).isSome = true
      · rw [if_pos h3]; simp only [true_iff]; exact ⟨by omega, by omega, .inl (this.1 h3)⟩
      · rw [if_neg h3]
        have h4 : s ∉ l := fun h => h3 (this.2 h)
        by_cases h5 : 2048 ≤ l.length
        · rw [if_pos h5]; simp [h4]; omega
        · rw [if_neg h5]; simp; omega
theorem isNew_iff (l : List ByteArray) (s : ByteArray) : isNew l s = true ↔ 0 < s.size ∧ s.size ≤ 65536 ∧ s ∉ l ∧ l.length < 2048 := by
  unfold isNew
  rw [Bool.and_eq_true, decide_eq_true_eq, eV_iff, Option.isNone_iff_eq_none, findF_none]
  constructor
  · rintro ⟨⟨h1, h2, h3⟩, h4⟩; exact ⟨h1, h2, h4, h3.resolve_left h4⟩
  · rintro ⟨h1, h2, h3, h4⟩; exact ⟨⟨h1, h2, .inr h4⟩, h3⟩
theorem GoodP.add {l : List ByteArray} (h : GoodP l) (s : ByteArray) : GoodP (newL l s) := by
  unfold newL
  split
  · rename_i hn
    obtain ⟨h1, h2, h3, h4⟩ := (isNew_iff l s).1 hn
    refine ⟨?_, ?_, ?_, by simp; omega⟩
    · intro t ht; rcases List.mem_append.1 ht with ht | ht
      · exact h.pos t ht
      · rw [List.mem_singleton.1 ht]; exact h1
    · intro t ht; rcases List.mem_append.1 ht with ht | ht
      · exact h.short t ht
      · rw [List.mem_singleton.1 ht]; exact h2
    · rw [List.nodup_append]
      refine ⟨h.once, by simp, fun a ha b hb => ?_⟩
      rw [List.mem_singleton.1 hb]
      intro e
      exact h3 (e ▸ ha)
  · exact h
theorem newL_len (l : List ByteArray) (s : ByteArray) : l.length ≤ (newL l s).length ∧ (newL l s).length ≤ l.length + 1 := by
  unfold newL; split <;> simp
theorem newL_tot (l : List ByteArray) (s : ByteArray) : totF (newL l s) ≤ totF l + s.size := by
  unfold newL; split
  · rw [totF_append, totF_one]; omega
  · omega
/-- All contents added, one after another. -/
def addsF (l : List ByteArray) (m : List ByteArray) : List ByteArray := m.foldl newL l
theorem GoodP.adds {l : List ByteArray} (h : GoodP l) (m : List ByteArray) : GoodP (addsF l m) := by
  induction m generalizing l with
  | nil => exact h
  | cons s m ih => exact ih (h.add s)
theorem addsF_step (l m : List ByteArray) (k : Nat) (t : ByteArray) (h : m[k]? = some t) : addsF l (m.take (k + 1)) = newL (addsF l (m.take k)) t := by
  unfold addsF
  rw [List.take_add_one, h, List.foldl_append]
  rfl
theorem addsF_len (l m : List ByteArray) : l.length ≤ (addsF l m).length ∧ (addsF l m).length ≤ l.length + m.length := by
  induction m generalizing l with
  | nil => simp [addsF]
  | cons s m ih =>
    have h1 := newL_len l s
    have h2 := ih (newL l s)
    rw [List.length_cons]
    show l.length ≤ (addsF (newL l s) m).length ∧ (addsF (newL l s) m).length ≤ _
    omega
theorem addsF_tot (l m : List ByteArray) : totF (addsF l m) ≤ totF l + totF m := by
  induction m generalizing l with
  | nil => simp [addsF, totF]
  | cons s m ih =>
    have h1 := newL_tot l s
    have h2 := ih (newL l s)
    rw [totF]
    show totF (addsF (newL l s) m) ≤ _
    omega
theorem newL_pre (l : List ByteArray) (s : ByteArray) : ∃ r, newL l s = l ++ r := by
  unfold newL; split
  · exact ⟨[s], rfl⟩
  · exact ⟨[], by simp⟩
theorem addsF_pre (l m : List ByteArray) : ∃ r, addsF l m = l ++ r := by
  induction m generalizing l with
  | nil => exact ⟨[], by simp [addsF]⟩
  | cons s m ih =>
    obtain ⟨r, hr⟩ := newL_pre l s
    obtain ⟨q, hq⟩ := ih (newL l s)
    exact ⟨r ++ q, by show addsF (newL l s) m = _; rw [hq, hr, List.append_assoc]⟩
theorem newL_mem (l : List ByteArray) (s : ByteArray) (h0 : 0 < s.size) (h1 : s.size ≤ 65536) (h2 : l.length < 2048) : s ∈ newL l s := by
  unfold newL
  by_cases h : isNew l s = true
  · rw [if_pos h]; simp
  · rw [if_neg h]
    rw [isNew_iff] at h
    apply Classical.byContradiction
    intro hn
    exact h ⟨h0, h1, hn, h2⟩
end Go.Proofs.Ytleicghfcffblaa
/- Rows of values of one cell each: a slice that reads as a list (ValsAt), a row of one's own (OwnV), texts (StrsAt); an append. -/
namespace Go.Proofs.Ytleicghfcffblaa
open Go.RowKit
set_option maxRecDepth 20000
set_option linter.unusedVariables false
set_option linter.unusedSimpArgs false
theorem ret_int {k : IntKind} {a b : Int} (h : a = b) : Ending.returned (.int k a) = .returned (.int k b) := by rw [h]
theorem ret_str {a b : ByteArray} (h : a = b) : Ending.returned (.string a) = .returned (.string b) := by rw [h]
theorem vcell_lt {w : World} {a : Addr} {v : Value} (h : w.cell? a = some v) : a.block < w.heap.size := by
  rcases Nat.lt_or_ge a.block w.heap.size with h' | h'
  · exact h'
  · simp [World.cell?, Array.getElem?_eq_none h'] at h
theorem vcell_later {w w' : World} {a : Addr} {v : Value} (hb : Below w.heap.size w w') (h : w.cell? a = some v) : w'.cell? a = some v := (hb.cell (p := a) (vcell_lt h)).trans h
/-- A slice that reads as these values. -/
def ValsAt (w : World) (v : Value) (xs : List Value) : Prop := ∃ a cap, v = .slice a xs.length cap ∧ xs.length ≤ cap ∧ cap ≤ maxLen ∧ ∀ k t, xs[k]? = some t → ∃ g off, a = some ⟨g, off, none⟩ ∧ g < w.heap.size ∧ w.cell? ⟨g, off + k, none⟩ = some t
theorem valsAt_nil (w : World) : ValsAt w (.slice none 0 0) [] := ⟨none, 0, rfl, Nat.le_refl _, by simp, fun k t h => by simp at h⟩
theorem ValsAt.below {w w' : World} {v : Value} {xs : List Value} (h : ValsAt w v xs) (hb : Below w.heap.size w w') : ValsAt w' v xs := by
  obtain ⟨a, cap, rfl, h1, h2, hc⟩ := h
  refine ⟨a, cap, rfl, h1, h2, fun k t ht => ?_⟩
  obtain ⟨g, off, ha, hg, c⟩ := hc k t ht
  exact ⟨g, off, ha, Nat.lt_of_lt_of_le hg hb.size, vcell_later hb c⟩
theorem ValsAt.keep {w w' : World} {v : Value} {xs : List Value} (h : ValsAt w v xs) (hs : w.heap.size ≤ w'.heap.size) (hk : ∀ a n c, v = .slice (some a) n c → a.block < w.heap.size → w'.heap[a.block]? = w.heap[a.block]?) : ValsAt w' v xs := by
  obtain ⟨a, cap, rfl, h1, h2, hc⟩ := h
  refine ⟨a, cap, rfl, h1, h2, fun k t ht => ?_⟩
  obtain ⟨g, off, rfl, hg, c⟩ := hc k t ht
  have hb := hk ⟨g, off, none⟩ _ _ rfl hg
  exact ⟨g, off, rfl, Nat.lt_of_lt_of_le hg hs, (World.cell?_of_block (a := ⟨g, off + k, none⟩) hb).trans c⟩
def OwnV (w : World) (B : Nat) (E : TypeId) (v : Value) (xs : List Value) : Prop := w.ownsRow B E 1 v xs.length xs
theorem ownV_nil (w : World) (B : Nat) (E : TypeId) : OwnV w B E (.slice none 0 0) [] := World.ownsRow_nil _ _ _ _
theorem OwnV.lt {w : World} {B : Nat} {E : TypeId} {v : Value} {xs : List Value} (h : OwnV w B E v xs) : ∀ k, v.ownBlock = some k → B ≤ k ∧ k < w.heap.size := World.ownsRow.lt h
theorem OwnV.keep {w w' : World} {B : Nat} {E : TypeId} {v : Value} {xs : List Value} (h : OwnV w B E v xs) (hk : ∀ k, v.ownBlock = some k → w'.heap[k]? = w.heap[k]?) : OwnV w' B E v xs := by
  obtain ⟨h1, h2⟩ := h
  refine ⟨h1, ?_⟩
  rcases h2 with h2 | ⟨g, cap, cur, hv, hg, hh, r⟩
  · exact .inl h2
  · refine .inr ⟨g, cap, cur, hv, hg, ?_, r⟩
    rw [hk g (by rw [hv]; rfl)]; exact hh
theorem OwnV.below {w w' : World} {B : Nat} {E : TypeId} {v : Value} {xs : List Value} (h : OwnV w B E v xs) (hb : Below w.heap.size w w') : OwnV w' B E v xs :=
  h.keep (fun k hk => hb.block k (h.lt k hk).2)
theorem OwnV.mono {w : World} {B B' : Nat} {E : TypeId} {v : Value} {xs : List Value} (h : OwnV w B E v xs) (hb : B' ≤ B) : OwnV w B' E v xs := by
  obtain ⟨h1, h2⟩ := h
  refine ⟨h1, ?_⟩
  rcases h2 with h2 | ⟨g, cap, cur, hv, hg, r⟩
  · exact .inl h2
  · exact .inr ⟨g, cap, cur, hv, Nat.le_trans hb hg, r⟩
theorem OwnV.form {w : World} {B : Nat} {E : TypeId} {v : Value} {xs : List Value} (h : OwnV w B E v xs) :
    (v = .slice none 0 0 ∧ xs = []) ∨ ∃ g cap, v = .slice (some ⟨g, 0, none⟩) xs.length cap ∧ B ≤ g ∧ g < w.heap.size ∧ xs.length ≤ cap ∧ cap ≤ maxLen ∧ (∀ j, j < xs.length → w.cell? ⟨g, j, none⟩ = xs[j]?) ∧ ∀ j, w.frozen? ⟨g, j, none⟩ = false := by
  have hlt := h.lt
  have h' := h
  obtain ⟨h1, h2⟩ := h
  rcases h2 with ⟨rfl, hn⟩ | ⟨g, cap, cur, rfl, hg, hh, hle, hm, _⟩
  · exact .inl ⟨rfl, List.eq_nil_of_length_eq_zero hn⟩
  · exact .inr ⟨g, cap, rfl, hg, (hlt g rfl).2, hle, hm, fun j hj => World.ownsRow.cellAt h' j (by omega), fun j => World.ownsRow.frozenAt h' j⟩
theorem OwnV.valsAt {w : World} {B : Nat} {E : TypeId} {v : Value} {xs : List Value} (h : OwnV w B E v xs) : ValsAt w v xs := by
  rcases h.form with ⟨rfl, rfl⟩ | ⟨g, cap, rfl, hg, hl, h1, h2, hc, _⟩
  · exact valsAt_nil w
  · refine ⟨_, cap, rfl, h1, h2, fun k t ht => ⟨g, 0, rfl, hl, ?_⟩⟩
    have hk := (List.getElem?_eq_some_iff.1 ht).1
    rw [Nat.zero_add, hc k hk]; exact ht
theorem vals_conv {w : World} {B : Nat} {E : TypeId} {v : Value} {n : Nat} {xs ys : List Value} (h : w.ownsRow B E 1 v n ys) (hn : n = xs.length) (he : ys = xs) : OwnV w B E v xs := by
  subst hn; subst he; exact h
/-- An append of one's own row, run. -/
theorem vappend_run (W : World) (B : Nat) (TS E ty : TypeId) (z : Value) (bytes : Nat) (ht : Try.prog.underlying TS = some (.slice E)) (hI : (Try.prog.info? E).map (fun i => (i.zero, i.size, i.bytes)) = some (some z, 1, bytes)) (hzs : z.cells.size = 1) (hby : bytes ≤ 64)
    (v x : Value) (L xs : List Value) (hown : OwnV W B E v L) (hx : ValsAt W x xs) (h1 : ∀ u ∈ xs, u.oneCell' = true) (hl : L.length + xs.length ≤ 1000000000) (hb : B ≤ W.heap.size) :
    ∃ v' w', (Builtin.append_ #[TS, TS] ty #[v, x]).run Try.prog W = .ok v' w' ∧ OwnV w' B E v' (L ++ xs) ∧ W.grownBy w' v.ownBlock := by
  obtain ⟨i0, hi, hz0, hz1, hz2⟩ := info_parts hI
  obtain ⟨a, cap, rfl, h1', h2, hc⟩ := hx
  cases a with
  | none =>
    have hl0 : xs = [] := by
      cases xs with
      | nil => rfl
      | cons t l => obtain ⟨g, off, ha, _⟩ := hc 0 t rfl; cases ha
    subst hl0
    refine ⟨v, W, ?_, by rw [List.append_nil]; exact hown, World.grownBy.refl _ _⟩
    rcases hown.2 with ⟨rfl, hn⟩ | ⟨g, cap2, cur, rfl, hbg, hg, hnc, hcm, hcs, htake⟩
    · simp [Builtin.append_, run_underlying ht, sizeOf, typeInfo, hi, Builtin.lenOf, Builtin.firstCells, loadCells, loadCellsFrom]
    · simp [Builtin.append_, run_underlying ht, sizeOf, typeInfo, hi, Builtin.lenOf, Builtin.firstCells, loadCells, loadCellsFrom, hnc, storeCells]
  | some ad =>
    have hnews : ∀ j u, xs[j]? = some u → W.cell? (ad.add j) = some u := by
      intro j u hu
      obtain ⟨g, off, ha, _, c⟩ := hc j u hu
      injection ha with ha
      subst ha
      have hadd : (⟨g, off, none⟩ : Addr).add j = ⟨g, off + j, none⟩ := by simp [Addr.add]
      rw [hadd]
      exact c
    have hbb : (L.length + xs.length) * bytes ≤ 1000000000 * 64 := Nat.mul_le_mul hl hby
    obtain ⟨v', w', hr, h2, h3, h4⟩ := run_append_own (P := Try.prog) W B TS ty E i0 _ 1 bytes ht hi hz0 hz1 hz2 hzs (by omega) v L.length L hown ad xs.length cap xs (by omega) hnews h1 (by unfold maxLen; omega) (by omega) hb
    exact ⟨v', w', hr, vals_conv h2 (by simp) rfl, h3⟩
/-- A slice of texts. -/
def strL (l : List ByteArray) : List Value := l.map Value.string
theorem strL_len (l : List ByteArray) : (strL l).length = l.length := by simp [strL]
theorem strL_at (l : List ByteArray) (k : Nat) : (strL l)[k]? = l[k]?.map Value.string := by simp [strL]
def StrsAt (w : World) (v : Value) (l : List ByteArray) : Prop := ∃ a cap, v = .slice a l.length cap ∧ l.length ≤ cap ∧ cap ≤ maxLen ∧ ∀ k t, l[k]? = some t → ∃ g off, a = some ⟨g, off, none⟩ ∧ g < w.heap.size ∧ w.cell? ⟨g, off + k, none⟩ = some (.string t)
theorem StrsAt.vals {w : World} {v : Value} {l : List ByteArray} (h : StrsAt w v l) : ValsAt w v (strL l) := by
  obtain ⟨a, cap, rfl, h1, h2, hc⟩ := h
  refine ⟨a, cap, by rw [strL_len], by rw [strL_len]; exact h1, h2, fun k t ht => ?_⟩
  rw [strL_at] at ht
  obtain ⟨s, hs, rfl⟩ := Option.map_eq_some_iff.1 ht
  exact hc k s hs
theorem ValsAt.strs {w : World} {v : Value} {l : List ByteArray} (h : ValsAt w v (strL l)) : StrsAt w v l := by
  obtain ⟨a, cap, hv, h1, h2, hc⟩ := h
  rw [strL_len] at hv h1
  exact ⟨a, cap, hv, h1, h2, fun k t ht => hc k (.string t) (by rw [strL_at, ht]; rfl)⟩
theorem StrsAt.below {w w' : World} {v : Value} {l : List ByteArray} (h : StrsAt w v l) (hb : Below w.heap.size w w') : StrsAt w' v l := (h.vals.below hb).strs
theorem strsAt_nil (w : World) : StrsAt w (.slice none 0 0) [] := (valsAt_nil w).strs (l := [])
theorem strL_one (l : List ByteArray) : ∀ u ∈ strL l, u.oneCell' = true := by
  intro u hu
  obtain ⟨s, _, rfl⟩ := List.mem_map.1 hu
  rfl
theorem strL_append (a b : List ByteArray) : strL (a ++ b) = strL a ++ strL b := by simp [strL]
theorem infoStr : (Try.prog.info? 9).map (fun i => (i.zero, i.size, i.bytes)) = some (some (.string { data := #[] }), 1, 16) := by kernel_rfl
theorem sappend_run (W : World) (B : Nat) (ty : TypeId) (v x : Value) (L l : List ByteArray) (hown : OwnV W B 9 v (strL L)) (hx : StrsAt W x l) (hl : L.length + l.length ≤ 1000000000) (hb : B ≤ W.heap.size) :
    ∃ v' w', (Builtin.append_ #[85, 85] ty #[v, x]).run Try.prog W = .ok v' w' ∧ OwnV w' B 9 v' (strL (L ++ l)) ∧ W.grownBy w' v.ownBlock := by
  rw [strL_append]
  exact vappend_run W B 85 9 ty _ 16 Try.underlying85 infoStr rfl (by omega) v x (strL L) (strL l) hown hx.vals (strL_one l) (by rw [strL_len, strL_len]; exact hl) hb
theorem str_yes {a b : ByteArray} (h : a = b) : (a.toList == b.toList) = true := by rw [h]; simp
theorem str_no {a b : ByteArray} (h : ¬ a = b) : (a.toList == b.toList) = false := by
  rw [ByteArray.toList_eq, ByteArray.toList_eq, beq_eq_false_iff_ne]
  intro e
  exact h (ByteArray.ext (Array.toList_inj.1 e))
theorem heap_new (w : World) (o : Obj) : (w.alloc o).heap[w.heap.size]? = some o := by
  show (w.heap.push o)[w.heap.size]? = _
  simp
theorem rct_size : (Try.prog.info? 86).map (·.size) = some 2 := by kernel_rfl
theorem pct_size : (Try.prog.info? 77).map (·.size) = some 2 := by kernel_rfl
/-- A struct of two cells, read whole. -/
theorem two_load (w : World) (g : Nat) (ty : TypeId) (x y : Value) (d : TypeDesc) (c0 : w.cell? ⟨g, 0, none⟩ = some x) (c1 : w.cell? ⟨g, 1, none⟩ = some y)
    (hu : Try.prog.underlying ty = some d) (hd : (match d with | .struct _ | .array _ _ => true | _ => false) = true) (hi : (Try.prog.info? ty).map (·.size) = some 2) :
    (loadVar ty ⟨g, 0, none⟩).run Try.prog w = .ok (.agg #[x, y]) w := by
  have hl : (loadCells ⟨g, 0, none⟩ 2).run Try.prog w = .ok #[x, y] w :=
    run_loadCells_list (P := Try.prog) w ⟨g, 0, none⟩ [x, y] (fun j v hv => by
      have hadd : (⟨g, 0, none⟩ : Addr).add j = ⟨g, j, none⟩ := by unfold Addr.add; split <;> simp_all
      rw [hadd]
      match j, hv with
      | 0, hv => simp at hv; rw [c0, hv]
      | 1, hv => simp at hv; rw [c1, hv]
      | j + 2, hv => simp at hv)
  cases hq : Try.prog.info? ty with
  | none => simp [hq] at hi
  | some i =>
    have hs : i.size = 2 := by simpa [hq] using hi
    have hagg : (isAgg ty).run Try.prog w = .ok true w := by
      unfold isAgg
      rw [Sem.run_bind, run_underlying hu w]
      cases d <;> simp_all
    simp [loadVar, Sem.run_bind, hagg, sizeOf, typeInfo, hq, hs, hl]
/-- A place in a cell, and a bool, as results. -/
theorem results_ct {fn : Func} {p q : Tmp} {ty : TypeId} (h : fn.results = #[.cell p ty, .tmp q]) (tmps : Array Value) (w : World) (g : Nat) (x y v : Value) (d : TypeDesc) (hp : tmps.getD p undef = .pointer (some ⟨g, 0, none⟩)) (hq : tmps.getD q undef = v) (c0 : w.cell? ⟨g, 0, none⟩ = some x) (c1 : w.cell? ⟨g, 1, none⟩ = some y)
    (hu : Try.prog.underlying ty = some d) (hd : (match d with | .struct _ | .array _ _ => true | _ => false) = true) (hi : (Try.prog.info? ty).map (·.size) = some 2) :
    (results fn tmps).run Try.prog w = .ok (.tuple #[.agg #[x, y], v]) w := by
  have hl := two_load w g ty x y d c0 c1 hu hd hi
  have hp' : tmps[p]?.getD undef = .pointer (some ⟨g, 0, none⟩) := by simpa using hp
  have hq' : tmps[q]?.getD undef = v := by simpa using hq
  simp [results, h, hp', hq', asAddr, hl]
/-- A place in a cell, a bool and an error, as results. -/
theorem results_ct3 {fn : Func} {p q r : Tmp} {ty : TypeId} (h : fn.results = #[.cell p ty, .tmp q, .tmp r]) (tmps : Array Value) (w : World) (g : Nat) (x y v u : Value) (d : TypeDesc) (hp : tmps.getD p undef = .pointer (some ⟨g, 0, none⟩)) (hq : tmps.getD q undef = v) (hr : tmps.getD r undef = u) (c0 : w.cell? ⟨g, 0, none⟩ = some x) (c1 : w.cell? ⟨g, 1, none⟩ = some y)
    (hu : Try.prog.underlying ty = some d) (hd : (match d with | .struct _ | .array _ _ => true | _ => false) = true) (hi : (Try.prog.info? ty).map (·.size) = some 2) :
    (results fn tmps).run Try.prog w = .ok (.tuple #[.agg #[x, y], v, u]) w := by
  have hl := two_load w g ty x y d c0 c1 hu hd hi
  have hp' : tmps[p]?.getD undef = .pointer (some ⟨g, 0, none⟩) := by simpa using hp
  have hq' : tmps[q]?.getD undef = v := by simpa using hq
  have hr' : tmps[r]?.getD undef = u := by simpa using hr
  simp [results, h, hp', hq', hr', asAddr, hl]
/-- A list, a place in a cell, a bool and an error, as results. -/
theorem results_ct4 {fn : Func} {o p q r : Tmp} {ty : TypeId} (h : fn.results = #[.tmp o, .cell p ty, .tmp q, .tmp r]) (tmps : Array Value) (w : World) (g : Nat) (z x y v u : Value) (d : TypeDesc) (ho : tmps.getD o undef = z) (hp : tmps.getD p undef = .pointer (some ⟨g, 0, none⟩)) (hq : tmps.getD q undef = v) (hr : tmps.getD r undef = u) (c0 : w.cell? ⟨g, 0, none⟩ = some x) (c1 : w.cell? ⟨g, 1, none⟩ = some y)
    (hu : Try.prog.underlying ty = some d) (hd : (match d with | .struct _ | .array _ _ => true | _ => false) = true) (hi : (Try.prog.info? ty).map (·.size) = some 2) :
    (results fn tmps).run Try.prog w = .ok (.tuple #[z, .agg #[x, y], v, u]) w := by
  have hl := two_load w g ty x y d c0 c1 hu hd hi
  have ho' : tmps[o]?.getD undef = z := by simpa using ho
  have hp' : tmps[p]?.getD undef = .pointer (some ⟨g, 0, none⟩) := by simpa using hp
  have hq' : tmps[q]?.getD undef = v := by simpa using hq
  have hr' : tmps[r]?.getD undef = u := by simpa using hr
  simp [results, h, ho', hp', hq', hr', asAddr, hl]
/-- Two cells of a block. -/
def Two (w : World) (g : Nat) (x y : Value) : Prop := w.cell? ⟨g, 0, none⟩ = some x ∧ w.cell? ⟨g, 1, none⟩ = some y ∧ w.frozen? ⟨g, 0, none⟩ = false ∧ w.frozen? ⟨g, 1, none⟩ = false
theorem Two.lt {w : World} {g : Nat} {x y : Value} (h : Two w g x y) : g < w.heap.size := vcell_lt h.1
theorem Two.below {w w' : World} {g : Nat} {x y : Value} (h : Two w g x y) (hb : Below w.heap.size w w') : Two w' g x y :=
  ⟨vcell_later hb h.1, vcell_later hb h.2.1, (hb.frozen (p := ⟨g, 0, none⟩) h.lt).trans h.2.2.1, (hb.frozen (p := ⟨g, 1, none⟩) h.lt).trans h.2.2.2⟩
theorem Two.alloc {w : World} {g : Nat} {x y : Value} (h : Two w g x y) (o : Obj) : Two (w.alloc o) g x y := h.below (Below.alloc (Below.refl _ _) (Nat.le_refl _) _)
theorem two_new (w : World) (x y : Value) (T : TypeId) : Two (w.alloc (.cells #[x, y] T)) w.heap.size x y := ⟨by simp [go_sem], by simp [go_sem], by simp [go_sem], by simp [go_sem]⟩
theorem Two.set {w : World} {g : Nat} {x y : Value} (h : Two w g x y) (x' y' : Value) : Two ((w.setCell ⟨g, 0, none⟩ x').setCell ⟨g, 1, none⟩ y') g x' y' := by
  obtain ⟨h0, h1, h2, h3⟩ := h
  have e1 : (w.setCell ⟨g, 0, none⟩ x').cell? ⟨g, 1, none⟩ = some y := by rw [World.cell?_setCell_other (h := by simp), h1]
  refine ⟨?_, World.cell?_setCell_same _ _ _ e1, by simpa using h2, by simpa using h3⟩
  rw [World.cell?_setCell_other (h := by simp)]
  exact World.cell?_setCell_same _ _ _ h0
theorem below_two {w w1 : World} {B g : Nat} (hb : Below B w w1) (hg : B ≤ g) (x y : Value) : Below B w ((w1.setCell ⟨g, 0, none⟩ x).setCell ⟨g, 1, none⟩ y) := (hb.setCell hg _).setCell hg _
theorem Two.lower {w w' : World} {B g : Nat} {x y : Value} (h : Two w g x y) (hb : Below B w w') (hg : g < B) : Two w' g x y :=
  ⟨(hb.cell (p := ⟨g, 0, none⟩) hg).trans h.1, (hb.cell (p := ⟨g, 1, none⟩) hg).trans h.2.1, (hb.frozen (p := ⟨g, 0, none⟩) hg).trans h.2.2.1, (hb.frozen (p := ⟨g, 1, none⟩) hg).trans h.2.2.2⟩
theorem OwnV.slice {w : World} {B : Nat} {E : TypeId} {v : Value} {xs : List Value} (h : OwnV w B E v xs) : ∃ a cap, v = .slice a xs.length cap := by
  rcases h.form with ⟨rfl, rfl⟩ | ⟨g, cap, rfl, _⟩
  · exact ⟨none, 0, rfl⟩
  · exact ⟨_, cap, rfl⟩
theorem str_lit (w : World) (s : ByteArray) (T : TypeId) : StrsAt (w.alloc (.cells #[.string s] T)) (.slice (some ⟨w.heap.size, 0, none⟩) 1 1) [s] := by
  refine ⟨_, 1, rfl, Nat.le_refl _, by unfold maxLen; omega, fun k t ht => ⟨w.heap.size, 0, rfl, by simp, ?_⟩⟩
  match k, ht with
  | 0, ht => simp only [List.getElem?_cons_zero, Option.some.injEq] at ht; subst ht; simp [go_sem]
  | k + 1, ht => simp at ht
theorem OwnV.two {w : World} {B g : Nat} {E : TypeId} {v : Value} {xs : List Value} (h : OwnV w B E v xs) (hg : g < B) (x y : Value) : OwnV ((w.setCell ⟨g, 0, none⟩ x).setCell ⟨g, 1, none⟩ y) B E v xs := by
  refine h.keep (fun k hk => ?_)
  have := (h.lt k hk).1
  rw [Below.heap_setCell _ _ _ _ (by simp; omega), Below.heap_setCell _ _ _ _ (by simp; omega)]
end Go.Proofs.Ytleicghfcffblaa
/- Plain facts of the places that adding texts one after another tells. -/
namespace Go.Proofs.Ytleicghfcffblaa
theorem newL_none (l : List ByteArray) (s : ByteArray) (h : isNew l s = false) : newL l s = l := by unfold newL; rw [h]; rfl
theorem newL_some (l : List ByteArray) (s : ByteArray) (h : isNew l s = true) : newL l s = l ++ [s] := by unfold newL; rw [h]; rfl
theorem newL_count (l : List ByteArray) (s : ByteArray) : (newL l s).length = l.length + (if isNew l s then 1 else 0) ∧ totF (newL l s) = totF l + (if isNew l s then s.size else 0) := by
  cases h : isNew l s with
  | true => rw [newL_some l s h, totF_append, totF_one]; simp
  | false => rw [newL_none l s h]; simp
/-- Where a text that was taken stands. -/
theorem newL_find (l : List ByteArray) (s : ByteArray) (h0 : 0 < s.size) (h1 : s.size ≤ 65536) (h2 : l.length < 2048) : findF s (newL l s) 0 = some (offA l s) ∧ lenA l s = s.size := by
  have he : eV l s = 0 := (eV_iff l s).2 ⟨h0, h1, .inr h2⟩
  refine ⟨?_, by unfold lenA; rw [if_pos he]⟩
  cases h : isNew l s with
  | true =>
    have hn := ((isNew_iff l s).1 h).2.2.1
    rw [newL_some l s h, findF_append, (findF_none s l 0).2 hn]
    unfold offA
    rw [if_pos h]
    simp [findF]
  | false =>
    rw [newL_none l s h]
    unfold offA
    rw [h, if_neg (by simp), if_pos he]
    cases hf : findF s l 0 with
    | some n => rfl
    | none =>
      have : isNew l s = true := (isNew_iff l s).2 ⟨h0, h1, (findF_none s l 0).1 hf, h2⟩
      rw [h] at this; cases this
theorem find_pre (s : ByteArray) (l r : List ByteArray) (n k : Nat) (h : findF s l n = some k) : findF s (l ++ r) n = some k := by
  rw [findF_append, h]
/-- The place that the k-th text is told. -/
def plA (m : List ByteArray) (k : Nat) : Nat × Nat := match m[k]? with
  | some t => (offA (addsF [] (m.take k)) t, lenA (addsF [] (m.take k)) t)
  | none => (0, 0)
theorem plA_at (m : List ByteArray) (k : Nat) (t : ByteArray) (h : m[k]? = some t) : plA m k = (offA (addsF [] (m.take k)) t, lenA (addsF [] (m.take k)) t) := by
  unfold plA; rw [h]
theorem addsF_append (l a b : List ByteArray) : addsF l (a ++ b) = addsF (addsF l a) b := by
  unfold addsF; rw [List.foldl_append]
theorem adds_split (m : List ByteArray) (k : Nat) : ∃ r, addsF [] m = addsF [] (m.take k) ++ r := by
  have h := addsF_append [] (m.take k) (m.drop k)
  rw [List.take_append_drop] at h
  obtain ⟨r, hr⟩ := addsF_pre (addsF [] (m.take k)) (m.drop k)
  exact ⟨r, h.trans hr⟩
theorem plA_find (m : List ByteArray) (k : Nat) (t : ByteArray) (h : m[k]? = some t) (h0 : 0 < t.size) (h1 : t.size ≤ 65536) (hm : m.length ≤ 2000) : findF t (addsF [] m) 0 = some (plA m k).1 ∧ (plA m k).2 = t.size := by
  have hl := (addsF_len [] (m.take k)).2
  rw [List.length_take, List.length_nil] at hl
  obtain ⟨f1, f2⟩ := newL_find (addsF [] (m.take k)) t h0 h1 (by omega)
  rw [plA_at m k t h]
  refine ⟨?_, f2⟩
  obtain ⟨r, hr⟩ := adds_split m (k + 1)
  rw [hr, addsF_step [] m k t h]
  exact find_pre _ _ _ _ _ f1
theorem plA_empty (m : List ByteArray) (k : Nat) (t : ByteArray) (h : m[k]? = some t) (h0 : t.size = 0) : plA m k = (0, 0) := by
  rw [plA_at m k t h]
  have he : eV (addsF [] (m.take k)) t = 2 := by unfold eV; rw [if_pos h0]
  have hn : isNew (addsF [] (m.take k)) t = false := by unfold isNew; rw [he]; rfl
  unfold offA lenA
  rw [hn, he]
  rfl
/-- What stands where a text was found is that text. -/
theorem get_found (l : List ByteArray) (hp : ∀ t ∈ l, 0 < t.size) (s : ByteArray) : ∀ n k, findF s l n = some k → getG (k : Int) (s.size : Int) l n = some s := by
  induction l with
  | nil => intro n k h; simp [findF] at h
  | cons t l ih =>
    intro n k h
    rw [findF] at h
    rw [getG]
    by_cases e : t = s
    · rw [if_pos e] at h; injection h with h; subst e; subst h; rw [if_pos ⟨rfl, rfl⟩]
    · rw [if_neg e] at h
      have := (findF_le s l _ _ h).1
      have h0 := hp t (by simp)
      rw [if_neg (fun h' => by have := h'.1; omega)]
      exact ih (fun x hx => hp x (by simp [hx])) _ _ h
theorem get_empty (l : List ByteArray) (hp : ∀ t ∈ l, 0 < t.size) (a : Int) : ∀ n, getG a 0 l n = none := by
  induction l with
  | nil => intro n; rfl
  | cons t l ih =>
    intro n
    rw [getG, if_neg (fun h => by have := hp t (by simp); have := h.2; omega)]
    exact ih (fun x hx => hp x (by simp [hx])) _
/-- The text of all has it there. -/
theorem cat_found (l : List ByteArray) (s : ByteArray) : ∀ n k, findF s l n = some k → (catF l).extract (k - n) (k - n + s.size) = s := by
  induction l with
  | nil => intro n k h; simp [findF] at h
  | cons t l ih =>
    intro n k h
    rw [findF] at h
    rw [catF]
    by_cases e : t = s
    · rw [if_pos e] at h; injection h with h; subst e; subst h
      rw [Nat.sub_self, Nat.zero_add]
      apply ByteArray.ext
      simp
    · rw [if_neg e] at h
      have hle := (findF_le s l _ _ h).1
      have h2 := ih _ _ h
      rw [show k - n = t.size + (k - (n + t.size)) by omega]
      conv => rhs; rw [← h2]
      apply ByteArray.ext
      simp [Nat.add_assoc]
theorem plA_same (m : List ByteArray) (i k : Nat) (s t : ByteArray) (hi : m[i]? = some s) (hk : m[k]? = some t) (h0 : 0 < s.size) (hs : s.size ≤ 65536) (ht : t.size ≤ 65536) (hm : m.length ≤ 2000) : plA m k = plA m i ↔ t = s := by
  obtain ⟨f1, f2⟩ := plA_find m i s hi h0 hs hm
  constructor
  · intro e
    by_cases h1 : t.size = 0
    · rw [plA_empty m k t hk h1] at e
      rw [← e] at f2
      simp at f2
      omega
    · obtain ⟨g1, g2⟩ := plA_find m k t hk (by omega) ht hm
      have hp := (goodP_nil.adds m).pos
      have a1 := get_found _ hp s 0 _ f1
      have a2 := get_found _ hp t 0 _ g1
      rw [e] at a2 g2
      rw [← g2, f2] at a2
      rw [a1] at a2
      injection a2 with a2
      exact a2.symm
  · rintro rfl
    obtain ⟨g1, g2⟩ := plA_find m k t hk h0 ht hm
    rw [f1] at g1
    injection g1 with g1
    exact Prod.ext g1.symm (g2.trans f2.symm)
def plL (m : List ByteArray) (n : Nat) : List (Nat × Nat) := (List.range n).map (plA m)
theorem plL_len (m : List ByteArray) (n : Nat) : (plL m n).length = n := by simp [plL]
theorem plL_succ (m : List ByteArray) (n : Nat) : plL m (n + 1) = plL m n ++ [plA m n] := by
  unfold plL; rw [List.range_succ, List.map_append]; rfl
theorem plL_at (m : List ByteArray) (n k : Nat) (h : k < n) : (plL m n)[k]? = some (plA m k) := by
  unfold plL; rw [List.getElem?_map, List.getElem?_range h]; rfl
theorem adds_split' (l m : List ByteArray) (k : Nat) : ∃ r, addsF l m = addsF l (m.take k) ++ r := by
  have h := addsF_append l (m.take k) (m.drop k)
  rw [List.take_append_drop] at h
  obtain ⟨r, hr⟩ := addsF_pre (addsF l (m.take k)) (m.drop k)
  exact ⟨r, h.trans hr⟩
theorem adds_found (l m : List ByteArray) (k : Nat) (t : ByteArray) (h : m[k]? = some t) (h0 : 0 < t.size) (h1 : t.size ≤ 65536) (hl : l.length + m.length ≤ 2000) : ∃ n, findF t (addsF l m) 0 = some n := by
  have hk := (addsF_len l (m.take k)).2
  rw [List.length_take] at hk
  obtain ⟨r, hr⟩ := adds_split' l m (k + 1)
  rw [addsF_step l m k t h] at hr
  have hm : t ∈ addsF l m := by
    rw [hr]
    exact List.mem_append_left _ (newL_mem _ t h0 h1 (by omega))
  have := (findF_mem t (addsF l m) 0).2 hm
  cases hf : findF t (addsF l m) 0 with
  | none => rw [hf] at this; cases this
  | some n => exact ⟨n, rfl⟩
theorem adds_same (l m : List ByteArray) (t : ByteArray) (n : Nat) (h : findF t l 0 = some n) : findF t (addsF l m) 0 = some n := by
  obtain ⟨r, hr⟩ := addsF_pre l m
  rw [hr]
  exact find_pre _ _ _ _ _ h
theorem find_empty (l : List ByteArray) (hp : ∀ t ∈ l, 0 < t.size) (t : ByteArray) (h : t.size = 0) : findF t l 0 = none := by
  rw [findF_none]
  intro hm
  have := hp t hm
  omega
theorem cat_pre (l m : List ByteArray) : (catF l).size ≤ (catF (addsF l m)).size ∧ (catF (addsF l m)).extract 0 (catF l).size = catF l := by
  obtain ⟨r, hr⟩ := addsF_pre l m
  rw [hr, cat_append]
  refine ⟨by rw [ByteArray.size_append]; omega, ?_⟩
  apply ByteArray.ext
  simp
end Go.Proofs.Ytleicghfcffblaa
