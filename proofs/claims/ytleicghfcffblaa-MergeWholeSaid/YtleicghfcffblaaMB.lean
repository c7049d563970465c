/- Several texts, one behind the other: La, Lb. -/
import Derived.WalkKit
import Derived.Lib.Hide
import Derived.Test.YtleicghfcffblaaMA
/- Plain words of a chart, no Go: tiles by rising identifiers. -/
namespace Go.Proofs.Ytleicghfcffblaa
abbrev It := Nat × ByteArray
def getI (id : Nat) : List It → Option ByteArray
  | [] => none
  | t :: l => if t.1 = id then some t.2 else getI id l
def delI (id : Nat) (l : List It) : List It := l.filter (fun t => decide (t.1 ≠ id))
def lowI (id : Nat) (l : List It) : List It := l.takeWhile (fun t => decide (t.1 < id))
def highI (id : Nat) (l : List It) : List It := l.dropWhile (fun t => decide (t.1 < id))
def putI (id : Nat) (s : ByteArray) (l : List It) : List It := lowI id (delI id l) ++ (id, s) :: highI id (delI id l)
def putE (l : List It) (id : Nat) (s : ByteArray) : Nat := if 6004799503160661 ≤ id then 8 else if s.size = 0 then 2 else if 65536 < s.size then 5 else if (getI id l).isNone && decide (2048 ≤ l.length) then 7 else 0
def putL (l : List It) (id : Nat) (s : ByteArray) : List It := if putE l id s = 0 then putI id s l else l
def bytesI : List It → Nat
  | [] => 0
  | t :: l => t.2.size + bytesI l
def ofR : List It → List It → List It → List It × Nat
  | _, acc, [] => (acc, 0)
  | seen, acc, t :: r => if (getI t.1 seen).isSome then ([], 22) else if putE acc t.1 t.2 ≠ 0 then ([], putE acc t.1 t.2) else ofR (seen ++ [t]) (putI t.1 t.2 acc) r
def ofI (l : List It) : List It × Nat := ofR [] [] l
def Rise (l : List It) : Prop := l.Pairwise (fun a b => a.1 < b.1)
/-- What a chart's tiles are. -/
structure GoodC (l : List It) : Prop where
  rise : Rise l
  low : ∀ t ∈ l, t.1 < 6004799503160661
  pos : ∀ t ∈ l, 0 < t.2.size
  short : ∀ t ∈ l, t.2.size ≤ 65536
  few : l.length ≤ 2048
theorem goodC_nil : GoodC [] := ⟨List.Pairwise.nil, by simp, by simp, by simp, by simp⟩
theorem bytesI_append (a b : List It) : bytesI (a ++ b) = bytesI a + bytesI b := by
  induction a with
  | nil => simp [bytesI]
  | cons t l ih => rw [List.cons_append, bytesI, bytesI, ih]; omega
theorem bytesI_take (l : List It) (k : Nat) : bytesI (l.take k) ≤ bytesI l := by
  have h := bytesI_append (l.take k) (l.drop k)
  rw [List.take_append_drop] at h
  omega
theorem bytesI_step (l : List It) (k : Nat) (t : It) (h : l[k]? = some t) : bytesI (l.take (k + 1)) = bytesI (l.take k) + t.2.size := by
  rw [List.take_add_one, h, bytesI_append]
  simp [bytesI]
theorem mem_bytes (l : List It) (t : It) (h : t ∈ l) : t.2.size ≤ bytesI l := by
  induction l with
  | nil => simp at h
  | cons x l ih =>
    rw [bytesI]
    rcases List.mem_cons.1 h with rfl | h
    · omega
    · have := ih h; omega
theorem idrop_at {α : Type} (l : List α) (k : Nat) (t : α) (h : l[k]? = some t) : l.drop k = t :: l.drop (k + 1) := by
  obtain ⟨hk, rfl⟩ := List.getElem?_eq_some_iff.1 h
  exact List.drop_eq_getElem_cons hk
theorem itake_at {α : Type} (l : List α) (k : Nat) (t : α) (h : l[k]? = some t) : l.take (k + 1) = l.take k ++ [t] := by
  rw [List.take_add_one, h]; rfl
theorem getI_none (id : Nat) (l : List It) : getI id l = none ↔ ∀ t ∈ l, t.1 ≠ id := by
  induction l with
  | nil => simp [getI]
  | cons t l ih =>
    rw [getI]
    by_cases h : t.1 = id
    · rw [if_pos h]; simp [h]
    · rw [if_neg h, ih]; simp [h]
theorem getI_append (id : Nat) (a b : List It) : getI id (a ++ b) = match getI id a with | some s => some s | none => getI id b := by
  induction a with
  | nil => rfl
  | cons t l ih =>
    rw [List.cons_append, getI, getI]
    by_cases h : t.1 = id
    · simp [h]
    · rw [if_neg h, if_neg h, ih]
theorem delI_step (id : Nat) (l : List It) (k : Nat) (t : It) (h : l[k]? = some t) : delI id (l.take (k + 1)) = if t.1 = id then delI id (l.take k) else delI id (l.take k) ++ [t] := by
  unfold delI
  rw [itake_at l k t h, List.filter_append]
  by_cases e : t.1 = id
  · rw [if_pos e]; simp [e]
  · rw [if_neg e]; simp [e]
theorem delI_len (id : Nat) (l : List It) : (delI id l).length ≤ l.length := List.length_filter_le _ _
theorem delI_bytes (id : Nat) (l : List It) : bytesI (delI id l) ≤ bytesI l := by
  unfold delI
  induction l with
  | nil => simp [bytesI]
  | cons t l ih =>
    rw [List.filter_cons]
    split
    · rw [bytesI, bytesI]; omega
    · rw [bytesI]; omega
theorem low_high (id : Nat) (l : List It) : lowI id l ++ highI id l = l := List.takeWhile_append_dropWhile
end Go.Proofs.Ytleicghfcffblaa
/- Rows of items (an identifier and a text): a slice that reads as a list of items (ItsAt), a row of one's own (OwnIt); appends. -/
namespace Go.Proofs.Ytleicghfcffblaa
open Go.RowKit
set_option maxRecDepth 20000
set_option linter.unusedVariables false
set_option linter.unusedSimpArgs false
def flatI : List It → List Value
  | [] => []
  | t :: l => .int .u64 t.1 :: .string t.2 :: flatI l
theorem flatI_len (l : List It) : (flatI l).length = l.length * 2 := by
  induction l with
  | nil => rfl
  | cons t l ih => simp [flatI, ih]; omega
theorem flatI_append (a b : List It) : flatI (a ++ b) = flatI a ++ flatI b := by
  induction a with
  | nil => rfl
  | cons t l ih => simp [flatI, ih]
theorem flatI_at (l : List It) : ∀ (k : Nat) (t : It), l[k]? = some t → (flatI l)[k * 2]? = some (.int .u64 t.1) ∧ (flatI l)[k * 2 + 1]? = some (.string t.2) := by
  induction l with
  | nil => intro k t h; simp at h
  | cons s l ih =>
    intro k t h
    cases k with
    | zero => simp at h; subst h; simp [flatI]
    | succ k =>
      have := ih k t (by simpa using h)
      rw [show (k + 1) * 2 = k * 2 + 1 + 1 by omega]
      simpa [flatI] using this
theorem flatI_one (l : List It) : ∀ u ∈ flatI l, u.oneCell' = true := by
  induction l with
  | nil => intro u h; simp [flatI] at h
  | cons t l ih =>
    intro u h
    simp only [flatI, List.mem_cons] at h
    rcases h with rfl | rfl | h
    · rfl
    · rfl
    · exact ih u h
def ItsAt (w : World) (v : Value) (l : List It) : Prop := ∃ a cap, v = .slice a l.length cap ∧ l.length ≤ cap ∧ cap ≤ maxLen ∧ ∀ k t, l[k]? = some t → ∃ g off, a = some ⟨g, off, none⟩ ∧ g < w.heap.size ∧ w.cell? ⟨g, off + k * 2, none⟩ = some (.int .u64 t.1) ∧ w.cell? ⟨g, off + k * 2 + 1, none⟩ = some (.string t.2)
theorem its_nil (w : World) : ItsAt w (.slice none 0 0) [] := ⟨none, 0, rfl, Nat.le_refl _, by simp, fun k t h => by simp at h⟩
theorem ItsAt.below {w w' : World} {v : Value} {l : List It} (h : ItsAt w v l) (hb : Below w.heap.size w w') : ItsAt w' v l := by
  obtain ⟨a, cap, rfl, h1, h2, hc⟩ := h
  refine ⟨a, cap, rfl, h1, h2, fun k t ht => ?_⟩
  obtain ⟨g, off, ha, hg, c0, c1⟩ := hc k t ht
  exact ⟨g, off, ha, Nat.lt_of_lt_of_le hg hb.size, vcell_later hb c0, vcell_later hb c1⟩
def OwnIt (w : World) (B : Nat) (E : TypeId) (v : Value) (l : List It) : Prop := w.ownsRow B E 2 v l.length (flatI l)
theorem ownIt_nil (w : World) (B : Nat) (E : TypeId) : OwnIt w B E (.slice none 0 0) [] := World.ownsRow_nil _ _ _ _
theorem OwnIt.lt {w : World} {B : Nat} {E : TypeId} {v : Value} {l : List It} (h : OwnIt w B E v l) : ∀ k, v.ownBlock = some k → B ≤ k ∧ k < w.heap.size := World.ownsRow.lt h
theorem OwnIt.below {w w' : World} {B : Nat} {E : TypeId} {v : Value} {l : List It} (h : OwnIt w B E v l) (hb : Below w.heap.size w w') : OwnIt w' B E v l := by
  have hlt := h.lt
  obtain ⟨h1, h2⟩ := h
  refine ⟨h1, ?_⟩
  rcases h2 with h2 | ⟨g, cap, cur, hv, hg, hh, r⟩
  · exact .inl h2
  · refine .inr ⟨g, cap, cur, hv, hg, ?_, r⟩
    rw [hb.block g (hlt g (by rw [hv]; rfl)).2]; exact hh
theorem OwnIt.mono {w : World} {B B' : Nat} {E : TypeId} {v : Value} {l : List It} (h : OwnIt w B E v l) (hb : B' ≤ B) : OwnIt w B' E v l := by
  obtain ⟨h1, h2⟩ := h
  refine ⟨h1, ?_⟩
  rcases h2 with h2 | ⟨g, cap, cur, hv, hg, r⟩
  · exact .inl h2
  · exact .inr ⟨g, cap, cur, hv, Nat.le_trans hb hg, r⟩
theorem OwnIt.itsAt {w : World} {B : Nat} {E : TypeId} {v : Value} {l : List It} (h : OwnIt w B E v l) : ItsAt w v l := by
  have hlt := h.lt
  have h' := h
  obtain ⟨h1, h2⟩ := h
  rcases h2 with ⟨rfl, hn⟩ | ⟨g, cap, cur, rfl, hg, hh, hle, hm, _⟩
  · obtain rfl : l = [] := List.eq_nil_of_length_eq_zero hn
    exact its_nil w
  · refine ⟨_, cap, rfl, hle, hm, fun k t ht => ⟨g, 0, rfl, (hlt g rfl).2, ?_⟩⟩
    have hk := (List.getElem?_eq_some_iff.1 ht).1
    obtain ⟨f0, f1⟩ := flatI_at l k t ht
    rw [Nat.zero_add]
    exact ⟨(World.ownsRow.cellAt h' (k * 2) (by omega)).trans f0, (World.ownsRow.cellAt h' (k * 2 + 1) (by omega)).trans f1⟩
theorem it_size : (Try.prog.info? 67).map (·.size) = some 2 := by kernel_rfl
theorem pit_size : (Try.prog.info? 58).map (·.size) = some 2 := by kernel_rfl
theorem infoIt : (Try.prog.info? 67).map (fun i => (i.zero, i.size, i.bytes)) = some (some (.agg #[.int .u64 0, .string { data := #[] }]), 2, 24) := by kernel_rfl
theorem infoPit : (Try.prog.info? 58).map (fun i => (i.zero, i.size, i.bytes)) = some (some (.agg #[.int .u64 0, .string { data := #[] }]), 2, 24) := by kernel_rfl
/-- An append of some items to a row of one's own, run. -/
theorem itappend_run (W : World) (B : Nat) (TS E ty : TypeId) (z : Value) (ht : Try.prog.underlying TS = some (.slice E)) (hI : (Try.prog.info? E).map (fun i => (i.zero, i.size, i.bytes)) = some (some z, 2, 24)) (hzs : z.cells.size = 2)
    (v x : Value) (L m : List It) (hown : OwnIt W B E v L) (hx : ItsAt W x m) (hl : L.length + m.length ≤ 1000000) (hb : B ≤ W.heap.size) :
    ∃ v' w', (Builtin.append_ #[TS, TS] ty #[v, x]).run Try.prog W = .ok v' w' ∧ OwnIt w' B E v' (L ++ m) ∧ W.grownBy w' v.ownBlock := by
  obtain ⟨a, cap, rfl, h1, h2, hc⟩ := hx
  have fin : ∀ {w' : World} {v' : Value}, w'.ownsRow B E 2 v' (L.length + m.length) (flatI L ++ flatI m) → OwnIt w' B E v' (L ++ m) := by
    intro w' v' h
    unfold OwnIt
    rw [flatI_append, List.length_append]
    exact h
  cases a with
  | none =>
    have hl0 : m = [] := by
      cases m with
      | nil => rfl
      | cons t l => obtain ⟨g, off, ha, _⟩ := hc 0 t rfl; cases ha
    subst hl0
    refine ⟨v, W, ?_, by rw [List.append_nil]; exact hown, World.grownBy.refl _ _⟩
    obtain ⟨i0, hi, hz0, hz1, hz2⟩ := info_parts hI
    rcases hown.2 with ⟨rfl, hn⟩ | ⟨g, cap2, cur, rfl, hbg, hg, hnc, hcm, hcs, htake⟩
    · simp [Builtin.append_, run_underlying ht, sizeOf, typeInfo, hi, Builtin.lenOf, Builtin.firstCells, loadCells, loadCellsFrom]
    · simp [Builtin.append_, run_underlying ht, sizeOf, typeInfo, hi, Builtin.lenOf, Builtin.firstCells, loadCells, loadCellsFrom, hnc, storeCells]
  | some ad =>
    have hnews : ∀ j u, (flatI m)[j]? = some u → W.cell? (ad.add j) = some u := by
      intro j u hu
      have hj : j < m.length * 2 := by rw [← flatI_len]; exact (List.getElem?_eq_some_iff.1 hu).1
      obtain ⟨t, ht⟩ : ∃ t, m[j / 2]? = some t := ⟨_, List.getElem?_eq_getElem (by omega)⟩
      obtain ⟨g, off, ha, _, c0, c1⟩ := hc (j / 2) t ht
      obtain ⟨f0, f1⟩ := flatI_at m (j / 2) t ht
      injection ha with ha
      subst ha
      have hadd : (⟨g, off, none⟩ : Addr).add j = ⟨g, off + j, none⟩ := by simp [Addr.add]
      rw [hadd]
      rcases (by omega : j = j / 2 * 2 ∨ j = j / 2 * 2 + 1) with e | e
      · rw [e, f0] at hu; rw [← hu]; rw [show off + j = off + j / 2 * 2 from by omega]; exact c0
      · rw [e, f1] at hu; rw [← hu]; rw [show off + j = off + j / 2 * 2 + 1 from by omega]; exact c1
    obtain ⟨i0, hi, hz0, hz1, hz2⟩ := info_parts hI
    obtain ⟨v', w', hr, h2, h3, h4⟩ := run_append_own (P := Try.prog) W B TS ty E i0 _ 2 24 ht hi hz0 hz1 hz2 hzs (by omega) v L.length (flatI L) hown ad m.length cap (flatI m) (flatI_len m) hnews (flatI_one m) (by unfold maxLen; omega) (by omega) hb
    exact ⟨v', w', hr, fin h2, h3⟩
theorem it_lit (w : World) (x : Nat) (s : ByteArray) (T : TypeId) : ItsAt (w.alloc (.cells #[.int .u64 x, .string s] T)) (.slice (some ⟨w.heap.size, 0, none⟩) 1 1) [(x, s)] := by
  refine ⟨_, 1, rfl, Nat.le_refl _, by unfold maxLen; omega, fun k t ht => ⟨w.heap.size, 0, rfl, by simp, ?_⟩⟩
  match k, ht with
  | 0, ht => simp only [List.getElem?_cons_zero, Option.some.injEq] at ht; subst ht; exact ⟨by simp [go_sem], by simp [go_sem]⟩
  | k + 1, ht => simp at ht
end Go.Proofs.Ytleicghfcffblaa
