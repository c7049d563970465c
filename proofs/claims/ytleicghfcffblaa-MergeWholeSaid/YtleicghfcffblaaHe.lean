/- Rows of items: an append to a row that has no room, slices.Grow at no row, slices.Concat of two rows, slices.Clone. -/
import Derived.Test.YtleicghfcffblaaHd
import Derived.Lib.AppendZerosOnto
import Derived.Lib.AppendZeros
import Derived.Deep.AppendSrc
namespace Go.Proofs.Ytleicghfcffblaa
open Go.RowKit
set_option maxRecDepth 20000
set_option linter.unusedVariables false
set_option linter.unusedSimpArgs false
/-- The cells of a row of items. -/
theorem its_cells {W : World} {ad : Addr} {n cap : Nat} {l : List It} (h : ItsAt W (.slice (some ad) n cap) l) : ∀ j u, (flatI l)[j]? = some u → W.cell? (ad.add j) = some u := by
  obtain ⟨a, cap', he, h1, h2, hc⟩ := h
  cases he
  intro j u hu
  have hj : j < l.length * 2 := by rw [← flatI_len]; exact (List.getElem?_eq_some_iff.1 hu).1
  obtain ⟨t, ht⟩ : ∃ t, l[j / 2]? = some t := ⟨_, List.getElem?_eq_getElem (by omega)⟩
  obtain ⟨g, off, ha, _, c0, c1⟩ := hc (j / 2) t ht
  obtain ⟨f0, f1⟩ := flatI_at l (j / 2) t ht
  injection ha with ha
  subst ha
  have hadd : (⟨g, off, none⟩ : Addr).add j = ⟨g, off + j, none⟩ := by simp [Addr.add]
  rw [hadd]
  rcases (by omega : j = j / 2 * 2 ∨ j = j / 2 * 2 + 1) with e | e
  · rw [e, f0] at hu; rw [← hu]; rw [show off + j = off + j / 2 * 2 from by omega]; exact c0
  · rw [e, f1] at hu; rw [← hu]; rw [show off + j = off + j / 2 * 2 + 1 from by omega]; exact c1
theorem its_first {W : World} {a : Option Addr} {n cap : Nat} {l : List It} (h : ItsAt W (.slice a n cap) l) (W' : World) (hW : ∀ p, W'.cell? p = W.cell? p) : (Builtin.firstCells 2 n (.slice a n cap)).run Try.prog W' = .ok (flatI l).toArray W' := by
  have h' := h
  obtain ⟨a', cap', he, h1, h2, hc⟩ := h'
  cases he
  cases a with
  | none =>
    have hl0 : l = [] := by
      cases l with
      | nil => rfl
      | cons t l => obtain ⟨g, off, ha, _⟩ := hc 0 t rfl; cases ha
    subst hl0
    exact run_firstCells_none W' 2 0 0 cap
  | some ad => exact run_firstCells_some W' 2 l.length ad l.length cap (flatI l) (flatI_len l) (fun j u hu => (hW _).trans (its_cells h j u hu))
theorem its_src {W : World} {a : Option Addr} {n cap : Nat} {l : List It} {TS E : TypeId} (hk : Try.prog.underlying TS = some (.slice E)) (h : ItsAt W (.slice a n cap) l) : Src Try.prog 2 TS (.slice a n cap) l.length (flatI l) W := by
  have h' := h
  obtain ⟨a', cap', he, h1, h2, hc⟩ := h'
  cases he
  cases a with
  | none =>
    have hl0 : l = [] := by
      cases l with
      | nil => rfl
      | cons t l => obtain ⟨g, off, ha, _⟩ := hc 0 t rfl; cases ha
    subst hl0
    exact Src.ofNil W hk cap
  | some ad => exact Src.ofSlice W hk ad l.length cap (flatI l) (flatI_len l) (its_cells h) (flatI_one l)
/-- An append to a row that has no room: a row of one's own. -/
theorem itgrow_run (W : World) (ty : TypeId) (a : Option Addr) (n cap : Nat) (x : Value) (L m : List It) (hv : ItsAt W (.slice a n cap) L) (hx : ItsAt W x m) (hg : cap < L.length + m.length) (hl : L.length + m.length ≤ 1000000) :
    ∃ v' w', (Builtin.append_ #[25, 25] ty #[.slice a n cap, x]).run Try.prog W = .ok v' w' ∧ OwnIt w' W.heap.size 58 v' (L ++ m) ∧ Below W.heap.size W w' := by
  obtain ⟨i0, hi, hz0, hz1, hz2⟩ := info_parts infoPit
  have hx' := hx
  obtain ⟨ax, cx, rfl, _⟩ := hx'
  have hn : n = L.length := by obtain ⟨_, _, e, _⟩ := hv; cases e; rfl
  subst hn
  have hsrc := its_src Try.underlying25 hx
  have hold := its_first hv W.drew (fun p => by simp)
  have hr := run_append_grow_src (P := Try.prog) W 25 25 ty 58 i0 _ Try.underlying25 hi hz0 a L.length cap (flatI L) (by rw [hz1]; exact hold) (.slice ax m.length cx) m.length (flatI m) (by rw [hz1]; exact hsrc) hg (by omega) (growslice_fits hg (by rw [hz2]; omega))
  refine ⟨_, _, hr, ?_, ((Below.refl W.heap.size W).drew).alloc (Nat.le_refl _) _⟩
  have hge := grownCap_ge W (L.length + m.length) cap 58
  have hle := grownCap_le_maxLen W (L.length + m.length) cap 58 (by unfold maxLen; omega)
  generalize grownCap W (L.length + m.length) cap 58 = G at *
  unfold OwnIt
  rw [List.length_append]
  refine ⟨by rw [flatI_len, List.length_append], .inr ⟨W.heap.size, G, _, rfl, Nat.le_refl _, heap_new W.drew _, hge, hle, ?_, ?_⟩⟩
  · simp only [Array.size_append, size_zeroCells]
    have e1 : (flatI L ++ flatI m).toArray.size = (L.length + m.length) * 2 := by simp [flatI_len]; omega
    rw [e1]
    show (L.length + m.length) * 2 + (G - (L.length + m.length)) * 2 = G * 2
    omega
  · rw [flatI_append]
    simp only [Array.toList_append]
    rw [List.take_append_of_le_length (by simp [flatI_len]; omega)]
    exact List.take_of_length_le (by simp [flatI_len]; omega)
def GrowEnd (w : World) (e : Ending) (w' : World) : Prop := ∃ v, e = .returned v ∧ OwnIt w' w.heap.size 58 v [] ∧ Below w.heap.size w w'
/-- The first j of two. -/
def two2 (j : Nat) (a c : List It) : List It := (if 0 < j then a else []) ++ (if 1 < j then c else [])
def pick2 {α : Type} (j : Nat) (x y : α) : α := if j = 0 then x else y
theorem two2_next (j : Nat) (hj : j < 2) (a c : List It) : two2 (j + 1) a c = two2 j a c ++ pick2 j a c := by
  rcases (by omega : j = 0 ∨ j = 1) with rfl | rfl <;> simp [two2, pick2]
theorem two2_len (j : Nat) (a c : List It) : (two2 j a c).length ≤ a.length + c.length := by
  unfold two2
  rw [List.length_append]
  split <;> split <;> simp
def ConcEnd (l : List It) (w : World) (e : Ending) (w' : World) : Prop := ∃ v, e = .returned v ∧ OwnIt w' w.heap.size 58 v l ∧ Below w.heap.size w w'
/-- A row that nobody else has. -/
def CloneEnd (l : List It) (w : World) (x : Ending) (w' : World) : Prop := ∃ v', x = .returned v' ∧ ItsAt w' v' l ∧ Below w.heap.size w w'
theorem slice_some_eq (ad : Addr) (n c : Nat) (w : World) : (Op.equal 25 (.slice (some ad) n c) (.slice none 0 0)).run Try.prog w = .ok false w := by
  rw [Op.equal, show Op.maxDepth = 9999 + 1 from rfl]
  unfold Op.equalIn
  simp [go_sem]
theorem slice_some_eql (ad : Addr) (n c : Nat) (w : World) : (binOp BinOp.eql 25 (.slice (some ad) n c) (.slice none 0 0)).run Try.prog w = .ok (.bool false) w := by
  simp [binOp, go_sem, slice_some_eq]
theorem slice_none_eq (c : Nat) (w : World) : (Op.equal 25 (.slice none 0 c) (.slice none 0 0)).run Try.prog w = .ok true w := by
  rw [Op.equal, show Op.maxDepth = 9999 + 1 from rfl]
  unfold Op.equalIn
  simp [go_sem]
theorem slice_none_eql (c : Nat) (w : World) : (binOp BinOp.eql 25 (.slice none 0 c) (.slice none 0 0)).run Try.prog w = .ok (.bool true) w := by
  simp [binOp, go_sem, slice_none_eq]
set_option maxHeartbeats 1000000 in
theorem clone_any (v : Value) (l : List It) (w : World) (hv : ItsAt w v l) (hl : l.length ≤ 200000) : Calls Try.prog 45 #[v] w (CloneEnd l w) := by
  obtain ⟨i0, hi, hz0, hz1, hz2⟩ := info_parts infoPit
  have HI0 := Lib.hid hi
  have HZ0 := Lib.hid hz0
  have HZ1 := Lib.hid hz1
  have HZ2 := Lib.hid hz2
  clear hi hz0 hz1 hz2
  have hv' := hv
  obtain ⟨a, cap, rfl, h1, h2, hc⟩ := hv'
  cases a with
  | none =>
    have hl0 : l = [] := by
      cases l with
      | nil => rfl
      | cons t l => obtain ⟨g, off, ha, _⟩ := hc 0 t rfl; cases ha
    subst hl0
    clear hc hv
    have hneq := fun W => slice_none_eql cap W
    go_enter Try.func45, Try.ntmps45
    go_wp2_with fail
    go_ret
    exact ⟨_, rfl, its_nil _, Below.refl _ _⟩
  | some ad =>
    have HV := Lib.hid hv
    have hneq := fun W => slice_some_eql ad l.length cap W
    clear hc hv
    go_enter Try.func45, Try.ntmps45
    have HO : Hid ((w.alloc (.cells #[] 58)).ownsRow w.heap.size 58 2 (.slice (some ⟨w.heap.size, 0, none⟩) 0 0) 0 (flatI [])) := Lib.hid ⟨rfl, .inr ⟨w.heap.size, 0, #[], rfl, Nat.le_refl _, heap_new w _, Nat.le_refl _, Nat.zero_le _, rfl, rfl⟩⟩
    have HNW := Lib.hid (its_cells (HV.out.below ((Below.refl w.heap.size w).alloc (Nat.le_refl _) (.cells #[] 58))))
    go_wp2_with (first | (at_builtin; refine wpList_append_own _ rfl _ _ 25 rfl w.heap.size 58 i0 (.agg #[.int .u64 0, .string { data := #[] }]) 2 24 Try.underlying25 HI0.out HZ0.out HZ1.out HZ2.out rfl (by decide) _ _ _ rfl HO.out ad l.length cap (flatI l) rfl (flatI_len l) HNW.out (flatI_one l) ?c4 ?c5 ?c6 ?_) | fail)
    case c4 => unfold maxLen; omega
    case c5 => omega
    case c6 => simp
    intro v' w5 hown' hgr _
    have hO : OwnIt w5 w.heap.size 58 v' l := by
      have h := hown'
      unfold OwnIt
      simpa [flatI] using h
    have hb5 : Below w.heap.size w w5 := ((Below.refl w.heap.size w).alloc (Nat.le_refl _) _).grown hgr (by simp) (fun g hg => (World.ownsRow.lt HO.out g hg).1)
    have HO5 := Lib.hid hO
    have HB5 := Lib.hid hb5
    clear hown' hgr hO hb5
    go_wp2_with fail
    go_ret
    exact ⟨_, rfl, HO5.out.itsAt, HB5.out⟩
theorem items_any (s : Value) (l : List It) (w : World) (h : ChS w s l) :
    Calls Try.prog 19 #[.agg #[s]] w fun e w' => ∃ v, e = .returned v ∧ ItsAt w' v l ∧ Below w.heap.size w w' := by
  have HC := Lib.hid (fun W (hb : Below w.heap.size w W) => clone_any s l W (h.its.below hb) (by have := h.good.few; omega))
  obtain ⟨a, n, c, rfl⟩ := h.form
  clear h
  go_enter Try.func19, Try.ntmps19
  go_wp2_with fail
  refine (HC.out _ (by go_grown)).mono ?_
  rintro e w1 ⟨v', rfl, hv, hb⟩
  have H1 := Lib.hid (((Below.refl w.heap.size w).alloc (Nat.le_refl _) _).trans (hb.mono (by simp)))
  have HV := Lib.hid hv
  clear hb hv
  go_wp2_with fail
  go_ret
  exact ⟨_, rfl, HV.out, H1.out⟩
end Go.Proofs.Ytleicghfcffblaa
