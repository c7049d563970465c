/- The contract of fields: the header that stands behind the version of a text, and the byte of Clustered. -/
import Derived.Test.YtodjdeilaimjaaaHn
namespace Go.Proofs.Ytodjdeilaimjaaa
open Go.RowKit
set_option linter.unusedVariables false
/-- Values of one row stored from a place on. -/
def setsC (C : Array Value) (o : Nat) (val : Nat → Value) : Nat → Array Value
  | 0 => C
  | k + 1 => (setsC C o val k).setIfInBounds (o + k) (val k)
theorem setsN_row {w : World} {g o : Nat} {C : Array Value} {T : TypeId} {f : Nat × Nat} (val : Nat → Value) (k : Nat) (H : w.heap[g]? = some (.cells C T f)) : (setsN w (fun i => ⟨g, o + i, none⟩) val k).heap[g]? = some (.cells (setsC C o val k) T f) := by
  induction k with
  | zero => exact H
  | succ k ih => exact setCell_blk ih _
theorem setsN_below {w0 w : World} {B : Nat} (ps : Nat → Addr) (val : Nat → Value) (k : Nat) (h : Below B w0 w) (hp : ∀ i, i < k → B ≤ (ps i).block) : Below B w0 (setsN w ps val k) := by
  induction k with
  | zero => exact h
  | succ k ih => exact (ih (fun i hi => hp i (by omega))).setCell (hp k (by omega)) _
/-- Where fields stands: the scan, the result, the header and the byte of Clustered, block by block. -/
def FAt (w wx : World) (t : ByteArray) (q : Int) (a : Hd) (c : Int) : Prop :=
  ScanAt wx w.heap.size t q ∧ HAt wx (w.heap.size + 1) 32 zeroH ∧ HAt wx (w.heap.size + 2) 32 a ∧ wx.heap[w.heap.size + 3]? = some (.cells #[.int .u8 c] 5 (0, 0)) ∧ Below w.heap.size w wx
theorem FAt.big {w wx : World} {t : ByteArray} {q c : Int} {a : Hd} (h : FAt w wx t q a c) : w.heap.size + 4 ≤ wx.heap.size := by
  rcases Nat.lt_or_ge (w.heap.size + 3) wx.heap.size with h' | h'
  · omega
  · have := h.2.2.2.1
    rw [Array.getElem?_eq_none h'] at this
    cases this
theorem FAt.scan {w wx : World} {t : ByteArray} {q c : Int} {a : Hd} (h : FAt w wx t q a c) : wx.cell? ⟨w.heap.size, 0, none⟩ = some (.string t) ∧ wx.cell? ⟨w.heap.size, 1, none⟩ = some (.int .i64 q) ∧ wx.cell? ⟨w.heap.size, 2, none⟩ = some (.int .i64 0) ∧ ∀ o, wx.frozen? ⟨w.heap.size, o, none⟩ = false := h.1.cells
theorem FAt.on {w wx : World} {t : ByteArray} {q r c : Int} {a : Hd} (h : FAt w wx t q a c) : FAt w (((wx.setCell ⟨w.heap.size, 0, none⟩ (.string t)).setCell ⟨w.heap.size, 1, none⟩ (.int .i64 r)).setCell ⟨w.heap.size, 2, none⟩ (.int .i64 0)) t r a c := by
  have hk : ∀ k, k ≠ w.heap.size → (((wx.setCell ⟨w.heap.size, 0, none⟩ (.string t)).setCell ⟨w.heap.size, 1, none⟩ (.int .i64 r)).setCell ⟨w.heap.size, 2, none⟩ (.int .i64 0)).heap[k]? = wx.heap[k]? := fun k hk => by rw [heap_other hk, heap_other hk, heap_other hk]
  exact ⟨h.1.on, (hk _ (by omega)).trans h.2.1, (hk _ (by omega)).trans h.2.2.1, (hk _ (by omega)).trans h.2.2.2.1, ((h.2.2.2.2.setCell (Nat.le_refl _) _).setCell (Nat.le_refl _) _).setCell (Nat.le_refl _) _⟩
theorem heap_alloc_old {w : World} {o : Obj} {k : Nat} (h : k < w.heap.size) : (w.alloc o).heap[k]? = w.heap[k]? := ((Below.refl w.heap.size w).alloc (Nat.le_refl _) o).block k h
theorem open_head {w : World} {b k : Nat} {T : TypeId} {h : Hd} (H : HAt w b T h) (hk : k < 24) : OpenAt w ⟨b, k, none⟩ := by
  refine ⟨⟨_, (cell_blk H k).trans (Array.getElem?_eq_getElem (by rw [cH_size]; exact hk))⟩, ?_⟩
  unfold HAt at H
  simp [World.frozen?, H]
theorem open_one {w : World} {b : Nat} {v : Value} {T : TypeId} (H : w.heap[b]? = some (.cells #[v] T (0, 0))) : OpenAt w ⟨b, 0, none⟩ :=
  ⟨⟨v, cell_blk H 0⟩, by simp [World.frozen?, H]⟩
theorem take_other {wx w' : World} {P : Obj} {g n : Nat} {off : Nat → Nat} {val : Nat → Value} (hb : Below (wx.alloc P).heap.size (setsN (wx.alloc P) (fun i => ⟨g, off i, none⟩) val n) w') (k : Nat) (h1 : k < wx.heap.size) (h2 : k ≠ g) : w'.heap[k]? = wx.heap[k]? := by
  rw [hb.block k (by rw [World.size_alloc]; omega), setsN_heap _ _ _ _ _ (fun i _ => h2), heap_alloc_old h1]
theorem FAt.take {w wx w' : World} {t : ByteArray} {q c : Int} {a b : Hd} {o n : Nat} {val : Nat → Value} {P : Obj} (h : FAt w wx t q a c)
    (hb : Below (wx.alloc P).heap.size (setsN (wx.alloc P) (fun i => ⟨w.heap.size + 2, o + i, none⟩) val n) w') (hC : setsC (cH a) o val n = cH b) : FAt w w' t q b c := by
  have hz := h.big
  have ha : (wx.alloc P).heap.size = wx.heap.size + 1 := World.size_alloc ..
  have hk : ∀ k, k < wx.heap.size → k ≠ w.heap.size + 2 → w'.heap[k]? = wx.heap[k]? := fun k h1 h2 => by
    rw [hb.block k (by omega), setsN_heap _ _ _ _ _ (fun i _ => h2), heap_alloc_old h1]
  refine ⟨(hk _ (by omega) (by omega)).trans h.1, (hk _ (by omega) (by omega)).trans h.2.1, ?_, (hk _ (by omega) (by omega)).trans h.2.2.2.1, ?_⟩
  · unfold HAt
    rw [hb.block _ (by omega), ← hC]
    exact setsN_row val n ((heap_alloc_old (by omega)).trans h.2.2.1)
  · exact (setsN_below _ val n (h.2.2.2.2.alloc (by omega) _) (fun i _ => by show w.heap.size ≤ w.heap.size + 2; omega)).trans (hb.mono (by omega))
theorem ptrs_built {w : World} (ps : Nat → Addr) (n : Nat) (cs : Array Value) (T : TypeId) (hn : n ≤ 4) (hc : ∀ i, i < n → cs[i]? = some (.pointer (some (ps i))) ∧ w.heap.size ≠ (ps i).block ∧ (ps i).spot = none) : PtrsAt (w.alloc (.cells cs T)) (.slice (some ⟨w.heap.size, 0, none⟩) n n) ps n := by
  refine ⟨_, _, rfl, Nat.le_refl _, by unfold maxLen; omega, by rw [World.size_alloc]; omega, fun i hi => ⟨?_, (hc i hi).2⟩⟩
  exact (cell_blk (heap_alloc_new w _) i).trans (hc i hi).1
theorem takeW_f {w wx : World} {t : ByteArray} {q : Nat} {a b : Hd} {c : Int} (o n : Nat) (cs : Array Value) (T : TypeId) (hF : FAt w wx t q a c) (hm : t.size ≤ maxLen) (hn : n ≤ 4) (ho : o + n ≤ 24) (hq : q + 8 * n ≤ t.size)
    (hcs : ∀ i, i < n → cs[i]? = some (.pointer (some ⟨w.heap.size + 2, o + i, none⟩))) (hC : setsC (cH a) o (fun k => .int .u64 (nmB t (q + 8 * k) 8)) n = cH b) :
    Calls Try.prog 50 #[.agg #[.string t, .int .i64 q, .int .i64 0], .int .i64 8, .slice (some ⟨wx.heap.size, 0, none⟩) n n] (wx.alloc (.cells cs T)) fun e w' => e = .returned (.agg #[.string t, .int .i64 ((q + 8 * n : Nat) : Int), .int .i64 0]) ∧ FAt w w' t q b c ∧ ∀ k, k < wx.heap.size → k ≠ w.heap.size + 2 → w'.heap[k]? = wx.heap[k]? := by
  have hz := hF.big
  refine (takeW_any t q n _ (fun i => ⟨w.heap.size + 2, o + i, none⟩) _ hm (ptrs_built _ n cs T hn (fun i hi => ⟨hcs i hi, by show wx.heap.size ≠ w.heap.size + 2; omega, rfl⟩)) (fun i hi => ⟨open_head (T := 32) (h := a) ((heap_alloc_old (by omega)).trans hF.2.2.1) (by omega), by rw [World.size_alloc]; show w.heap.size + 2 < _; omega⟩) hq).mono ?_
  rintro e w' ⟨rfl, hb⟩
  exact ⟨rfl, hF.take hb hC, take_other hb⟩
theorem takeI_f {w wx : World} {t : ByteArray} {q : Nat} {a b : Hd} {c : Int} (o n : Nat) (cs : Array Value) (T : TypeId) (hF : FAt w wx t q a c) (hm : t.size ≤ maxLen) (hn : n ≤ 4) (ho : o + n ≤ 24) (hq : q + 1 * n ≤ t.size)
    (hcs : ∀ i, i < n → cs[i]? = some (.pointer (some ⟨w.heap.size + 2, o + i, none⟩))) (hC : setsC (cH a) o (fun k => .int .i64 (nmB t (q + 1 * k) 1)) n = cH b) :
    Calls Try.prog 52 #[.agg #[.string t, .int .i64 q, .int .i64 0], .int .i64 1, .slice (some ⟨wx.heap.size, 0, none⟩) n n] (wx.alloc (.cells cs T)) fun e w' => e = .returned (.agg #[.string t, .int .i64 ((q + 1 * n : Nat) : Int), .int .i64 0]) ∧ FAt w w' t q b c := by
  have hz := hF.big
  refine (takeI_any t q n _ (fun i => ⟨w.heap.size + 2, o + i, none⟩) _ hm (ptrs_built _ n cs T hn (fun i hi => ⟨hcs i hi, by show wx.heap.size ≠ w.heap.size + 2; omega, rfl⟩)) (fun i hi => ⟨open_head (T := 32) (h := a) ((heap_alloc_old (by omega)).trans hF.2.2.1) (by omega), by rw [World.size_alloc]; show w.heap.size + 2 < _; omega⟩) hq).mono ?_
  rintro e w' ⟨rfl, hb⟩
  exact ⟨rfl, hF.take hb hC⟩
theorem takeDeg_f {w wx : World} {t : ByteArray} {q : Nat} {a b : Hd} {c : Int} (o n : Nat) (cs : Array Value) (T : TypeId) (hF : FAt w wx t q a c) (hm : t.size ≤ maxLen) (hn : n ≤ 4) (ho : o + n ≤ 24) (hq : q + 4 * n ≤ t.size)
    (hcs : ∀ i, i < n → cs[i]? = some (.pointer (some ⟨w.heap.size + 2, o + i, none⟩))) (hC : setsC (cH a) o (fun k => .int .i64 (sgB t (q + 4 * k))) n = cH b) :
    Calls Try.prog 53 #[.agg #[.string t, .int .i64 q, .int .i64 0], .slice (some ⟨wx.heap.size, 0, none⟩) n n] (wx.alloc (.cells cs T)) fun e w' => e = .returned (.agg #[.string t, .int .i64 ((q + 4 * n : Nat) : Int), .int .i64 0]) ∧ FAt w w' t q b c := by
  have hz := hF.big
  refine (takeDeg_any t q n _ (fun i => ⟨w.heap.size + 2, o + i, none⟩) _ hm (ptrs_built _ n cs T hn (fun i hi => ⟨hcs i hi, by show wx.heap.size ≠ w.heap.size + 2; omega, rfl⟩)) (fun i hi => ⟨open_head (T := 32) (h := a) ((heap_alloc_old (by omega)).trans hF.2.2.1) (by omega), by rw [World.size_alloc]; show w.heap.size + 2 < _; omega⟩) hq).mono ?_
  rintro e w' ⟨rfl, hb⟩
  exact ⟨rfl, hF.take hb hC⟩
/-- The four bytes of Clustered, Inner, Outer, Kind: the first of them into a block of its own. -/
def psB (n : Nat) (i : Nat) : Addr := if i = 0 then ⟨n + 3, 0, none⟩ else ⟨n + 2, 11 + i, none⟩
theorem takeB_f {w wx : World} {t : ByteArray} {a b : Hd} {c : Int} (T : TypeId) (hF : FAt w wx t 96 a c) (hm : t.size ≤ maxLen) (hq : 100 ≤ t.size)
    (hC : (((cH a).setIfInBounds 12 (.int .u8 (nmB t 97 1))).setIfInBounds 13 (.int .u8 (nmB t 98 1))).setIfInBounds 14 (.int .u8 (nmB t 99 1)) = cH b) :
    Calls Try.prog 51 #[.agg #[.string t, .int .i64 96, .int .i64 0], .int .i64 1, .slice (some ⟨wx.heap.size, 0, none⟩) 4 4] (wx.alloc (.cells #[.pointer (some ⟨w.heap.size + 3, 0, none⟩), .pointer (some ⟨w.heap.size + 2, 12, none⟩), .pointer (some ⟨w.heap.size + 2, 13, none⟩), .pointer (some ⟨w.heap.size + 2, 14, none⟩)] T)) fun e w' => e = .returned (.agg #[.string t, .int .i64 100, .int .i64 0]) ∧ FAt w w' t 96 b (nmB t 96 1) := by
  have hz := hF.big
  have ha : ∀ P, (wx.alloc P).heap.size = wx.heap.size + 1 := fun P => World.size_alloc ..
  refine (takeB_any t 96 4 _ (psB w.heap.size) _ hm (ptrs_built _ 4 _ T (by omega) ?_) ?_ hq).mono ?_
  · intro i hi
    obtain rfl | rfl | rfl | rfl : i = 0 ∨ i = 1 ∨ i = 2 ∨ i = 3 := by omega
    all_goals exact ⟨rfl, by simp [psB]; omega, rfl⟩
  · intro i hi
    obtain rfl | rfl | rfl | rfl : i = 0 ∨ i = 1 ∨ i = 2 ∨ i = 3 := by omega
    · exact ⟨open_one (T := 5) ((heap_alloc_old (by omega)).trans hF.2.2.2.1), by rw [ha]; show w.heap.size + 3 < _; omega⟩
    all_goals exact ⟨open_head (T := 32) (h := a) ((heap_alloc_old (by omega)).trans hF.2.2.1) (by omega), by rw [ha]; show w.heap.size + 2 < _; omega⟩
  rintro e w' ⟨rfl, hb⟩
  generalize Obj.cells _ T = P at hb
  have hk : ∀ k, k < wx.heap.size → k ≠ w.heap.size + 2 → k ≠ w.heap.size + 3 → w'.heap[k]? = wx.heap[k]? := fun k h1 h2 h3 => by
    rw [hb.block k (by rw [ha]; omega), setsN_heap _ _ _ _ _ (fun i _ => by unfold psB; split <;> assumption), heap_alloc_old h1]
  refine ⟨rfl, (hk _ (by omega) (by omega) (by omega)).trans hF.1, (hk _ (by omega) (by omega) (by omega)).trans hF.2.1, ?_, ?_, ?_⟩
  · unfold HAt
    rw [hb.block _ (by rw [ha]; omega), ← hC]
    have H : (wx.alloc P).heap[w.heap.size + 2]? = some (.cells (cH a) 32 (0, 0)) := (heap_alloc_old (by omega)).trans hF.2.2.1
    exact setCell_blk (i := 14) (setCell_blk (i := 13) (setCell_blk (i := 12) ((heap_other (i := 0) (v := .int .u8 (nmB t 96 1)) (show w.heap.size + 2 ≠ w.heap.size + 3 by omega)).trans H) _) _) _
  · rw [hb.block _ (by rw [ha]; omega)]
    have H : (wx.alloc P).heap[w.heap.size + 3]? = some (.cells #[.int .u8 c] 5 (0, 0)) := (heap_alloc_old (by omega)).trans hF.2.2.2.1
    have hne : w.heap.size + 3 ≠ w.heap.size + 2 := by omega
    exact (heap_other (i := 14) hne).trans ((heap_other (i := 13) hne).trans ((heap_other (i := 12) hne).trans (setCell_blk (i := 0) H (.int .u8 (nmB t 96 1)))))
  · exact (setsN_below _ _ 4 (hF.2.2.2.2.alloc (by omega) _) (fun i _ => by unfold psB; split <;> simp)).trans (hb.mono (by rw [ha]; omega))
theorem start_f (w : World) (t : ByteArray) (R : Obj) : FAt w (((((w.alloc (.cells #[.string t, .int .i64 8, .int .i64 0] 66)).alloc (.cells (cH zeroH) 32)).alloc (.cells (cH zeroH) 32)).alloc (.cells #[.int .u8 0] 5)).alloc R) t 8 zeroH 0 ∧ (((((w.alloc (.cells #[.string t, .int .i64 8, .int .i64 0] 66)).alloc (.cells (cH zeroH) 32)).alloc (.cells (cH zeroH) 32)).alloc (.cells #[.int .u8 0] 5)).alloc R).heap[w.heap.size + 4]? = (w.alloc R).heap[w.heap.size]? := by
  obtain ⟨w1, h1⟩ : ∃ x, w.alloc (.cells #[.string t, .int .i64 8, .int .i64 0] 66) = x := ⟨_, rfl⟩
  have z1 : w1.heap.size = w.heap.size + 1 := by rw [← h1, World.size_alloc]
  have e1 : w1.heap[w.heap.size]? = _ := h1 ▸ heap_alloc_new w _
  have b1 : Below w.heap.size w w1 := h1 ▸ (Below.refl _ _).alloc (Nat.le_refl _) _
  rw [h1]; clear h1
  obtain ⟨w2, h2⟩ : ∃ x, w1.alloc (.cells (cH zeroH) 32) = x := ⟨_, rfl⟩
  have z2 : w2.heap.size = w.heap.size + 2 := by rw [← h2, World.size_alloc, z1]
  have e2 : w2.heap[w.heap.size + 1]? = _ := z1 ▸ h2 ▸ heap_alloc_new w1 _
  have e12 : w2.heap[w.heap.size]? = _ := (h2 ▸ heap_alloc_old (by omega)).trans e1
  have b2 : Below w.heap.size w w2 := h2 ▸ b1.alloc (by omega) _
  rw [h2]; clear h2
  obtain ⟨w3, h3⟩ : ∃ x, w2.alloc (.cells (cH zeroH) 32) = x := ⟨_, rfl⟩
  have z3 : w3.heap.size = w.heap.size + 3 := by rw [← h3, World.size_alloc, z2]
  have e3 : w3.heap[w.heap.size + 2]? = _ := z2 ▸ h3 ▸ heap_alloc_new w2 _
  have e13 : w3.heap[w.heap.size]? = _ := (h3 ▸ heap_alloc_old (by omega)).trans e12
  have e23 : w3.heap[w.heap.size + 1]? = _ := (h3 ▸ heap_alloc_old (by omega)).trans e2
  have b3 : Below w.heap.size w w3 := h3 ▸ b2.alloc (by omega) _
  rw [h3]; clear h3
  obtain ⟨w4, h4⟩ : ∃ x, w3.alloc (.cells #[.int .u8 0] 5) = x := ⟨_, rfl⟩
  have z4 : w4.heap.size = w.heap.size + 4 := by rw [← h4, World.size_alloc, z3]
  have e4 : w4.heap[w.heap.size + 3]? = _ := z3 ▸ h4 ▸ heap_alloc_new w3 _
  have e14 : w4.heap[w.heap.size]? = _ := (h4 ▸ heap_alloc_old (by omega)).trans e13
  have e24 : w4.heap[w.heap.size + 1]? = _ := (h4 ▸ heap_alloc_old (by omega)).trans e23
  have e34 : w4.heap[w.heap.size + 2]? = _ := (h4 ▸ heap_alloc_old (by omega)).trans e3
  have b4 : Below w.heap.size w w4 := h4 ▸ b3.alloc (by omega) _
  rw [h4]; clear h4
  refine ⟨⟨(heap_alloc_old (by omega)).trans e14, (heap_alloc_old (by omega)).trans e24, (heap_alloc_old (by omega)).trans e34, (heap_alloc_old (by omega)).trans e4, b4.alloc (by omega) _⟩, ?_⟩
  rw [← z4, heap_alloc_new, heap_alloc_new]
/-- A header of which the first k sections are told. -/
def uK (T : Hd) (k : Nat) : Hd := { zeroH with rf := if 0 < k then T.rf else 0, rl := if 0 < k then T.rl else 0, mf := if 1 < k then T.mf else 0, ml := if 1 < k then T.ml else 0, lf := if 2 < k then T.lf else 0, ll := if 2 < k then T.ll else 0, df := if 3 < k then T.df else 0, dl := if 3 < k then T.dl else 0 }
theorem uK_set (t : ByteArray) (k : Nat) (h : k < 4) : setsC (cH (uK (telB t) k)) (2 * k) (fun j => .int .u64 (nmB t (8 + 16 * k + 8 * j) 8)) 2 = cH (uK (telB t) (k + 1)) := by
  obtain rfl | rfl | rfl | rfl : k = 0 ∨ k = 1 ∨ k = 2 ∨ k = 3 := by omega
  all_goals simp [setsC, cH, uK, telB_rf, telB_rl, telB_mf, telB_ml, telB_lf, telB_ll, telB_df, telB_dl]
def fA (T : Hd) : Hd := { uK T 4 with ad := T.ad, en := T.en, co := T.co }
def fB (T : Hd) : Hd := { fA T with inn := T.inn, out := T.out, knd := T.knd }
def fC (T : Hd) : Hd := { fB T with z0 := T.z0, z1 := T.z1 }
def fD (T : Hd) : Hd := { fC T with lo0 := T.lo0, la0 := T.la0, lo1 := T.lo1, la1 := T.la1 }
def fE (T : Hd) : Hd := { fD T with zm := T.zm }
def fF (T : Hd) : Hd := { T with cl := false }
theorem fA_set (t : ByteArray) : setsC (cH (uK (telB t) 4)) 8 (fun j => .int .u64 (nmB t (72 + 8 * j) 8)) 3 = cH (fA (telB t)) := by
  simp only [setsC, cH, uK, fA, telB_ad, telB_en, telB_co, List.setIfInBounds_toArray, List.set_cons_zero, List.set_cons_succ, Nat.reduceAdd, Nat.reduceMul]
theorem fB_set (t : ByteArray) : (((cH (fA (telB t))).setIfInBounds 12 (.int .u8 (nmB t 97 1))).setIfInBounds 13 (.int .u8 (nmB t 98 1))).setIfInBounds 14 (.int .u8 (nmB t 99 1)) = cH (fB (telB t)) := by
  simp only [cH, fB, fA, telB_inn, telB_out, telB_knd, List.setIfInBounds_toArray, List.set_cons_zero, List.set_cons_succ]
theorem fC_set (t : ByteArray) : setsC (cH (fB (telB t))) 15 (fun j => .int .i64 (nmB t (100 + 1 * j) 1)) 2 = cH (fC (telB t)) := by
  simp only [setsC, cH, fB, fC, telB_z0, telB_z1, List.setIfInBounds_toArray, List.set_cons_zero, List.set_cons_succ, Nat.reduceAdd, Nat.reduceMul]
theorem fD_set (t : ByteArray) : setsC (cH (fC (telB t))) 17 (fun j => .int .i64 (sgB t (102 + 4 * j))) 4 = cH (fD (telB t)) := by
  simp only [setsC, cH, fD, fC, telB_lo0, telB_la0, telB_lo1, telB_la1, List.setIfInBounds_toArray, List.set_cons_zero, List.set_cons_succ, Nat.reduceAdd, Nat.reduceMul]
theorem fE_set (t : ByteArray) : setsC (cH (fD (telB t))) 21 (fun j => .int .i64 (nmB t (118 + 1 * j) 1)) 1 = cH (fE (telB t)) := by
  simp only [setsC, cH, fE, fD, telB_zm, List.setIfInBounds_toArray, List.set_cons_zero, List.set_cons_succ, Nat.reduceAdd, Nat.reduceMul]
theorem fF_set (t : ByteArray) : setsC (cH (fE (telB t))) 22 (fun j => .int .i64 (sgB t (119 + 4 * j))) 2 = cH (fF (telB t)) := by
  simp only [setsC, cH, fF, fE, fD, fC, fB, fA, uK, zeroH, telB_lon, telB_lat, List.setIfInBounds_toArray, List.set_cons_zero, List.set_cons_succ, Nat.reduceAdd, Nat.reduceMul]
  simp
theorem fG_set (T : Hd) : (cH (fF T)).setIfInBounds 11 (.bool T.cl) = cH T := by
  simp only [cH, fF, List.setIfInBounds_toArray, List.set_cons_zero, List.set_cons_succ]
end Go.Proofs.Ytodjdeilaimjaaa
