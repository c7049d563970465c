/- Contracts of the document's at, part and degree: numbers at places of a text. -/
import Derived.Test.YtodjdeilaimjaaaHk
import Derived.Test.YtodjdeilaimjaaaHj
import Derived.Test.YtodjdeilaimjaaaB
namespace Go.Proofs.Ytodjdeilaimjaaa
open Go.RowKit
set_option linter.unusedVariables false
theorem rat_any (t : ByteArray) (i n : Nat) (w : World) (hm : t.size ≤ maxLen) (h8 : n ≤ 8) (hi : i + n ≤ t.size) : Calls Try.prog 36 #[.string t, .int .i64 i, .int .i64 n] w fun e w' => e = .returned (.int .u64 (nmB t i n)) ∧ w = w' := by
  have hx : (t.extract i (i + n)).size ≤ 8 := by simp; omega
  obtain ⟨x, hxx⟩ : ∃ x, t.extract i (i + n) = x := ⟨_, rfl⟩
  have HN : Hid (nmB t i n = numB x.data.toList) := Lib.hid (by rw [← hxx]; rfl)
  rw [hxx] at hx
  have h1 : (0 : Int) ≤ (i : Int) := by omega
  have h2 : (i : Int) ≤ (i : Int) + (n : Int) := by omega
  have h3 : (i : Int) + (n : Int) ≤ (t.size : Int) := by omega
  unfold maxLen at hm
  go_enter Try.func36, Try.ntmps36
  go_wp2_with fail
  refine (rnumber_any x _ hx).mono ?_
  rintro e w' ⟨rfl, rfl⟩
  go_wp2_with fail
  go_ret
  exact ⟨ret_int HN.out.symm, rfl⟩
theorem rpart_any (t : ByteArray) (i : Nat) (w : World) (hm : t.size ≤ maxLen) (hi : i + 16 ≤ t.size) : Calls Try.prog 35 #[.string t, .int .i64 i] w fun e w' => e = .returned (.agg #[.int .u64 (nmB t i 8), .int .u64 (nmB t (i + 8) 8)]) ∧ Below w.heap.size w w' := by
  have K0 := Lib.hid (fun W => rat_any t i 8 W hm (by omega) (by omega))
  have e : ((i + 8 : Nat) : Int) = (i : Int) + 8 := by omega
  have K1 : Hid (∀ W, Calls Try.prog 36 #[.string t, .int .i64 ((i : Int) + 8), .int .i64 8] W fun e w' => e = .returned (.int .u64 (nmB t (i + 8) 8)) ∧ W = w') := Lib.hid (fun W => by
    have := rat_any t (i + 8) 8 W hm (by omega) (by omega)
    rw [e] at this
    exact this)
  have hw : IntKind.i64.wrap ((i : Int) + 8) = ((i + 8 : Nat) : Int) := by unfold maxLen at hm; rw [IntKind.wrap_i64] <;> omega
  clear hm hi e
  go_enter Try.func35, Try.ntmps35
  go_wp2_with fail
  refine (K0.out _).mono ?_
  rintro e w' ⟨rfl, rfl⟩
  go_wp2_with fail
  refine (K1.out _).mono ?_
  rintro e w' ⟨rfl, rfl⟩
  obtain ⟨x, hx⟩ : ∃ x, nmB t i 8 = x := ⟨_, rfl⟩
  obtain ⟨y, hy⟩ : ∃ y, nmB t (i + 8) 8 = y := ⟨_, rfl⟩
  rw [hx, hy]
  go_wp2_with fail
  refine bodyPost_ret (v := .agg #[.int .u64 x, .int .u64 y]) (by simp [results, Try.results35, go_sem]) rfl ⟨by rw [hx, hy], by go_grown⟩
theorem rdegree_any (t : ByteArray) (i : Nat) (w : World) (hm : t.size ≤ maxLen) (hi : i + 4 ≤ t.size) : Calls Try.prog 37 #[.string t, .int .i64 i] w fun e w' => e = .returned (.int .i64 (sgB t i)) ∧ w = w' := by
  have K0 := Lib.hid (fun W => rat_any t i 4 W hm (by omega) (by omega))
  have hb := nmB_bd t i 4 hi
  have K1 := Lib.hid (fun W => rsigned_yes (nmB t i 4) 4 W hb.1 (by omega) (by omega))
  have HS : Hid (sgn (nmB t i 4) 4 = sgB t i) := Lib.hid rfl
  clear hb hm hi
  go_enter Try.func37, Try.ntmps37
  go_wp2_with fail
  refine (K0.out _).mono ?_
  rintro e w' ⟨rfl, rfl⟩
  go_wp2_with fail
  refine (K1.out _).mono ?_
  rintro e w' ⟨rfl, rfl⟩
  go_wp2_with fail
  go_ret
  exact ⟨ret_int HS.out, rfl⟩
/-- A header's cells stored, as the walk spells it. -/
theorem stores_head (w : World) (g : Nat) (T : TypeId) (old h : Hd) (H : HAt w g T old) : ∃ w', Sem.run Try.prog (storeCells ⟨g, 0, none⟩ (cH h).toList) w = .ok () w' ∧ Put24 w g T h w' := by
  refine ⟨w.setRow g (cH h), ?_, put24 w g T old h H⟩
  have := run_storeCells_from (P := Try.prog) g T (cH h).toList 0 (cH old) w H (by simp [cH_size]) (fun v hv => (Array.all_eq_true_iff_forall_mem.1 (cH_one h)) v (by simpa using hv))
  simpa using this
/-- Cells of one block stored one after another. -/
def setF (w : World) (g : Nat) : List (Nat × Value) → World
  | [] => w
  | (i, v) :: l => setF (w.setCell ⟨g, i, none⟩ v) g l
def setA (C : Array Value) : List (Nat × Value) → Array Value
  | [] => C
  | (i, v) :: l => setA (C.setIfInBounds i v) l
theorem setF_blk {w : World} {g : Nat} {C : Array Value} {T : TypeId} {f : Nat × Nat} (l : List (Nat × Value)) (H : w.heap[g]? = some (.cells C T f)) : (setF w g l).heap[g]? = some (.cells (setA C l) T f) := by
  induction l generalizing w C with
  | nil => exact H
  | cons p l ih => exact ih (setCell_blk H p.2)
theorem setF_other {w : World} {g k : Nat} (l : List (Nat × Value)) (hk : k ≠ g) : (setF w g l).heap[k]? = w.heap[k]? := by
  induction l generalizing w with
  | nil => rfl
  | cons p l ih => exact (ih (w := w.setCell ⟨g, p.1, none⟩ p.2)).trans (heap_other hk)
theorem setF_below {w w0 : World} {g B : Nat} (l : List (Nat × Value)) (hb : Below B w0 w) (hB : B ≤ g) : Below B w0 (setF w g l) := by
  induction l generalizing w with
  | nil => exact hb
  | cons p l ih => exact ih (hb.setCell hB _)
/-- What stores of fields of a header leave, behind a draw. -/
theorem setF_end {w2 w : World} {g b B : Nat} {T U : TypeId} {a c z : Hd} (l : List (Nat × Value)) (hC : setA (cH a) l = cH c) (H : HAt w2 g T a) (hz : HAt w2 b U z) (hn : b ≠ g) (hu : Below B w w2) (hB : B ≤ g) :
    HAt (setF w2 g l).drew g T c ∧ HAt (setF w2 g l).drew b U z ∧ Below B w (setF w2 g l).drew := by
  refine ⟨?_, ?_, (setF_below l hu hB).drew⟩
  · unfold HAt
    rw [drew_heap, ← hC]
    exact setF_blk l H
  · unfold HAt
    rw [drew_heap, setF_other l hn]
    exact hz
theorem setF_plain {w2 w : World} {g b B : Nat} {T U : TypeId} {a c z : Hd} (l : List (Nat × Value)) (hC : setA (cH a) l = cH c) (H : HAt w2 g T a) (hz : HAt w2 b U z) (hn : b ≠ g) (hu : Below B w w2) (hB : B ≤ g) :
    HAt (setF w2 g l) g T c ∧ HAt (setF w2 g l) b U z ∧ Below B w (setF w2 g l) := by
  refine ⟨?_, ?_, setF_below l hu hB⟩
  · unfold HAt
    rw [← hC]
    exact setF_blk l H
  · unfold HAt
    rw [setF_other l hn]
    exact hz
theorem setF_to {X w2 w : World} {g b B : Nat} {T U : TypeId} {a c z : Hd} (l : List (Nat × Value)) (hX : X = (setF w2 g l).drew) (hC : setA (cH a) l = cH c) (H : HAt w2 g T a) (hz : HAt w2 b U z) (hn : b ≠ g) (hu : Below B w w2) (hB : B ≤ g) :
    HAt X g T c ∧ HAt X b U z ∧ Below B w X := hX ▸ setF_end l hC H hz hn hu hB
theorem setF_to2 {X w2 w : World} {g b B : Nat} {T U : TypeId} {a c z : Hd} (l : List (Nat × Value)) (hX : X = setF w2 g l) (hC : setA (cH a) l = cH c) (H : HAt w2 g T a) (hz : HAt w2 b U z) (hn : b ≠ g) (hu : Below B w w2) (hB : B ≤ g) :
    HAt X g T c ∧ HAt X b U z ∧ Below B w X := hX ▸ setF_plain l hC H hz hn hu hB
/-- A header that is filled step by step. -/
def uA (T : Hd) : Hd := { zeroH with rf := T.rf, rl := T.rl, mf := T.mf, ml := T.ml, lf := T.lf, ll := T.ll, df := T.df, dl := T.dl }
def rB (T : Hd) : Hd := { uA T with ad := T.ad, en := T.en, co := T.co, cl := T.cl }
def rC (T : Hd) : Hd := { rB T with inn := T.inn, out := T.out, knd := T.knd, z0 := T.z0, z1 := T.z1 }
def rD (T : Hd) : Hd := { rC T with lo0 := T.lo0, la0 := T.la0, lo1 := T.lo1, la1 := T.la1 }
theorem rB_set (T : Hd) : setA (cH (uA T)) [(8, .int .u64 T.ad), (9, .int .u64 T.en), (10, .int .u64 T.co), (11, .bool T.cl)] = cH (rB T) := by
  simp only [setA, cH, uA, rB, List.setIfInBounds_toArray, List.set_cons_zero, List.set_cons_succ]
theorem rC_set (T : Hd) : setA (cH (rB T)) [(12, .int .u8 T.inn), (13, .int .u8 T.out), (14, .int .u8 T.knd), (15, .int .i64 T.z0), (16, .int .i64 T.z1)] = cH (rC T) := by
  simp only [setA, cH, rB, rC, List.setIfInBounds_toArray, List.set_cons_zero, List.set_cons_succ]
theorem rD_set (T : Hd) : setA (cH (rC T)) [(17, .int .i64 T.lo0), (18, .int .i64 T.la0), (19, .int .i64 T.lo1), (20, .int .i64 T.la1)] = cH (rD T) := by
  simp only [setA, cH, rC, rD, List.setIfInBounds_toArray, List.set_cons_zero, List.set_cons_succ]
theorem rE_set (T : Hd) : setA (cH (rD T)) [(21, .int .i64 T.zm), (22, .int .i64 T.lon), (23, .int .i64 T.lat)] = cH T := by
  simp only [setA, cH, rD, rC, rB, uA, List.setIfInBounds_toArray, List.set_cons_zero, List.set_cons_succ]
/-- A header and a number as results. -/
theorem results_two {fn : Func} {p q : Tmp} {ty : TypeId} (h : fn.results = #[.cell p ty, .tmp q]) (tmps : Array Value) (w : World) (g : Nat) (a : Hd) (v : Value)
    (hp : tmps.getD p undef = .pointer (some ⟨g, 0, none⟩)) (hq : tmps.getD q undef = v) (hl : (loadVar ty ⟨g, 0, none⟩).run Try.prog w = .ok (.agg (cH a)) w) :
    (results fn tmps).run Try.prog w = .ok (.tuple #[.agg (cH a), v]) w := by
  have hp' : tmps[p]?.getD undef = .pointer (some ⟨g, 0, none⟩) := by simpa using hp
  have hq' : tmps[q]?.getD undef = v := by simpa using hq
  simp [results, h, hp', hq', asAddr, hl]
theorem results_head {fn : Func} {p q : Tmp} (h : fn.results = #[.cell p 32, .tmp q]) (tmps : Array Value) (w : World) (g : Nat) (T : TypeId) (a : Hd) (v : Value) (hp : tmps.getD p undef = .pointer (some ⟨g, 0, none⟩)) (hq : tmps.getD q undef = v) (H : HAt w g T a) :
    (results fn tmps).run Try.prog w = .ok (.tuple #[.agg (cH a), v]) w := results_two h tmps w g a v hp hq (run_loadVar_row w g T _ (cH a) (0, 0) _ H Try.underlying32 rfl head_size)
theorem rresults_head {fn : Func} {p q : Tmp} (h : fn.results = #[.cell p 26, .tmp q]) (tmps : Array Value) (w : World) (g : Nat) (T : TypeId) (a : Hd) (v : Value) (hp : tmps.getD p undef = .pointer (some ⟨g, 0, none⟩)) (hq : tmps.getD q undef = v) (H : HAt w g T a) :
    (results fn tmps).run Try.prog w = .ok (.tuple #[.agg (cH a), v]) w := results_two h tmps w g a v hp hq (run_loadVar_row w g T _ (cH a) (0, 0) _ H Try.underlying26 rfl rhead_size)
end Go.Proofs.Ytodjdeilaimjaaa
