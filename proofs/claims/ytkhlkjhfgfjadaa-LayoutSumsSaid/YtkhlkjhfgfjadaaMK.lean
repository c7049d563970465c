/- Several texts, one behind the other: Hk, Hl, Hm. -/
import Derived.Test.YtkhlkjhfgfjadaaMH
import Derived.Test.YtkhlkjhfgfjadaaMA
import Derived.Test.YtkhlkjhfgfjadaaMG
/- Plain: what a text's bytes tell of a header, number by number, as both sides read them. -/
namespace Go.Proofs.Ytkhlkjhfgfjadaa
open Go.RowKit
set_option maxRecDepth 20000
set_option linter.unusedVariables false
/-- A text's bytes. -/
def bl (t : ByteArray) : List Int := t.data.toList.map (fun c => (c.toNat : Int))
theorem bl_len (t : ByteArray) : (bl t).length = t.size := by simp [bl]
theorem bl_byts (t : ByteArray) : Byts (bl t) := by
  intro c hc
  obtain ⟨b, _, rfl⟩ := List.mem_map.1 hc
  have := byte_bd b
  omega
theorem numB_numH (l : List UInt8) : numB l = numH (l.map (fun c => (c.toNat : Int))) := by
  induction l with
  | nil => rfl
  | cons c l ih => rw [numB, List.map_cons, numH, ih]
theorem extract_list (t : ByteArray) (i j : Nat) : (t.extract i j).data.toList = (t.data.toList.drop i).take (j - i) := by
  simp [ByteArray.data_extract]
/-- The number of w bytes at a place. -/
def nmB (t : ByteArray) (o w : Nat) : Int := numB (t.extract o (o + w)).data.toList
theorem nmB_eq (t : ByteArray) (o w : Nat) : nmB t o w = numH (((bl t).drop o).take w) := by
  unfold nmB bl
  rw [numB_numH, extract_list, Nat.add_sub_cancel_left, List.map_take, List.map_drop]
theorem nmB_bd (t : ByteArray) (o w : Nat) (h : o + w ≤ t.size) : 0 ≤ nmB t o w ∧ nmB t o w < p256 w := by
  rw [nmB_eq]
  have hb : Byts (((bl t).drop o).take w) := fun c hc => bl_byts t c (List.mem_of_mem_drop (List.mem_of_mem_take hc))
  have := numH_bd _ hb
  rw [List.length_take, List.length_drop, bl_len, Nat.min_eq_left (by omega)] at this
  exact this
theorem nmB_one (t : ByteArray) (o : Nat) : nmB t o 1 = (bl t).getD o 0 := by rw [nmB_eq, num_one]
/-- The number that a text's bytes tell, a number with a sign of four bytes. -/
def sgB (t : ByteArray) (o : Nat) : Int := sgn (nmB t o 4) 4
theorem sg_sgn (x : Int) (h0 : 0 ≤ x) (h1 : x < 4294967296) : sg x = sgn x 4 := by
  unfold sg sgn
  simp only [Int.reduceMul, Int.reduceSub, Int.reduceToNat, Int.reducePow]
  rw [Int.emod_eq_of_lt h0 h1]
/-- The header that a text's bytes tell. -/
def telB (t : ByteArray) : Hd := ⟨nmB t 8 8, nmB t 16 8, nmB t 24 8, nmB t 32 8, nmB t 40 8, nmB t 48 8, nmB t 56 8, nmB t 64 8, nmB t 72 8, nmB t 80 8, nmB t 88 8, nmB t 96 1 == 1, nmB t 97 1, nmB t 98 1, nmB t 99 1, nmB t 100 1, nmB t 101 1, sgB t 102, sgB t 106, sgB t 110, sgB t 114, nmB t 118 1, sgB t 119, sgB t 123⟩
theorem telB_rf (t : ByteArray) : (telB t).rf = nmB t 8 8 := by rw [telB]
theorem telB_rl (t : ByteArray) : (telB t).rl = nmB t 16 8 := by rw [telB]
theorem telB_mf (t : ByteArray) : (telB t).mf = nmB t 24 8 := by rw [telB]
theorem telB_ml (t : ByteArray) : (telB t).ml = nmB t 32 8 := by rw [telB]
theorem telB_lf (t : ByteArray) : (telB t).lf = nmB t 40 8 := by rw [telB]
theorem telB_ll (t : ByteArray) : (telB t).ll = nmB t 48 8 := by rw [telB]
theorem telB_df (t : ByteArray) : (telB t).df = nmB t 56 8 := by rw [telB]
theorem telB_dl (t : ByteArray) : (telB t).dl = nmB t 64 8 := by rw [telB]
theorem telB_ad (t : ByteArray) : (telB t).ad = nmB t 72 8 := by rw [telB]
theorem telB_en (t : ByteArray) : (telB t).en = nmB t 80 8 := by rw [telB]
theorem telB_co (t : ByteArray) : (telB t).co = nmB t 88 8 := by rw [telB]
theorem telB_cl (t : ByteArray) : (telB t).cl = (nmB t 96 1 == 1) := by rw [telB]
theorem telB_inn (t : ByteArray) : (telB t).inn = nmB t 97 1 := by rw [telB]
theorem telB_out (t : ByteArray) : (telB t).out = nmB t 98 1 := by rw [telB]
theorem telB_knd (t : ByteArray) : (telB t).knd = nmB t 99 1 := by rw [telB]
theorem telB_z0 (t : ByteArray) : (telB t).z0 = nmB t 100 1 := by rw [telB]
theorem telB_z1 (t : ByteArray) : (telB t).z1 = nmB t 101 1 := by rw [telB]
theorem telB_lo0 (t : ByteArray) : (telB t).lo0 = sgB t 102 := by rw [telB]
theorem telB_la0 (t : ByteArray) : (telB t).la0 = sgB t 106 := by rw [telB]
theorem telB_lo1 (t : ByteArray) : (telB t).lo1 = sgB t 110 := by rw [telB]
theorem telB_la1 (t : ByteArray) : (telB t).la1 = sgB t 114 := by rw [telB]
theorem telB_zm (t : ByteArray) : (telB t).zm = nmB t 118 1 := by rw [telB]
theorem telB_lon (t : ByteArray) : (telB t).lon = sgB t 119 := by rw [telB]
theorem telB_lat (t : ByteArray) : (telB t).lat = sgB t 123 := by rw [telB]
theorem tel_telB (t : ByteArray) (h : 127 ≤ t.size) : telH (bl t) = telB t := by
  have hs : ∀ q, q + 4 ≤ 127 → sg (nmB t q 4) = sgB t q := fun q hq => by
    have := nmB_bd t q 4 (by omega)
    rw [p256_4] at this
    exact sg_sgn _ this.1 this.2
  unfold telH telB ofNums
  simp only [widH, takesH, List.drop_drop, List.getD_cons_zero, List.getD_cons_succ, Nat.reduceAdd, ← nmB_eq]
  rw [hs 102 (by omega), hs 106 (by omega), hs 110 (by omega), hs 114 (by omega), hs 119 (by omega), hs 123 (by omega)]
theorem may_telB (t : ByteArray) (h : 127 ≤ t.size) : MayH (telB t) := by
  rw [← tel_telB t h]
  exact may_of _ (takes_fit widH _ (fun c hc => bl_byts t c (List.mem_of_mem_drop hc)) (by rw [List.length_drop, bl_len, sumW_widH]; omega))
theorem map_inj {a b : List UInt8} (h : a.map (fun c => (c.toNat : Int)) = b.map (fun c => (c.toNat : Int))) : a = b := by
  induction a generalizing b with
  | nil => cases b with
    | nil => rfl
    | cons c b => simp at h
  | cons c a ih => cases b with
    | nil => simp at h
    | cons d b =>
      simp only [List.map_cons, List.cons.injEq] at h
      have : c = d := UInt8.toNat_inj.1 (by have := h.1; omega)
      rw [this, ih h.2]
/-- The first seven bytes. -/
theorem name_iff (t : ByteArray) : t.extract 0 7 = ⟨#[80, 77, 84, 105, 108, 101, 115]⟩ ↔ (bl t).take 7 = mgH := by
  have e : (bl t).take 7 = (t.extract 0 7).data.toList.map (fun c => (c.toNat : Int)) := by
    rw [extract_list, bl, List.map_take]
    rfl
  rw [e]
  constructor
  · intro h; rw [h]; rfl
  · intro h
    apply ByteArray.ext
    apply Array.ext'
    exact map_inj (h.trans (by rfl : mgH = [80, 77, 84, 105, 108, 101, 115].map (fun c : UInt8 => (c.toNat : Int))))
/-- What a text's bytes tell, case by case. -/
theorem decB_short (t : ByteArray) (h : t.size < 127) : decH (bl t) = (zeroH, 3) := by
  unfold decH
  rw [if_pos (by rw [bl_len]; exact h)]
theorem decB_magic (t : ByteArray) (h : 127 ≤ t.size) (hn : t.extract 0 7 ≠ ⟨#[80, 77, 84, 105, 108, 101, 115]⟩) : decH (bl t) = (zeroH, 12) := by
  unfold decH
  rw [if_neg (by rw [bl_len]; omega), if_pos (fun e => hn ((name_iff t).2 e))]
theorem decB_version (t : ByteArray) (h : 127 ≤ t.size) (hn : t.extract 0 7 = ⟨#[80, 77, 84, 105, 108, 101, 115]⟩) (hv : nmB t 7 1 ≠ 3) : decH (bl t) = (zeroH, 13) := by
  unfold decH
  rw [if_neg (by rw [bl_len]; omega), if_neg (fun e => e ((name_iff t).1 hn)), if_pos (by rw [← nmB_one]; exact hv)]
theorem decB_form (t : ByteArray) (h : 127 ≤ t.size) (hn : t.extract 0 7 = ⟨#[80, 77, 84, 105, 108, 101, 115]⟩) (hv : nmB t 7 1 = 3) (hf : 1 < nmB t 96 1) : decH (bl t) = (zeroH, 4) := by
  unfold decH
  rw [if_neg (by rw [bl_len]; omega), if_neg (fun e => e ((name_iff t).1 hn)), if_neg (by rw [← nmB_one]; exact fun e => e hv), if_pos (by rw [← nmB_one]; exact hf)]
theorem decB_bad (t : ByteArray) (h : 127 ≤ t.size) (hn : t.extract 0 7 = ⟨#[80, 77, 84, 105, 108, 101, 115]⟩) (hv : nmB t 7 1 = 3) (hf : ¬ 1 < nmB t 96 1) (hc : ckH (telB t) ≠ 0) : decH (bl t) = (zeroH, ckH (telB t)) := by
  unfold decH
  rw [if_neg (by rw [bl_len]; omega), if_neg (fun e => e ((name_iff t).1 hn)), if_neg (by rw [← nmB_one]; exact fun e => e hv), if_neg (by rw [← nmB_one]; exact hf), tel_telB t h, if_neg hc]
theorem decB_ok (t : ByteArray) (h : 127 ≤ t.size) (hn : t.extract 0 7 = ⟨#[80, 77, 84, 105, 108, 101, 115]⟩) (hv : nmB t 7 1 = 3) (hf : ¬ 1 < nmB t 96 1) (hc : ckH (telB t) = 0) : decH (bl t) = (telB t, 0) := by
  unfold decH
  rw [if_neg (by rw [bl_len]; omega), if_neg (fun e => e ((name_iff t).1 hn)), if_neg (by rw [← nmB_one]; exact fun e => e hv), if_neg (by rw [← nmB_one]; exact hf), tel_telB t h, if_pos hc]
theorem numBad_ok (t : ByteArray) (p n : Int) (hm : t.size ≤ maxLen) (p0 : 0 ≤ p) (n0 : 1 ≤ n) (n1 : n ≤ 8) (hp : p + n ≤ t.size) : numBad t p 0 n = 0 := by
  unfold maxLen at hm
  have e1 : placedV t p = 0 := if_pos ⟨p0, by omega⟩
  have e2 : wideV n = 0 := if_pos ⟨n0, n1⟩
  have e3 : leftV t p n = 0 := by
    unfold leftV
    rw [IntWalk.wrap64_in _ (by omega), if_neg (by omega)]
  simp [numBad, firstOf, e1, e2, e3]
theorem bytesBad_ok (t : ByteArray) (p n : Int) (hm : t.size ≤ maxLen) (p0 : 0 ≤ p) (n0 : 0 ≤ n) (hp : p + n ≤ t.size) : bytesBad t p 0 n = 0 := by
  unfold maxLen at hm
  have e1 : placedV t p = 0 := if_pos ⟨p0, by omega⟩
  have e2 : countedV n = 0 := if_neg (by omega)
  have e3 : leftV t p n = 0 := by
    unfold leftV
    rw [IntWalk.wrap64_in _ (by omega), if_neg (by omega)]
  simp [bytesBad, firstOf, e1, e2, e3]
/-- Num at a place. -/
theorem num_at (t : ByteArray) (p n : Nat) (w : World) (hm : t.size ≤ maxLen) (n0 : 1 ≤ n) (n1 : n ≤ 8) (hp : p + n ≤ t.size) : Calls Try.prog 43 #[.agg #[.string t, .int .i64 p, .int .i64 0], .int .i64 n] w
    fun e w' => e = .returned (.tuple #[.int .u64 (nmB t p n), .agg #[.string t, .int .i64 ((p + n : Nat) : Int), .int .i64 0]]) ∧ Below w.heap.size w w' := by
  have key := num_yes t p n w hm (numBad_ok t p n hm (by omega) (by omega) (by omega) (by omega)) (by omega) (by omega) (by omega) (by omega)
  rw [Int.toNat_natCast, show ((p : Int) + (n : Int)).toNat = p + n from by omega] at key
  have e : ((p + n : Nat) : Int) = (p : Int) + (n : Int) := by omega
  rw [e]
  exact key
end Go.Proofs.Ytkhlkjhfgfjadaa
/- Contracts of the document's at, part and degree: numbers at places of a text. -/
namespace Go.Proofs.Ytkhlkjhfgfjadaa
open Go.RowKit
set_option maxRecDepth 20000
set_option linter.unusedVariables false
theorem rat_any (t : ByteArray) (i n : Nat) (w : World) (hm : t.size ≤ maxLen) (h8 : n ≤ 8) (hi : i + n ≤ t.size) : Calls Try.prog 47 #[.string t, .int .i64 i, .int .i64 n] w fun e w' => e = .returned (.int .u64 (nmB t i n)) ∧ w = w' := by
  have hx : (t.extract i (i + n)).size ≤ 8 := by simp; omega
  obtain ⟨x, hxx⟩ : ∃ x, t.extract i (i + n) = x := ⟨_, rfl⟩
  have HN : Hid (nmB t i n = numB x.data.toList) := Lib.hid (by rw [← hxx]; rfl)
  rw [hxx] at hx
  have h1 : (0 : Int) ≤ (i : Int) := by omega
  have h2 : (i : Int) ≤ (i : Int) + (n : Int) := by omega
  have h3 : (i : Int) + (n : Int) ≤ (t.size : Int) := by omega
  unfold maxLen at hm
  go_enter Try.func47, Try.ntmps47
  go_wp2_with fail
  refine (rnumber_any x _ hx).mono ?_
  rintro e w' ⟨rfl, rfl⟩
  go_wp2_with fail
  go_ret
  exact ⟨ret_int HN.out.symm, rfl⟩
theorem rpart_any (t : ByteArray) (i : Nat) (w : World) (hm : t.size ≤ maxLen) (hi : i + 16 ≤ t.size) : Calls Try.prog 46 #[.string t, .int .i64 i] w fun e w' => e = .returned (.agg #[.int .u64 (nmB t i 8), .int .u64 (nmB t (i + 8) 8)]) ∧ Below w.heap.size w w' := by
  have K0 := Lib.hid (fun W => rat_any t i 8 W hm (by omega) (by omega))
  have e : ((i + 8 : Nat) : Int) = (i : Int) + 8 := by omega
  have K1 : Hid (∀ W, Calls Try.prog 47 #[.string t, .int .i64 ((i : Int) + 8), .int .i64 8] W fun e w' => e = .returned (.int .u64 (nmB t (i + 8) 8)) ∧ W = w') := Lib.hid (fun W => by
    have := rat_any t (i + 8) 8 W hm (by omega) (by omega)
    rw [e] at this
    exact this)
  have hw : IntKind.i64.wrap ((i : Int) + 8) = ((i + 8 : Nat) : Int) := by unfold maxLen at hm; rw [IntKind.wrap_i64] <;> omega
  clear hm hi e
  go_enter Try.func46, Try.ntmps46
  go_wp2_with fail
  refine (K0.out _).mono ?_
  rintro e w' ⟨rfl, rfl⟩
  go_wp2_with fail
  refine (K1.out _).mono ?_
  rintro e w' ⟨rfl, rfl⟩
  obtain ⟨x, hx⟩ : ∃ x, nmB t i 8 = x := ⟨_, rfl⟩
  obtain ⟨y, hy⟩ : ∃ y, nmB t (i + 8) 8 = y := ⟨_, rfl⟩
  rw [hx, hy]
  go_wp2_with fail
  refine bodyPost_ret (v := .agg #[.int .u64 x, .int .u64 y]) (by simp [results, Try.results46, go_sem]) rfl ⟨by rw [hx, hy], by go_grown⟩
theorem rdegree_any (t : ByteArray) (i : Nat) (w : World) (hm : t.size ≤ maxLen) (hi : i + 4 ≤ t.size) : Calls Try.prog 48 #[.string t, .int .i64 i] w fun e w' => e = .returned (.int .i64 (sgB t i)) ∧ w = w' := by
  have K0 := Lib.hid (fun W => rat_any t i 4 W hm (by omega) (by omega))
  have hb := nmB_bd t i 4 hi
  have K1 := Lib.hid (fun W => rsigned_yes (nmB t i 4) 4 W hb.1 (by omega) (by omega))
  have HS : Hid (sgn (nmB t i 4) 4 = sgB t i) := Lib.hid rfl
  clear hb hm hi
  go_enter Try.func48, Try.ntmps48
  go_wp2_with fail
  refine (K0.out _).mono ?_
  rintro e w' ⟨rfl, rfl⟩
  go_wp2_with fail
  refine (K1.out _).mono ?_
  rintro e w' ⟨rfl, rfl⟩
  go_wp2_with fail
  go_ret
  exact ⟨ret_int HS.out, rfl⟩
/-- A header's cells stored, as the walk spells it. -/
theorem stores_head (w : World) (g : Nat) (T : TypeId) (old h : Hd) (H : HAt w g T old) : ∃ w', Sem.run Try.prog (storeCells ⟨g, 0, none⟩ (cH h).toList) w = .ok () w' ∧ Put24 w g T h w' := by
  refine ⟨w.setRow g (cH h), ?_, put24 w g T old h H⟩
  have := run_storeCells_from (P := Try.prog) g T (cH h).toList 0 (cH old) w H (by simp [cH_size]) (fun v hv => (Array.all_eq_true_iff_forall_mem.1 (cH_one h)) v (by simpa using hv))
  simpa using this
/-- Cells of one block stored one after another. -/
def setF (w : World) (g : Nat) : List (Nat × Value) → World
  | [] => w
  | (i, v) :: l => setF (w.setCell ⟨g, i, none⟩ v) g l
def setA (C : Array Value) : List (Nat × Value) → Array Value
  | [] => C
  | (i, v) :: l => setA (C.setIfInBounds i v) l
theorem setF_blk {w : World} {g : Nat} {C : Array Value} {T : TypeId} {f : Nat × Nat} (l : List (Nat × Value)) (H : w.heap[g]? = some (.cells C T f)) : (setF w g l).heap[g]? = some (.cells (setA C l) T f) := by
  induction l generalizing w C with
  | nil => exact H
  | cons p l ih => exact ih (setCell_blk H p.2)
theorem setF_other {w : World} {g k : Nat} (l : List (Nat × Value)) (hk : k ≠ g) : (setF w g l).heap[k]? = w.heap[k]? := by
  induction l generalizing w with
  | nil => rfl
  | cons p l ih => exact (ih (w := w.setCell ⟨g, p.1, none⟩ p.2)).trans (heap_other hk)
theorem setF_below {w w0 : World} {g B : Nat} (l : List (Nat × Value)) (hb : Below B w0 w) (hB : B ≤ g) : Below B w0 (setF w g l) := by
  induction l generalizing w with
  | nil => exact hb
  | cons p l ih => exact ih (hb.setCell hB _)
/-- What stores of fields of a header leave, behind a draw. -/
theorem setF_end {w2 w : World} {g b B : Nat} {T U : TypeId} {a c z : Hd} (l : List (Nat × Value)) (hC : setA (cH a) l = cH c) (H : HAt w2 g T a) (hz : HAt w2 b U z) (hn : b ≠ g) (hu : Below B w w2) (hB : B ≤ g) :
    HAt (setF w2 g l).drew g T c ∧ HAt (setF w2 g l).drew b U z ∧ Below B w (setF w2 g l).drew := by
  refine ⟨?_, ?_, (setF_below l hu hB).drew⟩
  · unfold HAt
    rw [drew_heap, ← hC]
    exact setF_blk l H
  · unfold HAt
    rw [drew_heap, setF_other l hn]
    exact hz
theorem setF_plain {w2 w : World} {g b B : Nat} {T U : TypeId} {a c z : Hd} (l : List (Nat × Value)) (hC : setA (cH a) l = cH c) (H : HAt w2 g T a) (hz : HAt w2 b U z) (hn : b ≠ g) (hu : Below B w w2) (hB : B ≤ g) :
    HAt (setF w2 g l) g T c ∧ HAt (setF w2 g l) b U z ∧ Below B w (setF w2 g l) := by
  refine ⟨?_, ?_, setF_below l hu hB⟩
  · unfold HAt
    rw [← hC]
    exact setF_blk l H
  · unfold HAt
    rw [setF_other l hn]
    exact hz
theorem setF_to {X w2 w : World} {g b B : Nat} {T U : TypeId} {a c z : Hd} (l : List (Nat × Value)) (hX : X = (setF w2 g l).drew) (hC : setA (cH a) l = cH c) (H : HAt w2 g T a) (hz : HAt w2 b U z) (hn : b ≠ g) (hu : Below B w w2) (hB : B ≤ g) :
    HAt X g T c ∧ HAt X b U z ∧ Below B w X := hX ▸ setF_end l hC H hz hn hu hB
theorem setF_to2 {X w2 w : World} {g b B : Nat} {T U : TypeId} {a c z : Hd} (l : List (Nat × Value)) (hX : X = setF w2 g l) (hC : setA (cH a) l = cH c) (H : HAt w2 g T a) (hz : HAt w2 b U z) (hn : b ≠ g) (hu : Below B w w2) (hB : B ≤ g) :
    HAt X g T c ∧ HAt X b U z ∧ Below B w X := hX ▸ setF_plain l hC H hz hn hu hB
/-- A header that is filled step by step. -/
def uA (T : Hd) : Hd := { zeroH with rf := T.rf, rl := T.rl, mf := T.mf, ml := T.ml, lf := T.lf, ll := T.ll, df := T.df, dl := T.dl }
def rB (T : Hd) : Hd := { uA T with ad := T.ad, en := T.en, co := T.co, cl := T.cl }
def rC (T : Hd) : Hd := { rB T with inn := T.inn, out := T.out, knd := T.knd, z0 := T.z0, z1 := T.z1 }
def rD (T : Hd) : Hd := { rC T with lo0 := T.lo0, la0 := T.la0, lo1 := T.lo1, la1 := T.la1 }
theorem rB_set (T : Hd) : setA (cH (uA T)) [(8, .int .u64 T.ad), (9, .int .u64 T.en), (10, .int .u64 T.co), (11, .bool T.cl)] = cH (rB T) := by
  simp only [setA, cH, uA, rB, List.setIfInBounds_toArray, List.set_cons_zero, List.set_cons_succ]
theorem rC_set (T : Hd) : setA (cH (rB T)) [(12, .int .u8 T.inn), (13, .int .u8 T.out), (14, .int .u8 T.knd), (15, .int .i64 T.z0), (16, .int .i64 T.z1)] = cH (rC T) := by
  simp only [setA, cH, rB, rC, List.setIfInBounds_toArray, List.set_cons_zero, List.set_cons_succ]
theorem rD_set (T : Hd) : setA (cH (rC T)) [(17, .int .i64 T.lo0), (18, .int .i64 T.la0), (19, .int .i64 T.lo1), (20, .int .i64 T.la1)] = cH (rD T) := by
  simp only [setA, cH, rC, rD, List.setIfInBounds_toArray, List.set_cons_zero, List.set_cons_succ]
theorem rE_set (T : Hd) : setA (cH (rD T)) [(21, .int .i64 T.zm), (22, .int .i64 T.lon), (23, .int .i64 T.lat)] = cH T := by
  simp only [setA, cH, rD, rC, rB, uA, List.setIfInBounds_toArray, List.set_cons_zero, List.set_cons_succ]
/-- A header and a number as results. -/
theorem results_two {fn : Func} {p q : Tmp} {ty : TypeId} (h : fn.results = #[.cell p ty, .tmp q]) (tmps : Array Value) (w : World) (g : Nat) (a : Hd) (v : Value)
    (hp : tmps.getD p undef = .pointer (some ⟨g, 0, none⟩)) (hq : tmps.getD q undef = v) (hl : (loadVar ty ⟨g, 0, none⟩).run Try.prog w = .ok (.agg (cH a)) w) :
    (results fn tmps).run Try.prog w = .ok (.tuple #[.agg (cH a), v]) w := by
  have hp' : tmps[p]?.getD undef = .pointer (some ⟨g, 0, none⟩) := by simpa using hp
  have hq' : tmps[q]?.getD undef = v := by simpa using hq
  simp [results, h, hp', hq', asAddr, hl]
theorem results_head {fn : Func} {p q : Tmp} (h : fn.results = #[.cell p 38, .tmp q]) (tmps : Array Value) (w : World) (g : Nat) (T : TypeId) (a : Hd) (v : Value) (hp : tmps.getD p undef = .pointer (some ⟨g, 0, none⟩)) (hq : tmps.getD q undef = v) (H : HAt w g T a) :
    (results fn tmps).run Try.prog w = .ok (.tuple #[.agg (cH a), v]) w := results_two h tmps w g a v hp hq (run_loadVar_row w g T _ (cH a) (0, 0) _ H Try.underlying38 rfl head_size)
theorem rresults_head {fn : Func} {p q : Tmp} (h : fn.results = #[.cell p 27, .tmp q]) (tmps : Array Value) (w : World) (g : Nat) (T : TypeId) (a : Hd) (v : Value) (hp : tmps.getD p undef = .pointer (some ⟨g, 0, none⟩)) (hq : tmps.getD q undef = v) (H : HAt w g T a) :
    (results fn tmps).run Try.prog w = .ok (.tuple #[.agg (cH a), v]) w := results_two h tmps w g a v hp hq (run_loadVar_row w g T _ (cH a) (0, 0) _ H Try.underlying27 rfl rhead_size)
end Go.Proofs.Ytkhlkjhfgfjadaa
/- The contract of Decode, the document's: the header that a text's bytes tell, or why there is none. -/
namespace Go.Proofs.Ytkhlkjhfgfjadaa
open Go.RowKit
set_option maxRecDepth 20000
set_option linter.unusedVariables false
theorem byte_at (t : ByteArray) (i : Nat) (h : i < t.size) : ((t[i]'h).toNat : Int) = nmB t i 1 := by
  rw [nmB_one, bl]
  have h1 : i < (t.data.toList.map (fun c => (c.toNat : Int))).length := by simpa using h
  rw [List.getD_eq_getElem?_getD, List.getElem?_eq_getElem h1]
  simp
  rfl
theorem str_ne {s : ByteArray} {l : List UInt8} (h : s ≠ ⟨l.toArray⟩) : (s.toList == l) = false := by
  rw [beq_eq_false_iff_ne, ByteArray.toList_eq]
  intro e
  apply h
  apply ByteArray.ext
  apply Array.ext'
  exact e
theorem str_eq {s : ByteArray} {l : List UInt8} (h : s = ⟨l.toArray⟩) : (s.toList == l) = true := by
  subst h
  rw [ByteArray.toList_eq]
  simp
set_option maxRecDepth 20000 in
theorem rdecode_short (t : ByteArray) (w : World) (h127 : t.size < 127) : Calls Try.prog 29 #[.string t] w fun e w' => e = .returned (.tuple #[.agg (cH zeroH), .int .i64 3]) ∧ Below w.heap.size w w' := by
  have HZ := HAt.zero w 27
  have hd : decide ((t.size : Int) < 127) = true := by simp; omega
  clear h127
  go_enter Try.func29, Try.ntmps29
  go_wp2_with (first | (refine rstore_head (by rfl) _ _ rfl _ rfl zeroH rfl _ zeroH (by assumption) rfl ?_; intro w2 HP) | fail)
  refine bodyPost_ret (v := .tuple #[.agg (cH zeroH), .int .i64 3]) (rresults_head Try.results29 _ _ _ _ _ _ rfl rfl HP.1) rfl ⟨rfl, HP.2.2.1 _ _ (Nat.le_refl _) ((Below.refl _ _).alloc (Nat.le_refl _) _)⟩
set_option maxRecDepth 20000 in
theorem rdecode_magic (t : ByteArray) (w : World) (h127 : 127 ≤ t.size) (hn : t.extract 0 7 ≠ ⟨#[80, 77, 84, 105, 108, 101, 115]⟩) : Calls Try.prog 29 #[.string t] w fun e w' => e = .returned (.tuple #[.agg (cH zeroH), .int .i64 12]) ∧ Below w.heap.size w w' := by
  have HZ := HAt.zero w 27
  have hd : decide ((t.size : Int) < 127) = false := by simp; omega
  have h7 : (7 : Int) ≤ (t.size : Int) := by omega
  obtain ⟨s7, hs7⟩ : ∃ s, t.extract 0 7 = s := ⟨_, rfl⟩
  rw [hs7] at hn
  have hne := str_ne hn
  clear hn h127
  go_enter Try.func29, Try.ntmps29
  go_wp2_with (first | (refine rstore_head (by rfl) _ _ rfl _ rfl zeroH rfl _ zeroH (by assumption) rfl ?_; intro w2 HP) | fail)
  refine bodyPost_ret (v := .tuple #[.agg (cH zeroH), .int .i64 12]) (rresults_head Try.results29 _ _ _ _ _ _ rfl rfl HP.1) rfl ⟨rfl, HP.2.2.1 _ _ (Nat.le_refl _) ((Below.refl _ _).alloc (Nat.le_refl _) _)⟩
set_option maxRecDepth 20000 in
theorem rdecode_version (t : ByteArray) (w : World) (h127 : 127 ≤ t.size) (hn : t.extract 0 7 = ⟨#[80, 77, 84, 105, 108, 101, 115]⟩) (hv : nmB t 7 1 ≠ 3) : Calls Try.prog 29 #[.string t] w fun e w' => e = .returned (.tuple #[.agg (cH zeroH), .int .i64 13]) ∧ Below w.heap.size w w' := by
  have HZ := HAt.zero w 27
  have hd : decide ((t.size : Int) < 127) = false := by simp; omega
  have h7 : (7 : Int) ≤ (t.size : Int) := by omega
  obtain ⟨s7, hs7⟩ : ∃ s, t.extract 0 7 = s := ⟨_, rfl⟩
  rw [hs7] at hn
  have hne := str_eq hn
  clear hn
  have b7 := byte_at t 7 (by omega)
  have hv2 : (nmB t 7 1 != 3) = true := by simp only [bne_iff_ne, ne_eq]; exact hv
  obtain ⟨x, hx⟩ : ∃ x, nmB t 7 1 = x := ⟨_, rfl⟩
  rw [hx] at hv2 b7
  clear hx hv
  have g7 : (7 : Int) < (t.size : Int) := by omega
  go_enter Try.func29, Try.ntmps29
  go_wp2_with (first | (refine rstore_head (by rfl) _ _ rfl _ rfl zeroH rfl _ zeroH (by assumption) rfl ?_; intro w2 HP) | fail)
  refine bodyPost_ret (v := .tuple #[.agg (cH zeroH), .int .i64 13]) (rresults_head Try.results29 _ _ _ _ _ _ rfl rfl HP.1) rfl ⟨rfl, HP.2.2.1 _ _ (Nat.le_refl _) ((Below.refl _ _).alloc (Nat.le_refl _) _)⟩
set_option maxRecDepth 20000 in
theorem rdecode_form (t : ByteArray) (w : World) (h127 : 127 ≤ t.size) (hn : t.extract 0 7 = ⟨#[80, 77, 84, 105, 108, 101, 115]⟩) (hv : nmB t 7 1 = 3) (hf : 1 < nmB t 96 1) : Calls Try.prog 29 #[.string t] w fun e w' => e = .returned (.tuple #[.agg (cH zeroH), .int .i64 4]) ∧ Below w.heap.size w w' := by
  have HZ := HAt.zero w 27
  have hd : decide ((t.size : Int) < 127) = false := by simp; omega
  have h7 : (7 : Int) ≤ (t.size : Int) := by omega
  obtain ⟨s7, hs7⟩ : ∃ s, t.extract 0 7 = s := ⟨_, rfl⟩
  rw [hs7] at hn
  have hne := str_eq hn
  clear hn
  have b7 := byte_at t 7 (by omega)
  have b96 := byte_at t 96 (by omega)
  rw [hv] at b7
  have hf2 : decide (1 < nmB t 96 1) = true := by simpa using hf
  obtain ⟨x, hx⟩ : ∃ x, nmB t 96 1 = x := ⟨_, rfl⟩
  rw [hx] at hf2 b96
  clear hx hf hv
  have g7 : (7 : Int) < (t.size : Int) := by omega
  have g96 : (96 : Int) < (t.size : Int) := by omega
  go_enter Try.func29, Try.ntmps29
  go_wp2_with (first | (refine rstore_head (by rfl) _ _ rfl _ rfl zeroH rfl _ zeroH (by assumption) rfl ?_; intro w2 HP) | fail)
  refine bodyPost_ret (v := .tuple #[.agg (cH zeroH), .int .i64 4]) (rresults_head Try.results29 _ _ _ _ _ _ rfl rfl HP.1) rfl ⟨rfl, HP.2.2.1 _ _ (Nat.le_refl _) ((Below.refl _ _).alloc (Nat.le_refl _) _)⟩
/-- What the document's parts of a text tell, in a header's terms. -/
structure TelR (t : ByteArray) (T : Hd) (x : Int) : Prop where
  P0 : ∀ W, Calls Try.prog 46 #[.string t, .int .i64 8] W fun e w' => e = .returned (.agg #[.int .u64 T.rf, .int .u64 T.rl]) ∧ Below W.heap.size W w'
  P1 : ∀ W, Calls Try.prog 46 #[.string t, .int .i64 24] W fun e w' => e = .returned (.agg #[.int .u64 T.mf, .int .u64 T.ml]) ∧ Below W.heap.size W w'
  P2 : ∀ W, Calls Try.prog 46 #[.string t, .int .i64 40] W fun e w' => e = .returned (.agg #[.int .u64 T.lf, .int .u64 T.ll]) ∧ Below W.heap.size W w'
  P3 : ∀ W, Calls Try.prog 46 #[.string t, .int .i64 56] W fun e w' => e = .returned (.agg #[.int .u64 T.df, .int .u64 T.dl]) ∧ Below W.heap.size W w'
  K72 : ∀ W, Calls Try.prog 47 #[.string t, .int .i64 72, .int .i64 8] W fun e w' => e = .returned (.int .u64 T.ad) ∧ W = w'
  K80 : ∀ W, Calls Try.prog 47 #[.string t, .int .i64 80, .int .i64 8] W fun e w' => e = .returned (.int .u64 T.en) ∧ W = w'
  K88 : ∀ W, Calls Try.prog 47 #[.string t, .int .i64 88, .int .i64 8] W fun e w' => e = .returned (.int .u64 T.co) ∧ W = w'
  K102 : ∀ W, Calls Try.prog 48 #[.string t, .int .i64 102] W fun e w' => e = .returned (.int .i64 T.lo0) ∧ W = w'
  K106 : ∀ W, Calls Try.prog 48 #[.string t, .int .i64 106] W fun e w' => e = .returned (.int .i64 T.la0) ∧ W = w'
  K110 : ∀ W, Calls Try.prog 48 #[.string t, .int .i64 110] W fun e w' => e = .returned (.int .i64 T.lo1) ∧ W = w'
  K114 : ∀ W, Calls Try.prog 48 #[.string t, .int .i64 114] W fun e w' => e = .returned (.int .i64 T.la1) ∧ W = w'
  K119 : ∀ W, Calls Try.prog 48 #[.string t, .int .i64 119] W fun e w' => e = .returned (.int .i64 T.lon) ∧ W = w'
  K123 : ∀ W, Calls Try.prog 48 #[.string t, .int .i64 123] W fun e w' => e = .returned (.int .i64 T.lat) ∧ W = w'
  ck : ∀ W, Calls Try.prog 38 #[.agg (cH T)] W fun e w' => e = .returned (.int .i64 (ckH T)) ∧ Below W.heap.size W w'
  cl : T.cl = (x == 1)
theorem telR (t : ByteArray) (hm : t.size ≤ maxLen) (h : 127 ≤ t.size) : TelR t (telB t) (nmB t 96 1) := by
  constructor
  · intro W; rw [telB_rf, telB_rl]; exact rpart_any t 8 W hm (by omega)
  · intro W; rw [telB_mf, telB_ml]; exact rpart_any t 24 W hm (by omega)
  · intro W; rw [telB_lf, telB_ll]; exact rpart_any t 40 W hm (by omega)
  · intro W; rw [telB_df, telB_dl]; exact rpart_any t 56 W hm (by omega)
  · intro W; rw [telB_ad]; exact rat_any t 72 8 W hm (by omega) (by omega)
  · intro W; rw [telB_en]; exact rat_any t 80 8 W hm (by omega) (by omega)
  · intro W; rw [telB_co]; exact rat_any t 88 8 W hm (by omega) (by omega)
  · intro W; rw [telB_lo0]; exact rdegree_any t 102 W hm (by omega)
  · intro W; rw [telB_la0]; exact rdegree_any t 106 W hm (by omega)
  · intro W; rw [telB_lo1]; exact rdegree_any t 110 W hm (by omega)
  · intro W; rw [telB_la1]; exact rdegree_any t 114 W hm (by omega)
  · intro W; rw [telB_lon]; exact rdegree_any t 119 W hm (by omega)
  · intro W; rw [telB_lat]; exact rdegree_any t 123 W hm (by omega)
  · intro W; exact rcheck_any (telB t) W (may_telB t h)
  · rw [telB_cl]
set_option maxRecDepth 20000 in
set_option maxHeartbeats 4000000 in
theorem rdecode_full (t : ByteArray) (w : World) (h127 : 127 ≤ t.size) (hn : t.extract 0 7 = ⟨#[80, 77, 84, 105, 108, 101, 115]⟩) (b7 : ((t[7]'(by omega)).toNat : Int) = 3) (T : Hd) (x : Int) (HT : TelR t T x) (b96 : ((t[96]'(by omega)).toNat : Int) = x) (hf : ¬ 1 < x)
    (b97 : ((t[97]'(by omega)).toNat : Int) = T.inn) (b98 : ((t[98]'(by omega)).toNat : Int) = T.out) (b99 : ((t[99]'(by omega)).toNat : Int) = T.knd) (b100 : ((t[100]'(by omega)).toNat : Int) = T.z0) (hw100 : wrap64 T.z0 = T.z0 ∧ IntKind.i64.wrap T.z0 = T.z0) (b101 : ((t[101]'(by omega)).toNat : Int) = T.z1) (hw101 : wrap64 T.z1 = T.z1 ∧ IntKind.i64.wrap T.z1 = T.z1) (b118 : ((t[118]'(by omega)).toNat : Int) = T.zm) (hw118 : wrap64 T.zm = T.zm ∧ IntKind.i64.wrap T.zm = T.zm)
    (E : Hd × Int) (hE : E = if ckH T = 0 then (T, 0) else (zeroH, ckH T)) :
    Calls Try.prog 29 #[.string t] w fun e w' => e = .returned (.tuple #[.agg (cH E.1), .int .i64 E.2]) ∧ Below w.heap.size w w' := by
  have HZ := HAt.zero w 27
  have hd : decide ((t.size : Int) < 127) = false := by simp; omega
  have h7 : (7 : Int) ≤ (t.size : Int) := by omega
  obtain ⟨s7, hs7⟩ : ∃ s, t.extract 0 7 = s := ⟨_, rfl⟩
  rw [hs7] at hn
  have hne := str_eq hn
  clear hn
  have HE := Lib.hid hE; clear hE
  have hf2 : decide (1 < x) = false := by simpa using hf
  have g7 : (7 : Int) < (t.size : Int) := by omega
  have g96 : (96 : Int) < (t.size : Int) := by omega
  have KP0 := Lib.hid HT.P0
  have KP1 := Lib.hid HT.P1
  have KP2 := Lib.hid HT.P2
  have KP3 := Lib.hid HT.P3
  have HK72 := Lib.hid HT.K72
  have HK80 := Lib.hid HT.K80
  have HK88 := Lib.hid HT.K88
  have HK102 := Lib.hid HT.K102
  have HK106 := Lib.hid HT.K106
  have HK110 := Lib.hid HT.K110
  have HK114 := Lib.hid HT.K114
  have HK119 := Lib.hid HT.K119
  have HK123 := Lib.hid HT.K123
  have HCk := Lib.hid HT.ck
  have hset := rB_set T
  rw [HT.cl] at hset
  have HSetB := Lib.hid hset
  have HB97 := Lib.hid b97
  have HB98 := Lib.hid b98
  have HB99 := Lib.hid b99
  have HB100 := Lib.hid b100
  have HW100 := Lib.hid hw100
  have HB101 := Lib.hid b101
  have HW101 := Lib.hid hw101
  have HB118 := Lib.hid b118
  have HW118 := Lib.hid hw118
  have H127 := Lib.hid h127
  clear hset hf HT b97 b98 b99 b100 hw100 b101 hw101 b118 hw118
  go_enter Try.func29, Try.ntmps29
  go_upto_region 9 with fail
  obtain ⟨W0, hW0⟩ : ∃ W0, w.alloc (.cells #[.int .u64 zeroH.rf, .int .u64 zeroH.rl, .int .u64 zeroH.mf, .int .u64 zeroH.ml, .int .u64 zeroH.lf, .int .u64 zeroH.ll, .int .u64 zeroH.df, .int .u64 zeroH.dl, .int .u64 zeroH.ad, .int .u64 zeroH.en, .int .u64 zeroH.co, .bool zeroH.cl, .int .u8 zeroH.inn, .int .u8 zeroH.out, .int .u8 zeroH.knd, .int .i64 zeroH.z0, .int .i64 zeroH.z1, .int .i64 zeroH.lo0, .int .i64 zeroH.la0, .int .i64 zeroH.lo1, .int .i64 zeroH.la1, .int .i64 zeroH.zm, .int .i64 zeroH.lon, .int .i64 zeroH.lat] 27) = W0 := ⟨_, rfl⟩
  have hW2 : w.alloc (.cells #[.int .u64 0, .int .u64 0, .int .u64 0, .int .u64 0, .int .u64 0, .int .u64 0, .int .u64 0, .int .u64 0, .int .u64 0, .int .u64 0, .int .u64 0, .bool false, .int .u8 0, .int .u8 0, .int .u8 0, .int .i64 0, .int .i64 0, .int .i64 0, .int .i64 0, .int .i64 0, .int .i64 0, .int .i64 0, .int .i64 0, .int .i64 0] 27) = W0 := hW0
  rw [hW0] at HZ
  have U0 : Below w.heap.size w W0 := by rw [← hW0]; exact (Below.refl _ _).alloc (Nat.le_refl _) _
  rw [hW2]
  clear hW0 hW2
  have HHZ := Lib.hid HZ
  have HU0 := Lib.hid U0
  clear HZ U0 hne hs7 hd hf2
  go_cut [4] (fun p wx => ∃ g, p = .pointer (some ⟨g, 0, none⟩) ∧ w.heap.size < g ∧ HAt wx g 27 (uA T) ∧ HAt wx w.heap.size 27 zeroH ∧ Below w.heap.size w wx)
  case first =>
    clear b7 b96 g7 g96 h7
    go_wp2_with fail
    refine (KP0.out _).mono ?_
    rintro e w1 ⟨rfl, hb1⟩
    go_wp2_with fail
    refine (KP1.out _).mono ?_
    rintro e w2 ⟨rfl, hb2⟩
    go_wp2_with fail
    refine (KP2.out _).mono ?_
    rintro e w3 ⟨rfl, hb3⟩
    go_wp2_with fail
    refine (KP3.out _).mono ?_
    rintro e w4 ⟨rfl, hb4⟩
    have H4 := (((HHZ.out.later hb1).later hb2).later hb3).later hb4
    have u1 := HU0.out.trans (hb1.mono HU0.out.size)
    have u2 := u1.trans (hb2.mono u1.size)
    have u3 := u2.trans (hb3.mono u2.size)
    have u4 := u3.trans (hb4.mono u3.size)
    have hl4 := H4.lt
    have HH4 := Lib.hid H4
    have HU4 := Lib.hid u4
    have HZ := HAt.zero w4 27
    clear hb1 hb2 hb3 hb4 u1 u2 u3 u4 H4
    go_wp2_with (first | (refine rstore_head (by rfl) _ _ rfl _ rfl (uA T) rfl _ zeroH (by assumption) rfl ?_; intro w5 HP) | fail)
    go_meet
    case rel => exact ⟨w4.heap.size, rfl, hl4, HP.1, HP.keep (HH4.out.later ((Below.refl _ _).alloc (Nat.le_refl _) _)) (by omega), HP.2.2.1 _ _ HU4.out.size (HU4.out.alloc HU4.out.size _)⟩
  case rest =>
  obtain ⟨g, rfl, hlt, HA, HR, hU⟩ := hcut
  generalize wc = w1 at *
  clear KP0 KP1 KP2 KP3 HHZ HU0 b7 g7 h7
  have hn1 : ¬ g = w.heap.size := by omega
  have HN : Hid (w.heap.size ≠ g) := Lib.hid (by omega)
  have HL : Hid (w.heap.size ≤ g) := Lib.hid (by omega)
  have e8 := at8 HA
  have e9 := at9 HA
  have e10 := at10 HA
  have e11 := at11 HA
  have hf : ∀ o, w1.frozen? ⟨g, o, none⟩ = false := fun o => by unfold HAt at HA; simp [World.frozen?, HA]
  have HHA := Lib.hid HA
  have HHR := Lib.hid HR
  have HU := Lib.hid hU
  clear HA HR hU
  go_upto_region 10 with fail
  go_cut [] (fun wx => HAt wx g 27 (rB T) ∧ HAt wx w.heap.size 27 zeroH ∧ Below w.heap.size w wx)
  case first =>
    go_region_held3 (fun _ => True) (trivial) (first | (go_at_call_of 47 (72 : Int); refine (HK72.out _).mono ?_; rintro e w' ⟨rfl, rfl⟩) | (go_at_call_of 47 (80 : Int); refine (HK80.out _).mono ?_; rintro e w' ⟨rfl, rfl⟩) | (go_at_call_of 47 (88 : Int); refine (HK88.out _).mono ?_; rintro e w' ⟨rfl, rfl⟩))
    all_goals
      go_wp2_with fail
      go_meet
      case rel => exact setF_to [(8, .int .u64 T.ad), (9, .int .u64 T.en), (10, .int .u64 T.co), (11, .bool (x == 1))] (by simp only [setF]) HSetB.out HHA.out HHR.out HN.out HU.out HL.out
  case rest =>
  obtain ⟨HA, HR, hU⟩ := hcut
  generalize wc = w2 at *
  clear HHA HHR HU hf e8 e9 e10 e11 HK72 HK80 HK88 HSetB b96 g96
  have b97 := HB97.out
  have g97 : (97 : Int) < (t.size : Int) := by have := H127.out; omega
  have b98 := HB98.out
  have g98 : (98 : Int) < (t.size : Int) := by have := H127.out; omega
  have b99 := HB99.out
  have g99 : (99 : Int) < (t.size : Int) := by have := H127.out; omega
  have b100 := HB100.out
  have g100 : (100 : Int) < (t.size : Int) := by have := H127.out; omega
  have hw100 := HW100.out.1
  have b101 := HB101.out
  have g101 : (101 : Int) < (t.size : Int) := by have := H127.out; omega
  have hw101 := HW101.out.1
  have e12 := at12 HA
  have e13 := at13 HA
  have e14 := at14 HA
  have e15 := at15 HA
  have e16 := at16 HA
  have hf : ∀ o, w2.frozen? ⟨g, o, none⟩ = false := fun o => by unfold HAt at HA; simp [World.frozen?, HA]
  have HHA := Lib.hid HA
  have HHR := Lib.hid HR
  have HU := Lib.hid hU
  clear HA HR hU
  have HSet := Lib.hid (rC_set T)
  go_upto_region 11 with fail
  go_cut [] (fun wx => HAt wx g 27 (rC T) ∧ HAt wx w.heap.size 27 zeroH ∧ Below w.heap.size w wx)
  case first =>
    go_region
    all_goals
      go_wp2_with fail
      go_meet
      case rel => exact setF_to [(12, .int .u8 T.inn), (13, .int .u8 T.out), (14, .int .u8 T.knd), (15, .int .i64 T.z0), (16, .int .i64 T.z1)] (by simp only [setF]) HSet.out HHA.out HHR.out HN.out HU.out HL.out
  case rest =>
  obtain ⟨HA, HR, hU⟩ := hcut
  generalize wc = w3 at *
  clear HHA HHR HU hf e12 e13 e14 e15 e16 HSet b97 HB97 g97 b98 HB98 g98 b99 HB99 g99 b100 HB100 g100 b101 HB101 g101 hw100 hw101 HW100 HW101
  have e17 := at17 HA
  have e18 := at18 HA
  have e19 := at19 HA
  have e20 := at20 HA
  have hf : ∀ o, w3.frozen? ⟨g, o, none⟩ = false := fun o => by unfold HAt at HA; simp [World.frozen?, HA]
  have HHA := Lib.hid HA
  have HHR := Lib.hid HR
  have HU := Lib.hid hU
  clear HA HR hU
  have HSet := Lib.hid (rD_set T)
  go_upto_region 12 with fail
  go_cut [] (fun wx => HAt wx g 27 (rD T) ∧ HAt wx w.heap.size 27 zeroH ∧ Below w.heap.size w wx)
  case first =>
    go_wp2_with fail
    refine (HK102.out _).mono ?_
    rintro e w' ⟨rfl, rfl⟩
    go_wp2_with fail
    refine (HK106.out _).mono ?_
    rintro e w' ⟨rfl, rfl⟩
    go_wp2_with fail
    refine (HK110.out _).mono ?_
    rintro e w' ⟨rfl, rfl⟩
    go_wp2_with fail
    refine (HK114.out _).mono ?_
    rintro e w' ⟨rfl, rfl⟩
    go_wp2_with fail
    all_goals
      go_meet
      case rel => exact setF_to2 [(17, .int .i64 T.lo0), (18, .int .i64 T.la0), (19, .int .i64 T.lo1), (20, .int .i64 T.la1)] (by simp only [setF]) HSet.out HHA.out HHR.out HN.out HU.out HL.out
  case rest =>
  obtain ⟨HA, HR, hU⟩ := hcut
  generalize wc = w4 at *
  clear HHA HHR HU hf e17 e18 e19 e20 HSet HK102 HK106 HK110 HK114
  have b118 := HB118.out
  have g118 : (118 : Int) < (t.size : Int) := by have := H127.out; omega
  have hw118 := HW118.out.2
  have e21 := at21 HA
  have e22 := at22 HA
  have e23 := at23 HA
  have hf : ∀ o, w4.frozen? ⟨g, o, none⟩ = false := fun o => by unfold HAt at HA; simp [World.frozen?, HA]
  have HHA := Lib.hid HA
  have HHR := Lib.hid HR
  have HU := Lib.hid hU
  clear HA HR hU
  have HSet := Lib.hid (rE_set T)
  go_upto_region 13 with fail
  go_cut [] (fun wx => HAt wx g 27 (T) ∧ HAt wx w.heap.size 27 zeroH ∧ Below w.heap.size w wx)
  case first =>
    go_region_held3 (fun _ => True) (trivial) (first | (go_at_call_of 48 (119 : Int); refine (HK119.out _).mono ?_; rintro e w' ⟨rfl, rfl⟩) | (go_at_call_of 48 (123 : Int); refine (HK123.out _).mono ?_; rintro e w' ⟨rfl, rfl⟩))
    all_goals
      go_wp2_with fail
      go_meet
      case rel => exact setF_to [(21, .int .i64 T.zm), (22, .int .i64 T.lon), (23, .int .i64 T.lat)] (by simp only [setF]) HSet.out HHA.out HHR.out HN.out HU.out HL.out
  case rest =>
  obtain ⟨HA, HR, hU⟩ := hcut
  generalize wc = w5 at *
  clear HHA HHR HU hf e21 e22 e23 HSet HK119 HK123 b118 g118 hw118 HB118 HW118
  have HHA := Lib.hid HA
  have HHR := Lib.hid HR
  have HU := Lib.hid hU
  have HA0 := HA
  clear HA HR hU
  obtain ⟨r, hr⟩ : ∃ r, ckH T = r := ⟨_, rfl⟩
  rw [hr] at HCk HE
  by_cases h0 : r = 0
  · subst h0
    have HE2 : Hid (E = (T, 0)) := Lib.hid (by rw [HE.out, if_pos rfl])
    clear hr
    go_wp2_with (first | (refine rload_head (by rfl) _ rfl _ rfl _ T (by assumption) ?_) | fail)
    refine (HCk.out _).mono ?_
    rintro e w6 ⟨rfl, hb⟩
    have hA6 := HHA.out.later hb
    have hR6 := HHR.out.later hb
    have u6 := HU.out.trans (hb.mono HU.out.size)
    obtain ⟨w7, hst, HP⟩ := stores_head w6 w.heap.size _ _ T hR6
    have hu7 := HP.2.2.1 _ _ (Nat.le_refl _) u6
    have hee : Ending.returned (.tuple #[.agg (cH T), .int .i64 0]) = .returned (.tuple #[.agg (cH E.1), .int .i64 E.2]) := by rw [HE2.out]
    have HA7 := Lib.hid HP.1
    have HH7 := Lib.hid (And.intro hee hu7)
    clear hb HHA HHR HU HA0 hR6 HP hee hu7 u6
    go_wp2_with (first | ((with_reducible refine bodyPost_ret (v := .tuple #[.agg (cH T), .int .i64 0]) ?_ ?_ ?_); exact rresults_head Try.results29 _ _ _ _ _ _ rfl rfl HA7.out; rfl; exact HH7.out) | (refine rload_head (by rfl) _ rfl _ rfl _ T (by assumption) ?_) | fail)
  · have HE2 : Hid (E = (zeroH, r)) := Lib.hid (by rw [HE.out, if_neg h0])
    have hne : (r != 0) = true := by simp only [bne_iff_ne, ne_eq]; exact h0
    clear h0 hr HE
    go_wp2_with (first | (refine rload_head (by rfl) _ rfl _ rfl _ T (by assumption) ?_) | fail)
    refine (HCk.out _).mono ?_
    rintro e w6 ⟨rfl, hb⟩
    have hR6 := HHR.out.later hb
    have u6 := HU.out.trans (hb.mono HU.out.size)
    have hee : Ending.returned (.tuple #[.agg (cH zeroH), .int .i64 r]) = .returned (.tuple #[.agg (cH E.1), .int .i64 E.2]) := by rw [HE2.out]
    have HH6 := Lib.hid u6
    have HEE := Lib.hid hee
    clear hb HHA HHR HU HA0 hee u6
    go_wp2_with (first | ((with_reducible refine bodyPost_ret (v := .tuple #[.agg (cH zeroH), .int .i64 r]) ?_ ?_ ?_); exact rresults_head Try.results29 _ _ _ _ _ _ rfl rfl HP.1; rfl; exact ⟨HEE.out, HP.2.2.1 _ _ (Nat.le_refl _) HH6.out⟩) | (refine rstore_head (by rfl) _ _ rfl _ rfl zeroH rfl _ zeroH (by assumption) rfl ?_; intro w7 HP) | fail)
theorem rdecode_any (t : ByteArray) (w : World) (hm : t.size ≤ maxLen) : Calls Try.prog 29 #[.string t] w fun e w' => e = .returned (.tuple #[.agg (cH (decH (bl t)).1), .int .i64 (decH (bl t)).2]) ∧ Below w.heap.size w w' := by
  by_cases h127 : t.size < 127
  · rw [decB_short t h127]; exact rdecode_short t w h127
  have h : 127 ≤ t.size := by omega
  by_cases hn : t.extract 0 7 = ⟨#[80, 77, 84, 105, 108, 101, 115]⟩
  · by_cases hv : nmB t 7 1 = 3
    · by_cases hf : 1 < nmB t 96 1
      · rw [decB_form t h hn hv hf]; exact rdecode_form t w h hn hv hf
      · have hw : ∀ o, o + 1 ≤ 127 → wrap64 (nmB t o 1) = nmB t o 1 ∧ IntKind.i64.wrap (nmB t o 1) = nmB t o 1 := fun o ho => by
          have := nmB_bd t o 1 (by omega)
          rw [p256_1] at this
          exact ⟨by rw [IntWalk.wrap64_in _ (by omega)], by rw [IntKind.wrap_i64] <;> omega⟩
        have hE : decH (bl t) = if ckH (telB t) = 0 then (telB t, 0) else (zeroH, ckH (telB t)) := by
          by_cases hc : ckH (telB t) = 0
          · rw [if_pos hc, decB_ok t h hn hv hf hc]
          · rw [if_neg hc, decB_bad t h hn hv hf hc]
        exact rdecode_full t w h hn ((byte_at t 7 (by omega)).trans hv) (telB t) _ (telR t hm h) (byte_at t 96 (by omega)) hf
          ((byte_at t 97 (by omega)).trans (telB_inn t).symm)
          ((byte_at t 98 (by omega)).trans (telB_out t).symm)
          ((byte_at t 99 (by omega)).trans (telB_knd t).symm)
          ((byte_at t 100 (by omega)).trans (telB_z0 t).symm) (by rw [telB_z0]; exact hw 100 (by omega))
          ((byte_at t 101 (by omega)).trans (telB_z1 t).symm) (by rw [telB_z1]; exact hw 101 (by omega))
          ((byte_at t 118 (by omega)).trans (telB_zm t).symm) (by rw [telB_zm]; exact hw 118 (by omega))
          _ hE
    · rw [decB_version t h hn hv]; exact rdecode_version t w h hn hv
  · rw [decB_magic t h hn]; exact rdecode_magic t w h hn
end Go.Proofs.Ytkhlkjhfgfjadaa
