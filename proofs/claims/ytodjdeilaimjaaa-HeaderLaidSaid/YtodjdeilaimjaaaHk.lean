/- Plain: what a text's bytes tell of a header, number by number, as both sides read them. -/
import Derived.Test.YtodjdeilaimjaaaHq
import Derived.Test.YtodjdeilaimjaaaU
import Derived.Test.YtodjdeilaimjaaaW
namespace Go.Proofs.Ytodjdeilaimjaaa
open Go.RowKit
set_option linter.unusedVariables false
/-- A text's bytes. -/
def bl (t : ByteArray) : List Int := t.data.toList.map (fun c => (c.toNat : Int))
theorem bl_len (t : ByteArray) : (bl t).length = t.size := by simp [bl]
theorem bl_byts (t : ByteArray) : Byts (bl t) := by
  intro c hc
  obtain ⟨b, _, rfl⟩ := List.mem_map.1 hc
  have := byte_bd b
  omega
theorem numB_numH (l : List UInt8) : numB l = numH (l.map (fun c => (c.toNat : Int))) := by
  induction l with
  | nil => rfl
  | cons c l ih => rw [numB, List.map_cons, numH, ih]
theorem extract_list (t : ByteArray) (i j : Nat) : (t.extract i j).data.toList = (t.data.toList.drop i).take (j - i) := by
  simp [ByteArray.data_extract]
/-- The number of w bytes at a place. -/
def nmB (t : ByteArray) (o w : Nat) : Int := numB (t.extract o (o + w)).data.toList
theorem nmB_eq (t : ByteArray) (o w : Nat) : nmB t o w = numH (((bl t).drop o).take w) := by
  unfold nmB bl
  rw [numB_numH, extract_list, Nat.add_sub_cancel_left, List.map_take, List.map_drop]
theorem nmB_bd (t : ByteArray) (o w : Nat) (h : o + w ≤ t.size) : 0 ≤ nmB t o w ∧ nmB t o w < p256 w := by
  rw [nmB_eq]
  have hb : Byts (((bl t).drop o).take w) := fun c hc => bl_byts t c (List.mem_of_mem_drop (List.mem_of_mem_take hc))
  have := numH_bd _ hb
  rw [List.length_take, List.length_drop, bl_len, Nat.min_eq_left (by omega)] at this
  exact this
theorem nmB_one (t : ByteArray) (o : Nat) : nmB t o 1 = (bl t).getD o 0 := by rw [nmB_eq, num_one]
/-- The number that a text's bytes tell, a number with a sign of four bytes. -/
def sgB (t : ByteArray) (o : Nat) : Int := sgn (nmB t o 4) 4
theorem sg_sgn (x : Int) (h0 : 0 ≤ x) (h1 : x < 4294967296) : sg x = sgn x 4 := by
  unfold sg sgn
  simp only [Int.reduceMul, Int.reduceSub, Int.reduceToNat, Int.reducePow]
  rw [Int.emod_eq_of_lt h0 h1]
/-- The header that a text's bytes tell. -/
def telB (t : ByteArray) : Hd := ⟨nmB t 8 8, nmB t 16 8, nmB t 24 8, nmB t 32 8, nmB t 40 8, nmB t 48 8, nmB t 56 8, nmB t 64 8, nmB t 72 8, nmB t 80 8, nmB t 88 8, nmB t 96 1 == 1, nmB t 97 1, nmB t 98 1, nmB t 99 1, nmB t 100 1, nmB t 101 1, sgB t 102, sgB t 106, sgB t 110, sgB t 114, nmB t 118 1, sgB t 119, sgB t 123⟩
theorem telB_rf (t : ByteArray) : (telB t).rf = nmB t 8 8 := by rw [telB]
theorem telB_rl (t : ByteArray) : (telB t).rl = nmB t 16 8 := by rw [telB]
theorem telB_mf (t : ByteArray) : (telB t).mf = nmB t 24 8 := by rw [telB]
theorem telB_ml (t : ByteArray) : (telB t).ml = nmB t 32 8 := by rw [telB]
theorem telB_lf (t : ByteArray) : (telB t).lf = nmB t 40 8 := by rw [telB]
theorem telB_ll (t : ByteArray) : (telB t).ll = nmB t 48 8 := by rw [telB]
theorem telB_df (t : ByteArray) : (telB t).df = nmB t 56 8 := by rw [telB]
theorem telB_dl (t : ByteArray) : (telB t).dl = nmB t 64 8 := by rw [telB]
theorem telB_ad (t : ByteArray) : (telB t).ad = nmB t 72 8 := by rw [telB]
theorem telB_en (t : ByteArray) : (telB t).en = nmB t 80 8 := by rw [telB]
theorem telB_co (t : ByteArray) : (telB t).co = nmB t 88 8 := by rw [telB]
theorem telB_cl (t : ByteArray) : (telB t).cl = (nmB t 96 1 == 1) := by rw [telB]
theorem telB_inn (t : ByteArray) : (telB t).inn = nmB t 97 1 := by rw [telB]
theorem telB_out (t : ByteArray) : (telB t).out = nmB t 98 1 := by rw [telB]
theorem telB_knd (t : ByteArray) : (telB t).knd = nmB t 99 1 := by rw [telB]
theorem telB_z0 (t : ByteArray) : (telB t).z0 = nmB t 100 1 := by rw [telB]
theorem telB_z1 (t : ByteArray) : (telB t).z1 = nmB t 101 1 := by rw [telB]
theorem telB_lo0 (t : ByteArray) : (telB t).lo0 = sgB t 102 := by rw [telB]
theorem telB_la0 (t : ByteArray) : (telB t).la0 = sgB t 106 := by rw [telB]
theorem telB_lo1 (t : ByteArray) : (telB t).lo1 = sgB t 110 := by rw [telB]
theorem telB_la1 (t : ByteArray) : (telB t).la1 = sgB t 114 := by rw [telB]
theorem telB_zm (t : ByteArray) : (telB t).zm = nmB t 118 1 := by rw [telB]
theorem telB_lon (t : ByteArray) : (telB t).lon = sgB t 119 := by rw [telB]
theorem telB_lat (t : ByteArray) : (telB t).lat = sgB t 123 := by rw [telB]
theorem tel_telB (t : ByteArray) (h : 127 ≤ t.size) : telH (bl t) = telB t := by
  have hs : ∀ q, q + 4 ≤ 127 → sg (nmB t q 4) = sgB t q := fun q hq => by
    have := nmB_bd t q 4 (by omega)
    rw [p256_4] at this
    exact sg_sgn _ this.1 this.2
  unfold telH telB ofNums
  simp only [widH, takesH, List.drop_drop, List.getD_cons_zero, List.getD_cons_succ, Nat.reduceAdd, ← nmB_eq]
  rw [hs 102 (by omega), hs 106 (by omega), hs 110 (by omega), hs 114 (by omega), hs 119 (by omega), hs 123 (by omega)]
theorem may_telB (t : ByteArray) (h : 127 ≤ t.size) : MayH (telB t) := by
  rw [← tel_telB t h]
  exact may_of _ (takes_fit widH _ (fun c hc => bl_byts t c (List.mem_of_mem_drop hc)) (by rw [List.length_drop, bl_len, sumW_widH]; omega))
theorem map_inj {a b : List UInt8} (h : a.map (fun c => (c.toNat : Int)) = b.map (fun c => (c.toNat : Int))) : a = b := by
  induction a generalizing b with
  | nil => cases b with
    | nil => rfl
    | cons c b => simp at h
  | cons c a ih => cases b with
    | nil => simp at h
    | cons d b =>
      simp only [List.map_cons, List.cons.injEq] at h
      have : c = d := UInt8.toNat_inj.1 (by have := h.1; omega)
      rw [this, ih h.2]
/-- The first seven bytes. -/
theorem name_iff (t : ByteArray) : t.extract 0 7 = ⟨#[80, 77, 84, 105, 108, 101, 115]⟩ ↔ (bl t).take 7 = mgH := by
  have e : (bl t).take 7 = (t.extract 0 7).data.toList.map (fun c => (c.toNat : Int)) := by
    rw [extract_list, bl, List.map_take]
    rfl
  rw [e]
  constructor
  · intro h; rw [h]; rfl
  · intro h
    apply ByteArray.ext
    apply Array.ext'
    exact map_inj (h.trans (by rfl : mgH = [80, 77, 84, 105, 108, 101, 115].map (fun c : UInt8 => (c.toNat : Int))))
/-- What a text's bytes tell, case by case. -/
theorem decB_short (t : ByteArray) (h : t.size < 127) : decH (bl t) = (zeroH, 3) := by
  unfold decH
  rw [if_pos (by rw [bl_len]; exact h)]
theorem decB_magic (t : ByteArray) (h : 127 ≤ t.size) (hn : t.extract 0 7 ≠ ⟨#[80, 77, 84, 105, 108, 101, 115]⟩) : decH (bl t) = (zeroH, 12) := by
  unfold decH
  rw [if_neg (by rw [bl_len]; omega), if_pos (fun e => hn ((name_iff t).2 e))]
theorem decB_version (t : ByteArray) (h : 127 ≤ t.size) (hn : t.extract 0 7 = ⟨#[80, 77, 84, 105, 108, 101, 115]⟩) (hv : nmB t 7 1 ≠ 3) : decH (bl t) = (zeroH, 13) := by
  unfold decH
  rw [if_neg (by rw [bl_len]; omega), if_neg (fun e => e ((name_iff t).1 hn)), if_pos (by rw [← nmB_one]; exact hv)]
theorem decB_form (t : ByteArray) (h : 127 ≤ t.size) (hn : t.extract 0 7 = ⟨#[80, 77, 84, 105, 108, 101, 115]⟩) (hv : nmB t 7 1 = 3) (hf : 1 < nmB t 96 1) : decH (bl t) = (zeroH, 4) := by
  unfold decH
  rw [if_neg (by rw [bl_len]; omega), if_neg (fun e => e ((name_iff t).1 hn)), if_neg (by rw [← nmB_one]; exact fun e => e hv), if_pos (by rw [← nmB_one]; exact hf)]
theorem decB_bad (t : ByteArray) (h : 127 ≤ t.size) (hn : t.extract 0 7 = ⟨#[80, 77, 84, 105, 108, 101, 115]⟩) (hv : nmB t 7 1 = 3) (hf : ¬ 1 < nmB t 96 1) (hc : ckH (telB t) ≠ 0) : decH (bl t) = (zeroH, ckH (telB t)) := by
  unfold decH
  rw [if_neg (by rw [bl_len]; omega), if_neg (fun e => e ((name_iff t).1 hn)), if_neg (by rw [← nmB_one]; exact fun e => e hv), if_neg (by rw [← nmB_one]; exact hf), tel_telB t h, if_neg hc]
theorem decB_ok (t : ByteArray) (h : 127 ≤ t.size) (hn : t.extract 0 7 = ⟨#[80, 77, 84, 105, 108, 101, 115]⟩) (hv : nmB t 7 1 = 3) (hf : ¬ 1 < nmB t 96 1) (hc : ckH (telB t) = 0) : decH (bl t) = (telB t, 0) := by
  unfold decH
  rw [if_neg (by rw [bl_len]; omega), if_neg (fun e => e ((name_iff t).1 hn)), if_neg (by rw [← nmB_one]; exact fun e => e hv), if_neg (by rw [← nmB_one]; exact hf), tel_telB t h, if_pos hc]
theorem numBad_ok (t : ByteArray) (p n : Int) (hm : t.size ≤ maxLen) (p0 : 0 ≤ p) (n0 : 1 ≤ n) (n1 : n ≤ 8) (hp : p + n ≤ t.size) : numBad t p 0 n = 0 := by
  unfold maxLen at hm
  have e1 : placedV t p = 0 := if_pos ⟨p0, by omega⟩
  have e2 : wideV n = 0 := if_pos ⟨n0, n1⟩
  have e3 : leftV t p n = 0 := by
    unfold leftV
    rw [IntWalk.wrap64_in _ (by omega), if_neg (by omega)]
  simp [numBad, firstOf, e1, e2, e3]
theorem bytesBad_ok (t : ByteArray) (p n : Int) (hm : t.size ≤ maxLen) (p0 : 0 ≤ p) (n0 : 0 ≤ n) (hp : p + n ≤ t.size) : bytesBad t p 0 n = 0 := by
  unfold maxLen at hm
  have e1 : placedV t p = 0 := if_pos ⟨p0, by omega⟩
  have e2 : countedV n = 0 := if_neg (by omega)
  have e3 : leftV t p n = 0 := by
    unfold leftV
    rw [IntWalk.wrap64_in _ (by omega), if_neg (by omega)]
  simp [bytesBad, firstOf, e1, e2, e3]
/-- Num at a place. -/
theorem num_at (t : ByteArray) (p n : Nat) (w : World) (hm : t.size ≤ maxLen) (n0 : 1 ≤ n) (n1 : n ≤ 8) (hp : p + n ≤ t.size) : Calls Try.prog 33 #[.agg #[.string t, .int .i64 p, .int .i64 0], .int .i64 n] w
    fun e w' => e = .returned (.tuple #[.int .u64 (nmB t p n), .agg #[.string t, .int .i64 ((p + n : Nat) : Int), .int .i64 0]]) ∧ Below w.heap.size w w' := by
  have key := num_yes t p n w hm (numBad_ok t p n hm (by omega) (by omega) (by omega) (by omega)) (by omega) (by omega) (by omega) (by omega)
  rw [Int.toNat_natCast, show ((p : Int) + (n : Int)).toNat = p + n from by omega] at key
  have e : ((p + n : Nat) : Int) = (p : Int) + (n : Int) := by omega
  rw [e]
  exact key
end Go.Proofs.Ytodjdeilaimjaaa
