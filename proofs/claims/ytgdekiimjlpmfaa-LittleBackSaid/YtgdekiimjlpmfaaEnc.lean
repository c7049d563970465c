/- Plain lists: numbers laid one behind the other, each in its own number of bytes, and what is taken off at each place. -/
import Derived.Test.YtgdekiimjlpmfaaW
namespace Go.Proofs.Ytgdekiimjlpmfaa
open Go.RowKit
set_option linter.unusedVariables false
/-- How many bytes the k-th number has. -/
def nk (z : List Int) (k : Nat) : Nat := 1 + (z.getD k 0 % 8).toNat
/-- The bytes of the first k numbers. -/
def enc (z l : List Int) : Nat → List Int
  | 0 => []
  | k + 1 => enc z l k ++ leB (nk z k) (l.getD k 0)
/-- Where the k-th number stands. -/
def pos (z : List Int) : Nat → Nat
  | 0 => 0
  | k + 1 => pos z k + nk z k
theorem enc_len (z l : List Int) (k : Nat) : (enc z l k).length = pos z k := by
  induction k with
  | zero => rfl
  | succ k ih => simp [enc, pos, ih, leB_len]
theorem nk_bd (z : List Int) (k : Nat) : 1 ≤ nk z k ∧ nk z k ≤ 8 := by
  unfold nk; omega
theorem pos_le (z : List Int) (k j : Nat) : pos z k ≤ pos z (k + j) := by
  induction j with
  | zero => exact Nat.le_refl _
  | succ j ih => have := nk_bd z (k + j); show pos z k ≤ pos z (k + j) + nk z (k + j); omega
theorem pos_mono (z : List Int) {k m : Nat} (h : k ≤ m) : pos z k ≤ pos z m := by
  have := pos_le z k (m - k)
  rwa [show k + (m - k) = m from by omega] at this
theorem pos_bd (z : List Int) (k : Nat) : pos z k ≤ 8 * k ∧ k ≤ pos z k := by
  induction k with
  | zero => exact ⟨Nat.le_refl _, Nat.le_refl _⟩
  | succ k ih => have := nk_bd z k; show pos z k + nk z k ≤ 8 * (k + 1) ∧ k + 1 ≤ pos z k + nk z k; omega
theorem enc_prefix (z l : List Int) (k j : Nat) : ∃ r, enc z l (k + j) = enc z l k ++ r := by
  induction j with
  | zero => exact ⟨[], by simp⟩
  | succ j ih =>
    obtain ⟨r, hr⟩ := ih
    exact ⟨r ++ leB (nk z (k + j)) (l.getD (k + j) 0), by show enc z l (k + j) ++ leB (nk z (k + j)) (l.getD (k + j) 0) = _; rw [hr, List.append_assoc]⟩
theorem enc_at (z l : List Int) (k m : Nat) (h : k < m) : ((enc z l m).drop (pos z k)).take (nk z k) = leB (nk z k) (l.getD k 0) := by
  obtain ⟨r, hr⟩ := enc_prefix z l (k + 1) (m - (k + 1))
  rw [show k + 1 + (m - (k + 1)) = m from by omega] at hr
  rw [hr]
  show (List.drop (pos z k) (enc z l k ++ leB (nk z k) (l.getD k 0) ++ r)).take (nk z k) = _
  rw [List.append_assoc, ← enc_len z l k, List.drop_left]
  exact List.take_left' (leB_len _ _)
theorem numB_leB (k : Nat) (x : Nat) : numB ((leB k x).map (fun n => UInt8.ofNat n.toNat)) = (x : Int) % pow256 k := by
  induction k generalizing x with
  | zero => simp [leB, numB, pow256, Int.emod_one]
  | succ k ih =>
    have e : ((x : Int) / 256) = ((x / 256 : Nat) : Int) := by omega
    simp only [leB, List.map_cons, numB, pow256, e, ih]
    have hp : ∃ P : Nat, pow256 k = P := ⟨(pow256 k).toNat, by have := numB_bd (List.replicate k 0); simp at this; omega⟩
    obtain ⟨P, hP⟩ := hp
    rw [hP]
    have h1 : (UInt8.ofNat ((x : Int) % 256).toNat).toNat = x % 256 := by
      rw [UInt8.toNat_ofNat']; omega
    rw [h1]
    have := Nat.mod_mul (x := x) (a := 256) (b := P)
    have h2 : ((x % (256 * P) : Nat) : Int) = ((x % 256 + 256 * (x / 256 % P) : Nat) : Int) := by rw [this]
    simp only [Int.natCast_emod, Int.natCast_mul, Int.natCast_add] at h2
    simpa using h2.symm
theorem pow256_low (n : Nat) (h : n ≤ 8) (h0 : 1 ≤ n) (x : Int) : x % pow256 n = low x n := by
  unfold low
  rcases (by omega : n = 1 ∨ n = 2 ∨ n = 3 ∨ n = 4 ∨ n = 5 ∨ n = 6 ∨ n = 7 ∨ n = 8) with rfl | rfl | rfl | rfl | rfl | rfl | rfl | rfl <;> rfl
theorem extract_list (t : ByteArray) (i j : Nat) : (t.extract i j).data.toList = (t.data.toList.drop i).take (j - i) := by
  simp [ByteArray.data_extract]
/-- The number that is taken off at the k-th place is the k-th one, modulo what its bytes hold. -/
theorem taken (z l : List Int) (k m : Nat) (h : k < m) (hl : 0 ≤ l.getD k 0) :
    numB ((str (enc z l m)).extract (pos z k) (pos z k + nk z k)).data.toList = low (l.getD k 0) (nk z k) := by
  rw [extract_list, str_list, Nat.add_sub_cancel_left, ← List.map_drop, ← List.map_take, enc_at z l k m h]
  obtain ⟨x, hx⟩ := Int.eq_ofNat_of_zero_le hl
  rw [hx, numB_leB, pow256_low _ (nk_bd z k).2 (nk_bd z k).1]
theorem numBad_ok (t : ByteArray) (p n : Int) (hm : t.size ≤ maxLen) (p0 : 0 ≤ p) (n0 : 1 ≤ n) (n1 : n ≤ 8) (hp : p + n ≤ t.size) : numBad t p 0 n = 0 := by
  unfold maxLen at hm
  have e1 : placedV t p = 0 := if_pos ⟨p0, by omega⟩
  have e2 : wideV n = 0 := if_pos ⟨n0, n1⟩
  have e3 : leftV t p n = 0 := by
    unfold leftV
    rw [IntWalk.wrap64_in _ (by omega), if_neg (by omega)]
  simp [numBad, firstOf, e1, e2, e3]
theorem numBad_short (t : ByteArray) (p n : Int) (hm : t.size ≤ maxLen) (p0 : 0 ≤ p) (p1 : p ≤ t.size) (n0 : 1 ≤ n) (n1 : n ≤ 8) (hp : t.size < p + n) : numBad t p 0 n = 3 := by
  unfold maxLen at hm
  have e1 : placedV t p = 0 := if_pos ⟨p0, p1⟩
  have e2 : wideV n = 0 := if_pos ⟨n0, n1⟩
  have e3 : leftV t p n = 3 := by
    unfold leftV
    rw [IntWalk.wrap64_in _ (by omega), if_pos (by omega)]
  simp [numBad, firstOf, e1, e2, e3]
theorem nk_of (z : List Int) (k : Nat) (y : Int) (h : z.getD k 0 = y) (y0 : 0 ≤ y) : (nk z k : Int) = 1 + y % 8 := by
  unfold nk; rw [h]; omega
/-- Num at the k-th place of the whole text. -/
theorem num_at (z l : List Int) (k m : Nat) (x y : Int) (h : k < m) (hm : m ≤ 40) (hx : l.getD k 0 = x) (hy : z.getD k 0 = y) (x0 : 0 ≤ x) (y0 : 0 ≤ y) (W : World) :
    Calls Try.prog 12 #[.agg #[.string (str (enc z l m)), .int .i64 (pos z k), .int .i64 0], .int .i64 (1 + y % 8)] W
      fun e w' => e = .returned (.tuple #[.int .u64 (low x (1 + y % 8)), .agg #[.string (str (enc z l m)), .int .i64 ((pos z k : Int) + (1 + y % 8)), .int .i64 0]]) ∧ Below W.heap.size W w' := by
  have hn := nk_of z k y hy y0
  have hb := nk_bd z k
  have hs : (str (enc z l m)).size = pos z m := by rw [str_size, enc_len]
  have hpm := pos_bd z m
  have hp1 : pos z k + nk z k ≤ pos z m := pos_mono z h
  have hml : (str (enc z l m)).size ≤ maxLen := by rw [hs]; unfold maxLen; omega
  have key := num_yes (str (enc z l m)) (pos z k) (1 + y % 8) W hml (numBad_ok _ _ _ hml (by omega) (by omega) (by omega) (by rw [hs]; omega)) (by omega) (by omega) (by omega) (by rw [hs]; omega)
  have e : numB ((str (enc z l m)).extract ((pos z k : Int)).toNat ((pos z k : Int) + (1 + y % 8)).toNat).data.toList = low x (1 + y % 8) := by
    rw [← hn, Int.toNat_natCast, show ((pos z k : Int) + (nk z k : Int)).toNat = pos z k + nk z k from by omega]
    rw [taken z l k m h (by rw [hx]; exact x0), hx]
  rw [e] at key
  exact key
theorem cmp_ne (x n : Int) (h0 : 1 ≤ n) (h1 : n ≤ 8) : (low x n != IntKind.u64.wrap (x * 2 ^ (64 - 8 * n).toNat) / 2 ^ (64 - 8 * n).toNat) = false := by
  rw [show 64 - 8 * n = 8 * (8 - n) from by omega, shifts_low x n h0 h1]
  simp
theorem BytesAt.cut {w : World} {a : Option Addr} {len cap : Nat} {l : List Int} (h : BytesAt w (.slice a len cap) l) (hl : l.length = len) (n : Nat) (hn : n ≤ len) : BytesAt w (.slice a n cap) (l.take n) := by
  obtain ⟨a', cap', he, h1, h2, hc⟩ := h
  simp only [Value.slice.injEq] at he
  obtain ⟨rfl, h3, rfl⟩ := he
  have hle : (l.take n).length = n := by simp; omega
  refine ⟨a, cap, by rw [hle], by omega, h2, fun h0 => ?_⟩
  obtain ⟨x, hx, hb, hcell⟩ := hc (by omega)
  refine ⟨x, hx, hb, fun i hi => ?_⟩
  rw [hcell i (by omega)]
  have : i < n := by omega
  simp [this]
/-- Num at the k-th place of the text without its last byte: at all but the last number it goes on; at the last one the bytes are too few. -/
theorem num_cut (z l : List Int) (k m : Nat) (y : Int) (h : k < m) (hm : m ≤ 40) (hy : z.getD k 0 = y) (y0 : 0 ≤ y) :
    ∃ V A B : Int, (∀ n, n = 1 + y % 8 → ∀ W, Calls Try.prog 12 #[.agg #[.string (str ((enc z l m).take (pos z m - 1))), .int .i64 (pos z k), .int .i64 0], .int .i64 n] W
      fun e w' => e = .returned (.tuple #[.int .u64 V, .agg #[.string (str ((enc z l m).take (pos z m - 1))), .int .i64 A, .int .i64 B]]) ∧ Below W.heap.size W w') ∧
      (k + 1 < m → A = pos z (k + 1) ∧ B = 0) ∧ (k + 1 = m → B = 3) := by
  have hn := nk_of z k y hy y0
  have hb := nk_bd z k
  have hs : (str ((enc z l m).take (pos z m - 1))).size = pos z m - 1 := by rw [str_size, List.length_take, enc_len]; omega
  have hpm := pos_bd z m
  have hml : (str ((enc z l m).take (pos z m - 1))).size ≤ maxLen := by rw [hs]; unfold maxLen; omega
  have hp1 : pos z k + nk z k = pos z (k + 1) := rfl
  by_cases hk : k + 1 < m
  · have hp2 : pos z (k + 1) + nk z (k + 1) ≤ pos z m := pos_mono z hk
    have hb2 := nk_bd z (k + 1)
    refine ⟨numB ((str ((enc z l m).take (pos z m - 1))).extract ((pos z k : Int)).toNat ((pos z k : Int) + (1 + y % 8)).toNat).data.toList, (pos z k : Int) + (1 + y % 8), 0, fun n hnn W => ?_, fun _ => ⟨?_, rfl⟩, fun h => by omega⟩
    · subst hnn
      exact num_yes _ (pos z k) (1 + y % 8) W hml (numBad_ok _ _ _ hml (by omega) (by omega) (by omega) (by rw [hs]; omega)) (by omega) (by omega) (by omega) (by rw [hs]; omega)
    · omega
  · have hkm : k + 1 = m := by omega
    have e3 := numBad_short (str ((enc z l m).take (pos z m - 1))) (pos z k) (1 + y % 8) hml (by omega) (by rw [hs, ← hkm, ← hp1]; omega) (by omega) (by omega) (by rw [hs, ← hkm, ← hp1]; omega)
    refine ⟨0, pos z k, 3, fun n hnn W => ?_, fun h => by omega, fun _ => rfl⟩
    subst hnn
    have key := num_no (str ((enc z l m).take (pos z m - 1))) (pos z k) 0 (1 + y % 8) W (by rw [e3]; decide)
    rw [e3] at key
    exact key
end Go.Proofs.Ytgdekiimjlpmfaa
