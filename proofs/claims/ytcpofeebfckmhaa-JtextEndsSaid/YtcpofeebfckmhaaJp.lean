/- The model's own reading of a rune, held against the bytes: a range over a text. -/
import Derived.Test.YtcpofeebfckmhaaJj
import Derived.Laws.RangeAny
namespace Go.Proofs.Ytcpofeebfckmhaa
open Go.RowKit
set_option maxRecDepth 20000
set_option linter.unusedVariables false
set_option linter.unusedSimpArgs false
theorem get_bI (s : ByteArray) (k : Nat) (h : k < s.size) : (bI s)[k]? = some ((s.get! k).toNat : Int) := by
  rw [bI_get s k h]
  have e : s.get! k = s[k]'h := by
    have h' : k < s.data.size := h
    show s.data[k]! = s.data[k]'h'
    rw [getElem!_pos s.data k h']
  rw [e]
theorem drop_get (s : ByteArray) (i k : Nat) (b : Int) (h : ((bI s).drop i)[k]? = some b) : i + k < s.size ∧ ((s.get! (i + k)).toNat : Int) = b := by
  rw [List.getElem?_drop] at h
  have hl := (List.getElem?_eq_some_iff.1 h).1
  rw [bI_len] at hl
  refine ⟨hl, ?_⟩
  rw [get_bI s (i + k) hl] at h
  injection h
def decX (x0 x1 x2 x3 : Nat) (p1 p2 p3 : Bool) : Nat × Nat :=
  if x0 < 128 then (x0, 1)
  else if x0 / 32 == 6 && (p1 && x1 / 64 == 2) then (if x0 % 32 * 64 + x1 % 64 ≥ 128 then (x0 % 32 * 64 + x1 % 64, 2) else (65533, 1))
  else if x0 / 16 == 14 && (p1 && x1 / 64 == 2) && (p2 && x2 / 64 == 2) then
    (if decide (x0 % 16 * 4096 + x1 % 64 * 64 + x2 % 64 ≥ 2048) && Utf8.valid ((x0 % 16 * 4096 + x1 % 64 * 64 + x2 % 64 : Nat) : Int) then (x0 % 16 * 4096 + x1 % 64 * 64 + x2 % 64, 3) else (65533, 1))
  else if x0 / 8 == 30 && (p1 && x1 / 64 == 2) && (p2 && x2 / 64 == 2) && (p3 && x3 / 64 == 2) then
    (if decide (x0 % 8 * 262144 + x1 % 64 * 4096 + x2 % 64 * 64 + x3 % 64 ≥ 65536) && Utf8.valid ((x0 % 8 * 262144 + x1 % 64 * 4096 + x2 % 64 * 64 + x3 % 64 : Nat) : Int) then (x0 % 8 * 262144 + x1 % 64 * 4096 + x2 % 64 * 64 + x3 % 64, 4) else (65533, 1))
  else (65533, 1)
theorem decode_eq (s : ByteArray) (i : Nat) : Utf8.decode s i = decX (s.get! i).toNat (s.get! (i + 1)).toNat (s.get! (i + 2)).toNat (s.get! (i + 3)).toNat (decide (i + 1 < s.size)) (decide (i + 2 < s.size)) (decide (i + 3 < s.size)) := by
  simp only [Utf8.decode, decX, Nat.add_zero, Utf8.runeError]
theorem bt {a : Nat} {b : Nat} (h : a = b) : (a == b) = true := by rw [h]; simp
theorem bf {a : Nat} {b : Nat} (h : a ≠ b) : (a == b) = false := by simpa using h
theorem decX_1 {x0 : Nat} (x1 x2 x3 : Nat) (p1 p2 p3 : Bool) (h : x0 < 128) : decX x0 x1 x2 x3 p1 p2 p3 = (x0, 1) := by unfold decX; rw [if_pos h]
theorem decX_2 {x0 x1 : Nat} (x2 x3 : Nat) (p2 p3 : Bool) (h0 : ¬ x0 < 128) (h : x0 / 32 = 6) (h1 : x1 / 64 = 2) (hc : x0 % 32 * 64 + x1 % 64 ≥ 128) : decX x0 x1 x2 x3 true p2 p3 = (x0 % 32 * 64 + x1 % 64, 2) := by
  unfold decX
  rw [if_neg h0, bt h, bt h1, if_pos (by simp), if_pos hc]
theorem decX_3 {x0 x1 x2 : Nat} (x3 : Nat) (p3 : Bool) (h0 : ¬ x0 < 128) (h : x0 / 16 = 14) (h1 : x1 / 64 = 2) (h2 : x2 / 64 = 2) (hc : x0 % 16 * 4096 + x1 % 64 * 64 + x2 % 64 ≥ 2048) (hv : Utf8.valid ((x0 % 16 * 4096 + x1 % 64 * 64 + x2 % 64 : Nat) : Int) = true) : decX x0 x1 x2 x3 true true p3 = (x0 % 16 * 4096 + x1 % 64 * 64 + x2 % 64, 3) := by
  unfold decX
  rw [if_neg h0, bf (show x0 / 32 ≠ 6 by omega), Bool.false_and, if_neg (by simp), bt h, bt h1, bt h2, if_pos (by simp), hv, decide_eq_true hc, if_pos (by simp)]
theorem decX_4 {x0 x1 x2 x3 : Nat} (h0 : ¬ x0 < 128) (h : x0 / 8 = 30) (h1 : x1 / 64 = 2) (h2 : x2 / 64 = 2) (h3 : x3 / 64 = 2) (hc : x0 % 8 * 262144 + x1 % 64 * 4096 + x2 % 64 * 64 + x3 % 64 ≥ 65536) (hv : Utf8.valid ((x0 % 8 * 262144 + x1 % 64 * 4096 + x2 % 64 * 64 + x3 % 64 : Nat) : Int) = true) : decX x0 x1 x2 x3 true true true = (x0 % 8 * 262144 + x1 % 64 * 4096 + x2 % 64 * 64 + x3 % 64, 4) := by
  unfold decX
  rw [if_neg h0, bf (show x0 / 32 ≠ 6 by omega), Bool.false_and, if_neg (by simp), bf (show x0 / 16 ≠ 14 by omega), Bool.false_and, Bool.false_and, if_neg (by simp), bt h, bt h1, bt h2, bt h3, if_pos (by simp), hv, decide_eq_true hc, if_pos (by simp)]
theorem valid_of {c : Int} (h0 : 0 ≤ c) (h1 : c ≤ 1114111) (h2 : ¬ (55296 ≤ c ∧ c ≤ 57343)) : Utf8.valid c = true := by
  unfold Utf8.valid
  by_cases h : c < 55296
  · rw [decide_eq_true h0, decide_eq_true (show c < 0xD800 by omega)]; rfl
  · rw [decide_eq_true (show (0xE000 : Int) ≤ c by omega), decide_eq_true (show c ≤ 0x10FFFF by omega)]; simp
theorem decode_of (s : ByteArray) (i : Nat) (c : Int) (t : List Int) (h : encC c ≠ []) (hl : (bI s).drop i = encC c ++ t) : Utf8.decode s i = (c.toNat, (encC c).length) := by
  rw [decode_eq]
  rcases encC_ways c with h' | ⟨h1, h2, h'⟩ | ⟨h1, h2, h'⟩ | ⟨h1, h2, h3, h'⟩ | ⟨h1, h2, h'⟩
  · exact absurd h' h
  · rw [h'] at hl ⊢
    obtain ⟨a1, a2⟩ := drop_get s i 0 c (by rw [hl]; rfl)
    rw [Nat.add_zero] at a2
    rw [decX_1 _ _ _ _ _ _ (by omega)]
    exact Prod.ext (by simp only; omega) rfl
  · rw [h'] at hl ⊢
    obtain ⟨a1, a2⟩ := drop_get s i 0 _ (by rw [hl]; rfl)
    obtain ⟨b1, b2⟩ := drop_get s i 1 _ (by rw [hl]; rfl)
    rw [Nat.add_zero] at a2
    rw [decide_eq_true b1, decX_2 _ _ _ _ (by omega) (by omega) (by omega) (by omega)]
    exact Prod.ext (by simp only; omega) rfl
  · rw [h'] at hl ⊢
    obtain ⟨a1, a2⟩ := drop_get s i 0 _ (by rw [hl]; rfl)
    obtain ⟨b1, b2⟩ := drop_get s i 1 _ (by rw [hl]; rfl)
    obtain ⟨c1, c2⟩ := drop_get s i 2 _ (by rw [hl]; rfl)
    rw [Nat.add_zero] at a2
    rw [decide_eq_true b1, decide_eq_true c1, decX_3 _ _ (by omega) (by omega) (by omega) (by omega) (by omega) (valid_of (by omega) (by omega) (by omega))]
    exact Prod.ext (by simp only; omega) rfl
  · rw [h'] at hl ⊢
    obtain ⟨a1, a2⟩ := drop_get s i 0 _ (by rw [hl]; rfl)
    obtain ⟨b1, b2⟩ := drop_get s i 1 _ (by rw [hl]; rfl)
    obtain ⟨c1, c2⟩ := drop_get s i 2 _ (by rw [hl]; rfl)
    obtain ⟨d1, d2⟩ := drop_get s i 3 _ (by rw [hl]; rfl)
    rw [Nat.add_zero] at a2
    rw [decide_eq_true b1, decide_eq_true c1, decide_eq_true d1, decX_4 (by omega) (by omega) (by omega) (by omega) (by omega) (by omega) (valid_of (by omega) (by omega) (by omega))]
    exact Prod.ext (by simp only; omega) rfl
theorem valid_is {c : Int} (h : Utf8.valid c = true) : (0 ≤ c ∧ c < 55296) ∨ (57344 ≤ c ∧ c ≤ 1114111) := by
  unfold Utf8.valid at h
  simp at h
  omega
/-- Either an error, of one byte, or a rune that stands there. -/
theorem decX_ways (x0 x1 x2 x3 : Nat) (p1 p2 p3 : Bool) (h0 : x0 < 256) (h1 : x1 < 256) (h2 : x2 < 256) (h3 : x3 < 256) :
    decX x0 x1 x2 x3 p1 p2 p3 = (65533, 1) ∨ (∃ c, encC c = [(x0 : Int)]) ∨ (p1 = true ∧ ∃ c, encC c = [(x0 : Int), (x1 : Int)]) ∨ (p1 = true ∧ p2 = true ∧ ∃ c, encC c = [(x0 : Int), (x1 : Int), (x2 : Int)]) ∨ (p1 = true ∧ p2 = true ∧ p3 = true ∧ ∃ c, encC c = [(x0 : Int), (x1 : Int), (x2 : Int), (x3 : Int)]) := by
  unfold decX
  by_cases c0 : x0 < 128
  · right; left
    exact ⟨x0, enc_1 (by omega) (by omega)⟩
  rw [if_neg c0]
  split
  · rename_i c1
    rw [Bool.and_eq_true, Bool.and_eq_true] at c1
    obtain ⟨g0, g1, g2⟩ := c1
    replace g0 := eq_of_beq g0
    replace g2 := eq_of_beq g2
    by_cases c2 : x0 % 32 * 64 + x1 % 64 ≥ 128
    · right; right; left
      refine ⟨g1, ((x0 % 32 * 64 + x1 % 64 : Nat) : Int), ?_⟩
      rw [enc_2 (by omega) (by omega)]
      simp only [List.cons.injEq, and_true]
      omega
    · left; rw [if_neg c2]
  split
  · rename_i c1
    rw [Bool.and_eq_true, Bool.and_eq_true, Bool.and_eq_true, Bool.and_eq_true] at c1
    obtain ⟨⟨g0, g1, g2⟩, g3, g4⟩ := c1
    replace g0 := eq_of_beq g0
    replace g2 := eq_of_beq g2
    replace g4 := eq_of_beq g4
    split
    · rename_i c2
      rw [Bool.and_eq_true] at c2
      have k1 := of_decide_eq_true c2.1
      have k2 := valid_is c2.2
      right; right; right; left
      refine ⟨g1, g3, ((x0 % 16 * 4096 + x1 % 64 * 64 + x2 % 64 : Nat) : Int), ?_⟩
      rw [enc_3 (by omega) (by omega) (by omega)]
      simp only [List.cons.injEq, and_true]
      omega
    · exact .inl rfl
  split
  · rename_i c1
    rw [Bool.and_eq_true, Bool.and_eq_true, Bool.and_eq_true, Bool.and_eq_true, Bool.and_eq_true, Bool.and_eq_true] at c1
    obtain ⟨⟨⟨g0, g1, g2⟩, g3, g4⟩, g5, g6⟩ := c1
    replace g0 := eq_of_beq g0
    replace g2 := eq_of_beq g2
    replace g4 := eq_of_beq g4
    replace g6 := eq_of_beq g6
    split
    · rename_i c2
      rw [Bool.and_eq_true] at c2
      have k1 := of_decide_eq_true c2.1
      have k2 := valid_is c2.2
      right; right; right; right
      refine ⟨g1, g3, g5, ((x0 % 8 * 262144 + x1 % 64 * 4096 + x2 % 64 * 64 + x3 % 64 : Nat) : Int), ?_⟩
      rw [enc_4 (by omega) (by omega)]
      simp only [List.cons.injEq, and_true]
      omega
    · exact .inl rfl
  exact .inl rfl
theorem decode_ways (s : ByteArray) (i : Nat) (hi : i < s.size) : Utf8.decode s i = (65533, 1) ∨ ∃ c t, encC c ≠ [] ∧ (bI s).drop i = encC c ++ t := by
  have hsp : ∀ k (h : k < s.size), (bI s).drop k = ((s.get! k).toNat : Int) :: (bI s).drop (k + 1) := fun k h => by
    have h1 := get_bI s k h
    have hk : k < (bI s).length := by rw [bI_len]; exact h
    rw [List.drop_eq_getElem_cons hk]
    rw [List.getElem?_eq_getElem hk] at h1
    injection h1 with h1
    rw [h1]
  have l0 := hsp i hi
  rw [decode_eq]
  rcases decX_ways (s.get! i).toNat (s.get! (i + 1)).toNat (s.get! (i + 2)).toNat (s.get! (i + 3)).toNat (decide (i + 1 < s.size)) (decide (i + 2 < s.size)) (decide (i + 3 < s.size)) (s.get! i).toNat_lt (s.get! (i + 1)).toNat_lt (s.get! (i + 2)).toNat_lt (s.get! (i + 3)).toNat_lt with h | ⟨c, h⟩ | ⟨p1, c, h⟩ | ⟨p1, p2, c, h⟩ | ⟨p1, p2, p3, c, h⟩
  · exact .inl h
  · exact .inr ⟨c, _, by rw [h]; simp, by rw [h, l0]; rfl⟩
  · exact .inr ⟨c, _, by rw [h]; simp, by rw [h, l0, hsp (i + 1) (of_decide_eq_true p1)]; rfl⟩
  · exact .inr ⟨c, _, by rw [h]; simp, by rw [h, l0, hsp (i + 1) (of_decide_eq_true p1), hsp (i + 2) (of_decide_eq_true p2)]; rfl⟩
  · exact .inr ⟨c, _, by rw [h]; simp, by rw [h, l0, hsp (i + 1) (of_decide_eq_true p1), hsp (i + 2) (of_decide_eq_true p2), hsp (i + 3) (of_decide_eq_true p3)]; rfl⟩
/-- What a round of a range over a text is told, by the bytes. -/
theorem decode_rune (s : ByteArray) (i : Nat) (hi : i < s.size) : (runeP ((bI s).drop i) = [] ∧ Utf8.decode s i = (65533, 1)) ∨ ∃ c, encC c = runeP ((bI s).drop i) ∧ runeP ((bI s).drop i) ≠ [] ∧ Utf8.decode s i = (c.toNat, (runeP ((bI s).drop i)).length) := by
  by_cases h : runeP ((bI s).drop i) = []
  · left
    refine ⟨h, ?_⟩
    rcases decode_ways s i hi with h1 | ⟨c, t, h1, h2⟩
    · exact h1
    · rw [h2, rune_of c t h1] at h
      exact absurd h h1
  · right
    obtain ⟨c, t, h1, h2⟩ := rune_is _ h
    refine ⟨c, h1, h, ?_⟩
    rw [← h1]
    exact decode_of s i c t (by rw [h1]; exact h) (by rw [h1]; exact h2)
theorem enc_valid {c : Int} (h : encC c ≠ []) : Utf8.valid c = true := by
  have := mt (encC_nil c).2 h
  exact valid_of (by omega) (by omega) (by omega)
theorem enc_not {c : Int} (h : encC c = []) : Utf8.valid c = false := by
  have := (encC_nil c).1 h
  cases hv : Utf8.valid c with
  | false => rfl
  | true => have := valid_is hv; omega
/-- A rune's text. -/
theorem encode_of (c : Int) (h : encC c ≠ []) : Utf8.encode c = str (encC c) := by
  have hv := enc_valid h
  apply ByteArray.ext
  apply Array.ext'
  rw [str_list]
  unfold Utf8.encode
  simp only [hv, if_true]
  rcases encC_ways c with h' | ⟨h1, h2, h'⟩ | ⟨h1, h2, h'⟩ | ⟨h1, h2, h3, h'⟩ | ⟨h1, h2, h'⟩
  · exact absurd h' h
  · rw [h', if_pos (by omega)]
    rfl
  · rw [h', if_neg (by omega), if_pos (by omega)]
    simp only [List.map_cons, List.map_nil]
    rw [show 0xC0 + c.toNat / 64 = (192 + c / 64).toNat by omega, show 0x80 + c.toNat % 64 = (128 + c % 64).toNat by omega]
  · rw [h', if_neg (by omega), if_neg (by omega), if_pos (by omega)]
    simp only [List.map_cons, List.map_nil]
    rw [show 0xE0 + c.toNat / 4096 = (224 + c / 4096).toNat by omega, show 0x80 + c.toNat / 64 % 64 = (128 + c / 64 % 64).toNat by omega, show 0x80 + c.toNat % 64 = (128 + c % 64).toNat by omega]
  · rw [h', if_neg (by omega), if_neg (by omega), if_neg (by omega)]
    simp only [List.map_cons, List.map_nil]
    rw [show 0xF0 + c.toNat / 262144 = (240 + c / 262144).toNat by omega, show 0x80 + c.toNat / 4096 % 64 = (128 + c / 4096 % 64).toNat by omega, show 0x80 + c.toNat / 64 % 64 = (128 + c / 64 % 64).toNat by omega, show 0x80 + c.toNat % 64 = (128 + c % 64).toNat by omega]
theorem encode_not (c : Int) (h : encC c = []) : Utf8.encode c = str [239, 191, 189] := by
  unfold Utf8.encode
  have e : (if Utf8.valid c = true then c.toNat else Utf8.runeError) = 65533 := by rw [enc_not h]; rfl
  simp only [e]
  decide
end Go.Proofs.Ytcpofeebfckmhaa
