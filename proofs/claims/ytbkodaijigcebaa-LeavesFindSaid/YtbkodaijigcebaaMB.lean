/- Several texts, one behind the other: M, Sz, P, P2, W, L. -/
import Derived.IntWalk
import Derived.Laws.BitsAllLaws
import Derived.Test.YtbkodaijigcebaaMA
import Derived.Laws.CopyOwn
import Derived.Laws.MakeOwn
import Derived.Laws.BytesString
import Derived.Lib.SlBytesConst
import Derived.Laws.IdiomStrings
/- Plain arithmetic of numbers in bytes, seven binary digits each: how they are laid (enc), how they are read (lead, errV, numV), and that each undoes the other. No Go in sight. -/
namespace Go.Proofs.Ytbkodaijigcebaa
open Go.RowKit
set_option maxRecDepth 20000
set_option linter.unusedVariables false
/-- 128 to the k. -/
def p7 : Nat → Int
  | 0 => 1
  | k + 1 => 128 * p7 k
/-- The bytes of x, at most k + 1 of them. -/
def encF : Nat → Int → List Int
  | 0, x => [x]
  | k + 1, x => if x < 128 then [x] else (x % 128 + 128) :: encF k (x / 128)
def enc (x : Int) : List Int := encF 9 x
theorem p7_pos (k : Nat) : 1 ≤ p7 k := by
  induction k with
  | zero => simp [p7]
  | succ k ih => simp only [p7]; omega
theorem p7_mono (j k : Nat) (h : j ≤ k) : p7 j ≤ p7 k := by
  induction h with
  | refl => omega
  | step _ ih => simp only [p7]; have := p7_pos j; omega
theorem div_lt_p7 (x : Int) (k : Nat) (h : x < p7 (k + 1)) : x / 128 < p7 k := by
  simp only [p7] at h; omega
theorem encF_more (k : Nat) (x : Int) (h0 : 0 ≤ x) (h : x < p7 (k + 1)) : encF (k + 1) x = encF k x := by
  induction k generalizing x with
  | zero =>
    simp only [p7] at h
    have : x < 128 := by omega
    simp [encF, this]
  | succ k ih =>
    rw [encF]
    by_cases hx : x < 128
    · rw [if_pos hx, encF, if_pos hx]
    · rw [if_neg hx, ih (x / 128) (by omega) (div_lt_p7 x (k + 1) h)]
      conv => rhs; rw [encF, if_neg hx]
theorem p7_top : p7 10 = 1180591620717411303424 ∧ p7 9 = 9223372036854775808 := by decide
theorem enc_lt (x : Int) (h : x < 128) : enc x = [x] := by unfold enc; rw [encF, if_pos h]
theorem enc_ge (x : Int) (h : 128 ≤ x) (h1 : x ≤ 18446744073709551615) : enc x = (x % 128 + 128) :: enc (x / 128) := by
  unfold enc
  rw [encF, if_neg (by omega), ← encF_more 8 (x / 128) (by omega) (by rw [p7_top.2]; omega)]
theorem encF_len (k : Nat) (x : Int) : 1 ≤ (encF k x).length ∧ (encF k x).length ≤ k + 1 := by
  induction k generalizing x with
  | zero => simp [encF]
  | succ k ih =>
    rw [encF]
    split
    · simp
    · have := ih (x / 128)
      simp only [List.length_cons]; omega
theorem enc_len (x : Int) : 1 ≤ (enc x).length ∧ (enc x).length ≤ 10 := encF_len 9 x
theorem encF_up (k : Nat) (x : Int) (h : x < p7 (k + 1)) : x < p7 (encF k x).length := by
  induction k generalizing x with
  | zero => simpa [encF] using h
  | succ k ih =>
    rw [encF]
    split
    · simp [p7]; assumption
    · have := ih (x / 128) (div_lt_p7 x (k + 1) h)
      simp only [List.length_cons, p7]; omega
theorem encF_dn (k : Nat) (x : Int) (h : 2 ≤ (encF k x).length) : p7 ((encF k x).length - 1) ≤ x := by
  induction k generalizing x with
  | zero => simp [encF] at h
  | succ k ih =>
    rw [encF] at h ⊢
    split at h
    · simp at h
    · rename_i hx
      rw [if_neg hx]
      simp only [List.length_cons] at h ⊢
      have h1 := (encF_len k (x / 128)).1
      by_cases h2 : 2 ≤ (encF k (x / 128)).length
      · have := ih (x / 128) h2
        obtain ⟨m, hm⟩ : ∃ m, (encF k (x / 128)).length = m + 1 := ⟨(encF k (x / 128)).length - 1, by omega⟩
        rw [hm] at this ⊢
        simp only [Nat.add_sub_cancel, p7] at this ⊢
        omega
      · rw [show (encF k (x / 128)).length = 1 from by omega]
        simp only [Nat.add_sub_cancel, p7]; omega
theorem enc_up (x : Int) (h1 : x ≤ 18446744073709551615) : x < p7 (enc x).length := encF_up 9 x (by have := p7_top.1; simp only [Nat.reduceAdd]; omega)
theorem enc_dn (x : Int) (h : 2 ≤ (enc x).length) : p7 ((enc x).length - 1) ≤ x := encF_dn 9 x h
theorem enc_bytes (k : Nat) (x : Int) (h0 : 0 ≤ x) (h : x < p7 (k + 1)) : ∀ c ∈ encF k x, 0 ≤ c ∧ c < 256 := by
  induction k generalizing x with
  | zero => simp only [p7] at h; simp [encF]; omega
  | succ k ih =>
    rw [encF]
    split
    · simp; omega
    · intro c hc
      rcases List.mem_cons.1 hc with rfl | hc
      · omega
      · exact ih (x / 128) (by omega) (div_lt_p7 x (k + 1) h) c hc
theorem enc_mono (x y : Int) (hx : x ≤ y) (h1 : y ≤ 18446744073709551615) : (enc x).length ≤ (enc y).length := by
  by_cases h2 : 2 ≤ (enc x).length
  · have a := enc_dn x h2
    have b := enc_up y h1
    by_cases hc : (enc y).length ≤ (enc x).length - 1
    · have := p7_mono _ _ hc; omega
    · omega
  · have := (enc_len y).1; omega
/-! How a text is read -/
/-- How many bytes of 128 or more a text begins with, at most k. -/
def lead : Nat → List UInt8 → Nat
  | 0, _ => 0
  | _ + 1, [] => 0
  | k + 1, c :: t => if 128 ≤ c.toNat then lead k t + 1 else 0
/-- The number of some bytes, seven digits each, the lowest ones first. -/
def numV : List UInt8 → Int
  | [] => 0
  | c :: t => (c.toNat : Int) % 128 + 128 * numV t
/-- What is wrong with the number with which a text begins. -/
def errV (l : List UInt8) : Int :=
  if lead 10 l = 10 then 11 else if lead 10 l = l.length then 3 else if lead 10 l = 9 ∧ 1 < (l.getD (lead 10 l) 0).toNat then 11 else if 0 < lead 10 l ∧ (l.getD (lead 10 l) 0).toNat = 0 then 4 else 0
def cntV (l : List UInt8) : Int := (lead 10 l + 1 : Nat)
def valV (l : List UInt8) : Int := numV (l.take (lead 10 l + 1))
theorem lead_le (k : Nat) (l : List UInt8) : lead k l ≤ k ∧ lead k l ≤ l.length := by
  induction k generalizing l with
  | zero => simp [lead]
  | succ k ih =>
    cases l with
    | nil => simp [lead]
    | cons c t =>
      rw [lead]
      have := ih t
      split <;> simp only [List.length_cons] <;> omega
theorem lead_lt (k : Nat) (l : List UInt8) (i : Nat) (h : i < lead k l) : 128 ≤ (l.getD i 0).toNat := by
  induction k generalizing l i with
  | zero => simp [lead] at h
  | succ k ih =>
    cases l with
    | nil => simp [lead] at h
    | cons c t =>
      rw [lead] at h
      split at h
      · cases i with
        | zero => simpa
        | succ i => simpa using ih t i (by omega)
      · omega
theorem lead_next (k : Nat) (l : List UInt8) (i : Nat) (h : i ≤ lead k l) (hk : i < k) (hl : i < l.length) (hc : 128 ≤ (l.getD i 0).toNat) : i + 1 ≤ lead k l := by
  induction k generalizing l i with
  | zero => omega
  | succ k ih =>
    cases l with
    | nil => simp at hl
    | cons c t =>
      rw [lead] at h ⊢
      cases i with
      | zero =>
        have : 128 ≤ c.toNat := by simpa using hc
        rw [if_pos this]; omega
      | succ i =>
        split at h
        · rename_i hh
          rw [if_pos hh]
          have := ih t i (by omega) (by omega) (by simpa using hl) (by simpa using hc)
          omega
        · omega
theorem lead_at (l : List UInt8) (i : Nat) (h : i ≤ lead 10 l) (hs : i = 10 ∨ i = l.length ∨ (l.getD i 0).toNat < 128) : lead 10 l = i := by
  have h1 := lead_le 10 l
  by_cases he : i = lead 10 l
  · exact he.symm
  · have := lead_lt 10 l i (by omega)
    omega
theorem byte_lt (c : UInt8) : c.toNat < 256 := c.toNat_lt
theorem numV_bd (l : List UInt8) : 0 ≤ numV l ∧ numV l < p7 l.length := by
  induction l with
  | nil => simp [numV, p7]
  | cons c t ih =>
    simp only [numV, p7, List.length_cons]
    omega
theorem numV_snoc (l : List UInt8) (c : UInt8) : numV (l ++ [c]) = numV l + (c.toNat : Int) % 128 * p7 l.length := by
  induction l with
  | nil => simp [numV, p7]
  | cons d t ih =>
    rw [List.cons_append]
    simp only [numV, ih, p7, List.length_cons]
    rw [Int.mul_add, ← Int.mul_assoc, Int.mul_comm 128 ((c.toNat : Int) % 128), Int.mul_assoc, Int.add_assoc]
theorem numV_take (l : List UInt8) (i : Nat) (h : i < l.length) : numV (l.take (i + 1)) = numV (l.take i) + ((l.getD i 0).toNat : Int) % 128 * p7 i := by
  rw [List.take_succ_eq_append_getElem h, numV_snoc]
  simp [h, Nat.min_eq_left (Nat.le_of_lt h)]
theorem numV_drop (l : List UInt8) (i : Nat) (h : i < l.length) : numV (l.drop i) = ((l.getD i 0).toNat : Int) % 128 + 128 * numV (l.drop (i + 1)) := by
  rw [List.drop_eq_getElem_cons h]
  simp [numV, h]
theorem numV_drop_le (l : List UInt8) (i : Nat) : numV (l.drop i) ≤ numV l := by
  induction i generalizing l with
  | zero => simp
  | succ i ih =>
    cases l with
    | nil => simp
    | cons c t =>
      have := ih t
      have := (numV_bd t).1
      simp only [List.drop_succ_cons, numV]
      omega
/-- What may be is below 2 to the 64. -/
theorem valV_bd (l : List UInt8) (h : errV l = 0) : 0 ≤ valV l ∧ valV l ≤ 18446744073709551615 := by
  have h1 := lead_le 10 l
  unfold errV at h
  split at h
  · cases h
  rename_i a
  split at h
  · cases h
  rename_i b
  split at h
  · cases h
  rename_i c
  unfold valV
  refine ⟨(numV_bd _).1, ?_⟩
  by_cases h9 : lead 10 l = 9
  · rw [numV_take l _ (by omega)]
    have h2 := (numV_bd (l.take (lead 10 l))).2
    rw [h9] at h2 c ⊢
    have h3 : (l.take 9).length = 9 := by simp; omega
    rw [h3] at h2
    have h4 := p7_top.2
    rw [h4] at h2 ⊢
    have : (l.getD 9 0).toNat ≤ 1 := by omega
    omega
  · have h2 := (numV_bd (l.take (lead 10 l + 1))).2
    have h3 := p7_mono (l.take (lead 10 l + 1)).length 9 (by simp; omega)
    have h4 := p7_top.2
    omega
/-! One undoes the other -/
/-- A byte's text. -/
def ub (n : Int) : UInt8 := UInt8.ofNat n.toNat
theorem ub_toNat (n : Int) (h0 : 0 ≤ n) (h1 : n < 256) : ((ub n).toNat : Int) = n := by
  unfold ub; simp; omega
theorem ub_back (c : UInt8) : ub (c.toNat : Int) = c := by unfold ub; simp
theorem lead_enc (k : Nat) (x : Int) (h0 : 0 ≤ x) (h : x < p7 (k + 1)) (r : List UInt8) (m : Nat) (hm : k < m) : lead m ((encF k x).map ub ++ r) + 1 = (encF k x).length := by
  induction k generalizing x m with
  | zero =>
    simp only [p7] at h
    obtain ⟨m, rfl⟩ : ∃ j, m = j + 1 := ⟨m - 1, by omega⟩
    have := ub_toNat x h0 (by omega)
    simp only [encF, List.map_cons, List.map_nil, List.cons_append, lead, List.length_cons, List.length_nil]
    rw [if_neg (by omega)]
  | succ k ih =>
    obtain ⟨m, rfl⟩ : ∃ j, m = j + 1 := ⟨m - 1, by omega⟩
    rw [encF]
    split
    · have := ub_toNat x h0 (by omega)
      simp only [List.map_cons, List.map_nil, List.cons_append, lead, List.length_cons, List.length_nil]
      rw [if_neg (by omega)]
    · have := ub_toNat (x % 128 + 128) (by omega) (by omega)
      simp only [List.map_cons, List.cons_append, lead, List.length_cons]
      rw [if_pos (by omega), ih (x / 128) (by omega) (div_lt_p7 x (k + 1) h) m (by omega)]
theorem numV_enc (k : Nat) (x : Int) (h0 : 0 ≤ x) (h : x < p7 (k + 1)) : numV ((encF k x).map ub) = x := by
  induction k generalizing x with
  | zero =>
    simp only [p7] at h
    have := ub_toNat x h0 (by omega)
    simp only [encF, List.map_cons, List.map_nil, numV]; omega
  | succ k ih =>
    rw [encF]
    split
    · have := ub_toNat x h0 (by omega)
      simp only [List.map_cons, List.map_nil, numV]; omega
    · have := ub_toNat (x % 128 + 128) (by omega) (by omega)
      simp only [List.map_cons, numV, ih (x / 128) (by omega) (div_lt_p7 x (k + 1) h)]
      omega
theorem last_enc (k : Nat) (x : Int) (h0 : 0 ≤ x) (h : x < p7 (k + 1)) : ((encF k x).getD ((encF k x).length - 1) 0 = x ∧ (encF k x).length = 1) ∨ (1 ≤ (encF k x).getD ((encF k x).length - 1) 0 ∧ (encF k x).getD ((encF k x).length - 1) 0 * p7 ((encF k x).length - 1) ≤ x) := by
  induction k generalizing x with
  | zero => exact .inl ⟨by simp [encF], by simp [encF]⟩
  | succ k ih =>
    rw [encF]
    split
    · exact .inl ⟨by simp, by simp⟩
    · have hl := encF_len k (x / 128)
      have e : ((x % 128 + 128) :: encF k (x / 128)).getD (((x % 128 + 128) :: encF k (x / 128)).length - 1) 0 = (encF k (x / 128)).getD ((encF k (x / 128)).length - 1) 0 := by
        rw [List.length_cons, show (encF k (x / 128)).length + 1 - 1 = ((encF k (x / 128)).length - 1) + 1 from by omega, List.getD_cons_succ]
      rw [e, List.length_cons]
      refine .inr ?_
      rcases ih (x / 128) (by omega) (div_lt_p7 x (k + 1) h) with ⟨a, b⟩ | ⟨a, b⟩
      · rw [a, b]; simp only [Nat.add_sub_cancel, p7]; omega
      · refine ⟨a, ?_⟩
        rw [show (encF k (x / 128)).length + 1 - 1 = ((encF k (x / 128)).length - 1) + 1 from by omega, p7]
        generalize (encF k (x / 128)).getD ((encF k (x / 128)).length - 1) 0 = z at *
        generalize p7 ((encF k (x / 128)).length - 1) = q at *
        rw [← Int.mul_assoc, Int.mul_comm z 128, Int.mul_assoc]
        omega
/-- What is laid is read. -/
theorem enc_read (x : Int) (h0 : 0 ≤ x) (h1 : x ≤ 18446744073709551615) (r : List UInt8) : errV ((enc x).map ub ++ r) = 0 ∧ cntV ((enc x).map ub ++ r) = (enc x).length ∧ valV ((enc x).map ub ++ r) = x := by
  have hp : x < p7 (9 + 1) := by have := p7_top.1; simp only [Nat.reduceAdd]; omega
  have hl := lead_enc 9 x h0 hp r 10 (by omega)
  have hb := enc_bytes 9 x h0 hp
  have hz := last_enc 9 x h0 hp
  have hv := numV_enc 9 x h0 hp
  change lead 10 ((enc x).map ub ++ r) + 1 = (enc x).length at hl
  change ∀ c ∈ enc x, _ at hb
  change ((enc x).getD ((enc x).length - 1) 0 = x ∧ (enc x).length = 1) ∨ (1 ≤ (enc x).getD ((enc x).length - 1) 0 ∧ (enc x).getD ((enc x).length - 1) 0 * p7 ((enc x).length - 1) ≤ x) at hz
  change numV ((enc x).map ub) = x at hv
  have hn := enc_len x
  have hk : lead 10 ((enc x).map ub ++ r) = (enc x).length - 1 := by omega
  have hg : (((enc x).map ub ++ r).getD ((enc x).length - 1) 0).toNat = (enc x).getD ((enc x).length - 1) 0 := by
    have hi : (enc x).length - 1 < (enc x).length := by omega
    have := hb ((enc x)[(enc x).length - 1]) (List.getElem_mem hi)
    have h2 := ub_toNat _ this.1 this.2
    rw [List.getD_eq_getElem?_getD, List.getElem?_append_left (by simpa using hi)]
    simpa [hi] using h2
  refine ⟨?_, ?_, ?_⟩
  · unfold errV
    rw [hk]
    rw [if_neg (by omega), if_neg (by simp; omega)]
    rw [if_neg, if_neg]
    · rintro ⟨a, b⟩
      omega
    · rintro ⟨a, b⟩
      rw [a] at hz
      have := p7_top.2
      rw [this] at hz
      rw [a] at hg b
      omega
  · unfold cntV; rw [hl]
  · unfold valV
    rw [hl, List.take_append_of_le_length (by simp), List.take_of_length_le (by simp), hv]
/-- The bytes of a text that is read are those of what was read. -/
theorem read_enc (k : Nat) (l : List UInt8) (hk : l.length ≤ k + 1) (h : ∀ i, i + 1 < l.length → 128 ≤ (l.getD i 0).toNat) (h1 : 0 < l.length) (h2 : (l.getD (l.length - 1) 0).toNat < 128) (h3 : 1 < l.length → (l.getD (l.length - 1) 0).toNat ≠ 0) : encF k (numV l) = l.map (fun c => (c.toNat : Int)) ∧ (1 < l.length → 1 ≤ numV l) ∧ (l.length = 1 → numV l = (l.getD 0 0).toNat) := by
  induction l generalizing k with
  | nil => simp at h1
  | cons c t ih =>
    cases t with
    | nil =>
      have hc : c.toNat < 128 := by simpa using h2
      have e : numV [c] = c.toNat := by simp only [numV]; omega
      refine ⟨?_, by simp, fun _ => by rw [e]; simp⟩
      rw [e]
      cases k with
      | zero => simp [encF]
      | succ k => rw [encF, if_pos (by omega)]; simp
    | cons d t =>
      have hc : 128 ≤ c.toNat := by simpa using h 0 (by simp)
      have hc' := byte_lt c
      cases k with
      | zero => simp at hk
      | succ k =>
        have hh := ih k (by simpa using hk) (fun i hi => by simpa using h (i + 1) (by simpa using hi)) (by simp) (by simpa using h2) (fun _ => by simpa using h3 (by simp))
        have hl : (d.toNat ≠ 0 ∨ 1 < (d :: t).length) := by
          cases t with
          | nil => left; simpa using h3 (by simp)
          | cons _ _ => right; simp
        have h1' : 1 ≤ numV (d :: t) := by
          by_cases hq : 1 < (d :: t).length
          · exact hh.2.1 hq
          · have := hh.2.2 (by simp at hq ⊢; exact hq)
            rw [this]
            simp only [List.getD_cons_zero]
            omega
        have e : numV (c :: d :: t) = (c.toNat : Int) % 128 + 128 * numV (d :: t) := rfl
        refine ⟨?_, fun _ => by omega, by simp⟩
        rw [e, encF, if_neg (by omega), List.map_cons, show ((c.toNat : Int) % 128 + 128 * numV (d :: t)) / 128 = numV (d :: t) from by omega, hh.1]
        congr 1
        omega
theorem errV_ok (l : List UInt8) (h : errV l = 0) : lead 10 l ≤ 9 ∧ lead 10 l < l.length ∧ (lead 10 l = 9 → (l.getD (lead 10 l) 0).toNat ≤ 1) ∧ (0 < lead 10 l → (l.getD (lead 10 l) 0).toNat ≠ 0) ∧ (l.getD (lead 10 l) 0).toNat < 128 := by
  have h1 := lead_le 10 l
  unfold errV at h
  split at h
  · cases h
  rename_i a
  split at h
  · cases h
  rename_i b
  split at h
  · cases h
  rename_i c
  split at h
  · cases h
  rename_i d
  refine ⟨by omega, by omega, fun h => by omega, fun h => by omega, ?_⟩
  by_cases hx : (l.getD (lead 10 l) 0).toNat < 128
  · exact hx
  · have := lead_next 10 l (lead 10 l) (Nat.le_refl _) (by omega) (by omega) (by omega)
    omega
theorem read_back (l : List UInt8) (h : errV l = 0) : enc (valV l) = (l.take (lead 10 l + 1)).map (fun c => (c.toNat : Int)) := by
  obtain ⟨h1, h2, h3, h4, h5⟩ := errV_ok l h
  have hl : (l.take (lead 10 l + 1)).length = lead 10 l + 1 := by simp; omega
  have hg : ∀ i, i < lead 10 l + 1 → (l.take (lead 10 l + 1)).getD i 0 = l.getD i 0 := by
    intro i hi
    simp [hi]
  refine (read_enc 9 (l.take (lead 10 l + 1)) (by omega) ?_ (by omega) ?_ ?_).1
  · intro i hi
    rw [hg i (by omega)]
    exact lead_lt 10 l i (by omega)
  · rw [hl, Nat.add_sub_cancel, hg _ (by omega)]; exact h5
  · intro hx
    rw [hl, Nat.add_sub_cancel, hg _ (by omega)]; exact h4 (by omega)
end Go.Proofs.Ytbkodaijigcebaa
/- The contracts of bits.Len64 and of varint's Size: as many bytes as the number is laid in. -/
namespace Go.Proofs.Ytbkodaijigcebaa
open Go.RowKit
set_option maxRecDepth 20000
set_option linter.unusedVariables false
def tab : List UInt8 := [0, 1, 2, 2, 3, 3, 3, 3, 4, 4, 4, 4, 4, 4, 4, 4, 5, 5, 5, 5, 5, 5, 5, 5, 5, 5, 5, 5, 5, 5, 5, 5, 6, 6, 6, 6, 6, 6, 6, 6, 6, 6, 6, 6, 6, 6, 6, 6, 6, 6, 6, 6, 6, 6, 6, 6, 6, 6, 6, 6, 6, 6, 6, 6, 7, 7, 7, 7, 7, 7, 7, 7, 7, 7, 7, 7, 7, 7, 7, 7, 7, 7, 7, 7, 7, 7, 7, 7, 7, 7, 7, 7, 7, 7, 7, 7, 7, 7, 7, 7, 7, 7, 7, 7, 7, 7, 7, 7, 7, 7, 7, 7, 7, 7, 7, 7, 7, 7, 7, 7, 7, 7, 7, 7, 7, 7, 7, 7, 8, 8, 8, 8, 8, 8, 8, 8, 8, 8, 8, 8, 8, 8, 8, 8, 8, 8, 8, 8, 8, 8, 8, 8, 8, 8, 8, 8, 8, 8, 8, 8, 8, 8, 8, 8, 8, 8, 8, 8, 8, 8, 8, 8, 8, 8, 8, 8, 8, 8, 8, 8, 8, 8, 8, 8, 8, 8, 8, 8, 8, 8, 8, 8, 8, 8, 8, 8, 8, 8, 8, 8, 8, 8, 8, 8, 8, 8, 8, 8, 8, 8, 8, 8, 8, 8, 8, 8, 8, 8, 8, 8, 8, 8, 8, 8, 8, 8, 8, 8, 8, 8, 8, 8, 8, 8, 8, 8, 8, 8, 8, 8, 8, 8, 8, 8, 8, 8, 8, 8, 8, 8, 8, 8, 8, 8, 8, 8]
/-- N is the number of binary digits of b. -/
def lenB (N b : Nat) : Bool := (N == 0 && b == 0) || (decide (1 ≤ N) && decide (N ≤ 64) && decide (2 ^ (N - 1) ≤ b) && decide (b < 2 ^ N))
def Len (N : Nat) (x : Int) : Prop := N ≤ 64 ∧ (N = 0 ∧ x = 0 ∨ 1 ≤ N ∧ ((2 ^ (N - 1) : Nat) : Int) ≤ x ∧ x < ((2 ^ N : Nat) : Int))
theorem tab_all : (List.range 256).all (fun b => decide ((tab.getD b 0).toNat ≤ 8) && lenB (tab.getD b 0).toNat b) = true := by kernel_rfl
theorem tab_len : tab.length = 256 := by kernel_rfl
theorem tab_spec (b : Nat) (h : b < 256) : (tab.getD b 0).toNat ≤ 8 ∧ Len (tab.getD b 0).toNat (b : Int) := by
  have := List.all_eq_true.1 tab_all b (by simpa using h)
  generalize (tab.getD b 0).toNat = L at *
  simp only [Bool.and_eq_true, decide_eq_true_eq, lenB, Bool.or_eq_true, beq_iff_eq] at this
  refine ⟨this.1, by omega, ?_⟩
  omega
theorem len_up (B L : Nat) (y x : Int) (hL : L ≤ 8) (hB : B = 0 ∨ B = 8 ∨ B = 16 ∨ B = 24 ∨ B = 32 ∨ B = 40 ∨ B = 48 ∨ B = 56) (h : Len L y) (hy : x / ((2 ^ B : Nat) : Int) = y) (h1 : B = 0 ∨ 1 ≤ y) : Len (B + L) x := by
  unfold Len at *
  refine ⟨by omega, ?_⟩
  rcases (by omega : L = 0 ∨ L = 1 ∨ L = 2 ∨ L = 3 ∨ L = 4 ∨ L = 5 ∨ L = 6 ∨ L = 7 ∨ L = 8) with rfl | rfl | rfl | rfl | rfl | rfl | rfl | rfl | rfl <;>
  rcases hB with rfl | rfl | rfl | rfl | rfl | rfl | rfl | rfl <;> simp only [Nat.reducePow, Nat.reduceSub, Nat.reduceAdd, Nat.add_zero, Nat.zero_add, Int.cast_ofNat_Int] at * <;> first | omega | (simp at *; omega)
theorem tab_end (B : Nat) (y x : Int) (T : ByteArray) (hT : T.data.toList = tab) (hi : y.toNat < T.size) (hB : B = 0 ∨ B = 8 ∨ B = 16 ∨ B = 24 ∨ B = 32 ∨ B = 40 ∨ B = 48 ∨ B = 56) (hy : x / ((2 ^ B : Nat) : Int) = y) (y0 : 0 ≤ y) (h1 : B = 0 ∨ 1 ≤ y) : ∃ n : Nat, wrap64 ((B : Int) + wrap64 ((T[y.toNat].toNat : Nat) : Int)) = n ∧ Len n x := by
  have hz : T.size = 256 := by rw [← tab_len, ← hT]; simp
  have hs := tab_spec y.toNat (by omega)
  have e : T[y.toNat] = tab.getD y.toNat 0 := by
    rw [← hT]
    simp [List.getD, ByteArray.getElem_eq_getElem_data]
    have : y.toNat < T.data.size := hi
    rw [Array.getElem?_eq_getElem this]; rfl
  rw [e]
  refine ⟨B + (tab.getD y.toNat 0).toNat, ?_, len_up B _ y x hs.1 hB (by have := hs.2; rwa [Int.toNat_of_nonneg y0] at this) hy h1⟩
  unfold wrap64
  omega
theorem tab_fin (B : Nat) (y x : Int) (T : ByteArray) (hi : y.toNat < T.size) (hT : T.data.toList = tab) (hB : B = 0 ∨ B = 8 ∨ B = 16 ∨ B = 24 ∨ B = 32 ∨ B = 40 ∨ B = 48 ∨ B = 56) (hy : x / ((2 ^ B : Nat) : Int) = y) (y0 : 0 ≤ y) (h1 : B = 0 ∨ 1 ≤ y) (v : Int) (hv : v = wrap64 ((B : Int) + wrap64 ((T[y.toNat].toNat : Nat) : Int))) : ∃ n : Nat, Ending.returned (.int .i64 v) = .returned (.int .i64 n) ∧ Len n x := by
  obtain ⟨n, a, b⟩ := tab_end B y x T hT hi hB hy y0 h1
  exact ⟨n, by rw [hv, a], b⟩
set_option maxRecDepth 100000 in
theorem len64_any (x : Int) (w : World) (x0 : 0 ≤ x) (x1 : x ≤ 18446744073709551615) : Calls Try.prog 79 #[.int .u64 x] w fun e w' => (∃ n : Nat, e = .returned (.int .i64 n) ∧ Len n x) ∧ w = w' := by
  by_cases h1 : 4294967296 ≤ x
  · go_enter Try.func79, Try.ntmps79
    go_wp2
    all_goals
      go_ret
      refine ⟨?_, rfl⟩
      first
        | exact tab_fin 56 _ x _ _ (by kernel_rfl) (by decide) (by (simp only [Nat.reducePow, Int.cast_ofNat_Int]) <;> omega) (by omega) (by omega) _ rfl
        | exact tab_fin 48 _ x _ _ (by kernel_rfl) (by decide) (by (simp only [Nat.reducePow, Int.cast_ofNat_Int]) <;> omega) (by omega) (by omega) _ rfl
        | exact tab_fin 40 _ x _ _ (by kernel_rfl) (by decide) (by (simp only [Nat.reducePow, Int.cast_ofNat_Int]) <;> omega) (by omega) (by omega) _ rfl
        | exact tab_fin 32 _ x _ _ (by kernel_rfl) (by decide) (by (simp only [Nat.reducePow, Int.cast_ofNat_Int]) <;> omega) (by omega) (by omega) _ rfl
        | exact tab_fin 24 _ x _ _ (by kernel_rfl) (by decide) (by (simp only [Nat.reducePow, Int.cast_ofNat_Int]) <;> omega) (by omega) (by omega) _ rfl
        | exact tab_fin 16 _ x _ _ (by kernel_rfl) (by decide) (by (simp only [Nat.reducePow, Int.cast_ofNat_Int]) <;> omega) (by omega) (by omega) _ rfl
        | exact tab_fin 8 _ x _ _ (by kernel_rfl) (by decide) (by (simp only [Nat.reducePow, Int.cast_ofNat_Int]) <;> omega) (by omega) (by omega) _ rfl
        | exact tab_fin 0 _ x _ _ (by kernel_rfl) (by decide) (by (simp only [Nat.reducePow, Int.cast_ofNat_Int]) <;> omega) (by omega) (by omega) _ (congrArg wrap64 (Int.zero_add _).symm)
  · go_enter Try.func79, Try.ntmps79
    go_wp2
    all_goals
      go_ret
      refine ⟨?_, rfl⟩
      first
        | exact tab_fin 56 _ x _ _ (by kernel_rfl) (by decide) (by (simp only [Nat.reducePow, Int.cast_ofNat_Int]) <;> omega) (by omega) (by omega) _ rfl
        | exact tab_fin 48 _ x _ _ (by kernel_rfl) (by decide) (by (simp only [Nat.reducePow, Int.cast_ofNat_Int]) <;> omega) (by omega) (by omega) _ rfl
        | exact tab_fin 40 _ x _ _ (by kernel_rfl) (by decide) (by (simp only [Nat.reducePow, Int.cast_ofNat_Int]) <;> omega) (by omega) (by omega) _ rfl
        | exact tab_fin 32 _ x _ _ (by kernel_rfl) (by decide) (by (simp only [Nat.reducePow, Int.cast_ofNat_Int]) <;> omega) (by omega) (by omega) _ rfl
        | exact tab_fin 24 _ x _ _ (by kernel_rfl) (by decide) (by (simp only [Nat.reducePow, Int.cast_ofNat_Int]) <;> omega) (by omega) (by omega) _ rfl
        | exact tab_fin 16 _ x _ _ (by kernel_rfl) (by decide) (by (simp only [Nat.reducePow, Int.cast_ofNat_Int]) <;> omega) (by omega) (by omega) _ rfl
        | exact tab_fin 8 _ x _ _ (by kernel_rfl) (by decide) (by (simp only [Nat.reducePow, Int.cast_ofNat_Int]) <;> omega) (by omega) (by omega) _ rfl
        | exact tab_fin 0 _ x _ _ (by kernel_rfl) (by decide) (by (simp only [Nat.reducePow, Int.cast_ofNat_Int]) <;> omega) (by omega) (by omega) _ (congrArg wrap64 (Int.zero_add _).symm)
theorem or_one (x : Int) (x0 : 0 ≤ x) (x1 : x ≤ 18446744073709551615) : bits BinOp.or IntKind.u64 x 1 = 2 * (x / 2) + 1 := by
  rw [u64_or _ _ (by omega) (by omega) (by omega) (by omega)]
  have h : x.toNat ||| (1 : Int).toNat = 2 * (x.toNat / 2) + 1 := by
    rcases Nat.mod_two_eq_zero_or_one x.toNat with h | h
    · rw [show (1 : Int).toNat = 1 from rfl, nat_join 1 _ _ (by omega) (by omega)]; omega
    · have e : x.toNat = (2 * (x.toNat / 2)) ||| 1 := by rw [nat_join 1 _ _ (by omega) (by omega)]; omega
      rw [show (1 : Int).toNat = 1 from rfl]
      conv => lhs; rw [e, Nat.or_assoc, Nat.or_self]
      rw [nat_join 1 _ _ (by omega) (by omega)]
  rw [h]; omega
theorem two7 (m : Nat) : ((2 ^ (7 * m) : Nat) : Int) = p7 m := by
  induction m with
  | zero => rfl
  | succ m ih =>
    rw [show 7 * (m + 1) = 7 * m + 7 from by omega, Nat.pow_add, p7, ← ih]
    simp only [Nat.reducePow]; omega
theorem len_size (x : Int) (n : Nat) (x0 : 0 ≤ x) (x1 : x ≤ 18446744073709551615) (h : Len n (2 * (x / 2) + 1)) : (n + 6) / 7 = (enc x).length := by
  obtain ⟨h64, h⟩ := h
  have hu := enc_up x x1
  have hd := enc_dn x
  have hl := enc_len x
  generalize (enc x).length = m at *
  rcases h with ⟨rfl, h⟩ | ⟨hn, ha, hb⟩
  · omega
  have h1 : n ≤ 7 * m := by
    rcases Nat.lt_or_ge (7 * m) n with hc | hc
    · have := Nat.pow_le_pow_right (by omega : 0 < 2) (by omega : 7 * m ≤ n - 1)
      have e := two7 m
      have ev : p7 m % 2 = 0 := by
        obtain ⟨k, rfl⟩ : ∃ k, m = k + 1 := ⟨m - 1, by omega⟩
        rw [p7]; omega
      omega
    · exact hc
  have h2 : 7 * (m - 1) < n := by
    rcases Nat.lt_or_ge (7 * (m - 1)) n with hc | hc
    · exact hc
    · have := Nat.pow_le_pow_right (by omega : 0 < 2) hc
      have e := two7 (m - 1)
      by_cases hm : 2 ≤ m
      · have := hd hm
        omega
      · omega
  omega
theorem size_any (x : Int) (w : World) (x0 : 0 ≤ x) (x1 : x ≤ 18446744073709551615) : Calls Try.prog 50 #[.int .u64 x] w fun e w' => e = .returned (.int .i64 (enc x).length) ∧ w = w' := by
  have ho := or_one x x0 x1
  go_enter Try.func50, Try.ntmps50
  go_wp2_with fail
  refine (len64_any _ _ (by omega) (by omega)).mono ?_
  rintro e w' ⟨⟨n, rfl, hn⟩, rfl⟩
  have hs := len_size x n x0 x1 hn
  have h64 := hn.1
  clear hn ho
  go_wp2
  go_ret
  refine ⟨ret_int ?_, rfl⟩
  omega
end Go.Proofs.Ytbkodaijigcebaa
/- Contracts of varint's lay and Put: behind any bytes stand those of the number, in a row of the call's own; what was there stays. -/
namespace Go.Proofs.Ytbkodaijigcebaa
open Go.RowKit
set_option maxRecDepth 20000
set_option linter.unusedVariables false
theorem Try.info5 : (Try.prog.info? 5).map (fun i => (i.zero, i.size, i.bytes)) = some (some (.int .u8 0), 1, 1) := by kernel_rfl
theorem add_block (x : Addr) (j : Nat) : (x.add j).block = x.block := by unfold Addr.add; split <;> rfl
/-- The bytes l stand where the slice v leads. -/
def BytesAt (w : World) (v : Value) (l : List Int) : Prop :=
  ∃ a cap, v = .slice a l.length cap ∧ l.length ≤ cap ∧ cap ≤ maxLen ∧ (0 < l.length → ∃ x : Addr, a = some x ∧ x.block < w.heap.size ∧ ∀ i, i < l.length → w.cell? (x.add i) = some (.int .u8 (l.getD i 0)))
/-- A row of the call's own: from block B on, the bytes l. -/
def Own (w : World) (B : Nat) (v : Value) (l : List Int) : Prop := w.ownsRow B 5 1 v l.length (l.map (Value.int .u8))
theorem Own.snoc {w' : World} {B : Nat} {v' : Value} {l : List Int} {c : Int} (hs : w'.ownsRow B 5 1 v' (l.length + 1) (l.map (Value.int .u8) ++ [.int .u8 c])) : Own w' B v' (l ++ [c]) := by
  unfold Own
  rw [List.length_append, List.map_append]
  exact hs
theorem own_of_splice {w2 : World} {g m : Nat} {l : List Int} (h : w2.heap[g]? = some (.cells (splice (List.replicate (l.length + m) (Value.int .u8 0)) 0 (l.map (Value.int .u8))).toArray 5 (0, 0))) (hl : l.length + m ≤ maxLen) : Own w2 g (.slice (some ⟨g, 0, none⟩) l.length (l.length + m)) l := by
  refine ⟨by simp, .inr ⟨g, l.length + m, _, rfl, Nat.le_refl _, h, by omega, hl, ?_, ?_⟩⟩
  · rw [List.size_toArray, length_splice _ _ _ (by simp)]; simp
  · simp [splice]
def PutEnd (w : World) (l : List Int) (e : Ending) (w' : World) : Prop := ∃ v, e = .returned v ∧ Own w' w.heap.size v l ∧ Below w.heap.size w w'
theorem or_more (y : Int) (y0 : 0 ≤ y) : bits BinOp.or IntKind.u8 (y % 256) 128 = y % 128 + 128 := by
  rw [u8_or _ _ (by omega) (by omega) (by omega) (by omega)]
  have h : (y % 256).toNat ||| (128 : Int).toNat = 128 + (y % 128).toNat := by
    have e : (y % 256).toNat = (if y % 256 < 128 then 0 else 128) ||| (y % 128).toNat := by
      split
      · rw [Nat.zero_or]; omega
      · rw [nat_join 7 _ _ (by omega) (by omega)]; omega
    rw [e, show (128 : Int).toNat = 128 from rfl]
    split
    · rw [Nat.zero_or, Nat.or_comm, nat_join 7 _ _ (by omega) (by omega)]
    · rw [Nat.or_comm, ← Nat.or_assoc, Nat.or_self, nat_join 7 _ _ (by omega) (by omega)]
  rw [h]; omega
def LayEnd (B : Nat) (w : World) (l : List Int) (e : Ending) (w' : World) : Prop := ∃ v, e = .returned v ∧ Own w' B v l ∧ Below B w w'
theorem lay_any (B : Nat) (v : Value) (l : List Int) (x : Int) (w : World) (ho : Own w B v l) (hB : B ≤ w.heap.size) (hl : l.length ≤ 1000000) (x0 : 0 ≤ x) (x1 : x ≤ 18446744073709551615) :
    Calls Try.prog 59 #[v, .int .u64 x] w (LayEnd B w (l ++ enc x)) := by
  obtain ⟨i0, hi, hz0, hz1, hz2⟩ := info_parts Try.info5
  go_enter Try.func59, Try.ntmps59
  go_wp2
  go_loopw [0, 1] (fun v x' wr => ∃ (pre : List Int) (y : Int), x' = .int .u64 y ∧ 0 ≤ y ∧ y ≤ 18446744073709551615 ∧ Hid (enc x = pre ++ enc y) ∧ Own wr B v (l ++ pre) ∧ Below B w wr) (fun _ x' _ => (intOf x').toNat)
  case atStart => exact ⟨[], x, rfl, x0, x1, rfl, by simpa using ho, Below.refl _ _⟩
  case round =>
    obtain ⟨pre, y, rfl, y0, y1, HY, hown, hbw⟩ := hrel
    have hlen : (l ++ pre).length ≤ l.length + 10 := by
      have := congrArg List.length HY.out
      have := enc_len x
      simp only [List.length_append] at *
      omega
    have hsz := hbw.size
    have hlm : (l ++ pre).length ≤ 1000010 := by omega
    clear hlen
    generalize hL : (l ++ pre) = L at *
    have HL := Lib.hid hL; clear hL
    by_cases hlt : 128 ≤ y
    · have hor := or_more y y0
      have HE : Hid (enc x = (pre ++ [y % 128 + 128]) ++ enc (y / 128)) := by
        have := HY.out
        rw [enc_ge y hlt y1] at this
        exact Lib.hid (by simpa using this)
      go_wp2_with (first | (at_builtin; refine wpList_append_own _ rfl _ _ 61 rfl B 5 i0 (.int .u8 0) 1 1 Try.underlying61 hi hz0 hz1 hz2 rfl (by decide) _ _ _ rfl (World.ownsRow.alloc hown _) ⟨wr.heap.size, 0, none⟩ 1 1 [.int .u8 (y % 128 + 128)] rfl rfl ?c1 ?c2 ?c3 ?c4 ?c5 ?_) | fail)
      case c1 =>
        intro j u hj
        match j, hj with
        | 0, hj => simp at hj; subst hj; simp [Addr.add]
      case c2 => intro u hu; simp at hu; subst hu; rfl
      case c3 => unfold maxLen; omega
      case c4 => omega
      case c5 => rw [World.size_alloc]; omega
      intro v' w1 hown' hgrow _
      have hbel : Below B w w1 := (hbw.alloc (by omega) _).grown hgrow (by rw [World.size_alloc]; omega) (fun g hg => (World.ownsRow.lt hown g hg).1)
      have hO' : Own w1 B v' (l ++ (pre ++ [y % 128 + 128])) := by
        rw [← List.append_assoc, HL.out]
        exact Own.snoc (by simpa using hown')
      clear hown' hgrow hown hbw HY hor
      go_wp2
      go_roundw
      case rel => exact ⟨_, y / 128, rfl, by omega, by omega, HE, hO', hbel⟩
      case measure => simp [intOf]; omega
    · have hmod : y % 256 = y := by omega
      have HE : Hid (enc x = pre ++ [y]) := by
        have := HY.out
        rw [enc_lt y (by omega)] at this
        exact Lib.hid this
      go_wp2_with (first | (at_builtin; refine wpList_append_own _ rfl _ _ 61 rfl B 5 i0 (.int .u8 0) 1 1 Try.underlying61 hi hz0 hz1 hz2 rfl (by decide) _ _ _ rfl (World.ownsRow.alloc hown _) ⟨wr.heap.size, 0, none⟩ 1 1 [.int .u8 y] rfl rfl ?c1 ?c2 ?c3 ?c4 ?c5 ?_) | fail)
      case c2 => rfl
      case c3 => unfold maxLen; omega
      case c4 => omega
      case c5 => omega
      intro v' w1 hown' hgrow _
      have hbel : Below B w w1 := (hbw.alloc (by omega) _).grown hgrow (by rw [World.size_alloc]; omega) (fun g hg => (World.ownsRow.lt hown g hg).1)
      have hO' : Own w1 B v' (l ++ enc x) := by
        rw [HE.out, ← List.append_assoc, HL.out]
        exact Own.snoc (by simpa using hown')
      clear hown' hgrow hown hbw HY
      go_wp2
      go_ret
      exact ⟨_, rfl, hO', hbel⟩
end Go.Proofs.Ytbkodaijigcebaa
/- The contract of varint's Put: for any bytes and any number, a new row of the call's own holds the bytes and behind them the number's; what was there stays. -/
namespace Go.Proofs.Ytbkodaijigcebaa
open Go.RowKit
set_option maxRecDepth 20000
set_option linter.unusedVariables false
theorem make_bytes (L m : Nat) (W : World) (h : L + m ≤ 1000100) : (Instr.makeSlice 61 (.int .i64 (L : Int)) (.int .i64 ((L : Int) + (m : Int)))).run Try.prog W = .ok (.slice (some ⟨W.heap.size, 0, none⟩) L (L + m)) (W.alloc (.cells (madeCells #[.int .u8 0] (L + m)) 5)) := by
  obtain ⟨i0, hi, hz0, hz1, hz2⟩ := info_parts Try.info5
  have := run_make (P := Try.prog) W 61 5 i0 (.int .u8 0) Try.underlying61 hi hz0 .i64 .i64 (L : Int) ((L : Int) + (m : Int)) (by omega) (by omega) (by rw [hz2]; omega) (by omega)
  rw [this, hz1]
  simp only [Int.toNat_natCast]
  rw [show ((L : Int) + (m : Int)).toNat = L + m from by omega, Nat.mul_one]
  rfl
end Go.Proofs.Ytbkodaijigcebaa
/- Texts of bytes, and how a row of bytes becomes one; a row of the call is seen as bytes; what stays in later worlds. -/
namespace Go.Proofs.Ytbkodaijigcebaa
open Go.RowKit
set_option maxRecDepth 20000
set_option linter.unusedVariables false
/-- The text of some bytes. -/
def str (l : List Int) : ByteArray := l.foldl (fun r n => r.push (UInt8.ofNat n.toNat)) ByteArray.empty
theorem str_data (l : List Int) (r : ByteArray) : (l.foldl (fun r n => r.push (UInt8.ofNat n.toNat)) r).data.toList = r.data.toList ++ l.map (fun n => UInt8.ofNat n.toNat) := by
  induction l generalizing r with
  | nil => simp
  | cons n l ih => rw [List.foldl_cons, ih]; simp [ByteArray.push]
theorem str_list (l : List Int) : (str l).data.toList = l.map (fun n => UInt8.ofNat n.toNat) := by
  unfold str; rw [str_data]; simp
theorem str_size (l : List Int) : (str l).size = l.length := by
  have := congrArg List.length (str_list l)
  simpa using this
theorem run_str (w : World) (v : Value) (l : List Int) (h : BytesAt w v l) : (convert 61 9 v).run Try.prog w = .ok (.string (str l)) w := by
  obtain ⟨a, cap, rfl, h1, h2, hc⟩ := h
  rw [run_convert_bytes_string w 61 9 5 a l.length cap Try.underlying61 Try.underlying5 Try.underlying9]
  by_cases h0 : 0 < l.length
  · obtain ⟨x, rfl, hb, hx⟩ := hc h0
    refine run_bytesToString w x l.length cap l ?_
    have := run_loadCells_list (P := Try.prog) (w := w) x (l.map (Value.int .u8)) (by
      intro j v hj
      have hjl : j < l.length := by have := (List.getElem?_eq_some_iff.1 hj).1; simpa using this
      rw [hx j hjl]
      simpa [hjl] using hj)
    simpa using this
  · obtain rfl : l = [] := List.eq_nil_of_length_eq_zero (by omega)
    cases a with
    | none => rfl
    | some x =>
      have := run_loadCells_list (P := Try.prog) (w := w) x [] (by intro j v hj; simp at hj)
      exact run_bytesToString w x 0 cap [] (by simpa using this)
theorem Own.bytesAt {w : World} {B : Nat} {v : Value} {l : List Int} (h : Own w B v l) : BytesAt w v l := by
  have hlt := World.ownsRow.lt h
  have h' := h
  obtain ⟨hx, hv⟩ := h'
  rcases hv with ⟨rfl, hn⟩ | ⟨g, cap, cur, rfl, hB, hh, hle, hm, hcs, htk⟩
  · obtain rfl : l = [] := List.eq_nil_of_length_eq_zero hn
    exact ⟨none, 0, rfl, Nat.le_refl _, by simp, fun h => by simp at h⟩
  · refine ⟨_, cap, rfl, hle, hm, fun _ => ⟨_, rfl, (hlt g rfl).2, fun i hi => ?_⟩⟩
    have := World.ownsRow.cellAt h i (by omega)
    have e : (⟨g, 0, none⟩ : Addr).add i = ⟨g, i, none⟩ := by simp [Addr.add]; omega
    rw [e]
    simpa [hi] using this
theorem BytesAt.below {w w' : World} {v : Value} {l : List Int} (h : BytesAt w v l) (hb : Below w.heap.size w w') : BytesAt w' v l := by
  obtain ⟨a, cap, rfl, h1, h2, hc⟩ := h
  refine ⟨a, cap, rfl, h1, h2, fun h0 => ?_⟩
  obtain ⟨x, rfl, hx, hcell⟩ := hc h0
  refine ⟨x, rfl, Nat.lt_of_lt_of_le hx hb.size, fun i hi => ?_⟩
  rw [← hcell i hi]
  exact hb.cell (p := x.add i) (by rw [add_block]; exact hx)
theorem bytes_lit (w : World) (c : Int) : BytesAt (w.alloc (.cells #[.int .u8 c] 5 (1, 2))) (.slice (some ⟨w.heap.size, 0, none⟩) 1 1) [c] :=
  ⟨_, 1, rfl, Nat.le_refl _, by unfold maxLen; omega, fun _ => ⟨_, rfl, by simp, fun i hi => by
    have h0 : i = 0 := by simp at hi; exact hi
    subst h0
    rw [show (⟨w.heap.size, 0, none⟩ : Addr).add 0 = ⟨w.heap.size, 0, none⟩ from rfl, World.cell?_alloc_mark]; rfl⟩⟩
theorem bytesAt_cells {w : World} {x : Addr} {cap : Nat} {l : List Int} (h : BytesAt w (.slice (some x) l.length cap) l) : ∀ j u, (l.map (Value.int .u8))[j]? = some u → w.cell? (x.add j) = some u := by
  intro j u hj
  have hjl : j < l.length := by have := (List.getElem?_eq_some_iff.1 hj).1; simpa using this
  obtain ⟨a, c, he, _, _, hc⟩ := h
  obtain ⟨y, hy, _, hcell⟩ := hc (by omega)
  simp only [Value.slice.injEq] at he
  obtain ⟨h1, _, _⟩ := he
  rw [← h1] at hy
  obtain rfl := Option.some.inj hy
  rw [hcell j hjl]
  simpa [hjl] using hj
theorem cell_lt {w : World} {a : Addr} {v : Value} (h : w.cell? a = some v) : a.block < w.heap.size := by
  rcases Nat.lt_or_ge a.block w.heap.size with h' | h'
  · exact h'
  · simp [World.cell?, Array.getElem?_eq_none h'] at h
theorem cell_later {w w' : World} {a : Addr} {v : Value} (hb : Below w.heap.size w w') (h : w.cell? a = some v) : w'.cell? a = some v := (hb.cell (p := a) (cell_lt h)).trans h
theorem Own.below {w w' : World} {B : Nat} {v : Value} {l : List Int} (h : Own w B v l) (hb : Below w.heap.size w w') : Own w' B v l := by
  have hlt := World.ownsRow.lt h
  obtain ⟨h1, h2⟩ := h
  refine ⟨h1, ?_⟩
  rcases h2 with h2 | ⟨g, cap, cur, hv, hg, hh, r⟩
  · exact .inl h2
  · refine .inr ⟨g, cap, cur, hv, hg, ?_, r⟩
    rw [hb.block g (hlt g (by rw [hv]; rfl)).2]; exact hh
/-- The numbers l stand where the slice v leads. -/
def WordsAt (w : World) (v : Value) (l : List Int) : Prop :=
  ∃ a cap, v = .slice a l.length cap ∧ ∀ k, k < l.length → ∃ b off, a = some ⟨b, off, none⟩ ∧ b < w.heap.size ∧ w.cell? ⟨b, off + k, none⟩ = some (.int .u64 (l.getD k 0))
theorem WordsAt.below {w w' : World} {v : Value} {l : List Int} (h : WordsAt w v l) (hb : Below w.heap.size w w') : WordsAt w' v l := by
  obtain ⟨a, cap, rfl, hc⟩ := h
  refine ⟨a, cap, rfl, fun k hk => ?_⟩
  obtain ⟨b, off, ha, hx, hcell⟩ := hc k hk
  exact ⟨b, off, ha, Nat.lt_of_lt_of_le hx hb.size, cell_later hb hcell⟩
/-- Numbers that a u64 may be. -/
def Wide (l : List Int) : Prop := ∀ k, k < l.length → 0 ≤ l.getD k 0 ∧ l.getD k 0 ≤ 18446744073709551615
/-- The bytes of all of l, one behind the other. -/
def encs : List Int → List Int
  | [] => []
  | x :: t => enc x ++ encs t
theorem encs_snoc (l : List Int) (x : Int) : encs (l ++ [x]) = encs l ++ enc x := by
  induction l with
  | nil => simp [encs]
  | cons y t ih => simp [encs, ih]
theorem encs_len (l : List Int) : (encs l).length ≤ 10 * l.length := by
  induction l with
  | nil => simp [encs]
  | cons y t ih =>
    have := enc_len y
    simp only [encs, List.length_append, List.length_cons]; omega
theorem take_snoc (l : List Int) (k : Nat) (h : k < l.length) : l.take (k + 1) = l.take k ++ [l.getD k 0] := by
  rw [List.take_succ_eq_append_getElem h]; simp [h]
theorem encs_take (l : List Int) (k : Nat) (h : k < l.length) : encs (l.take (k + 1)) = encs (l.take k) ++ enc (l.getD k 0) := by
  rw [take_snoc l k h, encs_snoc]
theorem str_append (a b : List Int) : str a ++ str b = str (a ++ b) := by
  apply ByteArray.ext
  apply Array.ext'
  rw [ByteArray.data_append, Array.toList_append, str_list, str_list, str_list, List.map_append]
end Go.Proofs.Ytbkodaijigcebaa
/- The contract of varint's All: a new row of the call's own holds the bytes of all the numbers, one behind the other; what was there stays. -/
namespace Go.Proofs.Ytbkodaijigcebaa
open Go.RowKit
set_option maxRecDepth 20000
set_option linter.unusedVariables false
theorem make_bytes0 (m : Nat) (W : World) (h : m ≤ 1000100) : (Instr.makeSlice 61 (.int .i64 0) (.int .i64 (m : Int))).run Try.prog W = .ok (.slice (some ⟨W.heap.size, 0, none⟩) 0 m) (W.alloc (.cells (madeCells #[.int .u8 0] m) 5)) := by
  have := make_bytes 0 m W (by omega)
  simpa using this
theorem own_made (w : World) (m : Nat) (h : m ≤ 1000100) : Own (w.alloc (.cells (madeCells #[.int .u8 0] m) 5)) w.heap.size (.slice (some ⟨w.heap.size, 0, none⟩) 0 m) [] := by
  have := own_of_splice (w2 := w.alloc (.cells (madeCells #[.int .u8 0] m) 5)) (g := w.heap.size) (m := m) (l := []) (by
    rw [heap_alloc_new]
    have := toList_madeCells_one (.int .u8 0) m
    simp [splice, ← this]) (by simp; unfold maxLen; omega)
  simpa using this
theorem all_any (v : Value) (l : List Int) (w : World) (hw : WordsAt w v l) (hl : l.length ≤ 1000) (hx : Wide l) : Calls Try.prog 34 #[v] w (PutEnd w (encs l)) := by
  obtain ⟨a, cap, rfl, hc⟩ := hw
  have HC := Lib.hid hc; clear hc
  have HX := Lib.hid hx; clear hx
  go_enter Try.func34, Try.ntmps34
  go_wp2_with fail
  go_loop [3, 11] (fun s i => ∃ k : Nat, k ≤ l.length ∧ i = .int .i64 k ∧ ∃ n : Nat, s = .int .i64 n ∧ Hid (n = (encs (l.take k)).length) ∧ n ≤ 10 * k) (fun _ i => l.length - (intOf i).toNat)
  case atStart => exact ⟨0, Nat.zero_le _, rfl, 0, rfl, by simp [encs, Hid], by omega⟩
  case round =>
    obtain ⟨k, hk, rfl, n, rfl, HN, hn⟩ := hrel
    by_cases hlt : k < l.length
    · obtain ⟨b, off, rfl, hb, hcell⟩ := HC.out k hlt
      have bx := HX.out k hlt
      have ht := encs_take l k hlt
      generalize l.getD k 0 = x at *
      obtain ⟨x0, x1⟩ := bx
      have HT := Lib.hid ht; clear ht
      have hel := enc_len x
      obtain ⟨m, hm⟩ : ∃ m, (enc x).length = m := ⟨_, rfl⟩
      rw [hm] at hel
      have HM := Lib.hid hm; clear hm
      go_wp2_with (go_at_call 50; refine (size_any x _ x0 x1).mono ?_; rw [HM.out]; rintro e w' ⟨rfl, rfl⟩)
      refine ⟨⟨k + 1, by omega, by go_num, n + m, by go_num, ?_, by omega⟩, ?_⟩
      · apply Lib.hid; rw [HT.out, List.length_append, HM.out, ← HN.out]
      · simp [intOf]; omega
    · obtain rfl : k = l.length := by omega
      have hmk := fun W => make_bytes0 n W (by omega)
      have hO := own_made w n (by omega)
      have HO := Lib.hid hO; clear hO
      clear HN hlt hk
      go_wp2_with fail
      go_loopw [6, 24] (fun v i wr => ∃ k : Nat, k ≤ l.length ∧ i = .int .i64 k ∧ Own wr w.heap.size v (encs (l.take k)) ∧ Below w.heap.size w wr) (fun _ i _ => l.length - (intOf i).toNat)
      case atStart => exact ⟨0, Nat.zero_le _, rfl, by simpa [encs] using HO.out, (Below.refl _ _).alloc (Nat.le_refl _) _⟩
      case round =>
        clear HO
        obtain ⟨k, hk, rfl, hown, hbw⟩ := hrel
        have hel := encs_len (l.take k)
        rw [List.length_take] at hel
        have HO := Lib.hid hown; clear hown
        have hsz := hbw.size
        by_cases hlt : k < l.length
        · obtain ⟨b, off, rfl, hb, hcell⟩ := HC.out k hlt
          have hcell := (hbw.cell (p := ⟨b, off + k, none⟩) hb).trans hcell
          have bx := HX.out k hlt
          have ht := encs_take l k hlt
          generalize l.getD k 0 = x at *
          obtain ⟨x0, x1⟩ := bx
          have HT := Lib.hid ht; clear ht
          have hq : (encs (l.take k)).length ≤ 1000000 := by omega
          clear hel
          go_wp2_with fail
          refine (lay_any w.heap.size _ _ x _ HO.out hsz hq x0 x1).mono ?_
          rintro e w2 ⟨v2, rfl, ho2, hb2⟩
          rw [← HT.out] at ho2
          have hb := hbw.trans hb2
          clear hb2 hbw HO
          go_wp2_with fail
          go_roundw
          case rel => exact ⟨k + 1, by omega, by go_num, ho2, hb⟩
          case measure => simp [intOf]; omega
        · obtain rfl : k = l.length := by omega
          clear hel
          go_wp2_with fail
          go_ret
          refine ⟨_, rfl, ?_, hbw⟩
          have := HO.out
          rwa [List.take_length] at this
end Go.Proofs.Ytbkodaijigcebaa
