/- Plain arithmetic of numbers in bytes, seven binary digits each: how they are laid (enc), how they are read (lead, errV, numV), and that each undoes the other. No Go in sight. -/
import Derived.IntWalk
import Derived.Laws.BitsAllLaws
namespace Go.Proofs.Ytpjgemjceikhfaa
open Go.RowKit
set_option linter.unusedVariables false
/-- 128 to the k. -/
def p7 : Nat → Int
  | 0 => 1
  | k + 1 => 128 * p7 k
/-- The bytes of x, at most k + 1 of them. -/
def encF : Nat → Int → List Int
  | 0, x => [x]
  | k + 1, x => if x < 128 then [x] else (x % 128 + 128) :: encF k (x / 128)
def enc (x : Int) : List Int := encF 9 x
theorem p7_pos (k : Nat) : 1 ≤ p7 k := by
  induction k with
  | zero => simp [p7]
  | succ k ih => simp only [p7]; omega
theorem p7_mono (j k : Nat) (h : j ≤ k) : p7 j ≤ p7 k := by
  induction h with
  | refl => omega
  | step _ ih => simp only [p7]; have := p7_pos j; omega
theorem div_lt_p7 (x : Int) (k : Nat) (h : x < p7 (k + 1)) : x / 128 < p7 k := by
  simp only [p7] at h; omega
theorem encF_more (k : Nat) (x : Int) (h0 : 0 ≤ x) (h : x < p7 (k + 1)) : encF (k + 1) x = encF k x := by
  induction k generalizing x with
  | zero =>
    simp only [p7] at h
    have : x < 128 := by omega
    simp [encF, this]
  | succ k ih =>
    rw [encF]
    by_cases hx : x < 128
    · rw [if_pos hx, encF, if_pos hx]
    · rw [if_neg hx, ih (x / 128) (by omega) (div_lt_p7 x (k + 1) h)]
      conv => rhs; rw [encF, if_neg hx]
theorem p7_top : p7 10 = 1180591620717411303424 ∧ p7 9 = 9223372036854775808 := by decide
theorem enc_lt (x : Int) (h : x < 128) : enc x = [x] := by unfold enc; rw [encF, if_pos h]
theorem enc_ge (x : Int) (h : 128 ≤ x) (h1 : x ≤ 18446744073709551615) : enc x = (x % 128 + 128) :: enc (x / 128) := by
  unfold enc
  rw [encF, if_neg (by omega), ← encF_more 8 (x / 128) (by omega) (by rw [p7_top.2]; omega)]
theorem encF_len (k : Nat) (x : Int) : 1 ≤ (encF k x).length ∧ (encF k x).length ≤ k + 1 := by
  induction k generalizing x with
  | zero => simp [encF]
  | succ k ih =>
    rw [encF]
    split
    · simp
    · have := ih (x / 128)
      simp only [List.length_cons]; omega
theorem enc_len (x : Int) : 1 ≤ (enc x).length ∧ (enc x).length ≤ 10 := encF_len 9 x
theorem encF_up (k : Nat) (x : Int) (h : x < p7 (k + 1)) : x < p7 (encF k x).length := by
  induction k generalizing x with
  | zero => simpa [encF] using h
  | succ k ih =>
    rw [encF]
    split
    · simp [p7]; assumption
    · have := ih (x / 128) (div_lt_p7 x (k + 1) h)
      simp only [List.length_cons, p7]; omega
theorem encF_dn (k : Nat) (x : Int) (h : 2 ≤ (encF k x).length) : p7 ((encF k x).length - 1) ≤ x := by
  induction k generalizing x with
  | zero => simp [encF] at h
  | succ k ih =>
    rw [encF] at h ⊢
    split at h
    · simp at h
    · rename_i hx
      rw [if_neg hx]
      simp only [List.length_cons] at h ⊢
      have h1 := (encF_len k (x / 128)).1
      by_cases h2 : 2 ≤ (encF k (x / 128)).length
      · have := ih (x / 128) h2
        obtain ⟨m, hm⟩ : ∃ m, (encF k (x / 128)).length = m + 1 := ⟨(encF k (x / 128)).length - 1, by omega⟩
        rw [hm] at this ⊢
        simp only [Nat.add_sub_cancel, p7] at this ⊢
        omega
      · rw [show (encF k (x / 128)).length = 1 from by omega]
        simp only [Nat.add_sub_cancel, p7]; omega
theorem enc_up (x : Int) (h1 : x ≤ 18446744073709551615) : x < p7 (enc x).length := encF_up 9 x (by have := p7_top.1; simp only [Nat.reduceAdd]; omega)
theorem enc_dn (x : Int) (h : 2 ≤ (enc x).length) : p7 ((enc x).length - 1) ≤ x := encF_dn 9 x h
theorem enc_bytes (k : Nat) (x : Int) (h0 : 0 ≤ x) (h : x < p7 (k + 1)) : ∀ c ∈ encF k x, 0 ≤ c ∧ c < 256 := by
  induction k generalizing x with
  | zero => simp only [p7] at h; simp [encF]; omega
  | succ k ih =>
    rw [encF]
    split
    · simp; omega
    · intro c hc
      rcases List.mem_cons.1 hc with rfl | hc
      · omega
      · exact ih (x / 128) (by omega) (div_lt_p7 x (k + 1) h) c hc
theorem enc_mono (x y : Int) (hx : x ≤ y) (h1 : y ≤ 18446744073709551615) : (enc x).length ≤ (enc y).length := by
  by_cases h2 : 2 ≤ (enc x).length
  · have a := enc_dn x h2
    have b := enc_up y h1
    by_cases hc : (enc y).length ≤ (enc x).length - 1
    · have := p7_mono _ _ hc; omega
    · omega
  · have := (enc_len y).1; omega
/-! How a text is read -/
/-- How many bytes of 128 or more a text begins with, at most k. -/
def lead : Nat → List UInt8 → Nat
  | 0, _ => 0
  | _ + 1, [] => 0
  | k + 1, c :: t => if 128 ≤ c.toNat then lead k t + 1 else 0
/-- The number of some bytes, seven digits each, the lowest ones first. -/
def numV : List UInt8 → Int
  | [] => 0
  | c :: t => (c.toNat : Int) % 128 + 128 * numV t
/-- What is wrong with the number with which a text begins. -/
def errV (l : List UInt8) : Int :=
  if lead 10 l = 10 then 11 else if lead 10 l = l.length then 3 else if lead 10 l = 9 ∧ 1 < (l.getD (lead 10 l) 0).toNat then 11 else if 0 < lead 10 l ∧ (l.getD (lead 10 l) 0).toNat = 0 then 4 else 0
def cntV (l : List UInt8) : Int := (lead 10 l + 1 : Nat)
def valV (l : List UInt8) : Int := numV (l.take (lead 10 l + 1))
theorem lead_le (k : Nat) (l : List UInt8) : lead k l ≤ k ∧ lead k l ≤ l.length := by
  induction k generalizing l with
  | zero => simp [lead]
  | succ k ih =>
    cases l with
    | nil => simp [lead]
    | cons c t =>
      rw [lead]
      have := ih t
      split <;> simp only [List.length_cons] <;> omega
theorem lead_lt (k : Nat) (l : List UInt8) (i : Nat) (h : i < lead k l) : 128 ≤ (l.getD i 0).toNat := by
  induction k generalizing l i with
  | zero => simp [lead] at h
  | succ k ih =>
    cases l with
    | nil => simp [lead] at h
    | cons c t =>
      rw [lead] at h
      split at h
      · cases i with
        | zero => simpa
        | succ i => simpa using ih t i (by omega)
      · omega
theorem lead_next (k : Nat) (l : List UInt8) (i : Nat) (h : i ≤ lead k l) (hk : i < k) (hl : i < l.length) (hc : 128 ≤ (l.getD i 0).toNat) : i + 1 ≤ lead k l := by
  induction k generalizing l i with
  | zero => omega
  | succ k ih =>
    cases l with
    | nil => simp at hl
    | cons c t =>
      rw [lead] at h ⊢
      cases i with
      | zero =>
        have : 128 ≤ c.toNat := by simpa using hc
        rw [if_pos this]; omega
      | succ i =>
        split at h
        · rename_i hh
          rw [if_pos hh]
          have := ih t i (by omega) (by omega) (by simpa using hl) (by simpa using hc)
          omega
        · omega
theorem lead_at (l : List UInt8) (i : Nat) (h : i ≤ lead 10 l) (hs : i = 10 ∨ i = l.length ∨ (l.getD i 0).toNat < 128) : lead 10 l = i := by
  have h1 := lead_le 10 l
  by_cases he : i = lead 10 l
  · exact he.symm
  · have := lead_lt 10 l i (by omega)
    omega
theorem byte_lt (c : UInt8) : c.toNat < 256 := c.toNat_lt
theorem numV_bd (l : List UInt8) : 0 ≤ numV l ∧ numV l < p7 l.length := by
  induction l with
  | nil => simp [numV, p7]
  | cons c t ih =>
    simp only [numV, p7, List.length_cons]
    omega
theorem numV_snoc (l : List UInt8) (c : UInt8) : numV (l ++ [c]) = numV l + (c.toNat : Int) % 128 * p7 l.length := by
  induction l with
  | nil => simp [numV, p7]
  | cons d t ih =>
    rw [List.cons_append]
    simp only [numV, ih, p7, List.length_cons]
    rw [Int.mul_add, ← Int.mul_assoc, Int.mul_comm 128 ((c.toNat : Int) % 128), Int.mul_assoc, Int.add_assoc]
theorem numV_take (l : List UInt8) (i : Nat) (h : i < l.length) : numV (l.take (i + 1)) = numV (l.take i) + ((l.getD i 0).toNat : Int) % 128 * p7 i := by
  rw [List.take_succ_eq_append_getElem h, numV_snoc]
  simp [h, Nat.min_eq_left (Nat.le_of_lt h)]
theorem numV_drop (l : List UInt8) (i : Nat) (h : i < l.length) : numV (l.drop i) = ((l.getD i 0).toNat : Int) % 128 + 128 * numV (l.drop (i + 1)) := by
  rw [List.drop_eq_getElem_cons h]
  simp [numV, h]
theorem numV_drop_le (l : List UInt8) (i : Nat) : numV (l.drop i) ≤ numV l := by
  induction i generalizing l with
  | zero => simp
  | succ i ih =>
    cases l with
    | nil => simp
    | cons c t =>
      have := ih t
      have := (numV_bd t).1
      simp only [List.drop_succ_cons, numV]
      omega
/-- What may be is below 2 to the 64. -/
theorem valV_bd (l : List UInt8) (h : errV l = 0) : 0 ≤ valV l ∧ valV l ≤ 18446744073709551615 := by
  have h1 := lead_le 10 l
  unfold errV at h
  split at h
  · cases h
  rename_i a
  split at h
  · cases h
  rename_i b
  split at h
  · cases h
  rename_i c
  unfold valV
  refine ⟨(numV_bd _).1, ?_⟩
  by_cases h9 : lead 10 l = 9
  · rw [numV_take l _ (by omega)]
    have h2 := (numV_bd (l.take (lead 10 l))).2
    rw [h9] at h2 c ⊢
    have h3 : (l.take 9).length = 9 := by simp; omega
    rw [h3] at h2
    have h4 := p7_top.2
    rw [h4] at h2 ⊢
    have : (l.getD 9 0).toNat ≤ 1 := by omega
    omega
  · have h2 := (numV_bd (l.take (lead 10 l + 1))).2
    have h3 := p7_mono (l.take (lead 10 l + 1)).length 9 (by simp; omega)
    have h4 := p7_top.2
    omega
/-! One undoes the other -/
/-- A byte's text. -/
def ub (n : Int) : UInt8 := UInt8.ofNat n.toNat
theorem ub_toNat (n : Int) (h0 : 0 ≤ n) (h1 : n < 256) : ((ub n).toNat : Int) = n := by
  unfold ub; simp; omega
theorem ub_back (c : UInt8) : ub (c.toNat : Int) = c := by unfold ub; simp
theorem lead_enc (k : Nat) (x : Int) (h0 : 0 ≤ x) (h : x < p7 (k + 1)) (r : List UInt8) (m : Nat) (hm : k < m) : lead m ((encF k x).map ub ++ r) + 1 = (encF k x).length := by
  induction k generalizing x m with
  | zero =>
    simp only [p7] at h
    obtain ⟨m, rfl⟩ : ∃ j, m = j + 1 := ⟨m - 1, by omega⟩
    have := ub_toNat x h0 (by omega)
    simp only [encF, List.map_cons, List.map_nil, List.cons_append, lead, List.length_cons, List.length_nil]
    rw [if_neg (by omega)]
  | succ k ih =>
    obtain ⟨m, rfl⟩ : ∃ j, m = j + 1 := ⟨m - 1, by omega⟩
    rw [encF]
    split
    · have := ub_toNat x h0 (by omega)
      simp only [List.map_cons, List.map_nil, List.cons_append, lead, List.length_cons, List.length_nil]
      rw [if_neg (by omega)]
    · have := ub_toNat (x % 128 + 128) (by omega) (by omega)
      simp only [List.map_cons, List.cons_append, lead, List.length_cons]
      rw [if_pos (by omega), ih (x / 128) (by omega) (div_lt_p7 x (k + 1) h) m (by omega)]
theorem numV_enc (k : Nat) (x : Int) (h0 : 0 ≤ x) (h : x < p7 (k + 1)) : numV ((encF k x).map ub) = x := by
  induction k generalizing x with
  | zero =>
    simp only [p7] at h
    have := ub_toNat x h0 (by omega)
    simp only [encF, List.map_cons, List.map_nil, numV]; omega
  | succ k ih =>
    rw [encF]
    split
    · have := ub_toNat x h0 (by omega)
      simp only [List.map_cons, List.map_nil, numV]; omega
    · have := ub_toNat (x % 128 + 128) (by omega) (by omega)
      simp only [List.map_cons, numV, ih (x / 128) (by omega) (div_lt_p7 x (k + 1) h)]
      omega
theorem last_enc (k : Nat) (x : Int) (h0 : 0 ≤ x) (h : x < p7 (k + 1)) : ((encF k x).getD ((encF k x).length - 1) 0 = x ∧ (encF k x).length = 1) ∨ (1 ≤ (encF k x).getD ((encF k x).length - 1) 0 ∧ (encF k x).getD ((encF k x).length - 1) 0 * p7 ((encF k x).length - 1) ≤ x) := by
  induction k generalizing x with
  | zero => exact .inl ⟨by simp [encF], by simp [encF]⟩
  | succ k ih =>
    rw [encF]
    split
    · exact .inl ⟨by simp, by simp⟩
    · have hl := encF_len k (x / 128)
      have e : ((x % 128 + 128) :: encF k (x / 128)).getD (((x % 128 + 128) :: encF k (x / 128)).length - 1) 0 = (encF k (x / 128)).getD ((encF k (x / 128)).length - 1) 0 := by
        rw [List.length_cons, show (encF k (x / 128)).length + 1 - 1 = ((encF k (x / 128)).length - 1) + 1 from by omega, List.getD_cons_succ]
      rw [e, List.length_cons]
      refine .inr ?_
      rcases ih (x / 128) (by omega) (div_lt_p7 x (k + 1) h) with ⟨a, b⟩ | ⟨a, b⟩
      · rw [a, b]; simp only [Nat.add_sub_cancel, p7]; omega
      · refine ⟨a, ?_⟩
        rw [show (encF k (x / 128)).length + 1 - 1 = ((encF k (x / 128)).length - 1) + 1 from by omega, p7]
        generalize (encF k (x / 128)).getD ((encF k (x / 128)).length - 1) 0 = z at *
        generalize p7 ((encF k (x / 128)).length - 1) = q at *
        rw [← Int.mul_assoc, Int.mul_comm z 128, Int.mul_assoc]
        omega
/-- What is laid is read. -/
theorem enc_read (x : Int) (h0 : 0 ≤ x) (h1 : x ≤ 18446744073709551615) (r : List UInt8) : errV ((enc x).map ub ++ r) = 0 ∧ cntV ((enc x).map ub ++ r) = (enc x).length ∧ valV ((enc x).map ub ++ r) = x := by
  have hp : x < p7 (9 + 1) := by have := p7_top.1; simp only [Nat.reduceAdd]; omega
  have hl := lead_enc 9 x h0 hp r 10 (by omega)
  have hb := enc_bytes 9 x h0 hp
  have hz := last_enc 9 x h0 hp
  have hv := numV_enc 9 x h0 hp
  change lead 10 ((enc x).map ub ++ r) + 1 = (enc x).length at hl
  change ∀ c ∈ enc x, _ at hb
  change ((enc x).getD ((enc x).length - 1) 0 = x ∧ (enc x).length = 1) ∨ (1 ≤ (enc x).getD ((enc x).length - 1) 0 ∧ (enc x).getD ((enc x).length - 1) 0 * p7 ((enc x).length - 1) ≤ x) at hz
  change numV ((enc x).map ub) = x at hv
  have hn := enc_len x
  have hk : lead 10 ((enc x).map ub ++ r) = (enc x).length - 1 := by omega
  have hg : (((enc x).map ub ++ r).getD ((enc x).length - 1) 0).toNat = (enc x).getD ((enc x).length - 1) 0 := by
    have hi : (enc x).length - 1 < (enc x).length := by omega
    have := hb ((enc x)[(enc x).length - 1]) (List.getElem_mem hi)
    have h2 := ub_toNat _ this.1 this.2
    rw [List.getD_eq_getElem?_getD, List.getElem?_append_left (by simpa using hi)]
    simpa [hi] using h2
  refine ⟨?_, ?_, ?_⟩
  · unfold errV
    rw [hk]
    rw [if_neg (by omega), if_neg (by simp; omega)]
    rw [if_neg, if_neg]
    · rintro ⟨a, b⟩
      omega
    · rintro ⟨a, b⟩
      rw [a] at hz
      have := p7_top.2
      rw [this] at hz
      rw [a] at hg b
      omega
  · unfold cntV; rw [hl]
  · unfold valV
    rw [hl, List.take_append_of_le_length (by simp), List.take_of_length_le (by simp), hv]
/-- The bytes of a text that is read are those of what was read. -/
theorem read_enc (k : Nat) (l : List UInt8) (hk : l.length ≤ k + 1) (h : ∀ i, i + 1 < l.length → 128 ≤ (l.getD i 0).toNat) (h1 : 0 < l.length) (h2 : (l.getD (l.length - 1) 0).toNat < 128) (h3 : 1 < l.length → (l.getD (l.length - 1) 0).toNat ≠ 0) : encF k (numV l) = l.map (fun c => (c.toNat : Int)) ∧ (1 < l.length → 1 ≤ numV l) ∧ (l.length = 1 → numV l = (l.getD 0 0).toNat) := by
  induction l generalizing k with
  | nil => simp at h1
  | cons c t ih =>
    cases t with
    | nil =>
      have hc : c.toNat < 128 := by simpa using h2
      have e : numV [c] = c.toNat := by simp only [numV]; omega
      refine ⟨?_, by simp, fun _ => by rw [e]; simp⟩
      rw [e]
      cases k with
      | zero => simp [encF]
      | succ k => rw [encF, if_pos (by omega)]; simp
    | cons d t =>
      have hc : 128 ≤ c.toNat := by simpa using h 0 (by simp)
      have hc' := byte_lt c
      cases k with
      | zero => simp at hk
      | succ k =>
        have hh := ih k (by simpa using hk) (fun i hi => by simpa using h (i + 1) (by simpa using hi)) (by simp) (by simpa using h2) (fun _ => by simpa using h3 (by simp))
        have hl : (d.toNat ≠ 0 ∨ 1 < (d :: t).length) := by
          cases t with
          | nil => left; simpa using h3 (by simp)
          | cons _ _ => right; simp
        have h1' : 1 ≤ numV (d :: t) := by
          by_cases hq : 1 < (d :: t).length
          · exact hh.2.1 hq
          · have := hh.2.2 (by simp at hq ⊢; exact hq)
            rw [this]
            simp only [List.getD_cons_zero]
            omega
        have e : numV (c :: d :: t) = (c.toNat : Int) % 128 + 128 * numV (d :: t) := rfl
        refine ⟨?_, fun _ => by omega, by simp⟩
        rw [e, encF, if_neg (by omega), List.map_cons, show ((c.toNat : Int) % 128 + 128 * numV (d :: t)) / 128 = numV (d :: t) from by omega, hh.1]
        congr 1
        omega
theorem errV_ok (l : List UInt8) (h : errV l = 0) : lead 10 l ≤ 9 ∧ lead 10 l < l.length ∧ (lead 10 l = 9 → (l.getD (lead 10 l) 0).toNat ≤ 1) ∧ (0 < lead 10 l → (l.getD (lead 10 l) 0).toNat ≠ 0) ∧ (l.getD (lead 10 l) 0).toNat < 128 := by
  have h1 := lead_le 10 l
  unfold errV at h
  split at h
  · cases h
  rename_i a
  split at h
  · cases h
  rename_i b
  split at h
  · cases h
  rename_i c
  split at h
  · cases h
  rename_i d
  refine ⟨by omega, by omega, fun h => by omega, fun h => by omega, ?_⟩
  by_cases hx : (l.getD (lead 10 l) 0).toNat < 128
  · exact hx
  · have := lead_next 10 l (lead 10 l) (Nat.le_refl _) (by omega) (by omega) (by omega)
    omega
theorem read_back (l : List UInt8) (h : errV l = 0) : enc (valV l) = (l.take (lead 10 l + 1)).map (fun c => (c.toNat : Int)) := by
  obtain ⟨h1, h2, h3, h4, h5⟩ := errV_ok l h
  have hl : (l.take (lead 10 l + 1)).length = lead 10 l + 1 := by simp; omega
  have hg : ∀ i, i < lead 10 l + 1 → (l.take (lead 10 l + 1)).getD i 0 = l.getD i 0 := by
    intro i hi
    simp [hi]
  refine (read_enc 9 (l.take (lead 10 l + 1)) (by omega) ?_ (by omega) ?_ ?_).1
  · intro i hi
    rw [hg i (by omega)]
    exact lead_lt 10 l i (by omega)
  · rw [hl, Nat.add_sub_cancel, hg _ (by omega)]; exact h5
  · intro hx
    rw [hl, Nat.add_sub_cancel, hg _ (by omega)]; exact h4 (by omega)
end Go.Proofs.Ytpjgemjceikhfaa
