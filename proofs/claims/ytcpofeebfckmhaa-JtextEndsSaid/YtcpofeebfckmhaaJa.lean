/- Plain: runes in UTF-8, valid texts. No Go in sight. -/
import Derived.Lib.Hide
namespace Go.Proofs.Ytcpofeebfckmhaa
set_option maxRecDepth 20000
set_option linter.unusedVariables false
set_option linter.unusedSimpArgs false
/-- The bytes of a code; none, if it is no rune. -/
def encC (c : Int) : List Int :=
  if c < 0 ∨ 1114111 < c ∨ (55296 ≤ c ∧ c ≤ 57343) then [] else if c < 128 then [c] else if c < 2048 then [192 + c / 64, 128 + c % 64]
  else if c < 65536 then [224 + c / 4096, 128 + c / 64 % 64, 128 + c % 64] else [240 + c / 262144, 128 + c / 4096 % 64, 128 + c / 64 % 64, 128 + c % 64]
/-- The bytes of the rune with which bytes begin; none, if there is none. -/
def runeP4 (b0 b1 b2 : Int) : List Int → List Int
  | [] => []
  | b3 :: _ => if encC (64 * (64 * (64 * (b0 % 8) + b1 % 64) + b2 % 64) + b3 % 64) = [b0, b1, b2, b3] then [b0, b1, b2, b3] else []
def runeP3 (b0 b1 : Int) : List Int → List Int
  | [] => []
  | b2 :: t => if encC (64 * (64 * (b0 % 16) + b1 % 64) + b2 % 64) = [b0, b1, b2] then [b0, b1, b2] else runeP4 b0 b1 b2 t
def runeP2 (b0 : Int) : List Int → List Int
  | [] => []
  | b1 :: t => if encC (64 * (b0 % 32) + b1 % 64) = [b0, b1] then [b0, b1] else runeP3 b0 b1 t
def runeP : List Int → List Int
  | [] => []
  | b0 :: t => if encC b0 = [b0] then [b0] else runeP2 b0 t
/-- The four ways. -/
theorem encC_ways (c : Int) : encC c = [] ∨ (0 ≤ c ∧ c < 128 ∧ encC c = [c]) ∨ (128 ≤ c ∧ c < 2048 ∧ encC c = [192 + c / 64, 128 + c % 64]) ∨ (2048 ≤ c ∧ c < 65536 ∧ ¬ (55296 ≤ c ∧ c ≤ 57343) ∧ encC c = [224 + c / 4096, 128 + c / 64 % 64, 128 + c % 64]) ∨
    (65536 ≤ c ∧ c ≤ 1114111 ∧ encC c = [240 + c / 262144, 128 + c / 4096 % 64, 128 + c / 64 % 64, 128 + c % 64]) := by
  unfold encC
  by_cases h0 : c < 0 ∨ 1114111 < c ∨ (55296 ≤ c ∧ c ≤ 57343)
  · left; rw [if_pos h0]
  rw [if_neg h0]
  by_cases h1 : c < 128
  · right; left; rw [if_pos h1]; exact ⟨by omega, h1, rfl⟩
  rw [if_neg h1]
  by_cases h2 : c < 2048
  · right; right; left; rw [if_pos h2]; exact ⟨by omega, h2, rfl⟩
  rw [if_neg h2]
  by_cases h3 : c < 65536
  · right; right; right; left; rw [if_pos h3]; exact ⟨by omega, h3, by omega, rfl⟩
  rw [if_neg h3]
  right; right; right; right
  exact ⟨by omega, by omega, rfl⟩
theorem encC_nil (c : Int) : encC c = [] ↔ (c < 0 ∨ 1114111 < c ∨ (55296 ≤ c ∧ c ≤ 57343)) := by
  constructor
  · intro h
    unfold encC at h
    by_cases h0 : c < 0 ∨ 1114111 < c ∨ (55296 ≤ c ∧ c ≤ 57343)
    · exact h0
    rw [if_neg h0] at h
    split at h
    · cases h
    split at h
    · cases h
    split at h <;> cases h
  · intro h; unfold encC; rw [if_pos h]
theorem encC_len (c : Int) : (encC c).length ≤ 4 := by
  rcases encC_ways c with h | ⟨_, _, h⟩ | ⟨_, _, h⟩ | ⟨_, _, _, h⟩ | ⟨_, _, h⟩ <;> rw [h] <;> simp
theorem encC_byte (c : Int) : ∀ b ∈ encC c, 0 ≤ b ∧ b < 256 := by
  intro b hb
  rcases encC_ways c with h | ⟨h1, h2, h⟩ | ⟨h1, h2, h⟩ | ⟨h1, h2, _, h⟩ | ⟨h1, h2, h⟩ <;> rw [h] at hb <;> simp at hb <;> omega
/-- Of a rune of more than one byte no byte is below 128. -/
theorem encC_high (c : Int) (hc : 128 ≤ c) : ∀ b ∈ encC c, 128 ≤ b := by
  intro b hb
  rcases encC_ways c with h | ⟨h1, h2, h⟩ | ⟨h1, h2, h⟩ | ⟨h1, h2, _, h⟩ | ⟨h1, h2, h⟩ <;> rw [h] at hb <;> simp at hb <;> omega
theorem encC_ne1 (c b0 : Int) (h0 : 128 ≤ b0) : encC c ≠ [b0] := by
  rcases encC_ways c with h | ⟨h1, h2, h⟩ | ⟨h1, h2, h⟩ | ⟨h1, h2, _, h⟩ | ⟨h1, h2, h⟩ <;> rw [h] <;> simp
  omega
theorem encC_is2 (c b0 b1 : Int) (h : encC c = [b0, b1]) : 194 ≤ b0 ∧ b0 ≤ 223 ∧ 128 ≤ b1 ∧ b1 < 192 ∧ c = 64 * (b0 % 32) + b1 % 64 := by
  rcases encC_ways c with h' | ⟨h1, h2, h'⟩ | ⟨h1, h2, h'⟩ | ⟨h1, h2, _, h'⟩ | ⟨h1, h2, h'⟩ <;> rw [h'] at h <;> simp at h
  omega
theorem encC_is3 (c b0 b1 b2 : Int) (h : encC c = [b0, b1, b2]) : 224 ≤ b0 ∧ b0 ≤ 239 ∧ 128 ≤ b1 ∧ b1 < 192 ∧ 128 ≤ b2 ∧ b2 < 192 ∧ c = 64 * (64 * (b0 % 16) + b1 % 64) + b2 % 64 := by
  rcases encC_ways c with h' | ⟨h1, h2, h'⟩ | ⟨h1, h2, h'⟩ | ⟨h1, h2, _, h'⟩ | ⟨h1, h2, h'⟩ <;> rw [h'] at h <;> simp at h
  omega
theorem encC_is4 (c b0 b1 b2 b3 : Int) (h : encC c = [b0, b1, b2, b3]) : 240 ≤ b0 ∧ b0 ≤ 244 ∧ 128 ≤ b1 ∧ b1 < 192 ∧ 128 ≤ b2 ∧ b2 < 192 ∧ 128 ≤ b3 ∧ b3 < 192 ∧ c = 64 * (64 * (64 * (b0 % 8) + b1 % 64) + b2 % 64) + b3 % 64 := by
  rcases encC_ways c with h' | ⟨h1, h2, h'⟩ | ⟨h1, h2, h'⟩ | ⟨h1, h2, _, h'⟩ | ⟨h1, h2, h'⟩ <;> rw [h'] at h <;> simp at h
  omega
/-- A rune's bytes, whatever stands behind them, begin with that rune. -/
theorem rune_of (c : Int) (t : List Int) (h : encC c ≠ []) : runeP (encC c ++ t) = encC c := by
  rcases encC_ways c with h' | ⟨h1, h2, h'⟩ | ⟨h1, h2, h'⟩ | ⟨h1, h2, h3, h'⟩ | ⟨h1, h2, h'⟩
  · exact absurd h' h
  · rw [h', List.singleton_append, runeP, if_pos h']
  · rw [h']
    have e : 64 * ((192 + c / 64) % 32) + (128 + c % 64) % 64 = c := by omega
    rw [List.cons_append, List.cons_append, List.nil_append, runeP, if_neg (encC_ne1 _ _ (by omega)), runeP2, e, if_pos h']
  · rw [h']
    have e : 64 * (64 * ((224 + c / 4096) % 16) + (128 + c / 64 % 64) % 64) + (128 + c % 64) % 64 = c := by omega
    rw [List.cons_append, List.cons_append, List.cons_append, List.nil_append, runeP, if_neg (encC_ne1 _ _ (by omega)), runeP2, if_neg (fun hq => by have := encC_is2 _ _ _ hq; omega), runeP3, e, if_pos h']
  · rw [h']
    have e : 64 * (64 * (64 * ((240 + c / 262144) % 8) + (128 + c / 4096 % 64) % 64) + (128 + c / 64 % 64) % 64) + (128 + c % 64) % 64 = c := by omega
    rw [List.cons_append, List.cons_append, List.cons_append, List.cons_append, List.nil_append, runeP, if_neg (encC_ne1 _ _ (by omega)), runeP2, if_neg (fun hq => by have := encC_is2 _ _ _ hq; omega), runeP3, if_neg (fun hq => by have := encC_is3 _ _ _ _ hq; omega), runeP4, e, if_pos h']
/-- A rune that is told stands there. -/
theorem rune_is (l : List Int) (h : runeP l ≠ []) : ∃ c t, encC c = runeP l ∧ l = runeP l ++ t := by
  cases l with
  | nil => exact absurd rfl h
  | cons b0 t =>
    rw [runeP] at h ⊢
    split
    · exact ⟨b0, t, by assumption, rfl⟩
    rename_i n0
    rw [if_neg n0] at h
    cases t with
    | nil => exact absurd rfl h
    | cons b1 t =>
      rw [runeP2] at h ⊢
      split
      · exact ⟨_, t, by assumption, rfl⟩
      rename_i n1
      rw [if_neg n1] at h
      cases t with
      | nil => exact absurd rfl h
      | cons b2 t =>
        rw [runeP3] at h ⊢
        split
        · exact ⟨_, t, by assumption, rfl⟩
        rename_i n2
        rw [if_neg n2] at h
        cases t with
        | nil => exact absurd rfl h
        | cons b3 t =>
          rw [runeP4] at h ⊢
          split
          · exact ⟨_, t, by assumption, rfl⟩
          rename_i n3
          rw [if_neg n3] at h
          exact absurd rfl h
theorem rune_len (l : List Int) : (runeP l).length ≤ l.length ∧ (runeP l).length ≤ 4 := by
  by_cases h : runeP l = []
  · rw [h]; simp
  · obtain ⟨c, t, h1, h2⟩ := rune_is l h
    refine ⟨?_, by rw [← h1]; exact encC_len c⟩
    have := congrArg List.length h2
    rw [List.length_append] at this
    omega
theorem rune_take (l : List Int) (h : runeP l ≠ []) : l.take (runeP l).length = runeP l := by
  obtain ⟨c, t, h1, h2⟩ := rune_is l h
  have e := congrArg (List.take (runeP l).length) h2
  rw [List.take_left' rfl] at e
  exact e
/-- Valid texts: runes, one behind the other. -/
inductive Val : List Int → Nat → Prop
  | nil : Val [] 0
  | cons (c : Int) (l : List Int) (n : Nat) : encC c ≠ [] → Val l n → Val (encC c ++ l) (n + 1)
/-- How many runes; -1, if it is not valid. -/
def countF : Nat → List Int → Int
  | 0, l => if l = [] then 0 else -1
  | f + 1, l => if l = [] then 0 else if runeP l = [] then -1 else if countF f (l.drop (runeP l).length) < 0 then -1 else countF f (l.drop (runeP l).length) + 1
def countP (l : List Int) : Int := countF l.length l
theorem countF_ge : ∀ (f : Nat) (l : List Int), -1 ≤ countF f l
  | 0, l => by rw [countF]; split <;> omega
  | f + 1, l => by
    have := countF_ge f (l.drop (runeP l).length)
    rw [countF]
    split
    · omega
    split
    · omega
    split <;> omega
theorem val_head {l : List Int} {n : Nat} (h : Val l n) (hl : l ≠ []) : ∃ c m k, encC c ≠ [] ∧ l = encC c ++ m ∧ n = k + 1 ∧ Val m k := by
  cases h with
  | nil => exact absurd rfl hl
  | cons c m k h1 h2 => exact ⟨c, m, k, h1, rfl, rfl, h2⟩
theorem val_count : ∀ (f : Nat) (l : List Int) (n : Nat), l.length ≤ f → Val l n → countF f l = n
  | 0, l, n, hf, h => by
    have : l = [] := List.eq_nil_of_length_eq_zero (by omega)
    subst this
    cases hn : n with
    | zero => rfl
    | succ k =>
      subst hn
      generalize hl : ([] : List Int) = l at h
      cases h with
      | cons c m k h1 h2 => rcases List.append_eq_nil_iff.1 hl.symm with ⟨h3, _⟩; exact absurd h3 h1
  | f + 1, l, n, hf, h => by
    by_cases hl : l = []
    · subst hl
      rw [countF, if_pos rfl]
      generalize hl : ([] : List Int) = l at h
      cases h with
      | nil => rfl
      | cons c m k h1 h2 => rcases List.append_eq_nil_iff.1 hl.symm with ⟨h3, _⟩; exact absurd h3 h1
    · obtain ⟨c, m, k, h1, rfl, rfl, h2⟩ := val_head h hl
      rw [countF, if_neg hl, rune_of c m h1, if_neg h1, List.drop_left]
      have hp : 0 < (encC c).length := List.length_pos_iff.2 h1
      rw [List.length_append] at hf
      rw [val_count f m k (by omega) h2, if_neg (by omega)]
      push_cast
      rfl
theorem count_val : ∀ (f : Nat) (l : List Int), 0 ≤ countF f l → ∃ n, Val l n ∧ countF f l = n
  | 0, l, h => by
    rw [countF] at h ⊢
    split at h
    · rename_i hl; subst hl; exact ⟨0, .nil, rfl⟩
    · omega
  | f + 1, l, h => by
    rw [countF] at h ⊢
    by_cases hl : l = []
    · subst hl; rw [if_pos rfl]; exact ⟨0, .nil, rfl⟩
    rw [if_neg hl] at h ⊢
    by_cases hr : runeP l = []
    · rw [if_pos hr] at h; omega
    rw [if_neg hr] at h ⊢
    split at h
    · omega
    rename_i hc
    obtain ⟨n, h1, h2⟩ := count_val f (l.drop (runeP l).length) (by omega)
    rw [if_neg hc, h2]
    obtain ⟨c, t, h3, h4⟩ := rune_is l hr
    refine ⟨n + 1, ?_, by push_cast; rfl⟩
    have h5 : l.drop (runeP l).length = t := by
      have e := congrArg (List.drop (runeP l).length) h4
      rw [List.drop_left' rfl] at e
      exact e
    rw [h5] at h1
    rw [h4, ← h3]
    exact .cons c t n (by rw [h3]; exact hr) h1
theorem count_is {l : List Int} {n : Nat} (h : Val l n) : countP l = n := val_count _ l n (Nat.le_refl _) h
theorem count_of {l : List Int} (h : 0 ≤ countP l) : ∃ n, Val l n ∧ countP l = n := count_val l.length l h
theorem count_no {l : List Int} (h : countP l < 0) : countP l = -1 := by have := countF_ge l.length l; unfold countP at h ⊢; omega
theorem val_append {l m : List Int} {n k : Nat} (h : Val l n) (h' : Val m k) : Val (l ++ m) (n + k) := by
  induction h with
  | nil => rw [Nat.zero_add]; exact h'
  | cons c l n h1 h2 ih => rw [List.append_assoc, show n + 1 + k = (n + k) + 1 by omega]; exact .cons c _ _ h1 ih
theorem val_len {l : List Int} {n : Nat} (h : Val l n) : n ≤ l.length := by
  induction h with
  | nil => simp
  | cons c l n h1 h2 ih =>
    have : 0 < (encC c).length := List.length_pos_iff.2 h1
    rw [List.length_append]
    omega
end Go.Proofs.Ytcpofeebfckmhaa
