/- Several texts, one behind the other: Ja, Jb, Jc, Jd. -/
import Derived.Lib.Hide
/- Plain: runes in UTF-8, valid texts. No Go in sight. -/
namespace Go.Proofs.YtbkceneakdbdkaaGreatDoor
set_option maxRecDepth 20000
set_option linter.unusedVariables false
set_option linter.unusedSimpArgs false
/-- The bytes of a code; none, if it is no rune. -/
def encC (c : Int) : List Int :=
  if c < 0 ∨ 1114111 < c ∨ (55296 ≤ c ∧ c ≤ 57343) then [] else if c < 128 then [c] else if c < 2048 then [192 + c / 64, 128 + c % 64]
  else if c < 65536 then [224 + c / 4096, 128 + c / 64 % 64, 128 + c % 64] else [240 + c / 262144, 128 + c / 4096 % 64, 128 + c / 64 % 64, 128 + c % 64]
/-- The bytes of the rune with which bytes begin; none, if there is none. -/
def runeP4 (b0 b1 b2 : Int) : List Int → List Int
  | [] => []
  | b3 :: _ => if encC (64 * (64 * (64 * (b0 % 8) + b1 % 64) + b2 % 64) + b3 % 64) = [b0, b1, b2, b3] then [b0, b1, b2, b3] else []
def runeP3 (b0 b1 : Int) : List Int → List Int
  | [] => []
  | b2 :: t => if encC (64 * (64 * (b0 % 16) + b1 % 64) + b2 % 64) = [b0, b1, b2] then [b0, b1, b2] else runeP4 b0 b1 b2 t
def runeP2 (b0 : Int) : List Int → List Int
  | [] => []
  | b1 :: t => if encC (64 * (b0 % 32) + b1 % 64) = [b0, b1] then [b0, b1] else runeP3 b0 b1 t
def runeP : List Int → List Int
  | [] => []
  | b0 :: t => if encC b0 = [b0] then [b0] else runeP2 b0 t
/-- The four ways. -/
theorem encC_ways (c : Int) : encC c = [] ∨ (0 ≤ c ∧ c < 128 ∧ encC c = [c]) ∨ (128 ≤ c ∧ c < 2048 ∧ encC c = [192 + c / 64, 128 + c % 64]) ∨ (2048 ≤ c ∧ c < 65536 ∧ ¬ (55296 ≤ c ∧ c ≤ 57343) ∧ encC c = [224 + c / 4096, 128 + c / 64 % 64, 128 + c % 64]) ∨
    (65536 ≤ c ∧ c ≤ 1114111 ∧ encC c = [240 + c / 262144, 128 + c / 4096 % 64, 128 + c / 64 % 64, 128 + c % 64]) := by
  unfold encC
  by_cases h0 : c < 0 ∨ 1114111 < c ∨ (55296 ≤ c ∧ c ≤ 57343)
  · left; rw [if_pos h0]
  rw [if_neg h0]
  by_cases h1 : c < 128
  · right; left; rw [if_pos h1]; exact ⟨by omega, h1, rfl⟩
  rw [if_neg h1]
  by_cases h2 : c < 2048
  · right; right; left; rw [if_pos h2]; exact ⟨by omega, h2, rfl⟩
  rw [if_neg h2]
  by_cases h3 : c < 65536
  · right; right; right; left; rw [if_pos h3]; exact ⟨by omega, h3, by omega, rfl⟩
  rw [if_neg h3]
  right; right; right; right
  exact ⟨by omega, by omega, rfl⟩
theorem encC_nil (c : Int) : encC c = [] ↔ (c < 0 ∨ 1114111 < c ∨ (55296 ≤ c ∧ c ≤ 57343)) := by
  constructor
  · intro h
    unfold encC at h
    by_cases h0 : c < 0 ∨ 1114111 < c ∨ (55296 ≤ c ∧ c ≤ 57343)
    · exact h0
    rw [if_neg h0] at h
    split at h
    · cases h
    split at h
    · cases h
    split at h <;> cases h
  · intro h; unfold encC; rw [if_pos h]
theorem encC_len (c : Int) : (encC c).length ≤ 4 := by
  rcases encC_ways c with h | ⟨_, _, h⟩ | ⟨_, _, h⟩ | ⟨_, _, _, h⟩ | ⟨_, _, h⟩ <;> rw [h] <;> simp
theorem encC_byte (c : Int) : ∀ b ∈ encC c, 0 ≤ b ∧ b < 256 := by
  intro b hb
  rcases encC_ways c with h | ⟨h1, h2, h⟩ | ⟨h1, h2, h⟩ | ⟨h1, h2, _, h⟩ | ⟨h1, h2, h⟩ <;> rw [h] at hb <;> simp at hb <;> omega
/-- Of a rune of more than one byte no byte is below 128. -/
theorem encC_high (c : Int) (hc : 128 ≤ c) : ∀ b ∈ encC c, 128 ≤ b := by
  intro b hb
  rcases encC_ways c with h | ⟨h1, h2, h⟩ | ⟨h1, h2, h⟩ | ⟨h1, h2, _, h⟩ | ⟨h1, h2, h⟩ <;> rw [h] at hb <;> simp at hb <;> omega
theorem encC_ne1 (c b0 : Int) (h0 : 128 ≤ b0) : encC c ≠ [b0] := by
  rcases encC_ways c with h | ⟨h1, h2, h⟩ | ⟨h1, h2, h⟩ | ⟨h1, h2, _, h⟩ | ⟨h1, h2, h⟩ <;> rw [h] <;> simp
  omega
theorem encC_is2 (c b0 b1 : Int) (h : encC c = [b0, b1]) : 194 ≤ b0 ∧ b0 ≤ 223 ∧ 128 ≤ b1 ∧ b1 < 192 ∧ c = 64 * (b0 % 32) + b1 % 64 := by
  rcases encC_ways c with h' | ⟨h1, h2, h'⟩ | ⟨h1, h2, h'⟩ | ⟨h1, h2, _, h'⟩ | ⟨h1, h2, h'⟩ <;> rw [h'] at h <;> simp at h
  omega
theorem encC_is3 (c b0 b1 b2 : Int) (h : encC c = [b0, b1, b2]) : 224 ≤ b0 ∧ b0 ≤ 239 ∧ 128 ≤ b1 ∧ b1 < 192 ∧ 128 ≤ b2 ∧ b2 < 192 ∧ c = 64 * (64 * (b0 % 16) + b1 % 64) + b2 % 64 := by
  rcases encC_ways c with h' | ⟨h1, h2, h'⟩ | ⟨h1, h2, h'⟩ | ⟨h1, h2, _, h'⟩ | ⟨h1, h2, h'⟩ <;> rw [h'] at h <;> simp at h
  omega
theorem encC_is4 (c b0 b1 b2 b3 : Int) (h : encC c = [b0, b1, b2, b3]) : 240 ≤ b0 ∧ b0 ≤ 244 ∧ 128 ≤ b1 ∧ b1 < 192 ∧ 128 ≤ b2 ∧ b2 < 192 ∧ 128 ≤ b3 ∧ b3 < 192 ∧ c = 64 * (64 * (64 * (b0 % 8) + b1 % 64) + b2 % 64) + b3 % 64 := by
  rcases encC_ways c with h' | ⟨h1, h2, h'⟩ | ⟨h1, h2, h'⟩ | ⟨h1, h2, _, h'⟩ | ⟨h1, h2, h'⟩ <;> rw [h'] at h <;> simp at h
  omega
/-- A rune's bytes, whatever stands behind them, begin with that rune. -/
theorem rune_of (c : Int) (t : List Int) (h : encC c ≠ []) : runeP (encC c ++ t) = encC c := by
  rcases encC_ways c with h' | ⟨h1, h2, h'⟩ | ⟨h1, h2, h'⟩ | ⟨h1, h2, h3, h'⟩ | ⟨h1, h2, h'⟩
  · exact absurd h' h
  · rw [h', List.singleton_append, runeP, if_pos h']
  · rw [h']
    have e : 64 * ((192 + c / 64) % 32) + (128 + c % 64) % 64 = c := by omega
    rw [List.cons_append, List.cons_append, List.nil_append, runeP, if_neg (encC_ne1 _ _ (by omega)), runeP2, e, if_pos h']
  · rw [h']
    have e : 64 * (64 * ((224 + c / 4096) % 16) + (128 + c / 64 % 64) % 64) + (128 + c % 64) % 64 = c := by omega
    rw [List.cons_append, List.cons_append, List.cons_append, List.nil_append, runeP, if_neg (encC_ne1 _ _ (by omega)), runeP2, if_neg (fun hq => by have := encC_is2 _ _ _ hq; omega), runeP3, e, if_pos h']
  · rw [h']
    have e : 64 * (64 * (64 * ((240 + c / 262144) % 8) + (128 + c / 4096 % 64) % 64) + (128 + c / 64 % 64) % 64) + (128 + c % 64) % 64 = c := by omega
    rw [List.cons_append, List.cons_append, List.cons_append, List.cons_append, List.nil_append, runeP, if_neg (encC_ne1 _ _ (by omega)), runeP2, if_neg (fun hq => by have := encC_is2 _ _ _ hq; omega), runeP3, if_neg (fun hq => by have := encC_is3 _ _ _ _ hq; omega), runeP4, e, if_pos h']
/-- A rune that is told stands there. -/
theorem rune_is (l : List Int) (h : runeP l ≠ []) : ∃ c t, encC c = runeP l ∧ l = runeP l ++ t := by
  cases l with
  | nil => exact absurd rfl h
  | cons b0 t =>
    rw [runeP] at h ⊢
    split
    · exact ⟨b0, t, by assumption, rfl⟩
    rename_i n0
    rw [if_neg n0] at h
    cases t with
    | nil => exact absurd rfl h
    | cons b1 t =>
      rw [runeP2] at h ⊢
      split
      · exact ⟨_, t, by assumption, rfl⟩
      rename_i n1
      rw [if_neg n1] at h
      cases t with
      | nil => exact absurd rfl h
      | cons b2 t =>
        rw [runeP3] at h ⊢
        split
        · exact ⟨_, t, by assumption, rfl⟩
        rename_i n2
        rw [if_neg n2] at h
        cases t with
        | nil => exact absurd rfl h
        | cons b3 t =>
          rw [runeP4] at h ⊢
          split
          · exact ⟨_, t, by assumption, rfl⟩
          rename_i n3
          rw [if_neg n3] at h
          exact absurd rfl h
theorem rune_len (l : List Int) : (runeP l).length ≤ l.length ∧ (runeP l).length ≤ 4 := by
  by_cases h : runeP l = []
  · rw [h]; simp
  · obtain ⟨c, t, h1, h2⟩ := rune_is l h
    refine ⟨?_, by rw [← h1]; exact encC_len c⟩
    have := congrArg List.length h2
    rw [List.length_append] at this
    omega
theorem rune_take (l : List Int) (h : runeP l ≠ []) : l.take (runeP l).length = runeP l := by
  obtain ⟨c, t, h1, h2⟩ := rune_is l h
  have e := congrArg (List.take (runeP l).length) h2
  rw [List.take_left' rfl] at e
  exact e
/-- Valid texts: runes, one behind the other. -/
inductive Val : List Int → Nat → Prop
  | nil : Val [] 0
  | cons (c : Int) (l : List Int) (n : Nat) : encC c ≠ [] → Val l n → Val (encC c ++ l) (n + 1)
/-- How many runes; -1, if it is not valid. -/
def countF : Nat → List Int → Int
  | 0, l => if l = [] then 0 else -1
  | f + 1, l => if l = [] then 0 else if runeP l = [] then -1 else if countF f (l.drop (runeP l).length) < 0 then -1 else countF f (l.drop (runeP l).length) + 1
def countP (l : List Int) : Int := countF l.length l
theorem countF_ge : ∀ (f : Nat) (l : List Int), -1 ≤ countF f l
  | 0, l => by rw [countF]; split <;> omega
  | f + 1, l => by
    have := countF_ge f (l.drop (runeP l).length)
    rw [countF]
    split
    · omega
    split
    · omega
    split <;> omega
theorem val_head {l : List Int} {n : Nat} (h : Val l n) (hl : l ≠ []) : ∃ c m k, encC c ≠ [] ∧ l = encC c ++ m ∧ n = k + 1 ∧ Val m k := by
  cases h with
  | nil => exact absurd rfl hl
  | cons c m k h1 h2 => exact ⟨c, m, k, h1, rfl, rfl, h2⟩
theorem val_count : ∀ (f : Nat) (l : List Int) (n : Nat), l.length ≤ f → Val l n → countF f l = n
  | 0, l, n, hf, h => by
    have : l = [] := List.eq_nil_of_length_eq_zero (by omega)
    subst this
    cases hn : n with
    | zero => rfl
    | succ k =>
      subst hn
      generalize hl : ([] : List Int) = l at h
      cases h with
      | cons c m k h1 h2 => rcases List.append_eq_nil_iff.1 hl.symm with ⟨h3, _⟩; exact absurd h3 h1
  | f + 1, l, n, hf, h => by
    by_cases hl : l = []
    · subst hl
      rw [countF, if_pos rfl]
      generalize hl : ([] : List Int) = l at h
      cases h with
      | nil => rfl
      | cons c m k h1 h2 => rcases List.append_eq_nil_iff.1 hl.symm with ⟨h3, _⟩; exact absurd h3 h1
    · obtain ⟨c, m, k, h1, rfl, rfl, h2⟩ := val_head h hl
      rw [countF, if_neg hl, rune_of c m h1, if_neg h1, List.drop_left]
      have hp : 0 < (encC c).length := List.length_pos_iff.2 h1
      rw [List.length_append] at hf
      rw [val_count f m k (by omega) h2, if_neg (by omega)]
      push_cast
      rfl
theorem count_val : ∀ (f : Nat) (l : List Int), 0 ≤ countF f l → ∃ n, Val l n ∧ countF f l = n
  | 0, l, h => by
    rw [countF] at h ⊢
    split at h
    · rename_i hl; subst hl; exact ⟨0, .nil, rfl⟩
    · omega
  | f + 1, l, h => by
    rw [countF] at h ⊢
    by_cases hl : l = []
    · subst hl; rw [if_pos rfl]; exact ⟨0, .nil, rfl⟩
    rw [if_neg hl] at h ⊢
    by_cases hr : runeP l = []
    · rw [if_pos hr] at h; omega
    rw [if_neg hr] at h ⊢
    split at h
    · omega
    rename_i hc
    obtain ⟨n, h1, h2⟩ := count_val f (l.drop (runeP l).length) (by omega)
    rw [if_neg hc, h2]
    obtain ⟨c, t, h3, h4⟩ := rune_is l hr
    refine ⟨n + 1, ?_, by push_cast; rfl⟩
    have h5 : l.drop (runeP l).length = t := by
      have e := congrArg (List.drop (runeP l).length) h4
      rw [List.drop_left' rfl] at e
      exact e
    rw [h5] at h1
    rw [h4, ← h3]
    exact .cons c t n (by rw [h3]; exact hr) h1
theorem count_is {l : List Int} {n : Nat} (h : Val l n) : countP l = n := val_count _ l n (Nat.le_refl _) h
theorem count_of {l : List Int} (h : 0 ≤ countP l) : ∃ n, Val l n ∧ countP l = n := count_val l.length l h
theorem count_no {l : List Int} (h : countP l < 0) : countP l = -1 := by have := countF_ge l.length l; unfold countP at h ⊢; omega
theorem val_append {l m : List Int} {n k : Nat} (h : Val l n) (h' : Val m k) : Val (l ++ m) (n + k) := by
  induction h with
  | nil => rw [Nat.zero_add]; exact h'
  | cons c l n h1 h2 ih => rw [List.append_assoc, show n + 1 + k = (n + k) + 1 by omega]; exact .cons c _ _ h1 ih
theorem val_len {l : List Int} {n : Nat} (h : Val l n) : n ≤ l.length := by
  induction h with
  | nil => simp
  | cons c l n h1 h2 ih =>
    have : 0 < (encC c).length := List.length_pos_iff.2 h1
    rw [List.length_append]
    omega
end Go.Proofs.YtbkceneakdbdkaaGreatDoor
/- Plain: texts in quotes, laid and taken; a valid text comes back; what is taken hangs on its own bytes alone. -/
namespace Go.Proofs.YtbkceneakdbdkaaGreatDoor
set_option maxRecDepth 20000
set_option linter.unusedVariables false
set_option linter.unusedSimpArgs false
/-- A digit of 16. -/
def hexP (d : Int) : Int := if d < 10 then 48 + d else 87 + d
/-- What Quote lays for a byte below 128. -/
def markP (c : Int) : List Int :=
  if c = 34 then [92, 34] else if c = 92 then [92, 92] else if c = 8 then [92, 98] else if c = 9 then [92, 116] else if c = 10 then [92, 110] else if c = 12 then [92, 102] else if c = 13 then [92, 114]
  else if c < 32 then [92, 117, 48, 48, hexP (c / 16), hexP (c % 16)] else [c]
def byteQ (b : Int) : List Int := if b < 128 then markP b else [b]
def quoteB (l : List Int) : List Int := l.flatMap byteQ
def quoteP (l : List Int) : List Int × Int := if countP l < 0 then ([], 4) else (34 :: quoteB l ++ [34], 0)
/-- What a digit of 16 counts; -1: it is none. -/
def digP (c : Int) : Int := if 48 ≤ c ∧ c ≤ 57 then c - 48 else if 97 ≤ c ∧ c ≤ 102 then c - 87 else if 65 ≤ c ∧ c ≤ 70 then c - 55 else -1
/-- Whether the i-th byte of a mark of four digits may not be so. -/
def badF (i : Nat) (b : Int) : Prop := (i = 0 ∧ b ≠ 92) ∨ (i = 1 ∧ b ≠ 117) ∨ (1 < i ∧ digP b < 0)
instance (i : Nat) (b : Int) : Decidable (badF i b) := by unfold badF; infer_instance
/-- The code of a mark of four digits, from its i-th byte on (f bytes are left). -/
def fourG : Nat → Nat → Int → List Int → Int × Int
  | 0, _, c, _ => (c, 0)
  | _ + 1, _, _, [] => (0, 3)
  | f + 1, i, c, b :: t => if badF i b then (0, 4) else fourG f (i + 1) (if 1 < i then 16 * c + digP b else c) t
def fourP (l : List Int) : Int × Int := fourG 6 0 0 l
/-- What the second byte of a mark of two bytes stands for. -/
def twoP (b : Int) : Option Int :=
  if b = 34 then some 34 else if b = 92 then some 92 else if b = 47 then some 47 else if b = 98 then some 8 else if b = 102 then some 12 else if b = 110 then some 10 else if b = 114 then some 13 else if b = 116 then some 9 else none
/-- What is got of the bytes ahead. -/
inductive St
  | short
  | form
  | fin
  | piece (t : List Int) (n : Nat)
deriving DecidableEq
def badE (e : Int) : St := if e = 3 then .short else .form
/-- The mark, or the pair of marks, with which bytes begin. -/
def escP (l : List Int) : St :=
  match l with
  | _ :: b :: _ => match twoP b with
    | some x => .piece [x] 2
    | none => if (fourP l).2 ≠ 0 then badE (fourP l).2 else if (fourP l).1 < 55296 ∨ 57343 < (fourP l).1 then .piece (encC (fourP l).1) 6 else if 56319 < (fourP l).1 then .form else
      if (fourP (l.drop 6)).2 ≠ 0 then badE (fourP (l.drop 6)).2 else if (fourP (l.drop 6)).1 < 56320 ∨ 57343 < (fourP (l.drop 6)).1 then .form
      else .piece (encC (65536 + 1024 * ((fourP l).1 - 55296) + (fourP (l.drop 6)).1 - 56320)) 12
  | _ => .short
def stepP : List Int → St
  | [] => .short
  | b :: t => if b = 34 then .fin else if b = 92 then escP (b :: t) else if runeP (b :: t) = [] ∨ b < 32 then .form else .piece (runeP (b :: t)) (runeP (b :: t)).length
def takeG : Nat → List Int → Nat → List Int → List Int × Nat × Int
  | 0, l, p, _ => ([], p + l.length, 3)
  | f + 1, l, p, out => match stepP l with
    | .short => ([], p + l.length, 3)
    | .form => ([], p, 4)
    | .fin => (out, p + 1, 0)
    | .piece t n => takeG f (l.drop n) (p + n) (out ++ t)
def takeP (l : List Int) (at_ : Int) : List Int × Nat × Int :=
  if at_ < 0 ∨ (l.length : Int) < at_ then ([], 0, 2) else if at_ = l.length then ([], at_.toNat, 3) else if l.getD at_.toNat 0 ≠ 34 then ([], at_.toNat, 4)
  else takeG l.length (l.drop (at_.toNat + 1)) (at_.toNat + 1) []
def unqP (l : List Int) : List Int × Int := if (takeP l 0).2.2 ≠ 0 then ([], (takeP l 0).2.2) else if (takeP l 0).2.1 < l.length then ([], 4) else ((takeP l 0).1, 0)
/-! ### Four digits -/
theorem four_ok : ∀ (f i : Nat) (c : Int) (l : List Int), (fourG f i c l).2 = 0 → f ≤ l.length
  | 0, _, _, _, _ => Nat.zero_le _
  | f + 1, i, c, [], h => by rw [fourG] at h; cases h
  | f + 1, i, c, b :: t, h => by
    rw [fourG] at h
    split at h
    · cases h
    · have := four_ok f _ _ t h
      rw [List.length_cons]
      omega
theorem four_err : ∀ (f i : Nat) (c : Int) (l : List Int), (fourG f i c l).2 = 0 ∨ (fourG f i c l).2 = 3 ∨ (fourG f i c l).2 = 4
  | 0, _, _, _ => .inl rfl
  | f + 1, i, c, [] => .inr (.inl rfl)
  | f + 1, i, c, b :: t => by
    rw [fourG]
    split
    · exact .inr (.inr rfl)
    · exact four_err f _ _ t
/-- It hangs on its own bytes alone. -/
theorem four_more : ∀ (f i : Nat) (c : Int) (l x : List Int), f ≤ l.length → fourG f i c (l.take f ++ x) = fourG f i c l
  | 0, _, _, _, _, _ => by rw [fourG, fourG]
  | f + 1, i, c, [], x, h => by simp at h
  | f + 1, i, c, b :: t, x, h => by
    rw [List.take_succ_cons, List.cons_append, fourG, fourG]
    rw [List.length_cons] at h
    split
    · rfl
    · exact four_more f _ _ t x (by omega)
/-- Cut ahead of its end it is not there. -/
theorem four_cut : ∀ (f i : Nat) (c : Int) (l : List Int), l.length < f → (fourG f i c l).2 = 3 ∨ (fourG f i c l).2 = 4
  | 0, _, _, _, h => by omega
  | f + 1, i, c, [], h => .inl rfl
  | f + 1, i, c, b :: t, h => by
    rw [fourG]
    rw [List.length_cons] at h
    split
    · exact .inr rfl
    · exact four_cut f _ _ t (by omega)
theorem dig_lt (c : Int) : digP c < 16 ∧ -1 ≤ digP c := by
  unfold digP
  split
  · omega
  split
  · omega
  split <;> omega
theorem four_val : ∀ (f i : Nat) (c : Int) (l : List Int), 0 ≤ c → (fourG f i c l).2 = 0 → 0 ≤ (fourG f i c l).1
  | 0, _, c, _, h0, _ => h0
  | f + 1, i, c, [], h0, h => by rw [fourG] at h; cases h
  | f + 1, i, c, b :: t, h0, h => by
    rw [fourG] at h ⊢
    split at h
    · cases h
    · rename_i hb
      rw [if_neg hb]
      refine four_val f _ _ t ?_ h
      split
      · rename_i hi
        have : ¬ digP b < 0 := fun hd => hb (.inr (.inr ⟨hi, hd⟩))
        omega
      · exact h0
theorem four_bd : ∀ (f i : Nat) (c : Int) (l : List Int) (m : Int), 0 ≤ c → c < m → (fourG f i c l).2 = 0 → (fourG f i c l).1 < m * 16 ^ f
  | 0, _, c, _, m, h0, h1, _ => by rw [fourG]; omega
  | f + 1, i, c, [], m, h0, h1, h => by rw [fourG] at h; cases h
  | f + 1, i, c, b :: t, m, h0, h1, h => by
    rw [fourG] at h ⊢
    split at h
    · cases h
    · rename_i hb
      rw [if_neg hb]
      have hd := dig_lt b
      have e : m * 16 ^ (f + 1) = (16 * m) * 16 ^ f := by rw [Int.pow_succ]; rw [Int.mul_comm (16 ^ f) 16, ← Int.mul_assoc, Int.mul_comm m 16]
      rw [e]
      refine four_bd f _ _ t (16 * m) ?_ ?_ h
      · split
        · rename_i hi
          have : ¬ digP b < 0 := fun hd => hb (.inr (.inr ⟨hi, hd⟩))
          omega
        · exact h0
      · split <;> omega
theorem four_lt (l : List Int) (h : (fourP l).2 = 0) : 0 ≤ (fourP l).1 ∧ (fourP l).1 < 65536 := by
  refine ⟨four_val 6 0 0 l (by omega) h, ?_⟩
  unfold fourP at h ⊢
  match l, h with
  | [], h => rw [fourG] at h; cases h
  | [b], h =>
    rw [fourG] at h
    split at h
    · cases h
    · rw [fourG] at h; cases h
  | b :: b1 :: t, h =>
    rw [fourG] at h ⊢
    split at h
    · cases h
    rename_i h0
    rw [if_neg h0]
    rw [fourG] at h ⊢
    split at h
    · cases h
    rename_i h1
    rw [if_neg h1]
    have e0 : (if 1 < 0 + 1 then 16 * (if 1 < 0 then 16 * 0 + digP b else 0) + digP b1 else if 1 < 0 then 16 * 0 + digP b else 0) = 0 := by simp
    rw [e0] at h ⊢
    have := four_bd 4 (0 + 1 + 1) 0 t 1 (by omega) (by omega) h
    omega
theorem four_len {l : List Int} (h : (fourP l).2 = 0) : 6 ≤ l.length := four_ok 6 0 0 l h
/-! ### One thing -/
theorem badE_short (e : Int) : badE e = .short ∨ badE e = .form := by
  unfold badE
  split
  · exact .inl rfl
  · exact .inr rfl
theorem two_val {b x : Int} (h : twoP b = some x) : encC x = [x] ∧ 0 ≤ x ∧ x < 128 := by
  unfold twoP at h
  repeat' (split at h)
  all_goals first | (cases h; done) | (injection h with h; subst h; exact ⟨by decide, by omega, by omega⟩)
theorem esc_of (a b : Int) (t : List Int) : escP (a :: b :: t) = match twoP b with
    | some x => .piece [x] 2
    | none => if (fourP (a :: b :: t)).2 ≠ 0 then badE (fourP (a :: b :: t)).2 else if (fourP (a :: b :: t)).1 < 55296 ∨ 57343 < (fourP (a :: b :: t)).1 then .piece (encC (fourP (a :: b :: t)).1) 6 else if 56319 < (fourP (a :: b :: t)).1 then .form else
      if (fourP ((a :: b :: t).drop 6)).2 ≠ 0 then badE (fourP ((a :: b :: t).drop 6)).2 else if (fourP ((a :: b :: t).drop 6)).1 < 56320 ∨ 57343 < (fourP ((a :: b :: t).drop 6)).1 then .form
      else .piece (encC (65536 + 1024 * ((fourP (a :: b :: t)).1 - 55296) + (fourP ((a :: b :: t).drop 6)).1 - 56320)) 12 := rfl
/-- What a piece is: the bytes of a rune; so many bytes were there; whatever stands behind them; and with fewer of them it is none. -/
structure PieceOk (l : List Int) (t : List Int) (n : Nat) : Prop where
  one : 1 ≤ n
  len : n ≤ l.length
  rune : ∃ c, encC c = t
  ne : t ≠ []
  more : ∀ x, stepP (l.take n ++ x) = .piece t n
  cut : ∀ k, k < n → stepP (l.take k) = .short ∨ stepP (l.take k) = .form
theorem step_nil : stepP [] = .short := rfl
theorem step_esc (t : List Int) : stepP (92 :: t) = escP (92 :: t) := rfl
theorem esc_one (a : Int) : escP [a] = .short := rfl
theorem esc_cut (b : Int) (t : List Int) (h : twoP b = none) (hf : (fourP (92 :: b :: t)).2 = 3 ∨ (fourP (92 :: b :: t)).2 = 4) : escP (92 :: b :: t) = .short ∨ escP (92 :: b :: t) = .form := by
  rw [esc_of, h]
  simp only
  rw [if_pos (by omega)]
  exact badE_short _
theorem take_lt_len {l : List Int} {k : Nat} (h : k ≤ l.length) : (l.take k).length = k := by rw [List.length_take]; omega
theorem piece_esc (b : Int) (s : List Int) (t : List Int) (n : Nat) (h : escP (92 :: b :: s) = .piece t n) : PieceOk (92 :: b :: s) t n := by
  rw [esc_of] at h
  cases h2 : twoP b with
  | some x =>
    rw [h2] at h
    simp only at h
    injection h with h3 h4
    subst h3 h4
    obtain ⟨e1, e2, e3⟩ := two_val h2
    refine ⟨by omega, by simp, ⟨x, e1⟩, by simp, fun y => ?_, fun k hk => ?_⟩
    · show escP (92 :: b :: ([] ++ y)) = _
      rw [esc_of, h2]
    · match k, hk with
      | 0, _ => exact .inl rfl
      | 1, _ => exact .inl rfl
  | none =>
    rw [h2] at h
    simp only at h
    by_cases h3 : (fourP (92 :: b :: s)).2 = 0
    · rw [if_neg (by simpa using h3)] at h
      have l6 := four_len h3
      have hv := four_lt _ h3
      have cut6 : ∀ k, k < 6 → stepP ((92 :: b :: s).take k) = .short ∨ stepP ((92 :: b :: s).take k) = .form := by
        intro k hk
        match k, hk with
        | 0, _ => exact .inl rfl
        | 1, _ => exact .inl rfl
        | k + 2, hk =>
          rw [List.take_succ_cons, List.take_succ_cons, step_esc]
          refine esc_cut b _ h2 ?_
          refine four_cut 6 0 0 _ ?_
          simp only [List.length_cons, List.length_take]
          omega
      have more6 : ∀ y, fourP ((92 :: b :: s).take 6 ++ y) = fourP (92 :: b :: s) := fun y => four_more 6 0 0 _ y l6
      by_cases h4 : (fourP (92 :: b :: s)).1 < 55296 ∨ 57343 < (fourP (92 :: b :: s)).1
      · rw [if_pos h4] at h
        injection h with h5 h6
        subst h5 h6
        refine ⟨by omega, l6, ⟨_, rfl⟩, fun e => ?_, fun y => ?_, cut6⟩
        · have := (encC_nil _).1 e
          omega
        · have hm := more6 y
          rw [List.take_succ_cons, List.take_succ_cons, List.cons_append, List.cons_append] at hm ⊢
          rw [step_esc, esc_of, h2]
          simp only
          rw [hm, if_neg (by simpa using h3), if_pos h4]
      · rw [if_neg h4] at h
        by_cases h5 : 56319 < (fourP (92 :: b :: s)).1
        · rw [if_pos h5] at h; cases h
        rw [if_neg h5] at h
        by_cases h6 : (fourP ((92 :: b :: s).drop 6)).2 = 0
        · rw [if_neg (by simpa using h6)] at h
          by_cases h7 : (fourP ((92 :: b :: s).drop 6)).1 < 56320 ∨ 57343 < (fourP ((92 :: b :: s).drop 6)).1
          · rw [if_pos h7] at h; cases h
          rw [if_neg h7] at h
          injection h with h8 h9
          subst h8 h9
          have l12 := four_len h6
          rw [List.length_drop] at l12
          refine ⟨by omega, by omega, ⟨_, rfl⟩, fun e => ?_, fun y => ?_, fun k hk => ?_⟩
          · have := (encC_nil _).1 e
            omega
          · have e12 : (92 :: b :: s).take 12 ++ y = (92 :: b :: s).take 6 ++ (((92 :: b :: s).drop 6).take 6 ++ y) := by
              rw [← List.append_assoc]
              congr 1
              rw [show (12 : Nat) = 6 + 6 from rfl, List.take_add]
            have hm := more6 (((92 :: b :: s).drop 6).take 6 ++ y)
            rw [← e12] at hm
            have hd : ((92 :: b :: s).take 12 ++ y).drop 6 = ((92 :: b :: s).drop 6).take 6 ++ y := by
              rw [e12]
              exact List.drop_left' (take_lt_len l6)
            have hm2 : fourP (((92 :: b :: s).take 12 ++ y).drop 6) = fourP ((92 :: b :: s).drop 6) := by
              rw [hd]
              exact four_more 6 0 0 _ y (by rw [List.length_drop]; omega)
            rw [List.take_succ_cons, List.take_succ_cons, List.cons_append, List.cons_append] at hm hm2 ⊢
            rw [step_esc, esc_of, h2]
            simp only
            rw [hm, hm2, if_neg (by simpa using h3), if_neg h4, if_neg h5, if_neg (by simpa using h6), if_neg h7]
          · by_cases hk6 : k < 6
            · exact cut6 k hk6
            · have e12 : (92 :: b :: s).take k = (92 :: b :: s).take 6 ++ ((92 :: b :: s).drop 6).take (k - 6) := by
                conv => lhs; rw [show k = 6 + (k - 6) by omega, List.take_add]
              have hm := more6 (((92 :: b :: s).drop 6).take (k - 6))
              rw [← e12] at hm
              have hd : ((92 :: b :: s).take k).drop 6 = ((92 :: b :: s).drop 6).take (k - 6) := by
                rw [e12]
                exact List.drop_left' (take_lt_len l6)
              have hc : (fourP (((92 :: b :: s).take k).drop 6)).2 = 3 ∨ (fourP (((92 :: b :: s).take k).drop 6)).2 = 4 := by
                rw [hd]
                refine four_cut 6 0 0 _ ?_
                rw [List.length_take]
                omega
              obtain ⟨j, rfl⟩ : ∃ j, k = j + 2 := ⟨k - 2, by omega⟩
              rw [List.take_succ_cons, List.take_succ_cons] at hm hc ⊢
              rw [step_esc, esc_of, h2]
              simp only
              rw [hm, if_neg (by simpa using h3), if_neg h4, if_neg h5, if_pos (by omega)]
              exact badE_short _
        · rw [if_pos h6] at h
          rcases badE_short (fourP ((92 :: b :: s).drop 6)).2 with e | e <;> rw [e] at h <;> cases h
    · rw [if_pos h3] at h
      rcases badE_short (fourP (92 :: b :: s)).2 with e | e <;> rw [e] at h <;> cases h
/-- A rune whose bytes are cut is none. -/
theorem rune_cut (c : Int) (k : Nat) (hk : k < (encC c).length) : runeP ((encC c).take k) = [] := by
  by_cases h : runeP ((encC c).take k) = []
  · exact h
  exfalso
  obtain ⟨d, t, h1, h2⟩ := rune_is _ h
  have e : encC c = encC d ++ (t ++ (encC c).drop k) := by
    conv => lhs; rw [← List.take_append_drop k (encC c), h2, ← h1, List.append_assoc]
  have hd : encC d ≠ [] := by rw [h1]; exact h
  have hr := rune_of d (t ++ (encC c).drop k) hd
  rw [← e] at hr
  have hc : encC c ≠ [] := by intro e; rw [e] at hk; simp at hk
  have hr2 := rune_of c [] hc
  rw [List.append_nil] at hr2
  rw [hr2] at hr
  have h3 := congrArg List.length e
  have h4 := congrArg List.length hr
  have h5 : ((encC c).drop k).length = (encC c).length - k := List.length_drop
  rw [List.length_append, List.length_append] at h3
  omega
theorem enc_head (c b : Int) (t : List Int) (h : encC c = b :: t) : (b < 128 → t = []) ∧ (128 ≤ b → ∀ x ∈ b :: t, 128 ≤ x) := by
  rcases encC_ways c with h' | ⟨h1, h2, h'⟩ | ⟨h1, h2, h'⟩ | ⟨h1, h2, _, h'⟩ | ⟨h1, h2, h'⟩ <;> rw [h'] at h <;> simp at h
  · obtain ⟨rfl, rfl⟩ := h; exact ⟨fun _ => rfl, fun hb => by omega⟩
  · obtain ⟨rfl, rfl⟩ := h; exact ⟨fun _ => by omega, fun hb x hx => by simp at hx; omega⟩
  · obtain ⟨rfl, rfl⟩ := h; exact ⟨fun _ => by omega, fun hb x hx => by simp at hx; omega⟩
  · obtain ⟨rfl, rfl⟩ := h; exact ⟨fun _ => by omega, fun hb x hx => by simp at hx; omega⟩
theorem step_piece (l : List Int) (t : List Int) (n : Nat) (h : stepP l = .piece t n) : PieceOk l t n := by
  cases l with
  | nil => cases h
  | cons b s =>
    rw [stepP] at h
    by_cases h1 : b = 34
    · rw [if_pos h1] at h; cases h
    rw [if_neg h1] at h
    by_cases h2 : b = 92
    · rw [if_pos h2] at h
      subst h2
      cases s with
      | nil => cases h
      | cons b1 s => exact piece_esc b1 s t n h
    rw [if_neg h2] at h
    by_cases h3 : runeP (b :: s) = [] ∨ b < 32
    · rw [if_pos h3] at h; cases h
    rw [if_neg h3] at h
    injection h with h4 h5
    subst h4 h5
    have hne : runeP (b :: s) ≠ [] := fun e => h3 (.inl e)
    obtain ⟨c, u, e1, e2⟩ := rune_is _ hne
    obtain ⟨r, hr⟩ : ∃ r, encC c = b :: r := by
      cases hc : encC c with
      | nil => rw [← e1] at hne; exact absurd hc hne
      | cons x r =>
        rw [← e1, hc, List.cons_append] at e2
        injection e2 with e3 _
        exact ⟨r, by rw [e3]⟩
    have htk := rune_take _ hne
    refine ⟨?_, (rune_len _).1, ⟨c, e1⟩, hne, fun x => ?_, fun k hk => ?_⟩
    · have := List.length_pos_iff.2 hne; omega
    · rw [htk, ← e1, hr, List.cons_append, stepP, if_neg h1, if_neg h2, ← List.cons_append, ← hr, rune_of c x (by rw [e1]; exact hne), if_neg (by rw [hr]; intro hq; rcases hq with hq | hq; cases hq; exact h3 (.inr hq))]
    · have hkl : (b :: s).take k = (encC c).take k := by
        rw [e1, ← htk, List.take_take, Nat.min_eq_left (by omega)]
      rw [hkl]
      have hrc := rune_cut c k (by rw [e1]; exact hk)
      cases k with
      | zero => exact .inl rfl
      | succ k =>
        rw [hr, List.take_succ_cons] at hrc ⊢
        right
        rw [stepP, if_neg h1, if_neg h2, if_pos (.inl hrc)]
end Go.Proofs.YtbkceneakdbdkaaGreatDoor
/- Plain: what Take tells of quotes; cut, with other bytes behind; a valid text comes back. -/
namespace Go.Proofs.YtbkceneakdbdkaaGreatDoor
set_option maxRecDepth 20000
set_option linter.unusedVariables false
set_option linter.unusedSimpArgs false
theorem step_34 (x : List Int) : stepP (34 :: x) = .fin := by rw [stepP, if_pos rfl]
theorem takeG_step (f : Nat) (l : List Int) (p : Nat) (out : List Int) : takeG (f + 1) l p out = match stepP l with
    | .short => ([], p + l.length, 3)
    | .form => ([], p, 4)
    | .fin => (out, p + 1, 0)
    | .piece t n => takeG f (l.drop n) (p + n) (out ++ t) := rfl
/-- As much fuel as there are bytes is enough. -/
theorem takeG_fuel : ∀ (f g : Nat) (l : List Int) (p : Nat) (out : List Int), l.length ≤ f → l.length ≤ g → takeG f l p out = takeG g l p out
  | 0, 0, _, _, _, _, _ => rfl
  | 0, g + 1, l, p, out, hf, _ => by
    obtain rfl : l = [] := List.eq_nil_of_length_eq_zero (by omega)
    rfl
  | f + 1, 0, l, p, out, _, hg => by
    obtain rfl : l = [] := List.eq_nil_of_length_eq_zero (by omega)
    rfl
  | f + 1, g + 1, l, p, out, hf, hg => by
    rw [takeG_step, takeG_step]
    cases hs : stepP l with
    | short => rfl
    | form => rfl
    | fin => rfl
    | piece t n =>
      have hp := step_piece l t n hs
      have h1 := hp.one
      have h2 := hp.len
      exact takeG_fuel f g _ _ _ (by rw [List.length_drop]; omega) (by rw [List.length_drop]; omega)
/-- Where it is wrong there is no text, and a place within. -/
theorem takeG_bad : ∀ (f : Nat) (l : List Int) (p : Nat) (out : List Int), l.length ≤ f → (takeG f l p out).2.2 ≠ 0 → (takeG f l p out).1 = [] ∧ (takeG f l p out).2.1 ≤ p + l.length ∧ ((takeG f l p out).2.2 = 3 → (takeG f l p out).2.1 = p + l.length)
  | 0, l, p, out, _, _ => ⟨rfl, Nat.le_refl _, fun _ => rfl⟩
  | f + 1, l, p, out, hf, h => by
    rw [takeG_step] at h ⊢
    cases hs : stepP l with
    | short => exact ⟨rfl, Nat.le_refl _, fun _ => rfl⟩
    | form => exact ⟨rfl, Nat.le_add_right _ _, fun e => by cases e⟩
    | fin => rw [hs] at h; exact absurd rfl h
    | piece t n =>
      rw [hs] at h
      have hp := step_piece l t n hs
      have h1 := hp.one
      have h2 := hp.len
      obtain ⟨a, b, c⟩ := takeG_bad f (l.drop n) (p + n) (out ++ t) (by rw [List.length_drop]; omega) h
      rw [List.length_drop] at b c
      refine ⟨a, by simp only; omega, fun e => ?_⟩
      have := c e
      simp only
      omega
theorem step_fin {l : List Int} (h : stepP l = .fin) : ∃ t, l = 34 :: t := by
  cases l with
  | nil => cases h
  | cons b s =>
    rw [stepP] at h
    by_cases h1 : b = 34
    · exact ⟨s, by rw [h1]⟩
    rw [if_neg h1] at h
    by_cases h2 : b = 92
    · rw [if_pos h2] at h
      subst h2
      cases s with
      | nil => cases h
      | cons b1 s =>
        rw [esc_of] at h
        split at h
        · cases h
        split at h
        · rcases badE_short (fourP (92 :: b1 :: s)).2 with e | e <;> rw [e] at h <;> cases h
        split at h
        · cases h
        split at h
        · cases h
        split at h
        · rcases badE_short (fourP ((92 :: b1 :: s).drop 6)).2 with e | e <;> rw [e] at h <;> cases h
        split at h <;> cases h
    rw [if_neg h2] at h
    split at h <;> cases h
/-- What was taken: so many bytes of what was there; runes; the same with other bytes behind; cut anywhere it is not ended. -/
theorem takeG_good : ∀ (f : Nat) (l : List Int) (p : Nat) (out : List Int), l.length ≤ f → (takeG f l p out).2.2 = 0 →
    ∃ n t k, (takeG f l p out) = (out ++ t, p + n, 0) ∧ 1 ≤ n ∧ n ≤ l.length ∧ Val t k ∧ (∀ x g, (l.take n ++ x).length ≤ g → takeG g (l.take n ++ x) p out = (out ++ t, p + n, 0)) ∧
      (∀ j g, j < n → (l.take j).length ≤ g → (takeG g (l.take j) p out).1 = [] ∧ ((takeG g (l.take j) p out).2.2 = 3 ∧ (takeG g (l.take j) p out).2.1 = p + j ∨ (takeG g (l.take j) p out).2.2 = 4))
  | 0, l, p, out, _, h => by cases h
  | f + 1, l, p, out, hf, h => by
    rw [takeG_step] at h ⊢
    cases hs : stepP l with
    | short => rw [hs] at h; cases h
    | form => rw [hs] at h; cases h
    | fin =>
      obtain ⟨u, rfl⟩ := step_fin hs
      refine ⟨1, [], 0, by rw [List.append_nil], Nat.le_refl _, by simp, .nil, fun x g hg => ?_, fun j g hj hg => ?_⟩
      · cases g with
        | zero => simp at hg
        | succ g =>
          have e : List.take 1 (34 :: u) ++ x = 34 :: x := rfl
          rw [e, takeG_step, step_34, List.append_nil]
      · obtain rfl : j = 0 := by omega
        rw [List.take_zero]
        cases g with
        | zero => exact ⟨rfl, .inl ⟨rfl, rfl⟩⟩
        | succ g => exact ⟨rfl, .inl ⟨rfl, rfl⟩⟩
    | piece t n =>
      rw [hs] at h
      have hp := step_piece l t n hs
      have h1 := hp.one
      have h2 := hp.len
      obtain ⟨c, hc⟩ := hp.rune
      obtain ⟨m, u, k, e1, e2, e3, e4, e5, e6⟩ := takeG_good f (l.drop n) (p + n) (out ++ t) (by rw [List.length_drop]; omega) h
      rw [List.length_drop] at e3
      have hsplit : ∀ y, l.take (n + m) ++ y = l.take n ++ ((l.drop n).take m ++ y) := fun y => by rw [List.take_add, List.append_assoc]
      refine ⟨n + m, t ++ u, k + 1, by simp only; rw [e1, List.append_assoc, Nat.add_assoc], by omega, by omega, by rw [← hc]; exact .cons c u k (by rw [hc]; exact hp.ne) e4, fun x g hg => ?_, fun j g hj hg => ?_⟩
      · rw [hsplit] at hg ⊢
        cases g with
        | zero => rw [List.length_append, List.length_take] at hg; omega
        | succ g =>
          rw [takeG_step, hp.more]
          simp only
          rw [List.drop_left' (take_lt_len h2), e5 x g (by rw [List.length_append, take_lt_len h2] at hg; omega), List.append_assoc, Nat.add_assoc]
      · by_cases hjn : j < n
        · cases g with
          | zero =>
            rw [List.length_take] at hg
            obtain rfl : j = 0 := by omega
            exact ⟨rfl, .inl ⟨rfl, by simp [takeG]⟩⟩
          | succ g =>
            rw [takeG_step]
            rcases hp.cut j hjn with e | e <;> rw [e]
            · refine ⟨rfl, .inl ⟨rfl, ?_⟩⟩
              simp only
              rw [List.length_take]
              omega
            · exact ⟨rfl, .inr rfl⟩
        · have ej : l.take j = l.take n ++ (l.drop n).take (j - n) := by
            conv => lhs; rw [show j = n + (j - n) by omega, List.take_add]
          rw [ej] at hg ⊢
          cases g with
          | zero => rw [List.length_append, take_lt_len h2] at hg; omega
          | succ g =>
            rw [takeG_step, hp.more]
            simp only
            rw [List.drop_left' (take_lt_len h2)]
            have := e6 (j - n) g (by omega) (by rw [List.length_append, take_lt_len h2] at hg; omega)
            rw [show p + n + (j - n) = p + j by omega] at this
            exact this
/-! ### Quotes -/
theorem hex_byte (d : Int) (h : 0 ≤ d ∧ d < 16) : digP (hexP d) = d ∧ 48 ≤ hexP d ∧ hexP d < 128 := by
  unfold hexP digP
  split <;> (repeat' split) <;> omega
theorem mark_len (c : Int) : 1 ≤ (markP c).length := by
  unfold markP
  repeat' split
  all_goals simp
theorem mark_byte (c : Int) (h : 0 ≤ c) (h2 : c < 128) : ∀ b ∈ markP c, 32 ≤ b ∧ b < 128 := by
  intro b hb
  unfold markP at hb
  have h1 := hex_byte (c % 16) (by omega)
  repeat' (split at hb)
  all_goals simp at hb
  all_goals try omega
  rename_i h9
  have h3 := hex_byte (c / 16) (by omega)
  omega
/-- A byte's mark is taken as that byte. -/
theorem mark_step (c : Int) (h0 : 0 ≤ c) (h1 : c < 128) (x : List Int) : stepP (markP c ++ x) = .piece [c] (markP c).length := by
  have hone : encC c = [c] := by
    rcases encC_ways c with h' | ⟨_, _, h'⟩ | ⟨h2, _, h'⟩ | ⟨h2, _, _, h'⟩ | ⟨h2, _, h'⟩
    · have := (encC_nil c).1 h'; omega
    · exact h'
    all_goals omega
  unfold markP
  by_cases e1 : c = 34
  · rw [if_pos e1, e1]; rfl
  rw [if_neg e1]
  by_cases e2 : c = 92
  · rw [if_pos e2, e2]; rfl
  rw [if_neg e2]
  by_cases e3 : c = 8
  · rw [if_pos e3, e3]; rfl
  rw [if_neg e3]
  by_cases e4 : c = 9
  · rw [if_pos e4, e4]; rfl
  rw [if_neg e4]
  by_cases e5 : c = 10
  · rw [if_pos e5, e5]; rfl
  rw [if_neg e5]
  by_cases e6 : c = 12
  · rw [if_pos e6, e6]; rfl
  rw [if_neg e6]
  by_cases e7 : c = 13
  · rw [if_pos e7, e7]; rfl
  rw [if_neg e7]
  by_cases e8 : c < 32
  · rw [if_pos e8]
    have a1 := hex_byte (c / 16) (by omega)
    have a2 := hex_byte (c % 16) (by omega)
    have hf : fourP (92 :: 117 :: 48 :: 48 :: hexP (c / 16) :: hexP (c % 16) :: x) = (c, 0) := by
      have b0 : ¬ badF 0 92 := by decide
      have b1 : ¬ badF 1 117 := by decide
      have b2 : ¬ badF 2 48 := by decide
      have b3 : ¬ badF 3 48 := by decide
      have b4 : ¬ badF 4 (hexP (c / 16)) := by unfold badF; omega
      have b5 : ¬ badF 5 (hexP (c % 16)) := by unfold badF; omega
      unfold fourP
      rw [fourG, if_neg b0, fourG, if_neg b1, fourG, if_neg b2, fourG, if_neg b3, fourG, if_neg b4, fourG, if_neg b5, fourG]
      simp only [Prod.mk.injEq, and_true]
      have d48 : digP 48 = 0 := by decide
      rw [d48, a1.1, a2.1]
      simp
      omega
    show escP (92 :: 117 :: (48 :: 48 :: hexP (c / 16) :: hexP (c % 16) :: x)) = _
    rw [esc_of, show twoP 117 = none from by decide]
    simp only [List.cons_append, List.nil_append]
    rw [hf]
    simp only
    rw [if_neg (by simp), if_pos (by omega), hone]
    rfl
  · rw [if_neg e8, List.singleton_append, stepP, if_neg e1, if_neg e2]
    have hr : runeP (c :: x) = [c] := by have := rune_of c x (by rw [hone]; simp); rw [hone, List.singleton_append] at this; exact this
    rw [hr, if_neg (by simp; omega)]
theorem quoteB_append (a b : List Int) : quoteB (a ++ b) = quoteB a ++ quoteB b := by unfold quoteB; rw [List.flatMap_append]
theorem quoteB_high : ∀ (l : List Int), (∀ b ∈ l, 128 ≤ b) → quoteB l = l
  | [], _ => rfl
  | b :: l, h => by
    have h1 := h b (by simp)
    have e : quoteB (b :: l) = byteQ b ++ quoteB l := rfl
    rw [e, quoteB_high l (fun x hx => h x (by simp [hx]))]
    unfold byteQ
    rw [if_neg (by omega)]
    rfl
/-- A rune's quote is taken as that rune. -/
theorem quote_step (c : Int) (h : encC c ≠ []) (x : List Int) : stepP (quoteB (encC c) ++ x) = .piece (encC c) (quoteB (encC c)).length := by
  by_cases h1 : c < 128
  · have hone : encC c = [c] ∧ 0 ≤ c := by
      rcases encC_ways c with h' | ⟨h2, _, h'⟩ | ⟨h2, _, h'⟩ | ⟨h2, _, _, h'⟩ | ⟨h2, _, h'⟩
      · exact absurd h' h
      · exact ⟨h', h2⟩
      all_goals omega
    have e : quoteB (encC c) = markP c := by
      rw [hone.1]
      show byteQ c ++ [] = _
      rw [List.append_nil]
      unfold byteQ
      rw [if_pos h1]
    rw [e, mark_step c hone.2 h1, hone.1]
  · have hh := encC_high c (by omega)
    rw [quoteB_high _ hh]
    cases hc : encC c with
    | nil => exact absurd hc h
    | cons b t =>
      have hb : 128 ≤ b := hh b (by rw [hc]; simp)
      have hr := rune_of c x h
      rw [hc] at hr
      rw [List.cons_append, stepP, if_neg (by omega), if_neg (by omega), ← List.cons_append, hr, if_neg (by intro hq; rcases hq with hq | hq; cases hq; omega)]
theorem quoteB_byte {l : List Int} {n : Nat} (h : Val l n) : ∀ b ∈ quoteB l, 32 ≤ b ∧ b < 256 := by
  induction h with
  | nil => intro b hb; cases hb
  | cons c l n h1 h2 ih =>
    intro b hb
    rw [quoteB_append] at hb
    rcases List.mem_append.1 hb with hb | hb
    · obtain ⟨y, hy, hby⟩ := List.mem_flatMap.1 hb
      have hy2 := encC_byte c y hy
      unfold byteQ at hby
      split at hby
      · have := mark_byte y (by omega) (by assumption) b hby; omega
      · simp at hby; omega
    · exact ih b hb
/-- What is quoted is taken again. -/
theorem takeG_quote {l : List Int} {n : Nat} (h : Val l n) : ∀ (f p : Nat) (out x : List Int), (quoteB l ++ 34 :: x).length ≤ f → takeG f (quoteB l ++ 34 :: x) p out = (out ++ l, p + (quoteB l).length + 1, 0) := by
  induction h with
  | nil =>
    intro f p out x hf
    cases f with
    | zero => simp at hf
    | succ f =>
      have e : quoteB [] ++ 34 :: x = 34 :: x := rfl
      rw [e, takeG_step, step_34, List.append_nil]
      rfl
  | cons c l n h1 h2 ih =>
    intro f p out x hf
    have hp := quote_step c h1 (quoteB l ++ 34 :: x)
    have h3 := (step_piece _ _ _ hp).one
    rw [quoteB_append, List.append_assoc] at hf ⊢
    cases f with
    | zero => rw [List.length_append] at hf; omega
    | succ f =>
      rw [takeG_step, hp]
      simp only
      rw [List.drop_left, ih f _ _ x (by rw [List.length_append] at hf; omega), List.append_assoc, List.length_append]
      congr 2
      omega
end Go.Proofs.YtbkceneakdbdkaaGreatDoor
/- Plain: what the laws ask of Take and Unquote. -/
namespace Go.Proofs.YtbkceneakdbdkaaGreatDoor
set_option maxRecDepth 20000
set_option linter.unusedVariables false
set_option linter.unusedSimpArgs false
theorem takeP_in (l : List Int) (p : Nat) (t : List Int) (h : l.drop p = 34 :: t) (hp : p < l.length) : takeP l p = takeG l.length t (p + 1) [] := by
  unfold takeP
  have h1 : l.getD p 0 = 34 := by
    rw [List.getD_eq_getElem?_getD, List.getElem?_eq_getElem hp]
    rw [List.drop_eq_getElem_cons hp] at h
    injection h
  have h2 : l.drop (p + 1) = t := by
    rw [List.drop_eq_getElem_cons hp] at h
    injection h
  rw [if_neg (by omega), if_neg (by omega), Int.toNat_natCast, if_neg (by rw [h1]; simp), h2]
theorem take_quote {l : List Int} {n : Nat} (h : Val l n) (a b : List Int) : takeP (a ++ (34 :: quoteB l ++ [34]) ++ b) a.length = (l, a.length + (34 :: quoteB l ++ [34]).length, 0) := by
  have hd : (a ++ (34 :: quoteB l ++ [34]) ++ b).drop a.length = 34 :: (quoteB l ++ 34 :: b) := by
    rw [List.append_assoc, List.drop_left]
    simp
  rw [takeP_in _ a.length _ hd (by simp), takeG_quote h _ _ [] b (by simp; omega)]
  simp
  omega
theorem unq_quote {l : List Int} {n : Nat} (h : Val l n) : unqP (34 :: quoteB l ++ [34]) = (l, 0) := by
  have := take_quote h [] []
  rw [List.nil_append, List.append_nil] at this
  unfold unqP
  rw [show ((0 : Int)) = (([] : List Int).length : Int) from rfl, this]
  simp
theorem takeP_zero (l : List Int) : takeP l 0 = match l with
    | [] => ([], 0, 3)
    | b :: t => if b = 34 then takeG (t.length + 1) t 1 [] else ([], 0, 4) := by
  cases l with
  | nil => rfl
  | cons b t =>
    by_cases h : b = 34
    · subst h
      have := takeP_in (34 :: t) 0 t rfl (by simp)
      rw [show ((0 : Nat) : Int) = 0 from rfl] at this
      rw [this]
      simp
    · unfold takeP
      rw [if_neg (by simp; omega), if_neg (by simp; omega)]
      simp [h]
theorem take_bad (l : List Int) (h : (takeP l 0).2.2 ≠ 0) : (takeP l 0).1 = [] ∧ (takeP l 0).2.1 ≤ l.length ∧ ((takeP l 0).2.2 = 3 → (takeP l 0).2.1 = l.length) := by
  rw [takeP_zero] at h ⊢
  cases l with
  | nil => exact ⟨rfl, Nat.le_refl _, fun _ => rfl⟩
  | cons b t =>
    simp only at h ⊢
    by_cases hb : b = 34
    · rw [if_pos hb] at h ⊢
      obtain ⟨a, c, d⟩ := takeG_bad _ t 1 [] (by omega) h
      refine ⟨a, by rw [List.length_cons]; omega, fun e => ?_⟩
      have := d e
      rw [List.length_cons]
      omega
    · rw [if_neg hb]
      exact ⟨rfl, Nat.zero_le _, fun e => by cases e⟩
theorem take_good (l : List Int) (h : (takeP l 0).2.2 = 0) : (∃ k, Val (takeP l 0).1 k) ∧ 2 ≤ (takeP l 0).2.1 ∧ (takeP l 0).2.1 ≤ l.length ∧ (∀ x, takeP (l.take (takeP l 0).2.1 ++ x) 0 = takeP l 0) ∧
    ∀ j, j < (takeP l 0).2.1 → (takeP (l.take j) 0).1 = [] ∧ ((takeP (l.take j) 0).2.2 = 3 ∧ (takeP (l.take j) 0).2.1 = j ∨ (takeP (l.take j) 0).2.2 = 4) := by
  have hz := takeP_zero l
  cases l with
  | nil => rw [hz] at h; cases h
  | cons b t =>
    simp only at hz
    by_cases hb : b = 34
    · rw [if_pos hb] at hz
      subst hb
      rw [hz] at h ⊢
      obtain ⟨n, u, k, e1, e2, e3, e4, e5, e6⟩ := takeG_good _ t 1 [] (by omega) h
      rw [e1]
      simp only [List.nil_append] at e5 ⊢
      refine ⟨⟨k, e4⟩, by omega, by rw [List.length_cons]; omega, fun x => ?_, fun j hj => ?_⟩
      · rw [show 1 + n = n + 1 by omega, List.take_succ_cons, List.cons_append, takeP_zero]
        simp only
        rw [if_pos trivial, e5 x _ (by omega)]
        congr 2
        omega
      · cases j with
        | zero => rw [List.take_zero, takeP_zero]; exact ⟨rfl, .inl ⟨rfl, rfl⟩⟩
        | succ j =>
          rw [List.take_succ_cons, takeP_zero]
          simp only
          rw [if_pos trivial]
          have := e6 j ((t.take j).length + 1) (by omega) (by omega)
          rw [show 1 + j = j + 1 by omega] at this
          exact this
    · rw [if_neg hb] at hz
      rw [hz] at h
      cases h
theorem count_append {l m : List Int} (h : 0 ≤ countP l) (h' : 0 ≤ countP m) : countP (l ++ m) = countP l + countP m := by
  obtain ⟨n, h1, h2⟩ := count_of h
  obtain ⟨k, h3, h4⟩ := count_of h'
  rw [count_is (val_append h1 h3), h2, h4]
  push_cast
  rfl
theorem count_le (l : List Int) : countP l ≤ l.length := by
  by_cases h : 0 ≤ countP l
  · obtain ⟨n, h1, h2⟩ := count_of h
    have := val_len h1
    omega
  · omega
end Go.Proofs.YtbkceneakdbdkaaGreatDoor
