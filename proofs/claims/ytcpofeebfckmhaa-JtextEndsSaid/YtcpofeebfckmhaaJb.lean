/- Plain: texts in quotes, laid and taken; a valid text comes back; what is taken hangs on its own bytes alone. -/
import Derived.Test.YtcpofeebfckmhaaJa
namespace Go.Proofs.Ytcpofeebfckmhaa
set_option maxRecDepth 20000
set_option linter.unusedVariables false
set_option linter.unusedSimpArgs false
/-- A digit of 16. -/
def hexP (d : Int) : Int := if d < 10 then 48 + d else 87 + d
/-- What Quote lays for a byte below 128. -/
def markP (c : Int) : List Int :=
  if c = 34 then [92, 34] else if c = 92 then [92, 92] else if c = 8 then [92, 98] else if c = 9 then [92, 116] else if c = 10 then [92, 110] else if c = 12 then [92, 102] else if c = 13 then [92, 114]
  else if c < 32 then [92, 117, 48, 48, hexP (c / 16), hexP (c % 16)] else [c]
def byteQ (b : Int) : List Int := if b < 128 then markP b else [b]
def quoteB (l : List Int) : List Int := l.flatMap byteQ
def quoteP (l : List Int) : List Int × Int := if countP l < 0 then ([], 4) else (34 :: quoteB l ++ [34], 0)
/-- What a digit of 16 counts; -1: it is none. -/
def digP (c : Int) : Int := if 48 ≤ c ∧ c ≤ 57 then c - 48 else if 97 ≤ c ∧ c ≤ 102 then c - 87 else if 65 ≤ c ∧ c ≤ 70 then c - 55 else -1
/-- Whether the i-th byte of a mark of four digits may not be so. -/
def badF (i : Nat) (b : Int) : Prop := (i = 0 ∧ b ≠ 92) ∨ (i = 1 ∧ b ≠ 117) ∨ (1 < i ∧ digP b < 0)
instance (i : Nat) (b : Int) : Decidable (badF i b) := by unfold badF; infer_instance
/-- The code of a mark of four digits, from its i-th byte on (f bytes are left). -/
def fourG : Nat → Nat → Int → List Int → Int × Int
  | 0, _, c, _ => (c, 0)
  | _ + 1, _, _, [] => (0, 3)
  | f + 1, i, c, b :: t => if badF i b then (0, 4) else fourG f (i + 1) (if 1 < i then 16 * c + digP b else c) t
def fourP (l : List Int) : Int × Int := fourG 6 0 0 l
/-- What the second byte of a mark of two bytes stands for. -/
def twoP (b : Int) : Option Int :=
  if b = 34 then some 34 else if b = 92 then some 92 else if b = 47 then some 47 else if b = 98 then some 8 else if b = 102 then some 12 else if b = 110 then some 10 else if b = 114 then some 13 else if b = 116 then some 9 else none
/-- What is got of the bytes ahead. -/
inductive St
  | short
  | form
  | fin
  | piece (t : List Int) (n : Nat)
deriving DecidableEq
def badE (e : Int) : St := if e = 3 then .short else .form
/-- The mark, or the pair of marks, with which bytes begin. -/
def escP (l : List Int) : St :=
  match l with
  | _ :: b :: _ => match twoP b with
    | some x => .piece [x] 2
    | none => if (fourP l).2 ≠ 0 then badE (fourP l).2 else if (fourP l).1 < 55296 ∨ 57343 < (fourP l).1 then .piece (encC (fourP l).1) 6 else if 56319 < (fourP l).1 then .form else
      if (fourP (l.drop 6)).2 ≠ 0 then badE (fourP (l.drop 6)).2 else if (fourP (l.drop 6)).1 < 56320 ∨ 57343 < (fourP (l.drop 6)).1 then .form
      else .piece (encC (65536 + 1024 * ((fourP l).1 - 55296) + (fourP (l.drop 6)).1 - 56320)) 12
  | _ => .short
def stepP : List Int → St
  | [] => .short
  | b :: t => if b = 34 then .fin else if b = 92 then escP (b :: t) else if runeP (b :: t) = [] ∨ b < 32 then .form else .piece (runeP (b :: t)) (runeP (b :: t)).length
def takeG : Nat → List Int → Nat → List Int → List Int × Nat × Int
  | 0, l, p, _ => ([], p + l.length, 3)
  | f + 1, l, p, out => match stepP l with
    | .short => ([], p + l.length, 3)
    | .form => ([], p, 4)
    | .fin => (out, p + 1, 0)
    | .piece t n => takeG f (l.drop n) (p + n) (out ++ t)
def takeP (l : List Int) (at_ : Int) : List Int × Nat × Int :=
  if at_ < 0 ∨ (l.length : Int) < at_ then ([], 0, 2) else if at_ = l.length then ([], at_.toNat, 3) else if l.getD at_.toNat 0 ≠ 34 then ([], at_.toNat, 4)
  else takeG l.length (l.drop (at_.toNat + 1)) (at_.toNat + 1) []
def unqP (l : List Int) : List Int × Int := if (takeP l 0).2.2 ≠ 0 then ([], (takeP l 0).2.2) else if (takeP l 0).2.1 < l.length then ([], 4) else ((takeP l 0).1, 0)
/-! ### Four digits -/
theorem four_ok : ∀ (f i : Nat) (c : Int) (l : List Int), (fourG f i c l).2 = 0 → f ≤ l.length
  | 0, _, _, _, _ => Nat.zero_le _
  | f + 1, i, c, [], h => by rw [fourG] at h; cases h
  | f + 1, i, c, b :: t, h => by
    rw [fourG] at h
    split at h
    · cases h
    · have := four_ok f _ _ t h
      rw [List.length_cons]
      omega
theorem four_err : ∀ (f i : Nat) (c : Int) (l : List Int), (fourG f i c l).2 = 0 ∨ (fourG f i c l).2 = 3 ∨ (fourG f i c l).2 = 4
  | 0, _, _, _ => .inl rfl
  | f + 1, i, c, [] => .inr (.inl rfl)
  | f + 1, i, c, b :: t => by
    rw [fourG]
    split
    · exact .inr (.inr rfl)
    · exact four_err f _ _ t
/-- It hangs on its own bytes alone. -/
theorem four_more : ∀ (f i : Nat) (c : Int) (l x : List Int), f ≤ l.length → fourG f i c (l.take f ++ x) = fourG f i c l
  | 0, _, _, _, _, _ => by rw [fourG, fourG]
  | f + 1, i, c, [], x, h => by simp at h
  | f + 1, i, c, b :: t, x, h => by
    rw [List.take_succ_cons, List.cons_append, fourG, fourG]
    rw [List.length_cons] at h
    split
    · rfl
    · exact four_more f _ _ t x (by omega)
/-- Cut ahead of its end it is not there. -/
theorem four_cut : ∀ (f i : Nat) (c : Int) (l : List Int), l.length < f → (fourG f i c l).2 = 3 ∨ (fourG f i c l).2 = 4
  | 0, _, _, _, h => by omega
  | f + 1, i, c, [], h => .inl rfl
  | f + 1, i, c, b :: t, h => by
    rw [fourG]
    rw [List.length_cons] at h
    split
    · exact .inr rfl
    · exact four_cut f _ _ t (by omega)
theorem dig_lt (c : Int) : digP c < 16 ∧ -1 ≤ digP c := by
  unfold digP
  split
  · omega
  split
  · omega
  split <;> omega
theorem four_val : ∀ (f i : Nat) (c : Int) (l : List Int), 0 ≤ c → (fourG f i c l).2 = 0 → 0 ≤ (fourG f i c l).1
  | 0, _, c, _, h0, _ => h0
  | f + 1, i, c, [], h0, h => by rw [fourG] at h; cases h
  | f + 1, i, c, b :: t, h0, h => by
    rw [fourG] at h ⊢
    split at h
    · cases h
    · rename_i hb
      rw [if_neg hb]
      refine four_val f _ _ t ?_ h
      split
      · rename_i hi
        have : ¬ digP b < 0 := fun hd => hb (.inr (.inr ⟨hi, hd⟩))
        omega
      · exact h0
theorem four_bd : ∀ (f i : Nat) (c : Int) (l : List Int) (m : Int), 0 ≤ c → c < m → (fourG f i c l).2 = 0 → (fourG f i c l).1 < m * 16 ^ f
  | 0, _, c, _, m, h0, h1, _ => by rw [fourG]; omega
  | f + 1, i, c, [], m, h0, h1, h => by rw [fourG] at h; cases h
  | f + 1, i, c, b :: t, m, h0, h1, h => by
    rw [fourG] at h ⊢
    split at h
    · cases h
    · rename_i hb
      rw [if_neg hb]
      have hd := dig_lt b
      have e : m * 16 ^ (f + 1) = (16 * m) * 16 ^ f := by rw [Int.pow_succ]; rw [Int.mul_comm (16 ^ f) 16, ← Int.mul_assoc, Int.mul_comm m 16]
      rw [e]
      refine four_bd f _ _ t (16 * m) ?_ ?_ h
      · split
        · rename_i hi
          have : ¬ digP b < 0 := fun hd => hb (.inr (.inr ⟨hi, hd⟩))
          omega
        · exact h0
      · split <;> omega
theorem four_lt (l : List Int) (h : (fourP l).2 = 0) : 0 ≤ (fourP l).1 ∧ (fourP l).1 < 65536 := by
  refine ⟨four_val 6 0 0 l (by omega) h, ?_⟩
  unfold fourP at h ⊢
  match l, h with
  | [], h => rw [fourG] at h; cases h
  | [b], h =>
    rw [fourG] at h
    split at h
    · cases h
    · rw [fourG] at h; cases h
  | b :: b1 :: t, h =>
    rw [fourG] at h ⊢
    split at h
    · cases h
    rename_i h0
    rw [if_neg h0]
    rw [fourG] at h ⊢
    split at h
    · cases h
    rename_i h1
    rw [if_neg h1]
    have e0 : (if 1 < 0 + 1 then 16 * (if 1 < 0 then 16 * 0 + digP b else 0) + digP b1 else if 1 < 0 then 16 * 0 + digP b else 0) = 0 := by simp
    rw [e0] at h ⊢
    have := four_bd 4 (0 + 1 + 1) 0 t 1 (by omega) (by omega) h
    omega
theorem four_len {l : List Int} (h : (fourP l).2 = 0) : 6 ≤ l.length := four_ok 6 0 0 l h
/-! ### One thing -/
theorem badE_short (e : Int) : badE e = .short ∨ badE e = .form := by
  unfold badE
  split
  · exact .inl rfl
  · exact .inr rfl
theorem two_val {b x : Int} (h : twoP b = some x) : encC x = [x] ∧ 0 ≤ x ∧ x < 128 := by
  unfold twoP at h
  repeat' (split at h)
  all_goals first | (cases h; done) | (injection h with h; subst h; exact ⟨by decide, by omega, by omega⟩)
theorem esc_of (a b : Int) (t : List Int) : escP (a :: b :: t) = match twoP b with
    | some x => .piece [x] 2
    | none => if (fourP (a :: b :: t)).2 ≠ 0 then badE (fourP (a :: b :: t)).2 else if (fourP (a :: b :: t)).1 < 55296 ∨ 57343 < (fourP (a :: b :: t)).1 then .piece (encC (fourP (a :: b :: t)).1) 6 else if 56319 < (fourP (a :: b :: t)).1 then .form else
      if (fourP ((a :: b :: t).drop 6)).2 ≠ 0 then badE (fourP ((a :: b :: t).drop 6)).2 else if (fourP ((a :: b :: t).drop 6)).1 < 56320 ∨ 57343 < (fourP ((a :: b :: t).drop 6)).1 then .form
      else .piece (encC (65536 + 1024 * ((fourP (a :: b :: t)).1 - 55296) + (fourP ((a :: b :: t).drop 6)).1 - 56320)) 12 := rfl
/-- What a piece is: the bytes of a rune; so many bytes were there; whatever stands behind them; and with fewer of them it is none. -/
structure PieceOk (l : List Int) (t : List Int) (n : Nat) : Prop where
  one : 1 ≤ n
  len : n ≤ l.length
  rune : ∃ c, encC c = t
  ne : t ≠ []
  more : ∀ x, stepP (l.take n ++ x) = .piece t n
  cut : ∀ k, k < n → stepP (l.take k) = .short ∨ stepP (l.take k) = .form
theorem step_nil : stepP [] = .short := rfl
theorem step_esc (t : List Int) : stepP (92 :: t) = escP (92 :: t) := rfl
theorem esc_one (a : Int) : escP [a] = .short := rfl
theorem esc_cut (b : Int) (t : List Int) (h : twoP b = none) (hf : (fourP (92 :: b :: t)).2 = 3 ∨ (fourP (92 :: b :: t)).2 = 4) : escP (92 :: b :: t) = .short ∨ escP (92 :: b :: t) = .form := by
  rw [esc_of, h]
  simp only
  rw [if_pos (by omega)]
  exact badE_short _
theorem take_lt_len {l : List Int} {k : Nat} (h : k ≤ l.length) : (l.take k).length = k := by rw [List.length_take]; omega
theorem piece_esc (b : Int) (s : List Int) (t : List Int) (n : Nat) (h : escP (92 :: b :: s) = .piece t n) : PieceOk (92 :: b :: s) t n := by
  rw [esc_of] at h
  cases h2 : twoP b with
  | some x =>
    rw [h2] at h
    simp only at h
    injection h with h3 h4
    subst h3 h4
    obtain ⟨e1, e2, e3⟩ := two_val h2
    refine ⟨by omega, by simp, ⟨x, e1⟩, by simp, fun y => ?_, fun k hk => ?_⟩
    · show escP (92 :: b :: ([] ++ y)) = _
      rw [esc_of, h2]
    · match k, hk with
      | 0, _ => exact .inl rfl
      | 1, _ => exact .inl rfl
  | none =>
    rw [h2] at h
    simp only at h
    by_cases h3 : (fourP (92 :: b :: s)).2 = 0
    · rw [if_neg (by simpa using h3)] at h
      have l6 := four_len h3
      have hv := four_lt _ h3
      have cut6 : ∀ k, k < 6 → stepP ((92 :: b :: s).take k) = .short ∨ stepP ((92 :: b :: s).take k) = .form := by
        intro k hk
        match k, hk with
        | 0, _ => exact .inl rfl
        | 1, _ => exact .inl rfl
        | k + 2, hk =>
          rw [List.take_succ_cons, List.take_succ_cons, step_esc]
          refine esc_cut b _ h2 ?_
          refine four_cut 6 0 0 _ ?_
          simp only [List.length_cons, List.length_take]
          omega
      have more6 : ∀ y, fourP ((92 :: b :: s).take 6 ++ y) = fourP (92 :: b :: s) := fun y => four_more 6 0 0 _ y l6
      by_cases h4 : (fourP (92 :: b :: s)).1 < 55296 ∨ 57343 < (fourP (92 :: b :: s)).1
      · rw [if_pos h4] at h
        injection h with h5 h6
        subst h5 h6
        refine ⟨by omega, l6, ⟨_, rfl⟩, fun e => ?_, fun y => ?_, cut6⟩
        · have := (encC_nil _).1 e
          omega
        · have hm := more6 y
          rw [List.take_succ_cons, List.take_succ_cons, List.cons_append, List.cons_append] at hm ⊢
          rw [step_esc, esc_of, h2]
          simp only
          rw [hm, if_neg (by simpa using h3), if_pos h4]
      · rw [if_neg h4] at h
        by_cases h5 : 56319 < (fourP (92 :: b :: s)).1
        · rw [if_pos h5] at h; cases h
        rw [if_neg h5] at h
        by_cases h6 : (fourP ((92 :: b :: s).drop 6)).2 = 0
        · rw [if_neg (by simpa using h6)] at h
          by_cases h7 : (fourP ((92 :: b :: s).drop 6)).1 < 56320 ∨ 57343 < (fourP ((92 :: b :: s).drop 6)).1
          · rw [if_pos h7] at h; cases h
          rw [if_neg h7] at h
          injection h with h8 h9
          subst h8 h9
          have l12 := four_len h6
          rw [List.length_drop] at l12
          refine ⟨by omega, by omega, ⟨_, rfl⟩, fun e => ?_, fun y => ?_, fun k hk => ?_⟩
          · have := (encC_nil _).1 e
            omega
          · have e12 : (92 :: b :: s).take 12 ++ y = (92 :: b :: s).take 6 ++ (((92 :: b :: s).drop 6).take 6 ++ y) := by
              rw [← List.append_assoc]
              congr 1
              rw [show (12 : Nat) = 6 + 6 from rfl, List.take_add]
            have hm := more6 (((92 :: b :: s).drop 6).take 6 ++ y)
            rw [← e12] at hm
            have hd : ((92 :: b :: s).take 12 ++ y).drop 6 = ((92 :: b :: s).drop 6).take 6 ++ y := by
              rw [e12]
              exact List.drop_left' (take_lt_len l6)
            have hm2 : fourP (((92 :: b :: s).take 12 ++ y).drop 6) = fourP ((92 :: b :: s).drop 6) := by
              rw [hd]
              exact four_more 6 0 0 _ y (by rw [List.length_drop]; omega)
            rw [List.take_succ_cons, List.take_succ_cons, List.cons_append, List.cons_append] at hm hm2 ⊢
            rw [step_esc, esc_of, h2]
            simp only
            rw [hm, hm2, if_neg (by simpa using h3), if_neg h4, if_neg h5, if_neg (by simpa using h6), if_neg h7]
          · by_cases hk6 : k < 6
            · exact cut6 k hk6
            · have e12 : (92 :: b :: s).take k = (92 :: b :: s).take 6 ++ ((92 :: b :: s).drop 6).take (k - 6) := by
                conv => lhs; rw [show k = 6 + (k - 6) by omega, List.take_add]
              have hm := more6 (((92 :: b :: s).drop 6).take (k - 6))
              rw [← e12] at hm
              have hd : ((92 :: b :: s).take k).drop 6 = ((92 :: b :: s).drop 6).take (k - 6) := by
                rw [e12]
                exact List.drop_left' (take_lt_len l6)
              have hc : (fourP (((92 :: b :: s).take k).drop 6)).2 = 3 ∨ (fourP (((92 :: b :: s).take k).drop 6)).2 = 4 := by
                rw [hd]
                refine four_cut 6 0 0 _ ?_
                rw [List.length_take]
                omega
              obtain ⟨j, rfl⟩ : ∃ j, k = j + 2 := ⟨k - 2, by omega⟩
              rw [List.take_succ_cons, List.take_succ_cons] at hm hc ⊢
              rw [step_esc, esc_of, h2]
              simp only
              rw [hm, if_neg (by simpa using h3), if_neg h4, if_neg h5, if_pos (by omega)]
              exact badE_short _
        · rw [if_pos h6] at h
          rcases badE_short (fourP ((92 :: b :: s).drop 6)).2 with e | e <;> rw [e] at h <;> cases h
    · rw [if_pos h3] at h
      rcases badE_short (fourP (92 :: b :: s)).2 with e | e <;> rw [e] at h <;> cases h
/-- A rune whose bytes are cut is none. -/
theorem rune_cut (c : Int) (k : Nat) (hk : k < (encC c).length) : runeP ((encC c).take k) = [] := by
  by_cases h : runeP ((encC c).take k) = []
  · exact h
  exfalso
  obtain ⟨d, t, h1, h2⟩ := rune_is _ h
  have e : encC c = encC d ++ (t ++ (encC c).drop k) := by
    conv => lhs; rw [← List.take_append_drop k (encC c), h2, ← h1, List.append_assoc]
  have hd : encC d ≠ [] := by rw [h1]; exact h
  have hr := rune_of d (t ++ (encC c).drop k) hd
  rw [← e] at hr
  have hc : encC c ≠ [] := by intro e; rw [e] at hk; simp at hk
  have hr2 := rune_of c [] hc
  rw [List.append_nil] at hr2
  rw [hr2] at hr
  have h3 := congrArg List.length e
  have h4 := congrArg List.length hr
  have h5 : ((encC c).drop k).length = (encC c).length - k := List.length_drop
  rw [List.length_append, List.length_append] at h3
  omega
theorem enc_head (c b : Int) (t : List Int) (h : encC c = b :: t) : (b < 128 → t = []) ∧ (128 ≤ b → ∀ x ∈ b :: t, 128 ≤ x) := by
  rcases encC_ways c with h' | ⟨h1, h2, h'⟩ | ⟨h1, h2, h'⟩ | ⟨h1, h2, _, h'⟩ | ⟨h1, h2, h'⟩ <;> rw [h'] at h <;> simp at h
  · obtain ⟨rfl, rfl⟩ := h; exact ⟨fun _ => rfl, fun hb => by omega⟩
  · obtain ⟨rfl, rfl⟩ := h; exact ⟨fun _ => by omega, fun hb x hx => by simp at hx; omega⟩
  · obtain ⟨rfl, rfl⟩ := h; exact ⟨fun _ => by omega, fun hb x hx => by simp at hx; omega⟩
  · obtain ⟨rfl, rfl⟩ := h; exact ⟨fun _ => by omega, fun hb x hx => by simp at hx; omega⟩
theorem step_piece (l : List Int) (t : List Int) (n : Nat) (h : stepP l = .piece t n) : PieceOk l t n := by
  cases l with
  | nil => cases h
  | cons b s =>
    rw [stepP] at h
    by_cases h1 : b = 34
    · rw [if_pos h1] at h; cases h
    rw [if_neg h1] at h
    by_cases h2 : b = 92
    · rw [if_pos h2] at h
      subst h2
      cases s with
      | nil => cases h
      | cons b1 s => exact piece_esc b1 s t n h
    rw [if_neg h2] at h
    by_cases h3 : runeP (b :: s) = [] ∨ b < 32
    · rw [if_pos h3] at h; cases h
    rw [if_neg h3] at h
    injection h with h4 h5
    subst h4 h5
    have hne : runeP (b :: s) ≠ [] := fun e => h3 (.inl e)
    obtain ⟨c, u, e1, e2⟩ := rune_is _ hne
    obtain ⟨r, hr⟩ : ∃ r, encC c = b :: r := by
      cases hc : encC c with
      | nil => rw [← e1] at hne; exact absurd hc hne
      | cons x r =>
        rw [← e1, hc, List.cons_append] at e2
        injection e2 with e3 _
        exact ⟨r, by rw [e3]⟩
    have htk := rune_take _ hne
    refine ⟨?_, (rune_len _).1, ⟨c, e1⟩, hne, fun x => ?_, fun k hk => ?_⟩
    · have := List.length_pos_iff.2 hne; omega
    · rw [htk, ← e1, hr, List.cons_append, stepP, if_neg h1, if_neg h2, ← List.cons_append, ← hr, rune_of c x (by rw [e1]; exact hne), if_neg (by rw [hr]; intro hq; rcases hq with hq | hq; cases hq; exact h3 (.inr hq))]
    · have hkl : (b :: s).take k = (encC c).take k := by
        rw [e1, ← htk, List.take_take, Nat.min_eq_left (by omega)]
      rw [hkl]
      have hrc := rune_cut c k (by rw [e1]; exact hk)
      cases k with
      | zero => exact .inl rfl
      | succ k =>
        rw [hr, List.take_succ_cons] at hrc ⊢
        right
        rw [stepP, if_neg h1, if_neg h2, if_pos (.inl hrc)]
end Go.Proofs.Ytcpofeebfckmhaa
