/- Plain: what Take tells of quotes; cut, with other bytes behind; a valid text comes back. -/
import Derived.Test.YtcpofeebfckmhaaJb
namespace Go.Proofs.Ytcpofeebfckmhaa
set_option maxRecDepth 20000
set_option linter.unusedVariables false
set_option linter.unusedSimpArgs false
theorem step_34 (x : List Int) : stepP (34 :: x) = .fin := by rw [stepP, if_pos rfl]
theorem takeG_step (f : Nat) (l : List Int) (p : Nat) (out : List Int) : takeG (f + 1) l p out = match stepP l with
    | .short => ([], p + l.length, 3)
    | .form => ([], p, 4)
    | .fin => (out, p + 1, 0)
    | .piece t n => takeG f (l.drop n) (p + n) (out ++ t) := rfl
/-- As much fuel as there are bytes is enough. -/
theorem takeG_fuel : ∀ (f g : Nat) (l : List Int) (p : Nat) (out : List Int), l.length ≤ f → l.length ≤ g → takeG f l p out = takeG g l p out
  | 0, 0, _, _, _, _, _ => rfl
  | 0, g + 1, l, p, out, hf, _ => by
    obtain rfl : l = [] := List.eq_nil_of_length_eq_zero (by omega)
    rfl
  | f + 1, 0, l, p, out, _, hg => by
    obtain rfl : l = [] := List.eq_nil_of_length_eq_zero (by omega)
    rfl
  | f + 1, g + 1, l, p, out, hf, hg => by
    rw [takeG_step, takeG_step]
    cases hs : stepP l with
    | short => rfl
    | form => rfl
    | fin => rfl
    | piece t n =>
      have hp := step_piece l t n hs
      have h1 := hp.one
      have h2 := hp.len
      exact takeG_fuel f g _ _ _ (by rw [List.length_drop]; omega) (by rw [List.length_drop]; omega)
/-- Where it is wrong there is no text, and a place within. -/
theorem takeG_bad : ∀ (f : Nat) (l : List Int) (p : Nat) (out : List Int), l.length ≤ f → (takeG f l p out).2.2 ≠ 0 → (takeG f l p out).1 = [] ∧ (takeG f l p out).2.1 ≤ p + l.length ∧ ((takeG f l p out).2.2 = 3 → (takeG f l p out).2.1 = p + l.length)
  | 0, l, p, out, _, _ => ⟨rfl, Nat.le_refl _, fun _ => rfl⟩
  | f + 1, l, p, out, hf, h => by
    rw [takeG_step] at h ⊢
    cases hs : stepP l with
    | short => exact ⟨rfl, Nat.le_refl _, fun _ => rfl⟩
    | form => exact ⟨rfl, Nat.le_add_right _ _, fun e => by cases e⟩
    | fin => rw [hs] at h; exact absurd rfl h
    | piece t n =>
      rw [hs] at h
      have hp := step_piece l t n hs
      have h1 := hp.one
      have h2 := hp.len
      obtain ⟨a, b, c⟩ := takeG_bad f (l.drop n) (p + n) (out ++ t) (by rw [List.length_drop]; omega) h
      rw [List.length_drop] at b c
      refine ⟨a, by simp only; omega, fun e => ?_⟩
      have := c e
      simp only
      omega
theorem step_fin {l : List Int} (h : stepP l = .fin) : ∃ t, l = 34 :: t := by
  cases l with
  | nil => cases h
  | cons b s =>
    rw [stepP] at h
    by_cases h1 : b = 34
    · exact ⟨s, by rw [h1]⟩
    rw [if_neg h1] at h
    by_cases h2 : b = 92
    · rw [if_pos h2] at h
      subst h2
      cases s with
      | nil => cases h
      | cons b1 s =>
        rw [esc_of] at h
        split at h
        · cases h
        split at h
        · rcases badE_short (fourP (92 :: b1 :: s)).2 with e | e <;> rw [e] at h <;> cases h
        split at h
        · cases h
        split at h
        · cases h
        split at h
        · rcases badE_short (fourP ((92 :: b1 :: s).drop 6)).2 with e | e <;> rw [e] at h <;> cases h
        split at h <;> cases h
    rw [if_neg h2] at h
    split at h <;> cases h
/-- What was taken: so many bytes of what was there; runes; the same with other bytes behind; cut anywhere it is not ended. -/
theorem takeG_good : ∀ (f : Nat) (l : List Int) (p : Nat) (out : List Int), l.length ≤ f → (takeG f l p out).2.2 = 0 →
    ∃ n t k, (takeG f l p out) = (out ++ t, p + n, 0) ∧ 1 ≤ n ∧ n ≤ l.length ∧ Val t k ∧ (∀ x g, (l.take n ++ x).length ≤ g → takeG g (l.take n ++ x) p out = (out ++ t, p + n, 0)) ∧
      (∀ j g, j < n → (l.take j).length ≤ g → (takeG g (l.take j) p out).1 = [] ∧ ((takeG g (l.take j) p out).2.2 = 3 ∧ (takeG g (l.take j) p out).2.1 = p + j ∨ (takeG g (l.take j) p out).2.2 = 4))
  | 0, l, p, out, _, h => by cases h
  | f + 1, l, p, out, hf, h => by
    rw [takeG_step] at h ⊢
    cases hs : stepP l with
    | short => rw [hs] at h; cases h
    | form => rw [hs] at h; cases h
    | fin =>
      obtain ⟨u, rfl⟩ := step_fin hs
      refine ⟨1, [], 0, by rw [List.append_nil], Nat.le_refl _, by simp, .nil, fun x g hg => ?_, fun j g hj hg => ?_⟩
      · cases g with
        | zero => simp at hg
        | succ g =>
          have e : List.take 1 (34 :: u) ++ x = 34 :: x := rfl
          rw [e, takeG_step, step_34, List.append_nil]
      · obtain rfl : j = 0 := by omega
        rw [List.take_zero]
        cases g with
        | zero => exact ⟨rfl, .inl ⟨rfl, rfl⟩⟩
        | succ g => exact ⟨rfl, .inl ⟨rfl, rfl⟩⟩
    | piece t n =>
      rw [hs] at h
      have hp := step_piece l t n hs
      have h1 := hp.one
      have h2 := hp.len
      obtain ⟨c, hc⟩ := hp.rune
      obtain ⟨m, u, k, e1, e2, e3, e4, e5, e6⟩ := takeG_good f (l.drop n) (p + n) (out ++ t) (by rw [List.length_drop]; omega) h
      rw [List.length_drop] at e3
      have hsplit : ∀ y, l.take (n + m) ++ y = l.take n ++ ((l.drop n).take m ++ y) := fun y => by rw [List.take_add, List.append_assoc]
      refine ⟨n + m, t ++ u, k + 1, by simp only; rw [e1, List.append_assoc, Nat.add_assoc], by omega, by omega, by rw [← hc]; exact .cons c u k (by rw [hc]; exact hp.ne) e4, fun x g hg => ?_, fun j g hj hg => ?_⟩
      · rw [hsplit] at hg ⊢
        cases g with
        | zero => rw [List.length_append, List.length_take] at hg; omega
        | succ g =>
          rw [takeG_step, hp.more]
          simp only
          rw [List.drop_left' (take_lt_len h2), e5 x g (by rw [List.length_append, take_lt_len h2] at hg; omega), List.append_assoc, Nat.add_assoc]
      · by_cases hjn : j < n
        · cases g with
          | zero =>
            rw [List.length_take] at hg
            obtain rfl : j = 0 := by omega
            exact ⟨rfl, .inl ⟨rfl, by simp [takeG]⟩⟩
          | succ g =>
            rw [takeG_step]
            rcases hp.cut j hjn with e | e <;> rw [e]
            · refine ⟨rfl, .inl ⟨rfl, ?_⟩⟩
              simp only
              rw [List.length_take]
              omega
            · exact ⟨rfl, .inr rfl⟩
        · have ej : l.take j = l.take n ++ (l.drop n).take (j - n) := by
            conv => lhs; rw [show j = n + (j - n) by omega, List.take_add]
          rw [ej] at hg ⊢
          cases g with
          | zero => rw [List.length_append, take_lt_len h2] at hg; omega
          | succ g =>
            rw [takeG_step, hp.more]
            simp only
            rw [List.drop_left' (take_lt_len h2)]
            have := e6 (j - n) g (by omega) (by rw [List.length_append, take_lt_len h2] at hg; omega)
            rw [show p + n + (j - n) = p + j by omega] at this
            exact this
/-! ### Quotes -/
theorem hex_byte (d : Int) (h : 0 ≤ d ∧ d < 16) : digP (hexP d) = d ∧ 48 ≤ hexP d ∧ hexP d < 128 := by
  unfold hexP digP
  split <;> (repeat' split) <;> omega
theorem mark_len (c : Int) : 1 ≤ (markP c).length := by
  unfold markP
  repeat' split
  all_goals simp
theorem mark_byte (c : Int) (h : 0 ≤ c) (h2 : c < 128) : ∀ b ∈ markP c, 32 ≤ b ∧ b < 128 := by
  intro b hb
  unfold markP at hb
  have h1 := hex_byte (c % 16) (by omega)
  repeat' (split at hb)
  all_goals simp at hb
  all_goals try omega
  rename_i h9
  have h3 := hex_byte (c / 16) (by omega)
  omega
/-- A byte's mark is taken as that byte. -/
theorem mark_step (c : Int) (h0 : 0 ≤ c) (h1 : c < 128) (x : List Int) : stepP (markP c ++ x) = .piece [c] (markP c).length := by
  have hone : encC c = [c] := by
    rcases encC_ways c with h' | ⟨_, _, h'⟩ | ⟨h2, _, h'⟩ | ⟨h2, _, _, h'⟩ | ⟨h2, _, h'⟩
    · have := (encC_nil c).1 h'; omega
    · exact h'
    all_goals omega
  unfold markP
  by_cases e1 : c = 34
  · rw [if_pos e1, e1]; rfl
  rw [if_neg e1]
  by_cases e2 : c = 92
  · rw [if_pos e2, e2]; rfl
  rw [if_neg e2]
  by_cases e3 : c = 8
  · rw [if_pos e3, e3]; rfl
  rw [if_neg e3]
  by_cases e4 : c = 9
  · rw [if_pos e4, e4]; rfl
  rw [if_neg e4]
  by_cases e5 : c = 10
  · rw [if_pos e5, e5]; rfl
  rw [if_neg e5]
  by_cases e6 : c = 12
  · rw [if_pos e6, e6]; rfl
  rw [if_neg e6]
  by_cases e7 : c = 13
  · rw [if_pos e7, e7]; rfl
  rw [if_neg e7]
  by_cases e8 : c < 32
  · rw [if_pos e8]
    have a1 := hex_byte (c / 16) (by omega)
    have a2 := hex_byte (c % 16) (by omega)
    have hf : fourP (92 :: 117 :: 48 :: 48 :: hexP (c / 16) :: hexP (c % 16) :: x) = (c, 0) := by
      have b0 : ¬ badF 0 92 := by decide
      have b1 : ¬ badF 1 117 := by decide
      have b2 : ¬ badF 2 48 := by decide
      have b3 : ¬ badF 3 48 := by decide
      have b4 : ¬ badF 4 (hexP (c / 16)) := by unfold badF; omega
      have b5 : ¬ badF 5 (hexP (c % 16)) := by unfold badF; omega
      unfold fourP
      rw [fourG, if_neg b0, fourG, if_neg b1, fourG, if_neg b2, fourG, if_neg b3, fourG, if_neg b4, fourG, if_neg b5, fourG]
      simp only [Prod.mk.injEq, and_true]
      have d48 : digP 48 = 0 := by decide
      rw [d48, a1.1, a2.1]
      simp
      omega
    show escP (92 :: 117 :: (48 :: 48 :: hexP (c / 16) :: hexP (c % 16) :: x)) = _
    rw [esc_of, show twoP 117 = none from by decide]
    simp only [List.cons_append, List.nil_append]
    rw [hf]
    simp only
    rw [if_neg (by simp), if_pos (by omega), hone]
    rfl
  · rw [if_neg e8, List.singleton_append, stepP, if_neg e1, if_neg e2]
    have hr : runeP (c :: x) = [c] := by have := rune_of c x (by rw [hone]; simp); rw [hone, List.singleton_append] at this; exact this
    rw [hr, if_neg (by simp; omega)]
theorem quoteB_append (a b : List Int) : quoteB (a ++ b) = quoteB a ++ quoteB b := by unfold quoteB; rw [List.flatMap_append]
theorem quoteB_high : ∀ (l : List Int), (∀ b ∈ l, 128 ≤ b) → quoteB l = l
  | [], _ => rfl
  | b :: l, h => by
    have h1 := h b (by simp)
    have e : quoteB (b :: l) = byteQ b ++ quoteB l := rfl
    rw [e, quoteB_high l (fun x hx => h x (by simp [hx]))]
    unfold byteQ
    rw [if_neg (by omega)]
    rfl
/-- A rune's quote is taken as that rune. -/
theorem quote_step (c : Int) (h : encC c ≠ []) (x : List Int) : stepP (quoteB (encC c) ++ x) = .piece (encC c) (quoteB (encC c)).length := by
  by_cases h1 : c < 128
  · have hone : encC c = [c] ∧ 0 ≤ c := by
      rcases encC_ways c with h' | ⟨h2, _, h'⟩ | ⟨h2, _, h'⟩ | ⟨h2, _, _, h'⟩ | ⟨h2, _, h'⟩
      · exact absurd h' h
      · exact ⟨h', h2⟩
      all_goals omega
    have e : quoteB (encC c) = markP c := by
      rw [hone.1]
      show byteQ c ++ [] = _
      rw [List.append_nil]
      unfold byteQ
      rw [if_pos h1]
    rw [e, mark_step c hone.2 h1, hone.1]
  · have hh := encC_high c (by omega)
    rw [quoteB_high _ hh]
    cases hc : encC c with
    | nil => exact absurd hc h
    | cons b t =>
      have hb : 128 ≤ b := hh b (by rw [hc]; simp)
      have hr := rune_of c x h
      rw [hc] at hr
      rw [List.cons_append, stepP, if_neg (by omega), if_neg (by omega), ← List.cons_append, hr, if_neg (by intro hq; rcases hq with hq | hq; cases hq; omega)]
theorem quoteB_byte {l : List Int} {n : Nat} (h : Val l n) : ∀ b ∈ quoteB l, 32 ≤ b ∧ b < 256 := by
  induction h with
  | nil => intro b hb; cases hb
  | cons c l n h1 h2 ih =>
    intro b hb
    rw [quoteB_append] at hb
    rcases List.mem_append.1 hb with hb | hb
    · obtain ⟨y, hy, hby⟩ := List.mem_flatMap.1 hb
      have hy2 := encC_byte c y hy
      unfold byteQ at hby
      split at hby
      · have := mark_byte y (by omega) (by assumption) b hby; omega
      · simp at hby; omega
    · exact ih b hb
/-- What is quoted is taken again. -/
theorem takeG_quote {l : List Int} {n : Nat} (h : Val l n) : ∀ (f p : Nat) (out x : List Int), (quoteB l ++ 34 :: x).length ≤ f → takeG f (quoteB l ++ 34 :: x) p out = (out ++ l, p + (quoteB l).length + 1, 0) := by
  induction h with
  | nil =>
    intro f p out x hf
    cases f with
    | zero => simp at hf
    | succ f =>
      have e : quoteB [] ++ 34 :: x = 34 :: x := rfl
      rw [e, takeG_step, step_34, List.append_nil]
      rfl
  | cons c l n h1 h2 ih =>
    intro f p out x hf
    have hp := quote_step c h1 (quoteB l ++ 34 :: x)
    have h3 := (step_piece _ _ _ hp).one
    rw [quoteB_append, List.append_assoc] at hf ⊢
    cases f with
    | zero => rw [List.length_append] at hf; omega
    | succ f =>
      rw [takeG_step, hp]
      simp only
      rw [List.drop_left, ih f _ _ x (by rw [List.length_append] at hf; omega), List.append_assoc, List.length_append]
      congr 2
      omega
end Go.Proofs.Ytcpofeebfckmhaa
