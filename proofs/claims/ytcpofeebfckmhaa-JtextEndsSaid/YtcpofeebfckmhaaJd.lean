/- Plain: what the laws ask of Take and Unquote. -/
import Derived.Test.YtcpofeebfckmhaaJc
namespace Go.Proofs.Ytcpofeebfckmhaa
set_option maxRecDepth 20000
set_option linter.unusedVariables false
set_option linter.unusedSimpArgs false
theorem takeP_in (l : List Int) (p : Nat) (t : List Int) (h : l.drop p = 34 :: t) (hp : p < l.length) : takeP l p = takeG l.length t (p + 1) [] := by
  unfold takeP
  have h1 : l.getD p 0 = 34 := by
    rw [List.getD_eq_getElem?_getD, List.getElem?_eq_getElem hp]
    rw [List.drop_eq_getElem_cons hp] at h
    injection h
  have h2 : l.drop (p + 1) = t := by
    rw [List.drop_eq_getElem_cons hp] at h
    injection h
  rw [if_neg (by omega), if_neg (by omega), Int.toNat_natCast, if_neg (by rw [h1]; simp), h2]
theorem take_quote {l : List Int} {n : Nat} (h : Val l n) (a b : List Int) : takeP (a ++ (34 :: quoteB l ++ [34]) ++ b) a.length = (l, a.length + (34 :: quoteB l ++ [34]).length, 0) := by
  have hd : (a ++ (34 :: quoteB l ++ [34]) ++ b).drop a.length = 34 :: (quoteB l ++ 34 :: b) := by
    rw [List.append_assoc, List.drop_left]
    simp
  rw [takeP_in _ a.length _ hd (by simp), takeG_quote h _ _ [] b (by simp; omega)]
  simp
  omega
theorem unq_quote {l : List Int} {n : Nat} (h : Val l n) : unqP (34 :: quoteB l ++ [34]) = (l, 0) := by
  have := take_quote h [] []
  rw [List.nil_append, List.append_nil] at this
  unfold unqP
  rw [show ((0 : Int)) = (([] : List Int).length : Int) from rfl, this]
  simp
theorem takeP_zero (l : List Int) : takeP l 0 = match l with
    | [] => ([], 0, 3)
    | b :: t => if b = 34 then takeG (t.length + 1) t 1 [] else ([], 0, 4) := by
  cases l with
  | nil => rfl
  | cons b t =>
    by_cases h : b = 34
    · subst h
      have := takeP_in (34 :: t) 0 t rfl (by simp)
      rw [show ((0 : Nat) : Int) = 0 from rfl] at this
      rw [this]
      simp
    · unfold takeP
      rw [if_neg (by simp; omega), if_neg (by simp; omega)]
      simp [h]
theorem take_bad (l : List Int) (h : (takeP l 0).2.2 ≠ 0) : (takeP l 0).1 = [] ∧ (takeP l 0).2.1 ≤ l.length ∧ ((takeP l 0).2.2 = 3 → (takeP l 0).2.1 = l.length) := by
  rw [takeP_zero] at h ⊢
  cases l with
  | nil => exact ⟨rfl, Nat.le_refl _, fun _ => rfl⟩
  | cons b t =>
    simp only at h ⊢
    by_cases hb : b = 34
    · rw [if_pos hb] at h ⊢
      obtain ⟨a, c, d⟩ := takeG_bad _ t 1 [] (by omega) h
      refine ⟨a, by rw [List.length_cons]; omega, fun e => ?_⟩
      have := d e
      rw [List.length_cons]
      omega
    · rw [if_neg hb]
      exact ⟨rfl, Nat.zero_le _, fun e => by cases e⟩
theorem take_good (l : List Int) (h : (takeP l 0).2.2 = 0) : (∃ k, Val (takeP l 0).1 k) ∧ 2 ≤ (takeP l 0).2.1 ∧ (takeP l 0).2.1 ≤ l.length ∧ (∀ x, takeP (l.take (takeP l 0).2.1 ++ x) 0 = takeP l 0) ∧
    ∀ j, j < (takeP l 0).2.1 → (takeP (l.take j) 0).1 = [] ∧ ((takeP (l.take j) 0).2.2 = 3 ∧ (takeP (l.take j) 0).2.1 = j ∨ (takeP (l.take j) 0).2.2 = 4) := by
  have hz := takeP_zero l
  cases l with
  | nil => rw [hz] at h; cases h
  | cons b t =>
    simp only at hz
    by_cases hb : b = 34
    · rw [if_pos hb] at hz
      subst hb
      rw [hz] at h ⊢
      obtain ⟨n, u, k, e1, e2, e3, e4, e5, e6⟩ := takeG_good _ t 1 [] (by omega) h
      rw [e1]
      simp only [List.nil_append] at e5 ⊢
      refine ⟨⟨k, e4⟩, by omega, by rw [List.length_cons]; omega, fun x => ?_, fun j hj => ?_⟩
      · rw [show 1 + n = n + 1 by omega, List.take_succ_cons, List.cons_append, takeP_zero]
        simp only
        rw [if_pos trivial, e5 x _ (by omega)]
        congr 2
        omega
      · cases j with
        | zero => rw [List.take_zero, takeP_zero]; exact ⟨rfl, .inl ⟨rfl, rfl⟩⟩
        | succ j =>
          rw [List.take_succ_cons, takeP_zero]
          simp only
          rw [if_pos trivial]
          have := e6 j ((t.take j).length + 1) (by omega) (by omega)
          rw [show 1 + j = j + 1 by omega] at this
          exact this
    · rw [if_neg hb] at hz
      rw [hz] at h
      cases h
theorem count_append {l m : List Int} (h : 0 ≤ countP l) (h' : 0 ≤ countP m) : countP (l ++ m) = countP l + countP m := by
  obtain ⟨n, h1, h2⟩ := count_of h
  obtain ⟨k, h3, h4⟩ := count_of h'
  rw [count_is (val_append h1 h3), h2, h4]
  push_cast
  rfl
theorem count_le (l : List Int) : countP l ≤ l.length := by
  by_cases h : 0 ≤ countP l
  · obtain ⟨n, h1, h2⟩ := count_of h
    have := val_len h1
    omega
  · omega
end Go.Proofs.Ytcpofeebfckmhaa
