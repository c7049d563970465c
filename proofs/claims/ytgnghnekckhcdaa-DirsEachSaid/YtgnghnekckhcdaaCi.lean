/- Plain: a column's numbers taken one by one (stq), up to the first that is wrong; how the four columns make the document's Decode. -/
import Derived.Test.YtgnghnekckhcdaaMG
namespace Go.Proofs.Ytgnghnekckhcdaa
set_option linter.unusedVariables false
set_option linter.unusedSimpArgs false
/-- The row and the place when k numbers of column c have been taken. -/
def stq (t : List UInt8) (c : Nat) (l : List En) (a : Nat) : Nat → List En × Nat
  | 0 => (l, a)
  | k + 1 => (putN (stq t c l a k).1 c k (valV (t.drop (stq t c l a k).2)), (stq t c l a k).2 + (lead 10 (t.drop (stq t c l a k).2) + 1))
/-- The number at hand. -/
def xq (t : List UInt8) (c : Nat) (l : List En) (a k : Nat) : Int := valV (t.drop (stq t c l a k).2)
/-- What is wrong with it. -/
def errq (t : List UInt8) (c : Nat) (l : List En) (a k : Nat) : Int :=
  if errV (t.drop (stq t c l a k).2) ≠ 0 then errV (t.drop (stq t c l a k).2) else wrgN (stq t c l a k).1 c k (xq t c l a k)
theorem stq_succ (t : List UInt8) (c : Nat) (l : List En) (a k : Nat) : stq t c l a (k + 1) = (putN (stq t c l a k).1 c k (xq t c l a k), (stq t c l a k).2 + (lead 10 (t.drop (stq t c l a k).2) + 1)) := rfl
theorem errq_ok {t : List UInt8} {c : Nat} {l : List En} {a k : Nat} (h : errq t c l a k = 0) : errV (t.drop (stq t c l a k).2) = 0 ∧ wrgN (stq t c l a k).1 c k (xq t c l a k) = 0 := by
  unfold errq at h
  by_cases h1 : errV (t.drop (stq t c l a k).2) = 0
  · rw [if_neg (fun h => h h1)] at h; exact ⟨h1, h⟩
  · rw [if_pos h1] at h; exact absurd h h1
theorem first_q (t : List UInt8) (c : Nat) (l : List En) (a n : Nat) : ∃ N, N ≤ n ∧ (∀ k, k < N → errq t c l a k = 0) ∧ (N < n → errq t c l a N ≠ 0) := by
  induction n with
  | zero => exact ⟨0, Nat.le_refl _, fun k h => by omega, fun h => by omega⟩
  | succ n ih =>
    obtain ⟨N, h1, h2, h3⟩ := ih
    by_cases hN : N < n
    · exact ⟨N, by omega, h2, fun _ => h3 hN⟩
    · obtain rfl : N = n := by omega
      by_cases he : errq t c l a N = 0
      · exact ⟨N + 1, Nat.le_refl _, fun k hk => by by_cases hk' : k < N; exact h2 k hk'; obtain rfl : k = N := by omega
                                                    exact he, fun h => by omega⟩
      · exact ⟨N, by omega, h2, fun _ => he⟩
/-- A number of column c is a number of the directory. -/
theorem cn_div {n c k : Nat} (hk : k < n) : (c * n + k) / n = c ∧ (c * n + k) % n = k := by
  have hn : 0 < n := by omega
  rw [Nat.mul_comm, Nat.add_comm]
  constructor
  · rw [Nat.add_mul_div_left _ _ hn, Nat.div_eq_of_lt hk, Nat.zero_add]
  · rw [Nat.add_mul_mod_self_left, Nat.mod_eq_of_lt hk]
theorem cn_lt {n c k : Nat} (hc : c < 4) (hk : k < n) : c * n + k < 4 * n := by
  have : c * n + n ≤ 4 * n := by rw [← Nat.succ_mul]; exact Nat.mul_le_mul_right _ (by omega)
  omega
/-- What the row keeps while a column is taken. -/
theorem stq_keeps {t : List UInt8} {c n : Nat} {l : List En} {a : Nat} (hc : c < 4) (hl : l.length = n) (hm : ∀ j, j < n → MayN (gE l j)) (ha : a ≤ t.length) : ∀ k, k ≤ n → (∀ j, j < k → errq t c l a j = 0) →
    (stq t c l a k).1.length = n ∧ (∀ j, j < n → MayN (gE (stq t c l a k).1 j)) ∧ (stq t c l a k).2 ≤ t.length := by
  intro k
  induction k with
  | zero => exact fun _ _ => ⟨hl, hm, ha⟩
  | succ k ih =>
    intro hk he
    obtain ⟨h1, h2, h3⟩ := ih (by omega) (fun j hj => he j (by omega))
    obtain ⟨e1, e2⟩ := errq_ok (he k (by omega))
    have hb := valV_bd _ e1
    obtain ⟨d1, d2⟩ := cn_div (c := c) (n := n) (k := k) (by omega)
    have hp := put_may (x := xq t c l a k) h1 (cn_lt hc (by omega : k < n)) h2 hb
    rw [d1, d2] at hp
    rw [stq_succ]
    refine ⟨by rw [putN_len, h1], hp, ?_⟩
    have := (errV_ok _ e1).2.1
    rw [List.length_drop] at this
    show _ + (_ + 1) ≤ _
    omega
/-- A whole column taken. -/
theorem goD_col {t : List UInt8} {c n r : Nat} {l : List En} {a : Nat} : ∀ N, N ≤ n → (∀ k, k < N → errq t c l a k = 0) →
    goD t n (n + r) (c * n) l a = goD t n (n - N + r) (c * n + N) (stq t c l a N).1 (stq t c l a N).2 := by
  intro N
  induction N with
  | zero => intro _ _; rfl
  | succ N ih =>
    intro hN he
    rw [ih (by omega) (fun k hk => he k (by omega))]
    obtain ⟨e1, e2⟩ := errq_ok (he N (by omega))
    obtain ⟨d1, d2⟩ := cn_div (c := c) (n := n) (k := N) (by omega)
    rw [show n - N + r = (n - (N + 1) + r) + 1 from by omega, goD, d1, d2, if_neg (fun h => h e1)]
    have e2' : wrgN (stq t c l a N).1 c N (valV (t.drop (stq t c l a N).2)) = 0 := e2
    rw [if_neg (fun h => h e2')]
    rfl
theorem goD_stop {t : List UInt8} {c n r : Nat} {l : List En} {a N : Nat} (hN : N < n) (he : ∀ k, k < N → errq t c l a k = 0) (hn : errq t c l a N ≠ 0) : goD t n (n + r) (c * n) l a = ([], (stq t c l a N).2, errq t c l a N) := by
  rw [goD_col N (by omega) he]
  obtain ⟨d1, d2⟩ := cn_div (c := c) (n := n) (k := N) hN
  rw [show n - N + r = (n - (N + 1) + r) + 1 from by omega, goD, d1, d2]
  unfold errq at hn ⊢
  by_cases h1 : errV (t.drop (stq t c l a N).2) = 0
  · have hc : ¬ (errV (t.drop (stq t c l a N).2) ≠ 0) := fun h => h h1
    rw [if_neg hc] at hn
    have hn' : wrgN (stq t c l a N).1 c N (valV (t.drop (stq t c l a N).2)) ≠ 0 := hn
    rw [if_neg hc, if_pos hn', if_neg hc]
    rfl
  · rw [if_pos h1, if_pos h1]
/-- The scan's and the row's state behind a column: where it was wrong before nothing turns. -/
def StepQ (t : List UInt8) (c n : Nat) (l : List En) (a : Nat) (q : Int) (l' : List En) (a' : Nat) (q' : Int) : Prop :=
  (q ≠ 0 ∧ l' = l ∧ a' = a ∧ q' = q) ∨ (q = 0 ∧ ∃ N, N ≤ n ∧ (∀ k, k < N → errq t c l a k = 0) ∧ (N < n → errq t c l a N ≠ 0) ∧ l' = (stq t c l a N).1 ∧ a' = (stq t c l a N).2 ∧ q' = if N < n then errq t c l a N else 0)
/-- What goD answers when q is what is wrong. -/
def ansQ (t : List UInt8) (n r c : Nat) (l : List En) (a : Nat) (q : Int) : List En × Nat × Int := if q ≠ 0 then ([], a, q) else goD t n r (c * n) l a
theorem ansQ_step {t : List UInt8} {n r c : Nat} {l l' : List En} {a a' : Nat} {q q' : Int} (h : StepQ t c n l a q l' a' q') : ansQ t n (n + r) c l a q = ansQ t n r (c + 1) l' a' q' := by
  unfold ansQ
  rcases h with ⟨h1, rfl, rfl, rfl⟩ | ⟨rfl, N, h1, h2, h3, rfl, rfl, rfl⟩
  · rw [if_pos h1, if_pos h1]
  · rw [if_neg (fun h => h rfl)]
    by_cases hN : N < n
    · rw [if_pos hN, if_pos (h3 hN)]
      exact goD_stop hN h2 (h3 hN)
    · obtain rfl : N = n := by omega
      rw [if_neg hN, if_neg (fun h => h rfl), goD_col N (Nat.le_refl _) h2, Nat.sub_self, Nat.zero_add, Nat.succ_mul]
end Go.Proofs.Ytgnghnekckhcdaa
