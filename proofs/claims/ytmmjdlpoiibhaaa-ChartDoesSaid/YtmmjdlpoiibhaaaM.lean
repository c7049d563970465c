/- Plain arithmetic of Hilbert's curve by quarters: the place of a tile (hpl), the tile of a place (hpt), that each undoes the other, that the way goes from neighbour to neighbour, and that a place by four is the place in the zoom ahead. No Go in sight. -/
import Derived.IntWalk
namespace Go.Proofs.Ytmmjdlpoiibhaaa
set_option linter.unusedVariables false
/-- 2 and 4 to the k. -/
def p2 : Nat → Int
  | 0 => 1
  | k + 1 => 2 * p2 k
def p4 : Nat → Int
  | 0 => 1
  | k + 1 => 4 * p4 k
theorem p2_pos (k : Nat) : 1 ≤ p2 k := by
  induction k with
  | zero => simp [p2]
  | succ k ih => simp only [p2]; omega
theorem p4_pos (k : Nat) : 1 ≤ p4 k := by
  induction k with
  | zero => simp [p4]
  | succ k ih => simp only [p4]; omega
theorem p2_sq (k : Nat) : p2 k * p2 k = p4 k := by
  induction k with
  | zero => rfl
  | succ k ih =>
    simp only [p2, p4]
    rw [← ih, Int.mul_assoc, Int.mul_left_comm (p2 k) 2 (p2 k), ← Int.mul_assoc]; omega
/-- The place of (x, y) in the square of zoom k. -/
def hpl : Nat → Int → Int → Int
  | 0, _, _ => 0
  | k + 1, x, y => if x < p2 k then (if y < p2 k then hpl k y x else p4 k + hpl k x (y - p2 k)) else if p2 k ≤ y then 2 * p4 k + hpl k (x - p2 k) (y - p2 k) else 3 * p4 k + hpl k (p2 k - 1 - y) (p2 k - 1 - (x - p2 k))
/-- The tile of a place in the square of zoom k. -/
def hptX : Nat → Int → Int × Int
  | 0, _ => (0, 0)
  | k + 1, d => if d < p4 k then ((hptX k d).2, (hptX k d).1) else if d < 2 * p4 k then ((hptX k (d - p4 k)).1, (hptX k (d - p4 k)).2 + p2 k) else if d < 3 * p4 k then ((hptX k (d - 2 * p4 k)).1 + p2 k, (hptX k (d - 2 * p4 k)).2 + p2 k) else (2 * p2 k - 1 - (hptX k (d - 3 * p4 k)).2, p2 k - 1 - (hptX k (d - 3 * p4 k)).1)
def In (k : Nat) (x y : Int) : Prop := 0 ≤ x ∧ x < p2 k ∧ 0 ≤ y ∧ y < p2 k
theorem pr {a b c d : Int} (h : a = c) (g : b = d) : (a, b) = (c, d) := by rw [h, g]
theorem hpl_bd (k : Nat) (x y : Int) (h : In k x y) : 0 ≤ hpl k x y ∧ hpl k x y < p4 k := by
  induction k generalizing x y with
  | zero => simp [hpl, p4]
  | succ k ih =>
    obtain ⟨x0, x1, y0, y1⟩ := h
    simp only [p2] at x1 y1
    have hp := p4_pos k
    rw [hpl, p4]
    split
    · split
      · have := ih y x ⟨by omega, by omega, by omega, by omega⟩; omega
      · have := ih x (y - p2 k) ⟨by omega, by omega, by omega, by omega⟩; omega
    · split
      · have := ih (x - p2 k) (y - p2 k) ⟨by omega, by omega, by omega, by omega⟩; omega
      · have := ih (p2 k - 1 - y) (p2 k - 1 - (x - p2 k)) ⟨by omega, by omega, by omega, by omega⟩; omega
theorem hpt_in (k : Nat) (d : Int) (d0 : 0 ≤ d) (d1 : d < p4 k) : In k (hptX k d).1 (hptX k d).2 := by
  induction k generalizing d with
  | zero => simp [hptX, In, p2]
  | succ k ih =>
    simp only [p4] at d1
    have hp := p2_pos k
    unfold In
    rw [hptX, p2]
    split
    · obtain ⟨a, b, c, e⟩ := ih d d0 (by omega); simp only; omega
    · split
      · obtain ⟨a, b, c, e⟩ := ih (d - p4 k) (by omega) (by omega); simp only; omega
      · split
        · obtain ⟨a, b, c, e⟩ := ih (d - 2 * p4 k) (by omega) (by omega); simp only; omega
        · obtain ⟨a, b, c, e⟩ := ih (d - 3 * p4 k) (by omega) (by omega); simp only; omega
theorem hpl_hpt (k : Nat) (d : Int) (d0 : 0 ≤ d) (d1 : d < p4 k) : hpl k (hptX k d).1 (hptX k d).2 = d := by
  induction k generalizing d with
  | zero => simp only [p4] at d1; simp only [hpl]; omega
  | succ k ih =>
    simp only [p4] at d1
    have hp := p2_pos k
    rw [hptX, hpl]
    split
    · obtain ⟨a, b, c, e⟩ := hpt_in k d d0 (by omega)
      simp only
      rw [if_pos (by omega), if_pos (by omega), ih d d0 (by omega)]
    · split
      · obtain ⟨a, b, c, e⟩ := hpt_in k (d - p4 k) (by omega) (by omega)
        simp only
        rw [if_pos (by omega), if_neg (by omega), show (hptX k (d - p4 k)).2 + p2 k - p2 k = (hptX k (d - p4 k)).2 from by omega, ih _ (by omega) (by omega)]
        omega
      · split
        · obtain ⟨a, b, c, e⟩ := hpt_in k (d - 2 * p4 k) (by omega) (by omega)
          simp only
          rw [if_neg (by omega), if_pos (by omega), show (hptX k (d - 2 * p4 k)).1 + p2 k - p2 k = (hptX k (d - 2 * p4 k)).1 from by omega, show (hptX k (d - 2 * p4 k)).2 + p2 k - p2 k = (hptX k (d - 2 * p4 k)).2 from by omega, ih _ (by omega) (by omega)]
          omega
        · obtain ⟨a, b, c, e⟩ := hpt_in k (d - 3 * p4 k) (by omega) (by omega)
          simp only
          rw [if_neg (by omega), if_neg (by omega), show p2 k - 1 - (p2 k - 1 - (hptX k (d - 3 * p4 k)).1) = (hptX k (d - 3 * p4 k)).1 from by omega, show p2 k - 1 - (2 * p2 k - 1 - (hptX k (d - 3 * p4 k)).2 - p2 k) = (hptX k (d - 3 * p4 k)).2 from by omega, ih _ (by omega) (by omega)]
          omega
theorem hpt_hpl (k : Nat) (x y : Int) (h : In k x y) : hptX k (hpl k x y) = (x, y) := by
  induction k generalizing x y with
  | zero =>
    obtain ⟨x0, x1, y0, y1⟩ := h
    simp only [p2] at x1 y1
    rw [hptX]; exact pr (by omega) (by omega)
  | succ k ih =>
    obtain ⟨x0, x1, y0, y1⟩ := h
    simp only [p2] at x1 y1
    rw [hpl]
    split
    · split
      · have hb := hpl_bd k y x ⟨by omega, by omega, by omega, by omega⟩
        rw [hptX, if_pos (by omega), ih y x ⟨by omega, by omega, by omega, by omega⟩]
      · have hb := hpl_bd k x (y - p2 k) ⟨by omega, by omega, by omega, by omega⟩
        rw [hptX, if_neg (by omega), if_pos (by omega), show p4 k + hpl k x (y - p2 k) - p4 k = hpl k x (y - p2 k) from by omega, ih x (y - p2 k) ⟨by omega, by omega, by omega, by omega⟩]
        exact pr (by omega) (by omega)
    · split
      · have hb := hpl_bd k (x - p2 k) (y - p2 k) ⟨by omega, by omega, by omega, by omega⟩
        rw [hptX, if_neg (by omega), if_neg (by omega), if_pos (by omega), show 2 * p4 k + hpl k (x - p2 k) (y - p2 k) - 2 * p4 k = hpl k (x - p2 k) (y - p2 k) from by omega, ih (x - p2 k) (y - p2 k) ⟨by omega, by omega, by omega, by omega⟩]
        exact pr (by omega) (by omega)
      · have hb := hpl_bd k (p2 k - 1 - y) (p2 k - 1 - (x - p2 k)) ⟨by omega, by omega, by omega, by omega⟩
        rw [hptX, if_neg (by omega), if_neg (by omega), if_neg (by omega), show 3 * p4 k + hpl k (p2 k - 1 - y) (p2 k - 1 - (x - p2 k)) - 3 * p4 k = hpl k (p2 k - 1 - y) (p2 k - 1 - (x - p2 k)) from by omega, ih (p2 k - 1 - y) (p2 k - 1 - (x - p2 k)) ⟨by omega, by omega, by omega, by omega⟩]
        exact pr (by omega) (by omega)
/-- The way begins at (0, 0) and ends at the end of the first row. -/
theorem hpt_first (k : Nat) : hptX k 0 = (0, 0) := by
  induction k with
  | zero => rfl
  | succ k ih =>
    have := p4_pos k
    rw [hptX, if_pos (by omega), ih]
theorem hpt_last (k : Nat) : hptX k (p4 k - 1) = (p2 k - 1, 0) := by
  induction k with
  | zero => rfl
  | succ k ih =>
    have := p4_pos k
    rw [hptX, if_neg (by simp only [p4]; omega), if_neg (by simp only [p4]; omega), if_neg (by simp only [p4]; omega), p4, show 4 * p4 k - 1 - 3 * p4 k = p4 k - 1 from by omega, ih, p2]
    exact pr (by omega) (by omega)
/-- From neighbour to neighbour. -/
def Near (a b : Int × Int) : Prop := (a.1 = b.1 ∧ (a.2 = b.2 + 1 ∨ b.2 = a.2 + 1)) ∨ (a.2 = b.2 ∧ (a.1 = b.1 + 1 ∨ b.1 = a.1 + 1))
theorem hpt_near (k : Nat) (d : Int) (d0 : 0 ≤ d) (d1 : d + 1 < p4 k) : Near (hptX k d) (hptX k (d + 1)) := by
  induction k generalizing d with
  | zero => simp only [p4] at d1; omega
  | succ k ih =>
    simp only [p4] at d1
    have hp := p2_pos k
    have h4 := p4_pos k
    have hf := hpt_first k
    have hl := hpt_last k
    by_cases q0 : d < p4 k
    · by_cases r : d + 1 < p4 k
      · have := ih d d0 r
        rw [hptX, hptX, if_pos q0, if_pos r]
        unfold Near at *; dsimp only; omega
      · obtain rfl : d = p4 k - 1 := by omega
        rw [hptX, hptX, if_pos q0, if_neg (by omega), if_pos (by omega), show p4 k - 1 + 1 - p4 k = 0 from by omega, hf, hl]
        unfold Near; dsimp only; omega
    · by_cases q1 : d < 2 * p4 k
      · by_cases r : d + 1 < 2 * p4 k
        · have := ih (d - p4 k) (by omega) (by omega)
          rw [hptX, hptX, if_neg q0, if_pos q1, if_neg (by omega), if_pos r, show d + 1 - p4 k = d - p4 k + 1 from by omega]
          unfold Near at *; dsimp only; omega
        · obtain rfl : d = 2 * p4 k - 1 := by omega
          rw [hptX, hptX, if_neg q0, if_pos q1, if_neg (by omega), if_neg (by omega), if_pos (by omega), show 2 * p4 k - 1 - p4 k = p4 k - 1 from by omega, show 2 * p4 k - 1 + 1 - 2 * p4 k = 0 from by omega, hf, hl]
          unfold Near; dsimp only; omega
      · by_cases q2 : d < 3 * p4 k
        · by_cases r : d + 1 < 3 * p4 k
          · have := ih (d - 2 * p4 k) (by omega) (by omega)
            rw [hptX, hptX, if_neg q0, if_neg q1, if_pos q2, if_neg (by omega), if_neg (by omega), if_pos r, show d + 1 - 2 * p4 k = d - 2 * p4 k + 1 from by omega]
            unfold Near at *; dsimp only; omega
          · obtain rfl : d = 3 * p4 k - 1 := by omega
            rw [hptX, hptX, if_neg q0, if_neg q1, if_pos q2, if_neg (by omega), if_neg (by omega), if_neg (by omega), show 3 * p4 k - 1 - 2 * p4 k = p4 k - 1 from by omega, show 3 * p4 k - 1 + 1 - 3 * p4 k = 0 from by omega, hf, hl]
            unfold Near; dsimp only; omega
        · have := ih (d - 3 * p4 k) (by omega) (by omega)
          rw [hptX, hptX, if_neg q0, if_neg q1, if_neg q2, if_neg (by omega), if_neg (by omega), if_neg (by omega), show d + 1 - 3 * p4 k = d - 3 * p4 k + 1 from by omega]
          unfold Near at *; dsimp only; omega
/-- A place by four is the place in the zoom ahead. -/
theorem hpl_succ (k : Nat) (x y : Int) : hpl (k + 1) x y = if x < p2 k then (if y < p2 k then hpl k y x else p4 k + hpl k x (y - p2 k)) else if p2 k ≤ y then 2 * p4 k + hpl k (x - p2 k) (y - p2 k) else 3 * p4 k + hpl k (p2 k - 1 - y) (p2 k - 1 - (x - p2 k)) := rfl
theorem hpl_quarter (k : Nat) (x y : Int) (h : In (k + 1) x y) : hpl (k + 1) x y / 4 = hpl k (x / 2) (y / 2) := by
  induction k generalizing x y with
  | zero =>
    have := hpl_bd 1 x y h
    simp only [p4] at this
    rw [show hpl 0 (x / 2) (y / 2) = 0 from rfl]
    simp only [Nat.zero_add] at *
    omega
  | succ k ih =>
    obtain ⟨x0, x1, y0, y1⟩ := h
    have e1 : p2 (k + 1 + 1) = 2 * p2 (k + 1) := rfl
    have e2 : p2 (k + 1) = 2 * p2 k := rfl
    have e4 : p4 (k + 1) = 4 * p4 k := rfl
    rw [hpl_succ (k + 1) x y, hpl_succ k (x / 2) (y / 2)]
    by_cases hx : x < p2 (k + 1)
    · rw [if_pos hx, if_pos (by omega : x / 2 < p2 k)]
      by_cases hy : y < p2 (k + 1)
      · rw [if_pos hy, if_pos (by omega : y / 2 < p2 k)]
        exact ih y x ⟨by omega, by omega, by omega, by omega⟩
      · rw [if_neg hy, if_neg (by omega : ¬ y / 2 < p2 k)]
        have := ih x (y - p2 (k + 1)) ⟨by omega, by omega, by omega, by omega⟩
        rw [show (y - p2 (k + 1)) / 2 = y / 2 - p2 k from by omega] at this
        omega
    · rw [if_neg hx, if_neg (by omega : ¬ x / 2 < p2 k)]
      by_cases hy : p2 (k + 1) ≤ y
      · rw [if_pos hy, if_pos (by omega : p2 k ≤ y / 2)]
        have := ih (x - p2 (k + 1)) (y - p2 (k + 1)) ⟨by omega, by omega, by omega, by omega⟩
        rw [show (y - p2 (k + 1)) / 2 = y / 2 - p2 k from by omega, show (x - p2 (k + 1)) / 2 = x / 2 - p2 k from by omega] at this
        omega
      · rw [if_neg hy, if_neg (by omega : ¬ p2 k ≤ y / 2)]
        have := ih (p2 (k + 1) - 1 - y) (p2 (k + 1) - 1 - (x - p2 (k + 1))) ⟨by omega, by omega, by omega, by omega⟩
        rw [show (p2 (k + 1) - 1 - y) / 2 = p2 k - 1 - y / 2 from by omega, show (p2 (k + 1) - 1 - (x - p2 (k + 1))) / 2 = p2 k - 1 - (x / 2 - p2 k) from by omega] at this
        omega
/-- Two tiles of one place are one. -/
theorem hpl_inj (k : Nat) (x y x' y' : Int) (h : In k x y) (h' : In k x' y') (e : hpl k x y = hpl k x' y') : x = x' ∧ y = y' := by
  have a := hpt_hpl k x y h
  have b := hpt_hpl k x' y' h'
  rw [e, b] at a
  simp only [Prod.mk.injEq] at a
  omega
/-- Quotient and rest by a letter. -/
theorem div_rest (a q r : Int) (h0 : 0 ≤ r) (h1 : r < a) : (q * a + r) / a = q ∧ (q * a + r) % a = r := by
  have ha : a ≠ 0 := by omega
  refine ⟨?_, ?_⟩
  · rw [Int.add_comm, Int.add_mul_ediv_right _ _ ha, Int.ediv_eq_zero_of_lt h0 h1]; omega
  · rw [Int.add_comm, Int.add_mul_emod_self_right, Int.emod_eq_of_lt h0 h1]
end Go.Proofs.Ytmmjdlpoiibhaaa
