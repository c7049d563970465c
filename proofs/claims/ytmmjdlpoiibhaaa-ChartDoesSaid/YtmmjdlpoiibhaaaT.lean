/- Plain arithmetic of tile identifiers: how many tiles the zooms ahead have, the zoom of an identifier, the four tiles in a tile by rising places, the tile some zooms ahead, and the places of a zoom that lie in a tile. No Go in sight. -/
import Derived.Test.YtmmjdlpoiibhaaaM
namespace Go.Proofs.Ytmmjdlpoiibhaaa
set_option linter.unusedVariables false
/-- How many tiles the zooms below k have. -/
def bas : Nat → Int
  | 0 => 0
  | k + 1 => bas k + p4 k
theorem bas_three (k : Nat) : 3 * bas k + 1 = p4 k := by
  induction k with
  | zero => rfl
  | succ k ih => simp only [bas, p4]; omega
theorem bas_mono (a b : Nat) (h : a ≤ b) : bas a ≤ bas b := by
  induction h with
  | refl => exact Int.le_refl _
  | step h ih => rename_i m; simp only [bas]; have := p4_pos m; omega
theorem bas_nn (k : Nat) : 0 ≤ bas k := bas_mono 0 k (Nat.zero_le _)
theorem bas_all : bas 27 = 6004799503160661 := by decide
theorem bas_lt (a b : Nat) (h : bas a < bas b) : a < b := by
  apply Nat.lt_of_not_le
  intro hh
  have := bas_mono b a hh
  omega
/-- The zoom of an identifier, looked for from k - 1 down; -1 where there is none. -/
def zof : Nat → Int → Int
  | 0, _ => -1
  | k + 1, d => if bas k ≤ d ∧ d < bas (k + 1) then k else zof k d
theorem zof_at (n k : Nat) (d : Int) (h : k < n) (h0 : bas k ≤ d) (h1 : d < bas (k + 1)) : zof n d = k := by
  induction n with
  | zero => omega
  | succ n ih =>
    rw [zof]
    by_cases e : k = n
    · subst e; rw [if_pos ⟨h0, h1⟩]
    · rw [if_neg, ih (by omega)]
      intro hh
      have := bas_mono (k + 1) n (by omega)
      omega
theorem zof_no (n : Nat) (d : Int) (h : ¬ (0 ≤ d ∧ d < bas n)) : zof n d = -1 := by
  induction n with
  | zero => rfl
  | succ n ih =>
    have := p4_pos n
    have := bas_nn n
    rw [zof, if_neg, ih]
    · simp only [bas] at h; omega
    · simp only [bas] at h ⊢; omega
theorem zof_ex (n : Nat) (d : Int) (h0 : 0 ≤ d) (h1 : d < bas n) : ∃ k, k < n ∧ bas k ≤ d ∧ d < bas (k + 1) ∧ zof n d = k := by
  induction n with
  | zero => simp only [bas] at h1; omega
  | succ n ih =>
    by_cases h : d < bas n
    · obtain ⟨k, a, b, c, e⟩ := ih h
      exact ⟨k, by omega, b, c, zof_at (n + 1) k d (by omega) b c⟩
    · exact ⟨n, by omega, by omega, h1, zof_at (n + 1) n d (by omega) (by omega) h1⟩
/-- What a tile of the next zoom lies in. -/
theorem hpt_half (k : Nat) (d : Int) (d0 : 0 ≤ d) (d1 : d < p4 (k + 1)) : (hptX (k + 1) d).1 / 2 = (hptX k (d / 4)).1 ∧ (hptX (k + 1) d).2 / 2 = (hptX k (d / 4)).2 := by
  have hi := hpt_in (k + 1) d d0 d1
  have hq := hpl_quarter k _ _ hi
  rw [hpl_hpt (k + 1) d d0 d1] at hq
  obtain ⟨a, b, c, e⟩ := hi
  simp only [p2] at b e
  have hb := hpt_hpl k ((hptX (k + 1) d).1 / 2) ((hptX (k + 1) d).2 / 2) ⟨by omega, by omega, by omega, by omega⟩
  rw [← hq] at hb
  rw [hb]
  exact ⟨rfl, rfl⟩
theorem lies_in (k : Nat) (x y u v : Int) (h : In k x y) (g : In (k + 1) u v) : (u / 2 = x ∧ v / 2 = y) ↔ hpl (k + 1) u v / 4 = hpl k x y := by
  have hq := hpl_quarter k u v g
  obtain ⟨a, b, c, e⟩ := g
  simp only [p2] at b e
  constructor
  · rintro ⟨rfl, rfl⟩; exact hq
  · intro hh
    rw [hq] at hh
    exact hpl_inj k _ _ _ _ ⟨by omega, by omega, by omega, by omega⟩ h hh
/-- Some zooms ahead. -/
theorem p2_add (a b : Nat) : p2 (a + b) = p2 a * p2 b := by
  induction b with
  | zero => simp [p2]
  | succ b ih => rw [← Nat.add_assoc, p2, p2, ih, Int.mul_left_comm]
theorem p4_add (a b : Nat) : p4 (a + b) = p4 a * p4 b := by
  induction b with
  | zero => simp [p4]
  | succ b ih => rw [← Nat.add_assoc, p4, p4, ih, Int.mul_left_comm]
theorem div_p2 (x : Int) (n : Nat) : x / p2 (n + 1) = x / 2 / p2 n := by
  rw [p2, Int.ediv_ediv_of_nonneg (by omega)]
theorem div_p4 (x : Int) (n : Nat) : x / p4 (n + 1) = x / 4 / p4 n := by
  rw [p4, Int.ediv_ediv_of_nonneg (by omega)]
theorem in_half (k : Nat) (x y : Int) (h : In (k + 1) x y) : In k (x / 2) (y / 2) := by
  obtain ⟨a, b, c, e⟩ := h
  simp only [p2] at b e
  exact ⟨by omega, by omega, by omega, by omega⟩
theorem in_up (k n : Nat) (x y : Int) (h : In (k + n) x y) : In k (x / p2 n) (y / p2 n) := by
  induction n generalizing x y with
  | zero => simpa [p2] using h
  | succ n ih =>
    rw [div_p2, div_p2]
    exact ih _ _ (in_half (k + n) x y h)
theorem hpl_up (k n : Nat) (x y : Int) (h : In (k + n) x y) : hpl k (x / p2 n) (y / p2 n) = hpl (k + n) x y / p4 n := by
  induction n generalizing x y with
  | zero => simp [p2, p4]
  | succ n ih =>
    rw [div_p2, div_p2, div_p4, ih _ _ (in_half (k + n) x y h)]
    rw [← hpl_quarter (k + n) x y h]
    rfl
/-- A tile lies in another one, some zooms ahead, just if its place lies in the other one's. -/
theorem over_iff (k n : Nat) (x y u v : Int) (h : In k x y) (g : In (k + n) u v) : (u / p2 n = x ∧ v / p2 n = y) ↔ (hpl k x y * p4 n ≤ hpl (k + n) u v ∧ hpl (k + n) u v < hpl k x y * p4 n + p4 n) := by
  have hu := hpl_up k n u v g
  have hp := p4_pos n
  have hb := hpl_bd (k + n) u v g
  constructor
  · rintro ⟨rfl, rfl⟩
    rw [hu]
    have e := Int.mul_ediv_add_emod (hpl (k + n) u v) (p4 n)
    have r0 := Int.emod_nonneg (hpl (k + n) u v) (show p4 n ≠ 0 by omega)
    have r1 := Int.emod_lt_of_pos (hpl (k + n) u v) (show 0 < p4 n by omega)
    rw [Int.mul_comm] at e
    omega
  · rintro ⟨a, b⟩
    have hd := (div_rest (p4 n) (hpl k x y) (hpl (k + n) u v - hpl k x y * p4 n) (by omega) (by omega)).1
    rw [show hpl k x y * p4 n + (hpl (k + n) u v - hpl k x y * p4 n) = hpl (k + n) u v from by omega] at hd
    rw [hd] at hu
    exact hpl_inj k _ _ _ _ (in_up k n u v g) h hu
/-- The i-th of the four tiles in a tile, by rising places. -/
def kid (k : Nat) (x y : Int) (i : Int) : Int × Int := hptX (k + 1) (4 * hpl k x y + i)
theorem kid_facts (k : Nat) (x y i : Int) (h : In k x y) (i0 : 0 ≤ i) (i1 : i < 4) :
    In (k + 1) (kid k x y i).1 (kid k x y i).2 ∧ hpl (k + 1) (kid k x y i).1 (kid k x y i).2 = 4 * hpl k x y + i ∧ (kid k x y i).1 / 2 = x ∧ (kid k x y i).2 / 2 = y := by
  have hb := hpl_bd k x y h
  have d1 : 4 * hpl k x y + i < p4 (k + 1) := by simp only [p4]; omega
  have hi := hpt_in (k + 1) _ (by omega) d1
  have hh := hpl_hpt (k + 1) _ (by omega) d1
  have hf := hpt_half (k + 1 - 1) _ (by omega) d1
  rw [show (k + 1 - 1) = k from rfl, show (4 * hpl k x y + i) / 4 = hpl k x y from by omega, hpt_hpl k x y h] at hf
  exact ⟨hi, hh, hf.1, hf.2⟩
theorem kid_of (k : Nat) (x y u v : Int) (h : In k x y) (hu : u = 2 * x ∨ u = 2 * x + 1) (hv : v = 2 * y ∨ v = 2 * y + 1) :
    In (k + 1) u v ∧ ∃ i : Int, 0 ≤ i ∧ i < 4 ∧ hpl (k + 1) u v = 4 * hpl k x y + i ∧ (u, v) = kid k x y i := by
  have hg : In (k + 1) u v := by
    obtain ⟨a, b, c, e⟩ := h
    exact ⟨by omega, by simp only [p2]; omega, by omega, by simp only [p2]; omega⟩
  have hq := (lies_in k x y u v h hg).1 ⟨by omega, by omega⟩
  have hb := hpl_bd (k + 1) u v hg
  refine ⟨hg, hpl (k + 1) u v - 4 * hpl k x y, by omega, by omega, by omega, ?_⟩
  unfold kid
  rw [show 4 * hpl k x y + (hpl (k + 1) u v - 4 * hpl k x y) = hpl (k + 1) u v from by omega, hpt_hpl (k + 1) u v hg]
/-- The least and the greatest place, n zooms on. -/
theorem kid_first (k : Nat) (x y : Int) (n : Nat) : (4 * (hpl k x y * p4 n) = hpl k x y * p4 (n + 1)) ∧ (4 * (hpl k x y * p4 n + p4 n - 1) + 3 = hpl k x y * p4 (n + 1) + p4 (n + 1) - 1) := by
  have e : hpl k x y * p4 (n + 1) = 4 * (hpl k x y * p4 n) := by rw [p4, Int.mul_left_comm]
  refine ⟨e.symm, ?_⟩
  rw [e, p4]
  omega
end Go.Proofs.Ytmmjdlpoiibhaaa
