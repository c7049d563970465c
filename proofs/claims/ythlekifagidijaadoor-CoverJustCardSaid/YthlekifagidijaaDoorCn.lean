/- Plain counting: how many places of a square lie in a rectangle (its width by its height), and how many a plain list of intervals has. No Go in sight. -/
import Derived.Test.YthlekifagidijaaDoorM
import Derived.Test.YthlekifagidijaaDoorCv
namespace Go.Proofs.YthlekifagidijaaDoor
set_option linter.unusedVariables false
/-- f of 0 to n - 1, all together. -/
def sumI (f : Int → Int) : Nat → Int
  | 0 => 0
  | n + 1 => sumI f n + f n
theorem sum_congr (f g : Int → Int) (n : Nat) (h : ∀ i : Nat, i < n → f i = g i) : sumI f n = sumI g n := by
  induction n with
  | zero => rfl
  | succ n ih => rw [sumI, sumI, ih (fun i hi => h i (by omega)), h n (by omega)]
theorem sum_add (f : Int → Int) (a b : Nat) : sumI f (a + b) = sumI f a + sumI (fun i => f (a + i)) b := by
  induction b with
  | zero => simp [sumI]
  | succ b ih =>
    rw [← Nat.add_assoc, sumI, ih, sumI]
    simp only [Int.natCast_add]
    omega
theorem sum_zero (f : Int → Int) (n : Nat) (h : ∀ i : Nat, i < n → f i = 0) : sumI f n = 0 := by
  induction n with
  | zero => rfl
  | succ n ih => rw [sumI, ih (fun i hi => h i (by omega)), h n (by omega)]; rfl
theorem sum_one (f : Int → Int) (n : Nat) (h : ∀ i : Nat, i < n → f i = 1) : sumI f n = n := by
  induction n with
  | zero => rfl
  | succ n ih => rw [sumI, ih (fun i hi => h i (by omega)), h n (by omega)]; omega
/-- Is it in the rectangle? -/
def inR (x0 x1 y0 y1 : Int) (t : Int × Int) : Int := if x0 ≤ t.1 ∧ t.1 ≤ x1 ∧ y0 ≤ t.2 ∧ t.2 ≤ y1 then 1 else 0
theorem inR_eq (x0 x1 y0 y1 u0 u1 v0 v1 : Int) (s t : Int × Int) (h : (x0 ≤ s.1 ∧ s.1 ≤ x1 ∧ y0 ≤ s.2 ∧ s.2 ≤ y1) ↔ (u0 ≤ t.1 ∧ t.1 ≤ u1 ∧ v0 ≤ t.2 ∧ t.2 ≤ v1)) : inR x0 x1 y0 y1 s = inR u0 u1 v0 v1 t := by
  unfold inR
  by_cases g : u0 ≤ t.1 ∧ t.1 ≤ u1 ∧ v0 ≤ t.2 ∧ t.2 ≤ v1
  · rw [if_pos g, if_pos (h.2 g)]
  · rw [if_neg g, if_neg (fun e => g (h.1 e))]
/-- How much of a stretch lies within the side. -/
def wid (p a b : Int) : Int := max 0 (min b (p - 1) - max a 0 + 1)
theorem wid_two (p a b : Int) (hp : 1 ≤ p) : wid (2 * p) a b = wid p a b + wid p (a - p) (b - p) := by unfold wid; omega
theorem wid_turn (p a b : Int) : wid p (p - 1 - b) (p - 1 - a) = wid p a b := by unfold wid; omega
theorem wid_turn2 (p a b : Int) : wid p (2 * p - 1 - b) (2 * p - 1 - a) = wid p (a - p) (b - p) := by unfold wid; omega
theorem four_areas (A A' B B' : Int) : B * A + A * B' + A' * B' + B * A' = (A + A') * (B + B') := by
  rw [Int.add_mul, Int.mul_add, Int.mul_add, Int.mul_comm B A, Int.mul_comm B A']
  omega
theorem p4n (k : Nat) : (((p4 k).toNat : Nat) : Int) = p4 k := by have := p4_pos k; omega
theorem area (k : Nat) (x0 x1 y0 y1 : Int) : sumI (fun d => inR x0 x1 y0 y1 (hptX k d)) (p4 k).toNat = wid (p2 k) x0 x1 * wid (p2 k) y0 y1 := by
  induction k generalizing x0 x1 y0 y1 with
  | zero =>
    show (0 : Int) + inR x0 x1 y0 y1 (0, 0) = wid 1 x0 x1 * wid 1 y0 y1
    unfold inR
    by_cases hx : x0 ≤ 0 ∧ 0 ≤ x1
    · have e1 : wid 1 x0 x1 = 1 := by unfold wid; omega
      by_cases hy : y0 ≤ 0 ∧ 0 ≤ y1
      · rw [if_pos ⟨hx.1, hx.2, hy.1, hy.2⟩, e1, show wid 1 y0 y1 = 1 from by unfold wid; omega]; rfl
      · rw [if_neg (fun h => hy ⟨h.2.2.1, h.2.2.2⟩), show wid 1 y0 y1 = 0 from by unfold wid; omega]; omega
    · rw [if_neg (fun h => hx ⟨h.1, h.2.1⟩), show wid 1 x0 x1 = 0 from by unfold wid; omega]; omega
  | succ k ih =>
    have hp := p2_pos k
    have h4 := p4_pos k
    have hn := p4n k
    have e4 : (p4 (k + 1)).toNat = (p4 k).toNat + ((p4 k).toNat + ((p4 k).toNat + (p4 k).toNat)) := by
      have : p4 (k + 1) = 4 * p4 k := rfl
      omega
    rw [e4, sum_add, sum_add, sum_add, show p2 (k + 1) = 2 * p2 k from rfl, wid_two _ _ _ hp, wid_two _ _ _ hp, ← four_areas]
    have q0 : sumI (fun d => inR x0 x1 y0 y1 (hptX (k + 1) d)) (p4 k).toNat = wid (p2 k) y0 y1 * wid (p2 k) x0 x1 := by
      rw [← ih]
      refine sum_congr _ _ _ (fun i hi => ?_)
      show inR x0 x1 y0 y1 (hptX (k + 1) i) = inR y0 y1 x0 x1 (hptX k i)
      rw [hptX, if_pos (by omega)]
      exact inR_eq _ _ _ _ _ _ _ _ _ _ (by dsimp only; omega)
    have q1 : sumI (fun d => inR x0 x1 y0 y1 (hptX (k + 1) ((p4 k).toNat + d))) (p4 k).toNat = wid (p2 k) x0 x1 * wid (p2 k) (y0 - p2 k) (y1 - p2 k) := by
      rw [← ih]
      refine sum_congr _ _ _ (fun i hi => ?_)
      show inR x0 x1 y0 y1 (hptX (k + 1) (((p4 k).toNat : Nat) + i)) = inR x0 x1 (y0 - p2 k) (y1 - p2 k) (hptX k i)
      rw [hn, hptX, if_neg (by omega), if_pos (by omega), show p4 k + (i : Int) - p4 k = i from by omega]
      exact inR_eq _ _ _ _ _ _ _ _ _ _ (by dsimp only; omega)
    have q2 : sumI (fun d => inR x0 x1 y0 y1 (hptX (k + 1) ((p4 k).toNat + ((p4 k).toNat + d)))) (p4 k).toNat = wid (p2 k) (x0 - p2 k) (x1 - p2 k) * wid (p2 k) (y0 - p2 k) (y1 - p2 k) := by
      rw [← ih]
      refine sum_congr _ _ _ (fun i hi => ?_)
      show inR x0 x1 y0 y1 (hptX (k + 1) (((p4 k).toNat : Nat) + (((p4 k).toNat : Nat) + i))) = inR (x0 - p2 k) (x1 - p2 k) (y0 - p2 k) (y1 - p2 k) (hptX k i)
      rw [hn, hptX, if_neg (by omega), if_neg (by omega), if_pos (by omega), show p4 k + (p4 k + (i : Int)) - 2 * p4 k = i from by omega]
      exact inR_eq _ _ _ _ _ _ _ _ _ _ (by dsimp only; omega)
    have q3 : sumI (fun d => inR x0 x1 y0 y1 (hptX (k + 1) ((p4 k).toNat + ((p4 k).toNat + ((p4 k).toNat + d))))) (p4 k).toNat = wid (p2 k) y0 y1 * wid (p2 k) (x0 - p2 k) (x1 - p2 k) := by
      rw [← wid_turn, ← wid_turn2, ← ih]
      refine sum_congr _ _ _ (fun i hi => ?_)
      show inR x0 x1 y0 y1 (hptX (k + 1) (((p4 k).toNat : Nat) + (((p4 k).toNat : Nat) + (((p4 k).toNat : Nat) + i)))) = inR (p2 k - 1 - y1) (p2 k - 1 - y0) (2 * p2 k - 1 - x1) (2 * p2 k - 1 - x0) (hptX k i)
      rw [hn, hptX, if_neg (by omega), if_neg (by omega), if_neg (by omega), show p4 k + (p4 k + (p4 k + (i : Int))) - 3 * p4 k = i from by omega]
      exact inR_eq _ _ _ _ _ _ _ _ _ _ (by dsimp only; omega)
    rw [q0, q1, q2, q3]
    omega
/-- A rectangle that lies in the square. -/
theorem area_in (k : Nat) (x0 x1 y0 y1 : Int) (h0 : 0 ≤ x0) (h1 : x0 ≤ x1) (h2 : x1 < p2 k) (g0 : 0 ≤ y0) (g1 : y0 ≤ y1) (g2 : y1 < p2 k) : sumI (fun d => inR x0 x1 y0 y1 (hptX k d)) (p4 k).toNat = (x1 - x0 + 1) * (y1 - y0 + 1) := by
  rw [area, show wid (p2 k) x0 x1 = x1 - x0 + 1 from by unfold wid; omega, show wid (p2 k) y0 y1 = y1 - y0 + 1 from by unfold wid; omega]
/-- How many a list has, each counted as often as it is had. -/
def tot : List (Int × Int) → Int
  | [] => 0
  | s :: l => (if s.1 ≤ s.2 then s.2 - s.1 + 1 else 0) + tot l
def memB (l : List (Int × Int)) (d : Int) : Bool := l.any (fun s => decide (s.1 ≤ d) && decide (d ≤ s.2))
theorem memB_iff (l : List (Int × Int)) (d : Int) : memB l d = true ↔ Mem l d := by
  unfold memB Mem
  rw [List.any_eq_true]
  constructor
  · rintro ⟨s, hs, h⟩
    rw [Bool.and_eq_true, decide_eq_true_iff, decide_eq_true_iff] at h
    exact ⟨s, hs, h⟩
  · rintro ⟨s, hs, h⟩
    exact ⟨s, hs, by rw [Bool.and_eq_true, decide_eq_true_iff, decide_eq_true_iff]; exact h⟩
def memI (l : List (Int × Int)) (d : Int) : Int := if memB l d then 1 else 0
theorem memI_no (l : List (Int × Int)) (d : Int) (h : ¬ Mem l d) : memI l d = 0 := if_neg (fun e => h ((memB_iff l d).1 e))
theorem memI_yes (l : List (Int × Int)) (d : Int) (h : Mem l d) : memI l d = 1 := if_pos ((memB_iff l d).2 h)
/-- A plain list has as many as its intervals are long. -/
theorem tot_sum (l : List (Int × Int)) (L : Int) (N : Nat) (hl : Pl l) (h : ∀ s ∈ l, L ≤ s.1 ∧ s.2 < L + N) : sumI (fun i => memI l (L + i)) N = tot l := by
  induction l generalizing L N with
  | nil => exact sum_zero (fun i => memI [] (L + i)) N (fun i hi => memI_no [] _ (mem_nil _))
  | cons s l ih =>
    obtain ⟨s0, s1⟩ := pl_head hl
    obtain ⟨b0, b1⟩ := h s List.mem_cons_self
    obtain ⟨a, ha⟩ : ∃ a : Nat, s.1 = L + a := ⟨(s.1 - L).toNat, by omega⟩
    obtain ⟨c, hc⟩ : ∃ c : Nat, s.2 + 1 = s.1 + c := ⟨(s.2 + 1 - s.1).toNat, by omega⟩
    obtain ⟨m, hm⟩ : ∃ m : Nat, N = a + (c + m) := ⟨N - a - c, by omega⟩
    rw [hm, sum_add, sum_add, tot, if_pos s0]
    have e1 : sumI (fun i => memI (s :: l) (L + i)) a = 0 := sum_zero _ _ (fun i hi => memI_no _ _ (fun hm => by
      rcases (mem_cons s l _).1 hm with g | g
      · omega
      · have := s1 _ g; omega))
    have e2 : sumI (fun i => memI (s :: l) (L + (a + i))) c = c := sum_one _ _ (fun i hi => memI_yes _ _ ((mem_cons s l _).2 (.inl ⟨by omega, by omega⟩)))
    have e3 : sumI (fun i => memI (s :: l) (L + (a + (c + i)))) m = tot l := by
      rw [← ih (L + a + c) m (pl_tail hl) (fun t ht => ⟨by have := (List.pairwise_cons.1 hl.2).1 t ht; omega, by have := (h t (List.mem_cons_of_mem _ ht)).2; omega⟩)]
      refine sum_congr _ _ _ (fun i hi => ?_)
      show memI (s :: l) (L + (a + (c + i))) = memI l (L + a + c + i)
      rw [show L + ((a : Int) + (c + i)) = L + a + c + i from by omega]
      by_cases g : Mem l (L + a + c + i)
      · rw [memI_yes l _ g, memI_yes _ _ ((mem_cons s l _).2 (.inr g))]
      · rw [memI_no l _ g, memI_no _ _ (fun e => by
          rcases (mem_cons s l _).1 e with g' | g'
          · omega
          · exact g g')]
    rw [e1, e2, e3]
    omega
end Go.Proofs.YthlekifagidijaaDoor
