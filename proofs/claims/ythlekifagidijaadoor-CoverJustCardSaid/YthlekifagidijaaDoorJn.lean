/- Plain: intervals that come by rising beginnings, joined one by one (joinP), till the list is long enough (feed); what becomes of them is plain and has just what they have. And the intervals of a rectangle's tiles that lie in a tile (wl), as a way down the quarters tells them. No Go in sight. -/
import Derived.Test.YthlekifagidijaaDoorCv
import Derived.Test.YthlekifagidijaaDoorT
namespace Go.Proofs.YthlekifagidijaaDoor
set_option linter.unusedVariables false
/-- One more, that begins no sooner. -/
def joinP (L : List (Int × Int)) (s : Int × Int) : List (Int × Int) :=
  match L.getLast? with
  | none => [s]
  | some t => if s.1 ≤ t.2 + 1 then L.dropLast ++ [(t.1, max t.2 s.2)] else L ++ [s]
theorem join_nil (s : Int × Int) : joinP [] s = [s] := rfl
theorem join_to (M : List (Int × Int)) (t s : Int × Int) (h : s.1 ≤ t.2 + 1) : joinP (M ++ [t]) s = M ++ [(t.1, max t.2 s.2)] := by
  unfold joinP
  rw [List.getLast?_append, List.getLast?_singleton]
  simp only [Option.some_or]
  rw [if_pos h, List.dropLast_concat]
theorem join_on (M : List (Int × Int)) (t s : Int × Int) (h : ¬ s.1 ≤ t.2 + 1) : joinP (M ++ [t]) s = M ++ [t] ++ [s] := by
  unfold joinP
  rw [List.getLast?_append, List.getLast?_singleton]
  simp only [Option.some_or]
  rw [if_neg h]
theorem last_cases (L : List (Int × Int)) : L = [] ∨ ∃ M t, L = M ++ [t] := by
  rcases List.eq_nil_or_concat L with h | ⟨M, t, h⟩
  · exact .inl h
  · exact .inr ⟨M, t, by rw [h, List.concat_eq_append]⟩
theorem mem_one (s : Int × Int) (d : Int) : Mem [s] d ↔ s.1 ≤ d ∧ d ≤ s.2 := by
  rw [mem_cons]; exact ⟨fun h => h.elim id (fun h => absurd h (mem_nil d)), .inl⟩
theorem join_pl (L : List (Int × Int)) (s : Int × Int) (hL : Pl L) (hs : s.1 ≤ s.2) (hlo : ∀ t ∈ L, t.1 ≤ s.1) : Pl (joinP L s) ∧ (∀ d, Mem (joinP L s) d ↔ Mem L d ∨ (s.1 ≤ d ∧ d ≤ s.2)) ∧ (∀ t ∈ joinP L s, t.1 ≤ s.1) ∧ L.length ≤ (joinP L s).length ∧ (joinP L s).length ≤ L.length + 1 := by
  rcases last_cases L with rfl | ⟨M, t, rfl⟩
  · rw [join_nil]
    refine ⟨⟨fun u hu => ?_, List.pairwise_singleton _ _⟩, fun d => ?_, fun u hu => ?_, by simp, by simp⟩
    · rw [List.mem_singleton] at hu; rw [hu]; exact hs
    · rw [mem_one]; exact ⟨.inr, fun h => h.elim (fun h => absurd h (mem_nil d)) id⟩
    · rw [List.mem_singleton] at hu; rw [hu]; exact Int.le_refl _
  · have hp := List.pairwise_append.1 hL.2
    have ht := hL.1 t (List.mem_append.2 (.inr List.mem_cons_self))
    have hts := hlo t (List.mem_append.2 (.inr List.mem_cons_self))
    have hM : ∀ u ∈ M, u.1 ≤ u.2 ∧ u.2 + 2 ≤ t.1 := fun u hu => ⟨hL.1 u (List.mem_append.2 (.inl hu)), hp.2.2 u hu t List.mem_cons_self⟩
    by_cases h : s.1 ≤ t.2 + 1
    · rw [join_to M t s h]
      refine ⟨⟨fun u hu => ?_, ?_⟩, fun d => ?_, fun u hu => ?_, by simp, by simp⟩
      · rcases List.mem_append.1 hu with hu | hu
        · exact (hM u hu).1
        · rw [List.mem_singleton] at hu; subst hu; show t.1 ≤ max t.2 s.2; omega
      · rw [List.pairwise_append]
        refine ⟨hp.1, List.pairwise_singleton _ _, fun u hu v hv => ?_⟩
        rw [List.mem_singleton] at hv; subst hv
        exact (hM u hu).2
      · rw [mem_append, mem_append, mem_one, mem_one, or_assoc]
        have : (t.1 ≤ d ∧ d ≤ max t.2 s.2) ↔ ((t.1 ≤ d ∧ d ≤ t.2) ∨ (s.1 ≤ d ∧ d ≤ s.2)) := by omega
        dsimp only
        rw [this]
      · rcases List.mem_append.1 hu with hu | hu
        · exact hlo u (List.mem_append.2 (.inl hu))
        · rw [List.mem_singleton] at hu; subst hu; exact hts
    · rw [join_on M t s h]
      refine ⟨⟨fun u hu => ?_, ?_⟩, fun d => ?_, fun u hu => ?_, by simp, by simp⟩
      · rcases List.mem_append.1 hu with hu | hu
        · exact hL.1 u hu
        · rw [List.mem_singleton] at hu; subst hu; exact hs
      · rw [List.pairwise_append]
        refine ⟨hL.2, List.pairwise_singleton _ _, fun u hu v hv => ?_⟩
        rw [List.mem_singleton] at hv; subst hv
        rcases List.mem_append.1 hu with hu | hu
        · have := hM u hu; omega
        · rw [List.mem_singleton] at hu; subst hu; omega
      · rw [mem_append, mem_one]
      · rcases List.mem_append.1 hu with hu | hu
        · exact hlo u hu
        · rw [List.mem_singleton] at hu; subst hu; exact Int.le_refl _
/-- Some joined, one by one. -/
def joins : List (Int × Int) → List (Int × Int) → List (Int × Int)
  | L, [] => L
  | L, s :: ss => joins (joinP L s) ss
theorem joins_append (L a b : List (Int × Int)) : joins L (a ++ b) = joins (joins L a) b := by
  induction a generalizing L with
  | nil => rfl
  | cons s a ih => exact ih _
theorem joins_pl (L ss : List (Int × Int)) (hL : Pl L) (hs : ∀ s ∈ ss, s.1 ≤ s.2) (hp : ss.Pairwise (fun a b => a.1 ≤ b.1)) (hlo : ∀ t ∈ L, ∀ s ∈ ss, t.1 ≤ s.1) : Pl (joins L ss) ∧ (∀ d, Mem (joins L ss) d ↔ Mem L d ∨ Mem ss d) ∧ L.length ≤ (joins L ss).length := by
  induction ss generalizing L with
  | nil => exact ⟨hL, fun d => ⟨.inl, fun h => h.elim id (fun h => absurd h (mem_nil d))⟩, Nat.le_refl _⟩
  | cons s ss ih =>
    obtain ⟨hp1, hp2⟩ := List.pairwise_cons.1 hp
    obtain ⟨a, b, c, e, _⟩ := join_pl L s hL (hs s List.mem_cons_self) (fun t ht => hlo t ht s List.mem_cons_self)
    obtain ⟨i1, i2, i3⟩ := ih (joinP L s) a (fun u hu => hs u (List.mem_cons_of_mem _ hu)) hp2 (fun t ht u hu => by have := c t ht; have := hp1 u hu; omega)
    refine ⟨i1, fun d => ?_, Nat.le_trans e i3⟩
    rw [joins, i2, b, mem_cons, or_assoc]
theorem joins_snoc (L ss : List (Int × Int)) (s : Int × Int) : joins L (ss ++ [s]) = joinP (joins L ss) s := joins_append L ss [s]
/-- Joined, till there are more than m. -/
def feed (m : Nat) : List (Int × Int) → List (Int × Int) → List (Int × Int) × Bool
  | L, [] => (L, false)
  | L, s :: ss => if m < (joinP L s).length then (joinP L s, true) else feed m (joinP L s) ss
theorem feed_append (m : Nat) (L a b : List (Int × Int)) : feed m L (a ++ b) = if (feed m L a).2 = true then feed m L a else feed m (feed m L a).1 b := by
  induction a generalizing L with
  | nil => simp [feed]
  | cons s a ih =>
    rw [List.cons_append, feed, feed]
    split
    · simp
    · rw [ih]
theorem join_grows (L : List (Int × Int)) (s : Int × Int) : L.length ≤ (joinP L s).length ∧ (joinP L s).length ≤ L.length + 1 := by
  rcases last_cases L with rfl | ⟨M, t, rfl⟩
  · rw [join_nil]; simp
  · by_cases h : s.1 ≤ t.2 + 1
    · rw [join_to M t s h]; simp
    · rw [join_on M t s h]; simp
theorem joins_grows (L ss : List (Int × Int)) : L.length ≤ (joins L ss).length := by
  induction ss generalizing L with
  | nil => exact Nat.le_refl _
  | cons s ss ih => exact Nat.le_trans (join_grows L s).1 (ih _)
theorem joins_len (L ss : List (Int × Int)) : (joins L ss).length ≤ L.length + ss.length := by
  induction ss generalizing L with
  | nil => simp [joins]
  | cons s ss ih =>
    have h1 := ih (joinP L s)
    have h2 := (join_grows L s).2
    rw [joins, List.length_cons]
    omega
theorem feed_len (m : Nat) (L ss : List (Int × Int)) (h : L.length ≤ m) : (feed m L ss).1.length ≤ m + 1 ∧ ((feed m L ss).2 = false → (feed m L ss).1.length ≤ m) := by
  induction ss generalizing L with
  | nil => exact ⟨by simp only [feed]; omega, fun _ => h⟩
  | cons s ss ih =>
    rw [feed]
    have hg := join_grows L s
    split
    · exact ⟨by dsimp only; omega, fun e => by cases e⟩
    · exact ih _ (by omega)
theorem feed_is (m : Nat) (L ss : List (Int × Int)) (h : L.length ≤ m) : (m < (joins L ss).length ∧ (feed m L ss).2 = true) ∨ ((joins L ss).length ≤ m ∧ feed m L ss = (joins L ss, false)) := by
  induction ss generalizing L with
  | nil => exact .inr ⟨h, rfl⟩
  | cons s ss ih =>
    rw [feed, joins]
    split
    · rename_i hm
      exact .inl ⟨Nat.lt_of_lt_of_le hm (joins_grows _ _), rfl⟩
    · exact ih _ (by omega)
/-- What any list of numbers may be. -/
theorem join_wide (L : List (Int × Int)) (s : Int × Int) (P : Int → Prop) (hL : ∀ t ∈ L, P t.1 ∧ P t.2) (hs : P s.1 ∧ P s.2) : ∀ t ∈ joinP L s, P t.1 ∧ P t.2 := by
  rcases last_cases L with rfl | ⟨M, t, rfl⟩
  · rw [join_nil]
    intro u hu
    rw [List.mem_singleton] at hu; rw [hu]; exact hs
  · have ht := hL t (List.mem_append.2 (.inr List.mem_cons_self))
    by_cases h : s.1 ≤ t.2 + 1
    · rw [join_to M t s h]
      intro u hu
      rcases List.mem_append.1 hu with hu | hu
      · exact hL u (List.mem_append.2 (.inl hu))
      · rw [List.mem_singleton] at hu; subst hu
        refine ⟨ht.1, ?_⟩
        show P (max t.2 s.2)
        rcases Int.le_total t.2 s.2 with g | g
        · rw [Int.max_eq_right g]; exact hs.2
        · rw [Int.max_eq_left g]; exact ht.2
    · rw [join_on M t s h]
      intro u hu
      rcases List.mem_append.1 hu with hu | hu
      · exact hL u hu
      · rw [List.mem_singleton] at hu; rw [hu]; exact hs
theorem joins_wide (L ss : List (Int × Int)) (P : Int → Prop) (hL : ∀ t ∈ L, P t.1 ∧ P t.2) (hs : ∀ s ∈ ss, P s.1 ∧ P s.2) : ∀ t ∈ joins L ss, P t.1 ∧ P t.2 := by
  induction ss generalizing L with
  | nil => exact hL
  | cons s ss ih => exact ih _ (join_wide L s P hL (hs s List.mem_cons_self)) (fun u hu => hs u (List.mem_cons_of_mem _ hu))
theorem feed_wide (m : Nat) (L ss : List (Int × Int)) (P : Int → Prop) (hL : ∀ t ∈ L, P t.1 ∧ P t.2) (hs : ∀ s ∈ ss, P s.1 ∧ P s.2) : ∀ t ∈ (feed m L ss).1, P t.1 ∧ P t.2 := by
  induction ss generalizing L with
  | nil => exact hL
  | cons s ss ih =>
    rw [feed]
    have := join_wide L s P hL (hs s List.mem_cons_self)
    split
    · exact this
    · exact ih _ this (fun u hu => hs u (List.mem_cons_of_mem _ hu))
/-- The square of a tile, n zooms on: does it miss a stretch of both, does the stretch hold it? -/
def Miss (x0 y0 x1 y1 : Int) (n : Nat) (x y : Int) : Prop := (x + 1) * p2 n - 1 < x0 ∨ x1 < x * p2 n ∨ (y + 1) * p2 n - 1 < y0 ∨ y1 < y * p2 n
def Hold (x0 y0 x1 y1 : Int) (n : Nat) (x y : Int) : Prop := x0 ≤ x * p2 n ∧ (x + 1) * p2 n - 1 ≤ x1 ∧ y0 ≤ y * p2 n ∧ (y + 1) * p2 n - 1 ≤ y1
instance (x0 y0 x1 y1 : Int) (n : Nat) (x y : Int) : Decidable (Miss x0 y0 x1 y1 n x y) := by unfold Miss; infer_instance
instance (x0 y0 x1 y1 : Int) (n : Nat) (x y : Int) : Decidable (Hold x0 y0 x1 y1 n x y) := by unfold Hold; infer_instance
/-- The identifiers, n zooms on, of a tile. -/
def fromT (n k : Nat) (x y : Int) : Int := bas (k + n) + hpl k x y * p4 n
def toT (n k : Nat) (x y : Int) : Int := bas (k + n) + hpl k x y * p4 n + p4 n - 1
/-- What of a rectangle lies in a tile, by the way down the quarters. -/
def wl (x0 y0 x1 y1 : Int) : Nat → Nat → Int → Int → List (Int × Int)
  | 0, k, x, y => if Miss x0 y0 x1 y1 0 x y then [] else if Hold x0 y0 x1 y1 0 x y then [(fromT 0 k x y, toT 0 k x y)] else []
  | n + 1, k, x, y => if Miss x0 y0 x1 y1 (n + 1) x y then [] else if Hold x0 y0 x1 y1 (n + 1) x y then [(fromT (n + 1) k x y, toT (n + 1) k x y)] else
      wl x0 y0 x1 y1 n (k + 1) (kid k x y 0).1 (kid k x y 0).2 ++ (wl x0 y0 x1 y1 n (k + 1) (kid k x y 1).1 (kid k x y 1).2 ++ (wl x0 y0 x1 y1 n (k + 1) (kid k x y 2).1 (kid k x y 2).2 ++ wl x0 y0 x1 y1 n (k + 1) (kid k x y 3).1 (kid k x y 3).2))
theorem wl_miss (x0 y0 x1 y1 : Int) (n k : Nat) (x y : Int) (h : Miss x0 y0 x1 y1 n x y) : wl x0 y0 x1 y1 n k x y = [] := by
  cases n with
  | zero => exact if_pos h
  | succ n => exact if_pos h
theorem wl_hold (x0 y0 x1 y1 : Int) (n k : Nat) (x y : Int) (h : ¬ Miss x0 y0 x1 y1 n x y) (g : Hold x0 y0 x1 y1 n x y) : wl x0 y0 x1 y1 n k x y = [(fromT n k x y, toT n k x y)] := by
  cases n with
  | zero => rw [wl, if_neg h, if_pos g]
  | succ n => rw [wl, if_neg h, if_pos g]
theorem wl_part (x0 y0 x1 y1 : Int) (n k : Nat) (x y : Int) (h : ¬ Miss x0 y0 x1 y1 (n + 1) x y) (g : ¬ Hold x0 y0 x1 y1 (n + 1) x y) : wl x0 y0 x1 y1 (n + 1) k x y = wl x0 y0 x1 y1 n (k + 1) (kid k x y 0).1 (kid k x y 0).2 ++ (wl x0 y0 x1 y1 n (k + 1) (kid k x y 1).1 (kid k x y 1).2 ++ (wl x0 y0 x1 y1 n (k + 1) (kid k x y 2).1 (kid k x y 2).2 ++ wl x0 y0 x1 y1 n (k + 1) (kid k x y 3).1 (kid k x y 3).2)) := by
  rw [wl, if_neg h, if_neg g]
/-- A single tile is missed or held. -/
theorem one_held (x0 y0 x1 y1 x y : Int) (h : ¬ Miss x0 y0 x1 y1 0 x y) : Hold x0 y0 x1 y1 0 x y := by
  unfold Miss at h
  unfold Hold
  simp only [p2, Int.mul_one] at *
  omega
theorem div_in (n : Nat) (x X : Int) : X / p2 n = x ↔ x * p2 n ≤ X ∧ X ≤ (x + 1) * p2 n - 1 := by
  have hp := p2_pos n
  have e := Int.mul_ediv_add_emod X (p2 n)
  have r0 := Int.emod_nonneg X (show p2 n ≠ 0 by omega)
  have r1 := Int.emod_lt_of_pos X (show 0 < p2 n by omega)
  rw [Int.mul_comm] at e
  have em : (x + 1) * p2 n = x * p2 n + p2 n := by rw [Int.add_mul, Int.one_mul]
  constructor
  · rintro rfl; omega
  · rintro ⟨a, b⟩
    have := (div_rest (p2 n) x (X - x * p2 n) (by omega) (by omega)).1
    rw [show x * p2 n + (X - x * p2 n) = X from by omega] at this
    exact this
theorem div_p2' (x : Int) (n : Nat) : x / p2 (n + 1) = x / p2 n / 2 := by
  rw [p2, Int.mul_comm 2, Int.ediv_ediv_of_nonneg (by have := p2_pos n; omega)]
theorem in_up' (k n : Nat) (x y : Int) (h : In (k + (n + 1)) x y) : In (k + 1) (x / p2 n) (y / p2 n) := in_up (k + 1) n x y (by rw [show k + 1 + n = k + (n + 1) from by omega]; exact h)
/-- The identifier of a tile of the rectangle that lies in the tile. -/
def IdW (x0 y0 x1 y1 : Int) (n k : Nat) (x y d : Int) : Prop := ∃ X Y : Int, In (k + n) X Y ∧ X / p2 n = x ∧ Y / p2 n = y ∧ x0 ≤ X ∧ X ≤ x1 ∧ y0 ≤ Y ∧ Y ≤ y1 ∧ d = bas (k + n) + hpl (k + n) X Y
theorem idw_kids (x0 y0 x1 y1 : Int) (n k : Nat) (x y d : Int) (h : In k x y) : IdW x0 y0 x1 y1 (n + 1) k x y d ↔ (IdW x0 y0 x1 y1 n (k + 1) (kid k x y 0).1 (kid k x y 0).2 d ∨ (IdW x0 y0 x1 y1 n (k + 1) (kid k x y 1).1 (kid k x y 1).2 d ∨ (IdW x0 y0 x1 y1 n (k + 1) (kid k x y 2).1 (kid k x y 2).2 d ∨ IdW x0 y0 x1 y1 n (k + 1) (kid k x y 3).1 (kid k x y 3).2 d))) := by
  have ek : k + 1 + n = k + (n + 1) := by omega
  have back : ∀ i : Int, 0 ≤ i → i < 4 → IdW x0 y0 x1 y1 n (k + 1) (kid k x y i).1 (kid k x y i).2 d → IdW x0 y0 x1 y1 (n + 1) k x y d := by
    rintro i i0 i1 ⟨X, Y, hi, hx, hy, a, b, c, e, hd⟩
    obtain ⟨_, _, kx, ky⟩ := kid_facts k x y i h i0 i1
    rw [ek] at hi hd
    exact ⟨X, Y, hi, by rw [div_p2', hx, kx], by rw [div_p2', hy, ky], a, b, c, e, hd⟩
  constructor
  · rintro ⟨X, Y, hi, hx, hy, a, b, c, e, hd⟩
    rw [div_p2'] at hx hy
    obtain ⟨_, i, i0, i1, _, hk⟩ := kid_of k x y (X / p2 n) (Y / p2 n) h (by omega) (by omega)
    have hk1 : X / p2 n = (kid k x y i).1 := by rw [← hk]
    have hk2 : Y / p2 n = (kid k x y i).2 := by rw [← hk]
    have hw : IdW x0 y0 x1 y1 n (k + 1) (kid k x y i).1 (kid k x y i).2 d := ⟨X, Y, by rw [ek]; exact hi, hk1, hk2, a, b, c, e, by rw [ek]; exact hd⟩
    rcases (by omega : i = 0 ∨ i = 1 ∨ i = 2 ∨ i = 3) with rfl | rfl | rfl | rfl
    · exact .inl hw
    · exact .inr (.inl hw)
    · exact .inr (.inr (.inl hw))
    · exact .inr (.inr (.inr hw))
  · rintro (g | g | g | g)
    · exact back 0 (by omega) (by omega) g
    · exact back 1 (by omega) (by omega) g
    · exact back 2 (by omega) (by omega) g
    · exact back 3 (by omega) (by omega) g
theorem hold_mem (x0 y0 x1 y1 : Int) (n k : Nat) (x y d : Int) (h : In k x y) (g : Hold x0 y0 x1 y1 n x y) : (fromT n k x y ≤ d ∧ d ≤ toT n k x y) ↔ IdW x0 y0 x1 y1 n k x y d := by
  have hb := hpl_bd k x y h
  have hp := p4_pos n
  have hpp : hpl k x y * p4 n + p4 n ≤ p4 (k + n) := by
    rw [p4_add]
    have := Int.mul_le_mul_of_nonneg_right (show hpl k x y + 1 ≤ p4 k by omega) (show 0 ≤ p4 n by omega)
    rw [Int.add_mul] at this
    omega
  have hnn := Int.mul_nonneg hb.1 (show 0 ≤ p4 n by omega)
  unfold fromT toT
  constructor
  · rintro ⟨a, b⟩
    have hi := hpt_in (k + n) (d - bas (k + n)) (by omega) (by omega)
    have hd := hpl_hpt (k + n) (d - bas (k + n)) (by omega) (by omega)
    have ho := (over_iff k n x y _ _ h hi).2 (by rw [hd]; omega)
    have o1 := (div_in n x _).1 ho.1
    have o2 := (div_in n y _).1 ho.2
    obtain ⟨g1, g2, g3, g4⟩ := g
    exact ⟨_, _, hi, ho.1, ho.2, by omega, by omega, by omega, by omega, by rw [hd]; omega⟩
  · rintro ⟨X, Y, hi, hx, hy, _, _, _, _, rfl⟩
    have := (over_iff k n x y X Y h hi).1 ⟨hx, hy⟩
    omega
theorem wl_mem (x0 y0 x1 y1 : Int) (n k : Nat) (x y d : Int) (h : In k x y) : Mem (wl x0 y0 x1 y1 n k x y) d ↔ IdW x0 y0 x1 y1 n k x y d := by
  induction n generalizing k x y with
  | zero =>
    by_cases hm : Miss x0 y0 x1 y1 0 x y
    · rw [wl_miss _ _ _ _ _ _ _ _ hm]
      refine ⟨fun h => absurd h (mem_nil d), ?_⟩
      rintro ⟨X, Y, hi, hx, hy, a, b, c, e, _⟩
      have o1 := (div_in 0 x X).1 hx
      have o2 := (div_in 0 y Y).1 hy
      unfold Miss at hm
      omega
    · have hh := one_held _ _ _ _ _ _ hm
      rw [wl_hold _ _ _ _ _ _ _ _ hm hh, mem_one]
      exact hold_mem x0 y0 x1 y1 0 k x y d h hh
  | succ n ih =>
    by_cases hm : Miss x0 y0 x1 y1 (n + 1) x y
    · rw [wl_miss _ _ _ _ _ _ _ _ hm]
      refine ⟨fun h => absurd h (mem_nil d), ?_⟩
      rintro ⟨X, Y, hi, hx, hy, a, b, c, e, _⟩
      have o1 := (div_in (n + 1) x X).1 hx
      have o2 := (div_in (n + 1) y Y).1 hy
      unfold Miss at hm
      omega
    · by_cases hh : Hold x0 y0 x1 y1 (n + 1) x y
      · rw [wl_hold _ _ _ _ _ _ _ _ hm hh, mem_one]
        exact hold_mem x0 y0 x1 y1 (n + 1) k x y d h hh
      · rw [wl_part _ _ _ _ _ _ _ _ hm hh, mem_append, mem_append, mem_append, idw_kids x0 y0 x1 y1 n k x y d h]
        rw [ih _ _ _ (kid_facts k x y 0 h (by omega) (by omega)).1, ih _ _ _ (kid_facts k x y 1 h (by omega) (by omega)).1, ih _ _ _ (kid_facts k x y 2 h (by omega) (by omega)).1, ih _ _ _ (kid_facts k x y 3 h (by omega) (by omega)).1]
theorem kid_from (n k : Nat) (x y i : Int) (h : In k x y) (i0 : 0 ≤ i) (i1 : i < 4) : fromT n (k + 1) (kid k x y i).1 (kid k x y i).2 = fromT (n + 1) k x y + i * p4 n ∧ toT n (k + 1) (kid k x y i).1 (kid k x y i).2 = fromT (n + 1) k x y + i * p4 n + p4 n - 1 := by
  obtain ⟨_, hk, _, _⟩ := kid_facts k x y i h i0 i1
  unfold fromT toT
  rw [hk, show k + 1 + n = k + (n + 1) from by omega, Int.add_mul, p4, Int.mul_assoc, Int.mul_left_comm]
  omega
/-- They rise, and lie within the tile's. -/
theorem wl_asc (x0 y0 x1 y1 : Int) (n k : Nat) (x y : Int) (h : In k x y) : (∀ s ∈ wl x0 y0 x1 y1 n k x y, fromT n k x y ≤ s.1 ∧ s.1 ≤ s.2 ∧ s.2 ≤ toT n k x y) ∧ (wl x0 y0 x1 y1 n k x y).Pairwise (fun a b => a.2 < b.1) := by
  have hone : ∀ n : Nat, (∀ s ∈ [(fromT n k x y, toT n k x y)], fromT n k x y ≤ s.1 ∧ s.1 ≤ s.2 ∧ s.2 ≤ toT n k x y) ∧ [(fromT n k x y, toT n k x y)].Pairwise (fun (a b : Int × Int) => a.2 < b.1) := fun n => ⟨fun s hs => by
    rw [List.mem_singleton] at hs; subst hs
    have := p4_pos n
    unfold fromT toT; dsimp only; omega, List.pairwise_singleton _ _⟩
  have hno : ∀ n : Nat, (∀ s ∈ ([] : List (Int × Int)), fromT n k x y ≤ s.1 ∧ s.1 ≤ s.2 ∧ s.2 ≤ toT n k x y) ∧ ([] : List (Int × Int)).Pairwise (fun a b => a.2 < b.1) := fun n => ⟨fun s hs => by simp at hs, List.Pairwise.nil⟩
  induction n generalizing k x y with
  | zero =>
    by_cases hm : Miss x0 y0 x1 y1 0 x y
    · rw [wl_miss _ _ _ _ _ _ _ _ hm]; exact hno 0
    · have hh := one_held _ _ _ _ _ _ hm
      rw [wl_hold _ _ _ _ _ _ _ _ hm hh]; exact hone 0
  | succ n ih =>
    by_cases hm : Miss x0 y0 x1 y1 (n + 1) x y
    · rw [wl_miss _ _ _ _ _ _ _ _ hm]; exact hno (n + 1)
    · by_cases hh : Hold x0 y0 x1 y1 (n + 1) x y
      · rw [wl_hold _ _ _ _ _ _ _ _ hm hh]; exact hone (n + 1)
      · rw [wl_part _ _ _ _ _ _ _ _ hm hh]
        have kk : ∀ i : Int, 0 ≤ i → i < 4 → (∀ s ∈ wl x0 y0 x1 y1 n (k + 1) (kid k x y i).1 (kid k x y i).2, fromT (n + 1) k x y + i * p4 n ≤ s.1 ∧ s.1 ≤ s.2 ∧ s.2 ≤ fromT (n + 1) k x y + i * p4 n + p4 n - 1) ∧ (wl x0 y0 x1 y1 n (k + 1) (kid k x y i).1 (kid k x y i).2).Pairwise (fun a b => a.2 < b.1) := fun i i0 i1 => by
          have hi := (kid_facts k x y i h i0 i1).1
          obtain ⟨e1, e2⟩ := kid_from n k x y i h i0 i1
          have := ih (k + 1) (kid k x y i).1 (kid k x y i).2 hi (fun n => ⟨fun s hs => by
            rw [List.mem_singleton] at hs; subst hs
            have := p4_pos n
            unfold fromT toT; dsimp only; omega, List.pairwise_singleton _ _⟩) (fun n => ⟨fun s hs => by simp at hs, List.Pairwise.nil⟩)
          rw [e1, e2] at this
          exact this
        have hp := p4_pos n
        have et : toT (n + 1) k x y = fromT (n + 1) k x y + 4 * p4 n - 1 := by unfold toT fromT; rw [p4]
        rw [et]
        obtain ⟨a0, b0⟩ := kk 0 (by omega) (by omega)
        obtain ⟨a1, b1⟩ := kk 1 (by omega) (by omega)
        obtain ⟨a2, b2⟩ := kk 2 (by omega) (by omega)
        obtain ⟨a3, b3⟩ := kk 3 (by omega) (by omega)
        constructor
        · intro s hs
          rcases List.mem_append.1 hs with hs | hs
          · have := a0 s hs; omega
          · rcases List.mem_append.1 hs with hs | hs
            · have := a1 s hs; omega
            · rcases List.mem_append.1 hs with hs | hs
              · have := a2 s hs; omega
              · have := a3 s hs; omega
        · rw [List.pairwise_append, List.pairwise_append, List.pairwise_append]
          refine ⟨b0, ⟨b1, ⟨b2, b3, fun s hs t ht => ?_⟩, fun s hs t ht => ?_⟩, fun s hs t ht => ?_⟩
          · have := a2 s hs; have := a3 t ht; omega
          · have := a1 s hs
            rcases List.mem_append.1 ht with ht | ht
            · have := a2 t ht; omega
            · have := a3 t ht; omega
          · have := a0 s hs
            rcases List.mem_append.1 ht with ht | ht
            · have := a1 t ht; omega
            · rcases List.mem_append.1 ht with ht | ht
              · have := a2 t ht; omega
              · have := a3 t ht; omega
end Go.Proofs.YthlekifagidijaaDoor
