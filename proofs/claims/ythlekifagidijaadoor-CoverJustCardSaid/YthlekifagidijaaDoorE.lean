/- The contract of the program's Point: the tile of a place, as the plain arithmetic tells it, or what is wrong. -/
import Derived.Test.YthlekifagidijaaDoorD
namespace Go.Proofs.YthlekifagidijaaDoor
open Go.RowKit
set_option linter.unusedVariables false
/-- One step outwards: the tile of the square twice as wide. -/
theorem point_step (j : Nat) (n : Nat) (r u : Int) (s t : Bool) (R : Int) (h : Quart n r u s t) (h0 : 0 ≤ R) (h1 : R < p4 j) :
    thX s t (p2 j) (hptX j R).1 (hptX j R).2 + r * p2 j = (hptX (j + 1) (n * p4 j + R)).1 ∧ thY s t (p2 j) (hptX j R).1 (hptX j R).2 + u * p2 j = (hptX (j + 1) (n * p4 j + R)).2 := by
  have hi := hpt_in j R h0 h1
  unfold In at hi
  rcases h with ⟨rfl, rfl, rfl, rfl, rfl⟩ | ⟨rfl, rfl, rfl, rfl, rfl⟩ | ⟨rfl, rfl, rfl, rfl, rfl⟩ | ⟨rfl, rfl, rfl, rfl, rfl⟩
  · rw [hpt_succ, if_pos (by omega), show ((0 : Nat) : Int) * p4 j + R = R from by omega]
    simp only [thX, thY, if_true, Bool.false_eq_true, if_false]; omega
  · rw [hpt_succ, if_neg (by omega), if_pos (by omega), show ((1 : Nat) : Int) * p4 j + R - p4 j = R from by omega]
    simp only [thX, thY, Bool.false_eq_true, if_false]; omega
  · rw [hpt_succ, if_neg (by omega), if_neg (by omega), if_pos (by omega), show ((2 : Nat) : Int) * p4 j + R - 2 * p4 j = R from by omega]
    simp only [thX, thY, Bool.false_eq_true, if_false]; omega
  · rw [hpt_succ, if_neg (by omega), if_neg (by omega), if_neg (by omega), show ((3 : Nat) : Int) * p4 j + R - 3 * p4 j = R from by omega]
    simp only [thX, thY, if_true]; omega
theorem quart_at (d : Int) (h : 0 ≤ d) : ∃ (n : Nat) (r u : Int) (s t : Bool), Quart n r u s t ∧ d % 4 = n := by
  have : d % 4 = 0 ∨ d % 4 = 1 ∨ d % 4 = 2 ∨ d % 4 = 3 := by omega
  rcases this with e | e | e | e
  · exact ⟨0, _, _, _, _, Or.inl ⟨rfl, rfl, rfl, rfl, rfl⟩, e⟩
  · exact ⟨1, _, _, _, _, Or.inr (Or.inl ⟨rfl, rfl, rfl, rfl, rfl⟩), e⟩
  · exact ⟨2, _, _, _, _, Or.inr (Or.inr (Or.inl ⟨rfl, rfl, rfl, rfl, rfl⟩)), e⟩
  · exact ⟨3, _, _, _, _, Or.inr (Or.inr (Or.inr ⟨rfl, rfl, rfl, rfl, rfl⟩)), e⟩
theorem Quart.mul {n : Nat} {r u : Int} {s t : Bool} (h : Quart n r u s t) (S : Int) (hS : 1 ≤ S) : 0 ≤ r * S ∧ r * S ≤ S ∧ 0 ≤ u * S ∧ u * S ≤ S := by
  rcases h with ⟨rfl, rfl, rfl, _⟩ | ⟨rfl, rfl, rfl, _⟩ | ⟨rfl, rfl, rfl, _⟩ | ⟨rfl, rfl, rfl, _⟩ <;> omega
theorem th_bd (s t : Bool) (S x y : Int) (hx : 0 ≤ x ∧ x < S) (hy : 0 ≤ y ∧ y < S) : 0 ≤ thX s t S x y ∧ thX s t S x y < S ∧ 0 ≤ thY s t S x y ∧ thY s t S x y < S := by
  cases s <;> cases t <;> simp only [thX, thY, if_true, Bool.false_eq_true, if_false] <;> omega
theorem kept4 {w w1 : World} {A B C D : Value} {T : TypeId} (hb : Below (w.alloc (.cells #[A, B, C, D] T)).heap.size (w.alloc (.cells #[A, B, C, D] T)) w1) :
    w.heap.size < w1.heap.size ∧ Below w.heap.size w w1 ∧ w1.cell? ⟨w.heap.size, 0, none⟩ = some A ∧ w1.cell? ⟨w.heap.size, 1, none⟩ = some B := by
  have hz : (w.alloc (.cells #[A, B, C, D] T)).heap.size = w.heap.size + 1 := by rw [World.size_alloc]
  have hs := hb.size
  rw [hz] at hs hb
  refine ⟨by omega, Below.trans (by go_grown) (hb.mono (by omega)), ?_, ?_⟩
  · exact (hb.cell (p := ⟨w.heap.size, 0, none⟩) (Nat.lt_succ_self _)).trans (by simp [go_sem])
  · exact (hb.cell (p := ⟨w.heap.size, 1, none⟩) (Nat.lt_succ_self _)).trans (by simp [go_sem])
def PtRel (k : Nat) (d0 : Int) (w : World) (d x y s i : Value) (wr : World) : Prop :=
  ∃ (j : Nat) (D R : Int), j ≤ k ∧ i = .int .i64 (j : Int) ∧ s = .int .i64 (p2 j) ∧ x = .int .i64 (hptX j R).1 ∧ y = .int .i64 (hptX j R).2 ∧ d = .int .u64 D ∧ 0 ≤ D ∧ 0 ≤ R ∧ R < p4 j ∧ D * p4 j + R = d0 ∧ Below w.heap.size w wr
theorem point_in (k : Nat) (hk : k ≤ 26) (d : Int) (d0 : 0 ≤ d) (d1 : d < p4 k) (w : World) (hq : QTab w) : Calls Tryd.prog 74 #[.int .i64 k, .int .u64 d] w fun e w' => e = .returned (.tuple #[.int .i64 (hptX k d).1, .int .i64 (hptX k d).2, .int .i64 0]) ∧ Below w.heap.size w w' := by
  have hs : sideV k = p2 k := by unfold sideV; rw [if_pos (by unfold Zoom; omega), toN]
  have hp := p2_pos k
  have h4k := p4_top k hk
  have ht := tiles_any (k : Int) (by unfold Zoom; omega) w
  rw [toN] at ht
  go_enter Tryd.func74, Tryd.ntmps74
  go_wp2_with fail
  refine (side_any _ _).mono ?_
  rw [hs]
  rintro e w' ⟨rfl, rfl⟩
  go_wp2_with fail
  refine ht.mono ?_
  rintro e w' ⟨rfl, rfl⟩
  go_wp2_with fail
  go_loopw [1, 7, 8, 9, 19] (fun d' x y s i wr => PtRel k d w d' x y s i wr) (fun d' x y s i _ => k - (intOf i).toNat)
  case atStart => exact ⟨0, d, 0, Nat.zero_le _, rfl, rfl, rfl, rfl, rfl, d0, Int.le_refl _, by decide, by simp [p4], Below.refl _ _⟩
  case round =>
    obtain ⟨j, D, R, hj, rfl, rfl, rfl, rfl, rfl, hD, hR0, hR1, he, hbw⟩ := hrel
    have h4 := p4_pos j
    have h5 := le_mul_pos D (p4 j) hD h4
    have hQ := hq.below hbw
    by_cases hlt : j < k
    · obtain ⟨n, r, u, s, t, hqt, hn⟩ := quart_at D hD
      have h2t := p2_top j (by omega)
      have h2 := p2_pos j
      have hi := hpt_in j R hR0 hR1
      unfold In at hi
      have hst := point_step j n r u s t R hqt hR0 hR1
      have hmul := hqt.mul (p2 j) h2
      have hbd := th_bd s t (p2 j) (hptX j R).1 (hptX j R).2 (by omega) (by omega)
      have hnext : (D / 4) * p4 (j + 1) + (n * p4 j + R) = d := by
        have e : D = (D / 4) * 4 + n := by omega
        rw [← he, p4, ← Int.mul_assoc]
        conv => rhs; rw [e, Int.add_mul]
        omega
      have hqb := hqt.bd
      have hR : 0 ≤ n * p4 j + R ∧ n * p4 j + R < p4 (j + 1) := by
        rw [p4]
        rcases hqt with ⟨rfl, _⟩ | ⟨rfl, _⟩ | ⟨rfl, _⟩ | ⟨rfl, _⟩ <;> omega
      have HR := Lib.hid hR; clear hR
      have HN := Lib.hid hnext; clear hnext
      have HS := Lib.hid hst; clear hst
      generalize (hptX j R).1 = x at *
      generalize (hptX j R).2 = y at *
      generalize hS : p2 j = S at *
      obtain ⟨c0, c1, c2, c3⟩ := hqt.cell hQ
      rw [Nat.mul_comm 4 n] at c0 c1 c2 c3
      have HQ := Lib.hid hQ; clear hQ
      have HT := Lib.hid hqt; clear hqt
      have hn4 : (n : Int) < 4 := by omega
      go_wp2_with fail
      refine (through_any r u s t S x y (by omega) (by omega) (by omega) _).mono ?_
      rintro e w2 ⟨rfl, hb2⟩
      obtain ⟨hsz, hb3, k0, k1⟩ := kept4 hb2
      clear hb2
      go_wp2_with fail
      have hb4 := hbw.trans (hb3.mono hbw.size)
      refine ⟨⟨j + 1, D / 4, n * p4 j + R, by omega, by go_num, ?_, ?_, ?_, ?_, by omega, HR.out.1, HR.out.2, HN.out, hb4⟩, ?_⟩
      · rw [p2, hS]; go_num
      · rw [← HS.out.1]
      · rw [← HS.out.2]
      · rfl
      · simp only [intOf]; omega
    · obtain rfl : j = k := by omega
      have hD0 : D = 0 := by
        by_cases h : D = 0
        · exact h
        · have := Int.mul_le_mul_of_nonneg_right (show 1 ≤ D from by omega) (show 0 ≤ p4 j from by omega)
          omega
      subst hD0
      obtain rfl : R = d := by omega
      go_wp2_with fail
      go_ret3
      exact ⟨rfl, hbw⟩
/-- The tile of a place, and what is wrong where there is none. -/
def ptOk (z d : Int) : Prop := Zoom z ∧ d < p4 z.toNat
def ptX (z d : Int) : Int := if Zoom z ∧ d < p4 z.toNat then (hptX z.toNat d).1 else 0
def ptY (z d : Int) : Int := if Zoom z ∧ d < p4 z.toNat then (hptX z.toNat d).2 else 0
def ptE (z d : Int) : Int := if Zoom z then (if d < p4 z.toNat then 0 else 8) else 2
theorem pt_no (z d : Int) (h : ¬ Zoom z) : ptX z d = 0 ∧ ptY z d = 0 ∧ ptE z d = 2 := ⟨if_neg (fun a => h a.1), if_neg (fun a => h a.1), if_neg h⟩
theorem pt_far (z d : Int) (h : Zoom z) (g : ¬ d < p4 z.toNat) : ptX z d = 0 ∧ ptY z d = 0 ∧ ptE z d = 8 := ⟨if_neg (fun a => g a.2), if_neg (fun a => g a.2), by unfold ptE; rw [if_pos h, if_neg g]⟩
theorem pt_in (z d : Int) (h : Zoom z) (g : d < p4 z.toNat) : ptX z d = (hptX z.toNat d).1 ∧ ptY z d = (hptX z.toNat d).2 ∧ ptE z d = 0 := ⟨if_pos ⟨h, g⟩, if_pos ⟨h, g⟩, by unfold ptE; rw [if_pos h, if_pos g]⟩
theorem zoom_nat (z : Int) (h : Zoom z) : ∃ k : Nat, k ≤ 26 ∧ z = k := ⟨z.toNat, by unfold Zoom at h; omega, by unfold Zoom at h; omega⟩
theorem point_any (z d : Int) (d0 : 0 ≤ d) (w : World) (hq : QTab w) : Calls Tryd.prog 74 #[.int .i64 z, .int .u64 d] w fun e w' => e = .returned (.tuple #[.int .i64 (ptX z d), .int .i64 (ptY z d), .int .i64 (ptE z d)]) ∧ Below w.heap.size w w' := by
  by_cases hz : Zoom z
  · by_cases hd : d < p4 z.toNat
    · obtain ⟨e1, e2, e3⟩ := pt_in z d hz hd
      rw [e1, e2, e3]
      obtain ⟨k, hk, rfl⟩ := zoom_nat z hz
      rw [toN] at hd ⊢
      exact point_in k hk d d0 hd w hq
    · obtain ⟨e1, e2, e3⟩ := pt_far z d hz hd
      rw [e1, e2, e3]
      have h0 := side_any z w
      rw [sideV_in z hz] at h0
      have hp := p2_pos z.toNat
      have ht := tiles_any z hz w
      have h4 := p4_top z.toNat (by unfold Zoom at hz; omega)
      generalize p2 z.toNat = S at *
      generalize p4 z.toNat = A at *
      go_enter Tryd.func74, Tryd.ntmps74
      go_wp2_with fail
      refine h0.mono ?_
      rintro e w' ⟨rfl, rfl⟩
      go_wp2_with fail
      refine ht.mono ?_
      rintro e w' ⟨rfl, rfl⟩
      go_wp2_with fail
      go_ret3
      exact ⟨rfl, Below.refl _ _⟩
  · obtain ⟨e1, e2, e3⟩ := pt_no z d hz
    rw [e1, e2, e3]
    have h0 := side_any z w
    rw [sideV_no z hz] at h0
    go_enter Tryd.func74, Tryd.ntmps74
    go_wp2_with fail
    refine h0.mono ?_
    rintro e w' ⟨rfl, rfl⟩
    go_wp2_with fail
    go_ret3
    exact ⟨rfl, Below.refl _ _⟩
/-- The tile behind a tile. -/
def nxX (z x y : Int) : Int := if plE z x y = 0 then ptX z (plD z x y + 1) else 0
def nxY (z x y : Int) : Int := if plE z x y = 0 then ptY z (plD z x y + 1) else 0
def nxE (z x y : Int) : Int := if plE z x y = 0 then (if plD z x y + 1 < p4 z.toNat then 0 else 6) else plE z x y
theorem pl_no (z x y : Int) (h : plE z x y ≠ 0) : plD z x y = 0 ∧ (plE z x y = 2 ∨ plE z x y = 8) := by
  unfold plE at h
  refine ⟨?_, ?_⟩
  · unfold plD
    refine if_neg (fun a => h ?_)
    rw [if_pos a.1, if_pos a.2]
  · unfold plE
    split
    · split
      · rename_i h1 h2; exact absurd (by rw [if_pos h1, if_pos h2]) h
      · exact Or.inr rfl
    · exact Or.inl rfl
theorem pl_in (z x y : Int) (h : plE z x y = 0) : Zoom z ∧ In z.toNat x y ∧ plD z x y = hpl z.toNat x y ∧ 0 ≤ plD z x y ∧ plD z x y < p4 z.toNat := by
  unfold plE at h
  split at h
  · rename_i hz
    split at h
    · rename_i ht
      have e : plD z x y = hpl z.toNat x y := if_pos ⟨hz, ht⟩
      rw [sideV_in z hz] at ht
      have hb := hpl_bd z.toNat x y ht
      exact ⟨hz, ht, e, by omega, by omega⟩
    · omega
  · omega
end Go.Proofs.YthlekifagidijaaDoor
