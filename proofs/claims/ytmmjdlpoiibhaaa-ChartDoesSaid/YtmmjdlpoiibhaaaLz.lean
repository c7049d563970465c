/- The zoom of an identifier: both sides (out of elder texts of mine). -/
import Derived.Test.YtmmjdlpoiibhaaaA
import Derived.Test.YtmmjdlpoiibhaaaT
import Derived.Test.YtmmjdlpoiibhaaaLn
namespace Go.Proofs.Ytmmjdlpoiibhaaa
open Go.RowKit
set_option linter.unusedVariables false
set_option linter.unusedSimpArgs false
def Zoom (z : Int) : Prop := 0 ≤ z ∧ z ≤ 26
instance (z : Int) : Decidable (Zoom z) := by unfold Zoom; infer_instance
theorem p4_mono (a b : Nat) (h : a ≤ b) : p4 a ≤ p4 b := by
  induction h with
  | refl => exact Int.le_refl _
  | step h ih => simp only [p4]; have := p4_pos a; omega
theorem p4_top (k : Nat) (h : k ≤ 26) : p4 k ≤ 4503599627370496 := p4_mono k 26 h
theorem toN (k : Nat) : (k : Int).toNat = k := Int.toNat_natCast k
theorem bas_top (k : Nat) (h : k ≤ 27) : bas k ≤ 6004799503160661 := by
  have := bas_mono k 27 h
  rw [bas_all] at this
  exact this
theorem bas_succ (k : Nat) : bas (k + 1) = bas k + p4 k := rfl
def baD (z : Int) : Int := if 0 ≤ z ∧ z ≤ 27 then bas z.toNat else 0
def baE (z : Int) : Int := if 0 ≤ z ∧ z ≤ 27 then 0 else 2
/-- The zoom of an identifier. -/
def zofV (d : Int) : Int := zof 27 d
theorem zof_yes (d : Int) (h0 : 0 ≤ d) (h1 : d < 6004799503160661) : ∃ k : Nat, k ≤ 26 ∧ bas k ≤ d ∧ d < bas k + p4 k ∧ zofV d = k := by
  obtain ⟨k, a, b, c, e⟩ := zof_ex 27 d h0 (by rw [bas_all]; exact h1)
  exact ⟨k, by omega, b, by rw [← bas_succ]; exact c, e⟩
theorem zofV_no (d : Int) (h : ¬ d < 6004799503160661) : zofV d = -1 := zof_no 27 d (by rw [bas_all]; omega)
theorem rbase_any (z : Int) (w : World) : Calls Try.prog 51 #[.int .i64 z] w fun e w' => e = .returned (.tuple #[.int .u64 (baD z), .int .i64 (baE z)]) ∧ w = w' := by
  by_cases h : 0 ≤ z ∧ z ≤ 27
  · rw [show baD z = bas z.toNat from if_pos h, show baE z = 0 from if_pos h]
    obtain ⟨h0, h1⟩ := h
    obtain ⟨n, rfl⟩ : ∃ k : Nat, z = k := ⟨z.toNat, by omega⟩
    rw [toN]
    go_enter Try.func51, Try.ntmps51
    go_wp2_with fail
    go_loop [4, 5, 6] (fun p b i => ∃ k : Nat, k ≤ n ∧ i = .int .i64 k ∧ p = .int .u64 (p4 k) ∧ b = .int .u64 (bas k)) (fun _ _ i => n - (intOf i).toNat)
    case atStart => exact ⟨0, Nat.zero_le _, rfl, rfl, rfl⟩
    case round =>
      obtain ⟨k, hk, rfl, rfl, rfl⟩ := hrel
      by_cases hlt : k < n
      · have ht := p4_top k (by omega)
        have hp := p4_pos k
        have hb := bas_nn k
        have hb2 := bas_top k (by omega)
        have hs : p4 (k + 1) = 4 * p4 k := rfl
        have hs2 := bas_succ k
        go_wp2_with fail
        refine ⟨⟨k + 1, by omega, by go_num, by rw [hs], by rw [hs2]⟩, ?_⟩
        simp [intOf]; omega
      · obtain rfl : k = n := by omega
        go_wp2_with fail
        go_ret2
        exact ⟨rfl, rfl⟩
  · rw [show baD z = 0 from if_neg h, show baE z = 2 from if_neg h]
    by_cases h0 : z < 0
    · clear h
      go_enter Try.func51, Try.ntmps51
      go_wp2_with fail
      go_ret2
      exact ⟨rfl, rfl⟩
    · have h1 : 27 < z := by omega
      clear h
      go_enter Try.func51, Try.ntmps51
      go_wp2_with fail
      go_ret2
      exact ⟨rfl, rfl⟩
theorem two4 (k : Nat) : ((2 ^ (2 * k) : Nat) : Int) = p4 k := by
  induction k with
  | zero => rfl
  | succ k ih => rw [show 2 * (k + 1) = 2 * k + 2 from by omega, Nat.pow_add, p4, ← ih]; omega
theorem len_zoom (X : Int) (n k : Nat) (h : Len n X) (h0 : p4 k ≤ X) (h1 : X < 4 * p4 k) : n = 2 * k + 1 ∨ n = 2 * k + 2 := by
  obtain ⟨h64, h⟩ := h
  have hp := p4_pos k
  have e := two4 k
  have e2 := two4 (k + 1)
  rw [p4] at e2
  rcases h with ⟨rfl, h⟩ | ⟨hn, ha, hb⟩
  · omega
  have g1 : 2 * k < n := by
    rcases Nat.lt_or_ge (2 * k) n with hc | hc
    · exact hc
    · have := Nat.pow_le_pow_right (by omega : 0 < 2) hc
      omega
  have g2 : n - 1 < 2 * (k + 1) := by
    rcases Nat.lt_or_ge (n - 1) (2 * (k + 1)) with hc | hc
    · exact hc
    · have := Nat.pow_le_pow_right (by omega : 0 < 2) hc
      omega
  omega
theorem zoom_any (d : Int) (d0 : 0 ≤ d) (w : World) : Calls Try.prog 35 #[.int .u64 d] w fun e w' => e = .returned (.int .i64 (zofV d)) ∧ w = w' := by
  by_cases h : d < 6004799503160661
  · obtain ⟨k, hk, a, b, e⟩ := zof_yes d d0 h
    rw [e]
    have h3 := bas_three k
    have hl := fun n hn => len_zoom (3 * d + 1) n k hn (by omega) (by omega)
    have HL := Lib.hid hl
    clear hl h3 a b e
    go_enter Try.func35, Try.ntmps35
    go_wp2_with fail
    refine (len64_any _ _ (by omega) (by omega)).mono ?_
    rintro e w' ⟨⟨n, rfl, hn⟩, rfl⟩
    have hs := HL.out n hn
    clear hn HL
    go_wp2
    go_ret
    refine ⟨?_, rfl⟩
    have : n = 2 * k + 1 ∨ n = 2 * k + 2 := hs
    rcases this with rfl | rfl
    · show Ending.returned (.int .i64 _) = .returned (.int .i64 _)
      congr 2
      omega
    · show Ending.returned (.int .i64 _) = .returned (.int .i64 _)
      congr 2
      omega
  · rw [zofV_no d h]
    go_enter Try.func35, Try.ntmps35
    go_wp2_with fail
    go_ret
    exact ⟨rfl, rfl⟩
theorem rzoom_any (d : Int) (d0 : 0 ≤ d) (w : World) : Calls Try.prog 36 #[.int .u64 d] w fun e w' => e = .returned (.int .i64 (zofV d)) ∧ w = w' := by
  go_enter Try.func36, Try.ntmps36
  go_wp2_with fail
  go_loop [3] (fun i => ∃ m : Nat, m ≤ 27 ∧ i = .int .i64 ((m : Int) - 1) ∧ Hid (zofV d = zof m d)) (fun i => (intOf i + 1).toNat)
  case atStart => exact ⟨27, Nat.le_refl _, rfl, Lib.hid rfl⟩
  case round =>
    obtain ⟨m, hm, rfl, HZ⟩ := hrel
    cases m with
    | zero =>
      go_wp2_with fail
      go_ret
      exact ⟨by rw [HZ.out]; rfl, rfl⟩
    | succ j =>
      have hj : ((j + 1 : Nat) : Int) - 1 = j := by omega
      rw [hj]
      clear hj
      have hb1 := rbase_any j
      rw [show baD j = bas j from by rw [show baD (j : Int) = bas (j : Int).toNat from if_pos (by omega), toN], show baE (j : Int) = 0 from if_pos (by omega)] at hb1
      have hb2 := rbase_any (j + 1 : Int)
      rw [show baD (j + 1 : Int) = bas (j + 1) from by rw [show baD (j + 1 : Int) = bas (j + 1 : Int).toNat from if_pos (by omega)]; rfl, show baE (j + 1 : Int) = 0 from if_pos (by omega)] at hb2
      have HB1 := Lib.hid hb1
      have HB2 := Lib.hid hb2
      clear hb1 hb2
      have hE : zof (j + 1) d = if bas j ≤ d ∧ d < bas (j + 1) then (j : Int) else zof j d := rfl
      have HE := Lib.hid hE
      clear hE
      have n1 := bas_nn j
      have t1 := bas_top (j + 1) hm
      have n2 := bas_mono j (j + 1) (by omega)
      generalize bas j = b1 at *
      generalize bas (j + 1) = b2 at *
      by_cases h1 : b1 ≤ d
      · by_cases h2 : d < b2
        · go_wp2_with fail
          refine (HB1.out _).mono ?_
          rintro e w' ⟨rfl, rfl⟩
          go_wp2_with fail
          refine (HB2.out _).mono ?_
          rintro e w' ⟨rfl, rfl⟩
          go_wp2_with fail
          go_ret
          exact ⟨by rw [HZ.out, HE.out, if_pos ⟨h1, h2⟩]; rfl, rfl⟩
        · go_wp2_with fail
          refine (HB1.out _).mono ?_
          rintro e w' ⟨rfl, rfl⟩
          go_wp2_with fail
          refine (HB2.out _).mono ?_
          rintro e w' ⟨rfl, rfl⟩
          go_wp2_with fail
          refine ⟨⟨j, by omega, rfl, Lib.hid (by rw [HZ.out, HE.out, if_neg (by omega)])⟩, ?_⟩
          simp only [intOf]; omega
      · go_wp2_with fail
        refine (HB1.out _).mono ?_
        rintro e w' ⟨rfl, rfl⟩
        go_wp2_with fail
        refine (HB2.out _).mono ?_
        rintro e w' ⟨rfl, rfl⟩
        go_wp2_with fail
        refine ⟨⟨j, by omega, rfl, Lib.hid (by rw [HZ.out, HE.out, if_neg (by omega)])⟩, ?_⟩
        simp only [intOf]; omega
end Go.Proofs.Ytmmjdlpoiibhaaa
