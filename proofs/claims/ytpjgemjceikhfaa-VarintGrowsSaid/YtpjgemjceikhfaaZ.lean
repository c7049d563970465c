/- The walk of VarintGrows: it returns true, for every two numbers. -/
import Derived.Test.YtpjgemjceikhfaaY
namespace Go.Proofs.Ytpjgemjceikhfaa
open Go.RowKit
set_option linter.unusedVariables false
set_option maxHeartbeats 1600000 in
theorem grows_mid (a0 a1 : Int) (m k : Nat) (x0 : 0 ≤ a0) (x1 : a0 ≤ 18446744073709551615) (y0 : 0 ≤ a1) (y1 : a1 ≤ 18446744073709551615) (hm : (enc a0).length = m) (hk : (enc a1).length = k) (l1 : 2 ≤ m) (l2 : m ≤ 9) (w : World) :
    Calls Try.prog 7 #[.int .u64 a0, .int .u64 a1] w fun e w' => e = .returned (.bool true) ∧ Below w.heap.size w w' := by
  have HMO : Hid (a0 ≤ a1 → m ≤ k) := Lib.hid (fun h => by rw [← hm, ← hk]; exact enc_mono a0 a1 h y1)
  have hu := enc_up a0 x1
  have hd := enc_dn a0
  rw [hm] at hu hd
  have HM := Lib.hid hm; have HK := Lib.hid hk
  clear hm hk
  have hq : a0 / 2 ^ (7 * m) = 0 := by rw [two_pow7]; exact Int.ediv_eq_zero_of_lt x0 hu
  have hq3 : (a0 / 2 ^ (7 * m) == 0) = true := by simp [hq]
  have hq2 : 0 < a0 / 2 ^ (7 * (m - 1)) := by rw [two_pow7]; have := hd (by omega); have := Int.le_ediv_of_mul_le (a := 1) (b := a0) (c := p7 (m - 1)) (by have := p7_pos (m - 1); omega) (by omega); omega
  have hq4 : decide (0 < a0 / 2 ^ (7 * (m - 1))) = true := by simp [hq2]
  have h10 : ((m : Int) == 10) = false := by simp; omega
  have h11 : ((m : Int) == 1) = false := by simp; omega
  have h12 : decide ((m : Int) < 1) = false := by simp; omega
  have h13 : decide (10 < (m : Int)) = false := by simp; omega
  clear hq hq2 hu hd
  by_cases hxy : a0 ≤ a1
  · have hmk := HMO.out hxy
    have h14 : decide (k < m) = false := by simp; omega
    have h15 : decide (a0 ≤ a1) = true := by simp; omega
    clear hxy hmk HMO
    go_enter Try.func7, Try.ntmps7
    go_wp2_with (first | (go_at_call 11; refine (size_any a0 _ x0 x1).mono ?_; rw [HM.out]; rintro e w' ⟨rfl, rfl⟩) | (go_at_call 11; refine (size_any a1 _ y0 y1).mono ?_; rw [HK.out]; rintro e w' ⟨rfl, rfl⟩) | fail)
    refine (awake_any _).mono ?_
    rintro e w1 ⟨rfl, hb⟩
    go_wp2_with fail
    go_ret
    exact ⟨rfl, hb⟩
  · have h15 : decide (a0 ≤ a1) = false := by simp; omega
    clear hxy HMO
    go_enter Try.func7, Try.ntmps7
    go_wp2_with (first | (go_at_call 11; refine (size_any a0 _ x0 x1).mono ?_; rw [HM.out]; rintro e w' ⟨rfl, rfl⟩) | fail)
    refine (awake_any _).mono ?_
    rintro e w1 ⟨rfl, hb⟩
    go_wp2_with fail
    go_ret
    exact ⟨rfl, hb⟩
set_option maxHeartbeats 1600000 in
theorem grows_one (a0 a1 : Int) (m k : Nat) (x0 : 0 ≤ a0) (x1 : a0 ≤ 18446744073709551615) (y0 : 0 ≤ a1) (y1 : a1 ≤ 18446744073709551615) (hm : (enc a0).length = m) (hk : (enc a1).length = k) (l1 : 1 ≤ m) (l2 : m ≤ 1) (w : World) :
    Calls Try.prog 7 #[.int .u64 a0, .int .u64 a1] w fun e w' => e = .returned (.bool true) ∧ Below w.heap.size w w' := by
  have HMO : Hid (a0 ≤ a1 → m ≤ k) := Lib.hid (fun h => by rw [← hm, ← hk]; exact enc_mono a0 a1 h y1)
  have hu := enc_up a0 x1
  have hd := enc_dn a0
  rw [hm] at hu hd
  have HM := Lib.hid hm; have HK := Lib.hid hk
  clear hm hk
  have hq : a0 / 2 ^ (7 * m) = 0 := by rw [two_pow7]; exact Int.ediv_eq_zero_of_lt x0 hu
  have hq3 : (a0 / 2 ^ (7 * m) == 0) = true := by simp [hq]
  have h10 : ((m : Int) == 10) = false := by simp; omega
  have h11 : ((m : Int) == 1) = true := by simp; omega
  have h12 : decide ((m : Int) < 1) = false := by simp; omega
  have h13 : decide (10 < (m : Int)) = false := by simp; omega
  clear hq hu hd
  by_cases hxy : a0 ≤ a1
  · have hmk := HMO.out hxy
    have h14 : decide (k < m) = false := by simp; omega
    have h15 : decide (a0 ≤ a1) = true := by simp; omega
    clear hxy hmk HMO
    go_enter Try.func7, Try.ntmps7
    go_wp2_with (first | (go_at_call 11; refine (size_any a0 _ x0 x1).mono ?_; rw [HM.out]; rintro e w' ⟨rfl, rfl⟩) | (go_at_call 11; refine (size_any a1 _ y0 y1).mono ?_; rw [HK.out]; rintro e w' ⟨rfl, rfl⟩) | fail)
    refine (awake_any _).mono ?_
    rintro e w1 ⟨rfl, hb⟩
    go_wp2_with fail
    go_ret
    exact ⟨rfl, hb⟩
  · have h15 : decide (a0 ≤ a1) = false := by simp; omega
    clear hxy HMO
    go_enter Try.func7, Try.ntmps7
    go_wp2_with (first | (go_at_call 11; refine (size_any a0 _ x0 x1).mono ?_; rw [HM.out]; rintro e w' ⟨rfl, rfl⟩) | fail)
    refine (awake_any _).mono ?_
    rintro e w1 ⟨rfl, hb⟩
    go_wp2_with fail
    go_ret
    exact ⟨rfl, hb⟩
set_option maxHeartbeats 1600000 in
theorem grows_ten (a0 a1 : Int) (m k : Nat) (x0 : 0 ≤ a0) (x1 : a0 ≤ 18446744073709551615) (y0 : 0 ≤ a1) (y1 : a1 ≤ 18446744073709551615) (hm : (enc a0).length = m) (hk : (enc a1).length = k) (l1 : 10 ≤ m) (l2 : m ≤ 10) (w : World) :
    Calls Try.prog 7 #[.int .u64 a0, .int .u64 a1] w fun e w' => e = .returned (.bool true) ∧ Below w.heap.size w w' := by
  have HMO : Hid (a0 ≤ a1 → m ≤ k) := Lib.hid (fun h => by rw [← hm, ← hk]; exact enc_mono a0 a1 h y1)
  have hu := enc_up a0 x1
  have hd := enc_dn a0
  rw [hm] at hu hd
  have HM := Lib.hid hm; have HK := Lib.hid hk
  clear hm hk
  have hq2 : 0 < a0 / 2 ^ (7 * (m - 1)) := by rw [two_pow7]; have := hd (by omega); have := Int.le_ediv_of_mul_le (a := 1) (b := a0) (c := p7 (m - 1)) (by have := p7_pos (m - 1); omega) (by omega); omega
  have hq4 : decide (0 < a0 / 2 ^ (7 * (m - 1))) = true := by simp [hq2]
  have h10 : ((m : Int) == 10) = true := by simp; omega
  have h11 : ((m : Int) == 1) = false := by simp; omega
  have h12 : decide ((m : Int) < 1) = false := by simp; omega
  have h13 : decide (10 < (m : Int)) = false := by simp; omega
  clear hq2 hu hd
  by_cases hxy : a0 ≤ a1
  · have hmk := HMO.out hxy
    have h14 : decide (k < m) = false := by simp; omega
    have h15 : decide (a0 ≤ a1) = true := by simp; omega
    clear hxy hmk HMO
    go_enter Try.func7, Try.ntmps7
    go_wp2_with (first | (go_at_call 11; refine (size_any a0 _ x0 x1).mono ?_; rw [HM.out]; rintro e w' ⟨rfl, rfl⟩) | (go_at_call 11; refine (size_any a1 _ y0 y1).mono ?_; rw [HK.out]; rintro e w' ⟨rfl, rfl⟩) | fail)
    refine (awake_any _).mono ?_
    rintro e w1 ⟨rfl, hb⟩
    go_wp2_with fail
    go_ret
    exact ⟨rfl, hb⟩
  · have h15 : decide (a0 ≤ a1) = false := by simp; omega
    clear hxy HMO
    go_enter Try.func7, Try.ntmps7
    go_wp2_with (first | (go_at_call 11; refine (size_any a0 _ x0 x1).mono ?_; rw [HM.out]; rintro e w' ⟨rfl, rfl⟩) | fail)
    refine (awake_any _).mono ?_
    rintro e w1 ⟨rfl, hb⟩
    go_wp2_with fail
    go_ret
    exact ⟨rfl, hb⟩
theorem grows_walk (a0 a1 : Int) (x0 : 0 ≤ a0) (x1 : a0 ≤ 18446744073709551615) (y0 : 0 ≤ a1) (y1 : a1 ≤ 18446744073709551615) (w : World) :
    Calls Try.prog 7 #[.int .u64 a0, .int .u64 a1] w fun e w' => e = .returned (.bool true) ∧ Below w.heap.size w w' := by
  have hl := enc_len a0
  by_cases h1 : (enc a0).length = 1
  · exact grows_one a0 a1 _ _ x0 x1 y0 y1 rfl rfl (by omega) (by omega) w
  · by_cases h10 : (enc a0).length = 10
    · exact grows_ten a0 a1 _ _ x0 x1 y0 y1 rfl rfl (by omega) (by omega) w
    · exact grows_mid a0 a1 _ _ x0 x1 y0 y1 rfl rfl (by omega) (by omega) w
end Go.Proofs.Ytpjgemjceikhfaa
