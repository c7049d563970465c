/- Contract of the program's square. -/
import Derived.Test.YthlekifagidijaaDoorPb
namespace Go.Proofs.YthlekifagidijaaDoor
open Go.RowKit
set_option linter.unusedVariables false
set_option linter.unusedSimpArgs false
set_option maxHeartbeats 2000000 in
theorem square_any (k n : Nat) (x y : Int) (hkn : k + n ≤ 26) (h : In k x y) (w : World) : Calls Tryd.prog 48 #[.agg #[.int .i64 k, .int .i64 x, .int .i64 y], .int .i64 (k + n : Int)] w fun e w' => e = .returned (.agg #[.int .i64 (k + n : Int), .int .i64 (x * p2 n), .int .i64 (y * p2 n), .int .i64 ((x + 1) * p2 n - 1), .int .i64 ((y + 1) * p2 n - 1)]) ∧ Below w.heap.size w w' := by
  obtain ⟨x0, x1, y0, y1⟩ := h
  have ht := p2_top k (by omega)
  have hp := p2_pos n
  have e := p2_add k n
  have ht2 := p2_top (k + n) hkn
  have mx0 := Int.mul_nonneg x0 (show 0 ≤ p2 n by omega)
  have my0 := Int.mul_nonneg y0 (show 0 ≤ p2 n by omega)
  have mx1 := Int.mul_le_mul_of_nonneg_right (show x + 1 ≤ p2 k by omega) (show 0 ≤ p2 n by omega)
  have my1 := Int.mul_le_mul_of_nonneg_right (show y + 1 ≤ p2 k by omega) (show 0 ≤ p2 n by omega)
  have ex : (x + 1) * p2 n = x * p2 n + p2 n := by rw [Int.add_mul, Int.one_mul]
  have ey : (y + 1) * p2 n = y * p2 n + p2 n := by rw [Int.add_mul, Int.one_mul]
  rw [ex, ey]
  rw [ex] at mx1
  rw [ey] at my1
  rw [← e] at mx1 my1
  generalize p2 (k + n) = PP at *
  generalize p2 k = K at *
  clear e
  have hn : (2 : Int) ^ n = p2 n := p2_pow n
  generalize p2 n = c at *
  obtain ⟨a, ha⟩ : ∃ a, x * c = a := ⟨_, rfl⟩
  obtain ⟨b, hb⟩ : ∃ b, y * c = b := ⟨_, rfl⟩
  rw [ha] at mx0 mx1 ex ⊢
  rw [hb] at my0 my1 ey ⊢
  have HX := Lib.hid ex
  have HY := Lib.hid ey
  have HN := Lib.hid hn
  have HA := Lib.hid ha
  have HB := Lib.hid hb
  clear ex ey hn ha hb
  go_enter Tryd.func48, Tryd.ntmps48
  go_wp2_with fail
  go_region
  rw [HN.out, HX.out, HY.out, HA.out, HB.out, IntWalk.wrap64_in a (by omega), IntWalk.wrap64_in b (by omega), IntWalk.wrap64_in (a + c) (by omega), IntWalk.wrap64_in (b + c) (by omega), IntWalk.wrap64_in (a + c - 1) (by omega), IntWalk.wrap64_in (b + c - 1) (by omega)]
  go_wp2_with fail
  refine bodyPost_ret (v := .agg #[.int .i64 (k + n : Int), .int .i64 a, .int .i64 b, .int .i64 (a + c - 1), .int .i64 (b + c - 1)]) (by simp [results, Tryd.results48, go_sem]) rfl ⟨rfl, ?_⟩
  go_grown
end Go.Proofs.YthlekifagidijaaDoor
