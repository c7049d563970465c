/- Contracts of Zoom and Of, the program's and the document's: an identifier's zoom and its tile. -/
import Derived.Test.YthlekifagidijaaDoorV
namespace Go.Proofs.YthlekifagidijaaDoor
open Go.RowKit
set_option linter.unusedVariables false
theorem two4 (k : Nat) : ((2 ^ (2 * k) : Nat) : Int) = p4 k := by
  induction k with
  | zero => rfl
  | succ k ih => rw [show 2 * (k + 1) = 2 * k + 2 from by omega, Nat.pow_add, p4, ← ih]; omega
theorem len_zoom (X : Int) (n k : Nat) (h : Len n X) (h0 : p4 k ≤ X) (h1 : X < 4 * p4 k) : n = 2 * k + 1 ∨ n = 2 * k + 2 := by
  obtain ⟨h64, h⟩ := h
  have hp := p4_pos k
  have e := two4 k
  have e2 := two4 (k + 1)
  rw [p4] at e2
  rcases h with ⟨rfl, h⟩ | ⟨hn, ha, hb⟩
  · omega
  have g1 : 2 * k < n := by
    rcases Nat.lt_or_ge (2 * k) n with hc | hc
    · exact hc
    · have := Nat.pow_le_pow_right (by omega : 0 < 2) hc
      omega
  have g2 : n - 1 < 2 * (k + 1) := by
    rcases Nat.lt_or_ge (n - 1) (2 * (k + 1)) with hc | hc
    · exact hc
    · have := Nat.pow_le_pow_right (by omega : 0 < 2) hc
      omega
  omega
theorem zoom_any (d : Int) (d0 : 0 ≤ d) (w : World) : Calls Tryd.prog 26 #[.int .u64 d] w fun e w' => e = .returned (.int .i64 (zofV d)) ∧ w = w' := by
  by_cases h : d < 6004799503160661
  · obtain ⟨k, hk, a, b, e⟩ := zof_yes d d0 h
    rw [e]
    have h3 := bas_three k
    have hl := fun n hn => len_zoom (3 * d + 1) n k hn (by omega) (by omega)
    have HL := Lib.hid hl
    clear hl h3 a b e
    go_enter Tryd.func26, Tryd.ntmps26
    go_wp2_with fail
    refine (len64_any _ _ (by omega) (by omega)).mono ?_
    rintro e w' ⟨⟨n, rfl, hn⟩, rfl⟩
    have hs := HL.out n hn
    clear hn HL
    go_wp2
    go_ret
    refine ⟨?_, rfl⟩
    have : n = 2 * k + 1 ∨ n = 2 * k + 2 := hs
    rcases this with rfl | rfl
    · show Ending.returned (.int .i64 _) = .returned (.int .i64 _)
      congr 2
      omega
    · show Ending.returned (.int .i64 _) = .returned (.int .i64 _)
      congr 2
      omega
  · rw [zofV_no d h]
    go_enter Tryd.func26, Tryd.ntmps26
    go_wp2_with fail
    go_ret
    exact ⟨rfl, rfl⟩
/-- A tile as a value, and the ending of Of. -/
def tileV (z x y : Int) : Value := .agg #[.int .i64 z, .int .i64 x, .int .i64 y]
theorem of_any (d : Int) (d0 : 0 ≤ d) (w : World) (hq : QTab w) : Calls Tryd.prog 63 #[.int .u64 d] w fun e w' => e = .returned (.tuple #[.agg #[.int .i64 (ofZ d), .int .i64 (ofX d), .int .i64 (ofY d)], .int .i64 (ofE d)]) ∧ Below w.heap.size w w' := by
  have hz := fun w => zoom_any d d0 w
  by_cases h : d < 6004799503160661
  · obtain ⟨k, hk, a, b, e⟩ := zof_yes d d0 h
    obtain ⟨o1, o2, o3, o4⟩ := of_at k d hk a b
    rw [o1, o2, o3, o4]
    rw [e] at hz
    have HZ := Lib.hid hz
    have ha := fun w => ahead_any k (by omega) (by omega) w
    rw [toN] at ha
    have HA := Lib.hid ha
    have HP := Lib.hid (fun w hq => point_in k hk (d - bas k) (by omega) (by omega) w hq)
    have hn := bas_nn k
    clear hz ha o1 o2 o3 o4 e b
    generalize (hptX k (d - bas k)).1 = x at *
    generalize (hptX k (d - bas k)).2 = y at *
    generalize bas k = B at *
    go_enter Tryd.func63, Tryd.ntmps63
    go_wp2_with fail
    refine (HZ.out _).mono ?_
    rintro e w' ⟨rfl, rfl⟩
    go_wp2_with fail
    refine (HA.out _).mono ?_
    rintro e w' ⟨rfl, rfl⟩
    go_wp2_with fail
    refine (HP.out _ (hq.below (by go_grown))).mono ?_
    rintro e w1 ⟨rfl, hb⟩
    obtain ⟨hs, hb1, c0, c1, c2, f⟩ := kept3 hb
    clear hb
    go_wp2_with fail
    refine bodyPost_ret (v := .tuple #[.agg #[.int .i64 k, .int .i64 x, .int .i64 y], .int .i64 0]) (by simp [results, Tryd.results63, go_sem, c0, c1, c2]) rfl ⟨rfl, ?_⟩
    go_grown
  · obtain ⟨o1, o2, o3, o4⟩ := of_no d h
    rw [o1, o2, o3, o4]
    rw [zofV_no d h] at hz
    have HZ := Lib.hid hz
    clear hz o1 o2 o3 o4
    go_enter Tryd.func63, Tryd.ntmps63
    go_wp2_with fail
    refine (HZ.out _).mono ?_
    rintro e w' ⟨rfl, rfl⟩
    go_wp2_with fail
    refine bodyPost_ret (v := .tuple #[.agg #[.int .i64 0, .int .i64 0, .int .i64 0], .int .i64 8]) (by simp [results, Tryd.results63, go_sem]) rfl ⟨rfl, ?_⟩
    go_grown
end Go.Proofs.YthlekifagidijaaDoor
