/- Contracts of the program's Side, tiles, number and through, of the document's Side, and of the law's own worth. -/
import Derived.Test.YthlekifagidijaaDoorA
import Derived.Handy
namespace Go.Proofs.YthlekifagidijaaDoor
open Go.RowKit
set_option linter.unusedVariables false
def Zoom (z : Int) : Prop := 0 ≤ z ∧ z ≤ 26
instance (z : Int) : Decidable (Zoom z) := by unfold Zoom; infer_instance
def sideV (z : Int) : Int := if Zoom z then p2 z.toNat else 0
theorem p2_pow (k : Nat) : (2 : Int) ^ k = p2 k := by
  induction k with
  | zero => rfl
  | succ k ih => rw [Int.pow_succ, ih, p2]; omega
theorem p4_pow (k : Nat) : (2 : Int) ^ (2 * k) = p4 k := by
  induction k with
  | zero => rfl
  | succ k ih => rw [show 2 * (k + 1) = 2 * k + 2 from rfl, Int.pow_add, ih, p4]; omega
theorem p2_mono (a b : Nat) (h : a ≤ b) : p2 a ≤ p2 b := by
  induction h with
  | refl => exact Int.le_refl _
  | step h ih => simp only [p2]; have := p2_pos a; omega
theorem p4_mono (a b : Nat) (h : a ≤ b) : p4 a ≤ p4 b := by
  induction h with
  | refl => exact Int.le_refl _
  | step h ih => simp only [p4]; have := p4_pos a; omega
theorem p2_top (k : Nat) (h : k ≤ 26) : p2 k ≤ 67108864 := p2_mono k 26 h
theorem p4_top (k : Nat) (h : k ≤ 26) : p4 k ≤ 4503599627370496 := p4_mono k 26 h
theorem toN (k : Nat) : (k : Int).toNat = k := Int.toNat_natCast k
theorem side_any (z : Int) (w : World) : Calls Tryd.prog 60 #[.int .i64 z] w fun e w' => e = .returned (.int .i64 (sideV z)) ∧ w = w' := by
  by_cases h0 : z < 0
  · have e : sideV z = 0 := by unfold sideV; rw [if_neg (by unfold Zoom; omega)]
    rw [e]
    go_enter Tryd.func60, Tryd.ntmps60
    go_wp2
    go_ret
    exact ⟨rfl, rfl⟩
  · by_cases h1 : 26 < z
    · have e : sideV z = 0 := by unfold sideV; rw [if_neg (by unfold Zoom; omega)]
      rw [e]
      go_enter Tryd.func60, Tryd.ntmps60
      go_wp2
      go_ret
      exact ⟨rfl, rfl⟩
    · obtain ⟨k, rfl⟩ : ∃ k : Nat, z = k := ⟨z.toNat, by omega⟩
      have e : sideV k = p2 k := by unfold sideV; rw [if_pos (by unfold Zoom; omega), toN]
      rw [e]
      have ht := p2_top k (by omega)
      have hp := p2_pos k
      go_enter Tryd.func60, Tryd.ntmps60
      go_wp2
      go_ret
      refine ⟨?_, rfl⟩
      show Ending.returned (.int .i64 (wrap64 (2 ^ (k : Int).toNat))) = _
      rw [toN, p2_pow, IntWalk.wrap64_in _ (by omega)]
theorem tiles_any (z : Int) (h : Zoom z) (w : World) : Calls Tryd.prog 80 #[.int .i64 z] w fun e w' => e = .returned (.int .u64 (p4 z.toNat)) ∧ w = w' := by
  obtain ⟨h0, h1⟩ := h
  obtain ⟨k, rfl⟩ : ∃ k : Nat, z = k := ⟨z.toNat, by omega⟩
  have ht := p4_top k (by omega)
  have hp := p4_pos k
  go_enter Tryd.func80, Tryd.ntmps80
  go_wp2
  go_ret
  refine ⟨?_, rfl⟩
  show Ending.returned (.int .u64 (IntKind.u64.wrap (2 ^ (2 * (k : Int)).toNat))) = _
  rw [show (2 * (k : Int)).toNat = 2 * k from by omega, toN, p4_pow, IntWalk.u64_in _ (by omega)]
theorem rside_any (z : Int) (w : World) : Calls Tryd.prog 30 #[.int .i64 z] w fun e w' => e = .returned (.int .i64 (sideV z)) ∧ w = w' := by
  by_cases h0 : z < 0
  · have e : sideV z = 0 := by unfold sideV; rw [if_neg (by unfold Zoom; omega)]
    rw [e]
    go_enter Tryd.func30, Tryd.ntmps30
    go_wp2
    go_ret
    exact ⟨rfl, rfl⟩
  · by_cases h1 : 26 < z
    · have e : sideV z = 0 := by unfold sideV; rw [if_neg (by unfold Zoom; omega)]
      rw [e]
      go_enter Tryd.func30, Tryd.ntmps30
      go_wp2
      go_ret
      exact ⟨rfl, rfl⟩
    · obtain ⟨n, rfl⟩ : ∃ k : Nat, z = k := ⟨z.toNat, by omega⟩
      have e : sideV n = p2 n := by unfold sideV; rw [if_pos (by unfold Zoom; omega), toN]
      rw [e]
      go_enter Tryd.func30, Tryd.ntmps30
      go_wp2_with fail
      go_loop [3, 4] (fun s i => ∃ k : Nat, k ≤ n ∧ i = .int .i64 k ∧ s = .int .i64 (p2 k)) (fun _ i => n - (intOf i).toNat)
      case atStart => exact ⟨0, Nat.zero_le _, rfl, rfl⟩
      case round =>
        obtain ⟨k, hk, rfl, rfl⟩ := hrel
        by_cases hlt : k < n
        · have ht := p2_top (k + 1) (by omega)
          have hp := p2_pos k
          have hs : p2 (k + 1) = 2 * p2 k := rfl
          go_wp2_with fail
          refine ⟨⟨k + 1, by omega, by go_num, by rw [hs]⟩, ?_⟩
          simp [intOf]; omega
        · obtain rfl : k = n := by omega
          go_wp2_with fail
          go_ret
          exact ⟨rfl, rfl⟩
/-- What a quarter does with a tile of it. -/
def thX (s t : Bool) (h x y : Int) : Int := let a := if s then y else x; if t then h - 1 - a else a
def thY (s t : Bool) (h x y : Int) : Int := let a := if s then x else y; if t then h - 1 - a else a
theorem through_any (r u : Int) (s t : Bool) (h x y : Int) (hh : 0 ≤ h ∧ h ≤ 1000000000) (hx : 0 ≤ x ∧ x ≤ 1000000000) (hy : 0 ≤ y ∧ y ≤ 1000000000) (w : World) :
    Calls Tryd.prog 62 #[.agg #[.int .i64 r, .int .i64 u, .bool s, .bool t], .int .i64 h, .int .i64 x, .int .i64 y] w fun e w' => e = .returned (.tuple #[.int .i64 (thX s t h x y), .int .i64 (thY s t h x y)]) ∧ Below w.heap.size w w' := by
  obtain ⟨h0, h1⟩ := hh
  obtain ⟨x0, x1⟩ := hx
  obtain ⟨y0, y1⟩ := hy
  cases s <;> cases t <;> simp only [thX, thY, if_true, if_false, Bool.false_eq_true]
  all_goals
    go_enter Tryd.func62, Tryd.ntmps62
    go_wp2
    go_ret2
    exact ⟨by first | rfl | (apply ret2 <;> go_num), by go_grown⟩
def numV (r u : Int) : Int := if r = 0 then u else if u = 1 then 2 else 3
theorem number_any (r u : Int) (hr : r = 0 ∨ r = 1) (hu : u = 0 ∨ u = 1) (w : World) (hq : QTab w) : Calls Tryd.prog 61 #[.int .i64 r, .int .i64 u] w fun e w' => e = .returned (.int .i64 (numV r u)) ∧ w = w' := by
  obtain ⟨hz, ⟨a0, a1, a2, a3⟩, ⟨b0, b1, b2, b3⟩, ⟨c0, c1, c2, c3⟩, ⟨d0, d1, d2, d3⟩⟩ := hq
  simp only [Nat.mul_zero, Nat.mul_one, Nat.zero_add, Nat.reduceMul, Nat.reduceAdd] at a0 a1 a2 a3 b0 b1 b2 b3 c0 c1 c2 c3 d0 d1 d2 d3
  rcases hr with rfl | rfl <;> rcases hu with rfl | rfl
  · go_enter Tryd.func61, Tryd.ntmps61
    go_wp2_with fail
    go_loop [8] (fun i => ∃ k : Nat, k ≤ 0 ∧ i = .int .i64 k) (fun i => 3 - (intOf i).toNat)
    case atStart => exact ⟨0, Nat.zero_le _, rfl⟩
    case round =>
      obtain ⟨k, hk, rfl⟩ := hrel
      obtain rfl : k = 0 := by omega
      go_wp2_with fail
      go_ret
      exact ⟨rfl, rfl⟩
  · go_enter Tryd.func61, Tryd.ntmps61
    go_wp2_with fail
    go_loop [8] (fun i => ∃ k : Nat, k ≤ 1 ∧ i = .int .i64 k) (fun i => 3 - (intOf i).toNat)
    case atStart => exact ⟨0, Nat.zero_le _, rfl⟩
    case round =>
      obtain ⟨k, hk, rfl⟩ := hrel
      have : k = 0 ∨ k = 1 := by omega
      rcases this with rfl | rfl
      · go_wp2_with fail
        exact ⟨⟨1, by omega, rfl⟩, by decide⟩
      · go_wp2_with fail
        go_ret
        exact ⟨rfl, rfl⟩
  · go_enter Tryd.func61, Tryd.ntmps61
    go_wp2_with fail
    go_loop [8] (fun i => ∃ k : Nat, k ≤ 3 ∧ i = .int .i64 k) (fun i => 3 - (intOf i).toNat)
    case atStart => exact ⟨0, Nat.zero_le _, rfl⟩
    case round =>
      obtain ⟨k, hk, rfl⟩ := hrel
      have : k = 0 ∨ k = 1 ∨ k = 2 ∨ k = 3 := by omega
      rcases this with rfl | rfl | rfl | rfl
      · go_wp2_with fail
        exact ⟨⟨1, by omega, rfl⟩, by decide⟩
      · go_wp2_with fail
        exact ⟨⟨2, by omega, rfl⟩, by decide⟩
      · go_wp2_with fail
        exact ⟨⟨3, by omega, rfl⟩, by decide⟩
      · go_wp2_with fail
        go_ret
        exact ⟨rfl, rfl⟩
  · go_enter Tryd.func61, Tryd.ntmps61
    go_wp2_with fail
    go_loop [8] (fun i => ∃ k : Nat, k ≤ 2 ∧ i = .int .i64 k) (fun i => 3 - (intOf i).toNat)
    case atStart => exact ⟨0, Nat.zero_le _, rfl⟩
    case round =>
      obtain ⟨k, hk, rfl⟩ := hrel
      have : k = 0 ∨ k = 1 ∨ k = 2 := by omega
      rcases this with rfl | rfl | rfl
      · go_wp2_with fail
        exact ⟨⟨1, by omega, rfl⟩, by decide⟩
      · go_wp2_with fail
        exact ⟨⟨2, by omega, rfl⟩, by decide⟩
      · go_wp2_with fail
        go_ret
        exact ⟨rfl, rfl⟩
end Go.Proofs.YthlekifagidijaaDoor
