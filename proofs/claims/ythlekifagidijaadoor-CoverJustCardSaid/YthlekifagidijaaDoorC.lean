/- Contracts of the document's place and point: they tell a tile's place, and the tile of a place, as the plain arithmetic does. -/
import Derived.Test.YthlekifagidijaaDoorB
namespace Go.Proofs.YthlekifagidijaaDoor
open Go.RowKit
set_option linter.unusedVariables false
theorem half (k : Nat) : (2 * p2 k).tdiv 2 = p2 k := by
  have := p2_pos k
  rw [Int.tdiv_eq_ediv_of_nonneg (by omega)]; omega
theorem ref_place (k : Nat) (hk : k ≤ 26) (x y : Int) (h : In k x y) (w : World) : Calls Tryd.prog 64 #[.int .i64 (p2 k), .int .i64 x, .int .i64 y] w fun e w' => e = .returned (.int .u64 (hpl k x y)) ∧ w = w' := by
  induction k generalizing x y w with
  | zero =>
    go_enter Tryd.func64, Tryd.ntmps64
    rw [show p2 0 = 1 from rfl]
    go_wp2
    go_ret
    exact ⟨rfl, rfl⟩
  | succ k ih =>
    obtain ⟨x0, x1, y0, y1⟩ := h
    have ht := p2_top k (by omega)
    have hp := p2_pos k
    have h4 := p4_top k (by omega)
    have h4p := p4_pos k
    have hsq := p2_sq k
    have hh := half k
    simp only [p2] at x1 y1
    rw [hpl_succ, show p2 (k + 1) = 2 * p2 k from rfl]
    have ih := ih (by omega)
    have hb := hpl_bd k
    unfold In at ih hb
    generalize p2 k = h at *
    generalize p4 k = a at *
    by_cases hx : x < h
    · rw [if_pos hx]
      by_cases hy : y < h
      · rw [if_pos hy]
        have ih := ih y x (by omega)
        go_enter Tryd.func64, Tryd.ntmps64
        go_wp2_with fail
        refine (ih _).mono ?_
        rintro e w' ⟨rfl, rfl⟩
        go_wp2_with fail
        go_ret
        exact ⟨rfl, rfl⟩
      · rw [if_neg hy]
        have ih := ih x (y - h) (by omega)
        have hb := hb x (y - h) (by omega)
        obtain ⟨b0, b1⟩ := hb
        generalize hpl k x (y - h) = g at *
        go_enter Tryd.func64, Tryd.ntmps64
        go_wp2_with fail
        refine (ih _).mono ?_
        rintro e w' ⟨rfl, rfl⟩
        go_wp2_with fail
        go_ret
        exact ⟨by go_num, rfl⟩
    · rw [if_neg hx]
      by_cases hy : h ≤ y
      · rw [if_pos hy]
        have ih := ih (x - h) (y - h) (by omega)
        have hb := hb (x - h) (y - h) (by omega)
        obtain ⟨b0, b1⟩ := hb
        generalize hpl k (x - h) (y - h) = g at *
        go_enter Tryd.func64, Tryd.ntmps64
        go_wp2_with fail
        refine (ih _).mono ?_
        rintro e w' ⟨rfl, rfl⟩
        go_wp2_with fail
        go_ret
        exact ⟨by go_num, rfl⟩
      · rw [if_neg hy]
        have ih := ih (h - 1 - y) (h - 1 - (x - h)) (by omega)
        have hb := hb (h - 1 - y) (h - 1 - (x - h)) (by omega)
        obtain ⟨b0, b1⟩ := hb
        generalize hpl k (h - 1 - y) (h - 1 - (x - h)) = g at *
        go_enter Tryd.func64, Tryd.ntmps64
        go_wp2_with fail
        refine (ih _).mono ?_
        rintro e w' ⟨rfl, rfl⟩
        go_wp2_with fail
        go_ret
        exact ⟨by go_num, rfl⟩
theorem quot_rest (a q d : Int) (ha : 0 < a) (h0 : 0 ≤ d) (h1 : q * a ≤ d) (h2 : d < q * a + a) : d.tdiv a = q ∧ d.tmod a = d - q * a := by
  obtain ⟨e1, e2⟩ := div_rest a q (d - q * a) (by omega) (by omega)
  rw [show q * a + (d - q * a) = d from by omega] at e1 e2
  exact ⟨by rw [Int.tdiv_eq_ediv_of_nonneg h0]; exact e1, by rw [Int.tmod_eq_emod_of_nonneg h0]; exact e2⟩
theorem hpt_succ (k : Nat) (d : Int) : hptX (k + 1) d = if d < p4 k then ((hptX k d).2, (hptX k d).1) else if d < 2 * p4 k then ((hptX k (d - p4 k)).1, (hptX k (d - p4 k)).2 + p2 k) else if d < 3 * p4 k then ((hptX k (d - 2 * p4 k)).1 + p2 k, (hptX k (d - 2 * p4 k)).2 + p2 k) else (2 * p2 k - 1 - (hptX k (d - 3 * p4 k)).2, p2 k - 1 - (hptX k (d - 3 * p4 k)).1) := rfl
end Go.Proofs.YthlekifagidijaaDoor
