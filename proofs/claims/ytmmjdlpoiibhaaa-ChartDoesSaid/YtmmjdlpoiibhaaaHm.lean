/- Zooms. -/
import Derived.Test.YtmmjdlpoiibhaaaHd
import Derived.Test.YtmmjdlpoiibhaaaLg
namespace Go.Proofs.Ytmmjdlpoiibhaaa
open Go.RowKit
set_option maxRecDepth 20000
set_option linter.unusedVariables false
set_option linter.unusedSimpArgs false
set_option maxHeartbeats 1000000 in
theorem zooms_any (s : Value) (l : List It) (w : World) (h : ChS w s l) :
    Calls Try.prog 18 #[.agg #[s]] w fun e w' => e = .returned (.tuple #[.int .i64 (zlo l), .int .i64 (zhi l), .bool (decide (0 < l.length))]) ∧ Below w.heap.size w w' := by
  obtain ⟨al, cap, rfl, hcap, hmx, hc⟩ := h.its
  have hfew := h.good.few
  clear h
  cases l with
  | nil =>
    go_enter Try.func18, Try.ntmps18
    go_wp2_with fail
    refine bodyPost_ret (results_tmp3 rfl _ _ _) rfl ⟨rfl, by go_grown⟩
  | cons t m =>
    obtain ⟨n, hn⟩ : ∃ n, (t :: m).length = n + 1 := ⟨m.length, by simp⟩
    obtain ⟨u, hu⟩ : ∃ u, (t :: m)[n]? = some u := ⟨_, List.getElem?_eq_getElem (by omega)⟩
    obtain ⟨g, off, rfl, hg, c0, c1⟩ := hc 0 t rfl
    obtain ⟨g', off', e, hg', d0, d1⟩ := hc n u hu
    injection e with e
    injection e with e1 e2
    subst e1 e2
    have hlast : zhi (t :: m) = zofV (u.1 : Int) := by
      unfold zhi
      rw [List.getLast?_eq_getElem?, hn, Nat.add_sub_cancel, hu]
    have hpos : decide (0 < (t :: m).length) = true := decide_eq_true (by omega)
    rw [hlast, hpos, show zlo (t :: m) = zofV (t.1 : Int) from rfl]
    rw [hn] at hcap hfew ⊢
    obtain ⟨x, s⟩ := t
    obtain ⟨y, s'⟩ := u
    simp only at c0 c1 d0 d1 ⊢
    have HZ1 : Hid (∀ W, Calls Try.prog 35 #[.int .u64 x] W fun e w' => e = .returned (.int .i64 (zofV x)) ∧ w' = W) := Lib.hid (fun W => (zoom_any (x : Int) (by omega) W).mono (fun e w' h => ⟨h.1, h.2.symm⟩))
    have HZ2 : Hid (∀ W, Calls Try.prog 35 #[.int .u64 y] W fun e w' => e = .returned (.int .i64 (zofV y)) ∧ w' = W) := Lib.hid (fun W => (zoom_any (y : Int) (by omega) W).mono (fun e w' h => ⟨h.1, h.2.symm⟩))
    generalize zofV (x : Int) = zx at *
    generalize zofV (y : Int) = zy at *
    simp only [Nat.zero_mul, Nat.add_zero] at c0 c1
    have hi1 : IntKind.i64.wrap ((n : Int) + 1 - 1) = (n : Int) := by rw [IntKind.wrap_i64]; omega
    have hi2 : (n : Int) < (n : Int) + 1 := by omega
    have hi3 : ((n : Int) + 1 == 0) = false := by rw [beq_eq_false_iff_ne]; omega
    have hi4 : (0 : Int) < (n : Int) + 1 := by omega
    have hi5 : IntKind.i64.wrap (n : Int) = (n : Int) := by rw [IntKind.wrap_i64]; omega
    have c0a : ∀ O, (w.alloc O).cell? ⟨g, off, none⟩ = _ := fun O => ((below_one w O).cell (p := ⟨g, off, none⟩) hg).trans c0
    have c0b : ∀ O O', ((w.alloc O).alloc O').cell? ⟨g, off, none⟩ = _ := fun O O' => ((below_one (w.alloc O) O').cell (p := ⟨g, off, none⟩) (by show g < _; rw [World.size_alloc]; omega)).trans (c0a O)
    have c0c : ∀ O O' O'', (((w.alloc O).alloc O').alloc O'').cell? ⟨g, off, none⟩ = _ := fun O O' O'' => ((below_one ((w.alloc O).alloc O') O'').cell (p := ⟨g, off, none⟩) (by show g < _; rw [World.size_alloc, World.size_alloc]; omega)).trans (c0b O O')
    have c1a : ∀ O, (w.alloc O).cell? ⟨g, off + 1, none⟩ = _ := fun O => ((below_one w O).cell (p := ⟨g, off + 1, none⟩) hg).trans c1
    have c1b : ∀ O O', ((w.alloc O).alloc O').cell? ⟨g, off + 1, none⟩ = _ := fun O O' => ((below_one (w.alloc O) O').cell (p := ⟨g, off + 1, none⟩) (by show g < _; rw [World.size_alloc]; omega)).trans (c1a O)
    have c1c : ∀ O O' O'', (((w.alloc O).alloc O').alloc O'').cell? ⟨g, off + 1, none⟩ = _ := fun O O' O'' => ((below_one ((w.alloc O).alloc O') O'').cell (p := ⟨g, off + 1, none⟩) (by show g < _; rw [World.size_alloc, World.size_alloc]; omega)).trans (c1b O O')
    have d0a : ∀ O, (w.alloc O).cell? ⟨g, off + n * 2, none⟩ = _ := fun O => ((below_one w O).cell (p := ⟨g, off + n * 2, none⟩) hg).trans d0
    have d0b : ∀ O O', ((w.alloc O).alloc O').cell? ⟨g, off + n * 2, none⟩ = _ := fun O O' => ((below_one (w.alloc O) O').cell (p := ⟨g, off + n * 2, none⟩) (by show g < _; rw [World.size_alloc]; omega)).trans (d0a O)
    have d0c : ∀ O O' O'', (((w.alloc O).alloc O').alloc O'').cell? ⟨g, off + n * 2, none⟩ = _ := fun O O' O'' => ((below_one ((w.alloc O).alloc O') O'').cell (p := ⟨g, off + n * 2, none⟩) (by show g < _; rw [World.size_alloc, World.size_alloc]; omega)).trans (d0b O O')
    have d1a : ∀ O, (w.alloc O).cell? ⟨g, off + n * 2 + 1, none⟩ = _ := fun O => ((below_one w O).cell (p := ⟨g, off + n * 2 + 1, none⟩) hg).trans d1
    have d1b : ∀ O O', ((w.alloc O).alloc O').cell? ⟨g, off + n * 2 + 1, none⟩ = _ := fun O O' => ((below_one (w.alloc O) O').cell (p := ⟨g, off + n * 2 + 1, none⟩) (by show g < _; rw [World.size_alloc]; omega)).trans (d1a O)
    have d1c : ∀ O O' O'', (((w.alloc O).alloc O').alloc O'').cell? ⟨g, off + n * 2 + 1, none⟩ = _ := fun O O' O'' => ((below_one ((w.alloc O).alloc O') O'').cell (p := ⟨g, off + n * 2 + 1, none⟩) (by show g < _; rw [World.size_alloc, World.size_alloc]; omega)).trans (d1b O O')
    clear hc hu hlast hpos hg' hg c0 c1 d0 d1
    go_enter Try.func18, Try.ntmps18
    go_wp2_with fail
    go_region
    all_goals
      go_wp2_with fail
      go_region_with (first | (with_reducible refine (HZ1.out _).mono ?_; rintro e w1 ⟨rfl, rfl⟩) | (with_reducible refine (HZ2.out _).mono ?_; rintro e w1 ⟨rfl, rfl⟩))
      all_goals
        go_wp2_with fail
        refine bodyPost_ret (results_tmp3 rfl _ _ _) rfl ⟨rfl, by go_grown⟩
end Go.Proofs.Ytmmjdlpoiibhaaa
