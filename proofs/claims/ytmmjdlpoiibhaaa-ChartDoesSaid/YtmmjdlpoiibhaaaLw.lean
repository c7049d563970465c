/- The contract of awake. -/
import Derived.Test.YtmmjdlpoiibhaaaLv
namespace Go.Proofs.Ytmmjdlpoiibhaaa
open Go.RowKit
set_option maxRecDepth 20000
set_option linter.unusedVariables false
set_option linter.unusedSimpArgs false
theorem aw1 (w : World) : Calls Try.prog 9 #[.agg #[.slice none 0 0], .int .u64 5, .string { data := #[98] }] w fun e w' => ∃ s', e = .returned (.tuple #[.agg #[s'], .int .i64 0]) ∧ ChS w' s' [(5, kB)] ∧ Below w.heap.size w w' := by
  refine (put_any _ [] 5 kB w (chS_nil w) (by omega) (by unfold maxLen; decide)).mono ?_
  rintro e w' ⟨s', rfl, h, hb⟩
  rw [w1L] at h
  exact ⟨s', by rw [w1E]; rfl, h, hb⟩
theorem aw2 (s : Value) (w : World) (h : ChS w s [(5, kB)]) : Calls Try.prog 9 #[.agg #[s], .int .u64 0, .string { data := #[97] }] w fun e w' => ∃ s', e = .returned (.tuple #[.agg #[s'], .int .i64 0]) ∧ ChS w' s' [(0, kA), (5, kB)] ∧ Below w.heap.size w w' := by
  refine (put_any _ _ 0 kA w h (by omega) (by unfold maxLen; decide)).mono ?_
  rintro e w' ⟨s', rfl, h, hb⟩
  rw [w2L] at h
  exact ⟨s', by rw [w2E]; rfl, h, hb⟩
theorem aw3 (s : Value) (w : World) (h : ChS w s [(5, kB)]) : Calls Try.prog 9 #[.agg #[s], .int .u64 1, .string { data := #[] }] w fun e w' => ∃ s' l, e = .returned (.tuple #[.agg #[s'], .int .i64 2]) ∧ ChS w' s' l ∧ Below w.heap.size w w' := by
  refine (put_any _ _ 1 kE w h (by omega) (by unfold maxLen; decide)).mono ?_
  rintro e w' ⟨s', rfl, h, hb⟩
  exact ⟨s', _, by rw [w3E]; rfl, h, hb⟩
theorem aw4 (v : Value) (w : World) (hv : ItsAt w v [(1, kX), (1, kY)]) : Calls Try.prog 24 #[v] w fun e w' => ∃ s' l, e = .returned (.tuple #[.agg #[s'], .int .i64 22]) ∧ ChS w' s' l ∧ Below w.heap.size w w' := by
  refine (of_any v _ w hv (by simp) (fun t ht => ?_) (fun t ht => ?_)).mono ?_
  · simp at ht; rcases ht with rfl | rfl <;> decide
  · simp at ht; unfold maxLen; rcases ht with rfl | rfl <;> decide
  rintro e w' ⟨s', rfl, h, hb⟩
  exact ⟨s', _, by rw [w4]; rfl, h, hb⟩
theorem aw5 (s : Value) (w : World) (h : ChS w s [(0, kA), (5, kB)]) : Calls Try.prog 16 #[.agg #[s], .int .u64 5] w fun e w' => e = .returned (.tuple #[.string { data := #[98] }, .bool true]) ∧ Below w.heap.size w w' := by
  refine (get_any s _ 5 w h (by omega)).mono ?_
  rintro e w' ⟨rfl, hb⟩
  exact ⟨by rw [w5]; rfl, hb⟩
theorem aw6 (s : Value) (w : World) (h : ChS w s [(0, kA), (5, kB)]) : Calls Try.prog 14 #[.agg #[s], .int .u64 5] w fun e w' => ∃ s', e = .returned (.agg #[s']) ∧ ChS w' s' [(0, kA)] ∧ Below w.heap.size w w' := by
  refine (del_any s _ 5 w h (by omega)).mono ?_
  rintro e w' ⟨s', rfl, h, hb⟩
  rw [w6] at h
  exact ⟨s', rfl, h, hb⟩
theorem aw7 (s : Value) (w : World) (h : ChS w s [(0, kA)]) : Calls Try.prog 16 #[.agg #[s], .int .u64 5] w fun e w' => e = .returned (.tuple #[.string { data := #[] }, .bool false]) ∧ Below w.heap.size w w' := by
  refine (get_any s _ 5 w h (by omega)).mono ?_
  rintro e w' ⟨rfl, hb⟩
  exact ⟨by rw [w7]; rfl, hb⟩
theorem aw8 (s : Value) (w : World) (h : ChS w s [(0, kA), (5, kB)]) : Calls Try.prog 18 #[.agg #[s]] w fun e w' => e = .returned (.tuple #[.int .i64 0, .int .i64 2, .bool true]) ∧ Below w.heap.size w w' := by
  refine (zooms_any s _ w h).mono ?_
  rintro e w' ⟨rfl, hb⟩
  exact ⟨by rw [w8, w9]; rfl, hb⟩
theorem aw9 (s : Value) (w : World) (h : ChS w s [(0, kA), (5, kB)]) : Calls Try.prog 13 #[.agg #[s]] w fun e w' => ∃ g o c, e = .returned (.slice (some ⟨g, o, none⟩) 2 c) ∧ g < w'.heap.size ∧ w'.cell? ⟨g, o, none⟩ = some (.int .u64 0) ∧ w'.cell? ⟨g, o + 1, none⟩ = some (.string { data := #[97] }) ∧ Below w.heap.size w w' := by
  refine (items_any s _ w h).mono ?_
  rintro e w' ⟨v, rfl, h, hb⟩
  obtain ⟨a, cap, rfl, h1, h2, hc⟩ := h
  obtain ⟨g, o, rfl, hg, c0, c1⟩ := hc 0 (0, kA) rfl
  exact ⟨g, o, cap, rfl, hg, c0, c1, hb⟩
theorem aw10 (s : Value) (w : World) (h : ChS w s [(5, kB)]) : Calls Try.prog 20 #[.agg #[s]] w fun e w' => e = .returned (.int .i64 1) ∧ Below w.heap.size w w' := len_any s _ w h
theorem aw11 (s : Value) (w : World) (h : ChS w s [(0, kA), (5, kB)]) : Calls Try.prog 21 #[.agg #[s]] w fun e w' => e = .returned (.int .i64 2) ∧ Below w.heap.size w w' := by
  refine (bytes_any s _ w h).mono ?_
  rintro e w' ⟨rfl, hb⟩
  exact ⟨by rw [w10]; rfl, hb⟩
theorem aw12 (s t : Value) (w : World) (h : ChS w s [(5, kB)]) (h' : ChS w t [(0, kA), (5, kB)]) : Calls Try.prog 27 #[.agg #[s], .agg #[t]] w fun e w' => e = .returned (.bool false) ∧ Below w.heap.size w w' := by
  refine (same_any s t _ _ w h h').mono ?_
  rintro e w' ⟨rfl, hb⟩
  exact ⟨by rw [decide_eq_false (by simp)], hb⟩
theorem aw13 (s : Value) (w : World) (h : ChS w s [(0, kA), (5, kB)]) : Calls Try.prog 27 #[.agg #[s], .agg #[s]] w fun e w' => e = .returned (.bool true) ∧ Below w.heap.size w w' := by
  refine (same_any s s _ _ w h h).mono ?_
  rintro e w' ⟨rfl, hb⟩
  exact ⟨by rw [decide_eq_true rfl], hb⟩
theorem aw14 (s : Value) (w : World) (h : ChS w s [(0, kA), (5, kB)]) : Calls Try.prog 29 #[.agg #[s]] w fun e w' => ∃ g lb, e = .returned (.func (.func g) #[] lb) ∧ Below w.heap.size w w' := by
  refine (each_any s _ w h).mono ?_
  rintro e w' ⟨y, rfl, ⟨g, lb, V, rfl, _⟩, hb⟩
  exact ⟨g, lb, rfl, hb⟩
end Go.Proofs.Ytmmjdlpoiibhaaa
