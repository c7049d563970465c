/- The walk of LittleTakes where the text has at most 300 bytes: it returns true, and what was there stays. -/
import Derived.Test.YtgdekiimjlpmfaaX
import Derived.Test.YtgdekiimjlpmfaaW
import Derived.Deep.RegionHeld3
import Derived.Deep.DeepCutAuto
namespace Go.Proofs.Ytgdekiimjlpmfaa
open Go.RowKit
set_option linter.unusedVariables false
theorem keepS {w w' w1 : World} {a0 a1 a2 a3 a4 a5 a6 a7 a8 a9 a10 a11 a12 a13 a14 : Addr} {v0 v1 v2 v3 v4 v5 v6 v7 v8 v9 v10 v11 v12 v13 v14 : Value} (hb : Below w'.heap.size w' w1) (h : w'.cell? a0 = some v0 ∧ w'.cell? a1 = some v1 ∧ w'.cell? a2 = some v2 ∧ w'.cell? a3 = some v3 ∧ w'.cell? a4 = some v4 ∧ w'.cell? a5 = some v5 ∧ w'.cell? a6 = some v6 ∧ w'.cell? a7 = some v7 ∧ w'.cell? a8 = some v8 ∧ w'.cell? a9 = some v9 ∧ w'.cell? a10 = some v10 ∧ w'.cell? a11 = some v11 ∧ w'.cell? a12 = some v12 ∧ w'.cell? a13 = some v13 ∧ w'.cell? a14 = some v14 ∧ Below w.heap.size w w') :
    w1.cell? a0 = some v0 ∧ w1.cell? a1 = some v1 ∧ w1.cell? a2 = some v2 ∧ w1.cell? a3 = some v3 ∧ w1.cell? a4 = some v4 ∧ w1.cell? a5 = some v5 ∧ w1.cell? a6 = some v6 ∧ w1.cell? a7 = some v7 ∧ w1.cell? a8 = some v8 ∧ w1.cell? a9 = some v9 ∧ w1.cell? a10 = some v10 ∧ w1.cell? a11 = some v11 ∧ w1.cell? a12 = some v12 ∧ w1.cell? a13 = some v13 ∧ w1.cell? a14 = some v14 ∧ Below w.heap.size w w1 := by
  obtain ⟨h0, h1, h2, h3, h4, h5, h6, h7, h8, h9, h10, h11, h12, h13, h14, hu⟩ := h
  exact ⟨cell_later hb h0, cell_later hb h1, cell_later hb h2, cell_later hb h3, cell_later hb h4, cell_later hb h5, cell_later hb h6, cell_later hb h7, cell_later hb h8, cell_later hb h9, cell_later hb h10, cell_later hb h11, cell_later hb h12, cell_later hb h13, cell_later hb h14, hu.trans (hb.mono hu.size)⟩
set_option maxHeartbeats 1600000 in
theorem takes_walk (t : ByteArray) (p q n : Int) (w : World) (hm : t.size ≤ maxLen) (h3 : t.size ≤ 300) :
    Calls Try.prog 4 #[.agg #[.string t, .int .i64 p, .int .i64 q], .int .i64 n] w fun e w' => e = .returned (.bool true) ∧ Below w.heap.size w w' := by
  have hd : decide (300 < (t.size : Int)) = false := by simp; omega
  obtain ⟨V, P, Q, hn1, hn2⟩ := num_both t p q n hm
  obtain ⟨s, P', Q', hb1, hb2⟩ := bytes_both t p q n hm
  obtain ⟨r, hr1, hr2⟩ := rest_both t p q hm
  have N1 := Lib.hid hn1; have N2 := Lib.hid hn2; have B1 := Lib.hid hb1; have B2 := Lib.hid hb2; have R1 := Lib.hid hr1; have R2 := Lib.hid hr2
  clear hn1 hn2 hb1 hb2 hr1 hr2 h3 hm
  go_enter Try.func4, Try.ntmps4
  go_wp2_with fail
  refine (own_any t p q _).mono ?_
  rintro e w1 ⟨rfl, hb⟩
  obtain ⟨z1, u1, b0, b1, b2⟩ := kept1 hb
  clear hb
  go_wp2_with fail
  refine (N1.out _).mono ?_
  rintro e w2 ⟨rfl, hb⟩
  have u2 := u1.trans (hb.mono u1.size)
  replace b0 := cell_later hb b0
  replace b1 := cell_later hb b1
  replace b2 := cell_later hb b2
  have z2 := hb.size
  clear hb
  have y2 : w.heap.size < w2.heap.size := by omega
  go_wp2_with fail
  refine (N2.out _).mono ?_
  rintro e w3 ⟨rfl, hb⟩
  obtain ⟨z3, v3, x0, x1, x2⟩ := kept1 hb
  have u3 := u2.trans (v3.mono u2.size)
  replace b0 := cell_later v3 b0
  replace b1 := cell_later v3 b1
  replace b2 := cell_later v3 b2
  clear hb v3
  have y3 : w.heap.size < w3.heap.size := by omega
  go_wp2_with fail
  refine (own_any t p q _).mono ?_
  rintro e w4 ⟨rfl, hb⟩
  obtain ⟨z4, v4, c0, c1, c2⟩ := kept1 hb
  have u4 := u3.trans (v4.mono u3.size)
  replace b0 := cell_later v4 b0
  replace b1 := cell_later v4 b1
  replace b2 := cell_later v4 b2
  replace x0 := cell_later v4 x0
  replace x1 := cell_later v4 x1
  replace x2 := cell_later v4 x2
  clear hb v4
  go_wp2_with fail
  refine (B1.out _).mono ?_
  rintro e w5 ⟨rfl, hb⟩
  have z5 := hb.size
  have u5 := u4.trans (hb.mono u4.size)
  replace b0 := cell_later hb b0
  replace b1 := cell_later hb b1
  replace b2 := cell_later hb b2
  replace x0 := cell_later hb x0
  replace x1 := cell_later hb x1
  replace x2 := cell_later hb x2
  replace c0 := cell_later hb c0
  replace c1 := cell_later hb c1
  replace c2 := cell_later hb c2
  clear hb
  have y5 : w.heap.size < w5.heap.size := by omega
  go_wp2_with fail
  refine (B2.out _).mono ?_
  rintro e w6 ⟨rfl, hb⟩
  obtain ⟨z6, v6, d0, d1, d2⟩ := kept1 hb
  have u6 := u5.trans (v6.mono u5.size)
  replace b0 := cell_later v6 b0
  replace b1 := cell_later v6 b1
  replace b2 := cell_later v6 b2
  replace x0 := cell_later v6 x0
  replace x1 := cell_later v6 x1
  replace x2 := cell_later v6 x2
  replace c0 := cell_later v6 c0
  replace c1 := cell_later v6 c1
  replace c2 := cell_later v6 c2
  clear hb v6
  obtain ⟨W, hW⟩ : ∃ W, w6.alloc (.cells #[.string t, .int .i64 P', .int .i64 Q'] 28) = W := ⟨_, rfl⟩
  have v7 : Below w6.heap.size w6 W := by rw [← hW]; exact (Below.refl _ _).alloc (Nat.le_refl _) _
  have e0 : W.cell? ⟨w6.heap.size, 0, none⟩ = some (.string t) := by rw [← hW]; simp [go_sem]
  have e1 : W.cell? ⟨w6.heap.size, 1, none⟩ = some (.int .i64 P') := by rw [← hW]; simp [go_sem]
  have e2 : W.cell? ⟨w6.heap.size, 2, none⟩ = some (.int .i64 Q') := by rw [← hW]; simp [go_sem]
  replace b0 := cell_later v7 b0
  replace b1 := cell_later v7 b1
  replace b2 := cell_later v7 b2
  replace x0 := cell_later v7 x0
  replace x1 := cell_later v7 x1
  replace x2 := cell_later v7 x2
  replace c0 := cell_later v7 c0
  replace c1 := cell_later v7 c1
  replace c2 := cell_later v7 c2
  replace d0 := cell_later v7 d0
  replace d1 := cell_later v7 d1
  replace d2 := cell_later v7 d2
  have u7 : Below w.heap.size w W := u6.trans (v7.mono u6.size)
  go_wp2_with fail
  clear hW v7 u1 u2 u3 u4 u5 u6 z1 z2 z3 z4 z5 z6 y2 y3 y5
  have hS0 : (fun w' => w'.cell? ⟨w.heap.size, 0, none⟩ = some (.string t) ∧ w'.cell? ⟨w.heap.size, 1, none⟩ = some (.int .i64 p) ∧ w'.cell? ⟨w.heap.size, 2, none⟩ = some (.int .i64 q) ∧ w'.cell? ⟨w2.heap.size, 0, none⟩ = some (.string t) ∧ w'.cell? ⟨w2.heap.size, 1, none⟩ = some (.int .i64 P) ∧ w'.cell? ⟨w2.heap.size, 2, none⟩ = some (.int .i64 Q) ∧ w'.cell? ⟨w3.heap.size, 0, none⟩ = some (.string t) ∧ w'.cell? ⟨w3.heap.size, 1, none⟩ = some (.int .i64 P) ∧ w'.cell? ⟨w3.heap.size, 2, none⟩ = some (.int .i64 Q) ∧ w'.cell? ⟨w5.heap.size, 0, none⟩ = some (.string t) ∧ w'.cell? ⟨w5.heap.size, 1, none⟩ = some (.int .i64 P') ∧ w'.cell? ⟨w5.heap.size, 2, none⟩ = some (.int .i64 Q') ∧ w'.cell? ⟨w6.heap.size, 0, none⟩ = some (.string t) ∧ w'.cell? ⟨w6.heap.size, 1, none⟩ = some (.int .i64 P') ∧ w'.cell? ⟨w6.heap.size, 2, none⟩ = some (.int .i64 Q') ∧ Below w.heap.size w w') W.drew := ⟨b0, b1, b2, x0, x1, x2, c0, c1, c2, d0, d1, d2, e0, e1, e2, u7.drew⟩
  have HS0 := Lib.hid hS0; clear hS0
  go_region_held3 (fun w' => w'.cell? ⟨w.heap.size, 0, none⟩ = some (.string t) ∧ w'.cell? ⟨w.heap.size, 1, none⟩ = some (.int .i64 p) ∧ w'.cell? ⟨w.heap.size, 2, none⟩ = some (.int .i64 q) ∧ w'.cell? ⟨w2.heap.size, 0, none⟩ = some (.string t) ∧ w'.cell? ⟨w2.heap.size, 1, none⟩ = some (.int .i64 P) ∧ w'.cell? ⟨w2.heap.size, 2, none⟩ = some (.int .i64 Q) ∧ w'.cell? ⟨w3.heap.size, 0, none⟩ = some (.string t) ∧ w'.cell? ⟨w3.heap.size, 1, none⟩ = some (.int .i64 P) ∧ w'.cell? ⟨w3.heap.size, 2, none⟩ = some (.int .i64 Q) ∧ w'.cell? ⟨w5.heap.size, 0, none⟩ = some (.string t) ∧ w'.cell? ⟨w5.heap.size, 1, none⟩ = some (.int .i64 P') ∧ w'.cell? ⟨w5.heap.size, 2, none⟩ = some (.int .i64 Q') ∧ w'.cell? ⟨w6.heap.size, 0, none⟩ = some (.string t) ∧ w'.cell? ⟨w6.heap.size, 1, none⟩ = some (.int .i64 P') ∧ w'.cell? ⟨w6.heap.size, 2, none⟩ = some (.int .i64 Q') ∧ Below w.heap.size w w') (first | exact keepS hk (by assumption) | exact HS0.out)
    (first | (go_at_call 16; refine (back_any _ _ _ _).mono ?_; rintro e w' ⟨rfl, hk⟩) | (go_at_call 11; refine (own_any _ _ _ _).mono ?_; rintro e w' ⟨rfl, hk⟩) | (go_at_call 17; refine (R1.out _).mono ?_; rintro e w' ⟨rfl, hk⟩) | (go_at_call 18; refine (R2.out _).mono ?_; rintro e w' ⟨rfl, hk⟩) | (go_at_call 19; refine (end_any _ _ _ _).mono ?_; rintro e w' ⟨rfl, hk⟩) | (go_at_call 20; refine (rend_any _ _ _ _).mono ?_; rintro e w' ⟨rfl, hk⟩) | (go_at_call 8; refine (awake_any _).mono ?_; rintro e w' ⟨rfl, hk⟩))
  go_wp2_with fail
  go_ret
  refine ⟨rfl, ?_⟩
  go_split_ands
  assumption
end Go.Proofs.Ytgdekiimjlpmfaa
