/- The walk of CoverTells: what the program tells of any rectangle is what the document says. -/
import Derived.Test.YthlekifagidijaaDoorWp
import Derived.Deep.RegionHeld3
namespace Go.Proofs.YthlekifagidijaaDoor
open Go.RowKit
set_option linter.unusedVariables false
set_option linter.unusedSimpArgs false
/-- Both sides tell the same intervals, or the same error. -/
theorem both_spans (z x0 y0 x1 y1 most : Int) (hs : szV z x0 y0 x1 y1 ≤ 300) : ∃ (L : List (Int × Int)) (E : Int), (∀ w, QTab w → Calls Tryd.prog 15 #[.agg #[.int .i64 z, .int .i64 x0, .int .i64 y0, .int .i64 x1, .int .i64 y1], .int .i64 most] w (SpEnd L E w)) ∧ (∀ w, Calls Tryd.prog 16 #[.agg #[.int .i64 z, .int .i64 x0, .int .i64 y0, .int .i64 x1, .int .i64 y1], .int .i64 most] w (SpEnd L E w)) ∧ L.length ≤ 100000 := by
  by_cases hno : (if most < 1 ∨ 4096 < most then (2 : Int) else ckE z x0 y0 x1 y1) ≠ 0
  · exact ⟨[], _, fun w _ => spans_no z x0 y0 x1 y1 most _ rfl hno w, fun w => rspans_no z x0 y0 x1 y1 most _ rfl hno w, by simp⟩
  · have hno' := Decidable.of_not_not hno
    by_cases hm : most < 1 ∨ 4096 < most
    · rw [if_pos hm] at hno'; omega
    · rw [if_neg hm] at hno'
      obtain ⟨k, hk, rfl, r1, r2, r3, r4, r5, r6⟩ := ck_rect z x0 y0 x1 y1 hno'
      obtain ⟨a1, a2, a3⟩ := way_is k x0 y0 x1 y1 hk r1 r3 r4 r6
      obtain ⟨nx, hnx⟩ : ∃ nx : Nat, x1 = x0 + nx - 1 := ⟨(x1 - x0 + 1).toNat, by omega⟩
      obtain ⟨ny, hny⟩ : ∃ ny : Nat, y1 = y0 + ny - 1 := ⟨(y1 - y0 + 1).toNat, by omega⟩
      have hsz : ny * nx ≤ 300 := by
        unfold szV at hs
        rw [if_pos hno', show x1 - x0 + 1 = (nx : Int) from by omega, show y1 - y0 + 1 = (ny : Int) from by omega] at hs
        have : ((ny * nx : Nat) : Int) = (nx : Int) * ny := by rw [Int.natCast_mul, Int.mul_comm]
        omega
      have he := rect_unique k x0 y0 x1 y1 nx ny hnx hny (wayL k x0 y0 x1 y1) a1 a2
      obtain ⟨m, rfl⟩ : ∃ m : Nat, most = m := ⟨most.toNat, by omega⟩
      have h1 := fun w hq => spans_in k m x0 y0 x1 y1 hk (by omega) (by omega) hno' w hq
      rw [he] at h1
      refine ⟨_, _, h1, fun w => rspans_in k x0 y0 x1 y1 m nx ny hnx hny (by omega) (by omega) (by omega) hno' w, ?_⟩
      have h2 := puts_len [] (rectS k x0 y0 nx ny)
      rw [List.length_nil, rectS_len] at h2
      unfold spL
      split
      · simp
      · omega
theorem keepT {w w' w1 : World} {a0 a1 a2 a3 a4 a5 a6 a7 a8 a9 a10 a11 a12 : Addr} {v0 v1 v2 v3 v4 v5 v6 v7 v8 v9 v10 v11 v12 : Value} (hb : Below w'.heap.size w' w1) (h : w'.cell? a0 = some v0 ∧ w'.cell? a1 = some v1 ∧ w'.cell? a2 = some v2 ∧ w'.cell? a3 = some v3 ∧ w'.cell? a4 = some v4 ∧ w'.cell? a5 = some v5 ∧ w'.cell? a6 = some v6 ∧ w'.cell? a7 = some v7 ∧ w'.cell? a8 = some v8 ∧ w'.cell? a9 = some v9 ∧ w'.cell? a10 = some v10 ∧ w'.cell? a11 = some v11 ∧ w'.cell? a12 = some v12 ∧ Below w.heap.size w w') :
    w1.cell? a0 = some v0 ∧ w1.cell? a1 = some v1 ∧ w1.cell? a2 = some v2 ∧ w1.cell? a3 = some v3 ∧ w1.cell? a4 = some v4 ∧ w1.cell? a5 = some v5 ∧ w1.cell? a6 = some v6 ∧ w1.cell? a7 = some v7 ∧ w1.cell? a8 = some v8 ∧ w1.cell? a9 = some v9 ∧ w1.cell? a10 = some v10 ∧ w1.cell? a11 = some v11 ∧ w1.cell? a12 = some v12 ∧ Below w.heap.size w w1 := by
  obtain ⟨h0, h1, h2, h3, h4, h5, h6, h7, h8, h9, h10, h11, h12, hu⟩ := h
  exact ⟨scell_later hb h0, scell_later hb h1, scell_later hb h2, scell_later hb h3, scell_later hb h4, scell_later hb h5, scell_later hb h6, scell_later hb h7, scell_later hb h8, scell_later hb h9, scell_later hb h10, scell_later hb h11, scell_later hb h12, hu.trans (hb.mono hu.size)⟩
set_option maxHeartbeats 4000000 in
set_option maxRecDepth 20000 in
theorem tells_walk (z x0 y0 x1 y1 u a b most : Int) (w : World) (hq : QTab w) : Calls Tryd.prog 3 #[.agg #[.int .i64 z, .int .i64 x0, .int .i64 y0, .int .i64 x1, .int .i64 y1], .agg #[.int .i64 u, .int .i64 a, .int .i64 b], .int .i64 most] w fun e w' => e = .returned (.bool true) ∧ Below w.heap.size w w' := by
  have HQ := Lib.hid hq
  have HA := Lib.hid awake_any
  have H1 := Lib.hid (fun w => check_any z x0 y0 x1 y1 w)
  have H2 := Lib.hid (fun w => rcheck_any z x0 y0 x1 y1 w)
  have H3 := Lib.hid (fun w => size_any z x0 y0 x1 y1 w)
  have H4 := Lib.hid (fun w => rsize_any z x0 y0 x1 y1 w)
  have H5 := Lib.hid (fun w => has_any z x0 y0 x1 y1 u a b w)
  have H6 := Lib.hid (fun w => rhas_any z x0 y0 x1 y1 u a b w)
  have HBS := Lib.hid (both_spans z x0 y0 x1 y1 most)
  clear hq
  generalize ckE z x0 y0 x1 y1 = C at *
  generalize szV z x0 y0 x1 y1 = N at *
  generalize hasB z x0 y0 x1 y1 u a b = h at *
  go_enter Tryd.func3, Tryd.ntmps3
  go_upto_region 2 with fail
  have hS0 : (((w.alloc (.cells #[.int .i64 z, .int .i64 x0, .int .i64 y0, .int .i64 x1, .int .i64 y1] 23)).alloc (.cells #[.int .i64 u, .int .i64 a, .int .i64 b] 25)).alloc (.cells #[.int .i64 z, .int .i64 x0, .int .i64 y0, .int .i64 x1, .int .i64 y1] 26)).cell? ⟨w.heap.size, 0, none⟩ = some (.int .i64 z) ∧ (((w.alloc (.cells #[.int .i64 z, .int .i64 x0, .int .i64 y0, .int .i64 x1, .int .i64 y1] 23)).alloc (.cells #[.int .i64 u, .int .i64 a, .int .i64 b] 25)).alloc (.cells #[.int .i64 z, .int .i64 x0, .int .i64 y0, .int .i64 x1, .int .i64 y1] 26)).cell? ⟨w.heap.size, 1, none⟩ = some (.int .i64 x0) ∧ (((w.alloc (.cells #[.int .i64 z, .int .i64 x0, .int .i64 y0, .int .i64 x1, .int .i64 y1] 23)).alloc (.cells #[.int .i64 u, .int .i64 a, .int .i64 b] 25)).alloc (.cells #[.int .i64 z, .int .i64 x0, .int .i64 y0, .int .i64 x1, .int .i64 y1] 26)).cell? ⟨w.heap.size, 2, none⟩ = some (.int .i64 y0) ∧ (((w.alloc (.cells #[.int .i64 z, .int .i64 x0, .int .i64 y0, .int .i64 x1, .int .i64 y1] 23)).alloc (.cells #[.int .i64 u, .int .i64 a, .int .i64 b] 25)).alloc (.cells #[.int .i64 z, .int .i64 x0, .int .i64 y0, .int .i64 x1, .int .i64 y1] 26)).cell? ⟨w.heap.size, 3, none⟩ = some (.int .i64 x1) ∧ (((w.alloc (.cells #[.int .i64 z, .int .i64 x0, .int .i64 y0, .int .i64 x1, .int .i64 y1] 23)).alloc (.cells #[.int .i64 u, .int .i64 a, .int .i64 b] 25)).alloc (.cells #[.int .i64 z, .int .i64 x0, .int .i64 y0, .int .i64 x1, .int .i64 y1] 26)).cell? ⟨w.heap.size, 4, none⟩ = some (.int .i64 y1) ∧ (((w.alloc (.cells #[.int .i64 z, .int .i64 x0, .int .i64 y0, .int .i64 x1, .int .i64 y1] 23)).alloc (.cells #[.int .i64 u, .int .i64 a, .int .i64 b] 25)).alloc (.cells #[.int .i64 z, .int .i64 x0, .int .i64 y0, .int .i64 x1, .int .i64 y1] 26)).cell? ⟨w.heap.size + 1, 0, none⟩ = some (.int .i64 u) ∧ (((w.alloc (.cells #[.int .i64 z, .int .i64 x0, .int .i64 y0, .int .i64 x1, .int .i64 y1] 23)).alloc (.cells #[.int .i64 u, .int .i64 a, .int .i64 b] 25)).alloc (.cells #[.int .i64 z, .int .i64 x0, .int .i64 y0, .int .i64 x1, .int .i64 y1] 26)).cell? ⟨w.heap.size + 1, 1, none⟩ = some (.int .i64 a) ∧ (((w.alloc (.cells #[.int .i64 z, .int .i64 x0, .int .i64 y0, .int .i64 x1, .int .i64 y1] 23)).alloc (.cells #[.int .i64 u, .int .i64 a, .int .i64 b] 25)).alloc (.cells #[.int .i64 z, .int .i64 x0, .int .i64 y0, .int .i64 x1, .int .i64 y1] 26)).cell? ⟨w.heap.size + 1, 2, none⟩ = some (.int .i64 b) ∧ (((w.alloc (.cells #[.int .i64 z, .int .i64 x0, .int .i64 y0, .int .i64 x1, .int .i64 y1] 23)).alloc (.cells #[.int .i64 u, .int .i64 a, .int .i64 b] 25)).alloc (.cells #[.int .i64 z, .int .i64 x0, .int .i64 y0, .int .i64 x1, .int .i64 y1] 26)).cell? ⟨w.heap.size + 1 + 1, 0, none⟩ = some (.int .i64 z) ∧ (((w.alloc (.cells #[.int .i64 z, .int .i64 x0, .int .i64 y0, .int .i64 x1, .int .i64 y1] 23)).alloc (.cells #[.int .i64 u, .int .i64 a, .int .i64 b] 25)).alloc (.cells #[.int .i64 z, .int .i64 x0, .int .i64 y0, .int .i64 x1, .int .i64 y1] 26)).cell? ⟨w.heap.size + 1 + 1, 1, none⟩ = some (.int .i64 x0) ∧ (((w.alloc (.cells #[.int .i64 z, .int .i64 x0, .int .i64 y0, .int .i64 x1, .int .i64 y1] 23)).alloc (.cells #[.int .i64 u, .int .i64 a, .int .i64 b] 25)).alloc (.cells #[.int .i64 z, .int .i64 x0, .int .i64 y0, .int .i64 x1, .int .i64 y1] 26)).cell? ⟨w.heap.size + 1 + 1, 2, none⟩ = some (.int .i64 y0) ∧ (((w.alloc (.cells #[.int .i64 z, .int .i64 x0, .int .i64 y0, .int .i64 x1, .int .i64 y1] 23)).alloc (.cells #[.int .i64 u, .int .i64 a, .int .i64 b] 25)).alloc (.cells #[.int .i64 z, .int .i64 x0, .int .i64 y0, .int .i64 x1, .int .i64 y1] 26)).cell? ⟨w.heap.size + 1 + 1, 3, none⟩ = some (.int .i64 x1) ∧ (((w.alloc (.cells #[.int .i64 z, .int .i64 x0, .int .i64 y0, .int .i64 x1, .int .i64 y1] 23)).alloc (.cells #[.int .i64 u, .int .i64 a, .int .i64 b] 25)).alloc (.cells #[.int .i64 z, .int .i64 x0, .int .i64 y0, .int .i64 x1, .int .i64 y1] 26)).cell? ⟨w.heap.size + 1 + 1, 4, none⟩ = some (.int .i64 y1) ∧ Below w.heap.size w (((w.alloc (.cells #[.int .i64 z, .int .i64 x0, .int .i64 y0, .int .i64 x1, .int .i64 y1] 23)).alloc (.cells #[.int .i64 u, .int .i64 a, .int .i64 b] 25)).alloc (.cells #[.int .i64 z, .int .i64 x0, .int .i64 y0, .int .i64 x1, .int .i64 y1] 26)) := by
    refine ⟨?_, ?_, ?_, ?_, ?_, ?_, ?_, ?_, ?_, ?_, ?_, ?_, ?_, by go_grown⟩
    all_goals simp [go_sem]
  have hS1 := hS0
  generalize (((w.alloc (.cells #[.int .i64 z, .int .i64 x0, .int .i64 y0, .int .i64 x1, .int .i64 y1] 23)).alloc (.cells #[.int .i64 u, .int .i64 a, .int .i64 b] 25)).alloc (.cells #[.int .i64 z, .int .i64 x0, .int .i64 y0, .int .i64 x1, .int .i64 y1] 26)) = W at *
  have hS2 : (fun w' => w'.cell? ⟨w.heap.size, 0, none⟩ = some (.int .i64 z) ∧ w'.cell? ⟨w.heap.size, 1, none⟩ = some (.int .i64 x0) ∧ w'.cell? ⟨w.heap.size, 2, none⟩ = some (.int .i64 y0) ∧ w'.cell? ⟨w.heap.size, 3, none⟩ = some (.int .i64 x1) ∧ w'.cell? ⟨w.heap.size, 4, none⟩ = some (.int .i64 y1) ∧ w'.cell? ⟨w.heap.size + 1, 0, none⟩ = some (.int .i64 u) ∧ w'.cell? ⟨w.heap.size + 1, 1, none⟩ = some (.int .i64 a) ∧ w'.cell? ⟨w.heap.size + 1, 2, none⟩ = some (.int .i64 b) ∧ w'.cell? ⟨w.heap.size + 1 + 1, 0, none⟩ = some (.int .i64 z) ∧ w'.cell? ⟨w.heap.size + 1 + 1, 1, none⟩ = some (.int .i64 x0) ∧ w'.cell? ⟨w.heap.size + 1 + 1, 2, none⟩ = some (.int .i64 y0) ∧ w'.cell? ⟨w.heap.size + 1 + 1, 3, none⟩ = some (.int .i64 x1) ∧ w'.cell? ⟨w.heap.size + 1 + 1, 4, none⟩ = some (.int .i64 y1) ∧ Below w.heap.size w w') W.drew := keepT ((Below.refl W.heap.size W).drew) hS0
  have HS0 := Lib.hid hS2
  clear hS0 hS2
  obtain ⟨c0, c1, c2, c3, c4, d0, d1, d2, e0, e1, e2, e3, e4, hbw⟩ := hS1
  go_region_held3 (fun w' => w'.cell? ⟨w.heap.size, 0, none⟩ = some (.int .i64 z) ∧ w'.cell? ⟨w.heap.size, 1, none⟩ = some (.int .i64 x0) ∧ w'.cell? ⟨w.heap.size, 2, none⟩ = some (.int .i64 y0) ∧ w'.cell? ⟨w.heap.size, 3, none⟩ = some (.int .i64 x1) ∧ w'.cell? ⟨w.heap.size, 4, none⟩ = some (.int .i64 y1) ∧ w'.cell? ⟨w.heap.size + 1, 0, none⟩ = some (.int .i64 u) ∧ w'.cell? ⟨w.heap.size + 1, 1, none⟩ = some (.int .i64 a) ∧ w'.cell? ⟨w.heap.size + 1, 2, none⟩ = some (.int .i64 b) ∧ w'.cell? ⟨w.heap.size + 1 + 1, 0, none⟩ = some (.int .i64 z) ∧ w'.cell? ⟨w.heap.size + 1 + 1, 1, none⟩ = some (.int .i64 x0) ∧ w'.cell? ⟨w.heap.size + 1 + 1, 2, none⟩ = some (.int .i64 y0) ∧ w'.cell? ⟨w.heap.size + 1 + 1, 3, none⟩ = some (.int .i64 x1) ∧ w'.cell? ⟨w.heap.size + 1 + 1, 4, none⟩ = some (.int .i64 y1) ∧ Below w.heap.size w w') (first | exact keepT hk (by assumption) | exact HS0.out)
    (first | (go_at_call 8; refine (H1.out _).mono ?_; rintro e w' ⟨rfl, hk⟩) | (go_at_call 9; refine (H2.out _).mono ?_; rintro e w' ⟨rfl, hk⟩) | (go_at_call 10; refine (H3.out _).mono ?_; rintro e w' ⟨rfl, hk⟩) | (go_at_call 11; refine (H4.out _).mono ?_; rintro e w' ⟨rfl, hk⟩) | (go_at_call 12; refine (H5.out _).mono ?_; rintro e w' ⟨rfl, hk⟩) | (go_at_call 13; refine (H6.out _).mono ?_; rintro e w' ⟨rfl, hk⟩))
  have hT : w'.cell? ⟨w.heap.size, 0, none⟩ = some (.int .i64 z) ∧ w'.cell? ⟨w.heap.size, 1, none⟩ = some (.int .i64 x0) ∧ w'.cell? ⟨w.heap.size, 2, none⟩ = some (.int .i64 y0) ∧ w'.cell? ⟨w.heap.size, 3, none⟩ = some (.int .i64 x1) ∧ w'.cell? ⟨w.heap.size, 4, none⟩ = some (.int .i64 y1) ∧ w'.cell? ⟨w.heap.size + 1, 0, none⟩ = some (.int .i64 u) ∧ w'.cell? ⟨w.heap.size + 1, 1, none⟩ = some (.int .i64 a) ∧ w'.cell? ⟨w.heap.size + 1, 2, none⟩ = some (.int .i64 b) ∧ w'.cell? ⟨w.heap.size + 1 + 1, 0, none⟩ = some (.int .i64 z) ∧ w'.cell? ⟨w.heap.size + 1 + 1, 1, none⟩ = some (.int .i64 x0) ∧ w'.cell? ⟨w.heap.size + 1 + 1, 2, none⟩ = some (.int .i64 y0) ∧ w'.cell? ⟨w.heap.size + 1 + 1, 3, none⟩ = some (.int .i64 x1) ∧ w'.cell? ⟨w.heap.size + 1 + 1, 4, none⟩ = some (.int .i64 y1) ∧ Below w.heap.size w w' := by assumption
  clear c0 c1 c2 c3 c4 d0 d1 d2 e0 e1 e2 e3 e4 hbw HS0
  generalize w' = wa at *
  have HT := Lib.hid hT
  obtain ⟨c0, c1, c2, c3, c4, d0, d1, d2, e0, e1, e2, e3, e4, hbw⟩ := hT
  go_wp2_with fail
  refine (H4.out _).mono ?_
  rintro e w1 ⟨rfl, hk⟩
  have hT := keepT hk HT.out
  replace HT := Lib.hid hT
  clear c0 c1 c2 c3 c4 d0 d1 d2 e0 e1 e2 e3 e4 hbw hk H1 H2 H3 H4 H5 H6
  obtain ⟨c0, c1, c2, c3, c4, d0, d1, d2, e0, e1, e2, e3, e4, hbw⟩ := hT
  by_cases hN : N ≤ 300
  · have hN2 : decide (300 < N) = false := decide_eq_false (by omega)
    obtain ⟨L, E, h1, h2, h3⟩ := HBS.out hN
    have H1 := Lib.hid h1
    have H2 := Lib.hid h2
    clear h1 h2 HBS
    go_wp2_with fail
    refine (H1.out _ (HQ.out.below hbw)).mono ?_
    rintro e w2 ⟨v1, rfl, hv1, hk⟩
    have hT := keepT hk HT.out
    replace HT := Lib.hid hT
    clear c0 c1 c2 c3 c4 d0 d1 d2 e0 e1 e2 e3 e4 hbw hk H1
    obtain ⟨c0, c1, c2, c3, c4, d0, d1, d2, e0, e1, e2, e3, e4, hbw⟩ := hT
    go_wp2_with fail
    refine (H2.out _).mono ?_
    rintro e w3 ⟨v2, rfl, hv2, hk⟩
    replace hv1 := hv1.below hk
    have hb := hbw.trans (hk.mono hbw.size)
    clear c0 c1 c2 c3 c4 d0 d1 d2 e0 e1 e2 e3 e4 hbw hk H2 HT
    go_wp2_with fail
    refine (sback_any _ L _ hv1 h3).mono ?_
    rintro e w4 ⟨v3, rfl, hv3, hk⟩
    replace hv2 := hv2.below hk
    replace hb := hb.trans (hk.mono hb.size)
    clear hk hv1
    go_wp2_with fail
    refine (rsame_yes _ _ L _ hv3 hv2 h3).mono ?_
    rintro e w5 ⟨rfl, hk⟩
    replace hb := hb.trans (hk.mono hb.size)
    clear hk hv2 hv3
    go_wp2_with fail
    refine (HA.out _ (HQ.out.below hb)).mono ?_
    rintro e w6 ⟨rfl, hk⟩
    replace hb := hb.trans (hk.mono hb.size)
    clear hk
    go_wp2_with fail
    go_ret
    exact ⟨rfl, hb⟩
  · have hN2 : decide (300 < N) = true := decide_eq_true (by omega)
    clear HBS
    go_wp2_with fail
    refine (HA.out _ (HQ.out.below hbw)).mono ?_
    rintro e w6 ⟨rfl, hk⟩
    have hb := hbw.trans (hk.mono hbw.size)
    clear hk c0 c1 c2 c3 c4 d0 d1 d2 e0 e1 e2 e3 e4 hbw HT
    go_wp2_with fail
    go_ret
    exact ⟨rfl, hb⟩
end Go.Proofs.YthlekifagidijaaDoor
