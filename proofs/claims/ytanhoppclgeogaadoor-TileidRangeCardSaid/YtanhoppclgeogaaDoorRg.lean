/- The walk of TileidRange: the identifiers of a zoom that are told of a tile are just those of the tiles of that zoom in it. -/
import Derived.Test.YtanhoppclgeogaaDoorBk
namespace Go.Proofs.YtanhoppclgeogaaDoor
open Go.RowKit
set_option linter.unusedVariables false
set_option linter.unusedSimpArgs false
theorem range_no (z x y u a b : Int) (h : rgE z x y u ≠ 0) (w : World) (hq : QTab w) : Calls Tryd.prog 7 #[.agg #[.int .i64 z, .int .i64 x, .int .i64 y], .agg #[.int .i64 u, .int .i64 a, .int .i64 b]] w fun e w' => e = .returned (.bool true) ∧ Below w.heap.size w w' := by
  have h1 := fun w hq => range_any z x y u w hq
  have h2 := fun w hq => id_any u a b w hq
  rw [show rgF z x y u = 0 from if_neg h, show rgT z x y u = 0 from if_neg h] at h1
  have hne : (rgE z x y u != 0) = true := by simpa using h
  clear h
  generalize rgE z x y u = E at *
  generalize idD u a b = B at *
  generalize plE u a b = F at *
  have H1 := Lib.hid h1
  have H2 := Lib.hid h2
  clear h1 h2
  go_enter Tryd.func7, Tryd.ntmps7
  go_wp2_with fail
  refine (H1.out _ (hq.below (by go_grown))).mono ?_
  rintro e w1 ⟨rfl, hb⟩
  have hs := hb.size
  simp only [World.size_alloc] at hs
  have s2 := (spot_new (w.alloc (.cells #[.int .i64 z, .int .i64 x, .int .i64 y] 23)) u a b 23).below hb (by simp)
  have hb1 : Below w.heap.size w w1 := Below.trans (by go_grown) (hb.mono (by simp; omega))
  simp only [World.size_alloc] at s2
  obtain ⟨d0, d1, d2, g⟩ := s2
  clear hb
  go_wp2_with fail
  refine (H2.out _ (hq.below hb1)).mono ?_
  rintro e w2 ⟨rfl, hb⟩
  have hb2 := hb1.trans (hb.mono (by omega))
  clear d0 d1 d2 g hb hb1 H1 H2
  go_wp2_with fail
  refine (awake_any _ (hq.below hb2)).mono ?_
  rintro e w5 ⟨rfl, hb5⟩
  have hu5 := hb2.trans (hb5.mono hb2.size)
  go_wp2_with fail
  go_ret
  exact ⟨rfl, hu5⟩
set_option maxHeartbeats 2000000 in
set_option maxRecDepth 20000 in
theorem range_yes (z x y u a b : Int) (h : rgE z x y u = 0) (w : World) (hq : QTab w) : Calls Tryd.prog 7 #[.agg #[.int .i64 z, .int .i64 x, .int .i64 y], .agg #[.int .i64 u, .int .i64 a, .int .i64 b]] w fun e w' => e = .returned (.bool true) ∧ Below w.heap.size w w' := by
  have h1 := fun w hq => range_any z x y u w hq
  have h2 := fun w hq => id_any u a b w hq
  have h3 := fun w hq => over_any z x y u a b w hq
  have hov : plE u a b = 0 → ovB z x y u a b = decide (rgF z x y u ≤ idD u a b ∧ idD u a b ≤ rgT z x y u) := fun g => by
    unfold ovB
    exact decide_eq_decide.2 (over_rg z x y u a b h g)
  rw [h] at h1
  obtain ⟨k, n, hk, hz, hu, hi, hp, hf, ht, p0, p1⟩ := rg_in z x y u h
  have hz1 := fun w => zoom_any (rgF z x y u) (by rw [hf]; have := bas_nn (k + n); have := Int.mul_nonneg p0 (show 0 ≤ p4 n by have := p4_pos n; omega); omega) w
  have hz2 := fun w => zoom_any (rgT z x y u) (by rw [ht]; have := bas_nn (k + n); have := p4_pos n; have := Int.mul_nonneg p0 (show 0 ≤ p4 n by have := p4_pos n; omega); omega) w
  have hM := Int.mul_nonneg p0 (show 0 ≤ p4 n by have := p4_pos n; omega)
  have hP := p4_pos n
  rw [zofV_at (k + n) (rgF z x y u) hk (by rw [hf]; omega) (by rw [hf]; omega), ← hu] at hz1
  rw [zofV_at (k + n) (rgT z x y u) hk (by rw [ht]; omega) (by rw [ht]; omega), ← hu] at hz2
  have hbt := bas_top (k + n + 1) (by omega)
  rw [bas_succ] at hbt
  have hbn := bas_nn (k + n)
  have hpt := p4_top n (by omega)
  have hn26 : n ≤ 26 := by omega
  have hFT : 0 ≤ rgF z x y u ∧ rgT z x y u = rgF z x y u + p4 n - 1 ∧ rgT z x y u ≤ 6004799503160661 := by
    refine ⟨by rw [hf]; omega, by rw [ht, hf], by rw [ht]; omega⟩
  obtain ⟨f0, f1, f2⟩ := hFT
  have hun : u = z + n := by rw [hu, hz]; omega
  have hz0 : 0 ≤ z := by rw [hz]; omega
  have hu26 : u ≤ 26 := by rw [hu]; omega
  have hpw : (2 : Int) ^ (2 * n) = p4 n := p4_pow n
  clear hf ht hi hp p0 p1 hM hbt hbn hz hu hk h
  generalize rgF z x y u = Fm at *
  generalize rgT z x y u = To at *
  generalize p4 n = P at *
  generalize idD u a b = I at *
  generalize plE u a b = F at *
  generalize ovB z x y u a b = O at *
  have H1 := Lib.hid h1
  have H2 := Lib.hid h2
  have H3 := Lib.hid h3
  have HZ1 := Lib.hid hz1
  have HZ2 := Lib.hid hz2
  have HOV := Lib.hid hov
  have HU := Lib.hid hun
  have HPW := Lib.hid hpw
  have HF1 := Lib.hid f1
  have w1 : IntKind.u64.wrap (To - Fm) = P - 1 := by rw [IntWalk.u64_in _ (by omega)]; omega
  have w2 : IntKind.u64.wrap (P - 1 + 1) = P := by rw [IntWalk.u64_in _ (by omega)]; omega
  have w3 : IntKind.i64.wrap (u - z) = n := by rw [IntWalk.i64_in _ (by omega)]; omega
  have w4 : IntKind.i64.wrap (2 * (n : Int)) = 2 * n := IntWalk.i64_in _ (by omega)
  have W1 := Lib.hid w1
  have W2 := Lib.hid w2
  have W3 := Lib.hid w3
  have W4 := Lib.hid w4
  have hzu : decide (u < z) = false := decide_eq_false (by omega)
  have hu2 : decide (26 < u) = false := decide_eq_false (by omega)
  clear h1 h2 h3 hz1 hz2 hov hun hpw f1 w1 w2 w3 w4
  go_enter Tryd.func7, Tryd.ntmps7
  go_wp2_with fail
  refine (H1.out _ (hq.below (by go_grown))).mono ?_
  rintro e w1 ⟨rfl, hb⟩
  have hs := hb.size
  simp only [World.size_alloc] at hs
  have s1 := (spot_old (spot_new w z x y 23) (by simp) (.cells #[.int .i64 u, .int .i64 a, .int .i64 b] 23)).below hb (by simp; omega)
  have s2 := (spot_new (w.alloc (.cells #[.int .i64 z, .int .i64 x, .int .i64 y] 23)) u a b 23).below hb (by simp)
  have hb1 : Below w.heap.size w w1 := Below.trans (by go_grown) (hb.mono (by simp; omega))
  simp only [World.size_alloc] at s1 s2
  have s1' := Lib.hid s1
  have s2' := Lib.hid s2
  obtain ⟨c0, c1, c2, f⟩ := s1
  obtain ⟨d0, d1, d2, g⟩ := s2
  clear hb
  go_wp2_with fail
  refine (H2.out _ (hq.below hb1)).mono ?_
  rintro e w2 ⟨rfl, hb⟩
  have t1 := s1'.out.below hb (by omega)
  have t2 := s2'.out.below hb (by omega)
  have hb2 := hb1.trans (hb.mono (by omega))
  have hs2 := hb.size
  clear c0 c1 c2 f d0 d1 d2 g hb hb1 s1' s2' H1 H2
  go_upto_region 5 with fail
  have hS0 : (fun w' => w'.cell? ⟨w.heap.size, 0, none⟩ = some (.int .i64 z) ∧ w'.cell? ⟨w.heap.size + 1, 0, none⟩ = some (.int .i64 u)) w2.drew := ⟨t1.1, t2.1⟩
  have HS0 := Lib.hid hS0
  have T1 := Lib.hid t1
  have T2 := Lib.hid t2
  clear hS0 t1 t2
  have w1 := W1.out
  have w2' := W2.out
  have w3 := W3.out
  have w4 := W4.out
  have w5 : IntKind.u64.wrap P = P := IntWalk.u64_in _ (by omega)
  have w6 : IntKind.u64.wrap (2 * (n : Int)) = 2 * n := IntWalk.u64_in _ (by omega)
  have w7 : min (2 * (n : Int)).toNat 64 = 2 * n := by omega
  have w8 : min (2 * n) 64 = 2 * n := by omega
  have w9 : (2 : Int) ^ (2 * (n : Int)).toNat = P := by rw [show (2 * (n : Int)).toNat = 2 * n from by omega]; exact HPW.out
  go_region_held3 (fun w' => w'.cell? ⟨w.heap.size, 0, none⟩ = some (.int .i64 z) ∧ w'.cell? ⟨w.heap.size + 1, 0, none⟩ = some (.int .i64 u)) (first | exact HS0.out)
    (first | (go_at_call 14; (with_reducible refine (HZ1.out _).mono ?_); rintro e w' ⟨rfl, rfl⟩) | (go_at_call 14; (with_reducible refine (HZ2.out _).mono ?_); rintro e w' ⟨rfl, rfl⟩))
  clear w1 w2' w3 w4 w5 w6 w7 w8 w9 W1 W2 W3 W4 HPW HF1 HZ1 HZ2 HS0
  have c0 : w2.drew.cell? ⟨w.heap.size, 0, none⟩ = some (.int .i64 z) := T1.out.1
  have c1 : w2.drew.cell? ⟨w.heap.size, 1, none⟩ = some (.int .i64 x) := T1.out.2.1
  have c2 : w2.drew.cell? ⟨w.heap.size, 2, none⟩ = some (.int .i64 y) := T1.out.2.2.1
  have d0 : w2.drew.cell? ⟨w.heap.size + 1, 0, none⟩ = some (.int .i64 u) := T2.out.1
  have d1 : w2.drew.cell? ⟨w.heap.size + 1, 1, none⟩ = some (.int .i64 a) := T2.out.2.1
  have d2 : w2.drew.cell? ⟨w.heap.size + 1, 2, none⟩ = some (.int .i64 b) := T2.out.2.2.1
  have hbw : Below w.heap.size w w2.drew := hb2.drew
  have hQ := hq.below hbw
  clear hb2 hs hs2 T1 T2
  generalize w2.drew = w3 at *
  have h3 := H3.out
  clear H3
  by_cases hF : F = 0
  · have hv := HOV.out hF
    have hne : (F != 0) = false := by rw [hF]; rfl
    clear HOV hF
    by_cases g1 : Fm ≤ I
    · by_cases g2 : I ≤ To
      · rw [show O = true from by rw [hv]; exact decide_eq_true ⟨g1, g2⟩] at h3
        have H3' := Lib.hid h3
        clear hv h3
        go_wp2_with fail
        refine (H3'.out _ hQ).mono ?_
        rintro e w4 ⟨rfl, hb4⟩
        have hu4 := hbw.trans (hb4.mono hbw.size)
        clear hb4 c0 c1 c2 d0 d1 d2
        go_wp2_with fail
        refine (awake_any _ (hq.below hu4)).mono ?_
        rintro e w5 ⟨rfl, hb5⟩
        have hu5 := hu4.trans (hb5.mono hu4.size)
        go_wp2_with fail
        go_ret
        exact ⟨rfl, hu5⟩
      · rw [show O = false from by rw [hv]; exact decide_eq_false (fun h => g2 h.2)] at h3
        have H3' := Lib.hid h3
        have g3 : decide (I ≤ To) = false := decide_eq_false g2
        clear hv h3 g2
        go_wp2_with fail
        refine (H3'.out _ hQ).mono ?_
        rintro e w4 ⟨rfl, hb4⟩
        have hu4 := hbw.trans (hb4.mono hbw.size)
        clear hb4 c0 c1 c2 d0 d1 d2
        go_wp2_with fail
        refine (awake_any _ (hq.below hu4)).mono ?_
        rintro e w5 ⟨rfl, hb5⟩
        have hu5 := hu4.trans (hb5.mono hu4.size)
        go_wp2_with fail
        go_ret
        exact ⟨rfl, hu5⟩
    · rw [show O = false from by rw [hv]; exact decide_eq_false (fun h => g1 h.1)] at h3
      have H3' := Lib.hid h3
      have g3 : decide (Fm ≤ I) = false := decide_eq_false g1
      clear hv h3 g1
      go_wp2_with fail
      refine (H3'.out _ hQ).mono ?_
      rintro e w4 ⟨rfl, hb4⟩
      have hu4 := hbw.trans (hb4.mono hbw.size)
      clear hb4 c0 c1 c2 d0 d1 d2
      go_wp2_with fail
      refine (awake_any _ (hq.below hu4)).mono ?_
      rintro e w5 ⟨rfl, hb5⟩
      have hu5 := hu4.trans (hb5.mono hu4.size)
      go_wp2_with fail
      go_ret
      exact ⟨rfl, hu5⟩
  · have hne : (F != 0) = true := by simpa using hF
    clear HOV hF h3 c0 c1 c2 d0 d1 d2
    go_wp2_with fail
    refine (awake_any _ hQ).mono ?_
    rintro e w5 ⟨rfl, hb5⟩
    have hu5 := hbw.trans (hb5.mono hbw.size)
    go_wp2_with fail
    go_ret
    exact ⟨rfl, hu5⟩
theorem range_walk (z x y u a b : Int) (w : World) (hq : QTab w) : Calls Tryd.prog 7 #[.agg #[.int .i64 z, .int .i64 x, .int .i64 y], .agg #[.int .i64 u, .int .i64 a, .int .i64 b]] w fun e w' => e = .returned (.bool true) ∧ Below w.heap.size w w' := by
  by_cases h : rgE z x y u = 0
  · exact range_yes z x y u a b h w hq
  · exact range_no z x y u a b h w hq
end Go.Proofs.YtanhoppclgeogaaDoor
