/- The walk of TileidMoves: both sides tell the same tile ahead, the same four, the same of two tiles, and the same identifiers. -/
import Derived.Test.YtanhoppclgeogaaDoorRr
import Derived.Deep.RegionHeld3
namespace Go.Proofs.YtanhoppclgeogaaDoor
open Go.RowKit
set_option linter.unusedVariables false
set_option linter.unusedSimpArgs false
theorem keepM {w w' w1 : World} {a0 a1 a2 a3 a4 a5 a6 a7 a8 a9 a10 a11 : Addr} {v0 v1 v2 v3 v4 v5 v6 v7 v8 v9 v10 v11 : Value} {u1 u2 : Value} {l : List (Int × Int × Int)} (hb : Below w'.heap.size w' w1)
    (h : w'.cell? a0 = some v0 ∧ w'.cell? a1 = some v1 ∧ w'.cell? a2 = some v2 ∧ w'.cell? a3 = some v3 ∧ w'.cell? a4 = some v4 ∧ w'.cell? a5 = some v5 ∧ w'.cell? a6 = some v6 ∧ w'.cell? a7 = some v7 ∧ w'.cell? a8 = some v8 ∧ w'.cell? a9 = some v9 ∧ w'.cell? a10 = some v10 ∧ w'.cell? a11 = some v11 ∧ TilesAt w' u1 l ∧ TilesAt w' u2 l ∧ QTab w' ∧ Below w.heap.size w w') :
    w1.cell? a0 = some v0 ∧ w1.cell? a1 = some v1 ∧ w1.cell? a2 = some v2 ∧ w1.cell? a3 = some v3 ∧ w1.cell? a4 = some v4 ∧ w1.cell? a5 = some v5 ∧ w1.cell? a6 = some v6 ∧ w1.cell? a7 = some v7 ∧ w1.cell? a8 = some v8 ∧ w1.cell? a9 = some v9 ∧ w1.cell? a10 = some v10 ∧ w1.cell? a11 = some v11 ∧ TilesAt w1 u1 l ∧ TilesAt w1 u2 l ∧ QTab w1 ∧ Below w.heap.size w w1 := by
  obtain ⟨h0, h1, h2, h3, h4, h5, h6, h7, h8, h9, h10, h11, t1, t2, hq, hu⟩ := h
  exact ⟨cell_later hb h0, cell_later hb h1, cell_later hb h2, cell_later hb h3, cell_later hb h4, cell_later hb h5, cell_later hb h6, cell_later hb h7, cell_later hb h8, cell_later hb h9, cell_later hb h10, cell_later hb h11, t1.below hb, t2.below hb, hq.below hb, hu.trans (hb.mono hu.size)⟩
set_option maxHeartbeats 4000000 in
set_option maxRecDepth 20000 in
theorem moves_walk (z x y u a b n : Int) (w : World) (hq : QTab w) : Calls Tryd.prog 4 #[.agg #[.int .i64 z, .int .i64 x, .int .i64 y], .agg #[.int .i64 u, .int .i64 a, .int .i64 b], .int .i64 n] w fun e w' => e = .returned (.bool true) ∧ Below w.heap.size w w' := by
  have H1 := Lib.hid (fun w hq => up_any z x y w hq)
  have H2 := Lib.hid (fun w => rup_any z x y w)
  have H3 := Lib.hid (fun w hq => down_any z x y w hq)
  have H4 := Lib.hid (fun w => rdown_any z x y w)
  have H5 := Lib.hid (fun w hq => range_any z x y n w hq)
  have H6 := Lib.hid (fun w => rrange_any z x y n w)
  have H7 := Lib.hid (fun w hq => over_any z x y u a b w hq)
  have H8 := Lib.hid (fun w => rover_any z x y u a b w)
  have HL : Hid ((dnL z x y).length ≤ 1000) := Lib.hid (by
    unfold dnL
    split
    · simp
    · simp)
  generalize upZ z x y = p at *
  generalize upX z x y = q at *
  generalize upY z x y = r at *
  generalize upE z x y = E1 at *
  generalize dnL z x y = L at *
  generalize dnE z x y = E2 at *
  generalize rgF z x y n = R1 at *
  generalize rgT z x y n = R2 at *
  generalize rgE z x y n = E3 at *
  generalize ovB z x y u a b = O at *
  go_enter Tryd.func4, Tryd.ntmps4
  go_wp2_with fail
  refine (H1.out _ (hq.below (by go_grown))).mono ?_
  rintro e w1 ⟨rfl, hb⟩
  have hs := hb.size
  simp only [World.size_alloc] at hs
  have s1 := (spot_old (spot_new w z x y 23) (by simp) (.cells #[.int .i64 u, .int .i64 a, .int .i64 b] 23)).below hb (by simp; omega)
  have s2 := (spot_new (w.alloc (.cells #[.int .i64 z, .int .i64 x, .int .i64 y] 23)) u a b 23).below hb (by simp)
  have hb1 : Below w.heap.size w w1 := Below.trans (by go_grown) (hb.mono (by simp; omega))
  simp only [World.size_alloc] at s1 s2
  have S1 := Lib.hid s1
  have S2 := Lib.hid s2
  obtain ⟨c0, c1, c2, f⟩ := s1
  clear hb s2 H1
  have hlt1 : w.heap.size < w1.heap.size := by omega
  go_wp2_with fail
  refine (H2.out _).mono ?_
  rintro e w2 ⟨rfl, hb⟩
  obtain ⟨hs2, hk2, a0, a1, a2, _⟩ := kept3 hb
  have s1 := S1.out.below hk2 (by omega)
  replace S1 := Lib.hid s1
  replace S2 := Lib.hid (S2.out.below hk2 (by omega))
  have hb2 := hb1.trans (hk2.mono hb1.size)
  clear hb hk2 c0 c1 c2 f hb1 H2
  obtain ⟨c0, c1, c2, f⟩ := s1
  have hlt2 : w.heap.size < w2.heap.size := by omega
  have A0 := Lib.hid a0
  have A1 := Lib.hid a1
  have A2 := Lib.hid a2
  clear a0 a1 a2
  go_wp2_with fail
  refine (H3.out _ (hq.below (by go_grown))).mono ?_
  rintro e w3 ⟨v1, rfl, hv1, hb⟩
  obtain ⟨hs3, hk3, b0, b1, b2, _⟩ := kept3 hb
  have s1 := S1.out.below hk3 (by omega)
  replace S1 := Lib.hid s1
  replace S2 := Lib.hid (S2.out.below hk3 (by omega))
  replace A0 := Lib.hid (cell_later hk3 A0.out)
  replace A1 := Lib.hid (cell_later hk3 A1.out)
  replace A2 := Lib.hid (cell_later hk3 A2.out)
  have hb3 := hb2.trans (hk3.mono hb2.size)
  have B0 := Lib.hid b0
  have B1 := Lib.hid b1
  have B2 := Lib.hid b2
  have HV1 := Lib.hid hv1
  clear hb hk3 c0 c1 c2 f hb2 H3 b0 b1 b2 hv1
  obtain ⟨c0, c1, c2, f⟩ := s1
  go_wp2_with fail
  refine (H4.out _).mono ?_
  rintro e w4 ⟨v2, rfl, hv2, hk⟩
  have hs4 := hk.size
  have s1 := S1.out.below hk (by omega)
  replace S1 := Lib.hid s1
  replace S2 := Lib.hid (S2.out.below hk (by omega))
  replace A0 := Lib.hid (cell_later hk A0.out)
  replace A1 := Lib.hid (cell_later hk A1.out)
  replace A2 := Lib.hid (cell_later hk A2.out)
  replace B0 := Lib.hid (cell_later hk B0.out)
  replace B1 := Lib.hid (cell_later hk B1.out)
  replace B2 := Lib.hid (cell_later hk B2.out)
  replace HV1 := Lib.hid (HV1.out.below hk)
  have HV2 := Lib.hid hv2
  have hb4 := hb3.trans (hk.mono hb3.size)
  clear hk c0 c1 c2 f hb3 H4 hv2
  obtain ⟨c0, c1, c2, f⟩ := s1
  go_wp2_with fail
  refine (H5.out _ (hq.below hb4)).mono ?_
  rintro e w5 ⟨rfl, hk⟩
  have hs5 := hk.size
  have s1 := S1.out.below hk (by omega)
  replace S1 := Lib.hid s1
  replace S2 := Lib.hid (S2.out.below hk (by omega))
  replace A0 := Lib.hid (cell_later hk A0.out)
  replace A1 := Lib.hid (cell_later hk A1.out)
  replace A2 := Lib.hid (cell_later hk A2.out)
  replace B0 := Lib.hid (cell_later hk B0.out)
  replace B1 := Lib.hid (cell_later hk B1.out)
  replace B2 := Lib.hid (cell_later hk B2.out)
  replace HV1 := Lib.hid (HV1.out.below hk)
  replace HV2 := Lib.hid (HV2.out.below hk)
  have hb5 := hb4.trans (hk.mono hb4.size)
  clear hk c0 c1 c2 f hb4 H5
  obtain ⟨c0, c1, c2, f⟩ := s1
  go_wp2_with fail
  refine (H6.out _).mono ?_
  rintro e w6 ⟨rfl, hk⟩
  have hs6 := hk.size
  have s1 := S1.out.below hk (by omega)
  have s2 := S2.out.below hk (by omega)
  have a0 := cell_later hk A0.out
  have a1 := cell_later hk A1.out
  have a2 := cell_later hk A2.out
  have b0 := cell_later hk B0.out
  have b1 := cell_later hk B1.out
  have b2 := cell_later hk B2.out
  have hv1 := HV1.out.below hk
  have hv2 := HV2.out.below hk
  have hb6 := hb5.trans (hk.mono hb5.size)
  clear hk c0 c1 c2 f hb5 H6 S1 S2 A0 A1 A2 B0 B1 B2 HV1 HV2
  go_upto_region 7 with fail
  have hdr : Below w6.heap.size w6 w6.drew := (Below.refl _ _).drew
  have hS0 : (fun w' => w'.cell? ⟨w1.heap.size, 0, none⟩ = some (.int .i64 p) ∧ w'.cell? ⟨w1.heap.size, 1, none⟩ = some (.int .i64 q) ∧ w'.cell? ⟨w1.heap.size, 2, none⟩ = some (.int .i64 r) ∧ w'.cell? ⟨w2.heap.size, 0, none⟩ = some (.int .i64 p) ∧ w'.cell? ⟨w2.heap.size, 1, none⟩ = some (.int .i64 q) ∧ w'.cell? ⟨w2.heap.size, 2, none⟩ = some (.int .i64 r) ∧ w'.cell? ⟨w.heap.size, 0, none⟩ = some (.int .i64 z) ∧ w'.cell? ⟨w.heap.size, 1, none⟩ = some (.int .i64 x) ∧ w'.cell? ⟨w.heap.size, 2, none⟩ = some (.int .i64 y) ∧ w'.cell? ⟨w.heap.size + 1, 0, none⟩ = some (.int .i64 u) ∧ w'.cell? ⟨w.heap.size + 1, 1, none⟩ = some (.int .i64 a) ∧ w'.cell? ⟨w.heap.size + 1, 2, none⟩ = some (.int .i64 b) ∧ TilesAt w' v1 L ∧ TilesAt w' v2 L ∧ QTab w' ∧ Below w.heap.size w w') w6.drew := ⟨a0, a1, a2, b0, b1, b2, s1.1, s1.2.1, s1.2.2.1, s2.1, s2.2.1, s2.2.2.1, hv1.below hdr, hv2.below hdr, hq.below hb6.drew, hb6.drew⟩
  have HS0 := Lib.hid hS0
  clear hS0 hdr a0 a1 a2 b0 b1 b2 s1 s2 hv1 hv2 hb6 hq
  go_region_held3 (fun w' => w'.cell? ⟨w1.heap.size, 0, none⟩ = some (.int .i64 p) ∧ w'.cell? ⟨w1.heap.size, 1, none⟩ = some (.int .i64 q) ∧ w'.cell? ⟨w1.heap.size, 2, none⟩ = some (.int .i64 r) ∧ w'.cell? ⟨w2.heap.size, 0, none⟩ = some (.int .i64 p) ∧ w'.cell? ⟨w2.heap.size, 1, none⟩ = some (.int .i64 q) ∧ w'.cell? ⟨w2.heap.size, 2, none⟩ = some (.int .i64 r) ∧ w'.cell? ⟨w.heap.size, 0, none⟩ = some (.int .i64 z) ∧ w'.cell? ⟨w.heap.size, 1, none⟩ = some (.int .i64 x) ∧ w'.cell? ⟨w.heap.size, 2, none⟩ = some (.int .i64 y) ∧ w'.cell? ⟨w.heap.size + 1, 0, none⟩ = some (.int .i64 u) ∧ w'.cell? ⟨w.heap.size + 1, 1, none⟩ = some (.int .i64 a) ∧ w'.cell? ⟨w.heap.size + 1, 2, none⟩ = some (.int .i64 b) ∧ TilesAt w' v1 L ∧ TilesAt w' v2 L ∧ QTab w' ∧ Below w.heap.size w w') (first | exact keepM hk (by assumption) | exact HS0.out)
    (first | (go_at_call 24; refine (back_any _ L _ (by go_split_ands; assumption) HL.out).mono ?_; rintro e w' ⟨v', rfl, hv', hk⟩) | (go_at_call 23; refine (same_yes _ _ L _ (by go_split_ands; assumption) (by go_split_ands; assumption) HL.out).mono ?_; rintro e w' ⟨rfl, hk⟩) | (go_at_call 25; refine (H7.out _ (by go_split_ands; assumption)).mono ?_; rintro e w' ⟨rfl, hk⟩) | (go_at_call 26; refine (H8.out _).mono ?_; rintro e w' ⟨rfl, hk⟩) | (go_at_call 16; refine (awake_any _ (by go_split_ands; assumption)).mono ?_; rintro e w' ⟨rfl, hk⟩))
  go_wp2_with fail
  go_ret
  refine ⟨rfl, ?_⟩
  go_split_ands
  assumption
end Go.Proofs.YtanhoppclgeogaaDoor
