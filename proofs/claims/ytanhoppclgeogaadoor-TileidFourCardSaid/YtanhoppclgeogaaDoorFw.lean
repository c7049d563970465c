/- The walk of TileidFour: the four tiles in a tile lie in it, one behind the other, and no other tile of that zoom does. -/
import Derived.Test.YtanhoppclgeogaaDoorFo
import Derived.Deep.QuietTactic
import Derived.BigQuiet
namespace Go.Proofs.YtanhoppclgeogaaDoor
open Go.RowKit
set_option linter.unusedVariables false
set_option linter.unusedSimpArgs false
theorem four_no (z x y u a b : Int) (h : dnE z x y ≠ 0) (w : World) (hq : QTab w) : Calls Tryd.prog 6 #[.agg #[.int .i64 z, .int .i64 x, .int .i64 y], .agg #[.int .i64 u, .int .i64 a, .int .i64 b]] w fun e w' => e = .returned (.bool true) ∧ Below w.heap.size w w' := by
  have h1 := fun w hq => down_any z x y w hq
  rw [show dnL z x y = [] from if_neg h] at h1
  have hne : (dnE z x y != 0) = true := by simpa using h
  clear h
  generalize dnE z x y = E at *
  have H1 := Lib.hid h1
  clear h1
  go_enter Tryd.func6, Tryd.ntmps6
  go_wp2_with fail
  refine (H1.out _ (hq.below (by go_grown))).mono ?_
  rintro e w1 ⟨v, rfl, hv, hb⟩
  have hs := hb.size
  simp only [World.size_alloc] at hs
  have hb1 : Below w.heap.size w w1 := Below.trans (by go_grown) (hb.mono (by simp; omega))
  obtain ⟨al, cap, rfl, _⟩ := hv
  simp only [List.length_nil]
  clear hb
  go_wp2_with fail
  refine (awake_any _ (hq.below hb1)).mono ?_
  rintro e w5 ⟨rfl, hb5⟩
  have hu5 := hb1.trans (hb5.mono hb1.size)
  go_wp2_with fail
  go_ret
  exact ⟨rfl, hu5⟩
theorem keepF {W W1 w' : World} {g o0 o1 o2 : Nat} {z x y p q r : Int} {t g' : Nat} (hk : Below w'.heap.size w' W1)
    (hS : w'.cell? ⟨g, 0, none⟩ = some (.int .i64 z) ∧ w'.cell? ⟨g, 1, none⟩ = some (.int .i64 x) ∧ w'.cell? ⟨g, 2, none⟩ = some (.int .i64 y) ∧ w'.cell? ⟨t, 0, none⟩ = some (.int .i64 z) ∧ w'.cell? ⟨t, 1, none⟩ = some (.int .i64 x) ∧ w'.cell? ⟨t, 2, none⟩ = some (.int .i64 y) ∧ w'.cell? ⟨g', o0, none⟩ = some (.int .i64 p) ∧ w'.cell? ⟨g', o1, none⟩ = some (.int .i64 q) ∧ w'.cell? ⟨g', o2, none⟩ = some (.int .i64 r) ∧ QTab w' ∧ Below W.heap.size W w') :
    W1.cell? ⟨g, 0, none⟩ = some (.int .i64 z) ∧ W1.cell? ⟨g, 1, none⟩ = some (.int .i64 x) ∧ W1.cell? ⟨g, 2, none⟩ = some (.int .i64 y) ∧ W1.cell? ⟨t, 0, none⟩ = some (.int .i64 z) ∧ W1.cell? ⟨t, 1, none⟩ = some (.int .i64 x) ∧ W1.cell? ⟨t, 2, none⟩ = some (.int .i64 y) ∧ W1.cell? ⟨g', o0, none⟩ = some (.int .i64 p) ∧ W1.cell? ⟨g', o1, none⟩ = some (.int .i64 q) ∧ W1.cell? ⟨g', o2, none⟩ = some (.int .i64 r) ∧ QTab W1 ∧ Below W.heap.size W W1 := by
  obtain ⟨c0, c1, c2, d0, d1, d2, e0, e1, e2, hq, hb⟩ := hS
  exact ⟨cell_later hk c0, cell_later hk c1, cell_later hk c2, cell_later hk d0, cell_later hk d1, cell_later hk d2, cell_later hk e0, cell_later hk e1, cell_later hk e2, hq.below hk, hb.trans (hk.mono hb.size)⟩
theorem TilesAt.cellsAt {w : World} {g off n cap : Nat} {l : List (Int × Int × Int)} (h : TilesAt w (.slice (some ⟨g, off, none⟩) n cap) l) (k : Nat) (t : Int × Int × Int) (ht : l[k]? = some t) : w.cell? ⟨g, off + k * 3, none⟩ = some (.int .i64 t.1) ∧ w.cell? ⟨g, off + k * 3 + 1, none⟩ = some (.int .i64 t.2.1) ∧ w.cell? ⟨g, off + k * 3 + 2, none⟩ = some (.int .i64 t.2.2) := by
  obtain ⟨a, cap', hv, h1, h2, hc⟩ := h
  obtain ⟨g', off', ha, hg, c0, c1, c2⟩ := hc k t ht
  simp only [Value.slice.injEq] at hv
  obtain ⟨hv, _⟩ := hv
  rw [ha] at hv
  simp only [Option.some.injEq, Addr.mk.injEq, and_true] at hv
  obtain ⟨rfl, rfl⟩ := hv
  exact ⟨c0, c1, c2⟩
set_option maxHeartbeats 2000000 in
set_option maxRecDepth 20000 in
theorem four_yes (k : Nat) (x y u a b : Int) (hk : k ≤ 25) (h : In k x y) (w : World) (hq : QTab w) : Calls Tryd.prog 6 #[.agg #[.int .i64 k, .int .i64 x, .int .i64 y], .agg #[.int .i64 u, .int .i64 a, .int .i64 b]] w fun e w' => e = .returned (.bool true) ∧ Below w.heap.size w w' := by
  have h1 := fun w hq => down_in k x y hk h w hq
  have h3 := fun w hq => over_any k x y u a b w hq
  have hov : u = (k : Int) + 1 → ovB k x y u a b = inU (kidT k x y) (u, a, b) 4 := fun e => by rw [e]; exact in_over k x y a b hk h
  have hF : 0 ≤ bas (k + 1) + 4 * hpl k x y ∧ bas (k + 1) + 4 * hpl k x y + 4 ≤ 6004799503160661 := by
    have hb := hpl_bd k x y h
    have hn := bas_nn (k + 1)
    have ht := bas_top (k + 1 + 1) (by omega)
    rw [bas_succ, show p4 (k + 1) = 4 * p4 k from rfl] at ht
    omega
  have HK : Hid (∀ j : Nat, j < 4 → (∀ w, QTab w → Calls Tryd.prog 8 #[.agg #[.int .i64 (kidT k x y j).1, .int .i64 (kidT k x y j).2.1, .int .i64 (kidT k x y j).2.2]] w fun e w' => e = .returned (.tuple #[.int .u64 (bas (k + 1) + 4 * hpl k x y + j), .int .i64 0]) ∧ Below w.heap.size w w') ∧
      (∀ w, QTab w → Calls Tryd.prog 17 #[.agg #[.int .i64 (kidT k x y j).1, .int .i64 (kidT k x y j).2.1, .int .i64 (kidT k x y j).2.2]] w fun e w' => e = .returned (.tuple #[.agg #[.int .i64 k, .int .i64 x, .int .i64 y], .int .i64 0]) ∧ Below w.heap.size w w') ∧
      ∀ w, QTab w → Calls Tryd.prog 25 #[.agg #[.int .i64 k, .int .i64 x, .int .i64 y], .agg #[.int .i64 (kidT k x y j).1, .int .i64 (kidT k x y j).2.1, .int .i64 (kidT k x y j).2.2]] w fun e w' => e = .returned (.bool true) ∧ Below w.heap.size w w') := Lib.hid (fun j hj => by
    obtain ⟨e1, e2, e3, e4, e5, e6, e7⟩ := four_kid k x y j hk h (by omega) (by omega)
    refine ⟨fun w hq => ?_, fun w hq => ?_, fun w hq => ?_⟩
    · have := id_any (kidT k x y j).1 (kidT k x y j).2.1 (kidT k x y j).2.2 w hq
      rw [e1, e2] at this; exact this
    · have := up_any (kidT k x y j).1 (kidT k x y j).2.1 (kidT k x y j).2.2 w hq
      rw [e3, e4, e5, e6] at this; exact this
    · have := over_any k x y (kidT k x y j).1 (kidT k x y j).2.1 (kidT k x y j).2.2 w hq
      rw [e7] at this; exact this)
  have HAT := Lib.hid (fun j hj => four_at k x y j hj)
  obtain ⟨F0, F1⟩ := hF
  clear h
  generalize bas (k + 1) + 4 * hpl k x y = Fs at *
  generalize ovB k x y u a b = O at *
  generalize hL : [kidT k x y 0, kidT k x y 1, kidT k x y 2, kidT k x y 3] = L at *
  have hlen : L.length = 4 := by rw [← hL]; rfl
  have HOV := Lib.hid hov
  clear hov hL
  generalize kidT k x y = T at *
  have H1 := Lib.hid h1
  have H3 := Lib.hid h3
  have HLEN := Lib.hid hlen
  clear h1 h3 hlen
  go_enter Tryd.func6, Tryd.ntmps6
  go_wp2_with fail
  refine (H1.out _ (hq.below (by go_grown))).mono ?_
  rintro e w1 ⟨v, rfl, hv, hb⟩
  have hs := hb.size
  simp only [World.size_alloc] at hs
  have s1 := Lib.hid ((spot_old (spot_new w k x y 23) (by simp) (.cells #[.int .i64 u, .int .i64 a, .int .i64 b] 23)).below hb (by simp; omega))
  have s2 := Lib.hid ((spot_new (w.alloc (.cells #[.int .i64 k, .int .i64 x, .int .i64 y] 23)) u a b 23).below hb (by simp))
  have hb1 : Below w.heap.size w w1 := Below.trans (by go_grown) (hb.mono (by simp; omega))
  simp only [World.size_alloc] at s1 s2
  clear hb
  have HV := Lib.hid hv
  obtain ⟨g, off, cap, rfl, hcells⟩ := hv.form (by rw [HLEN.out]; omega)
  obtain ⟨l0, l1, l2⟩ := hcells 0 _ (HAT.out 0 (by omega))
  rw [HLEN.out]
  simp only [Nat.zero_mul, Nat.add_zero] at l0 l1 l2
  obtain ⟨k1, k2, k3⟩ := HK.out 0 (by omega)
  rw [show Fs + ((0 : Nat) : Int) = Fs from by omega] at k1
  have KI := Lib.hid k1
  clear hcells k1 k2 k3 hv H1
  generalize (T ((0 : Nat) : Int)).1 = p at *
  generalize (T ((0 : Nat) : Int)).2.1 = q at *
  generalize (T ((0 : Nat) : Int)).2.2 = r at *
  go_wp2_with fail
  refine (KI.out _ (hq.below hb1)).mono ?_
  rintro e w2 ⟨rfl, hb⟩
  have t1 := Lib.hid (s1.out.below hb (by omega))
  have t2 := Lib.hid (s2.out.below hb (by omega))
  have t3 := Lib.hid (HV.out.below hb)
  have hb2 := hb1.trans (hb.mono hb1.size)
  have hs2 := hb.size
  clear hb hb1 s1 s2 HV l0 l1 l2 KI
  go_wp2_with fail
  go_loopw [9, 10] (fun c i wr => ∃ (j : Nat) (B : Bool), j ≤ 4 ∧ i = .int .i64 j ∧ c = .bool B ∧ Hid (inU T (u, a, b) j = B) ∧ Hid (Spot wr w.heap.size k x y) ∧ Hid (Spot wr (w.heap.size + 1) u a b) ∧ Hid (TilesAt wr (.slice (some ⟨g, off, none⟩) L.length cap) L) ∧ w.heap.size + 2 ≤ wr.heap.size ∧ Below w.heap.size w wr) (fun _ i _ => 4 - (intOf i).toNat)
  case atStart => exact ⟨0, false, by omega, rfl, rfl, Lib.hid rfl, t1, t2, t3, by omega, hb2⟩
  case round =>
    clear t1 t2 t3 hb2 hs2 hs
    obtain ⟨j, B, hj, rfl, rfl, HB, t1, t2, t3, hsz, hbw⟩ := hrel
    by_cases hlt : j < 4
    · obtain ⟨k1, k2, k3⟩ := HK.out j hlt
      have K1 := Lib.hid k1
      have K2 := Lib.hid k2
      have K3 := Lib.hid k3
      have hat := HAT.out j hlt
      obtain ⟨l0, l1, l2⟩ := t3.out.cellsAt j _ hat
      have hT : T j = ((T j).1, (T j).2.1, (T j).2.2) := rfl
      have HT := Lib.hid hT
      have hj4 : (j : Int) < 4 := by omega
      clear k1 k2 k3 hat hT
      generalize (T (j : Int)).1 = p at *
      generalize (T (j : Int)).2.1 = q at *
      generalize (T (j : Int)).2.2 = r at *
      go_wp2_with fail
      refine (K1.out _ (hq.below hbw)).mono ?_
      rintro e w3 ⟨rfl, hb3⟩
      replace l0 := cell_later hb3 l0
      replace l1 := cell_later hb3 l1
      replace l2 := cell_later hb3 l2
      replace t1 := Lib.hid (t1.out.below hb3 (by omega))
      replace t2 := Lib.hid (t2.out.below hb3 (by omega))
      replace t3 := Lib.hid (t3.out.below hb3)
      replace hbw := hbw.trans (hb3.mono hbw.size)
      have hz3 := hb3.size
      clear hb3 K1
      go_wp2_with fail
      refine (K2.out _ (hq.below hbw)).mono ?_
      rintro e w4 ⟨rfl, hb4⟩
      replace l0 := cell_later hb4 l0
      replace l1 := cell_later hb4 l1
      replace l2 := cell_later hb4 l2
      replace t1 := Lib.hid (t1.out.below hb4 (by omega))
      replace t2 := Lib.hid (t2.out.below hb4 (by omega))
      replace t3 := Lib.hid (t3.out.below hb4)
      replace hbw := hbw.trans (hb4.mono hbw.size)
      have hz4 := hb4.size
      clear hb4 K2
      go_upto_region 13 with fail
      obtain ⟨W, hW⟩ : ∃ W, w4.alloc (.cells #[.int .i64 k, .int .i64 x, .int .i64 y] 28) = W := ⟨_, rfl⟩
      have hbW : Below w4.heap.size w4 W := by rw [← hW]; exact (Below.refl _ _).alloc (Nat.le_refl _) _
      have q3 : Spot W w4.heap.size k x y := by rw [← hW]; exact spot_new w4 k x y _
      replace l0 := cell_later hbW l0
      replace l1 := cell_later hbW l1
      replace l2 := cell_later hbW l2
      replace t1 := Lib.hid (t1.out.below hbW (by omega))
      replace t2 := Lib.hid (t2.out.below hbW (by omega))
      replace t3 := Lib.hid (t3.out.below hbW)
      replace hbw := hbw.trans (hbW.mono hbw.size)
      have hzW := hbW.size
      rw [hW]
      clear hW hbW
      have hS0 : (fun w' => w'.cell? ⟨w.heap.size, 0, none⟩ = some (.int .i64 k) ∧ w'.cell? ⟨w.heap.size, 1, none⟩ = some (.int .i64 x) ∧ w'.cell? ⟨w.heap.size, 2, none⟩ = some (.int .i64 y) ∧ w'.cell? ⟨w4.heap.size, 0, none⟩ = some (.int .i64 k) ∧ w'.cell? ⟨w4.heap.size, 1, none⟩ = some (.int .i64 x) ∧ w'.cell? ⟨w4.heap.size, 2, none⟩ = some (.int .i64 y) ∧ w'.cell? ⟨g, off + j * 3, none⟩ = some (.int .i64 p) ∧ w'.cell? ⟨g, off + j * 3 + 1, none⟩ = some (.int .i64 q) ∧ w'.cell? ⟨g, off + j * 3 + 2, none⟩ = some (.int .i64 r) ∧ QTab w' ∧ Below W.heap.size W w') W.drew := ⟨t1.out.1, t1.out.2.1, t1.out.2.2.1, q3.1, q3.2.1, q3.2.2.1, l0, l1, l2, hq.below hbw.drew, (Below.refl _ _).drew⟩
      have HS0 := Lib.hid hS0
      have HBW := Lib.hid hbw
      clear hS0 q3 l0 l1 l2 hbw
      have v1 : IntKind.u64.wrap (j : Int) = j := IntWalk.u64_in _ (by omega)
      have v2 : IntKind.u64.wrap (Fs + (j : Int)) = Fs + j := IntWalk.u64_in _ (by omega)
      go_region_held3 (fun w' => w'.cell? ⟨w.heap.size, 0, none⟩ = some (.int .i64 k) ∧ w'.cell? ⟨w.heap.size, 1, none⟩ = some (.int .i64 x) ∧ w'.cell? ⟨w.heap.size, 2, none⟩ = some (.int .i64 y) ∧ w'.cell? ⟨w4.heap.size, 0, none⟩ = some (.int .i64 k) ∧ w'.cell? ⟨w4.heap.size, 1, none⟩ = some (.int .i64 x) ∧ w'.cell? ⟨w4.heap.size, 2, none⟩ = some (.int .i64 y) ∧ w'.cell? ⟨g, off + j * 3, none⟩ = some (.int .i64 p) ∧ w'.cell? ⟨g, off + j * 3 + 1, none⟩ = some (.int .i64 q) ∧ w'.cell? ⟨g, off + j * 3 + 2, none⟩ = some (.int .i64 r) ∧ QTab w' ∧ Below W.heap.size W w') (first | exact keepF hk (by assumption) | exact HS0.out)
        (first | (go_at_call 25; refine (K3.out _ (by go_split_ands; assumption)).mono ?_; rintro e w' ⟨rfl, hk⟩))
      have hk' : Below W.heap.size W w' := ((Below.refl W.heap.size W).drew).trans hk
      replace t1 := t1.out.below hk' (by omega)
      replace t2 := t2.out.below hk' (by omega)
      replace t3 := t3.out.below hk'
      have hbw := HBW.out.trans (hk'.mono HBW.out.size)
      have hz5 := hk'.size
      clear HS0 HBW v1 v2 hk hk' K3
      generalize w' = w5 at *
      have hat := HAT.out j hlt
      rw [HT.out] at hat
      obtain ⟨l0, l1, l2⟩ := t3.cellsAt j _ hat
      have T1 := Lib.hid t1
      have T3 := Lib.hid t3
      have T2 := Lib.hid t2
      obtain ⟨e0, e1, e2, ef⟩ := t2
      dsimp only at l0 l1 l2
      clear hat t1 t3 ef
      have hrel5 : ∀ (c : Bool) (n : Nat), inU T (u, a, b) (j + 1) = c → ∃ (j_1 : Nat) (B : Bool), j_1 ≤ 4 ∧ Value.int .i64 ((j : Int) + 1) = .int .i64 j_1 ∧ Value.bool c = .bool B ∧ Hid (inU T (u, a, b) j_1 = B) ∧ Hid (Spot (w5.drewN n) w.heap.size k x y) ∧ Hid (Spot (w5.drewN n) (w.heap.size + 1) u a b) ∧ Hid (TilesAt (w5.drewN n) (.slice (some ⟨g, off, none⟩) L.length cap) L) ∧ w.heap.size + 2 ≤ (w5.drewN n).heap.size ∧ Below w.heap.size w (w5.drewN n) := fun c n hc =>
        have hd : Below w5.heap.size w5 (w5.drewN n) := ⟨rfl, rfl, rfl, Nat.le_refl _, fun _ _ => rfl⟩
        ⟨j + 1, c, by omega, by go_num, rfl, Lib.hid hc, Lib.hid (T1.out.below hd (by omega)), Lib.hid (T2.out.below hd (by omega)), Lib.hid (T3.out.below hd), by show w.heap.size + 2 ≤ w5.heap.size; omega, hbw.trans (hd.mono hbw.size)⟩
      have HR := Lib.hid hrel5
      have hin : inU T (u, a, b) (j + 1) = (B || decide ((p, q, r) = (u, a, b))) := by rw [inU, HB.out, HT.out]
      have HIN := Lib.hid hin
      clear hrel5 hin
      have hm : (4 - (intOf (.int .i64 ((j : Int) + 1))).toNat) < 4 - (intOf (.int .i64 (j : Int))).toNat := by simp [intOf]; omega
      have HM := Lib.hid hm
      clear hm
      cases B with
      | true =>
        go_wp2_with fail
        go_quiet (fail)
        go_wp2_with fail
        go_roundw
        case rel => exact HR.out true _ (by rw [HIN.out]; rfl)
        case measure => exact HM.out
      | false =>
        by_cases g1 : p = u
        · subst g1
          by_cases g2 : q = a
          · subst g2
            by_cases g3 : r = b
            · subst g3
              go_wp2_with fail
              go_quiet (fail)
              go_wp2_with fail
              go_roundw
              case rel => exact HR.out true _ (by rw [HIN.out]; simp)
              case measure => exact HM.out
            · go_wp2_with fail
              go_quiet (fail)
              go_wp2_with fail
              go_roundw
              case rel => exact HR.out false _ (by rw [HIN.out]; simp [g3])
              case measure => exact HM.out
          · go_wp2_with fail
            go_quiet (fail)
            go_wp2_with fail
            go_roundw
            case rel => exact HR.out false _ (by rw [HIN.out]; simp [g2])
            case measure => exact HM.out
        · go_wp2_with fail
          go_quiet (fail)
          go_wp2_with fail
          go_roundw
          case rel => exact HR.out false _ (by rw [HIN.out]; simp [g1])
          case measure => exact HM.out
    · obtain rfl : j = 4 := by omega
      replace t1 := t1.out
      replace t2 := t2.out
      obtain ⟨c0, c1, c2, cf⟩ := t1
      obtain ⟨d0, d1, d2, df⟩ := t2
      clear t3 HK HAT
      have h3 := H3.out
      clear H3
      by_cases hu : u = (k : Int) + 1
      · have ho := (HOV.out hu).trans HB.out
        rw [ho] at h3
        have H3 := Lib.hid h3
        have hne : (u != (k : Int) + 1) = false := by simpa using hu
        clear h3 ho HOV hu
        cases B with
        | true =>
          go_wp2_with fail
          refine (H3.out _ (hq.below hbw)).mono ?_
          rintro e w4 ⟨rfl, hb4⟩
          have hu4 := hbw.trans (hb4.mono hbw.size)
          clear hb4 c0 c1 c2 d0 d1 d2 cf df
          go_wp2_with fail
          refine (awake_any _ (hq.below hu4)).mono ?_
          rintro e w5 ⟨rfl, hb5⟩
          have hu5 := hu4.trans (hb5.mono hu4.size)
          go_wp2_with fail
          go_ret
          exact ⟨rfl, hu5⟩
        | false =>
          go_wp2_with fail
          refine (H3.out _ (hq.below hbw)).mono ?_
          rintro e w4 ⟨rfl, hb4⟩
          have hu4 := hbw.trans (hb4.mono hbw.size)
          clear hb4 c0 c1 c2 d0 d1 d2 cf df
          go_wp2_with fail
          refine (awake_any _ (hq.below hu4)).mono ?_
          rintro e w5 ⟨rfl, hb5⟩
          have hu5 := hu4.trans (hb5.mono hu4.size)
          go_wp2_with fail
          go_ret
          exact ⟨rfl, hu5⟩
      · have hne : (u != (k : Int) + 1) = true := by simpa using hu
        clear h3 HOV
        go_wp2_with fail
        refine (awake_any _ (hq.below hbw)).mono ?_
        rintro e w5 ⟨rfl, hb5⟩
        have hu5 := hbw.trans (hb5.mono hbw.size)
        go_wp2_with fail
        go_ret
        exact ⟨rfl, hu5⟩
theorem four_walk (z x y u a b : Int) (w : World) (hq : QTab w) : Calls Tryd.prog 6 #[.agg #[.int .i64 z, .int .i64 x, .int .i64 y], .agg #[.int .i64 u, .int .i64 a, .int .i64 b]] w fun e w' => e = .returned (.bool true) ∧ Below w.heap.size w w' := by
  by_cases h : dnE z x y = 0
  · have he : plE z x y = 0 := by
      by_cases g : plE z x y = 0
      · exact g
      · rw [(dn_no z x y g).1] at h; exact h
    obtain ⟨hz, hin, _⟩ := pl_in z x y he
    obtain ⟨k, hk, rfl⟩ := zoom_nat z hz
    rw [toN] at hin
    have hk' : k ≤ 25 := by
      rcases Nat.lt_or_ge 25 k with g | g
      · obtain rfl : k = 26 := by omega
        have := (dn_top x y he).1
        rw [show ((26 : Nat) : Int) = 26 from rfl] at h
        omega
      · exact g
    exact four_yes k x y u a b hk' hin w hq
  · exact four_no z x y u a b h w hq
end Go.Proofs.YtanhoppclgeogaaDoor
