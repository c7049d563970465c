/- The walk of CoverJust: the intervals of a rectangle have just its tiles. -/
import Derived.Test.YthlekifagidijaaDoorWt
import Derived.Deep.QuietTactic
import Derived.BigQuiet
import Derived.Deep.DeepCutAuto
namespace Go.Proofs.YthlekifagidijaaDoor
open Go.RowKit
set_option linter.unusedVariables false
set_option linter.unusedSimpArgs false
/-- A box that may be written. -/
def FrzAt (W : World) (h : Nat) : Prop := W.frozen? ⟨h, 0, none⟩ = false ∧ h < W.heap.size
theorem FrzAt.below {w w' : World} {h : Nat} (g : FrzAt w h) (hb : Below w.heap.size w w') : FrzAt w' h := ⟨(World.frozen?_of_block (a := ⟨h, 0, none⟩) (hb.block h g.2)).trans g.1, Nat.lt_of_lt_of_le g.2 hb.size⟩
theorem keepJ {w w' w1 : World} {a0 a1 a2 a3 a4 a5 a6 a7 : Addr} {v0 v1 v2 v3 v4 v5 v6 v7 : Value} {u : Value} {l : List (Int × Int)} {f B : Nat} {E : TypeId} (hb : Below w'.heap.size w' w1) (h : w'.cell? a0 = some v0 ∧ w'.cell? a1 = some v1 ∧ w'.cell? a2 = some v2 ∧ w'.cell? a3 = some v3 ∧ w'.cell? a4 = some v4 ∧ w'.cell? a5 = some v5 ∧ w'.cell? a6 = some v6 ∧ w'.cell? a7 = some v7 ∧ FrzAt w' f ∧ OwnS w' B E u l ∧ QTab w' ∧ Below w.heap.size w w') :
    w1.cell? a0 = some v0 ∧ w1.cell? a1 = some v1 ∧ w1.cell? a2 = some v2 ∧ w1.cell? a3 = some v3 ∧ w1.cell? a4 = some v4 ∧ w1.cell? a5 = some v5 ∧ w1.cell? a6 = some v6 ∧ w1.cell? a7 = some v7 ∧ FrzAt w1 f ∧ OwnS w1 B E u l ∧ QTab w1 ∧ Below w.heap.size w w1 := by
  obtain ⟨h0, h1, h2, h3, h4, h5, h6, h7, hf, hs, hq, hu⟩ := h
  exact ⟨scell_later hb h0, scell_later hb h1, scell_later hb h2, scell_later hb h3, scell_later hb h4, scell_later hb h5, scell_later hb h6, scell_later hb h7, hf.below hb, hs.below hb, hq.below hb, hu.trans (hb.mono hu.size)⟩
theorem way_at (z x0 y0 x1 y1 : Int) (h : ckE z x0 y0 x1 y1 = 0) : (∀ t ∈ wayL z.toNat x0 y0 x1 y1, t.1 ≤ t.2 ∧ 0 ≤ t.1 ∧ t.2 < 6004799503160661 ∧ zofV t.1 = z ∧ zofV t.2 = z) ∧ ∀ (i : Nat) (s t : Int × Int), (wayL z.toNat x0 y0 x1 y1)[i]? = some s → (wayL z.toNat x0 y0 x1 y1)[i + 1]? = some t → s.2 + 2 ≤ t.1 := by
  obtain ⟨k, hk, rfl, r1, r2, r3, r4, r5, r6⟩ := ck_rect z x0 y0 x1 y1 h
  rw [toN]
  obtain ⟨a1, a2, a3⟩ := way_is k x0 y0 x1 y1 hk r1 r3 r4 r6
  have hid : ∀ d, Mem (wayL k x0 y0 x1 y1) d → 0 ≤ d ∧ d < 6004799503160661 ∧ zofV d = k := by
    intro d hd
    obtain ⟨X, Y, e1, e2, e3, e4, rfl⟩ := (a2 d).1 hd
    have hp := (pl_of k hk X Y ⟨by omega, by omega, by omega, by omega⟩).1
    obtain ⟨_, _, _, _, _, b0, b1⟩ := id_in k X Y hp
    exact ⟨b0, b1, (of_id k X Y hp).2.2.2.2⟩
  refine ⟨fun t ht => ?_, fun i s t hs ht => ?_⟩
  · have hle := a1.1 t ht
    obtain ⟨b0, b1, b2⟩ := hid t.1 ⟨t, ht, Int.le_refl _, hle⟩
    obtain ⟨d0, d1, d2⟩ := hid t.2 ⟨t, ht, hle, Int.le_refl _⟩
    exact ⟨hle, b0, d1, b2, d2⟩
  · have hi : i < (wayL k x0 y0 x1 y1).length := (List.getElem?_eq_some_iff.1 hs).1
    have hj : i + 1 < (wayL k x0 y0 x1 y1).length := (List.getElem?_eq_some_iff.1 ht).1
    have := List.pairwise_iff_getElem.1 a1.2 i (i + 1) hi hj (by omega)
    rw [List.getElem?_eq_getElem hi, Option.some.injEq] at hs
    rw [List.getElem?_eq_getElem hj, Option.some.injEq] at ht
    rw [hs, ht] at this
    exact this
theorem way_in (z x0 y0 x1 y1 a b : Int) (h : ckE z x0 y0 x1 y1 = 0) (hp : plE z a b = 0) : memB (wayL z.toNat x0 y0 x1 y1) (idD z a b) = hasB z x0 y0 x1 y1 z a b := by
  have hck := h
  obtain ⟨k, hk, rfl, r1, r2, r3, r4, r5, r6⟩ := ck_rect z x0 y0 x1 y1 h
  rw [toN]
  obtain ⟨a1, a2, a3⟩ := way_is k x0 y0 x1 y1 hk r1 r3 r4 r6
  rw [Bool.eq_iff_iff, memB_iff, a2]
  unfold hasB
  rw [decide_eq_true_iff]
  constructor
  · rintro ⟨X, Y, e1, e2, e3, e4, e5⟩
    have hp2 := (pl_of k hk X Y ⟨by omega, by omega, by omega, by omega⟩).1
    obtain ⟨_, rfl, rfl⟩ := id_inj k a b k X Y hp hp2 e5
    exact ⟨hck, rfl, e1, e2, e3, e4⟩
  · rintro ⟨_, _, e1, e2, e3, e4⟩
    exact ⟨a, b, e1, e2, e3, e4, rfl⟩
theorem way_tot (z x0 y0 x1 y1 : Int) (h : ckE z x0 y0 x1 y1 = 0) : tot (wayL z.toNat x0 y0 x1 y1) % 18446744073709551616 = szV z x0 y0 x1 y1 ∧ 0 ≤ szV z x0 y0 x1 y1 ∧ szV z x0 y0 x1 y1 ≤ 4611686018427387904 := by
  have hs : szV z x0 y0 x1 y1 = (x1 - x0 + 1) * (y1 - y0 + 1) := if_pos h
  obtain ⟨k, hk, rfl, r1, r2, r3, r4, r5, r6⟩ := ck_rect z x0 y0 x1 y1 h
  have hp := p2_top k hk
  rw [toN, hs]
  obtain ⟨a1, a2, a3⟩ := way_is k x0 y0 x1 y1 hk r1 r3 r4 r6
  rw [rect_tot k hk x0 y0 x1 y1 r1 r2 r3 r4 r5 r6 _ a1 a2]
  have m0 := Int.mul_nonneg (show 0 ≤ x1 - x0 + 1 by omega) (show 0 ≤ y1 - y0 + 1 by omega)
  have m1 := Int.mul_le_mul (show x1 - x0 + 1 ≤ 67108864 by omega) (show y1 - y0 + 1 ≤ 67108864 by omega) (show 0 ≤ y1 - y0 + 1 by omega) (by omega)
  omega
set_option maxHeartbeats 2000000 in
set_option maxRecDepth 20000 in
theorem just_no (z x0 y0 x1 y1 u a b E : Int) (w : World) (hq : QTab w) (hE : E ≠ 0) (hk : E = 21 ∨ E = ckE z x0 y0 x1 y1) (h1 : ∀ w, QTab w → Calls Tryd.prog 15 #[.agg #[.int .i64 z, .int .i64 x0, .int .i64 y0, .int .i64 x1, .int .i64 y1], .int .i64 4096] w (SpEnd [] E w)) : Calls Tryd.prog 5 #[.agg #[.int .i64 z, .int .i64 x0, .int .i64 y0, .int .i64 x1, .int .i64 y1], .agg #[.int .i64 u, .int .i64 a, .int .i64 b]] w fun e w' => e = .returned (.bool true) ∧ Below w.heap.size w w' := by
  have HQ := Lib.hid hq
  have HA := Lib.hid awake_any
  have H1 := Lib.hid h1
  have H2 := Lib.hid (fun w => check_any z x0 y0 x1 y1 w)
  have hne : (E != 0) = true := by simpa using hE
  clear h1 hq
  by_cases h21 : E = 21
  · subst h21
    clear hE hk
    go_enter Tryd.func5, Tryd.ntmps5
    go_wp2_with fail
    refine (H1.out _ (HQ.out.below (by go_grown))).mono ?_
    rintro e w1 ⟨v, rfl, hv, hb⟩
    obtain ⟨al, cap, rfl, _⟩ := hv
    obtain ⟨c0, c1, c2, c3, c4, d0, d1, d2, hb1⟩ := kept53 hb
    clear hb
    go_wp2_with fail
    refine (HA.out _ (HQ.out.below hb1)).mono ?_
    rintro e w2 ⟨rfl, hb2⟩
    replace hb1 := hb1.trans (hb2.mono hb1.size)
    clear hb2
    go_wp2_with fail
    go_ret
    exact ⟨rfl, hb1⟩
  · have hC : E = ckE z x0 y0 x1 y1 := hk.resolve_left h21
    rw [← hC] at H2
    have h21' : (E == 21) = false := by simpa using h21
    clear hE hk hC
    go_enter Tryd.func5, Tryd.ntmps5
    go_wp2_with fail
    refine (H1.out _ (HQ.out.below (by go_grown))).mono ?_
    rintro e w1 ⟨v, rfl, hv, hb⟩
    obtain ⟨al, cap, rfl, _⟩ := hv
    obtain ⟨c0, c1, c2, c3, c4, d0, d1, d2, hb1⟩ := kept53 hb
    clear hb
    go_wp2_with fail
    refine (H2.out _).mono ?_
    rintro e w2 ⟨rfl, hb2⟩
    replace hb1 := hb1.trans (hb2.mono hb1.size)
    clear hb2 c0 c1 c2 c3 c4 d0 d1 d2
    go_wp2_with fail
    refine (HA.out _ (HQ.out.below hb1)).mono ?_
    rintro e w3 ⟨rfl, hb2⟩
    replace hb1 := hb1.trans (hb2.mono hb1.size)
    clear hb2
    go_wp2_with fail
    go_ret
    exact ⟨rfl, hb1⟩
set_option maxHeartbeats 4000000 in
set_option maxRecDepth 20000 in
theorem just_in (z x0 y0 x1 y1 u a b : Int) (w : World) (hq : QTab w) (hck : ckE z x0 y0 x1 y1 = 0) (hlen : (wayL z.toNat x0 y0 x1 y1).length ≤ 4096) (h1 : ∀ w, QTab w → Calls Tryd.prog 15 #[.agg #[.int .i64 z, .int .i64 x0, .int .i64 y0, .int .i64 x1, .int .i64 y1], .int .i64 4096] w (SpOwn (wayL z.toNat x0 y0 x1 y1) 0 w)) : Calls Tryd.prog 5 #[.agg #[.int .i64 z, .int .i64 x0, .int .i64 y0, .int .i64 x1, .int .i64 y1], .agg #[.int .i64 u, .int .i64 a, .int .i64 b]] w fun e w' => e = .returned (.bool true) ∧ Below w.heap.size w w' := by
  have HQ := Lib.hid hq
  have HA := Lib.hid awake_any
  have H1 := Lib.hid h1
  have hpos := way_pos z x0 y0 x1 y1 hck
  obtain ⟨hat, hnext⟩ := way_at z x0 y0 x1 y1 hck
  obtain ⟨htot, hn0, hn1⟩ := way_tot z x0 y0 x1 y1 hck
  have hin := way_in z x0 y0 x1 y1 a b hck
  have hwide : WideS (wayL z.toNat x0 y0 x1 y1) := fun t ht => by have := hat t ht; omega
  have ht2 := fun v w h => total_any v (wayL z.toNat x0 y0 x1 y1) w h hwide (by omega)
  rw [htot] at ht2
  have H2 := Lib.hid ht2
  have H3 := Lib.hid (fun w => size_any z x0 y0 x1 y1 w)
  have H4 := Lib.hid (fun w hq => id_any z a b w hq)
  have H5 := Lib.hid (fun v w h => in_any v (wayL z.toNat x0 y0 x1 y1) (idD z a b) w h (by omega))
  have H6 := Lib.hid (fun w => has_any z x0 y0 x1 y1 z a b w)
  have HAT := Lib.hid hat
  have HNX := Lib.hid hnext
  have HIN := Lib.hid hin
  clear h1 hq hck htot hat hnext hin hwide ht2
  generalize wayL z.toNat x0 y0 x1 y1 = P at *
  generalize szV z x0 y0 x1 y1 = M at *
  generalize idD z a b = D at *
  generalize plE z a b = G at *
  generalize memB P D = mb at *
  generalize hasB z x0 y0 x1 y1 z a b = hb at *
  have hp0 : ((P.length : Int) == 0) = false := by rw [beq_eq_false_iff_ne]; omega
  have hp1 : decide ((4096 : Int) < (P.length : Int)) = false := decide_eq_false (by omega)
  have hM : IntKind.u64.wrap M = M := IntWalk.u64_in _ (by omega)
  go_enter Tryd.func5, Tryd.ntmps5
  go_wp2_with fail
  refine (H1.out _ (HQ.out.below (by go_grown))).mono ?_
  rintro e w1 ⟨v, rfl, hv, hb⟩
  have hz := kept53b hb
  obtain ⟨c0, c1, c2, c3, c4, d0, d1, d2, hb1⟩ := kept53 hb
  have hQ1 := HQ.out.below hb1
  have hfz : FrzAt w1 (w.heap.size + 1) := FrzAt.below (w := (w.alloc (.cells #[.int .i64 z, .int .i64 x0, .int .i64 y0, .int .i64 x1, .int .i64 y1] 23)).alloc (.cells #[.int .i64 u, .int .i64 a, .int .i64 b] 25)) ⟨by simp [go_sem], by simp⟩ hb
  have hown2 : OwnS w1 (w.heap.size + 2) 54 v P := by
    have := hv
    simp only [World.size_alloc] at this
    exact this
  obtain ⟨al, cap, rfl, hv2⟩ := hv.spansAt
  have hS0 : w1.cell? ⟨w.heap.size, 0, none⟩ = some (.int .i64 z) ∧ w1.cell? ⟨w.heap.size, 1, none⟩ = some (.int .i64 x0) ∧ w1.cell? ⟨w.heap.size, 2, none⟩ = some (.int .i64 y0) ∧ w1.cell? ⟨w.heap.size, 3, none⟩ = some (.int .i64 x1) ∧ w1.cell? ⟨w.heap.size, 4, none⟩ = some (.int .i64 y1) ∧ w1.cell? ⟨w.heap.size + 1, 0, none⟩ = some (.int .i64 u) ∧ w1.cell? ⟨w.heap.size + 1, 1, none⟩ = some (.int .i64 a) ∧ w1.cell? ⟨w.heap.size + 1, 2, none⟩ = some (.int .i64 b) ∧ FrzAt w1 (w.heap.size + 1) ∧ OwnS w1 (w.heap.size + 2) 54 (.slice al P.length cap) P ∧ QTab w1 ∧ Below w.heap.size w w1 := ⟨c0, c1, c2, c3, c4, d0, d1, d2, hfz, hown2, hQ1, hb1⟩
  have hS2 : (fun w' => w'.cell? ⟨w.heap.size, 0, none⟩ = some (.int .i64 z) ∧ w'.cell? ⟨w.heap.size, 1, none⟩ = some (.int .i64 x0) ∧ w'.cell? ⟨w.heap.size, 2, none⟩ = some (.int .i64 y0) ∧ w'.cell? ⟨w.heap.size, 3, none⟩ = some (.int .i64 x1) ∧ w'.cell? ⟨w.heap.size, 4, none⟩ = some (.int .i64 y1) ∧ w'.cell? ⟨w.heap.size + 1, 0, none⟩ = some (.int .i64 u) ∧ w'.cell? ⟨w.heap.size + 1, 1, none⟩ = some (.int .i64 a) ∧ w'.cell? ⟨w.heap.size + 1, 2, none⟩ = some (.int .i64 b) ∧ FrzAt w' (w.heap.size + 1) ∧ OwnS w' (w.heap.size + 2) 54 (.slice al P.length cap) P ∧ QTab w' ∧ Below w.heap.size w w') w1.drew := keepJ ((Below.refl w1.heap.size w1).drew) hS0
  have HS0 := Lib.hid hS2
  clear hb hv hv2 hS0 hS2 hb1 H1 hQ1 hfz hown2
  go_upto_region 4 with fail
  go_region_held3 (fun w' => w'.cell? ⟨w.heap.size, 0, none⟩ = some (.int .i64 z) ∧ w'.cell? ⟨w.heap.size, 1, none⟩ = some (.int .i64 x0) ∧ w'.cell? ⟨w.heap.size, 2, none⟩ = some (.int .i64 y0) ∧ w'.cell? ⟨w.heap.size, 3, none⟩ = some (.int .i64 x1) ∧ w'.cell? ⟨w.heap.size, 4, none⟩ = some (.int .i64 y1) ∧ w'.cell? ⟨w.heap.size + 1, 0, none⟩ = some (.int .i64 u) ∧ w'.cell? ⟨w.heap.size + 1, 1, none⟩ = some (.int .i64 a) ∧ w'.cell? ⟨w.heap.size + 1, 2, none⟩ = some (.int .i64 b) ∧ FrzAt w' (w.heap.size + 1) ∧ OwnS w' (w.heap.size + 2) 54 (.slice al P.length cap) P ∧ QTab w' ∧ Below w.heap.size w w') (first | exact keepJ hk (by assumption) | exact HS0.out)
    (first | (go_at_call 24; refine (H2.out _ _ (OwnS.spansAt (by go_split_ands; assumption))).mono ?_; rintro e w' ⟨rfl, hk⟩) | (go_at_call 10; refine (H3.out _).mono ?_; rintro e w' ⟨rfl, hk⟩))
  have hT : w'.cell? ⟨w.heap.size, 0, none⟩ = some (.int .i64 z) ∧ w'.cell? ⟨w.heap.size, 1, none⟩ = some (.int .i64 x0) ∧ w'.cell? ⟨w.heap.size, 2, none⟩ = some (.int .i64 y0) ∧ w'.cell? ⟨w.heap.size, 3, none⟩ = some (.int .i64 x1) ∧ w'.cell? ⟨w.heap.size, 4, none⟩ = some (.int .i64 y1) ∧ w'.cell? ⟨w.heap.size + 1, 0, none⟩ = some (.int .i64 u) ∧ w'.cell? ⟨w.heap.size + 1, 1, none⟩ = some (.int .i64 a) ∧ w'.cell? ⟨w.heap.size + 1, 2, none⟩ = some (.int .i64 b) ∧ FrzAt w' (w.heap.size + 1) ∧ OwnS w' (w.heap.size + 2) 54 (.slice al P.length cap) P ∧ QTab w' ∧ Below w.heap.size w w' := by assumption
  clear c0 c1 c2 c3 c4 d0 d1 d2 HS0 H2 H3
  generalize w' = W at *
  have HT := Lib.hid hT
  obtain ⟨c0, c1, c2, c3, c4, d0, d1, d2, hfz, hown, hQW, hbW⟩ := hT
  obtain ⟨_, _, hve, q1, q2, hc⟩ := hown.spansAt
  injection hve with hv1 _ hv3
  subst hv1 hv3
  have HC := Lib.hid hc
  have HC0 := Lib.hid c0
  clear c0 c1 c2 c3 c4 d0 d1 d2 hQW hc hfz hown
  go_wp2_with fail
  go_loopw [7] (fun s wr => ∃ i : Nat, i ≤ P.length ∧ s = .int .i64 i ∧ Below W.heap.size W wr) (fun s _ => P.length - (intOf s).toNat)
  case atStart => exact ⟨0, Nat.zero_le _, rfl, Below.refl _ _⟩
  case round =>
    obtain ⟨i, hi, rfl, hbw⟩ := hrel
    by_cases hlt : i < P.length
    · obtain ⟨t, ht⟩ : ∃ t, P[i]? = some t := ⟨_, List.getElem?_eq_getElem hlt⟩
      obtain ⟨b0, b1, b2, b3, b4⟩ := HAT.out t (List.mem_of_getElem? ht)
      obtain ⟨g, off, rfl, hg, l0, l1⟩ := HC.out i t ht
      replace l0 := scell_later hbw l0
      replace l1 := scell_later hbw l1
      have c0 := scell_later hbw HC0.out
      have hz1 := fun w => (zoom_any t.1 b1 w).mono (fun _ _ h => (⟨h.1, h.2.symm⟩ : _ = _ ∧ _ = w))
      have hz2 := fun w => (zoom_any t.2 (by omega) w).mono (fun _ _ h => (⟨h.1, h.2.symm⟩ : _ = _ ∧ _ = w))
      rw [b3] at hz1
      rw [b4] at hz2
      have HZ1 := Lib.hid hz1
      have HZ2 := Lib.hid hz2
      have hi2 : (i : Int) < (P.length : Int) := by omega
      have HP := Lib.hid ht
      clear hz1 hz2 ht b3 b4
      obtain ⟨p, q⟩ := t
      dsimp only at l0 l1 b0 b1 b2 HZ1 HZ2
      have g1 : decide (q < p) = false := decide_eq_false (by omega)
      by_cases hi0 : i = 0
      · subst hi0
        simp only [Nat.zero_mul, Nat.add_zero] at l0 l1
        go_wp2_with fail
        go_quiet (first | (go_at_call 26; (with_reducible refine Calls.quiet_of_same (HZ1.out _))) | (go_at_call 26; (with_reducible refine Calls.quiet_of_same (HZ2.out _))))
        go_wp2_with fail
        go_roundw
        case rel => exact ⟨1, by omega, by go_num, hbw.trans ⟨rfl, rfl, rfl, Nat.le_refl _, fun _ _ => rfl⟩⟩
        case measure => simp [intOf]; omega
      · obtain ⟨j, hj⟩ : ∃ j, i = j + 1 := ⟨i - 1, by omega⟩
        obtain ⟨t2, ht2⟩ : ∃ t, P[j]? = some t := ⟨_, List.getElem?_eq_getElem (by omega)⟩
        have hnx := HNX.out j t2 (p, q) ht2 (by rw [← hj]; exact HP.out)
        obtain ⟨f0, f1, f2, _, _⟩ := HAT.out t2 (List.mem_of_getElem? ht2)
        obtain ⟨g', off', e9, _, _, m1⟩ := HC.out j t2 ht2
        injection e9 with e9
        injection e9 with e9 e10 _
        subst e9 e10
        replace m1 := scell_later hbw m1
        have hji : (i : Int) - 1 = (j : Int) := by omega
        have hj3 : (j : Int) < (P.length : Int) := by omega
        have g2 : decide (0 < i) = true := decide_eq_true (by omega)
        have g2n : (0 : Int) < (i : Int) := by omega
        have hwj : IntKind.i64.wrap (j : Int) = (j : Int) := by rw [IntKind.wrap_i64]; omega
        clear ht2 hi0 hj
        obtain ⟨r, s⟩ := t2
        dsimp only at m1 hnx f0 f1 f2
        have g3 : decide (p ≤ IntKind.u64.wrap (s + 1)) = false := decide_eq_false (by rw [IntWalk.u64_in _ (by omega)]; omega)
        go_wp2_with fail
        go_quiet (first | (go_at_call 26; (with_reducible refine Calls.quiet_of_same (HZ1.out _))) | (go_at_call 26; (with_reducible refine Calls.quiet_of_same (HZ2.out _))))
        go_wp2_with fail
        go_roundw
        case rel => exact ⟨i + 1, by omega, by go_num, hbw.trans ⟨rfl, rfl, rfl, Nat.le_refl _, fun _ _ => rfl⟩⟩
        case measure => simp [intOf]; omega
    · obtain rfl : i = P.length := by omega
      have hS := keepJ hbw HT.out
      obtain ⟨c0, c1, c2, c3, c4, d0, d1, d2, hfz, hown, hQW2, hbW2⟩ := hS
      have f0 := hfz.1
      have hlt1 := hfz.2
      have hgs := grownBy_setCell' wr (w.heap.size + 1) (.int .i64 z)
      have hS3 : (wr.setCell ⟨w.heap.size + 1, 0, none⟩ (.int .i64 z)).cell? ⟨w.heap.size, 0, none⟩ = some (.int .i64 z) ∧ (wr.setCell ⟨w.heap.size + 1, 0, none⟩ (.int .i64 z)).cell? ⟨w.heap.size, 1, none⟩ = some (.int .i64 x0) ∧ (wr.setCell ⟨w.heap.size + 1, 0, none⟩ (.int .i64 z)).cell? ⟨w.heap.size, 2, none⟩ = some (.int .i64 y0) ∧ (wr.setCell ⟨w.heap.size + 1, 0, none⟩ (.int .i64 z)).cell? ⟨w.heap.size, 3, none⟩ = some (.int .i64 x1) ∧ (wr.setCell ⟨w.heap.size + 1, 0, none⟩ (.int .i64 z)).cell? ⟨w.heap.size, 4, none⟩ = some (.int .i64 y1) ∧ (wr.setCell ⟨w.heap.size + 1, 0, none⟩ (.int .i64 z)).cell? ⟨w.heap.size + 1, 0, none⟩ = some (.int .i64 z) ∧ (wr.setCell ⟨w.heap.size + 1, 0, none⟩ (.int .i64 z)).cell? ⟨w.heap.size + 1, 1, none⟩ = some (.int .i64 a) ∧ (wr.setCell ⟨w.heap.size + 1, 0, none⟩ (.int .i64 z)).cell? ⟨w.heap.size + 1, 2, none⟩ = some (.int .i64 b) ∧ FrzAt (wr.setCell ⟨w.heap.size + 1, 0, none⟩ (.int .i64 z)) (w.heap.size + 1) ∧ OwnS (wr.setCell ⟨w.heap.size + 1, 0, none⟩ (.int .i64 z)) (w.heap.size + 2) 54 (.slice al P.length cap) P ∧ QTab (wr.setCell ⟨w.heap.size + 1, 0, none⟩ (.int .i64 z)) ∧ Below w.heap.size w (wr.setCell ⟨w.heap.size + 1, 0, none⟩ (.int .i64 z)) := by
        refine ⟨?_, ?_, ?_, ?_, ?_, ?_, ?_, ?_, ?_, ?_, ?_, ?_⟩
        · simp [go_sem, c0]
        · simp [go_sem, c1]
        · simp [go_sem, c2]
        · simp [go_sem, c3]
        · simp [go_sem, c4]
        · simp [go_sem, d0]
        · simp [go_sem, d1]
        · simp [go_sem, d2]
        · exact ⟨by simp [go_sem, f0], Nat.lt_of_lt_of_le hlt1 hgs.size⟩
        · exact World.ownsRow.kept hown hgs (.inr (fun e => by have := (hown.lt _ e).1; omega))
        · exact HQ.out.below (hbW2.setCell (p := ⟨w.heap.size + 1, 0, none⟩) (by show w.heap.size ≤ w.heap.size + 1; omega) _)
        · exact hbW2.setCell (p := ⟨w.heap.size + 1, 0, none⟩) (by show w.heap.size ≤ w.heap.size + 1; omega) _
      have HS3 := Lib.hid hS3
      clear hS3 hgs hown hQW2 hbW2 hbw HT HC HC0
      go_upto_region 12 with fail
      clear c0 c1 c2 c3 c4 d0 d1 d2 f0 hfz hlt1
      generalize wr.setCell ⟨w.heap.size + 1, 0, none⟩ (.int .i64 z) = W3 at *
      obtain ⟨c0, c1, c2, c3, c4, d0, d1, d2, hfz, hown, hQW2, hbW2⟩ := HS3.out
      go_wp2_with fail
      refine (H4.out _ hQW2).mono ?_
      rintro e w4 ⟨rfl, hk⟩
      have HS4 := Lib.hid (keepJ hk HS3.out)
      clear c0 c1 c2 c3 c4 d0 d1 d2 hfz hown hQW2 hbW2 hk HS3 H4
      obtain ⟨c0, c1, c2, c3, c4, d0, d1, d2, hfz, hown, hQW2, hbW2⟩ := HS4.out
      have hS5 : (fun w' => w'.cell? ⟨w.heap.size, 0, none⟩ = some (.int .i64 z) ∧ w'.cell? ⟨w.heap.size, 1, none⟩ = some (.int .i64 x0) ∧ w'.cell? ⟨w.heap.size, 2, none⟩ = some (.int .i64 y0) ∧ w'.cell? ⟨w.heap.size, 3, none⟩ = some (.int .i64 x1) ∧ w'.cell? ⟨w.heap.size, 4, none⟩ = some (.int .i64 y1) ∧ w'.cell? ⟨w.heap.size + 1, 0, none⟩ = some (.int .i64 z) ∧ w'.cell? ⟨w.heap.size + 1, 1, none⟩ = some (.int .i64 a) ∧ w'.cell? ⟨w.heap.size + 1, 2, none⟩ = some (.int .i64 b) ∧ FrzAt w' (w.heap.size + 1) ∧ OwnS w' (w.heap.size + 2) 54 (.slice al P.length cap) P ∧ QTab w' ∧ Below w.heap.size w w') w4.drew := keepJ ((Below.refl w4.heap.size w4).drew) HS4.out
      have HS5 := Lib.hid hS5
      clear hS5 HAT HNX
      go_upto_region 13 with fail
      by_cases hG : G = 0
      · subst hG
        obtain rfl := HIN.out rfl
        go_region_held3 (fun w' => w'.cell? ⟨w.heap.size, 0, none⟩ = some (.int .i64 z) ∧ w'.cell? ⟨w.heap.size, 1, none⟩ = some (.int .i64 x0) ∧ w'.cell? ⟨w.heap.size, 2, none⟩ = some (.int .i64 y0) ∧ w'.cell? ⟨w.heap.size, 3, none⟩ = some (.int .i64 x1) ∧ w'.cell? ⟨w.heap.size, 4, none⟩ = some (.int .i64 y1) ∧ w'.cell? ⟨w.heap.size + 1, 0, none⟩ = some (.int .i64 z) ∧ w'.cell? ⟨w.heap.size + 1, 1, none⟩ = some (.int .i64 a) ∧ w'.cell? ⟨w.heap.size + 1, 2, none⟩ = some (.int .i64 b) ∧ FrzAt w' (w.heap.size + 1) ∧ OwnS w' (w.heap.size + 2) 54 (.slice al P.length cap) P ∧ QTab w' ∧ Below w.heap.size w w') (first | exact keepJ hk (by assumption) | exact HS5.out)
          (first | (go_at_call 22; refine (H5.out _ _ (OwnS.spansAt (by go_split_ands; assumption))).mono ?_; rintro e w' ⟨rfl, hk⟩) | (go_at_call 12; refine (H6.out _).mono ?_; rintro e w' ⟨rfl, hk⟩) | (go_at_call 14; refine (HA.out _ (by go_split_ands; assumption)).mono ?_; rintro e w' ⟨rfl, hk⟩))
        go_wp2_with fail
        go_ret
        refine ⟨rfl, ?_⟩
        go_split_ands
        assumption
      · have hne : (G != 0) = true := by simpa using hG
        have hQ6 : QTab w4.drew := hQW2
        have hb6 : Below w.heap.size w w4.drew := hbW2.drew
        clear c0 c1 c2 c3 c4 d0 d1 d2 hfz hown hQW2 hbW2 HS4 HS5 hG
        refine wp_region_any (by kernel_rfl) ?_
        change wpAny _ _ _ _ _ _ _ (World.drew _)
        refine wpAny_take (i := 0) (v := ?v0) rfl (by kernel_rfl) (by kernel_rfl) (by kernel_rfl) (fun _ _ _ h => h) (Or.inl ⟨by rfl, ?y0⟩) ?r0
        case y0 => intro w; go_simp; try with_reducible rfl
        try simp only [Act.put, List.setIfInBounds_toArray, List.set_cons_zero, List.set_cons_succ]
        refine wpAny_ready (rs := [1]) (by kernel_rfl) (by simp) ?_
        refine AllReady.cons rfl (fun K hK => ?_) AllReady.nil
        go_simp
        refine hK _ _ ?_
        clear hK K
        refine wpAny_take (i := 2) (v := ?v2) rfl (by kernel_rfl) (by kernel_rfl) (by kernel_rfl) (fun _ _ _ h => h) (Or.inl ⟨by rfl, ?y2⟩) ?r2
        case y2 => intro w; go_simp; try with_reducible rfl
        try simp only [Act.put, List.setIfInBounds_toArray, List.set_cons_zero, List.set_cons_succ]
        refine any_skip (i := 3) rfl (by kernel_rfl) (by kernel_rfl) (by kernel_rfl) (fun _ _ _ h => h) (by kernel_rfl) ?_
        try simp only [Act.put, List.setIfInBounds_toArray, List.set_cons_zero, List.set_cons_succ]
        refine any_skip (i := 4) rfl (by kernel_rfl) (by kernel_rfl) (by kernel_rfl) (fun _ _ _ h => h) (by kernel_rfl) ?_
        try simp only [Act.put, List.setIfInBounds_toArray, List.set_cons_zero, List.set_cons_succ]
        refine any_skip (i := 5) rfl (by kernel_rfl) (by kernel_rfl) (by kernel_rfl) (fun _ _ _ h => h) (by kernel_rfl) ?_
        try simp only [Act.put, List.setIfInBounds_toArray, List.set_cons_zero, List.set_cons_succ]
        refine any_skip (i := 6) rfl (by kernel_rfl) (by kernel_rfl) (by kernel_rfl) (fun _ _ _ h => h) (by kernel_rfl) ?_
        try simp only [Act.put, List.setIfInBounds_toArray, List.set_cons_zero, List.set_cons_succ]
        refine any_skip (i := 7) rfl (by kernel_rfl) (by kernel_rfl) (by kernel_rfl) (fun _ _ _ h => h) (by kernel_rfl) ?_
        try simp only [Act.put, List.setIfInBounds_toArray, List.set_cons_zero, List.set_cons_succ]
        refine any_skip (i := 8) rfl (by kernel_rfl) (by kernel_rfl) (by kernel_rfl) (fun _ _ _ h => h) (by kernel_rfl) ?_
        try simp only [Act.put, List.setIfInBounds_toArray, List.set_cons_zero, List.set_cons_succ]
        refine any_skip (i := 9) rfl (by kernel_rfl) (by kernel_rfl) (by kernel_rfl) (fun _ _ _ h => h) (by kernel_rfl) ?_
        try simp only [Act.put, List.setIfInBounds_toArray, List.set_cons_zero, List.set_cons_succ]
        refine wpAny_take (i := 10) (v := ?v10) rfl (by kernel_rfl) (by kernel_rfl) (by kernel_rfl) (fun _ _ _ h => h) (Or.inl ⟨by rfl, ?y10⟩) ?r10
        case y10 => intro w; go_simp; try with_reducible rfl
        try simp only [Act.put, List.setIfInBounds_toArray, List.set_cons_zero, List.set_cons_succ]
        refine wpAny_take (i := 11) (v := ?v11) rfl (by kernel_rfl) (by kernel_rfl) (by kernel_rfl) (fun _ _ _ h => h) (Or.inl ⟨by rfl, ?y11⟩) ?r11
        case y11 => intro w; go_simp; try with_reducible rfl
        try simp only [Act.put, List.setIfInBounds_toArray, List.set_cons_zero, List.set_cons_succ]
        refine wpAny_ready (rs := [12]) (by kernel_rfl) (by simp) ?_
        refine AllReady.cons rfl (fun K hK => ?_) AllReady.nil
        go_simp
        go_wp2_with (go_at_call 14; (with_reducible refine (HA.out _ hQ6).mono ?_); rintro e w5 ⟨rfl, hk⟩)
        refine wpAny_ready (rs := [13]) (by kernel_rfl) (by simp) ?_
        refine AllReady.cons rfl (fun K hK => ?_) AllReady.nil
        go_simp
        refine hK _ _ ?_
        clear hK K
        refine wpAny_ready (rs := [14]) (by kernel_rfl) (by simp) ?_
        refine AllReady.cons rfl (fun K hK => ?_) AllReady.nil
        go_simp
        refine hK _ _ ?_
        clear hK K
        refine wpAny_done (by kernel_rfl) ?_ _
        go_wp2_with fail
        go_ret
        exact ⟨rfl, hb6.trans (hk.mono hb6.size)⟩
theorem just_walk (z x0 y0 x1 y1 u a b : Int) (w : World) (hq : QTab w) : Calls Tryd.prog 5 #[.agg #[.int .i64 z, .int .i64 x0, .int .i64 y0, .int .i64 x1, .int .i64 y1], .agg #[.int .i64 u, .int .i64 a, .int .i64 b]] w fun e w' => e = .returned (.bool true) ∧ Below w.heap.size w w' := by
  rcases spans_kind z x0 y0 x1 y1 4096 with ⟨hE, hck, hL, hlen⟩ | ⟨hE, hL, hk⟩
  · refine just_in z x0 y0 x1 y1 u a b w hq hck hlen (fun w hq => ?_)
    obtain ⟨k, hk, rfl, _⟩ := ck_rect z x0 y0 x1 y1 hck
    rw [toN] at hlen ⊢
    have := spans_own k 4096 x0 y0 x1 y1 hk (by omega) (by omega) hck w hq
    rw [show spL (wayL k x0 y0 x1 y1) (4096 : Nat) = wayL k x0 y0 x1 y1 from if_neg (by omega), show spE (wayL k x0 y0 x1 y1) (4096 : Nat) = 0 from if_neg (by omega)] at this
    exact this
  · have h1 := fun w hq => spans_all z x0 y0 x1 y1 4096 (by omega) (by omega) w hq
    rw [hL] at h1
    refine just_no z x0 y0 x1 y1 u a b _ w hq hE ?_ h1
    rcases hk with ⟨h, _⟩ | ⟨h, _⟩
    · exact .inl h
    · exact .inr h
end Go.Proofs.YthlekifagidijaaDoor
