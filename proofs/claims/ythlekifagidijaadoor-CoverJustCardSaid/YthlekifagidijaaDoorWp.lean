/- The walk of CoverParts: the intervals of a rectangle that is cut in two are those of both put together. -/
import Derived.Test.YthlekifagidijaaDoorWl
import Derived.BigRegion
namespace Go.Proofs.YthlekifagidijaaDoor
open Go.RowKit
set_option linter.unusedVariables false
set_option linter.unusedSimpArgs false
/-- What Spans tells at a bound that may be. -/
def spLL (z x0 y0 x1 y1 : Int) (m : Nat) : List (Int × Int) := if ckE z x0 y0 x1 y1 = 0 then spL (wayL z.toNat x0 y0 x1 y1) m else []
def spEE (z x0 y0 x1 y1 : Int) (m : Nat) : Int := if ckE z x0 y0 x1 y1 = 0 then spE (wayL z.toNat x0 y0 x1 y1) m else ckE z x0 y0 x1 y1
theorem spans_all (z x0 y0 x1 y1 : Int) (m : Nat) (m0 : 1 ≤ m) (m1 : m ≤ 4096) (w : World) (hq : QTab w) :
    Calls Tryd.prog 15 #[.agg #[.int .i64 z, .int .i64 x0, .int .i64 y0, .int .i64 x1, .int .i64 y1], .int .i64 m] w (SpEnd (spLL z x0 y0 x1 y1 m) (spEE z x0 y0 x1 y1 m) w) := by
  unfold spLL spEE
  by_cases h : ckE z x0 y0 x1 y1 = 0
  · rw [if_pos h, if_pos h]
    obtain ⟨hz, _⟩ := ck_in z x0 y0 x1 y1 h
    obtain ⟨k, hk, rfl⟩ := zoom_nat z hz
    rw [toN]
    exact spans_in k m x0 y0 x1 y1 hk m0 m1 h w hq
  · rw [if_neg h, if_neg h]
    exact spans_no z x0 y0 x1 y1 m _ (by rw [if_neg (by omega)]) h w
/-- What that is. -/
theorem spans_kind (z x0 y0 x1 y1 : Int) (m : Nat) : (spEE z x0 y0 x1 y1 m = 0 ∧ ckE z x0 y0 x1 y1 = 0 ∧ spLL z x0 y0 x1 y1 m = wayL z.toNat x0 y0 x1 y1 ∧ (wayL z.toNat x0 y0 x1 y1).length ≤ m) ∨ (spEE z x0 y0 x1 y1 m ≠ 0 ∧ spLL z x0 y0 x1 y1 m = [] ∧ ((spEE z x0 y0 x1 y1 m = 21 ∧ ckE z x0 y0 x1 y1 = 0) ∨ (spEE z x0 y0 x1 y1 m = ckE z x0 y0 x1 y1 ∧ ckE z x0 y0 x1 y1 ≠ 0))) := by
  unfold spLL spEE
  by_cases h : ckE z x0 y0 x1 y1 = 0
  · rw [if_pos h, if_pos h]
    unfold spL spE
    by_cases g : (m : Int) < (wayL z.toNat x0 y0 x1 y1).length
    · rw [if_pos g, if_pos g]
      exact .inr ⟨by omega, rfl, .inl ⟨rfl, h⟩⟩
    · rw [if_neg g, if_neg g]
      exact .inl ⟨rfl, h, rfl, by omega⟩
  · rw [if_neg h, if_neg h]
    exact .inr ⟨h, rfl, .inr ⟨rfl, h⟩⟩
theorem ck_rect (z x0 y0 x1 y1 : Int) (h : ckE z x0 y0 x1 y1 = 0) : ∃ k : Nat, k ≤ 26 ∧ z = k ∧ 0 ≤ x0 ∧ x0 ≤ x1 ∧ x1 < p2 k ∧ 0 ≤ y0 ∧ y0 ≤ y1 ∧ y1 < p2 k := by
  obtain ⟨hz, hr, _⟩ := ck_in z x0 y0 x1 y1 h
  obtain ⟨k, hk, rfl⟩ := zoom_nat z hz
  obtain ⟨r1, r2, r3, r4, r5, r6⟩ := hr
  rw [zsideV_in k hz, toN] at r3 r6
  exact ⟨k, hk, rfl, r1, r2, r3, r4, r5, r6⟩
theorem ck_of (k : Nat) (x0 y0 x1 y1 : Int) (hk : k ≤ 26) (h0 : 0 ≤ x0) (h1 : x0 ≤ x1) (h2 : x1 < p2 k) (g0 : 0 ≤ y0) (g1 : y0 ≤ y1) (g2 : y1 < p2 k) : ckE k x0 y0 x1 y1 = 0 := by
  have hz : Zoom k := by unfold Zoom; omega
  unfold ckE
  rw [if_pos hz, if_pos]
  unfold RectIn
  rw [zsideV_in k hz, toN]
  exact ⟨h0, h1, h2, g0, g1, g2⟩
/-- A rectangle cut in two. -/
theorem parts_is (z x0 y0 x1 y1 c : Int) (h : ckE z x0 y0 x1 y1 = 0) (c0 : x0 ≤ c) (c1 : c < x1) : ckE z x0 y0 c y1 = 0 ∧ ckE z (c + 1) y0 x1 y1 = 0 ∧ uni (wayL z.toNat x0 y0 c y1) (wayL z.toNat (c + 1) y0 x1 y1) = wayL z.toNat x0 y0 x1 y1 ∧ WideS (wayL z.toNat x0 y0 c y1) ∧ WideS (wayL z.toNat (c + 1) y0 x1 y1) := by
  obtain ⟨k, hk, rfl, r1, r2, r3, r4, r5, r6⟩ := ck_rect z x0 y0 x1 y1 h
  rw [toN]
  obtain ⟨a1, a2, a3⟩ := way_is k x0 y0 x1 y1 hk r1 r3 r4 r6
  obtain ⟨b1, b2, b3⟩ := way_is k x0 y0 c y1 hk r1 (by omega) r4 r6
  obtain ⟨d1, d2, d3⟩ := way_is k (c + 1) y0 x1 y1 hk (by omega) r3 r4 r6
  refine ⟨ck_of k x0 y0 c y1 hk r1 c0 (by omega) r4 r5 r6, ck_of k (c + 1) y0 x1 y1 hk (by omega) (by omega) r3 r4 r5 r6, ?_, b3, d3⟩
  refine pl_unique _ _ (union_pl _ _) a1 (fun d => ?_)
  have hu := union_mem (wayL k x0 y0 c y1) (wayL k (c + 1) y0 x1 y1) d
  unfold uni
  rw [hu, a2, b2, d2]
  unfold IdR
  constructor
  · rintro (⟨X, Y, e1, e2, e3, e4, e5⟩ | ⟨X, Y, e1, e2, e3, e4, e5⟩)
    · exact ⟨X, Y, e1, by omega, e3, e4, e5⟩
    · exact ⟨X, Y, by omega, e2, e3, e4, e5⟩
  · rintro ⟨X, Y, e1, e2, e3, e4, e5⟩
    by_cases g : X ≤ c
    · exact .inl ⟨X, Y, e1, g, e3, e4, e5⟩
    · exact .inr ⟨X, Y, by omega, e2, e3, e4, e5⟩
theorem box_set3 {w : World} {g : Nat} {z x0 y0 x1 y1 : Int} (h : Box5 w g z x0 y0 x1 y1) (c : Int) : Box5 (w.setCell ⟨g, 3, none⟩ (.int .i64 c)) g z x0 y0 c y1 := by
  obtain ⟨h0, h1, h2, h3, h4⟩ := h
  exact ⟨by simp [go_sem, h0], by simp [go_sem, h1], by simp [go_sem, h2], by simp [go_sem, h3], by simp [go_sem, h4]⟩
theorem box_set1 {w : World} {g : Nat} {z x0 y0 x1 y1 : Int} (h : Box5 w g z x0 y0 x1 y1) (c : Int) : Box5 (w.setCell ⟨g, 1, none⟩ (.int .i64 c)) g z c y0 x1 y1 := by
  obtain ⟨h0, h1, h2, h3, h4⟩ := h
  exact ⟨by simp [go_sem, h0], by simp [go_sem, h1], by simp [go_sem, h2], by simp [go_sem, h3], by simp [go_sem, h4]⟩
theorem box_off {w : World} {g g' o : Nat} {u : Value} {z x0 y0 x1 y1 : Int} (h : Box5 w g z x0 y0 x1 y1) (hne : g' ≠ g) : Box5 (w.setCell ⟨g', o, none⟩ u) g z x0 y0 x1 y1 := by
  obtain ⟨h0, h1, h2, h3, h4⟩ := h
  have hg : g ≠ g' := fun e => hne e.symm
  exact ⟨by simp [go_sem, h0, hg], by simp [go_sem, h1, hg], by simp [go_sem, h2, hg], by simp [go_sem, h3, hg], by simp [go_sem, h4, hg]⟩
theorem box_new (w : World) (z x0 y0 x1 y1 : Int) (T : TypeId) : Box5 (w.alloc (.cells #[.int .i64 z, .int .i64 x0, .int .i64 y0, .int .i64 x1, .int .i64 y1] T)) w.heap.size z x0 y0 x1 y1 :=
  ⟨by simp [go_sem], by simp [go_sem], by simp [go_sem], by simp [go_sem], by simp [go_sem]⟩
theorem way_pos (z x0 y0 x1 y1 : Int) (h : ckE z x0 y0 x1 y1 = 0) : 0 < (wayL z.toNat x0 y0 x1 y1).length := by
  obtain ⟨k, hk, rfl, r1, r2, r3, r4, r5, r6⟩ := ck_rect z x0 y0 x1 y1 h
  rw [toN]
  obtain ⟨a1, a2, a3⟩ := way_is k x0 y0 x1 y1 hk r1 r3 r4 r6
  refine Nat.pos_of_ne_zero (fun e0 => ?_)
  have e := List.eq_nil_of_length_eq_zero e0
  have := (a2 (idD k x0 y0)).2 ⟨x0, y0, Int.le_refl _, r2, Int.le_refl _, r5, rfl⟩
  rw [e] at this
  exact mem_nil _ this
set_option maxHeartbeats 4000000 in
set_option maxRecDepth 20000 in
theorem parts_out (z x0 y0 x1 y1 c : Int) (P : List (Int × Int)) (w : World) (hq : QTab w) (hpos : 0 < P.length) (hc : x1 ≤ x0 ∨ c < x0 ∨ x1 ≤ c) (h1 : ∀ w, QTab w → Calls Tryd.prog 15 #[.agg #[.int .i64 z, .int .i64 x0, .int .i64 y0, .int .i64 x1, .int .i64 y1], .int .i64 4096] w (SpEnd P 0 w)) : Calls Tryd.prog 7 #[.agg #[.int .i64 z, .int .i64 x0, .int .i64 y0, .int .i64 x1, .int .i64 y1], .int .i64 c] w fun e w' => e = .returned (.bool true) ∧ Below w.heap.size w w' := by
  have HQ := Lib.hid hq
  have HA := Lib.hid awake_any
  have H1 := Lib.hid h1
  have hp : ((P.length : Int) == 0) = false := by rw [beq_eq_false_iff_ne]; omega
  clear hq h1 hpos
  by_cases g1 : x1 ≤ x0
  · have d1 : decide (x1 ≤ x0) = true := decide_eq_true g1
    clear hc
    go_enter Tryd.func7, Tryd.ntmps7
    go_wp2_with fail
    refine (H1.out _ (HQ.out.below (by go_grown))).mono ?_
    rintro e w1 ⟨v, rfl, hv, hb⟩
    obtain ⟨al, cap, rfl, _⟩ := hv
    obtain ⟨c0, c1, c2, c3, c4, _, hb1⟩ := kept5 hb
    clear hb
    go_wp2_with fail
    refine (HA.out _ (HQ.out.below hb1)).mono ?_
    rintro e w2 ⟨rfl, hb2⟩
    replace hb1 := hb1.trans (hb2.mono hb1.size)
    clear hb2
    go_wp2_with fail
    go_ret
    exact ⟨rfl, hb1⟩
  · by_cases g2 : c < x0
    · have d1 : decide (x1 ≤ x0) = false := decide_eq_false g1
      have d2 : decide (c < x0) = true := decide_eq_true g2
      clear hc
      go_enter Tryd.func7, Tryd.ntmps7
      go_wp2_with fail
      refine (H1.out _ (HQ.out.below (by go_grown))).mono ?_
      rintro e w1 ⟨v, rfl, hv, hb⟩
      obtain ⟨al, cap, rfl, _⟩ := hv
      obtain ⟨c0, c1, c2, c3, c4, _, hb1⟩ := kept5 hb
      clear hb
      go_wp2_with fail
      refine (HA.out _ (HQ.out.below hb1)).mono ?_
      rintro e w2 ⟨rfl, hb2⟩
      replace hb1 := hb1.trans (hb2.mono hb1.size)
      clear hb2
      go_wp2_with fail
      go_ret
      exact ⟨rfl, hb1⟩
    · have d1 : decide (x1 ≤ x0) = false := decide_eq_false g1
      have d2 : decide (c < x0) = false := decide_eq_false g2
      have d3 : decide (x1 ≤ c) = true := decide_eq_true (by omega)
      clear hc
      go_enter Tryd.func7, Tryd.ntmps7
      go_wp2_with fail
      refine (H1.out _ (HQ.out.below (by go_grown))).mono ?_
      rintro e w1 ⟨v, rfl, hv, hb⟩
      obtain ⟨al, cap, rfl, _⟩ := hv
      obtain ⟨c0, c1, c2, c3, c4, _, hb1⟩ := kept5 hb
      clear hb
      go_wp2_with fail
      refine (HA.out _ (HQ.out.below hb1)).mono ?_
      rintro e w2 ⟨rfl, hb2⟩
      replace hb1 := hb1.trans (hb2.mono hb1.size)
      clear hb2
      go_wp2_with fail
      go_ret
      exact ⟨rfl, hb1⟩
set_option maxHeartbeats 4000000 in
set_option maxRecDepth 20000 in
theorem parts_in (z x0 y0 x1 y1 c : Int) (w : World) (hq : QTab w) (hck : ckE z x0 y0 x1 y1 = 0) (hlen : (wayL z.toNat x0 y0 x1 y1).length ≤ 4096) (h1 : ∀ w, QTab w → Calls Tryd.prog 15 #[.agg #[.int .i64 z, .int .i64 x0, .int .i64 y0, .int .i64 x1, .int .i64 y1], .int .i64 4096] w (SpEnd (wayL z.toNat x0 y0 x1 y1) 0 w)) (q1 : x0 < x1) (q2 : x0 ≤ c) (q3 : c < x1) : Calls Tryd.prog 7 #[.agg #[.int .i64 z, .int .i64 x0, .int .i64 y0, .int .i64 x1, .int .i64 y1], .int .i64 c] w fun e w' => e = .returned (.bool true) ∧ Below w.heap.size w w' := by
  have HQ := Lib.hid hq
  have HA := Lib.hid awake_any
  have H1 := Lib.hid h1
  obtain ⟨ka, kb, hu, wa, wb⟩ := parts_is z x0 y0 x1 y1 c hck q2 q3
  obtain ⟨_, _, r1, r2, r3, r4, r5, r6⟩ := ck_in z x0 y0 x1 y1 hck
  have H2 := Lib.hid (fun w hq => spans_all z x0 y0 c y1 4096 (by omega) (by omega) w hq)
  have H3 := Lib.hid (fun w hq => spans_all z (c + 1) y0 x1 y1 4096 (by omega) (by omega) w hq)
  have HK2 := Lib.hid (spans_kind z x0 y0 c y1 4096)
  have HK3 := Lib.hid (spans_kind z (c + 1) y0 x1 y1 4096)
  have HB := Lib.hid (fun v w h => sback_any v (wayL z.toNat x0 y0 x1 y1) w h (by omega))
  have HSm := Lib.hid (fun x y w h g => rsame_yes x y (wayL z.toNat x0 y0 x1 y1) w h g (by omega))
  have HU := Lib.hid (fun (la : (wayL z.toNat x0 y0 c y1).length ≤ 4096) (lb : (wayL z.toNat (c + 1) y0 x1 y1).length ≤ 4096) x y w h g => union_any x y (wayL z.toNat x0 y0 c y1) (wayL z.toNat (c + 1) y0 x1 y1) w h g wa wb (by omega))
  have HUU := Lib.hid hu
  have HKA := Lib.hid ka
  have HKB := Lib.hid kb
  have d1 : decide (x1 ≤ x0) = false := decide_eq_false (by omega)
  have d2 : decide (c < x0) = false := decide_eq_false (by omega)
  have d3 : decide (x1 ≤ c) = false := decide_eq_false (by omega)
  clear hq h1 hck hlen wa wb hu ka kb
  generalize wayL z.toNat x0 y0 x1 y1 = P at *
  generalize wayL z.toNat x0 y0 c y1 = A at *
  generalize wayL z.toNat (c + 1) y0 x1 y1 = B at *
  generalize spEE z x0 y0 c y1 4096 = EA at *
  generalize spEE z (c + 1) y0 x1 y1 4096 = EB at *
  generalize spLL z x0 y0 c y1 4096 = LA at *
  generalize spLL z (c + 1) y0 x1 y1 4096 = LB at *
  go_enter Tryd.func7, Tryd.ntmps7
  go_wp2_with fail
  refine (H1.out _ (HQ.out.below (by go_grown))).mono ?_
  rintro e w1 ⟨v, rfl, hv, hb⟩
  have HV := Lib.hid hv
  obtain ⟨al, cap, rfl, _⟩ := hv
  obtain ⟨c0, c1, c2, c3, c4, hz, hb1⟩ := kept5 hb
  clear hb
  go_upto_region 4 with fail
  go_cut [7, 8] (fun s7 s8 wx => ∃ g7 g8 : Nat, s7 = .pointer (some ⟨g7, 0, none⟩) ∧ s8 = .pointer (some ⟨g8, 0, none⟩) ∧ g7 ≠ g8 ∧ w1.heap.size ≤ g7 ∧ w1.heap.size ≤ g8 ∧ Box5 wx g7 z x0 y0 x1 y1 ∧ Box5 wx g8 z x0 y0 x1 y1 ∧ (∀ o, wx.frozen? ⟨g7, o, none⟩ = false) ∧ (∀ o, wx.frozen? ⟨g8, o, none⟩ = false) ∧ Below w1.heap.size w1 wx)
  case first =>
    have b1 := box_new w1 z x0 y0 x1 y1 23
    have b2 := box_new (w1.alloc (.cells #[.int .i64 z, .int .i64 x0, .int .i64 y0, .int .i64 x1, .int .i64 y1] 23)) z x0 y0 x1 y1 23
    have b3 := b1.below ((Below.refl _ (w1.alloc (.cells #[.int .i64 z, .int .i64 x0, .int .i64 y0, .int .i64 x1, .int .i64 y1] 23))).alloc (Nat.le_refl _) (.cells #[.int .i64 z, .int .i64 x0, .int .i64 y0, .int .i64 x1, .int .i64 y1] 23))
    rw [World.size_alloc] at b2
    have f1 : ∀ o, ((w1.alloc (.cells #[.int .i64 z, .int .i64 x0, .int .i64 y0, .int .i64 x1, .int .i64 y1] 23)).alloc (.cells #[.int .i64 z, .int .i64 x0, .int .i64 y0, .int .i64 x1, .int .i64 y1] 23)).frozen? ⟨w1.heap.size, o, none⟩ = false := fun o => by simp [go_sem]
    have f2 : ∀ o, ((w1.alloc (.cells #[.int .i64 z, .int .i64 x0, .int .i64 y0, .int .i64 x1, .int .i64 y1] 23)).alloc (.cells #[.int .i64 z, .int .i64 x0, .int .i64 y0, .int .i64 x1, .int .i64 y1] 23)).frozen? ⟨w1.heap.size + 1, o, none⟩ = false := fun o => by simp [go_sem]
    have hbb : Below w1.heap.size w1 ((w1.alloc (.cells #[.int .i64 z, .int .i64 x0, .int .i64 y0, .int .i64 x1, .int .i64 y1] 23)).alloc (.cells #[.int .i64 z, .int .i64 x0, .int .i64 y0, .int .i64 x1, .int .i64 y1] 23)).drew := by go_grown
    have HX := Lib.hid (And.intro b2 (And.intro b3 (And.intro f1 (And.intro f2 hbb))))
    clear b1 b2 b3 f1 f2 hbb
    go_region
    · go_wp2_with fail
      go_meet
      case rel => exact ⟨w1.heap.size, w1.heap.size + 1, rfl, rfl, by omega, by omega, by omega, HX.out.2.1, HX.out.1, HX.out.2.2.1, HX.out.2.2.2.1, HX.out.2.2.2.2⟩
    all_goals
      go_wp2_with fail
      go_meet
      case rel => exact ⟨w1.heap.size + 1, w1.heap.size, rfl, rfl, by omega, by omega, by omega, HX.out.1, HX.out.2.1, HX.out.2.2.2.1, HX.out.2.2.1, HX.out.2.2.2.2⟩
  case rest =>
    clear c0 c1 c2 c3 c4 hz
    obtain ⟨g7, g8, rfl, rfl, hne, hg7, hg8, b7, b8, f7, f8, hbw⟩ := hcut
    generalize wc = wa at *
    have HV4 := Lib.hid (HV.out.below hbw)
    have hs4 := hbw.size
    have hb4 := hb1.trans (hbw.mono hb1.size)
    have lt7 := scell_lt b7.1
    have lt8 := scell_lt b8.1
    dsimp only at lt7 lt8
    have B7 := Lib.hid (box_off (u := .int .i64 (c + 1)) (o := 1) (box_set3 b7 c) (fun e => hne e.symm))
    have B8 := Lib.hid (box_set1 (box_off (u := .int .i64 c) (o := 3) b8 hne) (c + 1))
    have hbs : Below w1.heap.size w1 ((wa.setCell ⟨g7, 3, none⟩ (.int .i64 c)).setCell ⟨g8, 1, none⟩ (.int .i64 (c + 1))) := (hbw.setCell (p := ⟨g7, 3, none⟩) hg7 _).setCell (p := ⟨g8, 1, none⟩) hg8 _
    have HV5 := Lib.hid (HV.out.below hbs)
    have hb5 := hb1.trans (hbs.mono hb1.size)
    obtain ⟨m0, m1, m2, m3, m4⟩ := b7
    obtain ⟨n0, n1, n2, n3, n4⟩ := b8
    clear hbw HV HV4 hb4 hbs hb1
    go_upto_region 6 with fail
    clear m0 m1 m2 m3 m4 n0 n1 n2 n3 n4 f7 f8 hs4 lt7 lt8
    generalize (wa.setCell ⟨g7, 3, none⟩ (.int .i64 c)).setCell ⟨g8, 1, none⟩ (.int .i64 (c + 1)) = W at *
    obtain ⟨m0, m1, m2, m3, m4⟩ := B7.out
    go_wp2_with fail
    refine (H2.out _ (HQ.out.below hb5)).mono ?_
    rintro e w2 ⟨v2, rfl, hv2, hb⟩
    have B82 := Lib.hid (B8.out.below hb)
    have HV6 := Lib.hid (HV5.out.below hb)
    have hb6 := hb5.trans (hb.mono hb5.size)
    clear m0 m1 m2 m3 m4 hb5 hb B7 B8 HV5
    obtain ⟨n0, n1, n2, n3, n4⟩ := B82.out
    go_wp2_with fail
    refine (H3.out _ (HQ.out.below hb6)).mono ?_
    rintro e w3 ⟨v3, rfl, hv3, hb⟩
    have HV7 := Lib.hid (HV6.out.below hb)
    replace hv2 := hv2.below hb
    have hb7 := hb6.trans (hb.mono hb6.size)
    clear n0 n1 n2 n3 n4 hb6 hb B82 HV6 H1 H2 H3
    rcases HK2.out with ⟨e1, e2, e3, e4⟩ | ⟨e1, e2, e3⟩
    · rcases HK3.out with ⟨i1, i2, i3, i4⟩ | ⟨i1, i2, i3⟩
      · subst e1 i1
        rw [e3] at hv2
        rw [i3] at hv3
        have HV2 := Lib.hid hv2
        have HV3 := Lib.hid hv3
        have hu := HU.out e4 i4
        rw [HUU.out] at hu
        have HU1 := Lib.hid hu
        obtain ⟨al2, cap2, rfl, _⟩ := hv2
        obtain ⟨al3, cap3, rfl, _⟩ := hv3
        clear HU hu e2 e3 e4 i2 i3 i4 HK2 HK3
        go_wp2_with fail
        refine (HU1.out _ _ _ HV2.out HV3.out).mono ?_
        rintro e w4 ⟨v4, rfl, hv4, hb⟩
        replace HV7 := Lib.hid (HV7.out.below hb)
        replace hb7 := hb7.trans (hb.mono hb7.size)
        clear hb HV2 HV3
        go_wp2_with fail
        refine (HB.out _ _ hv4).mono ?_
        rintro e w5 ⟨v5, rfl, hv5, hb⟩
        replace HV7 := Lib.hid (HV7.out.below hb)
        replace hb7 := hb7.trans (hb.mono hb7.size)
        clear hb hv4
        go_wp2_with fail
        refine (HB.out _ _ HV7.out).mono ?_
        rintro e w6 ⟨v6, rfl, hv6, hb⟩
        replace hv5 := hv5.below hb
        replace hb7 := hb7.trans (hb.mono hb7.size)
        clear hb HV7
        go_wp2_with fail
        refine (HSm.out _ _ _ hv5 hv6).mono ?_
        rintro e w7 ⟨rfl, hb⟩
        replace hb7 := hb7.trans (hb.mono hb7.size)
        clear hb hv5 hv6
        go_wp2_with fail
        refine (HA.out _ (HQ.out.below hb7)).mono ?_
        rintro e w8 ⟨rfl, hb⟩
        replace hb7 := hb7.trans (hb.mono hb7.size)
        clear hb
        go_wp2_with fail
        go_ret
        exact ⟨rfl, hb7⟩
      · obtain rfl : EB = 21 := by
          rcases i3 with ⟨h, _⟩ | ⟨_, h⟩
          · exact h
          · exact absurd HKB.out h
        subst e1
        clear e2 e3 e4 i1 i2 i3 HK2 HK3 HU
        go_wp2_with fail
        refine (HA.out _ (HQ.out.below hb7)).mono ?_
        rintro e w8 ⟨rfl, hb⟩
        replace hb7 := hb7.trans (hb.mono hb7.size)
        clear hb
        go_wp2_with fail
        go_ret
        exact ⟨rfl, hb7⟩
    · obtain rfl : EA = 21 := by
        rcases e3 with ⟨h, _⟩ | ⟨_, h⟩
        · exact h
        · exact absurd HKA.out h
      clear e1 e2 e3 HK2 HU
      have hEB : EB = 0 ∨ EB = 21 := by
        rcases HK3.out with ⟨i1, _⟩ | ⟨_, _, i3⟩
        · exact .inl i1
        · rcases i3 with ⟨h, _⟩ | ⟨_, h⟩
          · exact .inr h
          · exact absurd HKB.out h
      clear HK3
      rcases hEB with rfl | rfl
      · go_wp2_with fail
        refine (HA.out _ (HQ.out.below hb7)).mono ?_
        rintro e w8 ⟨rfl, hb⟩
        replace hb7 := hb7.trans (hb.mono hb7.size)
        clear hb
        go_wp2_with fail
        go_ret
        exact ⟨rfl, hb7⟩
      · go_wp2_with fail
        refine (HA.out _ (HQ.out.below hb7)).mono ?_
        rintro e w8 ⟨rfl, hb⟩
        replace hb7 := hb7.trans (hb.mono hb7.size)
        clear hb
        go_wp2_with fail
        go_ret
        exact ⟨rfl, hb7⟩
theorem parts_no (z x0 y0 x1 y1 c E : Int) (w : World) (hq : QTab w) (hE : E ≠ 0) (h1 : ∀ w, QTab w → Calls Tryd.prog 15 #[.agg #[.int .i64 z, .int .i64 x0, .int .i64 y0, .int .i64 x1, .int .i64 y1], .int .i64 4096] w (SpEnd [] E w)) : Calls Tryd.prog 7 #[.agg #[.int .i64 z, .int .i64 x0, .int .i64 y0, .int .i64 x1, .int .i64 y1], .int .i64 c] w fun e w' => e = .returned (.bool true) ∧ Below w.heap.size w w' := by
  have HQ := Lib.hid hq
  have HA := Lib.hid awake_any
  have hne : (E != 0) = true := by simpa using hE
  have H1 := Lib.hid h1
  clear h1 hE hq
  go_enter Tryd.func7, Tryd.ntmps7
  go_wp2_with fail
  refine (H1.out _ (HQ.out.below (by go_grown))).mono ?_
  rintro e w1 ⟨v, rfl, hv, hb⟩
  obtain ⟨al, cap, rfl, _⟩ := hv
  obtain ⟨c0, c1, c2, c3, c4, _, hb1⟩ := kept5 hb
  clear hb
  go_wp2_with fail
  refine (HA.out _ (HQ.out.below hb1)).mono ?_
  rintro e w2 ⟨rfl, hb2⟩
  replace hb1 := hb1.trans (hb2.mono hb1.size)
  clear hb2
  go_wp2_with fail
  go_ret
  exact ⟨rfl, hb1⟩
theorem parts_walk (z x0 y0 x1 y1 c : Int) (w : World) (hq : QTab w) : Calls Tryd.prog 7 #[.agg #[.int .i64 z, .int .i64 x0, .int .i64 y0, .int .i64 x1, .int .i64 y1], .int .i64 c] w fun e w' => e = .returned (.bool true) ∧ Below w.heap.size w w' := by
  have h1 := fun w hq => spans_all z x0 y0 x1 y1 4096 (by omega) (by omega) w hq
  rcases spans_kind z x0 y0 x1 y1 4096 with ⟨hE, hck, hL, hlen⟩ | ⟨hE, hL, _⟩
  · rw [hE, hL] at h1
    by_cases hc : x1 ≤ x0 ∨ c < x0 ∨ x1 ≤ c
    · exact parts_out z x0 y0 x1 y1 c _ w hq (way_pos z x0 y0 x1 y1 hck) hc h1
    · exact parts_in z x0 y0 x1 y1 c w hq hck hlen h1 (by omega) (by omega) (by omega)
  · rw [hL] at h1
    exact parts_no z x0 y0 x1 y1 c _ w hq hE h1
end Go.Proofs.YthlekifagidijaaDoor
