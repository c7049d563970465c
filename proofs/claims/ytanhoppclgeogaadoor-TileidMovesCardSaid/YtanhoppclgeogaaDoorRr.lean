/- The contract of the document's Range: of the corners of what a tile is over, each zoom's from the one ahead. -/
import Derived.Test.YtanhoppclgeogaaDoorRe
namespace Go.Proofs.YtanhoppclgeogaaDoor
open Go.RowKit
set_option linter.unusedVariables false
set_option linter.unusedSimpArgs false
/-- A corner, j zooms on. -/
def Corner (k : Nat) (P : Int) (j : Nat) (X Y : Int) : Prop := In (k + j) X Y ∧ hpl (k + j) X Y = P
theorem corner_next (k j : Nat) (P X Y i : Int) (h : Corner k P j X Y) (i0 : 0 ≤ i) (i1 : i < 4) : Corner k (4 * P + i) (j + 1) (kidT (k + j) X Y i).2.1 (kidT (k + j) X Y i).2.2 := by
  obtain ⟨h1, h2⟩ := h
  obtain ⟨g1, g2, _⟩ := kid_facts (k + j) X Y i h1 i0 i1
  refine ⟨g1, ?_⟩
  rw [← h2]; exact g2
def RgRel (k n : Nat) (M : Int) (g1 g2 : Nat) (w wr : World) : Prop :=
  ∃ (j : Nat) (X1 Y1 X2 Y2 : Int), j ≤ n ∧ Corner k (M * p4 j) j X1 Y1 ∧ Corner k (M * p4 j + p4 j - 1) j X2 Y2 ∧ Spot wr g1 ((k : Int) + j) X1 Y1 ∧ Spot wr g2 ((k : Int) + j) X2 Y2 ∧ g1 < wr.heap.size ∧ g2 < wr.heap.size ∧ Below w.heap.size w wr
theorem Spot.drew {w : World} {h : Nat} {z x y : Int} (s : Spot w h z x y) : Spot w.drew h z x y := s
theorem two_new (w : World) (z x y : Int) (S T : TypeId) : Spot ((w.alloc (.cells #[.int .i64 z, .int .i64 x, .int .i64 y] S)).alloc (.cells #[.int .i64 z, .int .i64 x, .int .i64 y] T)).drew w.heap.size z x y ∧ Spot ((w.alloc (.cells #[.int .i64 z, .int .i64 x, .int .i64 y] S)).alloc (.cells #[.int .i64 z, .int .i64 x, .int .i64 y] T)).drew (w.heap.size + 1) z x y := by
  have s1 := spot_old (spot_new w z x y S) (by simp) (.cells #[.int .i64 z, .int .i64 x, .int .i64 y] T)
  have s2 := spot_new (w.alloc (.cells #[.int .i64 z, .int .i64 x, .int .i64 y] S)) z x y T
  rw [World.size_alloc] at s2
  exact ⟨s1, s2⟩
set_option maxHeartbeats 2000000 in
set_option maxRecDepth 20000 in
theorem rrange_in (k n : Nat) (x y : Int) (hk : k + n ≤ 26) (h : In k x y) (w : World) : Calls Tryd.prog 22 #[.agg #[.int .i64 k, .int .i64 x, .int .i64 y], .int .i64 ((k : Int) + n)] w fun e w' => e = .returned (.tuple #[.int .u64 (bas (k + n) + hpl k x y * p4 n), .int .u64 (bas (k + n) + hpl k x y * p4 n + p4 n - 1), .int .i64 0]) ∧ Below w.heap.size w w' := by
  have e := (pl_of k (by omega) x y h).1
  have h0 := fun w => rid_any k x y w
  rw [e] at h0
  have HD : Hid (∀ (j : Nat) (X Y P : Int), j < n → Corner k P j X Y → ∀ w, Calls Tryd.prog 20 #[.agg #[.int .i64 ((k : Int) + j), .int .i64 X, .int .i64 Y]] w (DownEnd [kidT (k + j) X Y 0, kidT (k + j) X Y 1, kidT (k + j) X Y 2, kidT (k + j) X Y 3] 0 w)) := Lib.hid (fun j X Y P hj hc w => by
    have := rdown_in (k + j) X Y (by omega) hc.1 w
    rw [show ((k + j : Nat) : Int) = (k : Int) + j from by omega] at this
    exact this)
  have HI : Hid (∀ (X Y P : Int), Corner k P n X Y → ∀ w, Calls Tryd.prog 9 #[.agg #[.int .i64 ((k : Int) + n), .int .i64 X, .int .i64 Y]] w fun e w' => e = .returned (.tuple #[.int .u64 (bas (k + n) + P), .int .i64 0]) ∧ Below w.heap.size w w') := Lib.hid (fun X Y P hc w => by
    have := rid_any ((k + n : Nat) : Int) X Y w
    rw [(pl_of (k + n) hk X Y hc.1).1, id_of (k + n) hk X Y hc.1, hc.2] at this
    rw [show ((k + n : Nat) : Int) = (k : Int) + n from by omega] at this
    exact this)
  have HC : Hid (Corner k (hpl k x y * p4 0) 0 x y) := Lib.hid ⟨h, by rw [show p4 0 = 1 from rfl]; show hpl k x y = _; omega⟩
  have HC2 : Hid (Corner k (hpl k x y * p4 0 + p4 0 - 1) 0 x y) := Lib.hid ⟨h, by rw [show p4 0 = 1 from rfl]; show hpl k x y = _; omega⟩
  have HKF := Lib.hid (fun j => kid_first k x y j)
  clear h e
  generalize idD k x y = D at *
  generalize hpl k x y = M at *
  have H0 := Lib.hid h0
  clear h0
  have g1 : decide ((k : Int) + n < (k : Int)) = false := decide_eq_false (by omega)
  have g2 : decide (26 < (k : Int) + n) = false := decide_eq_false (by omega)
  go_enter Tryd.func22, Tryd.ntmps22
  go_wp2_with fail
  refine (H0.out _).mono ?_
  rintro e w1 ⟨rfl, hb⟩
  obtain ⟨hs, hb1, c0, c1, c2, f⟩ := kept3 hb
  clear hb H0
  go_upto_region 6 with fail
  go_cut [9, 10] (fun p q wx => ∃ a b : Nat, p = .pointer (some ⟨a, 0, none⟩) ∧ q = .pointer (some ⟨b, 0, none⟩) ∧ a ≠ b ∧ w.heap.size ≤ a ∧ w.heap.size ≤ b ∧ a < wx.heap.size ∧ b < wx.heap.size ∧ Spot wx a k x y ∧ Spot wx b k x y ∧ Below w.heap.size w wx)
  case first =>
    go_region
    all_goals
      go_wp2_with fail
      go_meet
      case rel =>
        first
          | exact ⟨w1.heap.size, w1.heap.size + 1, rfl, rfl, by omega, by omega, by omega, by simp; omega, by simp, (two_new w1 k x y _ _).1, (two_new w1 k x y _ _).2, by go_grown⟩
          | exact ⟨w1.heap.size + 1, w1.heap.size, rfl, rfl, by omega, by omega, by omega, by simp, by simp; omega, (two_new w1 k x y _ _).2, (two_new w1 k x y _ _).1, by go_grown⟩
  case rest =>
    obtain ⟨a, b, rfl, rfl, hne, ha, hb, ha2, hb2, s1, s2, hbw⟩ := hcut
    clear c0 c1 c2 f hs hb1
    generalize wc = wa at *
    have hst : RgRel k n M a b w wa := ⟨0, x, y, x, y, Nat.zero_le _, HC.out, HC2.out, by rw [show (k : Int) + ((0 : Nat) : Int) = k from by omega]; exact s1, by rw [show (k : Int) + ((0 : Nat) : Int) = k from by omega]; exact s2, ha2, hb2, hbw⟩
    have hne' : b ≠ a := fun e => hne e.symm
    clear HC HC2 s1 s2 ha2 hb2 hbw
    have HST := Lib.hid hst
    clear hst
    go_wp2_with fail
    go_loopw [] (fun wr => RgRel k n M a b w wr) (fun wr => ((k : Int) + n - zAt wr a).toNat)
    case atStart => exact HST.out
    case round =>
      clear HST
      obtain ⟨j, X1, Y1, X2, Y2, hj, hc1, hc2, s1, s2, ha2, hb2, hbw⟩ := hrel
      have HZA := Lib.hid (zAt_spot s1)
      have S1 := Lib.hid s1
      have S2 := Lib.hid s2
      have K1 := Lib.hid hc1
      have K2 := Lib.hid hc2
      clear hc1 hc2
      obtain ⟨c0, c1, c2, f⟩ := s1
      obtain ⟨d0, d1, d2, g⟩ := s2
      by_cases hlt : j < n
      · have HD1 := Lib.hid (HD.out j X1 Y1 _ hlt K1.out)
        have HD2 := Lib.hid (HD.out j X2 Y2 _ hlt K2.out)
        have hjn : (k : Int) + j < (k : Int) + n := by omega
        go_wp2_with fail
        refine (HD1.out _).mono ?_
        rintro e w3 ⟨v1, rfl, hv1, hb3⟩
        have hz3 := hb3.size
        have S1' := Lib.hid (S1.out.below hb3 ha2)
        have S2' := S2.out.below hb3 hb2
        have hbw3 := hbw.trans (hb3.mono hbw.size)
        have S2'' := Lib.hid S2'
        obtain ⟨g1', o1, cp1, rfl, hcl1⟩ := hv1.form (by show 0 < 4; omega)
        obtain ⟨l0, l1, l2⟩ := hcl1 0 _ rfl
        simp only [List.length_cons, List.length_nil, Nat.reduceAdd, Nat.zero_add, Nat.zero_mul, Nat.add_zero] at l0 l1 l2 ⊢
        clear hv1 hcl1 c0 c1 c2 f d0 d1 d2 g S1 S2 hb3 hbw HD1
        obtain ⟨d0, d1, d2, g⟩ := S2'
        go_wp2_with fail
        refine (HD2.out _).mono ?_
        rintro e w4 ⟨v2, rfl, hv2, hb4⟩
        have hz4 := hb4.size
        have T1 := S1'.out.below hb4 (by omega)
        have T2 := S2''.out.below hb4 (by omega)
        have hbw4 := hbw3.trans (hb4.mono hbw3.size)
        replace l0 := cell_later hb4 l0
        replace l1 := cell_later hb4 l1
        replace l2 := cell_later hb4 l2
        obtain ⟨g2', o2, cp2, rfl, hcl2⟩ := hv2.form (by show 0 < 4; omega)
        obtain ⟨m0, m1, m2⟩ := hcl2 3 _ rfl
        simp only [List.length_cons, List.length_nil, Nat.reduceAdd, Nat.zero_add, Nat.reduceMul] at m0 m1 m2 ⊢
        have N1 := Lib.hid (corner_next k j _ X1 Y1 0 K1.out (by omega) (by omega))
        have N2 := Lib.hid (corner_next k j _ X2 Y2 3 K2.out (by omega) (by omega))
        have hz1 : (kidT (k + j) X1 Y1 0).1 = (k : Int) + j + 1 := by show ((k + j : Nat) : Int) + 1 = _; omega
        have hz2 : (kidT (k + j) X2 Y2 3).1 = (k : Int) + j + 1 := by show ((k + j : Nat) : Int) + 1 = _; omega
        rw [hz1] at l0
        rw [hz2] at m0
        clear hv2 hcl2 d0 d1 d2 g S1' S2'' hb4 hbw3 HD2 hz1 hz2 K1 K2
        generalize (kidT (k + j) X1 Y1 0).2.1 = p1 at *
        generalize (kidT (k + j) X1 Y1 0).2.2 = q1 at *
        generalize (kidT (k + j) X2 Y2 3).2.1 = p2 at *
        generalize (kidT (k + j) X2 Y2 3).2.2 = q2 at *
        have TT1 := Lib.hid T1
        have TT2 := Lib.hid T2
        obtain ⟨c0, c1, c2, f⟩ := T1
        obtain ⟨d0, d1, d2, g⟩ := T2
        go_wp2_with fail
        go_region
        all_goals
          go_wp2_with fail
          have U1 := spot_set (z' := (k : Int) + j + 1) (x' := p1) (y' := q1) TT1.out
          have U2 := spot_off (g := a) (z' := (k : Int) + j + 1) (x' := p1) (y' := q1) TT2.out hne
          have V1 := spot_off (g := b) (z' := (k : Int) + j + 1) (x' := p2) (y' := q2) U1 hne'
          have V2 := spot_set (z' := (k : Int) + j + 1) (x' := p2) (y' := q2) U2
          have hbx := below_set3 (below_set3 hbw4 ha (.int .i64 ((k : Int) + j + 1)) (.int .i64 p1) (.int .i64 q1)) hb (.int .i64 ((k : Int) + j + 1)) (.int .i64 p2) (.int .i64 q2)
          have n1 := N1.out
          have n2 := N2.out
          rw [Int.add_zero, (HKF.out j).1] at n1
          rw [(HKF.out j).2] at n2
          have hj1 : (k : Int) + j + 1 = (k : Int) + ((j + 1 : Nat) : Int) := by omega
          refine ⟨⟨j + 1, p1, q1, p2, q2, by omega, n1, n2, by rw [← hj1]; exact V1.drew, by rw [← hj1]; exact V2.drew, by simp only [World.size_drew, World.size_setCell]; omega, by simp only [World.size_drew, World.size_setCell]; omega, hbx.drew⟩, ?_⟩
          have hz := zAt_spot V1.drew
          rw [HZA.out, hz]
          omega
      · obtain rfl : j = n := by omega
        have HI1 := Lib.hid (HI.out X1 Y1 _ K1.out)
        have HI2 := Lib.hid (HI.out X2 Y2 _ K2.out)
        clear HI HD K1 K2 HZA
        have heq : bas (k + j) + (M * p4 j + p4 j - 1) = bas (k + j) + M * p4 j + p4 j - 1 := by omega
        rw [heq] at HI2
        clear heq
        go_wp2_with fail
        refine (HI1.out _).mono ?_
        rintro e w3 ⟨rfl, hb3⟩
        have S2' := S2.out.below hb3 hb2
        have hbw3 := hbw.trans (hb3.mono hbw.size)
        clear c0 c1 c2 f d0 d1 d2 g S1 S2 hb3 hbw HI1
        obtain ⟨d0, d1, d2, g⟩ := S2'
        go_wp2_with fail
        refine (HI2.out _).mono ?_
        rintro e w4 ⟨rfl, hb4⟩
        have hbw4 := hbw3.trans (hb4.mono hbw3.size)
        go_wp2_with fail
        go_ret3
        exact ⟨rfl, hbw4⟩
theorem rrange_no (z x y u : Int) (h : rgE z x y u ≠ 0) (w : World) : Calls Tryd.prog 22 #[.agg #[.int .i64 z, .int .i64 x, .int .i64 y], .int .i64 u] w fun e w' => e = .returned (.tuple #[.int .u64 0, .int .u64 0, .int .i64 (rgE z x y u)]) ∧ Below w.heap.size w w' := by
  have h0 := fun w => rid_any z x y w
  generalize idD z x y = D at *
  by_cases he : plE z x y = 0
  · have hu : u < z ∨ 26 < u := by
      by_cases h' : u < z ∨ 26 < u
      · exact h'
      · exact absurd (by unfold rgE; rw [if_pos he, if_neg h']) h
    rw [show rgE z x y u = 8 from by unfold rgE; rw [if_pos he, if_pos hu]]
    rw [he] at h0
    have H0 := Lib.hid h0
    clear h0 h he
    by_cases hu1 : u < z
    · clear hu
      go_enter Tryd.func22, Tryd.ntmps22
      go_wp2_with fail
      refine (H0.out _).mono ?_
      rintro e w1 ⟨rfl, hb⟩
      obtain ⟨hs, hb1, c0, c1, c2, f⟩ := kept3 hb
      clear hb
      go_wp2_with fail
      go_ret3
      exact ⟨rfl, hb1⟩
    · have hu2 : 26 < u := by omega
      clear hu
      go_enter Tryd.func22, Tryd.ntmps22
      go_wp2_with fail
      refine (H0.out _).mono ?_
      rintro e w1 ⟨rfl, hb⟩
      obtain ⟨hs, hb1, c0, c1, c2, f⟩ := kept3 hb
      clear hb
      go_wp2_with fail
      go_ret3
      exact ⟨rfl, hb1⟩
  · rw [show rgE z x y u = plE z x y from if_neg he]
    have hne : (plE z x y != 0) = true := by simpa using he
    have H0 := Lib.hid h0
    clear h0 h
    generalize plE z x y = E at *
    go_enter Tryd.func22, Tryd.ntmps22
    go_wp2_with fail
    refine (H0.out _).mono ?_
    rintro e w1 ⟨rfl, hb⟩
    obtain ⟨hs, hb1, c0, c1, c2, f⟩ := kept3 hb
    clear hb
    go_wp2_with fail
    go_ret3
    exact ⟨rfl, hb1⟩
theorem rrange_any (z x y u : Int) (w : World) : Calls Tryd.prog 22 #[.agg #[.int .i64 z, .int .i64 x, .int .i64 y], .int .i64 u] w fun e w' => e = .returned (.tuple #[.int .u64 (rgF z x y u), .int .u64 (rgT z x y u), .int .i64 (rgE z x y u)]) ∧ Below w.heap.size w w' := by
  by_cases h : rgE z x y u = 0
  · obtain ⟨k, n, hkn, rfl, rfl, hin, _, hf, ht, _⟩ := rg_in z x y u h
    rw [hf, ht, h]
    have := rrange_in k n x y hkn hin w
    rw [show ((k + n : Nat) : Int) = (k : Int) + n from by omega]
    exact this
  · have := rrange_no z x y u h w
    rw [show rgF z x y u = 0 from if_neg h, show rgT z x y u = 0 from if_neg h]
    exact this
end Go.Proofs.YtanhoppclgeogaaDoor
