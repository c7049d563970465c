/- The walk of CurveQuarters: the place of a tile, by four, is the place in the zoom ahead of the one in which it lies; its four parts have its place times four, and the three behind that. -/
import Derived.Test.YtojfmlckjcehjaaDoorI
namespace Go.Proofs.YtojfmlckjcehjaaDoor
open Go.RowKit
set_option linter.unusedVariables false
theorem up_facts (z x y : Int) (he : plE z x y = 0) (h0 : 0 < z) : plE (z - 1) (x / 2) (y / 2) = 0 ∧ plD (z - 1) (x / 2) (y / 2) = plD z x y / 4 := by
  obtain ⟨hz, hin, e, b0, b1⟩ := pl_in z x y he
  obtain ⟨k, hk, rfl⟩ := zoom_nat z hz
  obtain ⟨m, rfl⟩ : ∃ m, k = m + 1 := ⟨k - 1, by omega⟩
  have hz' : Zoom (((m + 1 : Nat) : Int) - 1) := by unfold Zoom; omega
  have hm : (((m + 1 : Nat) : Int) - 1).toNat = m := by omega
  rw [toN] at hin e
  have hq := hpl_quarter m x y hin
  unfold In at hin
  have e2 : p2 (m + 1) = 2 * p2 m := rfl
  have hin' : In (((m + 1 : Nat) : Int) - 1).toNat (x / 2) (y / 2) := by rw [hm]; unfold In; omega
  obtain ⟨f1, f2⟩ := pl_tile _ _ _ hz' hin'
  rw [f1, f2, hm, e, hq]
  exact ⟨rfl, rfl⟩
theorem down_facts (z x y a b : Int) (he : plE z x y = 0) (h26 : z < 26) (ha : a = 0 ∨ a = 1) (hb : b = 0 ∨ b = 1) :
    plE (z + 1) (2 * x + a) (2 * y + b) = 0 ∧ plD (z + 1) (2 * x + a) (2 * y + b) / 4 = plD z x y ∧ 0 ≤ plD (z + 1) (2 * x + a) (2 * y + b) ∧ plD (z + 1) (2 * x + a) (2 * y + b) < 4503599627370496 := by
  obtain ⟨hz, hin, e, b0, b1⟩ := pl_in z x y he
  obtain ⟨k, hk, rfl⟩ := zoom_nat z hz
  have hz' : Zoom ((k : Int) + 1) := by unfold Zoom; omega
  have hm : ((k : Int) + 1).toNat = k + 1 := by omega
  rw [toN] at hin e
  unfold In at hin
  have e2 : p2 (k + 1) = 2 * p2 k := rfl
  have hin' : In ((k : Int) + 1).toNat (2 * x + a) (2 * y + b) := by rw [hm]; unfold In; omega
  obtain ⟨f1, f2⟩ := pl_tile _ _ _ hz' hin'
  obtain ⟨_, _, _, c0, c1⟩ := pl_in _ _ _ f2
  rw [hm] at hin' f1 c1
  have hq := hpl_quarter k _ _ hin'
  rw [show (2 * x + a) / 2 = x from by omega, show (2 * y + b) / 2 = y from by omega] at hq
  have h4 := p4_top (k + 1) (by omega)
  exact ⟨f2, by rw [f1, hq, e], c0, by omega⟩
theorem down_apart (z x y a b c d : Int) (he : plE z x y = 0) (h26 : z < 26) (ha : a = 0 ∨ a = 1) (hb : b = 0 ∨ b = 1) (hc : c = 0 ∨ c = 1) (hd : d = 0 ∨ d = 1)
    (h : plD (z + 1) (2 * x + a) (2 * y + b) % 4 = plD (z + 1) (2 * x + c) (2 * y + d) % 4) : a = c ∧ b = d := by
  obtain ⟨f1, f2, f3, f4⟩ := down_facts z x y a b he h26 ha hb
  obtain ⟨g1, g2, g3, g4⟩ := down_facts z x y c d he h26 hc hd
  obtain ⟨hz, i1, e1, _⟩ := pl_in _ _ _ f1
  obtain ⟨_, i2, e2, _⟩ := pl_in _ _ _ g1
  have : hpl (z + 1).toNat (2 * x + a) (2 * y + b) = hpl (z + 1).toNat (2 * x + c) (2 * y + d) := by rw [← e1, ← e2]; omega
  have := hpl_inj _ _ _ _ _ i1 i2 this
  omega
def orq (s q : Int) : Int := bits BinOp.or IntKind.u64 s (IntKind.u64.wrap (2 ^ q.toNat))
def seenV (q0 q1 q2 q3 : Int) : Nat → Int
  | 0 => 0
  | 1 => orq 0 q0
  | 2 => orq (orq 0 q0) q1
  | 3 => orq (orq (orq 0 q0) q1) q2
  | _ => orq (orq (orq (orq 0 q0) q1) q2) q3
theorem seen_all (q0 q1 q2 q3 : Int) (h0 : 0 ≤ q0 ∧ q0 < 4) (h1 : 0 ≤ q1 ∧ q1 < 4) (h2 : 0 ≤ q2 ∧ q2 < 4) (h3 : 0 ≤ q3 ∧ q3 < 4)
    (n1 : q0 ≠ q1) (n2 : q0 ≠ q2) (n3 : q0 ≠ q3) (n4 : q1 ≠ q2) (n5 : q1 ≠ q3) (n6 : q2 ≠ q3) : seenV q0 q1 q2 q3 4 = 15 := by
  have a0 : q0 = 0 ∨ q0 = 1 ∨ q0 = 2 ∨ q0 = 3 := by omega
  have a1 : q1 = 0 ∨ q1 = 1 ∨ q1 = 2 ∨ q1 = 3 := by omega
  have a2 : q2 = 0 ∨ q2 = 1 ∨ q2 = 2 ∨ q2 = 3 := by omega
  have a3 : q3 = 0 ∨ q3 = 1 ∨ q3 = 2 ∨ q3 = 3 := by omega
  rcases a0 with rfl | rfl | rfl | rfl <;> rcases a1 with rfl | rfl | rfl | rfl <;> first | exact absurd rfl n1 | skip
  all_goals rcases a2 with rfl | rfl | rfl | rfl <;> first | exact absurd rfl n2 | exact absurd rfl n4 | skip
  all_goals rcases a3 with rfl | rfl | rfl | rfl <;> first | exact absurd rfl n3 | exact absurd rfl n5 | exact absurd rfl n6 | decide +kernel
theorem quarters_walk (z x y : Int) (w : World) (hq : QTab w) : Calls Tryd.prog 7 #[.int .i64 z, .int .i64 x, .int .i64 y] w fun e w' => e = .returned (.bool true) ∧ Below w.heap.size w w' := by
  have H1 := Lib.hid (fun w hq => place_any z x y w hq)
  by_cases he : plE z x y = 0
  · obtain ⟨hz, hin, eD, b0, b1⟩ := pl_in z x y he
    clear eD
    have h4 := p4_top z.toNat (by unfold Zoom at hz; omega)
    have h2 := p2_top z.toNat (by unfold Zoom at hz; omega)
    unfold In at hin
    have hin0 : (0 ≤ x ∧ x < 67108864) ∧ 0 ≤ y ∧ y < 67108864 := by omega
    have hz0 : 0 ≤ z := hz.1
    have hz1 : z ≤ 26 := hz.2
    have bD : plD z x y < 4503599627370496 := by omega
    rw [he] at H1
    by_cases h26 : z < 26
    · obtain ⟨s1, s2, s3, s4⟩ := down_facts z x y 0 0 he h26 (Or.inl rfl) (Or.inl rfl)
      obtain ⟨s5, s6, s7, s8⟩ := down_facts z x y 1 0 he h26 (Or.inr rfl) (Or.inl rfl)
      obtain ⟨s9, s10, s11, s12⟩ := down_facts z x y 0 1 he h26 (Or.inl rfl) (Or.inr rfl)
      obtain ⟨s13, s14, s15, s16⟩ := down_facts z x y 1 1 he h26 (Or.inr rfl) (Or.inr rfl)
      have n1 := fun h => down_apart z x y 0 0 1 0 he h26 (Or.inl rfl) (Or.inl rfl) (Or.inr rfl) (Or.inl rfl) h
      have n2 := fun h => down_apart z x y 0 0 0 1 he h26 (Or.inl rfl) (Or.inl rfl) (Or.inl rfl) (Or.inr rfl) h
      have n3 := fun h => down_apart z x y 0 0 1 1 he h26 (Or.inl rfl) (Or.inl rfl) (Or.inr rfl) (Or.inr rfl) h
      have n4 := fun h => down_apart z x y 1 0 0 1 he h26 (Or.inr rfl) (Or.inl rfl) (Or.inl rfl) (Or.inr rfl) h
      have n5 := fun h => down_apart z x y 1 0 1 1 he h26 (Or.inr rfl) (Or.inl rfl) (Or.inr rfl) (Or.inr rfl) h
      have n6 := fun h => down_apart z x y 0 1 1 1 he h26 (Or.inl rfl) (Or.inr rfl) (Or.inr rfl) (Or.inr rfl) h
      have H00 := Lib.hid (fun w hq => place_any (z + 1) (2 * x + 0) (2 * y + 0) w hq)
      have H10 := Lib.hid (fun w hq => place_any (z + 1) (2 * x + 1) (2 * y + 0) w hq)
      have H01 := Lib.hid (fun w hq => place_any (z + 1) (2 * x + 0) (2 * y + 1) w hq)
      have H11 := Lib.hid (fun w hq => place_any (z + 1) (2 * x + 1) (2 * y + 1) w hq)
      rw [s1] at H00
      rw [s5] at H10
      rw [s9] at H01
      rw [s13] at H11
      clear s1 s5 s9 s13
      simp only [Int.add_zero] at *
      have hu := fun h => up_facts z x y he h
      have HU := Lib.hid (fun w hq => place_any (z - 1) (x / 2) (y / 2) w hq)
      generalize hP0 : plD (z + 1) (2 * x) (2 * y) = P0 at *
      generalize hP1 : plD (z + 1) (2 * x + 1) (2 * y) = P1 at *
      generalize hP2 : plD (z + 1) (2 * x) (2 * y + 1) = P2 at *
      generalize hP3 : plD (z + 1) (2 * x + 1) (2 * y + 1) = P3 at *
      clear hP0 hP1 hP2 hP3
      obtain ⟨q0, hq0⟩ : ∃ q, P0 % 4 = q := ⟨_, rfl⟩
      obtain ⟨q1, hq1⟩ : ∃ q, P1 % 4 = q := ⟨_, rfl⟩
      obtain ⟨q2, hq2⟩ : ∃ q, P2 % 4 = q := ⟨_, rfl⟩
      obtain ⟨q3, hq3⟩ : ∃ q, P3 % 4 = q := ⟨_, rfl⟩
      have hall : seenV q0 q1 q2 q3 4 = 15 := by
        apply seen_all
        · omega
        · omega
        · omega
        · omega
        · intro h; have := n1 (by omega); omega
        · intro h; have := n2 (by omega); omega
        · intro h; have := n3 (by omega); omega
        · intro h; have := n4 (by omega); omega
        · intro h; have := n5 (by omega); omega
        · intro h; have := n6 (by omega); omega
      have r0 : 0 ≤ q0 ∧ q0 < 4 := by omega
      have r1 : 0 ≤ q1 ∧ q1 < 4 := by omega
      have r2 : 0 ≤ q2 ∧ q2 < 4 := by omega
      have r3 : 0 ≤ q3 ∧ q3 < 4 := by omega
      have HA := Lib.hid hall
      clear n1 n2 n3 n4 n5 n6 hall
      by_cases h0 : 0 < z
      · obtain ⟨u1, u2⟩ := hu h0
        rw [u1, u2] at HU
        clear u1 u2 hu he
        generalize plD z x y = D at *
        go_enter Tryd.func7, Tryd.ntmps7
        go_wp2_with fail
        refine (H1.out w hq).mono ?_
        rintro e w1 ⟨rfl, hb⟩
        go_wp2_with fail
        refine (HU.out w1 (hq.below hb)).mono ?_
        rintro e w2 ⟨rfl, hb2⟩
        replace hb := hb.trans (hb2.mono hb.size)
        clear hb2
        go_wp2_with fail
        go_loopw [11, 12] (fun s i wr => ∃ k : Nat, k ≤ 4 ∧ i = .int .i64 k ∧ s = .int .u64 (seenV q0 q1 q2 q3 k) ∧ Below w.heap.size w wr) (fun s i _ => 4 - (intOf i).toNat)
        case atStart => exact ⟨0, by omega, rfl, rfl, hb⟩
        case round =>
          clear hb
          obtain ⟨k, hk, rfl, rfl, hbw⟩ := hrel
          have hQ := Lib.hid (hq.below hbw)
          have hk5 : k = 0 ∨ k = 1 ∨ k = 2 ∨ k = 3 ∨ k = 4 := by omega
          rcases hk5 with rfl | rfl | rfl | rfl | rfl
          · go_wp2_with fail
            refine (H00.out wr hQ.out).mono ?_
            rintro e w2 ⟨rfl, hb2⟩
            replace hbw := hbw.trans (hb2.mono hbw.size)
            clear hb2
            go_wp2_with fail
            exact ⟨⟨1, by omega, rfl, rfl, hbw⟩, by decide⟩
          · go_wp2_with fail
            refine (H10.out wr hQ.out).mono ?_
            rintro e w2 ⟨rfl, hb2⟩
            replace hbw := hbw.trans (hb2.mono hbw.size)
            clear hb2
            go_wp2_with fail
            exact ⟨⟨2, by omega, rfl, rfl, hbw⟩, by decide⟩
          · go_wp2_with fail
            refine (H01.out wr hQ.out).mono ?_
            rintro e w2 ⟨rfl, hb2⟩
            replace hbw := hbw.trans (hb2.mono hbw.size)
            clear hb2
            go_wp2_with fail
            exact ⟨⟨3, by omega, rfl, rfl, hbw⟩, by decide⟩
          · go_wp2_with fail
            refine (H11.out wr hQ.out).mono ?_
            rintro e w2 ⟨rfl, hb2⟩
            replace hbw := hbw.trans (hb2.mono hbw.size)
            clear hb2
            go_wp2_with fail
            exact ⟨⟨4, by omega, rfl, rfl, hbw⟩, by decide⟩
          · rw [HA.out]
            go_wp2_with fail
            refine (awake_any wr hQ.out).mono ?_
            rintro e w4 ⟨rfl, hb2⟩
            replace hbw := hbw.trans (hb2.mono hbw.size)
            clear hb2
            go_wp2_with fail
            go_ret
            exact ⟨rfl, hbw⟩
      · clear hu HU he
        generalize plD z x y = D at *
        go_enter Tryd.func7, Tryd.ntmps7
        go_wp2_with fail
        refine (H1.out w hq).mono ?_
        rintro e w1 ⟨rfl, hb⟩
        go_wp2_with fail
        go_loopw [11, 12] (fun s i wr => ∃ k : Nat, k ≤ 4 ∧ i = .int .i64 k ∧ s = .int .u64 (seenV q0 q1 q2 q3 k) ∧ Below w.heap.size w wr) (fun s i _ => 4 - (intOf i).toNat)
        case atStart => exact ⟨0, by omega, rfl, rfl, hb⟩
        case round =>
          clear hb
          obtain ⟨k, hk, rfl, rfl, hbw⟩ := hrel
          have hQ := Lib.hid (hq.below hbw)
          have hk5 : k = 0 ∨ k = 1 ∨ k = 2 ∨ k = 3 ∨ k = 4 := by omega
          rcases hk5 with rfl | rfl | rfl | rfl | rfl
          · go_wp2_with fail
            refine (H00.out wr hQ.out).mono ?_
            rintro e w2 ⟨rfl, hb2⟩
            replace hbw := hbw.trans (hb2.mono hbw.size)
            clear hb2
            go_wp2_with fail
            exact ⟨⟨1, by omega, rfl, rfl, hbw⟩, by decide⟩
          · go_wp2_with fail
            refine (H10.out wr hQ.out).mono ?_
            rintro e w2 ⟨rfl, hb2⟩
            replace hbw := hbw.trans (hb2.mono hbw.size)
            clear hb2
            go_wp2_with fail
            exact ⟨⟨2, by omega, rfl, rfl, hbw⟩, by decide⟩
          · go_wp2_with fail
            refine (H01.out wr hQ.out).mono ?_
            rintro e w2 ⟨rfl, hb2⟩
            replace hbw := hbw.trans (hb2.mono hbw.size)
            clear hb2
            go_wp2_with fail
            exact ⟨⟨3, by omega, rfl, rfl, hbw⟩, by decide⟩
          · go_wp2_with fail
            refine (H11.out wr hQ.out).mono ?_
            rintro e w2 ⟨rfl, hb2⟩
            replace hbw := hbw.trans (hb2.mono hbw.size)
            clear hb2
            go_wp2_with fail
            exact ⟨⟨4, by omega, rfl, rfl, hbw⟩, by decide⟩
          · rw [HA.out]
            go_wp2_with fail
            refine (awake_any wr hQ.out).mono ?_
            rintro e w4 ⟨rfl, hb2⟩
            replace hbw := hbw.trans (hb2.mono hbw.size)
            clear hb2
            go_wp2_with fail
            go_ret
            exact ⟨rfl, hbw⟩
    · obtain rfl : z = 26 := by omega
      clear h4 h2 hin b1
      obtain ⟨u1, u2⟩ := up_facts 26 x y he (by omega)
      simp only [show (26 : Int) - 1 = 25 from rfl] at u1 u2
      have HU := Lib.hid (fun w hq => place_any 25 (x / 2) (y / 2) w hq)
      rw [u1, u2] at HU
      clear u1 u2
      have hx2 : 0 ≤ x ∧ x < 67108864 := hin0.1
      have hy2 : 0 ≤ y ∧ y < 67108864 := hin0.2
      clear he hin0
      generalize plD 26 x y = D at *
      go_enter Tryd.func7, Tryd.ntmps7
      go_wp2_with fail
      refine (H1.out w hq).mono ?_
      rintro e w1 ⟨rfl, hb⟩
      go_wp2_with fail
      refine (HU.out w1 (hq.below hb)).mono ?_
      rintro e w2 ⟨rfl, hb2⟩
      replace hb := hb.trans (hb2.mono hb.size)
      clear hb2
      go_wp2_with fail
      go_loopw [11, 12] (fun s i wr => s = .int .u64 0 ∧ i = .int .i64 0 ∧ Below w.heap.size w wr) (fun s i _ => 4 - (intOf i).toNat)
      case atStart => exact ⟨rfl, rfl, hb⟩
      case round =>
        clear hb
        obtain ⟨rfl, rfl, hbw⟩ := hrel
        have hQ := Lib.hid (hq.below hbw)
        go_wp2_with fail
        refine (awake_any wr hQ.out).mono ?_
        rintro e w4 ⟨rfl, hb2⟩
        replace hbw := hbw.trans (hb2.mono hbw.size)
        clear hb2
        go_wp2_with fail
        go_ret
        exact ⟨rfl, hbw⟩
  · obtain ⟨e1, _⟩ := pl_no z x y he
    rw [e1] at H1
    clear e1
    generalize plE z x y = E at *
    go_enter Tryd.func7, Tryd.ntmps7
    go_wp2_with fail
    refine (H1.out w hq).mono ?_
    rintro e w1 ⟨rfl, hb⟩
    go_wp2_with fail
    refine (awake_any w1 (hq.below hb)).mono ?_
    rintro e w4 ⟨rfl, hb2⟩
    replace hb := hb.trans (hb2.mono hb.size)
    clear hb2
    go_wp2_with fail
    go_ret
    exact ⟨rfl, hb⟩
end Go.Proofs.YtojfmlckjcehjaaDoor
