/- LeavesBack: its walk. -/
import Derived.Test.YtbkodaijigcebaaWs
import Derived.Test.YtbkodaijigcebaaUi
namespace Go.Proofs.Ytbkodaijigcebaa
open Go.RowKit
set_option maxRecDepth 20000
set_option linter.unusedVariables false
set_option linter.unusedSimpArgs false
set_option maxHeartbeats 8000000 in
theorem leavesback_law (v : Value) (l : List En) (b : Int) (w : World) (hv : EnsAt w v l) (hm : MaysN l) (b0 : -9223372036854775808 ≤ b) (b1 : b ≤ 9223372036854775807) :
    Calls Try.prog 5 #[v, .int .i64 b] w fun e w' => e = .returned (.bool true) ∧ Below w.heap.size w w' := by
  have HA := Lib.hid awake14_any
  by_cases h1 : 150 < l.length
  · have hd : (150 : Int) < (l.length : Int) := by omega
    obtain ⟨av, cv, rfl⟩ := ensAt_form hv
    go_enter Try.func5, Try.ntmps5
    go_wp2_with fail
    refine (HA.out _).mono ?_
    rintro e w1 ⟨rfl, hb⟩
    have HB := Lib.hid hb
    clear hb
    go_wp2_with fail
    go_ret
    exact ⟨rfl, HB.out⟩
  have hd1 : ¬ (150 : Int) < (l.length : Int) := by omega
  have HOW := Lib.hid (ownN_any v l w hv (by omega))
  unfold EnsEnd at HOW
  have HS := Lib.hid (fun x X (hx : EnsAt X x l) => split14_any x l b X hx hm (by omega) ⟨b0, b1⟩)
  have hF := fun h => back_facts (l := l) (b := b) hm (by omega) h
  have hBad := fun h => split_bad (l := l) (budget := b) h
  have HML := Lib.hid hm
  unfold SplEnd at HS
  generalize splitN l b = J at *
  obtain ⟨rt, tx, sz, er⟩ := J
  dsimp only at HS hF hBad
  obtain ⟨av, cv, rfl⟩ := ensAt_form hv
  clear hv
  by_cases h2 : er = 0
  · obtain ⟨f1, f2, f3, f4, f5, f6, f7, f8⟩ := hF h2
    dsimp only at f1 f2 f3 f4 f5 f6 f7 f8
    subst h2
    have HMY := Lib.hid f5
    have HENC := Lib.hid (fun x X (hx : EnsAt X x rt) => pencD_any x rt X hx f5 (by omega))
    have HJN := Lib.hid (fun x X (hx : EnsAt X x rt) => join14_any x rt tx X hx f5 (by omega) (by omega))
    unfold PieEnd at HJN
    rw [f4] at HJN
    rw [f2] at HENC
    dsimp only at HJN
    have hfit : ¬ b < ((encT rt).size : Int) := by omega
    have HLV := Lib.hid (fun x X (hx : EnsAt X x rt) => pleaves_any x rt X hx f5 (by omega))
    unfold EnsEnd at HLV
    have HEN := Lib.hid (fun x X (hx : EnsAt X x rt) => pend_any x rt X hx f5 (by omega))
    clear hF hBad f1 f2 f3 f4 f5
    generalize encT rt = se at *
    rcases f8 with ⟨rfl, rfl, g3⟩ | ⟨g1, g2, g3, g4⟩
    · rw [g3] at HLV
      generalize enN rt = en at *
      have hw0 : IntKind.u64.wrap (en * 0) = 0 := by rw [Int.mul_zero]; rfl
      clear g3
      unfold noB at *
      go_enter Try.func5, Try.ntmps5
      go_wp2_with fail
      refine HOW.out.mono ?_
      rintro e w1 ⟨v1, rfl, ho1, hb1⟩
      have HX1 := Lib.hid ho1.ensAt
      have HB1 := Lib.hid hb1
      obtain ⟨a1, c1, rfl⟩ := ensAt_form ho1.ensAt
      clear ho1 hb1
      go_wp2_with fail
      refine (HS.out _ _ HX1.out).mono ?_
      rintro e w2 ⟨v2, rfl, he2, hb2⟩
      have HX2 := Lib.hid (HX1.out.below hb2)
      have HR2 := Lib.hid he2
      have HB2 := Lib.hid (HB1.out.trans (hb2.mono HB1.out.size))
      obtain ⟨a2, c2, rfl⟩ := ensAt_form he2
      clear he2 hb2 HX1
      go_wp2_with fail
      refine (HENC.out _ _ HR2.out).mono ?_
      rintro e w3 ⟨rfl, hb3⟩
      have HX3 := Lib.hid (HX2.out.below hb3)
      have HR3 := Lib.hid (HR2.out.below hb3)
      have HB3 := Lib.hid (HB2.out.trans (hb3.mono HB2.out.size))
      clear hb3 HX2 HR2
      go_wp2_with fail
      refine (HJN.out _ _ HR3.out).mono ?_
      rintro e w4 ⟨v4, rfl, he4, hb4⟩
      have HX4 := Lib.hid (HX3.out.below hb4)
      have HR4 := Lib.hid (HR3.out.below hb4)
      have HJ4 := Lib.hid he4
      have HB4 := Lib.hid (HB3.out.trans (hb4.mono HB3.out.size))
      obtain ⟨a4, c4, rfl⟩ := ensAt_form he4
      clear he4 hb4 HX3 HR3
      go_wp2_with fail
      refine (psame_any _ _ l l _ HJ4.out HX4.out).mono ?_
      rintro e w5 ⟨rfl, hb5⟩
      rw [decide_eq_true rfl]
      have HR5 := Lib.hid (HR4.out.below hb5)
      have HB5 := Lib.hid (HB4.out.trans (hb5.mono HB4.out.size))
      clear hb5 HX4 HR4 HJ4
      go_wp2_with fail
      refine (HLV.out _ _ HR5.out).mono ?_
      rintro e w6 ⟨v6, rfl, ho6, hb6⟩
      have HR6 := Lib.hid (HR5.out.below hb6)
      have HB6 := Lib.hid (HB5.out.trans (hb6.mono HB5.out.size))
      obtain ⟨a6, c6, rfl⟩ := ensAt_form ho6.ensAt
      rw [List.length_nil]
      clear ho6 hb6 HR5
      go_wp2_with fail
      refine (HEN.out _ _ HR6.out).mono ?_
      rintro e w7 ⟨rfl, hb7⟩
      have HB7 := Lib.hid (HB6.out.trans (hb7.mono HB6.out.size))
      clear hb7 HR6
      go_wp2_with fail
      refine (HA.out _).mono ?_
      rintro e w8 ⟨rfl, hb8⟩
      have HB8 := Lib.hid (HB7.out.trans (hb8.mono HB7.out.size))
      clear hb8
      go_wp2_with fail
      go_ret
      exact ⟨rfl, HB8.out⟩
    · rw [g3] at HLV
      have hsz1 : (0 : Int) < sz := by omega
      have hsz2 : (sz == 0) = false := by rw [beq_eq_false_iff_ne]; omega
      have htx := empty_no14 g2
      have hw1 : IntKind.u64.wrap (enN rt) = (tx.size : Int) := by rw [g4, IntKind.wrap_u64]; omega
      have hw2 : IntKind.u64.wrap (tx.size : Int) = (tx.size : Int) := by rw [IntKind.wrap_u64]; omega
      generalize enN rt = en at *
      clear g3 g4 g2
      by_cases hs : 1 < sz
      · clear g1
        go_enter Try.func5, Try.ntmps5
        go_wp2_with fail
        refine HOW.out.mono ?_
        rintro e w1 ⟨v1, rfl, ho1, hb1⟩
        have HX1 := Lib.hid ho1.ensAt
        have HB1 := Lib.hid hb1
        obtain ⟨a1, c1, rfl⟩ := ensAt_form ho1.ensAt
        clear ho1 hb1
        go_wp2_with fail
        refine (HS.out _ _ HX1.out).mono ?_
        rintro e w2 ⟨v2, rfl, he2, hb2⟩
        have HX2 := Lib.hid (HX1.out.below hb2)
        have HR2 := Lib.hid he2
        have HB2 := Lib.hid (HB1.out.trans (hb2.mono HB1.out.size))
        obtain ⟨a2, c2, rfl⟩ := ensAt_form he2
        clear he2 hb2 HX1
        go_wp2_with fail
        refine (HENC.out _ _ HR2.out).mono ?_
        rintro e w3 ⟨rfl, hb3⟩
        have HX3 := Lib.hid (HX2.out.below hb3)
        have HR3 := Lib.hid (HR2.out.below hb3)
        have HB3 := Lib.hid (HB2.out.trans (hb3.mono HB2.out.size))
        clear hb3 HX2 HR2
        go_wp2_with fail
        refine (HJN.out _ _ HR3.out).mono ?_
        rintro e w4 ⟨v4, rfl, he4, hb4⟩
        have HX4 := Lib.hid (HX3.out.below hb4)
        have HR4 := Lib.hid (HR3.out.below hb4)
        have HJ4 := Lib.hid he4
        have HB4 := Lib.hid (HB3.out.trans (hb4.mono HB3.out.size))
        obtain ⟨a4, c4, rfl⟩ := ensAt_form he4
        clear he4 hb4 HX3 HR3
        go_wp2_with fail
        refine (psame_any _ _ l l _ HJ4.out HX4.out).mono ?_
        rintro e w5 ⟨rfl, hb5⟩
        rw [decide_eq_true rfl]
        have HR5 := Lib.hid (HR4.out.below hb5)
        have HB5 := Lib.hid (HB4.out.trans (hb5.mono HB4.out.size))
        clear hb5 HX4 HR4 HJ4
        go_wp2_with fail
        refine (HLV.out _ _ HR5.out).mono ?_
        rintro e w6 ⟨v6, rfl, ho6, hb6⟩
        have HR6 := Lib.hid (HR5.out.below hb6)
        have HB6 := Lib.hid (HB5.out.trans (hb6.mono HB5.out.size))
        obtain ⟨a6, c6, rfl⟩ := ensAt_form ho6.ensAt
        clear ho6 hb6 HR5
        go_wp2_with fail
        refine (HEN.out _ _ HR6.out).mono ?_
        rintro e w7 ⟨rfl, hb7⟩
        have HB7 := Lib.hid (HB6.out.trans (hb7.mono HB6.out.size))
        clear hb7 HR6
        go_wp2_with fail
        refine (HA.out _).mono ?_
        rintro e w8 ⟨rfl, hb8⟩
        have HB8 := Lib.hid (HB7.out.trans (hb8.mono HB7.out.size))
        clear hb8
        go_wp2_with fail
        go_ret
        exact ⟨rfl, HB8.out⟩
      · obtain rfl : sz = 1 := by omega
        clear g1 hs hsz1 hsz2
        go_enter Try.func5, Try.ntmps5
        go_wp2_with fail
        refine HOW.out.mono ?_
        rintro e w1 ⟨v1, rfl, ho1, hb1⟩
        have HX1 := Lib.hid ho1.ensAt
        have HB1 := Lib.hid hb1
        obtain ⟨a1, c1, rfl⟩ := ensAt_form ho1.ensAt
        clear ho1 hb1
        go_wp2_with fail
        refine (HS.out _ _ HX1.out).mono ?_
        rintro e w2 ⟨v2, rfl, he2, hb2⟩
        have HX2 := Lib.hid (HX1.out.below hb2)
        have HR2 := Lib.hid he2
        have HB2 := Lib.hid (HB1.out.trans (hb2.mono HB1.out.size))
        obtain ⟨a2, c2, rfl⟩ := ensAt_form he2
        clear he2 hb2 HX1
        go_wp2_with fail
        refine (HENC.out _ _ HR2.out).mono ?_
        rintro e w3 ⟨rfl, hb3⟩
        have HX3 := Lib.hid (HX2.out.below hb3)
        have HR3 := Lib.hid (HR2.out.below hb3)
        have HB3 := Lib.hid (HB2.out.trans (hb3.mono HB2.out.size))
        clear hb3 HX2 HR2
        go_wp2_with fail
        refine (HJN.out _ _ HR3.out).mono ?_
        rintro e w4 ⟨v4, rfl, he4, hb4⟩
        have HX4 := Lib.hid (HX3.out.below hb4)
        have HR4 := Lib.hid (HR3.out.below hb4)
        have HJ4 := Lib.hid he4
        have HB4 := Lib.hid (HB3.out.trans (hb4.mono HB3.out.size))
        obtain ⟨a4, c4, rfl⟩ := ensAt_form he4
        clear he4 hb4 HX3 HR3
        go_wp2_with fail
        refine (psame_any _ _ l l _ HJ4.out HX4.out).mono ?_
        rintro e w5 ⟨rfl, hb5⟩
        rw [decide_eq_true rfl]
        have HR5 := Lib.hid (HR4.out.below hb5)
        have HB5 := Lib.hid (HB4.out.trans (hb5.mono HB4.out.size))
        clear hb5 HX4 HR4 HJ4
        go_wp2_with fail
        refine (HLV.out _ _ HR5.out).mono ?_
        rintro e w6 ⟨v6, rfl, ho6, hb6⟩
        have HR6 := Lib.hid (HR5.out.below hb6)
        have HB6 := Lib.hid (HB5.out.trans (hb6.mono HB5.out.size))
        obtain ⟨a6, c6, rfl⟩ := ensAt_form ho6.ensAt
        clear ho6 hb6 HR5
        go_wp2_with fail
        refine (HEN.out _ _ HR6.out).mono ?_
        rintro e w7 ⟨rfl, hb7⟩
        have HB7 := Lib.hid (HB6.out.trans (hb7.mono HB6.out.size))
        clear hb7 HR6
        go_wp2_with fail
        refine (HA.out _).mono ?_
        rintro e w8 ⟨rfl, hb8⟩
        have HB8 := Lib.hid (HB7.out.trans (hb8.mono HB7.out.size))
        clear hb8
        go_wp2_with fail
        go_ret
        exact ⟨rfl, HB8.out⟩
  · obtain ⟨g1, g2, g3⟩ := hBad h2
    try dsimp only at g1 g2 g3
    subst g1
    subst g2
    subst g3
    have her : (er != 0) = true := by simpa using h2
    clear hF hBad h2
    unfold noB at *
    go_enter Try.func5, Try.ntmps5
    go_wp2_with fail
    refine HOW.out.mono ?_
    rintro e w1 ⟨v1, rfl, ho1, hb1⟩
    have HX1 := Lib.hid ho1.ensAt
    have HB1 := Lib.hid hb1
    obtain ⟨a1, c1, rfl⟩ := ensAt_form ho1.ensAt
    clear ho1 hb1
    go_wp2_with fail
    refine (HS.out _ _ HX1.out).mono ?_
    rintro e w2 ⟨v2, rfl, he2, hb2⟩
    have HB2 := Lib.hid (HB1.out.trans (hb2.mono HB1.out.size))
    obtain ⟨a2, c2, rfl⟩ := ensAt_form he2
    rw [List.length_nil]
    clear he2 hb2
    go_wp2_with fail
    refine (HA.out _).mono ?_
    rintro e w3 ⟨rfl, hb3⟩
    have HB3 := Lib.hid (HB2.out.trans (hb3.mono HB2.out.size))
    clear hb3
    go_wp2_with fail
    go_ret
    exact ⟨rfl, HB3.out⟩
end Go.Proofs.Ytbkodaijigcebaa
