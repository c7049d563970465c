/- LeavesFind: its walk. -/
import Derived.Test.YtbkodaijigcebaaWb
namespace Go.Proofs.Ytbkodaijigcebaa
open Go.RowKit
set_option maxRecDepth 100000
set_option linter.unusedVariables false
set_option linter.unusedSimpArgs false
set_option maxHeartbeats 8000000 in
theorem leavesfind_law (v : Value) (l : List En) (b q : Int) (w : World) (hv : EnsAt w v l) (hm : MaysN l) (b0 : -9223372036854775808 ≤ b) (b1 : b ≤ 9223372036854775807) (q0 : 0 ≤ q) (q1 : q ≤ 18446744073709551615) :
    Calls Try.prog 6 #[v, .int .i64 b, .int .u64 q] w fun e w' => e = .returned (.bool true) ∧ Below w.heap.size w w' := by
  have HA := Lib.hid awake14_any
  by_cases h1 : 150 < l.length
  · have hd : (150 : Int) < (l.length : Int) := by omega
    obtain ⟨av, cv, rfl⟩ := ensAt_form hv
    go_enter Try.func6, Try.ntmps6
    go_wp2_with fail
    refine (HA.out _).mono ?_
    rintro e w1 ⟨rfl, hb⟩
    have HB := Lib.hid hb
    clear hb
    go_wp2_with fail
    go_ret
    exact ⟨rfl, HB.out⟩
  have hd1 : ¬ (150 : Int) < (l.length : Int) := by omega
  have HOW := Lib.hid (ownN_any v l w hv (by omega))
  unfold EnsEnd at HOW
  have HS := Lib.hid (fun x X (hx : EnsAt X x l) => split14_any x l b X hx hm (by omega) ⟨b0, b1⟩)
  have hF := fun h => back_facts (l := l) (b := b) hm (by omega) h
  have hG := fun h h0 => find_facts (l := l) (b := b) hm (by omega) h h0 q
  have HFL := Lib.hid (fun x X (hx : EnsAt X x l) => pfind_any x l q X hx hm (by omega) q0 q1)
  unfold SplEnd at HS
  generalize splitN l b = J at *
  obtain ⟨rt, tx, sz, er⟩ := J
  dsimp only at HS hF hG
  obtain ⟨av, cv, rfl⟩ := ensAt_form hv
  clear hv
  by_cases h2 : er = 0
  · by_cases h3 : sz = 0
    · subst h2
      subst h3
      clear hF hG
      go_enter Try.func6, Try.ntmps6
      go_wp2_with fail
      refine HOW.out.mono ?_
      rintro e w1 ⟨v1, rfl, ho1, hb1⟩
      have HX1 := Lib.hid ho1.ensAt
      have HB1 := Lib.hid hb1
      obtain ⟨a1, c1, rfl⟩ := ensAt_form ho1.ensAt
      clear ho1 hb1
      go_wp2_with fail
      refine (HS.out _ _ HX1.out).mono ?_
      rintro e w2 ⟨v2, rfl, he2, hb2⟩
      have HB2 := Lib.hid (HB1.out.trans (hb2.mono HB1.out.size))
      obtain ⟨a2, c2, rfl⟩ := ensAt_form he2
      clear he2 hb2
      go_wp2_with fail
      refine (HA.out _).mono ?_
      rintro e w3 ⟨rfl, hb3⟩
      have HB3 := Lib.hid (HB2.out.trans (hb3.mono HB2.out.size))
      clear hb3
      go_wp2_with fail
      go_ret
      exact ⟨rfl, HB3.out⟩
    · obtain ⟨f1, f2, f3, f4, f5, f6, f7, f8⟩ := hF h2
      dsimp only at f1 f2 f3 f4 f5 f6 f7 f8
      have hG2 := hG h2 h3
      have hsz2 : (sz == 0) = false := by simpa using h3
      subst h2
      have HFR := Lib.hid (fun x X (hx : EnsAt X x rt) => pfind_any x rt q X hx f5 (by omega) q0 q1)
      clear hF hG f1 f2 f3 f4 f8
      rcases hG2 with ⟨g1, g2⟩ | ⟨m, o, z, k, g1, g2, g3, g4, g5, g6, g7, g8⟩
      · rw [g1] at HFR
        rw [g2] at HFL
        clear g1 g2
        generalize (findN rt q).1 = pr at *
        generalize (findN l q).1 = pw at *
        unfold eC at HFR HFL
        go_enter Try.func6, Try.ntmps6
        go_wp2_with fail
        refine HOW.out.mono ?_
        rintro e w1 ⟨v1, rfl, ho1, hb1⟩
        have HX1 := Lib.hid ho1.ensAt
        have HB1 := Lib.hid hb1
        obtain ⟨a1, c1, rfl⟩ := ensAt_form ho1.ensAt
        clear ho1 hb1
        go_wp2_with fail
        refine (HS.out _ _ HX1.out).mono ?_
        rintro e w2 ⟨v2, rfl, he2, hb2⟩
        have HX2 := Lib.hid (HX1.out.below hb2)
        have HR2 := Lib.hid he2
        have HB2 := Lib.hid (HB1.out.trans (hb2.mono HB1.out.size))
        obtain ⟨a2, c2, rfl⟩ := ensAt_form he2
        clear he2 hb2 HX1
        go_wp2_with fail
        refine (HFL.out _ _ HX2.out).mono ?_
        rintro e w3 ⟨rfl, hb3⟩
        have hba : Below w3.heap.size w3 (w3.alloc (.cells (eC pw) 52)) := (Below.refl _ _).alloc (Nat.le_refl _) _
        have HR3 := Lib.hid ((HR2.out.below hb3).below hba)
        have HB3 := Lib.hid ((HB2.out.trans (hb3.mono HB2.out.size)).trans (hba.mono (HB2.out.trans (hb3.mono HB2.out.size)).size))
        unfold eC at HR3 HB3
        clear hb3 hba HX2 HR2
        go_wp2_with fail
        refine (HFR.out _ _ HR3.out).mono ?_
        rintro e w4 ⟨rfl, hb4⟩
        have hB4 := HB3.out.trans (hb4.mono HB3.out.size)
        have HB4 := Lib.hid hB4
        clear hb4 HR3 hB4
        go_wp2_with fail
        refine (HA.out _).mono ?_
        rintro e w5 ⟨rfl, hb5⟩
        have HB5 : Hid (Below w.heap.size w w5) := Lib.hid ((HB4.out.alloc HB4.out.size _).trans (hb5.mono (by have := HB4.out.size; simp; omega)))
        clear hb5
        go_wp2_with fail
        go_ret
        exact ⟨rfl, HB5.out⟩
      · rw [g1] at HFR
        rw [g2] at HFL
        have HFM := Lib.hid (fun x X (hx : EnsAt X x m) => pfind_any x m q X hx g6 (by omega) q0 q1)
        have HDC := Lib.hid (fun X => pdecD_any (tx.extract o (o + z)) X (by rw [ByteArray.size_extract]; unfold maxLen; omega))
        rw [g5] at HDC
        unfold DecEnd at HDC
        have hw1 : IntKind.u64.wrap (z : Int) = (z : Int) := by rw [IntKind.wrap_u64]; omega
        have hw2 : IntKind.u64.wrap ((o : Int) + (z : Int)) = (o : Int) + (z : Int) := by rw [IntKind.wrap_u64]; omega
        have hw3 : IntKind.u64.wrap (tx.size : Int) = (tx.size : Int) := by rw [IntKind.wrap_u64]; omega
        have hc1 : ¬ (tx.size : Int) < (o : Int) := by omega
        have hc2 : ¬ (tx.size : Int) < (o : Int) + (z : Int) := by omega
        have hc3 : (o : Int) + (z : Int) ≤ (tx.size : Int) := by omega
        have hc4 : (0 : Int) ≤ (o : Int) := by omega
        have hc5 : (o : Int) ≤ (o : Int) + (z : Int) := by omega
        have hc6 : ((o : Int) + (z : Int)).toNat = o + z := by omega
        clear g1 g2 g5
        generalize (findN m q).1 = pw at *
        generalize (findN m q).2 = bb at *
        generalize (gS m 0).id = i0 at *
        have hq0 := fun W => eq_entP pw pw _ W rfl
        rw [decide_eq_true rfl] at hq0
        unfold eC at HFR HFL HFM
        dsimp only at HFR HDC
        go_enter Try.func6, Try.ntmps6
        go_wp2_with fail
        refine HOW.out.mono ?_
        rintro e w1 ⟨v1, rfl, ho1, hb1⟩
        have HX1 := Lib.hid ho1.ensAt
        have HB1 := Lib.hid hb1
        obtain ⟨a1, c1, rfl⟩ := ensAt_form ho1.ensAt
        clear ho1 hb1
        go_wp2_with fail
        refine (HS.out _ _ HX1.out).mono ?_
        rintro e w2 ⟨v2, rfl, he2, hb2⟩
        have HX2 := Lib.hid (HX1.out.below hb2)
        have HR2 := Lib.hid he2
        have HB2 := Lib.hid (HB1.out.trans (hb2.mono HB1.out.size))
        obtain ⟨a2, c2, rfl⟩ := ensAt_form he2
        clear he2 hb2 HX1
        go_wp2_with fail
        refine (HFL.out _ _ HX2.out).mono ?_
        rintro e w3 ⟨rfl, hb3⟩
        have hba : Below w3.heap.size w3 (w3.alloc (.cells (eC pw) 52)) := (Below.refl _ _).alloc (Nat.le_refl _) _
        have HR3 := Lib.hid ((HR2.out.below hb3).below hba)
        have HEA := Lib.hid (EAt.made w3 pw 52)
        have HB3 := Lib.hid ((HB2.out.trans (hb3.mono HB2.out.size)).trans (hba.mono (HB2.out.trans (hb3.mono HB2.out.size)).size))
        unfold eC at HR3 HB3 HEA
        clear hb3 hba HX2 HR2
        go_wp2_with fail
        refine (HFR.out _ _ HR3.out).mono ?_
        rintro e w4 ⟨rfl, hb4⟩
        have hB4 := HB3.out.trans (hb4.mono HB3.out.size)
        have HB4 := Lib.hid hB4
        have HE4 := Lib.hid (HEA.out.later hb4)
        clear hb4 HR3 hB4
        go_wp2_with fail
        refine (HDC.out _).mono ?_
        rintro e w5 ⟨v5, rfl, ho5, hb5⟩
        have hbp : Below w4.heap.size w4 (w4.alloc (.cells #[.int .u64 i0, .int .u64 (o : Int), .int .u32 (z : Int), .int .u32 0] 52)) := (Below.refl _ _).alloc (Nat.le_refl _) _
        have hbq := hbp.trans (hb5.mono hbp.size)
        have HE5 := Lib.hid (HE4.out.later hbq)
        have HM5 := Lib.hid ho5.ensAt
        have HB5 := Lib.hid (HB4.out.trans (hbq.mono HB4.out.size))
        obtain ⟨a5, c5, rfl⟩ := ensAt_form ho5.ensAt
        clear hb5 hbp hbq ho5 HE4
        go_wp2_with fail
        refine (HFM.out _ _ HM5.out).mono ?_
        rintro e w6 ⟨rfl, hb6⟩
        have HB6 := Lib.hid (HB5.out.trans (hb6.mono HB5.out.size))
        have he6 := HE5.out.later hb6
        have hx6 := fun O => he6.later ((Below.refl _ w6).alloc (Nat.le_refl _) O)
        have x0 := fun O => (hx6 O).1
        have x1 := fun O => (hx6 O).2.1
        have x2 := fun O => (hx6 O).2.2.1
        have x3 := fun O => (hx6 O).2.2.2
        clear hb6 he6 hx6 HM5 HE5
        go_wp2_with fail
        refine (HA.out _).mono ?_
        rintro e w7 ⟨rfl, hb7⟩
        have HB7 : Hid (Below w.heap.size w w7) := Lib.hid ((HB6.out.alloc HB6.out.size _).trans (hb7.mono (by have := HB6.out.size; simp; omega)))
        clear hb7
        go_wp2_with fail
        go_ret
        exact ⟨rfl, HB7.out⟩
  · have her : (er != 0) = true := by simpa using h2
    clear hF hG
    go_enter Try.func6, Try.ntmps6
    go_wp2_with fail
    refine HOW.out.mono ?_
    rintro e w1 ⟨v1, rfl, ho1, hb1⟩
    have HX1 := Lib.hid ho1.ensAt
    have HB1 := Lib.hid hb1
    obtain ⟨a1, c1, rfl⟩ := ensAt_form ho1.ensAt
    clear ho1 hb1
    go_wp2_with fail
    refine (HS.out _ _ HX1.out).mono ?_
    rintro e w2 ⟨v2, rfl, he2, hb2⟩
    have HB2 := Lib.hid (HB1.out.trans (hb2.mono HB1.out.size))
    obtain ⟨a2, c2, rfl⟩ := ensAt_form he2
    clear he2 hb2
    go_wp2_with fail
    refine (HA.out _).mono ?_
    rintro e w3 ⟨rfl, hb3⟩
    have HB3 := Lib.hid (HB2.out.trans (hb3.mono HB2.out.size))
    clear hb3
    go_wp2_with fail
    go_ret
    exact ⟨rfl, HB3.out⟩
end Go.Proofs.Ytbkodaijigcebaa
