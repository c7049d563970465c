/- The walk of ChartMakes. -/
import Derived.Test.YtmmjdlpoiibhaaaLx
namespace Go.Proofs.Ytmmjdlpoiibhaaa
open Go.RowKit
set_option maxRecDepth 20000
set_option linter.unusedVariables false
set_option linter.unusedSimpArgs false
theorem over_no {l : List It} {m M : Nat} (h : overI l m M = false) : bytesI l ≤ M ∧ l.length ≤ m := by
  unfold overI at h
  rw [Bool.or_eq_false_iff, decide_eq_false_iff_not, decide_eq_false_iff_not] at h
  omega
set_option maxRecDepth 20000 in
set_option maxHeartbeats 4000000 in
theorem chartmakes_law (v : Value) (a : List It) (u : Value) (b : List It) (w : World) (hv : ItsAt w v a) (hu : ItsAt w u b) (ia : ∀ t ∈ a, t.1 < 18446744073709551616) (sa : ∀ t ∈ a, t.2.size ≤ maxLen) (ib : ∀ t ∈ b, t.1 < 18446744073709551616) (sb : ∀ t ∈ b, t.2.size ≤ maxLen) :
    Calls Try.prog 4 #[v, u] w fun e w' => e = .returned (.bool true) ∧ Below w.heap.size w w' := by
  have HA := Lib.hid awakeC_any
  have HO1 := Lib.hid (over_any v a 60 3000 w hv sa (by omega) (by omega))
  have HO2 := Lib.hid (over_any u b 60 3000 w hu sb (by omega) (by omega))
  have HV := Lib.hid hv
  have HU := Lib.hid hu
  obtain ⟨al, cap, rfl, hcap, hmx, hc⟩ := hv
  obtain ⟨bl, bcap, rfl, -, -, -⟩ := hu
  cases h1 : overI a 60 3000 with
  | true =>
    rw [h1] at HO1
    clear hc h1
    go_enter Try.func4, Try.ntmps4
    go_wp2_with fail
    refine HO1.out.mono ?_
    rintro e w1 ⟨rfl, rfl⟩
    go_wp2_with fail
    refine (HA.out _).mono ?_
    rintro e w2 ⟨rfl, hb⟩
    go_wp2_with fail
    go_ret
    exact ⟨rfl, hb⟩
  | false =>
    cases h2 : overI b 60 3000 with
    | true =>
      rw [h1] at HO1
      rw [h2] at HO2
      clear hc h1 h2
      go_enter Try.func4, Try.ntmps4
      go_wp2_with fail
      refine HO1.out.mono ?_
      rintro e w1 ⟨rfl, rfl⟩
      go_wp2_with fail
      refine HO2.out.mono ?_
      rintro e w1 ⟨rfl, rfl⟩
      go_wp2_with fail
      refine (HA.out _).mono ?_
      rintro e w2 ⟨rfl, hb⟩
      go_wp2_with fail
      go_ret
      exact ⟨rfl, hb⟩
    | false =>
      obtain ⟨ba, la⟩ := over_no (m := 60) (M := 3000) h1
      obtain ⟨bb, lb⟩ := over_no (m := 60) (M := 3000) h2
      rw [h1] at HO1
      rw [h2] at HO2
      have HC := Lib.hid hc
      have HIS := Lib.hid (And.intro ia (And.intro ib (And.intro sa sb)))
      clear hc h1 h2 ia ib sa sb ba bb
      go_enter Try.func4, Try.ntmps4
      go_wp2_with fail
      refine HO1.out.mono ?_
      rintro e w1 ⟨rfl, rfl⟩
      go_wp2_with fail
      refine HO2.out.mono ?_
      rintro e w1 ⟨rfl, rfl⟩
      clear HO1 HO2
      go_wp2_with fail
      go_loopw [5, 6] (fun q i wr => ∃ k : Nat, k ≤ a.length ∧ i = .int .i64 k ∧ OwnIt wr w1.heap.size 52 q (a.take k) ∧ Below w1.heap.size w1 wr) (fun _ i _ => a.length - (intOf i).toNat)
      case atStart => exact ⟨0, Nat.zero_le _, rfl, ownIt_nil _ _ _, Below.refl _ _⟩
      case round =>
        obtain ⟨k, hk, rfl, hown, hbw⟩ := hrel
        by_cases hlt : k < a.length
        · obtain ⟨⟨x, s⟩, htk⟩ : ∃ t, a[k]? = some t := ⟨_, List.getElem?_eq_getElem hlt⟩
          obtain ⟨g, off, rfl, hg, c0, c1⟩ := HC.out k _ htk
          have HS2 := Lib.hid (itake_at a k _ htk)
          have hlen : (a.take k).length ≤ k := List.length_take_le _ _
          have d0 := (hbw.cell (p := ⟨g, off + k * 2, none⟩) hg).trans c0
          have d1 := (hbw.cell (p := ⟨g, off + k * 2 + 1, none⟩) hg).trans c1
          have d2 := Nat.lt_of_lt_of_le hg hbw.size
          have hb2 : Below w1.heap.size w1 (wr.alloc (.cells #[.int .u64 x, .string s] 52)) := hbw.alloc hbw.size _
          obtain ⟨v', w', hr, hown', hgr⟩ := itappend_run (wr.alloc (.cells #[.int .u64 x, .string s] 52)) w1.heap.size 24 52 24 _ Try.underlying24 infoPit rfl _ _ _ [(x, s)] (hown.below (Below.alloc (Below.refl _ _) (Nat.le_refl _) _)) (it_lit wr x s _) (by simp only [List.length_singleton]; omega) hb2.size
          have HO := Lib.hid hown'
          have HB := Lib.hid (Below.grown hb2 hgr hb2.size (fun k hk => (hown.lt k hk).1))
          clear hown hbw c0 c1 hb2 hown' hgr
          go_wp2_with (first | (at_builtin; refine Lib.wpList_append_run _ rfl _ _ _ _ rfl _ _ rfl rfl _ _ hr ?_) | fail)
          go_roundw
          case rel => exact ⟨k + 1, by omega, by go_num, by rw [HS2.out]; exact HO.out, HB.out⟩
          case measure => simp [intOf]; omega
        · obtain rfl : k = a.length := by omega
          rw [List.take_length] at hown
          have HOF := Lib.hid (of_any _ a wr hown.itsAt (by omega) HIS.out.1 HIS.out.2.2.1)
          have HV1 := Lib.hid (HV.out.below hbw)
          have HU1 := Lib.hid (HU.out.below hbw)
          have HB := Lib.hid hbw
          clear hown hbw HC
          go_wp2_with fail
          refine HOF.out.mono ?_
          rintro e w2 ⟨s7, rfl, hc7, hb2⟩
          obtain ⟨a7, n7, p7, rfl⟩ := hc7.form
          have h7 := one_new w2 (.slice a7 n7 p7) 26
          have b7 := below_one w2 (.cells #[.slice a7 n7 p7] 26)
          have hx := hb2.trans (b7.mono hb2.size)
          have HX7 := Lib.hid (And.intro h7 (And.intro (hc7.below b7) (And.intro (HV1.out.below hx) (And.intro (HU1.out.below hx) (HB.out.trans (hx.mono HB.out.size))))))
          have HRO := Lib.hid (rof_any _ a _ (HV1.out.below hx) (by omega) HIS.out.1)
          clear hc7 hb2 h7 b7 hx HOF HB HV1 HU1
          go_wp2_with fail
          generalize w2.alloc (.cells #[.slice a7 n7 p7] 26) = W7 at *
          generalize w2.heap.size = g7 at *
          refine HRO.out.mono ?_
          rintro e w3 ⟨y, rfl, hy, hb3⟩
          have HX8 := Lib.hid (And.intro (HX7.out.1.below hb3) (And.intro (HX7.out.2.1.below hb3) (And.intro hy (And.intro (HX7.out.2.2.2.1.below hb3) (HX7.out.2.2.2.2.trans (hb3.mono HX7.out.2.2.2.2.size))))))
          have HOW := Lib.hid (own_any _ b _ (HX7.out.2.2.2.1.below hb3) (by omega) HIS.out.2.1 HIS.out.2.2.2)
          clear hy hb3 HRO HX7
          go_wp2_with fail
          refine HOW.out.mono ?_
          rintro e w4 ⟨s11, z, rfl, hc11, hz, hb4⟩
          obtain ⟨a11, n11, p11, rfl⟩ := hc11.form
          have h11 := one_new w4 (.slice a11 n11 p11) 26
          have b11 := below_one w4 (.cells #[.slice a11 n11 p11] 26)
          have hx := hb4.trans (b11.mono hb4.size)
          have HX9 := Lib.hid (And.intro (HX8.out.1.below hx) (And.intro (HX8.out.2.1.below hx) (And.intro (HX8.out.2.2.1.below hx) (And.intro h11 (And.intro (hc11.below b11) (And.intro (hz.below b11) (HX8.out.2.2.2.2.trans (hx.mono HX8.out.2.2.2.2.size))))))))
          clear hc11 hz hb4 h11 b11 hx HOW HX8
          have q7 := HX9.out.1.cell
          have HI := Lib.hid (items_any _ _ _ HX9.out.2.1)
          go_wp2_with fail
          generalize w4.alloc (.cells #[.slice a11 n11 p11] 26) = W9 at *
          generalize w4.heap.size = g11 at *
          refine HI.out.mono ?_
          rintro e w5 ⟨i5, rfl, hi5, hb5⟩
          have HB5 := Lib.hid hb5
          have hg5 := HX9.out.2.1.good.few
          have HBK := Lib.hid (back_any _ _ _ hi5 (by omega))
          clear hi5 hb5 HI q7
          go_wp2_with fail
          refine HBK.out.mono ?_
          rintro e w6 ⟨i6, rfl, hi6, hb6⟩
          have HB6 := Lib.hid (HB5.out.trans (hb6.mono HB5.out.size))
          have HSM := Lib.hid (rsame_any _ _ _ _ _ hi6.itsAt (HX9.out.2.2.1.below HB6.out))
          rw [decide_eq_true rfl] at HSM
          clear hi6 hb6 HBK
          go_wp2_with fail
          refine HSM.out.mono ?_
          rintro e w7 ⟨rfl, hb7⟩
          have HB7 := Lib.hid (HB6.out.trans (hb7.mono HB6.out.size))
          have q7 := (HX9.out.1.below HB7.out).cell
          have q8 := (HX9.out.2.2.2.1.below HB7.out).cell
          have HCS := Lib.hid (same_any _ _ _ _ _ (HX9.out.2.1.below HB7.out) (HX9.out.2.2.2.2.1.below HB7.out))
          clear hb7 HSM
          go_wp2_with fail
          refine HCS.out.mono ?_
          rintro e w8 ⟨rfl, hb8⟩
          have HB8 := Lib.hid (HB7.out.trans (hb8.mono HB7.out.size))
          have HRS := Lib.hid (rsame_any _ _ _ _ _ (HX9.out.2.2.1.below HB8.out) (HX9.out.2.2.2.2.2.1.below HB8.out))
          clear hb8 HCS q7 q8
          go_wp2_with fail
          refine HRS.out.mono ?_
          rintro e w9 ⟨rfl, hb9⟩
          have HB9 := Lib.hid (HB8.out.trans (hb9.mono HB8.out.size))
          generalize decide ((ofI a).1 = ownI b) = qb at *
          clear hb9 HRS
          go_wp2_with fail
          refine (HA.out _).mono ?_
          rintro e w10 ⟨rfl, hb10⟩
          have HB10 := Lib.hid (HB9.out.trans (hb10.mono HB9.out.size))
          clear hb10
          go_wp2_with fail
          go_ret
          exact ⟨rfl, HX9.out.2.2.2.2.2.2.trans (HB10.out.mono HX9.out.2.2.2.2.2.2.size)⟩
end Go.Proofs.Ytmmjdlpoiibhaaa
