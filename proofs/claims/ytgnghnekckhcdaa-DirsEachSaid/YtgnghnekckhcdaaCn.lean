/- The program's Decode. -/
import Derived.Test.YtgnghnekckhcdaaCm
import Derived.Test.YtgnghnekckhcdaaPc
namespace Go.Proofs.Ytgnghnekckhcdaa
open Go.RowKit Go.Shelf
set_option linter.unusedVariables false
set_option linter.unusedSimpArgs false
theorem dec_ans (t : List UInt8) (h : t.length ≤ 65536) : decD t = zend (ansQ t (bgD t).1 (4 * (bgD t).1) 0 (zerosE (bgD t).1) (bgD t).2.1 (bgD t).2.2) t.length := by
  by_cases he : errV t = 0
  · by_cases h4 : 4096 < valV t
    · have hb : bgD t = (0, 0, 21) := by unfold bgD; rw [if_neg (fun h => h he), if_pos h4]
      have hd : decD t = ([], 0, 21) := by unfold decD; rw [if_neg (by omega), if_neg (fun h => h he), if_pos h4]
      rw [hb, hd]
      simp [ansQ, zend]
    · have hb : bgD t = ((valV t).toNat, lead 10 t + 1, 0) := by unfold bgD; rw [if_neg (fun h => h he), if_neg h4]
      rw [hb]
      unfold decD
      rw [if_neg (by omega), if_neg (fun h => h he), if_neg h4]
      have e : ansQ t (valV t).toNat (4 * (valV t).toNat) 0 (zerosE (valV t).toNat) (lead 10 t + 1) 0 = goD t (valV t).toNat (4 * (valV t).toNat) 0 (zerosE (valV t).toNat) (lead 10 t + 1) := by unfold ansQ; rw [if_neg (fun h => h rfl), Nat.zero_mul]
      rw [e]
      rfl
  · have hb : bgD t = (0, 0, errV t) := by unfold bgD; rw [if_pos he]
    have hd : decD t = ([], 0, errV t) := by unfold decD; rw [if_neg (by omega), if_pos he]
    rw [hb, hd]
    simp [ansQ, zend, he]
/-- The answer, by what the four columns have left. -/
def finD (t : ByteArray) (l : List En) (a : Nat) (q : Int) : List En × Nat × Int := zend (if q ≠ 0 then ([], a, q) else (l, a, 0)) t.size
theorem dec_fin {t : ByteArray} (hsz : t.size ≤ 65536) {n : Nat} {l1 l2 l3 l4 : List En} {a1 a2 a3 a4 : Nat} {q1 q2 q3 q4 : Int} {B : Nat × Nat × Int} (hB : bgD t.data.toList = B)
    (h1 : StepQ t.data.toList 0 B.1 (zerosE B.1) B.2.1 B.2.2 l1 a1 q1) (h2 : StepQ t.data.toList 1 B.1 l1 a1 q1 l2 a2 q2) (h3 : StepQ t.data.toList 2 B.1 l2 a2 q2 l3 a3 q3) (h4 : StepQ t.data.toList 3 B.1 l3 a3 q3 l4 a4 q4) : decD t.data.toList = finD t l4 a4 q4 := by
  have hl : t.data.toList.length = t.size := by simp
  rw [dec_ans _ (by omega), hB, show 4 * B.1 = B.1 + (B.1 + (B.1 + (B.1 + 0))) from by omega, ansQ_step h1, ansQ_step h2, ansQ_step h3, ansQ_step h4, hl]
  unfold finD ansQ
  by_cases hq : q4 = 0
  · rw [if_neg (fun h => h hq), if_neg (fun h => h hq)]; rfl
  · rw [if_pos hq, if_pos hq]
theorem tak_made (w1 : World) (t : ByteArray) (a q : Int) (v : Value) (T : TypeId) : TakAt (w1.alloc (.cells #[.string t, .int .i64 a, .int .i64 q, v] T)) w1.heap.size t a q v := by
  refine ⟨⟨?_, ?_, ?_, fun o => ?_⟩, ?_⟩
  · rw [World.cell?_alloc_mark]; rfl
  · rw [World.cell?_alloc_mark]; rfl
  · rw [World.cell?_alloc_mark]; rfl
  · simp only [World.frozen?]
    rw [heap_alloc_new]
    simp
  · rw [World.cell?_alloc_mark]; rfl
theorem zeros_mays (n : Nat) : MaysN (zerosE n) := (mays_ge (by simp [zerosE])).2 (zeros_may n)
theorem endV_bad (t : ByteArray) (a : Nat) (q : Int) (h : q ≠ 0) : endV t (a : Int) q = q := by
  unfold endV firstOf
  rw [if_neg h]
theorem endV_left (t : ByteArray) (a : Nat) (h : a < t.size) : endV t (a : Int) 0 = 4 := by
  have h1 : placedV t (a : Int) = 0 := by unfold placedV; rw [if_pos (by omega)]
  have h2 : spentV t (a : Int) = 4 := by unfold spentV; rw [if_pos (by omega)]
  simp [endV, firstOf, h1, h2]
theorem endV_ok (t : ByteArray) (a : Nat) (h : a = t.size) : endV t (a : Int) 0 = 0 := by
  have h1 : placedV t (a : Int) = 0 := by unfold placedV; rw [if_pos (by omega)]
  have h2 : spentV t (a : Int) = 0 := by unfold spentV; rw [if_neg (by omega)]
  simp [endV, firstOf, h1, h2]
theorem dec_leaves {nn : Nat} {tmps : Array Value} {Ds : List Nat} {w W : World} {v' : Value} {DD : List En × Nat × Int} (hm : MkAt Ds W) (hn : Ds.Nodup) (hge : ∀ D, D ∈ Ds → w.heap.size ≤ D) (ho : OwnE W w.heap.size 51 v' DD.1) (hb : Below w.heap.size w W)
    (h2 : tmps.getD 2 undef = v') (h3 : tmps.getD 3 undef = .int .i64 (DD.2.1 : Int)) (h4 : tmps.getD 4 undef = .int .i64 DD.2.2) : LeavesInM Fence.wide nn Try.prog Try.f14 tmps (DecEnd DD 51 w) (mksD Ds) .returning W := by
  refine leaves_marks (fun W => OwnE W w.heap.size 51 v' DD.1 ∧ Below w.heap.size w W) Ds W hm hn ⟨ho, hb⟩ (fun X D hD hXD hp => ⟨ownsRow_putObj hp.1 _ hXD rfl, ?_⟩) ?_
  · exact (bears_below (β := Unit) (T := fun _ => False) (Nat.le_refl _) (B := w.heap.size) (Nat.le_refl _) (fun _ h => h.elim)).put (s := ()) hp.2 _ (hge D hD) hXD rfl
  · rintro W' ⟨h5, h6⟩
    refine ⟨_, results_tmp3 rfl _ _ _, v', ?_, h5, h6⟩
    rw [h2, h3, h4]
theorem mk_later {Ds : List Nat} {W W' : World} (h : MkAt Ds W) (hb : Below W.heap.size W W') : MkAt Ds W' := fun D hD => (hb.block D (hlt_of (h D hD))).trans (h D hD)
attribute [local go_sem] Oper.semAt_some
set_option maxRecDepth 100000 in
set_option maxHeartbeats 8000000 in
theorem pdecD_4 (t : ByteArray) (w : World) (hsz : t.size ≤ 65536) : Calls Try.prog 14 #[.string t] w (DecEnd (decD t.data.toList) 51 w) := by
  have hd : decide (65536 < (t.size : Int)) = false := by simp; omega
  have hd2 : decide (65536 < t.size) = false := by simp; omega
  have HBG := Lib.hid (pbegun_any t w hsz)
  have HFN := Lib.hid (fun l1 l2 l3 l4 a1 a2 a3 a4 q1 q2 q3 q4 h1 h2 h3 h4 => dec_fin (t := t) (n := 0) hsz (l1 := l1) (l2 := l2) (l3 := l3) (l4 := l4) (a1 := a1) (a2 := a2) (a3 := a3) (a4 := a4) (q1 := q1) (q2 := q2) (q3 := q3) (q4 := q4) rfl h1 h2 h3 h4)
  have hb3 : (bgD t.data.toList).1 ≤ 4096 ∧ (bgD t.data.toList).2.1 ≤ t.size := by
    unfold bgD
    by_cases he : errV t.data.toList = 0
    · rw [if_neg (fun h => h he)]
      split
      · exact ⟨Nat.zero_le _, Nat.zero_le _⟩
      · refine ⟨by have := valV_bd _ he; simp only; omega, ?_⟩
        have := adv_le t 0 (Nat.zero_le _) (by rw [List.drop_zero]; exact he)
        rw [List.drop_zero] at this
        simp only
        omega
    · rw [if_pos he]; exact ⟨Nat.zero_le _, Nat.zero_le _⟩
  generalize decD t.data.toList = DD at *
  obtain ⟨BB, hBB⟩ : ∃ BB, bgD t.data.toList = BB := ⟨_, rfl⟩
  rw [hBB] at HBG HFN hb3
  obtain ⟨n, a0, q0⟩ := BB
  dsimp only at HBG HFN hb3
  have HSZ := Lib.hid (And.intro hsz hb3)
  clear hBB hsz hb3
  refine (callsIn_wide (n := 9)).1 ?_
  refine callsIn_of_wp_marks Try.func14 rfl trivial ?_ rfl
  simp only [Try.ntmps14, List.size_toArray, List.length_cons, List.length_nil, Nat.reduceAdd, Nat.reduceSub, Array.replicate_succ, Array.replicate_zero, List.push_toArray, List.append_toArray, List.nil_append, List.cons_append]
  gi_wp2
  refine ⟨trivial, (callsIn_wide.2 HBG.out).mono ?_⟩
  rintro x w1 ⟨al, cap, rfl, ho, hb⟩
  dsimp only at ho ⊢
  have hba : Below w1.heap.size w1 (w1.alloc (.cells #[.string t, .int .i64 (a0 : Int), .int .i64 q0, .slice al n cap] 69)) := (Below.refl _ _).alloc (Nat.le_refl _) _
  have hfix : DFix w w1.heap.size t n al cap := ⟨hb.size, fun h => by have := (OwnE.lt ho _ h).2; omega, HSZ.out.2.1, HSZ.out.1⟩
  have hst : DSt w w1.heap.size t n al cap [] (zerosE n) a0 q0 (w1.alloc (.cells #[.string t, .int .i64 (a0 : Int), .int .i64 q0, .slice al n cap] 69)) :=
    ⟨tak_made _ _ _ _ _ _, OwnE.below ho hba, hb.trans (hba.mono hb.size), fun D h => by simp at h, List.nodup_nil, fun D h => by simp at h, by simp [zerosE], zeros_mays n, HSZ.out.2.2⟩
  have HFX := Lib.hid hfix
  obtain ⟨W0, hW0⟩ : ∃ W0, w1.alloc (.cells #[.string t, .int .i64 (a0 : Int), .int .i64 q0, .slice al n cap] 69) = W0 := ⟨_, rfl⟩
  rw [hW0] at hst
  have HS0 := Lib.hid hst
  obtain ⟨⟨⟨hc0, hc1, hc2, _⟩, hc3⟩, _⟩ := hst
  clear ho hb hba hfix
  gi_wp2
  refine ⟨trivial, (callsIn_wide.2 (ptcol_any w1.heap.size 30 #[.slice al n cap] _)).mono ?_⟩
  rintro x V0 ⟨rfl, hV0⟩
  have HV0 := Lib.hid hV0
  gi_wp2
  rw [← hV0]
  clear hV0 hc0 hc1 hc2 hc3 hW0
  refine col_range (nn := 9) (r := 6) (s := 7) 0 (by decide) HFX.out HS0.out HV0.out rfl ?as0 ?bo0 ?do0
  case as0 =>
    intro lq x y W' K hK
    simp only [List.setIfInBounds_toArray, List.set_cons_zero, List.set_cons_succ] at hK ⊢
    gi_wp2
    exact hK
  case bo0 =>
    intro lq k gb y old W' R hk hal h3 hold hfr y0 y1 hR
    subst hal
    have hf : fldN 0 = 0 := rfl
    have hs : stvN 0 y = .int .u64 y := rfl
    rw [hs, hf] at hR
    rw [hf] at hold
    rw [Nat.add_zero] at hold hR
    have hki : (k : Int) < (n : Int) := by omega
    have hkn : k < n := hk
    have HR := Lib.hid hR
    clear hR hf hs y1
    simp only [List.setIfInBounds_toArray, List.set_cons_zero, List.set_cons_succ]
    gi_wp2
    exact HR.out
  case do0 =>
    intro D1 l1 a1 q1 W1 hq hst
    have HS1 := Lib.hid hst
    have HQ1 := Lib.hid hq
    obtain ⟨⟨⟨hc0, hc1, hc2, _⟩, hc3⟩, _⟩ := hst
    clear hq
    gi_wp2
    refine ⟨trivial, (callsIn_wide.2 (ptcol_any w1.heap.size 31 #[] _)).mono ?_⟩
    rintro x V1 ⟨rfl, hV1⟩
    have HV1 := Lib.hid hV1
    gi_wp2
    rw [← hV1]
    clear hV1 hc0 hc1 hc2 hc3
    refine col_range (nn := 9) (r := 8) (s := 9) 1 (by decide) HFX.out HS1.out HV1.out rfl ?as1 ?bo1 ?do1
    case as1 =>
      intro lq x y W' K hK
      simp only [List.setIfInBounds_toArray, List.set_cons_zero, List.set_cons_succ] at hK ⊢
      gi_wp2
      exact hK
    case bo1 =>
      intro lq k gb y old W' R hk hal h3 hold hfr y0 y1 hR
      subst hal
      have hf : fldN 1 = 3 := rfl
      have hs : stvN 1 y = .int .u32 y := rfl
      rw [hs, hf] at hR
      rw [hf] at hold
      have hki : (k : Int) < (n : Int) := by omega
      have hkn : k < n := hk
      have hwp : IntKind.u32.wrap y = y := by have := y1 (by omega); rw [wrap_u32']; omega
      have HR := Lib.hid hR
      clear hR hf hs y1
      simp only [List.setIfInBounds_toArray, List.set_cons_zero, List.set_cons_succ]
      gi_wp2
      exact HR.out
    case do1 =>
      intro D2 l2 a2 q2 W2 hq hst
      have HS2 := Lib.hid hst
      have HQ2 := Lib.hid hq
      obtain ⟨⟨⟨hc0, hc1, hc2, _⟩, hc3⟩, _⟩ := hst
      clear hq
      gi_wp2
      refine ⟨trivial, (callsIn_wide.2 (ptcol_any w1.heap.size 31 #[] _)).mono ?_⟩
      rintro x V2 ⟨rfl, hV2⟩
      have HV2 := Lib.hid hV2
      gi_wp2
      rw [← hV2]
      clear hV2 hc0 hc1 hc2 hc3
      refine col_range (nn := 9) (r := 10) (s := 11) 2 (by decide) HFX.out HS2.out HV2.out rfl ?as2 ?bo2 ?do2
      case as2 =>
        intro lq x y W' K hK
        simp only [List.setIfInBounds_toArray, List.set_cons_zero, List.set_cons_succ] at hK ⊢
        gi_wp2
        exact hK
      case bo2 =>
        intro lq k gb y old W' R hk hal h3 hold hfr y0 y1 hR
        subst hal
        have hf : fldN 2 = 2 := rfl
        have hs : stvN 2 y = .int .u32 y := rfl
        rw [hs, hf] at hR
        rw [hf] at hold
        have hki : (k : Int) < (n : Int) := by omega
        have hkn : k < n := hk
        have hwp : IntKind.u32.wrap y = y := by have := y1 (by omega); rw [wrap_u32']; omega
        have HR := Lib.hid hR
        clear hR hf hs y1
        simp only [List.setIfInBounds_toArray, List.set_cons_zero, List.set_cons_succ]
        gi_wp2
        exact HR.out
      case do2 =>
        intro D3 l3 a3 q3 W3 hq hst
        have HS3 := Lib.hid hst
        have HQ3 := Lib.hid hq
        obtain ⟨⟨⟨hc0, hc1, hc2, _⟩, hc3⟩, _⟩ := hst
        clear hq
        gi_wp2
        refine ⟨trivial, (callsIn_wide.2 (ptcol_any w1.heap.size 32 #[.slice al n cap] _)).mono ?_⟩
        rintro x V3 ⟨rfl, hV3⟩
        have HV3 := Lib.hid hV3
        gi_wp2
        rw [← hV3]
        clear hV3 hc0 hc1 hc2 hc3
        refine col_range (nn := 9) (r := 12) (s := 13) 3 (by decide) HFX.out HS3.out HV3.out rfl ?as3 ?bo3 ?do3
        case as3 =>
          intro lq x y W' K hK
          simp only [List.setIfInBounds_toArray, List.set_cons_zero, List.set_cons_succ] at hK ⊢
          gi_wp2
          exact hK
        case bo3 =>
          intro lq k gb y old W' R hk hal h3 hold hfr y0 y1 hR
          subst hal
          have hf : fldN 3 = 1 := rfl
          have hs : stvN 3 y = .int .u64 y := rfl
          rw [hs, hf] at hR
          rw [hf] at hold
          have hki : (k : Int) < (n : Int) := by omega
          have hkn : k < n := hk
          have HR := Lib.hid hR
          clear hR hf hs y1
          simp only [List.setIfInBounds_toArray, List.set_cons_zero, List.set_cons_succ]
          gi_wp2
          exact HR.out
        case do3 =>
          intro D4 l4 a4 q4 W4 hq hst
          have HS4 := Lib.hid hst
          have HQ4 := Lib.hid hq
          obtain ⟨⟨⟨hc0, hc1, hc2, _⟩, hc3⟩, _⟩ := hst
          clear hq
          gi_wp2
          have hfin := HFN.out _ _ _ _ _ _ _ _ _ _ _ _ HQ1.out HQ2.out HQ3.out HQ4.out
          have HFI := Lib.hid hfin
          have h4 := HS4.out
          have hEnd := Lib.hid (end_any t a4 q4 W4)
          clear hfin hc0 hc1 hc2 hc3
          obtain ⟨f1, f2, f3, f4, f5, f6, f7, f8, f9⟩ := h4
          have HOW := Lib.hid (And.intro f2 (And.intro f3 (And.intro f4 (And.intro f5 (And.intro f6 (And.intro f7 (And.intro f8 f9)))))))
          have HTK := Lib.hid f1
          clear f1 f2 f3 f4 f5 f6 f7 f8 f9
          by_cases hq4 : q4 = 0
          · subst hq4
            by_cases ha4 : a4 < t.size
            · rw [endV_left t a4 ha4] at hEnd
              have hDD : DD = ([], a4, 4) := by rw [HFI.out]; unfold finD zend; simp [ha4]
              refine ⟨trivial, (callsIn_wide.2 hEnd.out).mono ?_⟩
              rintro x W5 ⟨rfl, hb5⟩
              obtain ⟨⟨hc0, hc1, hc2, _⟩, hc3⟩ := HTK.out.later hb5
              have HB5 := Lib.hid hb5
              subst hDD
              clear hb5 hEnd
              gi_wp2
              gi_region
              all_goals
                gi_wp2
                refine dec_leaves (Ds := [D4, D3, D2, D1]) (mk_later HOW.out.2.2.1 (HB5.out.trans (Below.drew (Below.refl _ _)))) HOW.out.2.2.2.1 HOW.out.2.2.2.2.1 (ownE_nil _ _ _) (HOW.out.2.1.trans (((HB5.out.trans (Below.drew (Below.refl _ _)))).mono HOW.out.2.1.size)) rfl rfl rfl
            · have hae : a4 = t.size := by have := HOW.out.2.2.2.2.2.2.2; omega
              rw [endV_ok t a4 hae] at hEnd
              have hDD : DD = if rowN l4 ≠ 0 then ([], t.size, rowN l4) else (l4, t.size, 0) := by rw [HFI.out]; unfold finD zend; simp [hae]
              refine ⟨trivial, (callsIn_wide.2 hEnd.out).mono ?_⟩
              rintro x W5 ⟨rfl, hb5⟩
              obtain ⟨⟨hc0, hc1, hc2, _⟩, hc3⟩ := HTK.out.later hb5
              have HB5 := Lib.hid hb5
              have HRow := Lib.hid (prow_any (.slice al n cap) l4 W5 ((OwnE.below HOW.out.1 hb5).ensAt) HOW.out.2.2.2.2.2.2.1)
              clear hb5 hEnd hae ha4
              by_cases hr : rowN l4 = 0
              · rw [if_neg (fun h => h hr)] at hDD
                rw [hr] at HRow
                subst hDD
                clear hr
                gi_wp2
                refine ⟨trivial, (callsIn_wide.2 HRow.out).mono ?_⟩
                rintro x W6 ⟨rfl, hb6⟩
                have HB6 := Lib.hid hb6
                have hc3 := ecell_later hb6 hc3
                clear hb6 HRow
                gi_wp2
                refine dec_leaves (Ds := [D4, D3, D2, D1]) (mk_later HOW.out.2.2.1 (HB5.out.trans (HB6.out.mono HB5.out.size))) HOW.out.2.2.2.1 HOW.out.2.2.2.2.1 (OwnE.below HOW.out.1 (HB5.out.trans (HB6.out.mono HB5.out.size))) (HOW.out.2.1.trans (((HB5.out.trans (HB6.out.mono HB5.out.size))).mono HOW.out.2.1.size)) rfl rfl rfl
              · rw [if_pos hr] at hDD
                have hne : (rowN l4 == 0) = false := by simpa using hr
                generalize rowN l4 = r4 at *
                subst hDD
                clear hr
                gi_wp2
                refine ⟨trivial, (callsIn_wide.2 HRow.out).mono ?_⟩
                rintro x W6 ⟨rfl, hb6⟩
                have HB6 := Lib.hid hb6
                have hc3 := ecell_later hb6 hc3
                clear hb6 HRow
                gi_wp2
                refine dec_leaves (Ds := [D4, D3, D2, D1]) (mk_later HOW.out.2.2.1 (HB5.out.trans (HB6.out.mono HB5.out.size))) HOW.out.2.2.2.1 HOW.out.2.2.2.2.1 (ownE_nil _ _ _) (HOW.out.2.1.trans (((HB5.out.trans (HB6.out.mono HB5.out.size))).mono HOW.out.2.1.size)) rfl rfl rfl
          · rw [endV_bad t a4 q4 hq4] at hEnd
            have hDD : DD = ([], a4, q4) := by rw [HFI.out]; unfold finD zend; simp [hq4]
            have hne : (q4 == 0) = false := by simpa using hq4
            refine ⟨trivial, (callsIn_wide.2 hEnd.out).mono ?_⟩
            rintro x W5 ⟨rfl, hb5⟩
            obtain ⟨⟨hc0, hc1, hc2, _⟩, hc3⟩ := HTK.out.later hb5
            have HB5 := Lib.hid hb5
            subst hDD
            clear hb5 hEnd hq4
            gi_wp2
            gi_region
            all_goals
              gi_wp2
              refine dec_leaves (Ds := [D4, D3, D2, D1]) (mk_later HOW.out.2.2.1 (HB5.out.trans (Below.drew (Below.refl _ _)))) HOW.out.2.2.2.1 HOW.out.2.2.2.2.1 (ownE_nil _ _ _) (HOW.out.2.1.trans (((HB5.out.trans (Below.drew (Below.refl _ _)))).mono HOW.out.2.1.size)) rfl rfl rfl
end Go.Proofs.Ytgnghnekckhcdaa
