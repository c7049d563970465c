/- The walk of ChartDoes. -/
import Derived.Test.YtmmjdlpoiibhaaaLx
import Derived.Test.YtmmjdlpoiibhaaaLt
import Derived.Deep.CutBlock
namespace Go.Proofs.Ytmmjdlpoiibhaaa
open Go.RowKit
set_option maxRecDepth 20000
set_option linter.unusedVariables false
set_option linter.unusedSimpArgs false
/-- Where a chart and the document's list stand. -/
structure StC (w W : World) (gc : Nat) (s d : Value) (acc : List It) : Prop where
  one : One W gc s
  ch : ChS W s acc
  its : ItsAt W d acc
  bel : Below w.heap.size w W
theorem StC.below {w W X : World} {gc : Nat} {s d : Value} {acc : List It} (h : StC w W gc s d acc) (hb : Below W.heap.size W X) : StC w X gc s d acc := ⟨h.one.below hb, h.ch.below hb, h.its.below hb, h.bel.trans (hb.mono h.bel.size)⟩
theorem good_bytes {l : List It} (h : GoodC l) : bytesI l ≤ 1000000000 := by
  have h1 : ∀ l : List It, (∀ t ∈ l, t.2.size ≤ 65536) → bytesI l ≤ l.length * 65536 := by
    intro l
    induction l with
    | nil => intro _; simp [bytesI]
    | cons t l ih =>
      intro h
      have h2 := h t (by simp)
      have h3 := ih (fun x hx => h x (by simp [hx]))
      rw [bytesI, List.length_cons, Nat.succ_mul]
      omega
  have h2 := h1 l h.short
  have h3 := h.few
  omega
set_option maxRecDepth 20000 in
set_option maxHeartbeats 8000000 in
theorem chartdoes_law (v : Value) (l : List OpC) (id : Nat) (w : World) (hv : OpsAt w v l) (hid : id < 18446744073709551616) (h8 : ∀ t ∈ l, t.d < 256) (h64 : ∀ t ∈ l, t.id < 18446744073709551616) (hsz : ∀ t ∈ l, t.t.size ≤ maxLen) :
    Calls Try.prog 3 #[v, .int .u64 id] w fun e w' => e = .returned (.bool true) ∧ Below w.heap.size w w' := by
  have HA := Lib.hid awakeC_any
  obtain ⟨al, cap, rfl, hcap, hmx, hc⟩ := hv
  have HC := Lib.hid hc
  have hmx' : l.length ≤ maxLen := by omega
  unfold maxLen at hmx'
  have b0 := below_one w (.cells #[.slice none 0 0] 26)
  have HST := Lib.hid (show StC w (w.alloc (.cells #[.slice none 0 0] 26)) w.heap.size (.slice none 0 0) (.slice none 0 0) [] from ⟨one_new w _ _, chS_nil _, its_nil _, b0⟩)
  clear hc b0
  go_enter Try.func3, Try.ntmps3
  go_wp2_with fail
  go_loopw [6, 7, 8] (fun d lf i wr => ∃ (k : Nat) (acc : List It) (s : Value) (L : Int), k ≤ l.length ∧ i = .int .i64 k ∧ lf = .int .i64 L ∧ 0 ≤ L ∧ L ≤ 3000 ∧ StC w wr w.heap.size s d acc) (fun _ _ i _ => l.length - (intOf i).toNat)
  case atStart => exact ⟨0, [], _, 3000, Nat.zero_le _, rfl, rfl, by omega, by omega, HST.out⟩
  case round =>
    obtain ⟨k, acc, s, L, hk, rfl, rfl, L0, L1, hst⟩ := hrel
    obtain ⟨a0, n0, p0, rfl⟩ := hst.ch.form
    have HS := Lib.hid hst
    have hfew := hst.ch.good.few
    by_cases hlt : k < l.length
    · obtain ⟨⟨dd, x, t⟩, htk⟩ : ∃ t, l[k]? = some t := ⟨_, List.getElem?_eq_getElem hlt⟩
      obtain ⟨g, off, rfl, hg, c0, c1, c2⟩ := HC.out k _ htk
      have hd8 := h8 _ (List.mem_of_getElem? htk)
      have hx := h64 _ (List.mem_of_getElem? htk)
      have ht := hsz _ (List.mem_of_getElem? htk)
      simp only at hd8 hx ht c0 c1 c2
      have htm := ht
      unfold maxLen at htm
      have hki : (k : Int) < (l.length : Int) := by omega
      have q0 := (hst.bel.cell (p := ⟨g, off + k * 3, none⟩) hg).trans c0
      have q1 := (hst.bel.cell (p := ⟨g, off + k * 3 + 1, none⟩) hg).trans c1
      have q2 := (hst.bel.cell (p := ⟨g, off + k * 3 + 2, none⟩) hg).trans c2
      have hw1 : IntKind.i64.wrap (L - (t.size : Int)) = L - (t.size : Int) := by rw [IntKind.wrap_i64] <;> omega
      have HCC := Lib.hid (And.intro c0 (And.intro c1 c2))
      have e0 := hst.one.cell
      clear hst c0 c1 c2
      by_cases hgo : (60 : Int) ≤ (k : Int) ∨ L - (t.size : Int) < 0
      · -- too long: awake
        rcases hgo with h | h
        · go_wp2_with fail
          refine (HA.out _).mono ?_
          rintro e w1 ⟨rfl, hb⟩
          go_wp2_with fail
          go_ret
          exact ⟨rfl, HS.out.bel.trans (hb.mono HS.out.bel.size)⟩
        · by_cases h60 : (60 : Int) ≤ (k : Int)
          · go_wp2_with fail
            refine (HA.out _).mono ?_
            rintro e w1 ⟨rfl, hb⟩
            go_wp2_with fail
            go_ret
            exact ⟨rfl, HS.out.bel.trans (hb.mono HS.out.bel.size)⟩
          · go_wp2_with fail
            refine (HA.out _).mono ?_
            rintro e w1 ⟨rfl, hb⟩
            go_wp2_with fail
            go_ret
            exact ⟨rfl, HS.out.bel.trans (hb.mono HS.out.bel.size)⟩
      · have hn1 : ¬ (60 : Int) ≤ (k : Int) := fun h => hgo (.inl h)
        have hn2 : ¬ L - (t.size : Int) < 0 := fun h => hgo (.inr h)
        have dA : ∀ O, (wr.alloc O).cell? ⟨g, off + k * 3, none⟩ = some (.int .u8 dd) := fun O => vcell_later (below_one wr O) q0
        clear hgo
        go_upto_block 2 with fail
        have hwas := one_new wr (.slice a0 n0 p0) 26
        have hbw := below_one wr (.cells #[.slice a0 n0 p0] 26)
        have hsz1 : (wr.alloc (.cells #[.slice a0 n0 p0] 26)).heap.size = wr.heap.size + 1 := by simp
        have hgr : g < wr.heap.size := Nat.lt_of_lt_of_le hg HS.out.bel.size
        have H1 := Lib.hid (And.intro (HS.out.below hbw) hwas)
        have r0 := vcell_later hbw q0
        have r1 := vcell_later hbw q1
        have r2 := vcell_later hbw q2
        have hgw := HS.out.one.lt
        have hne : w.heap.size ≠ wr.heap.size := by omega
        clear q0 q1 q2 dA hbw hwas e0
        generalize wr.alloc (.cells #[.slice a0 n0 p0] 26) = W1 at *
        have e0 := H1.out.1.one.cell
        have e9 := H1.out.2.cell
        have hrem : IntKind.u8.wrap ((dd : Int) % 3) = (dd : Int) % 3 := by rw [IntKind.wrap_u8]; omega
        go_cut [6] (fun d wx => ∃ acc2 s2, StC w wx w.heap.size s2 d acc2)
        case first => as_aux_lemma =>
          have HW1 := Lib.hid (And.intro r0 (And.intro r1 r2))
          have hgr1 : g < W1.heap.size := by omega
          have HSZ1 := Lib.hid hsz1
          clear hsz1
          have hgc1 := H1.out.1.one.lt
          rcases (by omega : dd % 3 = 0 ∨ dd % 3 = 1 ∨ dd % 3 = 2) with hm | hm | hm
          · have hm0 : (((dd : Int) % 3) == 0) = true := by rw [beq_iff_eq]; omega
            clear hm
            have HKP : Hid (∀ X, Below W1.heap.size W1 X → X.cell? ⟨w.heap.size, 0, none⟩ = some (.slice a0 n0 p0) ∧ X.cell? ⟨g, off + k * 3 + 1, none⟩ = some (.int .u64 x) ∧ X.cell? ⟨g, off + k * 3 + 2, none⟩ = some (.string t) ∧ Below W1.heap.size W1 X) := Lib.hid (fun X hX => ⟨(hX.cell (p := ⟨w.heap.size, 0, none⟩) hgc1).trans e0, (hX.cell (p := ⟨g, off + k * 3 + 1, none⟩) hgr1).trans r1, (hX.cell (p := ⟨g, off + k * 3 + 2, none⟩) hgr1).trans r2, hX⟩)
            have HPU := Lib.hid (fun X (hX : Below W1.heap.size W1 X) => put_any _ acc x t X (H1.out.1.ch.below hX) hx ht)
            clear r0 e9
            go_upto_region 13 with fail
            go_cut [10, 11] (fun p e wx => ∃ g10 s', p = .pointer (some ⟨g10, 0, none⟩) ∧ e = .int .i64 (putE acc x t : Nat) ∧ One wx g10 s' ∧ ChS wx s' (putL acc x t) ∧ Below W1.heap.size W1 wx)
            case first =>
              go_region_held3 (fun w' => w'.cell? ⟨w.heap.size, 0, none⟩ = some (.slice a0 n0 p0) ∧ w'.cell? ⟨g, off + k * 3 + 1, none⟩ = some (.int .u64 x) ∧ w'.cell? ⟨g, off + k * 3 + 2, none⟩ = some (.string t) ∧ Below W1.heap.size W1 w') (first | exact HKP.out _ (by assumption) | exact HKP.out _ (hbb.alloc hbb.size _) | exact HKP.out _ (hbb.setCell (p := ⟨W1.heap.size, 0, none⟩) (Nat.le_refl _) _) | exact HKP.out _ ((hbb.alloc hbb.size _).setCell (p := ⟨w1.heap.size, 0, none⟩) hbb.size _) | exact HKP.out _ (by go_grown)) ((go_at_call 9; refine (HPU.out _ (by go_grown)).mono ?_; rintro e w1 ⟨s', rfl, hc1, hb⟩; obtain ⟨a7, n7, p7, rfl⟩ := hc1.form; have hbb : Below W1.heap.size W1 w1 := (by go_grown : Below W1.heap.size W1 _).trans (hb.mono (by simp)); try (have o7 : One w1 W1.heap.size (.slice none 0 0) := (one_new W1.drew (.slice none 0 0) 26).below hb; have f0 := o7.cell; have f1 := o7.frz)))
              all_goals
                go_wp2_with fail
                go_meet
                case rel => first | exact ⟨_, _, rfl, rfl, one_new _ _ _, hc1.below (below_one _ _), hbb.trans ((below_one _ _).mono hbb.size)⟩ | exact ⟨_, _, rfl, rfl, o7.set _, hc1.set o7 _, hbb.setCell (p := ⟨W1.heap.size, 0, none⟩) (Nat.le_refl _) _⟩
            case rest =>
              obtain ⟨g10, s', rfl, rfl, h10, hch10, hb10⟩ := hcut
              generalize wc = W2 at *
              obtain ⟨a7, n7, p7, rfl⟩ := hch10.form
              have HX2 := Lib.hid (And.intro h10 (And.intro hch10 hb10))
              have H2 := Lib.hid (And.intro (H1.out.1.below hb10) (H1.out.2.below hb10))
              have hgr2 : g < W2.heap.size := Nat.lt_of_lt_of_le hgr1 hb10.size
              have s1 := (hb10.cell (p := ⟨g, off + k * 3 + 1, none⟩) hgr1).trans r1
              have s2 := (hb10.cell (p := ⟨g, off + k * 3 + 2, none⟩) hgr1).trans r2
              have HKP2 : Hid (∀ X, Below W2.heap.size W2 X → X.cell? ⟨g, off + k * 3 + 1, none⟩ = some (.int .u64 x) ∧ X.cell? ⟨g, off + k * 3 + 2, none⟩ = some (.string t) ∧ Below W2.heap.size W2 X) := Lib.hid (fun X hX => ⟨(hX.cell (p := ⟨g, off + k * 3 + 1, none⟩) hgr2).trans s1, (hX.cell (p := ⟨g, off + k * 3 + 2, none⟩) hgr2).trans s2, hX⟩)
              have HRP := Lib.hid (fun X (hX : Below W2.heap.size W2 X) => rput_any u6 acc x t X (H2.out.1.its.below hX) (by omega) hx)
              clear HKP HPU h10 hch10 hb10 r1 r2 e0
              go_upto_region 14 with fail
              go_cut [12, 13] (fun y f wx => f = .int .i64 (putE acc x t : Nat) ∧ ItsAt wx y (putL acc x t) ∧ Below W2.heap.size W2 wx)
              case first =>
                go_region_held3 (fun w' => w'.cell? ⟨g, off + k * 3 + 1, none⟩ = some (.int .u64 x) ∧ w'.cell? ⟨g, off + k * 3 + 2, none⟩ = some (.string t) ∧ Below W2.heap.size W2 w') (first | exact HKP2.out _ (by assumption) | exact HKP2.out _ (by go_grown)) ((go_at_call 10; refine (HRP.out _ (by go_grown)).mono ?_; rintro e w1 ⟨d', rfl, hd1, hb⟩; have hbb : Below W2.heap.size W2 w1 := (by go_grown : Below W2.heap.size W2 _).trans (hb.mono (by simp))))
                all_goals
                  go_wp2_with fail
                  go_meet
                  case rel => exact ⟨rfl, hd1, hbb⟩
              case rest =>
                obtain ⟨rfl, hy, hb12⟩ := hcut
                generalize wc = W3 at *
                have H3 := Lib.hid (And.intro (H2.out.1.below hb12) (And.intro (H2.out.2.below hb12) (And.intro (HX2.out.1.below hb12) (And.intro (HX2.out.2.1.below hb12) hy))))
                have f10 := H3.out.2.2.1.cell
                have hfew2 := H3.out.2.2.2.1.good.few
                clear hy hb12 HKP2 HRP s1 s2
                have HIA := Lib.hid (items_any _ _ _ (H3.out.2.2.2.1))
                go_wp2_with fail
                refine HIA.out.mono ?_
                rintro e wiA ⟨viA, rfl, hiA, hbiA⟩
                have HBIA := Lib.hid hbiA
                have HKA := Lib.hid (back_any _ _ _ hiA (by omega))
                clear hiA hbiA HIA f10
                go_wp2_with fail
                refine HKA.out.mono ?_
                rintro e wkA ⟨vkA, rfl, hkA, hbkA⟩
                have HBKA := Lib.hid (HBIA.out.trans (hbkA.mono HBIA.out.size))
                have HSA := Lib.hid (rsame_any _ _ _ _ _ hkA.itsAt (H3.out.2.2.2.2.below HBKA.out))
                rw [decide_eq_true rfl] at HSA
                clear hkA hbkA HKA
                go_wp2_with fail
                refine HSA.out.mono ?_
                rintro e wsA ⟨rfl, hbsA⟩
                have HBSA := Lib.hid (HBKA.out.trans (hbsA.mono HBKA.out.size))
                clear hbsA HSA
                have f9 := (H3.out.2.1.below HBSA.out).cell
                have HIB := Lib.hid (items_any _ _ _ (H3.out.1.ch.below HBSA.out))
                go_wp2_with fail
                refine HIB.out.mono ?_
                rintro e wiB ⟨viB, rfl, hiB, hbiB⟩
                have HBIB := Lib.hid hbiB
                have HKB := Lib.hid (back_any _ _ _ hiB (by omega))
                clear hiB hbiB HIB f9
                go_wp2_with fail
                refine HKB.out.mono ?_
                rintro e wkB ⟨vkB, rfl, hkB, hbkB⟩
                have HBKB := Lib.hid (HBIB.out.trans (hbkB.mono HBIB.out.size))
                have HSB := Lib.hid (rsame_any _ _ _ _ _ hkB.itsAt (H3.out.1.its.below (HBSA.out.trans (HBKB.out.mono HBSA.out.size))))
                rw [decide_eq_true rfl] at HSB
                clear hkB hbkB HKB
                go_wp2_with fail
                refine HSB.out.mono ?_
                rintro e wsB ⟨rfl, hbsB⟩
                have HBSB := Lib.hid (HBKB.out.trans (hbsB.mono HBKB.out.size))
                clear hbsB HSB
                have HBF := Lib.hid (HBSA.out.trans (HBSB.out.mono HBSA.out.size))
                have f10 := (H3.out.2.2.1.below HBF.out).cell
                have f5 := (H3.out.1.one.below HBF.out).cell
                have f6 := (H3.out.1.one.below HBF.out).frz
                clear HBSA HBSB
                go_wp2_with fail
                go_meet
                case rel => exact ⟨_, _, (H3.out.1.one.below HBF.out).set _, (H3.out.2.2.2.1.below HBF.out).set (H3.out.1.one.below HBF.out) _, (H3.out.2.2.2.2.below HBF.out).set (H3.out.1.one.below HBF.out) _, (H3.out.1.below HBF.out).bel.setCell (p := ⟨w.heap.size, 0, none⟩) (Nat.le_refl _) _⟩
          · have hm0 : (((dd : Int) % 3) == 0) = false := by rw [beq_eq_false_iff_ne]; omega
            have hm1 : (((dd : Int) % 3) == 1) = true := by rw [beq_iff_eq]; omega
            clear hm
            have HDE := Lib.hid (fun X (hX : Below W1.heap.size W1 X) => del_any _ acc x X (H1.out.1.ch.below hX) hx)
            have f1 := H1.out.1.one.frz
            clear e9
            go_upto_region 19 with fail
            go_cut [] (fun wx => ∃ s', One wx w.heap.size s' ∧ ChS wx s' (delI x acc) ∧ One wx wr.heap.size (.slice a0 n0 p0) ∧ ChS wx (.slice a0 n0 p0) acc ∧ ItsAt wx u6 acc ∧ Below w.heap.size w wx)
            case first =>
              go_region_with (go_at_call 14; refine (HDE.out _ (by go_grown)).mono ?_; rintro e w1 ⟨s', rfl, hc1, hb⟩; obtain ⟨a7, n7, p7, rfl⟩ := hc1.form; have hbb : Below W1.heap.size W1 w1 := (by go_grown : Below W1.heap.size W1 _).trans (hb.mono (by simp)); have o7 := H1.out.1.one.below hbb; have f7 := o7.cell; have f8 := o7.frz)
              all_goals
                go_wp2_with fail
                go_meet
                case rel => exact ⟨_, o7.set _, hc1.set o7 _, (H1.out.2.below hbb).set_other (by omega) _, (H1.out.1.ch.below hbb).set o7 _, (H1.out.1.its.below hbb).set o7 _, (H1.out.1.below hbb).bel.setCell (p := ⟨w.heap.size, 0, none⟩) (Nat.le_refl _) _⟩
            case rest =>
              obtain ⟨s', h1, h2, h3, h4, h5, h6⟩ := hcut
              generalize wc = W2 at *
              have H2 := Lib.hid (And.intro h1 (And.intro h2 (And.intro h3 (And.intro h4 (And.intro h5 h6)))))
              have f9 := h3.cell
              clear h1 h2 h3 h4 h5 h6 r0 r1 r2 e0 f1
              have HIC := Lib.hid (items_any _ _ _ (H2.out.2.2.2.1))
              go_wp2_with fail
              refine HIC.out.mono ?_
              rintro e wiC ⟨viC, rfl, hiC, hbiC⟩
              have HBIC := Lib.hid hbiC
              have HKC := Lib.hid (back_any _ _ _ hiC (by omega))
              clear hiC hbiC HIC f9
              go_wp2_with fail
              refine HKC.out.mono ?_
              rintro e wkC ⟨vkC, rfl, hkC, hbkC⟩
              have HBKC := Lib.hid (HBIC.out.trans (hbkC.mono HBIC.out.size))
              have HSC := Lib.hid (rsame_any _ _ _ _ _ hkC.itsAt (H2.out.2.2.2.2.1.below HBKC.out))
              rw [decide_eq_true rfl] at HSC
              clear hkC hbkC HKC
              go_wp2_with fail
              refine HSC.out.mono ?_
              rintro e wsC ⟨rfl, hbsC⟩
              have HBSC := Lib.hid (HBKC.out.trans (hbsC.mono HBKC.out.size))
              clear hbsC HSC
              have HRD := Lib.hid (rdel_any u6 acc x _ (H2.out.2.2.2.2.1.below HBSC.out) (by omega))
              have hbt := H2.out.2.2.2.2.2.trans (HBSC.out.mono H2.out.2.2.2.2.2.size)
              have s1 := (hbt.cell (p := ⟨g, off + k * 3 + 1, none⟩) hg).trans HCC.out.2.1
              have hgs := Nat.lt_of_lt_of_le hg hbt.size
              clear hbt
              go_wp2_with fail
              refine HRD.out.mono ?_
              rintro e w9 ⟨v9, rfl, ho9, hb9⟩
              have HB9 := Lib.hid (HBSC.out.trans (hb9.mono HBSC.out.size))
              have HO9 := Lib.hid ho9
              clear hb9 ho9 HRD s1
              go_wp2_with fail
              go_meet
              case rel => exact ⟨_, _, H2.out.1.below HB9.out, H2.out.2.1.below HB9.out, HO9.out.itsAt, H2.out.2.2.2.2.2.trans (HB9.out.mono H2.out.2.2.2.2.2.size)⟩
          · have hm0 : (((dd : Int) % 3) == 0) = false := by rw [beq_eq_false_iff_ne]; omega
            have hm1 : (((dd : Int) % 3) == 1) = false := by rw [beq_eq_false_iff_ne]; omega
            clear hm
            go_wp2_with fail
            go_meet
            case rel => exact ⟨acc, _, H1.out.1⟩
        case rest => as_aux_lemma =>
          obtain ⟨acc2, s2, hst⟩ := hcut
          generalize wc = W4 at *
          obtain ⟨a3, n3, p3, rfl⟩ := hst.ch.form
          have hst2 := hst.its
          obtain ⟨ad, cd, rfl, -, -, -⟩ := hst2
          have H4 := Lib.hid hst
          have hfew4 := hst.ch.good.few
          have hby4 := good_bytes hst.ch.good
          have t1 := (hst.bel.cell (p := ⟨g, off + k * 3 + 1, none⟩) hg).trans HCC.out.2.1
          have hgt := Nat.lt_of_lt_of_le hg hst.bel.size
          have e4 := hst.one.cell
          have HGE := Lib.hid (fun X (hX : Below W4.heap.size W4 X) => get_any _ acc2 x X (hst.ch.below hX) hx)
          have HRG := Lib.hid (fun X (hX : Below W4.heap.size W4 X) => rget_any _ acc2 x X (hst.its.below hX))
          generalize getT (getI x acc2) = gt at *
          generalize (getI x acc2).isSome = gb at *
          clear hst r0 r1 r2 e0 e9 hsz1
          go_upto_region 23 with fail
          go_cut [14, 15] (fun t b wx => t = .string gt ∧ b = .bool gb ∧ Below W4.heap.size W4 wx)
          case first =>
            go_region_with (go_at_call 16; refine (HGE.out _ (by go_grown)).mono ?_; rintro e w1 ⟨rfl, hb⟩; have hbb : Below W4.heap.size W4 w1 := (by go_grown : Below W4.heap.size W4 _).trans (hb.mono (by simp)))
            all_goals
              go_wp2_with fail
              go_meet
              case rel => exact ⟨rfl, rfl, hbb⟩
          case rest =>
            obtain ⟨rfl, rfl, hb5⟩ := hcut
            generalize wc = W5 at *
            have HB5 := Lib.hid hb5
            have t5 := (hb5.cell (p := ⟨g, off + k * 3 + 1, none⟩) hgt).trans t1
            have hg5 := Nat.lt_of_lt_of_le hgt hb5.size
            have e5 := (H4.out.one.below hb5).cell
            have HZ := Lib.hid (zooms_any _ _ _ (H4.out.ch.below hb5))
            clear hb5 t1 e4
            go_wp2_with fail
            refine (HRG.out _ HB5.out).mono ?_
            rintro e w6 ⟨rfl, rfl⟩
            go_wp2_with fail
            refine HZ.out.mono ?_
            rintro e w7 ⟨rfl, hb7⟩
            have HB7 := Lib.hid (HB5.out.trans (hb7.mono HB5.out.size))
            have HRZ := Lib.hid (rzooms_any _ _ _ (H4.out.its.below HB7.out))
            clear hb7 HZ e5
            go_wp2_with fail
            refine HRZ.out.mono ?_
            rintro e w8 ⟨rfl, hb8⟩
            have HB8 := Lib.hid (HB7.out.trans (hb8.mono HB7.out.size))
            have e8 := (H4.out.one.below HB8.out).cell
            have HLN := Lib.hid (len_any _ _ _ (H4.out.ch.below HB8.out))
            clear hb8 HRZ
            go_wp2_with fail
            refine HLN.out.mono ?_
            rintro e w9 ⟨rfl, hb9⟩
            have HB9 := Lib.hid (HB8.out.trans (hb9.mono HB8.out.size))
            have e9 := (H4.out.one.below HB9.out).cell
            have HBY := Lib.hid (bytes_any _ _ _ (H4.out.ch.below HB9.out))
            clear hb9 HLN e8
            go_wp2_with fail
            refine HBY.out.mono ?_
            rintro e w10 ⟨rfl, hb10⟩
            have HB10 := Lib.hid (HB9.out.trans (hb10.mono HB9.out.size))
            have HRB := Lib.hid (rbytes_any _ _ _ (H4.out.its.below HB10.out) hby4)
            clear hb10 HBY e9
            go_wp2_with fail
            refine HRB.out.mono ?_
            rintro e w11 ⟨rfl, rfl⟩
            have e10 := (H4.out.one.below HB10.out).cell
            clear HRB
            have HIE := Lib.hid (items_any _ _ _ (H4.out.ch.below HB10.out))
            go_wp2_with fail
            refine HIE.out.mono ?_
            rintro e wiE ⟨viE, rfl, hiE, hbiE⟩
            have HBIE := Lib.hid hbiE
            have HKE := Lib.hid (back_any _ _ _ hiE (by omega))
            clear hiE hbiE HIE e10
            go_wp2_with fail
            refine HKE.out.mono ?_
            rintro e wkE ⟨vkE, rfl, hkE, hbkE⟩
            have HBKE := Lib.hid (HBIE.out.trans (hbkE.mono HBIE.out.size))
            have HSE := Lib.hid (rsame_any _ _ _ _ _ hkE.itsAt (H4.out.its.below (HB10.out.trans (HBKE.out.mono HB10.out.size))))
            rw [decide_eq_true rfl] at HSE
            clear hkE hbkE HKE
            go_wp2_with fail
            refine HSE.out.mono ?_
            rintro e wsE ⟨rfl, hbsE⟩
            have HBSE := Lib.hid (HBKE.out.trans (hbsE.mono HBKE.out.size))
            clear hbsE HSE
            have HBF := Lib.hid (HB10.out.trans (HBSE.out.mono HB10.out.size))
            go_wp2_with fail
            go_roundw
            case rel => exact ⟨k + 1, acc2, _, L - t.size, by omega, by go_num, rfl, by omega, by omega, H4.out.below HBF.out⟩
            case measure => simp [intOf]; omega
    · obtain rfl : k = l.length := by omega
      have e0 := hst.one.cell
      have HG := Lib.hid (get_any _ acc id _ hst.ch hid)
      have HRG := Lib.hid (fun X (hX : Below wr.heap.size wr X) => rget_any _ acc id X (hst.its.below hX))
      generalize getT (getI id acc) = gt at *
      generalize (getI id acc).isSome = gb at *
      clear hst
      go_wp2_with fail
      refine HG.out.mono ?_
      rintro e w1 ⟨rfl, hb1⟩
      have HB1 := Lib.hid hb1
      clear hb1 HG e0
      go_wp2_with fail
      refine (HRG.out _ HB1.out).mono ?_
      rintro e w2 ⟨rfl, rfl⟩
      go_wp2_with fail
      refine (HA.out _).mono ?_
      rintro e w3 ⟨rfl, hb3⟩
      have HB3 := Lib.hid (HS.out.bel.trans ((HB1.out.trans (hb3.mono HB1.out.size)).mono HS.out.bel.size))
      clear hb3
      go_wp2_with fail
      go_ret
      exact ⟨rfl, HB3.out⟩
end Go.Proofs.Ytmmjdlpoiibhaaa
