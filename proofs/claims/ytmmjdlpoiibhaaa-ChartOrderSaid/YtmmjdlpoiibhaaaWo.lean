/- The walk of ChartOrder. -/
import Derived.Test.YtmmjdlpoiibhaaaWm
import Derived.Test.YtmmjdlpoiibhaaaLq
import Derived.Test.YtmmjdlpoiibhaaaLs
namespace Go.Proofs.Ytmmjdlpoiibhaaa
open Go.RowKit
set_option maxRecDepth 20000
set_option linter.unusedVariables false
set_option linter.unusedSimpArgs false
/-- Where a chart stands. -/
structure StO (w W : World) (g : Nat) (s : Value) (acc : List It) : Prop where
  one : One W g s
  ch : ChS W s acc
  bel : Below w.heap.size w W
theorem StO.below {w W X : World} {g : Nat} {s : Value} {acc : List It} (h : StO w W g s acc) (hb : Below W.heap.size W X) : StO w X g s acc := ⟨h.one.below hb, h.ch.below hb, h.bel.trans (hb.mono h.bel.size)⟩
theorem good_bytes {l : List It} (h : GoodC l) : bytesI l ≤ 1000000000 := by
  have h1 : ∀ l : List It, (∀ t ∈ l, t.2.size ≤ 65536) → bytesI l ≤ l.length * 65536 := by
    intro l
    induction l with
    | nil => intro _; simp [bytesI]
    | cons t l ih =>
      intro h
      have h2 := h t (by simp)
      have h3 := ih (fun x hx => h x (by simp [hx]))
      rw [bytesI, List.length_cons, Nat.succ_mul]
      omega
  have h2 := h1 l h.short
  have h3 := h.few
  omega
theorem nempty_no {s : ByteArray} (h : 0 < s.size) : s.toList.isEmpty = false := by
  rw [ByteArray.toList_eq, List.isEmpty_eq_false_iff]
  intro e
  have : s.data.size = 0 := by rw [← Array.length_toList, e]; rfl
  have : s.size = 0 := this
  omega
set_option maxRecDepth 20000 in
set_option maxHeartbeats 1000000 in
theorem chartorder_law (v : Value) (l : List It) (tn : Nat) (w : World) (hv : ItsAt w v l) (htn : tn < 256) (il : ∀ t ∈ l, t.1 < 18446744073709551616) (sl : ∀ t ∈ l, t.2.size ≤ maxLen) :
    Calls Try.prog 6 #[v, .int .u8 tn] w fun e w' => e = .returned (.bool true) ∧ Below w.heap.size w w' := by
  have HA := Lib.hid awakeC_any
  have HO1 := Lib.hid (over_any v l 60 3000 w hv sl (by omega) (by omega))
  have HV := Lib.hid hv
  obtain ⟨al, cap, rfl, hcap, hmx, hc⟩ := hv
  cases h1 : overI l 60 3000 with
  | true =>
    rw [h1] at HO1
    clear hc h1
    go_enter Try.func6, Try.ntmps6
    go_wp2_with fail
    refine HO1.out.mono ?_
    rintro e w1 ⟨rfl, rfl⟩
    go_wp2_with fail
    refine (HA.out _).mono ?_
    rintro e w2 ⟨rfl, hb⟩
    go_wp2_with fail
    go_ret
    exact ⟨rfl, hb⟩
  | false =>
    obtain ⟨bl, ll⟩ := over_no (m := 60) (M := 3000) h1
    rw [h1] at HO1
    have HOW := Lib.hid (own_any _ l w HV.out (by omega) il sl)
    clear hc h1 bl
    generalize hac : ownI l = acc at *
    clear hac
    go_enter Try.func6, Try.ntmps6
    go_wp2_with fail
    refine HO1.out.mono ?_
    rintro e w1 ⟨rfl, rfl⟩
    go_wp2_with fail
    refine HOW.out.mono ?_
    rintro e w2 ⟨s, d, rfl, hch, hd, hb2⟩
    obtain ⟨a5, n5, p5, rfl⟩ := hch.form
    have b5 := below_one w2 (.cells #[.slice a5 n5 p5] 26)
    have h5 := one_new w2 (.slice a5 n5 p5) 26
    have HX := Lib.hid (And.intro h5 (And.intro (hch.below b5) (hb2.trans (b5.mono hb2.size))))
    have HIT := Lib.hid (items_any _ _ _ (hch.below b5))
    clear hch hd hb2 b5 h5 HO1 HOW
    go_wp2_with fail
    generalize w2.alloc (.cells #[.slice a5 n5 p5] 26) = W5 at *
    generalize w2.heap.size = g5 at *
    refine HIT.out.mono ?_
    rintro e W ⟨v7, rfl, hi7, hb7⟩
    have HG := Lib.hid HX.out.2.1.good
    have HS := Lib.hid (show StO w1 W g5 (.slice a5 n5 p5) acc from ⟨HX.out.1.below hb7, HX.out.2.1.below hb7, HX.out.2.2.trans (hb7.mono HX.out.2.2.size)⟩)
    have HI7 := Lib.hid hi7
    have hfew := HX.out.2.1.good.few
    have hby := good_bytes HX.out.2.1.good
    obtain ⟨ai, ci, rfl, hic, him, hcc⟩ := hi7
    have HCC := Lib.hid hcc
    clear hb7 hcc HX HIT
    go_wp2_with fail
    go_loopw [8, 9] (fun n i wr => ∃ k : Nat, k ≤ acc.length ∧ i = .int .i64 k ∧ n = .int .i64 (bytesI (acc.take k) : Nat) ∧ Below W.heap.size W wr) (fun _ i _ => acc.length - (intOf i).toNat)
    case atStart => exact ⟨0, Nat.zero_le _, rfl, by simp [bytesI], Below.refl _ _⟩
    case round =>
      obtain ⟨k, hk, rfl, rfl, hbw⟩ := hrel
      by_cases hlt : k < acc.length
      · obtain ⟨⟨x, t⟩, htk⟩ : ∃ t, acc[k]? = some t := ⟨_, List.getElem?_eq_getElem hlt⟩
        obtain ⟨g, off, rfl, hg, c0, c1⟩ := HCC.out k _ htk
        have hmem := List.mem_of_getElem? htk
        have hx1 := HG.out.low _ hmem
        have hx2 := HG.out.pos _ hmem
        have HGA := Lib.hid (get_at HG.out.rise k _ htk)
        have h1 := bytesI_step acc k _ htk
        have h2 := bytesI_take acc (k + 1)
        have HB1 := Lib.hid h1
        simp only at hx1 hx2 HGA h1 HB1
        have q0 := (hbw.cell (p := ⟨g, off + k * 2, none⟩) hg).trans c0
        have q1 := (hbw.cell (p := ⟨g, off + k * 2 + 1, none⟩) hg).trans c1
        have e5 := (HS.out.one.below hbw).cell
        have hgr := Nat.lt_of_lt_of_le hg hbw.size
        have hki : (k : Int) < (acc.length : Int) := by omega
        have HGT := Lib.hid (fun X (hX : Below wr.heap.size wr X) => get_any _ acc x X ((HS.out.ch.below hbw).below hX) (by omega))
        rw [HGA.out] at HGT
        have HBW := Lib.hid hbw
        clear hbw
        go_upto_region 9 with fail
        go_cut [10, 11] (fun s b wx => s = .string t ∧ b = .bool true ∧ Below wr.heap.size wr wx)
        case first =>
          go_region_with (go_at_call 16; refine (HGT.out _ (by go_grown)).mono ?_; rintro e w1 ⟨rfl, hb⟩; have hbb : Below wr.heap.size wr w1 := (by go_grown : Below wr.heap.size wr _).trans (hb.mono (by simp)))
          all_goals
            go_wp2_with fail
            go_meet
            case rel => exact ⟨rfl, rfl, hbb⟩
        case rest =>
          obtain ⟨rfl, rfl, hb9⟩ := hcut
          generalize wc = W9 at *
          have r0 := (hb9.cell (p := ⟨g, off + k * 2, none⟩) hgr).trans q0
          have r1 := (hb9.cell (p := ⟨g, off + k * 2 + 1, none⟩) hgr).trans q1
          have HB9 := Lib.hid (HBW.out.trans (hb9.mono HBW.out.size))
          have hem := nempty_no hx2
          have hcount : decide ((6004799503160661 : Int) ≤ (x : Int)) = false := by simp; omega
          clear hb9 q0 q1 e5 HGT HGA
          have hse := str_yes (a := t) (b := t) rfl
          have hx9 : ¬ (6004799503160661 : Int) ≤ (x : Int) := by omega
          clear hx9
          have HLE := Lib.hid h2
          clear h1 h2
          have hq9 : bytesI (acc.take k) + t.size ≤ 1000000000 := by have := HLE.out; rw [HB1.out] at this; omega
          generalize bytesI (acc.take k) = q at *
          cases k with
          | succ j =>
            obtain ⟨⟨y, u⟩, hju⟩ : ∃ t, acc[j]? = some t := ⟨_, List.getElem?_eq_getElem (by omega)⟩
            obtain ⟨g', off', e, hg', d0, d1⟩ := HCC.out j _ hju
            cases e
            have hlt2 := rise_at HG.out.rise j _ _ hju htk
            simp only at hlt2
            have s0 := (HB9.out.cell (p := ⟨g, off + j * 2, none⟩) hg).trans d0
            have hj1 : IntKind.i64.wrap (j : Int) = (j : Int) := by rw [IntKind.wrap_i64] <;> omega
            have hj3 : (j : Int) < (acc.length : Int) := by omega
            have hj4 : (j : Int) + 1 < (acc.length : Int) := by omega
            have hj5 : (0 : Int) < (j : Int) + 1 := by omega
            have hj6 : ((j : Int) + 1).toNat = j + 1 := by omega
            have hj7 : (0 : Int) ≤ (j : Int) + 1 := by omega
            have hxd : decide (x ≤ y) = false := decide_eq_false (by omega)
            clear d0 d1 hlt2 hju hk hlt htk hmem
            go_wp2_with fail
            go_quiet (fail)
            have HBN : Hid (Below W.heap.size W (W9.drewN nq)) := Lib.hid (HB9.out.trans ⟨rfl, rfl, rfl, Nat.le_refl _, fun _ _ => rfl⟩)
            generalize W9.drewN nq = W10 at *
            clear r0 r1
            go_wp2_with fail
            go_roundw
            case rel => exact ⟨(j + 1) + 1, by omega, by go_num, by rw [HB1.out]; go_num, HBN.out⟩
            case measure => simp [intOf]; omega
          | zero =>
            simp only [Nat.zero_mul, Nat.add_zero, Nat.zero_add] at r0 r1
            have hk0 : (0 : Int) < (acc.length : Int) := by omega
            clear hki hlt hk htk hmem c0 c1
            go_wp2_with fail
            go_quiet (fail)
            have HBN : Hid (Below W.heap.size W (W9.drewN nq)) := Lib.hid (HB9.out.trans ⟨rfl, rfl, rfl, Nat.le_refl _, fun _ _ => rfl⟩)
            generalize W9.drewN nq = W10 at *
            clear r0 r1
            go_wp2_with fail
            go_roundw
            case rel => exact ⟨0 + 1, by omega, by go_num, by rw [HB1.out]; go_num, HBN.out⟩
            case measure => simp [intOf]; omega
      · obtain rfl : k = acc.length := by omega
        rw [List.take_length]
        have HBW := Lib.hid hbw
        have HS6 := Lib.hid (HS.out.below hbw)
        have hI6 : ItsAt wr (.slice ai acc.length ci) acc := HI7.out.below hbw
        clear hbw
        by_cases hz : acc.length = 0
        · obtain rfl : acc = [] := List.eq_nil_of_length_eq_zero hz
          have HOF := Lib.hid (fun X q (hq : ItsAt X q []) => of_any q [] X hq (by simp) (fun t ht => by simp at ht) (fun t ht => by simp at ht))
          rw [show ofI ([] : List It) = ([], 0) from rfl] at HOF
          clear hI6 hz
          simp only [List.length_nil] at *
          go_upto_region 16 with fail
          go_cut [13, 14] (fun p e wx => ∃ g13 s, p = .pointer (some ⟨g13, 0, none⟩) ∧ e = .int .i64 0 ∧ One wx g13 s ∧ ChS wx s [] ∧ Below wr.heap.size wr wx)
          case first =>
            go_region_law (first | (refine step_itappend rfl (.tmp 95) (.tmp 98) rfl wr.heap.size (.slice (some ⟨wr.heap.size, 0, none⟩) 0 0) _ [] [] (own_built _ wr.heap.size _ (heap_new wr.drew _) (Nat.le_refl _)) (by simp [Act.eval, Act.put]; exact ⟨_, _, rfl, Nat.zero_le _, by first | exact him | omega, fun k t h => by simp at h⟩) (by simp) (by simp; try omega) (by simp [Act.eval, Act.put]) rfl ?_; intro v1 x1 ho1 hg1; have hb1 : Below wr.heap.size wr x1 := Below.grown (by go_grown) hg1 (by simp; try omega) (fun k hk => by cases hk; first | exact Nat.le_refl _ | exact Nat.le_succ _)) | (refine step_itappend rfl (.tmp 95) (.tmp 98) rfl wr.heap.size (.slice (some ⟨wr.heap.size + 1, 0, none⟩) 0 0) _ [] [] (own_built _ wr.heap.size _ (heap_new2 wr.drew _ _) (Nat.le_succ _)) (by simp [Act.eval, Act.put]; exact ⟨_, _, rfl, Nat.zero_le _, by first | exact him | omega, fun k t h => by simp at h⟩) (by simp) (by simp; try omega) (by simp [Act.eval, Act.put]) rfl ?_; intro v1 x1 ho1 hg1; have hb1 : Below wr.heap.size wr x1 := Below.grown (by go_grown) hg1 (by simp; try omega) (fun k hk => by cases hk; first | exact Nat.le_refl _ | exact Nat.le_succ _); have o1 := One.grown (w := _) (show One _ wr.heap.size (.slice none 0 0) from ⟨26, heap_old2 wr.drew _ _⟩) (own_built _ wr.heap.size _ (heap_new2 wr.drew _ _) (Nat.le_succ _)) hg1) | (refine step_itappend rfl (.tmp 95) (.tmp 98) rfl wr.heap.size (.slice (some ⟨wr.heap.size, 0, none⟩) 0 0) _ [] [] (own_built _ wr.heap.size _ (heap_old2 wr.drew _ _) (Nat.le_refl _)) (by simp [Act.eval, Act.put]; exact ⟨_, _, rfl, Nat.zero_le _, by first | exact him | omega, fun k t h => by simp at h⟩) (by simp) (by simp; try omega) (by simp [Act.eval, Act.put]) rfl ?_; intro v1 x1 ho1 hg1; have hb1 : Below wr.heap.size wr x1 := Below.grown (by go_grown) hg1 (by simp; try omega) (fun k hk => by cases hk; first | exact Nat.le_refl _ | exact Nat.le_succ _); have o1 := One.grown (w := _) (show One _ (wr.heap.size + 1) (.slice none 0 0) from ⟨26, heap_new2 wr.drew _ _⟩) (own_built _ wr.heap.size _ (heap_old2 wr.drew _ _) (Nat.le_refl _)) hg1) | (refine step_itappend rfl (.tmp 99) (.tmp 102) rfl wr.heap.size v1 _ [] [] (ho1) (by simp [Act.eval, Act.put]; exact ⟨_, _, rfl, Nat.zero_le _, by first | exact him | omega, fun k t h => by simp at h⟩) (by simp) (by have := hb1.size; simp; try omega) (by simp [Act.eval, Act.put]) rfl ?_; intro v2 x2 ho2 hg2; have hb2 : Below wr.heap.size wr x2 := Below.grown (hb1) hg2 (by have := hb1.size; simp; try omega) (fun k hk => (ho1.lt k hk).1); first | (have o2 := o1.grown ho1 hg2) | (have o0 : x2 = x2 := rfl)) | (refine step_itappend rfl (.tmp 99) (.tmp 102) rfl wr.heap.size v1 _ [] [] (ho1.below (below_one _ _)) (by simp [Act.eval, Act.put]; exact ⟨_, _, rfl, Nat.zero_le _, by first | exact him | omega, fun k t h => by simp at h⟩) (by simp) (by have := hb1.size; simp; try omega) (by simp [Act.eval, Act.put]) rfl ?_; intro v2 x2 ho2 hg2; have hb2 : Below wr.heap.size wr x2 := Below.grown (hb1.alloc hb1.size _) hg2 (by have := hb1.size; simp; try omega) (fun k hk => (ho1.lt k hk).1); first | (have o2 := (one_new x1 (.slice none 0 0) 26).grown (ho1.below (below_one _ _)) hg2) | (have o0 : x2 = x2 := rfl)) | (go_simp; go_at_call 24; refine (HOF.out _ _ (by first | exact ho2.itsAt | exact (ho2.below (below_one _ _)).itsAt)).mono ?_; rintro e w3 ⟨s', rfl, hc3, hb3⟩; obtain ⟨a7, n7, p7, rfl⟩ := hc3.form; have hb4 : Below wr.heap.size wr w3 := (by first | exact hb2.trans (hb3.mono hb2.size) | exact (hb2.alloc hb2.size _).trans (hb3.mono (by have := hb2.size; simp; omega))); first | (have o3 := o2.below hb3; have f0 := o3.cell; have f1 := o3.frz) | (have o4 : One w3 x2.heap.size (.slice none 0 0) := (one_new x2 (.slice none 0 0) 26).below hb3; have f0 := o4.cell; have f1 := o4.frz) | (have o0 : x2 = x2 := rfl)))
            all_goals
              go_wp2_with fail
              go_meet
              case rel => first | exact ⟨_, _, rfl, rfl, one_new _ _ _, hc3.below (below_one _ _), hb4.trans ((below_one _ _).mono hb4.size)⟩ | exact ⟨_, _, rfl, rfl, o3.set _, hc3.set o3 _, hb4.setCell (p := ⟨_, 0, none⟩) (by first | exact Nat.le_refl _ | exact Nat.le_succ _ | exact hb1.size) _⟩ | exact ⟨_, _, rfl, rfl, o4.set _, hc3.set o4 _, hb4.setCell (p := ⟨x2.heap.size, 0, none⟩) hb2.size _⟩
          case rest =>
            obtain ⟨g13, s13, rfl, rfl, h13, hc13, hb13⟩ := hcut
            generalize wc = W9 at *
            obtain ⟨a13, n13, p13, rfl⟩ := hc13.form
            have HS9 := Lib.hid (HS6.out.below hb13)
            have H13 := Lib.hid (And.intro h13 hc13)
            have q5 := HS9.out.one.cell
            have HLN := Lib.hid (len_any _ _ _ HS9.out.ch)
            clear h13 hc13 hb13 HOF
            go_wp2_with fail
            refine HLN.out.mono ?_
            rintro e w9 ⟨rfl, hb9⟩
            have HB9 := Lib.hid hb9
            have q6 := (HS9.out.one.below hb9).cell
            have HBY := Lib.hid (bytes_any _ _ _ (HS9.out.ch.below hb9))
            clear hb9 HLN q5
            go_wp2_with fail
            refine HBY.out.mono ?_
            rintro e w10 ⟨rfl, hb10⟩
            have HB10 := Lib.hid (HB9.out.trans (hb10.mono HB9.out.size))
            have q5 := (HS9.out.one.below HB10.out).cell
            have q13 := (H13.out.1.below HB10.out).cell
            have HSA := Lib.hid (same_any _ _ _ _ _ (HS9.out.ch.below HB10.out) (H13.out.2.below HB10.out))
            rw [decide_eq_true rfl] at HSA
            clear hb10 HBY q6
            go_wp2_with fail
            refine HSA.out.mono ?_
            rintro e w11 ⟨rfl, hb11⟩
            have HB11 := Lib.hid (HB10.out.trans (hb11.mono HB10.out.size))
            clear hb11 HSA q5 q13
            go_wp2_with fail
            refine (HA.out _).mono ?_
            rintro e w12 ⟨rfl, hb12⟩
            have HB12 := Lib.hid (HB11.out.trans (hb12.mono HB11.out.size))
            clear hb12
            go_wp2_with fail
            go_ret
            exact ⟨rfl, HS9.out.bel.trans (HB12.out.mono HS9.out.bel.size)⟩
        · obtain ⟨c, hc⟩ : ∃ c : Nat, c = tn % acc.length := ⟨_, rfl⟩
          have hcl : c < acc.length := by rw [hc]; exact Nat.mod_lt _ (by omega)
          have hcm : (tn : Int).tmod (acc.length : Int) = (c : Int) := by rw [Int.tmod_eq_emod_of_nonneg (by omega), hc]; rfl
          have hzi : (0 : Int) < (acc.length : Int) := by omega
          have hzn : ¬ (acc.length : Int) = 0 := by omega
          obtain ⟨g, off, rfl⟩ : ∃ g off, ai = some ⟨g, off, none⟩ := by
            obtain ⟨g, off, e, _⟩ := HCC.out 0 _ (List.getElem?_eq_getElem (by omega))
            exact ⟨g, off, e⟩
          have HP1 := Lib.hid (hI6.post c (by omega))
          have HP2 := Lib.hid (hI6.pre c (by omega))
          have hci : ¬ ci = c := by omega
          have hcc1 : (c : Int) ≤ (ci : Int) := by omega
          have hcc2 : (c : Int) ≤ (acc.length : Int) := by omega
          clear hI6 hc
          go_upto_region 16 with fail
          have HOF := Lib.hid (fun X q (hq : ItsAt X q (acc.drop c ++ acc.take c)) => of_any q _ X hq (by rw [List.length_append, List.length_drop, List.length_take]; omega) (fun t ht => by have := HG.out.low t ((rot_perm acc c).mem_iff.1 ht); omega) (fun t ht => by have := HG.out.short t ((rot_perm acc c).mem_iff.1 ht); unfold maxLen; omega))
          rw [of_perm acc _ HG.out (rot_perm acc c)] at HOF
          go_cut [13, 14] (fun p e wx => ∃ g13 s, p = .pointer (some ⟨g13, 0, none⟩) ∧ e = .int .i64 0 ∧ One wx g13 s ∧ ChS wx s acc ∧ Below wr.heap.size wr wx)
          case first =>
            go_region_law (first | (refine step_itappend rfl (.tmp 95) (.tmp 98) rfl wr.heap.size (.slice (some ⟨wr.heap.size, 0, none⟩) 0 0) _ [] (acc.drop c) (own_built _ wr.heap.size _ (heap_new wr.drew _) (Nat.le_refl _)) (HP1.out.below (by go_grown)) (by rw [List.length_drop]; simp; omega) (by simp; try omega) (by simp [Act.eval, Act.put]) (by simp [Act.eval, Act.put]) ?_; intro v1 x1 ho1 hg1; have hb1 : Below wr.heap.size wr x1 := Below.grown (by go_grown) hg1 (by simp; try omega) (fun k hk => by cases hk; first | exact Nat.le_refl _ | exact Nat.le_succ _)) | (refine step_itappend rfl (.tmp 95) (.tmp 98) rfl wr.heap.size (.slice (some ⟨wr.heap.size + 1, 0, none⟩) 0 0) _ [] (acc.drop c) (own_built _ wr.heap.size _ (heap_new2 wr.drew _ _) (Nat.le_succ _)) (HP1.out.below (by go_grown)) (by rw [List.length_drop]; simp; omega) (by simp; try omega) (by simp [Act.eval, Act.put]) (by simp [Act.eval, Act.put]) ?_; intro v1 x1 ho1 hg1; have hb1 : Below wr.heap.size wr x1 := Below.grown (by go_grown) hg1 (by simp; try omega) (fun k hk => by cases hk; first | exact Nat.le_refl _ | exact Nat.le_succ _); have o1 := One.grown (w := _) (show One _ wr.heap.size (.slice none 0 0) from ⟨26, heap_old2 wr.drew _ _⟩) (own_built _ wr.heap.size _ (heap_new2 wr.drew _ _) (Nat.le_succ _)) hg1) | (refine step_itappend rfl (.tmp 95) (.tmp 98) rfl wr.heap.size (.slice (some ⟨wr.heap.size, 0, none⟩) 0 0) _ [] (acc.drop c) (own_built _ wr.heap.size _ (heap_old2 wr.drew _ _) (Nat.le_refl _)) (HP1.out.below (by go_grown)) (by rw [List.length_drop]; simp; omega) (by simp; try omega) (by simp [Act.eval, Act.put]) (by simp [Act.eval, Act.put]) ?_; intro v1 x1 ho1 hg1; have hb1 : Below wr.heap.size wr x1 := Below.grown (by go_grown) hg1 (by simp; try omega) (fun k hk => by cases hk; first | exact Nat.le_refl _ | exact Nat.le_succ _); have o1 := One.grown (w := _) (show One _ (wr.heap.size + 1) (.slice none 0 0) from ⟨26, heap_new2 wr.drew _ _⟩) (own_built _ wr.heap.size _ (heap_old2 wr.drew _ _) (Nat.le_refl _)) hg1) | (refine step_itappend rfl (.tmp 99) (.tmp 102) rfl wr.heap.size v1 _ (acc.drop c) (acc.take c) (ho1) (HP2.out.below (hb1)) (by rw [List.length_drop, List.length_take]; omega) (by have := hb1.size; simp; try omega) (by simp [Act.eval, Act.put]) (by simp [Act.eval, Act.put]) ?_; intro v2 x2 ho2 hg2; have hb2 : Below wr.heap.size wr x2 := Below.grown (hb1) hg2 (by have := hb1.size; simp; try omega) (fun k hk => (ho1.lt k hk).1); first | (have o2 := o1.grown ho1 hg2) | (have o0 : x2 = x2 := rfl)) | (refine step_itappend rfl (.tmp 99) (.tmp 102) rfl wr.heap.size v1 _ (acc.drop c) (acc.take c) (ho1.below (below_one _ _)) (HP2.out.below (hb1.alloc hb1.size _)) (by rw [List.length_drop, List.length_take]; omega) (by have := hb1.size; simp; try omega) (by simp [Act.eval, Act.put]) (by simp [Act.eval, Act.put]) ?_; intro v2 x2 ho2 hg2; have hb2 : Below wr.heap.size wr x2 := Below.grown (hb1.alloc hb1.size _) hg2 (by have := hb1.size; simp; try omega) (fun k hk => (ho1.lt k hk).1); first | (have o2 := (one_new x1 (.slice none 0 0) 26).grown (ho1.below (below_one _ _)) hg2) | (have o0 : x2 = x2 := rfl)) | (go_simp; go_at_call 24; refine (HOF.out _ _ (by first | exact ho2.itsAt | exact (ho2.below (below_one _ _)).itsAt)).mono ?_; rintro e w3 ⟨s', rfl, hc3, hb3⟩; obtain ⟨a7, n7, p7, rfl⟩ := hc3.form; have hb4 : Below wr.heap.size wr w3 := (by first | exact hb2.trans (hb3.mono hb2.size) | exact (hb2.alloc hb2.size _).trans (hb3.mono (by have := hb2.size; simp; omega))); first | (have o3 := o2.below hb3; have f0 := o3.cell; have f1 := o3.frz) | (have o4 : One w3 x2.heap.size (.slice none 0 0) := (one_new x2 (.slice none 0 0) 26).below hb3; have f0 := o4.cell; have f1 := o4.frz) | (have o0 : x2 = x2 := rfl)))
            all_goals
              go_wp2_with fail
              go_meet
              case rel => first | exact ⟨_, _, rfl, rfl, one_new _ _ _, hc3.below (below_one _ _), hb4.trans ((below_one _ _).mono hb4.size)⟩ | exact ⟨_, _, rfl, rfl, o3.set _, hc3.set o3 _, hb4.setCell (p := ⟨_, 0, none⟩) (by first | exact Nat.le_refl _ | exact Nat.le_succ _ | exact hb1.size) _⟩ | exact ⟨_, _, rfl, rfl, o4.set _, hc3.set o4 _, hb4.setCell (p := ⟨x2.heap.size, 0, none⟩) hb2.size _⟩
          case rest =>
            obtain ⟨g13, s13, rfl, rfl, h13, hc13, hb13⟩ := hcut
            generalize wc = W9 at *
            obtain ⟨a13, n13, p13, rfl⟩ := hc13.form
            have HS9 := Lib.hid (HS6.out.below hb13)
            have H13 := Lib.hid (And.intro h13 hc13)
            have q5 := HS9.out.one.cell
            have HLN := Lib.hid (len_any _ _ _ HS9.out.ch)
            clear h13 hc13 hb13 HOF HP1 HP2
            go_wp2_with fail
            refine HLN.out.mono ?_
            rintro e w9 ⟨rfl, hb9⟩
            have HB9 := Lib.hid hb9
            have q6 := (HS9.out.one.below hb9).cell
            have HBY := Lib.hid (bytes_any _ _ _ (HS9.out.ch.below hb9))
            clear hb9 HLN q5
            go_wp2_with fail
            refine HBY.out.mono ?_
            rintro e w10 ⟨rfl, hb10⟩
            have HB10 := Lib.hid (HB9.out.trans (hb10.mono HB9.out.size))
            have q5 := (HS9.out.one.below HB10.out).cell
            have q13 := (H13.out.1.below HB10.out).cell
            have HSA := Lib.hid (same_any _ _ _ _ _ (HS9.out.ch.below HB10.out) (H13.out.2.below HB10.out))
            rw [decide_eq_true rfl] at HSA
            clear hb10 HBY q6
            go_wp2_with fail
            refine HSA.out.mono ?_
            rintro e w11 ⟨rfl, hb11⟩
            have HB11 := Lib.hid (HB10.out.trans (hb11.mono HB10.out.size))
            clear hb11 HSA q5 q13
            go_wp2_with fail
            refine (HA.out _).mono ?_
            rintro e w12 ⟨rfl, hb12⟩
            have HB12 := Lib.hid (HB11.out.trans (hb12.mono HB11.out.size))
            clear hb12
            go_wp2_with fail
            go_ret
            exact ⟨rfl, HS9.out.bel.trans (HB12.out.mono HS9.out.bel.size)⟩
end Go.Proofs.Ytmmjdlpoiibhaaa
