/- Zg. -/
import Derived.Test.YtdnmgpcfgcidbaaGreatDoorPZ1
import Derived.Deep.CutRange
import Derived.Deep.DeepCutAuto
import Derived.Test.YtdnmgpcfgcidbaaGreatDoorPa6
import Derived.Test.YtdnmgpcfgcidbaaGreatDoorPa3
import Derived.Test.YtdnmgpcfgcidbaaGreatDoorPa4
import Derived.Test.YtdnmgpcfgcidbaaGreatDoorPa1
import Derived.Test.YtdnmgpcfgcidbaaGreatDoorPa2
import Derived.Test.YtdnmgpcfgcidbaaGreatDoorPa8
import Derived.Test.YtdnmgpcfgcidbaaGreatDoorPa9
import Derived.Test.YtdnmgpcfgcidbaaGreatDoorPb1
import Derived.Test.YtdnmgpcfgcidbaaGreatDoorPb4
import Derived.Test.YtdnmgpcfgcidbaaGreatDoorPc2
import Derived.Test.YtdnmgpcfgcidbaaGreatDoorPc1
import Derived.Test.YtdnmgpcfgcidbaaGreatDoorPc3
import Derived.Test.YtdnmgpcfgcidbaaGreatDoorPd3
import Derived.Test.YtdnmgpcfgcidbaaGreatDoorPd2
import Derived.Test.YtdnmgpcfgcidbaaGreatDoorPd1
namespace Go.Proofs.YtdnmgpcfgcidbaaGreatDoor
set_option linter.unusedVariables false
set_option linter.unusedSimpArgs false
open Go.RowKit
set_option maxRecDepth 100000
def oneT : ByteArray := { data := #[123, 34, 97, 34, 58, 49, 125] }
theorem one_ck : ckP 600 1 oneT = 0 := by kernel_rfl
theorem press_size {L : List It} {b k : Int} {s : ByteArray} (hg : GoodC L) (hl : L.length ≤ 150) (hk : U8 k) (hs : s.size ≤ 1000000) (hc : ckP b k s = 0) : ∃ y, pressN L b k s = (y, 0) ∧ 127 ≤ y.size := by
  obtain ⟨h1, h2, h3⟩ := press_ok hg hl hk hs hc
  have hb : b ≤ 16257 := (split_ok h1).2.1
  have h4 := glue_size (may_hd hg hk) (few_pt hg hl hs h1 hb) h2
  rw [h3]
  generalize glueN (hdP L k) (ptP L b s) = G at *
  obtain ⟨y, z⟩ := G
  simp only at h2 h4
  subst h2
  exact ⟨y, rfl, by omega⟩
theorem del_put (xi : Nat) (xt : ByteArray) {L : List It} (hr : Rise L) : delI xi (putI xi xt L) = delI xi L := by
  refine rise_ext (del_rise (put_rise xi xt hr)) (del_rise hr) (fun t => ?_)
  rw [mem_del, mem_del, mem_put]
  constructor
  · rintro ⟨rfl | h, hn⟩
    · exact absurd rfl hn
    · exact h
  · rintro ⟨h, hn⟩
    exact ⟨.inr ⟨h, hn⟩, hn⟩
structure StG (w W : World) (g5 g7 g11 : Nat) (x : It) (s7 s11 : Value) (acc : List It) : Prop where
  ord : w.heap.size ≤ g11 ∧ g5 ≠ g11 ∧ g7 ≠ g11
  bx : Box W g5 #[.int .u64 x.1, .string x.2]
  o7 : One W g7 s7
  c7 : ChS W s7 acc
  o11 : One W g11 s11
  c11 : ChS W s11 acc
  bel : Below w.heap.size w W
theorem StG.below {w W X : World} {g5 g7 g11 : Nat} {x : It} {s7 s11 : Value} {acc : List It} (h : StG w W g5 g7 g11 x s7 s11 acc) (hb : Below W.heap.size W X) : StG w X g5 g7 g11 x s7 s11 acc :=
  ⟨h.ord, h.bx.below hb, h.o7.below hb, h.c7.below hb, h.o11.below hb, h.c11.below hb, h.bel.trans (hb.mono h.bel.size)⟩
theorem StG.set {w W : World} {g5 g7 g11 : Nat} {x : It} {s7 s11 : Value} {acc : List It} (h : StG w W g5 g7 g11 x s7 s11 acc) (s' : Value) (hc : ChS W s' acc) : StG w (W.setCell ⟨g11, 0, none⟩ s') g5 g7 g11 x s7 s' acc :=
  ⟨h.ord, h.bx.set_other h.ord.2.1 _, h.o7.set_other h.ord.2.2 _, h.c7.set h.o11 _, h.o11.set _, hc.set h.o11 _, h.bel.setCell (p := ⟨g11, 0, none⟩) h.ord.1 _⟩
theorem StG.facts {w W : World} {g5 g7 g11 : Nat} {x : It} {s7 s11 : Value} {acc : List It} (h : StG w W g5 g7 g11 x s7 s11 acc) :
    W.cell? ⟨g5, 0, none⟩ = some (.int .u64 x.1) ∧ W.cell? ⟨g5, 1, none⟩ = some (.string x.2) ∧ W.cell? ⟨g7, 0, none⟩ = some s7 ∧ W.cell? ⟨g11, 0, none⟩ = some s11 ∧ W.frozen? ⟨g11, 0, none⟩ = false :=
  ⟨by rw [h.bx.cell]; rfl, by rw [h.bx.cell]; rfl, h.o7.cell, h.o11.cell, h.o11.frz⟩
theorem own_len : ∀ (l acc : List It), (ownR acc l).length ≤ acc.length + l.length
  | [], acc => by rw [ownR]; simp
  | t :: l, acc => by
    rw [ownR]
    have h1 := own_len l (putL acc t.1 t.2)
    have h2 : (putL acc t.1 t.2).length ≤ acc.length + 1 := by
      unfold putL
      split
      · rw [put_len]; have := delI_len t.1 acc; omega
      · omega
    rw [List.length_cons]
    omega
theorem nempty_no {s : ByteArray} (h : 0 < s.size) : s.toList.isEmpty = false := by
  rw [ByteArray.toList_eq, List.isEmpty_eq_false_iff]
  intro e
  have : s.data.size = 0 := by rw [← Array.length_toList, e]; rfl
  have : s.size = 0 := this
  omega
theorem over_few {l : List It} {m M : Int} (h : overI l m M = false) : bytesI l ≤ M ∧ (l.length : Int) ≤ m := by
  unfold overI at h
  rw [Bool.or_eq_false_iff, decide_eq_false_iff_not, decide_eq_false_iff_not] at h
  omega
set_option maxHeartbeats 4000000 in
theorem pressone_law (v : Value) (l : List It) (tn : Nat) (x : It) (w : World) (hq : QTab w) (hv : ItsAt w v l) (hm : ∀ e ∈ l, e.1 < 18446744073709551616 ∧ e.2.size ≤ maxLen) (htn : tn < 256) (hx : x.1 < 18446744073709551616 ∧ x.2.size ≤ maxLen) :
    Calls Tryz.prog 6 #[v, .int .u8 tn, .agg #[.int .u64 x.1, .string x.2]] w fun e w' => e = .returned (.bool true) ∧ Below w.heap.size w w' := by
  have HQ := Lib.hid (fun W (hb : Below w.heap.size w W) => hq.below hb)
  have hba := below_oneC w (.cells #[.int .u64 x.1, .string x.2] 74)
  have hbx := box_new w #[.int .u64 x.1, .string x.2] 74
  have HV := Lib.hid (hv.below hba)
  have HOV := Lib.hid (over_any v l 60 3000 _ (hv.below hba) (fun e he => (hm e he).2) (by omega) (by omega))
  have HOW := Lib.hid (fun W h (hl : l.length ≤ 10000) => own_any v l W h hl (fun e he => (hm e he).1) (fun e he => (hm e he).2))
  have HB0 := Lib.hid (And.intro hbx hba)
  obtain ⟨ov, hov⟩ : ∃ ov, overI l 60 3000 = ov := ⟨_, rfl⟩
  rw [hov] at HOV
  obtain ⟨c0, c1⟩ : ((w.alloc (.cells #[.int .u64 x.1, .string x.2] 74)).cell? ⟨w.heap.size, 0, none⟩ = some (.int .u64 x.1)) ∧ ((w.alloc (.cells #[.int .u64 x.1, .string x.2] 74)).cell? ⟨w.heap.size, 1, none⟩ = some (.string x.2)) := ⟨by rw [hbx.cell]; rfl, by rw [hbx.cell]; rfl⟩
  clear hq hv hba hbx
  cases ov with
  | true =>
    clear hov hm hx
    go_enter Tryz.func6, Tryz.ntmps6
    go_wp2_with fail
    refine HOV.out.mono ?_
    rintro e w1 ⟨rfl, rfl⟩
    go_wp2_with fail
    refine (awake18_any _ (HQ.out _ HB0.out.2)).mono ?_
    rintro e w2 ⟨rfl, hb⟩
    have HB := Lib.hid (HB0.out.2.trans (hb.mono HB0.out.2.size))
    clear hb
    go_wp2_with fail
    go_ret
    exact ⟨rfl, HB.out⟩
  | false =>
    obtain ⟨bl, ll⟩ := over_few hov
    by_cases h3 : 300 < x.2.size
    · have e3 : decide (300 < (x.2.size : Int)) = true := decide_eq_true (by omega)
      clear hov hm hx h3 bl ll
      go_enter Tryz.func6, Tryz.ntmps6
      go_wp2_with fail
      refine HOV.out.mono ?_
      rintro e w1 ⟨rfl, rfl⟩
      go_wp2_with fail
      refine (awake18_any _ (HQ.out _ HB0.out.2)).mono ?_
      rintro e w2 ⟨rfl, hb⟩
      have HB := Lib.hid (HB0.out.2.trans (hb.mono HB0.out.2.size))
      clear hb
      go_wp2_with fail
      go_ret
      exact ⟨rfl, HB.out⟩
    have e3 : decide (300 < (x.2.size : Int)) = false := decide_eq_false (by omega)
    clear hov hm
    go_enter Tryz.func6, Tryz.ntmps6
    go_wp2_with fail
    refine HOV.out.mono ?_
    rintro e w1 ⟨rfl, hw1⟩
    subst hw1
    generalize w.alloc (.cells #[.int .u64 x.1, .string x.2] 74) = w1 at *
    go_wp2_with fail
    refine (HOW.out _ HV.out (by omega)).mono ?_
    rintro e w2 ⟨s, d, rfl, hch, hd, hb2⟩
    obtain ⟨a5, n5, p5, rfl⟩ := hch.form
    have hal : (ownI l).length ≤ 60 := by have := own_len l []; unfold ownI; simp at this; omega
    generalize hac : ownI l = acc at *
    have b5 := below_oneC w2 (.cells #[.slice a5 n5 p5] 29)
    have h5 := one_new w2 (.slice a5 n5 p5) 29
    have hx2 := hb2.trans (b5.mono hb2.size)
    have HX := Lib.hid (And.intro h5 (And.intro (hch.below b5) (And.intro (HB0.out.2.trans (hx2.mono HB0.out.2.size)) (HB0.out.1.below hx2))))
    have HG := Lib.hid hch.good
    have HIT := Lib.hid (items_any _ _ _ (hch.below b5))
    clear hch hd hb2 b5 h5 hx2 HOV HOW HV hac c0 c1 bl ll
    go_wp2_with fail
    generalize w2.alloc (.cells #[.slice a5 n5 p5] 29) = W5 at *
    generalize w2.heap.size = g7 at *
    refine HIT.out.mono ?_
    rintro e wr ⟨v7, rfl, hi7, hb7⟩
    have HI7 := Lib.hid hi7
    have HW5 := Lib.hid (And.intro (HX.out.1.below hb7) (And.intro (HX.out.2.1.below hb7) (And.intro (HX.out.2.2.1.trans (hb7.mono HX.out.2.2.1.size)) (HX.out.2.2.2.below hb7))))
    obtain ⟨ai, ci, rfl, hic, him, hcc⟩ := hi7
    have HCC := Lib.hid hcc
    clear hb7 hcc HX HIT HB0
    obtain ⟨c, hc⟩ : ∃ c : Nat, c = if acc.length = 0 then 0 else tn % acc.length := ⟨_, rfl⟩
    go_upto_if 40 with fail
    go_cut [10] from 40 to 45 (fun k wx => k = .int .i64 (c : Nat) ∧ wx = wr)
    case first =>
      by_cases hz : acc.length = 0
      · rw [if_pos hz] at hc
        subst hc
        have e1 : ¬ (0 : Int) < (acc.length : Int) := by omega
        clear hz
        go_wp2_with fail
        go_meet
        case rel => exact ⟨rfl, rfl⟩
      · rw [if_neg hz] at hc
        have e1 : (0 : Int) < (acc.length : Int) := by omega
        have hcm : (tn : Int).tmod (acc.length : Int) = (c : Int) := by rw [Int.tmod_eq_emod_of_nonneg (by omega), hc]; rfl
        have hzn : ¬ (acc.length : Int) = 0 := by omega
        have hw1 : IntKind.i64.wrap (tn : Int) = (tn : Int) := by rw [IntKind.wrap_i64] <;> omega
        have hw2 : IntKind.i64.wrap (c : Int) = (c : Int) := by rw [IntKind.wrap_i64] <;> (have := Nat.mod_lt tn (show 0 < acc.length by omega); omega)
        clear hz hc
        go_wp2_with fail
        go_meet
        case rel => exact ⟨rfl, rfl⟩
    case rest =>
      obtain ⟨rfl, rfl⟩ := hcut
      generalize wc = wr at *
      have hcl : c ≤ acc.length := by
        rw [hc]; split
        · omega
        · exact Nat.le_of_lt (Nat.mod_lt _ (by omega))
      have HC := Lib.hid hc
      have HW9 := Lib.hid HW5.out
      clear hc
      go_upto_region 8 with fail
      go_cut [11, 12] from 46 to 58 (fun p e wx => ∃ g11 s11, p = .pointer (some ⟨g11, 0, none⟩) ∧ e = .int .i64 0 ∧ One wx g11 s11 ∧ ChS wx s11 acc ∧ Below wr.heap.size wr wx ∧ wr.heap.size ≤ g11)
      case first =>
        by_cases hz : acc.length = 0
        · obtain rfl : acc = [] := List.eq_nil_of_length_eq_zero hz
          obtain rfl : c = 0 := by simpa using hcl
          have HOF := Lib.hid (fun X q (hq : ItsAt X q []) => of_anyC q [] X hq (by simp) (fun t ht => by simp at ht) (fun t ht => by simp at ht))
          rw [show ofI ([] : List It) = ([], 0) from rfl] at HOF
          clear hz
          simp only [List.length_nil] at *
          go_region_law (first | (refine step_itappend rfl (.tmp 47) (.tmp 50) rfl wr.heap.size (.slice (some ⟨wr.heap.size, 0, none⟩) 0 0) _ [] [] (own_built _ wr.heap.size _ (heap_new wr.drew _) (Nat.le_refl _)) (by simp [Act.eval, Act.put]; exact ⟨_, _, rfl, Nat.zero_le _, by first | exact him | omega, fun k t h => by simp at h⟩) (by simp) (by simp; try omega) (by simp [Act.eval, Act.put]) rfl ?_; intro v1 x1 ho1 hg1; have hb1 : Below wr.heap.size wr x1 := Below.grown (by go_grown) hg1 (by simp; try omega) (fun k hk => by cases hk; first | exact Nat.le_refl _ | exact Nat.le_succ _)) | (refine step_itappend rfl (.tmp 47) (.tmp 50) rfl wr.heap.size (.slice (some ⟨wr.heap.size + 1, 0, none⟩) 0 0) _ [] [] (own_built _ wr.heap.size _ (heap_new2 wr.drew _ _) (Nat.le_succ _)) (by simp [Act.eval, Act.put]; exact ⟨_, _, rfl, Nat.zero_le _, by first | exact him | omega, fun k t h => by simp at h⟩) (by simp) (by simp; try omega) (by simp [Act.eval, Act.put]) rfl ?_; intro v1 x1 ho1 hg1; have hb1 : Below wr.heap.size wr x1 := Below.grown (by go_grown) hg1 (by simp; try omega) (fun k hk => by cases hk; first | exact Nat.le_refl _ | exact Nat.le_succ _); have o1 := One.grown (w := _) (show One _ wr.heap.size (.slice none 0 0) from ⟨29, heap_old2 wr.drew _ _⟩) (own_built _ wr.heap.size _ (heap_new2 wr.drew _ _) (Nat.le_succ _)) hg1) | (refine step_itappend rfl (.tmp 47) (.tmp 50) rfl wr.heap.size (.slice (some ⟨wr.heap.size, 0, none⟩) 0 0) _ [] [] (own_built _ wr.heap.size _ (heap_old2 wr.drew _ _) (Nat.le_refl _)) (by simp [Act.eval, Act.put]; exact ⟨_, _, rfl, Nat.zero_le _, by first | exact him | omega, fun k t h => by simp at h⟩) (by simp) (by simp; try omega) (by simp [Act.eval, Act.put]) rfl ?_; intro v1 x1 ho1 hg1; have hb1 : Below wr.heap.size wr x1 := Below.grown (by go_grown) hg1 (by simp; try omega) (fun k hk => by cases hk; first | exact Nat.le_refl _ | exact Nat.le_succ _); have o1 := One.grown (w := _) (show One _ (wr.heap.size + 1) (.slice none 0 0) from ⟨29, heap_new2 wr.drew _ _⟩) (own_built _ wr.heap.size _ (heap_old2 wr.drew _ _) (Nat.le_refl _)) hg1) | (refine step_itappend rfl (.tmp 51) (.tmp 54) rfl wr.heap.size v1 _ [] [] (ho1) (by simp [Act.eval, Act.put]; exact ⟨_, _, rfl, Nat.zero_le _, by first | exact him | omega, fun k t h => by simp at h⟩) (by simp) (by have := hb1.size; simp; try omega) (by simp [Act.eval, Act.put]) rfl ?_; intro v2 x2 ho2 hg2; have hb2 : Below wr.heap.size wr x2 := Below.grown (hb1) hg2 (by have := hb1.size; simp; try omega) (fun k hk => (ho1.lt k hk).1); first | (have o2 := o1.grown ho1 hg2) | (have o0 : x2 = x2 := rfl)) | (refine step_itappend rfl (.tmp 51) (.tmp 54) rfl wr.heap.size v1 _ [] [] (ho1.below (below_oneC _ _)) (by simp [Act.eval, Act.put]; exact ⟨_, _, rfl, Nat.zero_le _, by first | exact him | omega, fun k t h => by simp at h⟩) (by simp) (by have := hb1.size; simp; try omega) (by simp [Act.eval, Act.put]) rfl ?_; intro v2 x2 ho2 hg2; have hb2 : Below wr.heap.size wr x2 := Below.grown (hb1.alloc hb1.size _) hg2 (by have := hb1.size; simp; try omega) (fun k hk => (ho1.lt k hk).1); first | (have o2 := (one_new x1 (.slice none 0 0) 29).grown (ho1.below (below_oneC _ _)) hg2) | (have o0 : x2 = x2 := rfl)) | (go_simp; go_at_call 28; refine (HOF.out _ _ (by first | exact ho2.itsAt | exact (ho2.below (below_oneC _ _)).itsAt)).mono ?_; rintro e w3 ⟨s', rfl, hc3, hb3⟩; obtain ⟨a7, n7, p7, rfl⟩ := hc3.form; have hb4 : Below wr.heap.size wr w3 := (by first | exact hb2.trans (hb3.mono hb2.size) | exact (hb2.alloc hb2.size _).trans (hb3.mono (by have := hb2.size; simp; omega))); first | (have o3 := o2.below hb3; have f0 := o3.cell; have f1 := o3.frz) | (have o4 : One w3 x2.heap.size (.slice none 0 0) := (one_new x2 (.slice none 0 0) 29).below hb3; have f0 := o4.cell; have f1 := o4.frz) | (have o0 : x2 = x2 := rfl)))
          all_goals
            go_wp2_with fail
            go_meet
            case rel => first | exact ⟨_, _, rfl, rfl, one_new _ _ _, hc3.below (below_oneC _ _), hb4.trans ((below_oneC _ _).mono hb4.size), hb4.size⟩ | exact ⟨_, _, rfl, rfl, o3.set _, hc3.set o3 _, hb4.setCell (p := ⟨_, 0, none⟩) (by first | exact Nat.le_refl _ | exact Nat.le_succ _ | exact hb1.size) _, by first | exact Nat.le_refl _ | exact Nat.le_succ _ | exact hb1.size⟩ | exact ⟨_, _, rfl, rfl, o4.set _, hc3.set o4 _, hb4.setCell (p := ⟨x2.heap.size, 0, none⟩) hb2.size _, hb2.size⟩
        · obtain ⟨g, off, rfl⟩ : ∃ g off, ai = some ⟨g, off, none⟩ := by
            obtain ⟨g, off, e, _⟩ := HCC.out 0 _ (List.getElem?_eq_getElem (by omega))
            exact ⟨g, off, e⟩
          have hcl2 : c < acc.length := by rw [HC.out, if_neg hz]; exact Nat.mod_lt _ (by omega)
          have HP1 := Lib.hid (HI7.out.post c (by omega))
          have HP2 := Lib.hid (HI7.out.pre c (by omega))
          have hci : ¬ ci = c := by omega
          have hcc1 : (c : Int) ≤ (ci : Int) := by omega
          have hcc2 : (c : Int) ≤ (acc.length : Int) := by omega
          have HOF := Lib.hid (fun X q (hq : ItsAt X q (acc.drop c ++ acc.take c)) => of_anyC q _ X hq (by rw [List.length_append, List.length_drop, List.length_take]; omega) (fun t ht => by have := HG.out.low t ((rot_perm acc c).mem_iff.1 ht); omega) (fun t ht => by have := HG.out.short t ((rot_perm acc c).mem_iff.1 ht); unfold maxLen; omega))
          rw [of_perm acc _ HG.out (rot_perm acc c)] at HOF
          clear hz
          go_region_law (first | (refine step_itappend rfl (.tmp 47) (.tmp 50) rfl wr.heap.size (.slice (some ⟨wr.heap.size, 0, none⟩) 0 0) _ [] (acc.drop c) (own_built _ wr.heap.size _ (heap_new wr.drew _) (Nat.le_refl _)) (HP1.out.below (by go_grown)) (by rw [List.length_drop]; simp; omega) (by simp; try omega) (by simp [Act.eval, Act.put]) (by simp [Act.eval, Act.put]) ?_; intro v1 x1 ho1 hg1; have hb1 : Below wr.heap.size wr x1 := Below.grown (by go_grown) hg1 (by simp; try omega) (fun k hk => by cases hk; first | exact Nat.le_refl _ | exact Nat.le_succ _)) | (refine step_itappend rfl (.tmp 47) (.tmp 50) rfl wr.heap.size (.slice (some ⟨wr.heap.size + 1, 0, none⟩) 0 0) _ [] (acc.drop c) (own_built _ wr.heap.size _ (heap_new2 wr.drew _ _) (Nat.le_succ _)) (HP1.out.below (by go_grown)) (by rw [List.length_drop]; simp; omega) (by simp; try omega) (by simp [Act.eval, Act.put]) (by simp [Act.eval, Act.put]) ?_; intro v1 x1 ho1 hg1; have hb1 : Below wr.heap.size wr x1 := Below.grown (by go_grown) hg1 (by simp; try omega) (fun k hk => by cases hk; first | exact Nat.le_refl _ | exact Nat.le_succ _); have o1 := One.grown (w := _) (show One _ wr.heap.size (.slice none 0 0) from ⟨29, heap_old2 wr.drew _ _⟩) (own_built _ wr.heap.size _ (heap_new2 wr.drew _ _) (Nat.le_succ _)) hg1) | (refine step_itappend rfl (.tmp 47) (.tmp 50) rfl wr.heap.size (.slice (some ⟨wr.heap.size, 0, none⟩) 0 0) _ [] (acc.drop c) (own_built _ wr.heap.size _ (heap_old2 wr.drew _ _) (Nat.le_refl _)) (HP1.out.below (by go_grown)) (by rw [List.length_drop]; simp; omega) (by simp; try omega) (by simp [Act.eval, Act.put]) (by simp [Act.eval, Act.put]) ?_; intro v1 x1 ho1 hg1; have hb1 : Below wr.heap.size wr x1 := Below.grown (by go_grown) hg1 (by simp; try omega) (fun k hk => by cases hk; first | exact Nat.le_refl _ | exact Nat.le_succ _); have o1 := One.grown (w := _) (show One _ (wr.heap.size + 1) (.slice none 0 0) from ⟨29, heap_new2 wr.drew _ _⟩) (own_built _ wr.heap.size _ (heap_old2 wr.drew _ _) (Nat.le_refl _)) hg1) | (refine step_itappend rfl (.tmp 51) (.tmp 54) rfl wr.heap.size v1 _ (acc.drop c) (acc.take c) (ho1) (HP2.out.below (hb1)) (by rw [List.length_drop, List.length_take]; omega) (by have := hb1.size; simp; try omega) (by simp [Act.eval, Act.put]) (by simp [Act.eval, Act.put]) ?_; intro v2 x2 ho2 hg2; have hb2 : Below wr.heap.size wr x2 := Below.grown (hb1) hg2 (by have := hb1.size; simp; try omega) (fun k hk => (ho1.lt k hk).1); first | (have o2 := o1.grown ho1 hg2) | (have o0 : x2 = x2 := rfl)) | (refine step_itappend rfl (.tmp 51) (.tmp 54) rfl wr.heap.size v1 _ (acc.drop c) (acc.take c) (ho1.below (below_oneC _ _)) (HP2.out.below (hb1.alloc hb1.size _)) (by rw [List.length_drop, List.length_take]; omega) (by have := hb1.size; simp; try omega) (by simp [Act.eval, Act.put]) (by simp [Act.eval, Act.put]) ?_; intro v2 x2 ho2 hg2; have hb2 : Below wr.heap.size wr x2 := Below.grown (hb1.alloc hb1.size _) hg2 (by have := hb1.size; simp; try omega) (fun k hk => (ho1.lt k hk).1); first | (have o2 := (one_new x1 (.slice none 0 0) 29).grown (ho1.below (below_oneC _ _)) hg2) | (have o0 : x2 = x2 := rfl)) | (go_simp; go_at_call 28; refine (HOF.out _ _ (by first | exact ho2.itsAt | exact (ho2.below (below_oneC _ _)).itsAt)).mono ?_; rintro e w3 ⟨s', rfl, hc3, hb3⟩; obtain ⟨a7, n7, p7, rfl⟩ := hc3.form; have hb4 : Below wr.heap.size wr w3 := (by first | exact hb2.trans (hb3.mono hb2.size) | exact (hb2.alloc hb2.size _).trans (hb3.mono (by have := hb2.size; simp; omega))); first | (have o3 := o2.below hb3; have f0 := o3.cell; have f1 := o3.frz) | (have o4 : One w3 x2.heap.size (.slice none 0 0) := (one_new x2 (.slice none 0 0) 29).below hb3; have f0 := o4.cell; have f1 := o4.frz) | (have o0 : x2 = x2 := rfl)))
          all_goals
            go_wp2_with fail
            go_meet
            case rel => first | exact ⟨_, _, rfl, rfl, one_new _ _ _, hc3.below (below_oneC _ _), hb4.trans ((below_oneC _ _).mono hb4.size), hb4.size⟩ | exact ⟨_, _, rfl, rfl, o3.set _, hc3.set o3 _, hb4.setCell (p := ⟨_, 0, none⟩) (by first | exact Nat.le_refl _ | exact Nat.le_succ _ | exact hb1.size) _, by first | exact Nat.le_refl _ | exact Nat.le_succ _ | exact hb1.size⟩ | exact ⟨_, _, rfl, rfl, o4.set _, hc3.set o4 _, hb4.setCell (p := ⟨x2.heap.size, 0, none⟩) hb2.size _, hb2.size⟩
      case rest =>
        obtain ⟨g11, s11, rfl, rfl, h11, hc11, hb11, hg11⟩ := hcut
        generalize wc = W9 at *
        obtain ⟨a11, n11, p11, rfl⟩ := hc11.form
        have k5 := HW9.out.2.2.2.lt
        have k7 := HW9.out.1.lt
        have HSG := Lib.hid (show StG w W9 w.heap.size g7 g11 x (.slice a5 n5 p5) (.slice a11 n11 p11) acc from ⟨⟨by omega, by omega, by omega⟩, HW9.out.2.2.2.below hb11, HW9.out.1.below hb11, HW9.out.2.1.below hb11, h11, hc11, HW9.out.2.2.1.trans (hb11.mono HW9.out.2.2.1.size)⟩)
        obtain ⟨q50, q51, q7, q11, f11⟩ := HSG.out.facts
        have HGT := Lib.hid (get_anyC (.slice a5 n5 p5) acc x.1 W9 HSG.out.c7 hx.1)
        obtain ⟨bI, hbI⟩ : ∃ b, (getI x.1 acc).isSome = b := ⟨_, rfl⟩
        rw [hbI] at HGT
        clear h11 hc11 hb11 hg11 k5 k7 HW9 HW5 HI7 HCC hcl HC hic him
        go_wp2_with fail
        refine HGT.out.mono ?_
        rintro e w10 ⟨rfl, hb10⟩
        have HSG2 := Lib.hid (HSG.out.below hb10)
        clear hb10 HGT HSG q50 q51 q7 q11 f11
        go_upto_if 67 with fail
        go_cut [15, 16] from 67 to 82 (fun a b wx => ∃ s', StG w wx w.heap.size g7 g11 x (.slice a5 n5 p5) s' acc)
        case first =>
          cases bI with
          | true =>
            go_wp2_with fail
            go_meet
            case rel => exact ⟨_, HSG2.out⟩
          | false =>
            obtain ⟨q50, q51, q7, q11, f11⟩ := HSG2.out.facts
            have HPT := Lib.hid (put_any (.slice a11 n11 p11) acc x.1 x.2 w10 HSG2.out.c11 hx.1 hx.2)
            have HDP := Lib.hid (show delI x.1 (putI x.1 x.2 acc) = acc by rw [del_put x.1 x.2 HG.out.rise, del_no hbI])
            clear hbI
            go_wp2_with fail
            refine HPT.out.mono ?_
            rintro e w11 ⟨s15, rfl, hc15, hb15⟩
            obtain ⟨a15, n15, p15, rfl⟩ := hc15.form
            have b15 := below_oneC w11 (.cells #[.slice a15 n15 p15] 29)
            have o15 := one_new w11 (.slice a15 n15 p15) 29
            have HSG3 := Lib.hid (HSG2.out.below (hb15.trans (b15.mono hb15.size)))
            have H15 := Lib.hid (And.intro o15 (hc15.below b15))
            clear hc15 hb15 b15 o15 HPT HSG2 q50 q51 q7 q11 f11
            obtain ⟨pz, hpz⟩ : ∃ pz, putE acc x.1 x.2 = pz := ⟨_, rfl⟩
            rw [hpz]
            by_cases hp0 : pz = 0
            · subst hp0
              have hpl : putL acc x.1 x.2 = putI x.1 x.2 acc := by unfold putL; rw [if_pos hpz]
              rw [hpl] at H15
              clear hpz hpl
              obtain ⟨q50, q51, q7, q11, f11⟩ := HSG3.out.facts
              have q15 := H15.out.1.cell
              have HDL := Lib.hid (del_any (.slice a15 n15 p15) _ x.1 _ H15.out.2 hx.1)
              rw [HDP.out] at HDL
              go_upto_region 13 with fail
              generalize w11.alloc (.cells #[.slice a15 n15 p15] 29) = w12 at *
              go_wp2_with fail
              refine HDL.out.mono ?_
              rintro e w13 ⟨s13, rfl, hc13, hb13⟩
              obtain ⟨a13, n13, p13, rfl⟩ := hc13.form
              have HSG4 := Lib.hid (HSG3.out.below hb13)
              have HC13 := Lib.hid hc13
              clear hc13 hb13 HDL HSG3 q50 q51 q7 q11 f11 q15 H15
              obtain ⟨q50, q51, q7, q11, f11⟩ := HSG4.out.facts
              go_wp2_with fail
              go_meet
              case rel => exact ⟨_, HSG4.out.set _ HC13.out⟩
            · have e0 : ((pz : Int) == 0) = false := by simp [hp0]
              clear hpz hp0
              go_wp2_with fail
              go_meet
              case rel => exact ⟨_, HSG3.out⟩
        case rest =>
          obtain ⟨s', hSG⟩ := hcut
          generalize wc = W13 at *
          obtain ⟨a16, n16, p16, rfl⟩ := hSG.c11.form
          have bp := below_oneC W13 (.cells #[.int .i64 600, .int .u8 1, .string oneT] 35)
          have op := box_new W13 (planV 600 1 oneT) 35
          have HSG5 := Lib.hid (hSG.below bp)
          have HPL := Lib.hid op
          obtain ⟨y, hy, hys⟩ := press_size HG.out (show acc.length ≤ 150 by omega) (show U8 1 by unfold U8; omega) (show oneT.size ≤ 1000000 by decide) one_ck
          have HPR := Lib.hid (fun s W hq hc => press18_any s acc 600 1 oneT W hq hc (by omega) (by unfold U8; omega) (by omega) (by decide))
          rw [hy] at HPR
          clear hSG bp op HSG2 hy
          unfold planV oneT at HPR HPL
          unfold oneT at HSG5
          go_upto_region 15 with fail
          generalize W13.alloc (.cells #[.int .i64 600, .int .u8 1, .string { data := #[123, 34, 97, 34, 58, 49, 125] }] 35) = W14 at *
          generalize W13.heap.size = g17 at *
          have HLD := Lib.hid (fun X (hX : Below W14.heap.size W14 X) => (show X.cell? ⟨g17, 0, none⟩ = some (.int .i64 600) ∧ X.cell? ⟨g17, 1, none⟩ = some (.int .u8 1) ∧ X.cell? ⟨g17, 2, none⟩ = some (.string { data := #[123, 34, 97, 34, 58, 49, 125] }) from ⟨by rw [(HPL.out.below hX).cell]; rfl, by rw [(HPL.out.below hX).cell]; rfl, by rw [(HPL.out.below hX).cell]; rfl⟩))
          obtain ⟨l0, l1, l2⟩ := HLD.out _ (Below.refl _ _)
          obtain ⟨q50, q51, q7, q11, f11⟩ := HSG5.out.facts
          go_wp2_with fail
          refine (HPR.out _ _ (HQ.out _ HSG5.out.bel) HSG5.out.c7).mono ?_
          rintro e W15 ⟨rfl, hb15⟩
          have HSG6 := Lib.hid (HSG5.out.below hb15)
          obtain ⟨m0, m1, m2⟩ := HLD.out _ hb15
          clear hb15 HLD l0 l1 l2 q50 q51 q7 q11 f11 HSG5
          obtain ⟨q50, q51, q7, q11, f11⟩ := HSG6.out.facts
          go_wp2_with fail
          refine (HPR.out _ _ (HQ.out _ HSG6.out.bel) HSG6.out.c11).mono ?_
          rintro e W16 ⟨rfl, hb16⟩
          have HB16 := Lib.hid (HSG6.out.bel.trans (hb16.mono HSG6.out.bel.size))
          clear hb16 m0 m1 m2 q50 q51 q7 q11 f11 HSG6
          have hse := str_yes (a := y) (b := y) rfl
          have hne := nempty_no (s := y) (by omega)
          go_wp2_with fail
          refine (awake18_any _ (HQ.out _ HB16.out)).mono ?_
          rintro e W17 ⟨rfl, hb17⟩
          have HB17 := Lib.hid (HB16.out.trans (hb17.mono HB16.out.size))
          clear hb17
          go_wp2_with fail
          go_ret
          exact ⟨rfl, HB17.out⟩
end Go.Proofs.YtdnmgpcfgcidbaaGreatDoor
