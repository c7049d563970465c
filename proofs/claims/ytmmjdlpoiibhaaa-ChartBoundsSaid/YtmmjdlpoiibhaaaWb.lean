/- The walk of ChartBounds. -/
import Derived.Test.YtmmjdlpoiibhaaaLx
import Derived.Test.YtmmjdlpoiibhaaaLu
import Derived.Test.YtmmjdlpoiibhaaaRq
namespace Go.Proofs.Ytmmjdlpoiibhaaa
open Go.RowKit
set_option maxRecDepth 20000
set_option linter.unusedVariables false
set_option linter.unusedSimpArgs false
def kMore : ByteArray := { data := #[109, 111, 114, 101] }
def kOther : ByteArray := { data := #[111, 116, 104, 101, 114] }
set_option maxRecDepth 20000 in
set_option maxHeartbeats 1000000 in
theorem chartbounds_law (id by_ : Nat) (w : World) (hid : id < 18446744073709551616) (hby : by_ < 65536) :
    Calls Try.prog 5 #[.int .u64 id, .int .u16 by_] w fun e w' => e = .returned (.bool true) ∧ Below w.heap.size w w' := by
  have HA := Lib.hid awakeC_any
  have b0 := below_one w (.cells #[.slice none 0 0] 26)
  have h5 := one_new w (.slice none 0 0) 26
  obtain ⟨m, hm⟩ : ∃ m : Nat, m = id % 2048 := ⟨_, rfl⟩
  have hml : m < 2048 := by omega
  have hmi : (id : Int).tmod 2048 = (m : Int) := by rw [Int.tmod_eq_emod_of_nonneg (by omega)]; omega
  have HR1 := Lib.hid (fun W => rep_any 120 65536 65536 (by omega) (by omega) W)
  have HR2 := Lib.hid (fun W => rep_any 120 65537 65537 (by omega) (by omega) W)
  clear hm
  go_enter Try.func5, Try.ntmps5
  go_upto_region 2 with fail
  generalize hW : w.alloc (.cells #[.slice none 0 0] 26) = W at *
  have hWs : W.heap.size = w.heap.size + 1 := by rw [← hW]; simp
  have HWS := Lib.hid hWs
  have H0 := Lib.hid (And.intro b0 h5)
  have e0 := h5.cell
  have dA : ∀ O, (W.alloc O).cell? ⟨w.heap.size, 0, none⟩ = some (.slice none 0 0) := fun O => (h5.alloc O).cell
  have HPU := Lib.hid (fun X (t : ByteArray) (hX : Below W.heap.size W X) (ht : t.size = 65536) => put_any (.slice none 0 0) [] m t X (chS_nil X) (by omega) (by unfold maxLen; omega))
  have HKP : Hid (∀ X, Below W.heap.size W X → X.cell? ⟨w.heap.size, 0, none⟩ = some (.slice none 0 0) ∧ Below W.heap.size W X) := Lib.hid (fun X hX => ⟨(hX.cell (p := ⟨w.heap.size, 0, none⟩) h5.lt).trans h5.cell, hX⟩)
  clear b0 h5 hWs hW
  go_cut [6, 7] (fun p e wx => ∃ g s l, p = .pointer (some ⟨g, 0, none⟩) ∧ e = .int .i64 0 ∧ One wx g s ∧ ChS wx s l ∧ bytesI l = 65536 ∧ Below W.heap.size W wx)
  case first =>
    go_region_held3 (fun w' => w'.cell? ⟨w.heap.size, 0, none⟩ = some (.slice none 0 0) ∧ Below W.heap.size W w') (first | exact HKP.out _ (by first | assumption | exact hbb.alloc hbb.size _ | exact hb3.alloc hb3.size _ | exact hb3.setCell (p := ⟨W.heap.size, 0, none⟩) (Nat.le_refl _) _ | exact hb3.setCell (p := ⟨w1.heap.size, 0, none⟩) hbb.size _ | exact (hb3.alloc hb3.size _).setCell (p := ⟨w2.heap.size, 0, none⟩) hb3.size _) | exact HKP.out _ (by assumption) | exact HKP.out _ (hbb.alloc hbb.size _) | exact HKP.out _ (hb3.alloc hb3.size _) | exact HKP.out _ ((hbb.alloc hbb.size _).trans (hb2.mono (by have := hbb.size; simp; omega))) | exact HKP.out _ (by go_grown)) ((first | (go_at_call 28; refine (HR1.out _).mono ?_; rintro e w1 ⟨r, rfl, hr, hb⟩; have hbb : Below W.heap.size W w1 := (by go_grown : Below W.heap.size W _).trans (hb.mono (by simp)); first | (have o7 : One w1 W.heap.size (.slice none 0 0) := (one_new W.drew (.slice none 0 0) 26).below hb) | (have o6 : Below W.heap.size W.drew w1 := hb)) | (go_at_call 9; refine (HPU.out _ _ (by first | exact hbb | exact hbb.alloc hbb.size _) hr).mono ?_; rintro e w2 ⟨s', rfl, hc2, hb2⟩; obtain ⟨a7, n7, p7, rfl⟩ := hc2.form; obtain ⟨he, hbs⟩ := one_put m hml _ hr; rw [he, show (((0 : Nat) : Int)) = 0 from rfl]; have hb3 : Below W.heap.size W w2 := (by first | exact hbb.trans (hb2.mono hbb.size) | exact (hbb.alloc hbb.size _).trans (hb2.mono (by have := hbb.size; simp; omega))); first | (have o8 := o7.below hb2; have f0 := o8.cell; have f1 := o8.frz) | (have o9 : One w2 w1.heap.size (.slice none 0 0) := (one_new w1 (.slice none 0 0) 26).below hb2; have f0 := o9.cell; have f1 := o9.frz) | (have o10 : Below w1.heap.size w1 w2 := hb2))))
    all_goals
      go_wp2_with fail
      go_meet
      case rel => first | exact ⟨_, _, _, rfl, rfl, one_new _ _ _, hc2.below (below_one _ _), hbs, hb3.trans ((below_one _ _).mono hb3.size)⟩ | exact ⟨_, _, _, rfl, rfl, o8.set _, hc2.set o8 _, hbs, hb3.setCell (p := ⟨W.heap.size, 0, none⟩) (Nat.le_refl _) _⟩ | exact ⟨_, _, _, rfl, rfl, o9.set _, hc2.set o9 _, hbs, hb3.setCell (p := ⟨w1.heap.size, 0, none⟩) hbb.size _⟩
  case rest =>
    obtain ⟨g6, s6, l6, rfl, rfl, h6, hc6, hby6, hb6⟩ := hcut
    generalize wc = W2 at *
    obtain ⟨a6, n6, p6, rfl⟩ := hc6.form
    have H2 := Lib.hid (And.intro h6 (And.intro hc6 (And.intro hby6 (And.intro (H0.out.2.below hb6) (H0.out.1.trans (hb6.mono H0.out.1.size))))))
    have HKQ : Hid (∀ X, Below W2.heap.size W2 X → X.cell? ⟨w.heap.size, 0, none⟩ = some (.slice none 0 0) ∧ Below W2.heap.size W2 X) := Lib.hid (fun X hX => ⟨(hX.cell (p := ⟨w.heap.size, 0, none⟩) H2.out.2.2.2.1.lt).trans H2.out.2.2.2.1.cell, hX⟩)
    have HPV := Lib.hid (fun X (t : ByteArray) (hX : Below W2.heap.size W2 X) (ht : t.size = 65537) => put_any (.slice none 0 0) [] 0 t X (chS_nil X) (by omega) (by unfold maxLen; omega))
    clear h6 hc6 hby6 hb6 e0 dA HKP HPU HR1
    go_upto_region 3 with fail
    go_cut [8, 9] (fun p e wx => ∃ g, p = .pointer (some ⟨g, 0, none⟩) ∧ e = .int .i64 5 ∧ Below W2.heap.size W2 wx)
    case first =>
      go_region_held3 (fun w' => w'.cell? ⟨w.heap.size, 0, none⟩ = some (.slice none 0 0) ∧ Below W2.heap.size W2 w') (first | exact HKQ.out _ (by first | assumption | exact hbb.alloc hbb.size _ | exact hb3.alloc hb3.size _ | exact hb3.setCell (p := ⟨W2.heap.size, 0, none⟩) (Nat.le_refl _) _ | exact hb3.setCell (p := ⟨w1.heap.size, 0, none⟩) hbb.size _ | exact (hb3.alloc hb3.size _).setCell (p := ⟨w2.heap.size, 0, none⟩) hb3.size _) | exact HKQ.out _ (by assumption) | exact HKQ.out _ (hbb.alloc hbb.size _) | exact HKQ.out _ (hb3.alloc hb3.size _) | exact HKQ.out _ ((hbb.alloc hbb.size _).trans (hb2.mono (by have := hbb.size; simp; omega))) | exact HKQ.out _ (by go_grown)) ((first | (go_at_call 28; refine (HR2.out _).mono ?_; rintro e w1 ⟨r, rfl, hr, hb⟩; have hbb : Below W2.heap.size W2 w1 := (by go_grown : Below W2.heap.size W2 _).trans (hb.mono (by simp)); first | (have o7 : One w1 W2.heap.size (.slice none 0 0) := (one_new W2.drew (.slice none 0 0) 26).below hb) | (have o6 : Below W2.heap.size W2.drew w1 := hb)) | (go_at_call 9; refine (HPV.out _ _ (by first | exact hbb | exact hbb.alloc hbb.size _) hr).mono ?_; rintro e w2 ⟨s', rfl, hc2, hb2⟩; obtain ⟨a7, n7, p7, rfl⟩ := hc2.form; rw [long_put _ hr, show (((5 : Nat) : Int)) = 5 from rfl]; have hb3 : Below W2.heap.size W2 w2 := (by first | exact hbb.trans (hb2.mono hbb.size) | exact (hbb.alloc hbb.size _).trans (hb2.mono (by have := hbb.size; simp; omega))); first | (have o8 := o7.below hb2; have f0 := o8.cell; have f1 := o8.frz) | (have o9 : One w2 w1.heap.size (.slice none 0 0) := (one_new w1 (.slice none 0 0) 26).below hb2; have f0 := o9.cell; have f1 := o9.frz) | (have o10 : Below w1.heap.size w1 w2 := hb2))))
      all_goals
        go_wp2_with fail
        go_meet
        case rel => first | exact ⟨_, rfl, rfl, hb3.trans ((below_one _ _).mono hb3.size)⟩ | exact ⟨_, rfl, rfl, hb3.setCell (p := ⟨W2.heap.size, 0, none⟩) (Nat.le_refl _) _⟩ | exact ⟨_, rfl, rfl, hb3.setCell (p := ⟨w1.heap.size, 0, none⟩) hbb.size _⟩
    case rest =>
      obtain ⟨g8, rfl, rfl, hb8⟩ := hcut
      generalize wc = W3 at *
      have H3 := Lib.hid (And.intro (H2.out.1.below hb8) (And.intro (H2.out.2.1.below hb8) (H2.out.2.2.2.2.trans (hb8.mono H2.out.2.2.2.2.size))))
      have e6 := H3.out.1.cell
      have HBY := Lib.hid (bytes_any _ _ _ H3.out.2.1)
      rw [H2.out.2.2.1, show (((65536 : Nat) : Int)) = 65536 from rfl] at HBY
      clear hb8 HKQ HPV HR2
      go_wp2_with fail
      refine HBY.out.mono ?_
      rintro e W4 ⟨rfl, hb4⟩
      have H4 := Lib.hid (H3.out.2.2.trans (hb4.mono H3.out.2.2.size))
      clear hb4 HBY e6
      go_wp2_with fail
      go_loopw [10, 11] (fun u i wr => ∃ k : Nat, k ≤ 2048 ∧ i = .int .u64 k ∧ OwnIt wr W4.heap.size 52 u (bl k) ∧ Below W4.heap.size W4 wr) (fun _ i _ => 2048 - (intOf i).toNat)
      case atStart => exact ⟨0, Nat.zero_le _, rfl, ownIt_nil _ _ _, Below.refl _ _⟩
      case round =>
        obtain ⟨k, hk, rfl, hown, hbw⟩ := hrel
        by_cases hlt : k < 2048
        · have hki : (k : Int) < 2048 := by omega
          have hw3 : IntKind.u64.wrap (3 * (k : Int)) = ((3 * k : Nat) : Int) := by rw [IntKind.wrap_u64]; omega
          have hb2 : Below W4.heap.size W4 (wr.alloc (.cells #[.int .u64 (3 * k : Nat), .string kT] 52)) := hbw.alloc hbw.size _
          have hbl := bl_len k
          obtain ⟨v', w', hr, hown', hgr⟩ := itappend_run (wr.alloc (.cells #[.int .u64 (3 * k : Nat), .string kT] 52)) W4.heap.size 24 52 24 _ Try.underlying24 infoPit rfl _ _ _ [(3 * k, kT)] (hown.below (Below.alloc (Below.refl _ _) (Nat.le_refl _) _)) (it_lit wr (3 * k) kT _) (by rw [hbl]; simp only [List.length_singleton]; omega) hb2.size
          rw [← bl_succ] at hown'
          have HO := Lib.hid hown'
          have HB := Lib.hid (Below.grown hb2 hgr hb2.size (fun k hk => (hown.lt k hk).1))
          clear hown hbw hb2 hown' hgr hbl
          go_wp2_with (first | (at_builtin; refine Lib.wpList_append_run _ rfl _ _ _ _ rfl _ _ rfl rfl _ _ hr ?_) | fail)
          go_roundw
          case rel => exact ⟨k + 1, by omega, by go_num, HO.out, HB.out⟩
          case measure => simp [intOf]; omega
        · obtain rfl : k = 2048 := by omega
          have HOF := Lib.hid (of_any _ _ wr hown.itsAt (by rw [bl_len]; omega) (fun t ht => by have := bl_good.low t ht; omega) (fun t ht => by have := bl_good.short t ht; unfold maxLen; omega))
          rw [bl_of] at HOF
          have HB := Lib.hid (H4.out.trans (hbw.mono H4.out.size))
          obtain ⟨c, hc⟩ : ∃ c : Nat, c = by_ % 2048 := ⟨_, rfl⟩
          have hcm : (by_ : Int).tmod 2048 = (c : Int) := by rw [Int.tmod_eq_emod_of_nonneg (by omega)]; omega
          have hw1 : IntKind.u64.wrap (3 * (by_ : Int)) = 3 * (by_ : Int) := by rw [IntKind.wrap_u64]; omega
          have hw2 : IntKind.u64.wrap (3 * (by_ : Int) + 1) = ((3 * by_ + 1 : Nat) : Int) := by rw [IntKind.wrap_u64]; omega
          have hw3 : IntKind.u64.wrap (3 * (c : Int)) = ((3 * c : Nat) : Int) := by rw [IntKind.wrap_u64]; omega
          have hw4 : IntKind.u64.wrap (by_ : Int) = (by_ : Int) := by rw [IntKind.wrap_u64]; omega
          have HM := Lib.hid (bl_full by_ hby kMore (by decide) (by decide))
          have HP := Lib.hid (bl_put by_ kOther (by decide) (by decide))
          have HSM := Lib.hid (bl_same by_ kOther (by decide) (by decide))
          rw [← hc] at HP HSM
          have hcl : c < 2048 := by omega
          clear hown hbw hc H2 H3
          go_wp2_with fail
          refine HOF.out.mono ?_
          rintro e w5 ⟨s12, rfl, hc12, hb5⟩
          obtain ⟨a12, n12, p12, rfl⟩ := hc12.form
          have b12 := below_one w5 (.cells #[.slice a12 n12 p12] 26)
          have h12 := one_new w5 (.slice a12 n12 p12) 26
          have H12 := Lib.hid (And.intro h12 (And.intro (hc12.below b12) ((HB.out.trans (hb5.mono HB.out.size)).trans (b12.mono (by have := HB.out.size; have := hb5.size; omega)))))
          clear hc12 hb5 b12 h12 HOF
          go_wp2_with fail
          generalize w5.alloc (.cells #[.slice a12 n12 p12] 26) = W6 at *
          generalize w5.heap.size = g12 at *
          have HPM := Lib.hid (put_any _ _ (3 * by_ + 1) kMore _ H12.out.2.1 (by omega) (by unfold maxLen; decide))
          rw [HM.out, show (((7 : Nat) : Int)) = 7 from rfl] at HPM
          refine HPM.out.mono ?_
          rintro e w6 ⟨s14, rfl, hc14, hb6⟩
          obtain ⟨a14, n14, p14, rfl⟩ := hc14.form
          have hx := hb6.trans ((below_one w6 (.cells #[.slice a14 n14 p14] 26)).mono hb6.size)
          have H14 := Lib.hid (And.intro (H12.out.1.below hx) (And.intro (H12.out.2.1.below hx) (H12.out.2.2.trans (hx.mono H12.out.2.2.size))))
          have q12 := H14.out.1.cell
          have q13 := (H12.out.1.below hb6).cell
          clear hc14 hb6 hx HPM
          go_wp2_with fail
          generalize w6.alloc (.cells #[.slice a14 n14 p14] 26) = W7 at *
          have HPO := Lib.hid (put_any _ _ (3 * c) kOther _ H14.out.2.1 (by omega) (by unfold maxLen; decide))
          rw [HP.out, show (((0 : Nat) : Int)) = 0 from rfl] at HPO
          refine HPO.out.mono ?_
          rintro e w7 ⟨s16, rfl, hc16, hb7⟩
          obtain ⟨a16, n16, p16, rfl⟩ := hc16.form
          have b16 := below_one w7 (.cells #[.slice a16 n16 p16] 26)
          have hx := hb7.trans (b16.mono hb7.size)
          have H16 := Lib.hid (And.intro (one_new w7 (.slice a16 n16 p16) 26) (And.intro (hc16.below b16) (H14.out.2.2.trans (hx.mono H14.out.2.2.size))))
          have HLN := Lib.hid (len_any _ _ _ H16.out.2.1)
          have HBB := Lib.hid (fun X hX => bytes_any _ _ X (H16.out.2.1.below hX))
          rw [HSM.out.1, show (((2048 : Nat) : Int)) = 2048 from rfl] at HLN
          rw [HSM.out.2, show (((2047 + kOther.size : Nat) : Int)) = 2052 from rfl] at HBB
          have q16 := H16.out.1.cell
          clear hc16 hb7 b16 hx HPO q12 q13
          go_wp2_with fail
          generalize w7.alloc (.cells #[.slice a16 n16 p16] 26) = W8 at *
          generalize w7.heap.size = g16 at *
          refine HLN.out.mono ?_
          rintro e w8 ⟨rfl, hb8⟩
          have HB8 := Lib.hid hb8
          have q17 := (H16.out.1.below hb8).cell
          clear hb8 HLN q16
          go_wp2_with fail
          refine (HBB.out _ HB8.out).mono ?_
          rintro e w9 ⟨rfl, hb9⟩
          have HB9 := Lib.hid (HB8.out.trans (hb9.mono HB8.out.size))
          clear hb9 HBB q17
          go_wp2_with fail
          refine (HA.out _).mono ?_
          rintro e w10 ⟨rfl, hb10⟩
          have HB10 := Lib.hid (HB9.out.trans (hb10.mono HB9.out.size))
          clear hb10
          go_wp2_with fail
          go_ret
          exact ⟨rfl, H16.out.2.2.trans (HB10.out.mono H16.out.2.2.size)⟩
end Go.Proofs.Ytmmjdlpoiibhaaa
