/- Several texts, one behind the other: Hr. -/
import Derived.Test.YtkhlkjhfgfjadaaMN
/- The contract of fields: the header that stands behind the version of a text, and the byte of Clustered. -/
namespace Go.Proofs.Ytkhlkjhfgfjadaa
open Go.RowKit
set_option maxRecDepth 20000
set_option linter.unusedVariables false
set_option linter.unusedSimpArgs false
theorem row1 (g a : Nat) : ∀ i, i < 1 → (#[.pointer (some ⟨g, a, none⟩)] : Array Value)[i]? = some (.pointer (some ⟨g, a + i, none⟩)) := by
  intro i hi
  obtain rfl : i = 0 := by omega
  rfl
theorem row2 (g a : Nat) : ∀ i, i < 2 → (#[.pointer (some ⟨g, a, none⟩), .pointer (some ⟨g, a + 1, none⟩)] : Array Value)[i]? = some (.pointer (some ⟨g, a + i, none⟩)) := by
  intro i hi
  obtain rfl | rfl : i = 0 ∨ i = 1 := by omega
  all_goals rfl
theorem row3 (g a : Nat) : ∀ i, i < 3 → (#[.pointer (some ⟨g, a, none⟩), .pointer (some ⟨g, a + 1, none⟩), .pointer (some ⟨g, a + 2, none⟩)] : Array Value)[i]? = some (.pointer (some ⟨g, a + i, none⟩)) := by
  intro i hi
  obtain rfl | rfl | rfl : i = 0 ∨ i = 1 ∨ i = 2 := by omega
  all_goals rfl
theorem row4 (g a : Nat) : ∀ i, i < 4 → (#[.pointer (some ⟨g, a, none⟩), .pointer (some ⟨g, a + 1, none⟩), .pointer (some ⟨g, a + 2, none⟩), .pointer (some ⟨g, a + 3, none⟩)] : Array Value)[i]? = some (.pointer (some ⟨g, a + i, none⟩)) := by
  intro i hi
  obtain rfl | rfl | rfl | rfl : i = 0 ∨ i = 1 ∨ i = 2 ∨ i = 3 := by omega
  all_goals rfl
theorem cell_eq {w w' : World} {b o : Nat} (h : w'.heap[b]? = w.heap[b]?) : w'.cell? ⟨b, o, none⟩ = w.cell? ⟨b, o, none⟩ := by simp [World.cell?, h]
theorem FAt.cl {w wx : World} {t : ByteArray} {q c : Int} {T : Hd} {b : Bool} (h : FAt w wx t q (fF T) c) (hb : b = T.cl) : FAt w (wx.setCell ⟨w.heap.size + 2, 11, none⟩ (.bool b)) t q T c := by
  subst hb
  refine ⟨(heap_other (by omega)).trans h.1, (heap_other (by omega)).trans h.2.1, ?_, (heap_other (by omega)).trans h.2.2.2.1, h.2.2.2.2.setCell (by show w.heap.size ≤ w.heap.size + 2; omega) _⟩
  unfold HAt
  rw [← fG_set T]
  exact setCell_blk h.2.2.1 _
theorem FAt.drew {w wx : World} {t : ByteArray} {q c : Int} {a : Hd} (h : FAt w wx t q a c) : FAt w wx.drew t q a c := ⟨h.1, h.2.1, h.2.2.1, h.2.2.2.1, h.2.2.2.2.drew⟩
set_option maxRecDepth 20000 in
set_option maxHeartbeats 4000000 in
theorem fields_any (t : ByteArray) (w : World) (hm : t.size ≤ maxLen) (h : 127 ≤ t.size) : Calls Try.prog 44 #[.agg #[.string t, .int .i64 8, .int .i64 0]] w fun e w' => e = .returned (.tuple #[.agg (cH (telB t)), .int .u8 (nmB t 96 1)]) ∧ Below w.heap.size w w' := by
  have HL := Lib.hid h; clear h
  have HM := Lib.hid hm; clear hm
  have H0 := Lib.hid (start_f w t)
  go_enter Try.func44, Try.ntmps44
  go_wp2_with fail
  go_loopw [14] (fun i wr => ∃ k : Nat, k ≤ 4 ∧ i = .int .i64 k ∧ FAt w wr t ((8 + 16 * k : Nat) : Int) (uK (telB t) k) 0 ∧ (∀ j, j < 4 → wr.cell? ⟨w.heap.size + 4, j, none⟩ = some (.pointer (some ⟨w.heap.size + 2, 2 * j, none⟩)))) (fun i _ => 4 - (intOf i).toNat)
  case atStart =>
    obtain ⟨hf, hr⟩ := H0.out (.cells #[.pointer (some ⟨w.heap.size + 2, 0, none⟩), .pointer (some ⟨w.heap.size + 2, 2, none⟩), .pointer (some ⟨w.heap.size + 2, 4, none⟩), .pointer (some ⟨w.heap.size + 2, 6, none⟩)] 113)
    refine ⟨0, by omega, rfl, hf, fun j hj => (cell_blk (hr.trans (heap_alloc_new w _)) j).trans ?_⟩
    obtain rfl | rfl | rfl | rfl : j = 0 ∨ j = 1 ∨ j = 2 ∨ j = 3 := by omega
    all_goals rfl
  case round =>
    obtain ⟨k, hk, rfl, hF, hP⟩ := hrel
    by_cases hlt : k < 4
    · have hp := hP k hlt
      obtain ⟨s0, s1, s2, sf⟩ := hF.scan
      have hbig : w.heap.size < wr.heap.size := by have := hF.big; omega
      have HFd := Lib.hid hF.drew
      have HP := Lib.hid hP
      have hk1 : ((8 + 16 * (k + 1) : Nat) : Int) = ((8 + 16 * k + 8 * 2 : Nat) : Int) := by omega
      have K6 := Lib.hid (fun (wx : World) (T : TypeId) (hh : FAt w wx t ((8 + 16 * k : Nat) : Int) (uK (telB t) k) 0) => takeW_f (2 * k) 2 #[.pointer (some ⟨w.heap.size + 2, 2 * k, none⟩), .pointer (some ⟨w.heap.size + 2, 2 * k + 1, none⟩)] T hh HM.out (by omega) (by omega) (by have := HL.out; omega) (row2 _ _) (uK_set t k hlt))
      rw [← hk1] at K6
      clear hF hP hk1
      obtain ⟨q, hq⟩ : ∃ q, 8 + 16 * k = q := ⟨_, rfl⟩
      obtain ⟨r, hr⟩ : ∃ r, 8 + 16 * (k + 1) = r := ⟨_, rfl⟩
      rw [hq, hr] at K6
      rw [hq] at HFd s1
      have HR := Lib.hid hr
      clear hq hr
      go_upto_region 6 with fail
      go_region_with (first | (go_at_call 67; refine (K6.out _ _ HFd.out).mono ?_; rintro e w' ⟨rfl, hF2, hO2⟩; obtain ⟨r0, r1, r2, rf⟩ := hF2.scan))
      all_goals
        go_wp2_with fail
        go_roundw
        case rel =>
          have h4 : w.heap.size + 4 < wr.heap.size := cellb_lt hp
          refine ⟨k + 1, by omega, by go_num, by rw [HR.out]; exact hF2.on, fun j hj => ?_⟩
          rw [cell_setother _ (by simp), cell_setother _ (by simp), cell_setother _ (by simp)]
          exact (cell_eq (hO2 _ h4 (by omega))).trans (HP.out j hj)
        case measure => simp [intOf]; omega
    · obtain rfl : k = 4 := by omega
      have hF : FAt w wr t 72 (uK (telB t) 4) 0 := hF
      clear hP hlt hk H0
      have HCl := Lib.hid (telB_cl t)
      have HFG := Lib.hid (fun (wx : World) (q c : Int) (h : FAt w wx t q (fF (telB t)) c) (b : Bool) (hb : b = (telB t).cl) => h.cl hb)
      have K8 : Hid (∀ (wx : World) (T : TypeId), FAt w wx t 72 (uK (telB t) 4) 0 → Calls Try.prog 67 #[.agg #[.string t, .int .i64 72, .int .i64 0], .int .i64 8, .slice (some ⟨wx.heap.size, 0, none⟩) 3 3] (wx.alloc (.cells #[.pointer (some ⟨w.heap.size + 2, 8, none⟩), .pointer (some ⟨w.heap.size + 2, 9, none⟩), .pointer (some ⟨w.heap.size + 2, 10, none⟩)] T)) fun e w' => e = .returned (.agg #[.string t, .int .i64 96, .int .i64 0]) ∧ FAt w w' t 72 (fA (telB t)) 0) := Lib.hid (fun wx T hh => (takeW_f (q := 72) 8 3 _ T hh HM.out (by omega) (by omega) (by have := HL.out; omega) (row3 _ 8) (fA_set t)).mono fun e w' h => ⟨h.1, h.2.1⟩)
      obtain ⟨s0, s1, s2, sf⟩ := hF.scan
      have HF := Lib.hid hF
      clear hF
      go_upto_region 8 with fail
      go_cut [] (fun wx => FAt w wx t 96 (fA (telB t)) 0)
      case first =>
        go_wp2_with fail
        refine (K8.out _ _ HF.out).mono ?_
        rintro e w' ⟨rfl, hF2⟩
        obtain ⟨r0, r1, r2, rf⟩ := hF2.scan
        have HF2 := Lib.hid hF2
        clear hF2
        go_wp2_with fail
        go_meet
        case rel => exact HF2.out.on
      case rest =>
      have hF := hcut
      clear hcut HF K8 s0 s1 s2 sf
      generalize wc = w8 at *
      have K9 : Hid (∀ (wx : World) (T : TypeId), FAt w wx t 96 (fA (telB t)) 0 → Calls Try.prog 68 #[.agg #[.string t, .int .i64 96, .int .i64 0], .int .i64 1, .slice (some ⟨wx.heap.size, 0, none⟩) 4 4] (wx.alloc (.cells #[.pointer (some ⟨w.heap.size + 3, 0, none⟩), .pointer (some ⟨w.heap.size + 2, 12, none⟩), .pointer (some ⟨w.heap.size + 2, 13, none⟩), .pointer (some ⟨w.heap.size + 2, 14, none⟩)] T)) fun e w' => e = .returned (.agg #[.string t, .int .i64 100, .int .i64 0]) ∧ FAt w w' t 96 (fB (telB t)) (nmB t 96 1)) := Lib.hid (fun wx T hh => takeB_f T hh HM.out (by have := HL.out; omega) (fB_set t))
      obtain ⟨s0, s1, s2, sf⟩ := hF.scan
      have HF := Lib.hid hF
      clear hF
      go_upto_region 9 with fail
      go_cut [] (fun wx => FAt w wx t 100 (fB (telB t)) (nmB t 96 1))
      case first =>
        go_wp2_with fail
        refine (K9.out _ _ HF.out).mono ?_
        rintro e w' ⟨rfl, hF2⟩
        obtain ⟨r0, r1, r2, rf⟩ := hF2.scan
        have HF2 := Lib.hid hF2
        clear hF2
        go_wp2_with fail
        go_meet
        case rel => exact HF2.out.on
      case rest =>
      have hF := hcut
      clear hcut HF K9 s0 s1 s2 sf
      generalize wc = w9 at *
      have K10 : Hid (∀ (wx : World) (T : TypeId), FAt w wx t 100 (fB (telB t)) (nmB t 96 1) → Calls Try.prog 69 #[.agg #[.string t, .int .i64 100, .int .i64 0], .int .i64 1, .slice (some ⟨wx.heap.size, 0, none⟩) 2 2] (wx.alloc (.cells #[.pointer (some ⟨w.heap.size + 2, 15, none⟩), .pointer (some ⟨w.heap.size + 2, 16, none⟩)] T)) fun e w' => e = .returned (.agg #[.string t, .int .i64 102, .int .i64 0]) ∧ FAt w w' t 100 (fC (telB t)) (nmB t 96 1)) := Lib.hid (fun wx T hh => (takeI_f (q := 100) 15 2 _ T hh HM.out (by omega) (by omega) (by have := HL.out; omega) (row2 _ 15) (fC_set t)))
      obtain ⟨s0, s1, s2, sf⟩ := hF.scan
      have HF := Lib.hid hF
      clear hF
      go_upto_region 10 with fail
      go_cut [] (fun wx => FAt w wx t 102 (fC (telB t)) (nmB t 96 1))
      case first =>
        go_wp2_with fail
        refine (K10.out _ _ HF.out).mono ?_
        rintro e w' ⟨rfl, hF2⟩
        obtain ⟨r0, r1, r2, rf⟩ := hF2.scan
        have HF2 := Lib.hid hF2
        clear hF2
        go_wp2_with fail
        go_meet
        case rel => exact HF2.out.on
      case rest =>
      have hF := hcut
      clear hcut HF K10 s0 s1 s2 sf
      generalize wc = w10 at *
      have K11 : Hid (∀ (wx : World) (T : TypeId), FAt w wx t 102 (fC (telB t)) (nmB t 96 1) → Calls Try.prog 70 #[.agg #[.string t, .int .i64 102, .int .i64 0], .slice (some ⟨wx.heap.size, 0, none⟩) 4 4] (wx.alloc (.cells #[.pointer (some ⟨w.heap.size + 2, 17, none⟩), .pointer (some ⟨w.heap.size + 2, 18, none⟩), .pointer (some ⟨w.heap.size + 2, 19, none⟩), .pointer (some ⟨w.heap.size + 2, 20, none⟩)] T)) fun e w' => e = .returned (.agg #[.string t, .int .i64 118, .int .i64 0]) ∧ FAt w w' t 102 (fD (telB t)) (nmB t 96 1)) := Lib.hid (fun wx T hh => (takeDeg_f (q := 102) 17 4 _ T hh HM.out (by omega) (by omega) (by have := HL.out; omega) (row4 _ 17) (fD_set t)))
      obtain ⟨s0, s1, s2, sf⟩ := hF.scan
      have HF := Lib.hid hF
      clear hF
      go_upto_region 11 with fail
      go_cut [] (fun wx => FAt w wx t 118 (fD (telB t)) (nmB t 96 1))
      case first =>
        go_wp2_with fail
        refine (K11.out _ _ HF.out).mono ?_
        rintro e w' ⟨rfl, hF2⟩
        obtain ⟨r0, r1, r2, rf⟩ := hF2.scan
        have HF2 := Lib.hid hF2
        clear hF2
        go_wp2_with fail
        go_meet
        case rel => exact HF2.out.on
      case rest =>
      have hF := hcut
      clear hcut HF K11 s0 s1 s2 sf
      generalize wc = w11 at *
      have K12 : Hid (∀ (wx : World) (T : TypeId), FAt w wx t 118 (fD (telB t)) (nmB t 96 1) → Calls Try.prog 69 #[.agg #[.string t, .int .i64 118, .int .i64 0], .int .i64 1, .slice (some ⟨wx.heap.size, 0, none⟩) 1 1] (wx.alloc (.cells #[.pointer (some ⟨w.heap.size + 2, 21, none⟩)] T)) fun e w' => e = .returned (.agg #[.string t, .int .i64 119, .int .i64 0]) ∧ FAt w w' t 118 (fE (telB t)) (nmB t 96 1)) := Lib.hid (fun wx T hh => (takeI_f (q := 118) 21 1 _ T hh HM.out (by omega) (by omega) (by have := HL.out; omega) (row1 _ 21) (fE_set t)))
      obtain ⟨s0, s1, s2, sf⟩ := hF.scan
      have HF := Lib.hid hF
      clear hF
      go_upto_region 12 with fail
      go_cut [] (fun wx => FAt w wx t 119 (fE (telB t)) (nmB t 96 1))
      case first =>
        go_wp2_with fail
        refine (K12.out _ _ HF.out).mono ?_
        rintro e w' ⟨rfl, hF2⟩
        obtain ⟨r0, r1, r2, rf⟩ := hF2.scan
        have HF2 := Lib.hid hF2
        clear hF2
        go_wp2_with fail
        go_meet
        case rel => exact HF2.out.on
      case rest =>
      have hF := hcut
      clear hcut HF K12 s0 s1 s2 sf
      generalize wc = w12 at *
      have K13 : Hid (∀ (wx : World) (T : TypeId), FAt w wx t 119 (fE (telB t)) (nmB t 96 1) → Calls Try.prog 70 #[.agg #[.string t, .int .i64 119, .int .i64 0], .slice (some ⟨wx.heap.size, 0, none⟩) 2 2] (wx.alloc (.cells #[.pointer (some ⟨w.heap.size + 2, 22, none⟩), .pointer (some ⟨w.heap.size + 2, 23, none⟩)] T)) fun e w' => e = .returned (.agg #[.string t, .int .i64 127, .int .i64 0]) ∧ FAt w w' t 119 (fF (telB t)) (nmB t 96 1)) := Lib.hid (fun wx T hh => (takeDeg_f (q := 119) 22 2 _ T hh HM.out (by omega) (by omega) (by have := HL.out; omega) (row2 _ 22) (fF_set t)))
      obtain ⟨s0, s1, s2, sf⟩ := hF.scan
      have HF := Lib.hid hF
      clear hF
      go_upto_region 13 with fail
      go_cut [] (fun wx => FAt w wx t 119 (fF (telB t)) (nmB t 96 1))
      case first =>
        go_wp2_with fail
        refine (K13.out _ _ HF.out).mono ?_
        rintro e w' ⟨rfl, hF2⟩
        obtain ⟨r0, r1, r2, rf⟩ := hF2.scan
        have HF2 := Lib.hid hF2
        clear hF2
        go_wp2_with fail
        go_meet
        case rel => exact HF2.out
      case rest =>
      have hF := hcut
      clear hcut HF K13 s0 s1 s2 sf
      generalize wc = w13 at *
      obtain ⟨x, hx⟩ : ∃ x, nmB t 96 1 = x := ⟨_, rfl⟩
      rw [hx] at hF HCl
      have HX := Lib.hid hx
      clear hx
      have e11 := at11 hF.2.2.1
      have c0 : w13.cell? ⟨w.heap.size + 3, 0, none⟩ = some (.int .u8 x) := cell_blk hF.2.2.2.1 0
      have gf : ∀ o, w13.frozen? ⟨w.heap.size + 2, o, none⟩ = false := fun o => by have := hF.2.2.1; unfold HAt at this; simp [World.frozen?, this]
      have HF := Lib.hid hF
      clear hF
      go_upto_region 14 with fail
      go_cut [] (fun wx => FAt w wx t 119 (telB t) x)
      case first =>
        go_wp2_with fail
        go_meet
        case rel => exact HFG.out _ _ _ HF.out _ HCl.out.symm
      case rest =>
      have hF := hcut
      clear hcut HF HFG HCl e11 c0 gf
      generalize wc = w14 at *
      obtain ⟨T, hT⟩ : ∃ T, telB t = T := ⟨_, rfl⟩
      rw [hT] at hF
      have HT := Lib.hid hT
      clear hT
      have c0 : w14.cell? ⟨w.heap.size + 3, 0, none⟩ = some (.int .u8 x) := cell_blk hF.2.2.2.1 0
      have HF := Lib.hid hF
      clear hF
      go_upto_region 15 with fail
      go_cut [3] (fun y wx => y = .int .u8 x ∧ HAt wx (w.heap.size + 1) 38 T ∧ Below w.heap.size w wx)
      case first =>
        refine wp_region_any (by kernel_rfl) ?_
        change wpAny _ _ _ _ _ _ _ (World.drew _)
        have hR : HAt w14.drew (w.heap.size + 1) 38 zeroH := HF.out.2.1
        have hA : HAt w14.drew (w.heap.size + 2) 38 T := HF.out.2.2.1
        have hU : Below w.heap.size w w14.drew := HF.out.2.2.2.2.drew
        have HP := put24 w14.drew (w.heap.size + 1) 38 zeroH T hR
        refine wpAny_ready (rs := [0, 1]) (by kernel_rfl) (by simp) ?_
        refine AllReady.cons rfl (fun K hK => ?_) (AllReady.cons rfl (fun K hK => ?_) AllReady.nil)
        · rw [if_pos (by rfl)]
          refine wp_load_row 38 _ rfl (w.heap.size + 2) rfl 38 (cH T) (0, 0) _ hA Try.underlying38 rfl head_size (hK _ _ ?_)
          clear hK K
          try simp only [Act.put, List.setIfInBounds_toArray, List.set_cons_zero, List.set_cons_succ]
          refine wpAny_ready (rs := [1, 2]) (by kernel_rfl) (by simp) ?_
          refine AllReady.cons rfl (fun K hK => ?_) (AllReady.cons rfl (fun K hK => ?_) AllReady.nil)
          · go_simp
            refine hK _ _ ?_
            clear hK K
            try simp only [Act.put, List.setIfInBounds_toArray, List.set_cons_zero, List.set_cons_succ]
            refine wpAny_ready (rs := [2]) (by kernel_rfl) (by simp) ?_
            refine AllReady.cons rfl (fun K hK => ?_) AllReady.nil
            rw [if_pos (by rfl)]
            refine wp_store_row 38 _ _ rfl (w.heap.size + 1) (cH T) rfl rfl 38 (cH zeroH) hR head_size rfl (cH_one T) (hK _ _ ?_)
            clear hK K
            generalize w14.drew.setRow (w.heap.size + 1) (cH T) = w15 at HP ⊢
            have c0 : w15.cell? ⟨w.heap.size + 3, 0, none⟩ = some (.int .u8 x) := (cell_eq (HP.2.2.2 _ (by omega))).trans c0
            try simp only [Act.put, List.setIfInBounds_toArray, List.set_cons_zero, List.set_cons_succ]
            refine wpAny_ready (rs := [3]) (by kernel_rfl) (by simp) ?_
            refine AllReady.cons rfl (fun K hK => ?_) AllReady.nil
            go_simp
            refine hK _ _ ?_
            clear hK K
            try simp only [Act.put, List.setIfInBounds_toArray, List.set_cons_zero, List.set_cons_succ]
            refine wpAny_done (by kernel_rfl) ?_ _
            go_wp2_with fail
            go_meet
            case rel => exact ⟨rfl, HP.1, HP.2.2.1 _ _ (by omega) hU⟩
          · rw [if_pos (by rfl)]
            refine wp_store_row 38 _ _ rfl (w.heap.size + 1) (cH T) rfl rfl 38 (cH zeroH) hR head_size rfl (cH_one T) (hK _ _ ?_)
            clear hK K
            generalize w14.drew.setRow (w.heap.size + 1) (cH T) = w15 at HP ⊢
            have c0 : w15.cell? ⟨w.heap.size + 3, 0, none⟩ = some (.int .u8 x) := (cell_eq (HP.2.2.2 _ (by omega))).trans c0
            try simp only [Act.put, List.setIfInBounds_toArray, List.set_cons_zero, List.set_cons_succ]
            refine wpAny_ready (rs := [1]) (by kernel_rfl) (by simp) ?_
            refine AllReady.cons rfl (fun K hK => ?_) AllReady.nil
            go_simp
            refine hK _ _ ?_
            clear hK K
            try simp only [Act.put, List.setIfInBounds_toArray, List.set_cons_zero, List.set_cons_succ]
            refine wpAny_ready (rs := [3]) (by kernel_rfl) (by simp) ?_
            refine AllReady.cons rfl (fun K hK => ?_) AllReady.nil
            go_simp
            refine hK _ _ ?_
            clear hK K
            try simp only [Act.put, List.setIfInBounds_toArray, List.set_cons_zero, List.set_cons_succ]
            refine wpAny_done (by kernel_rfl) ?_ _
            go_wp2_with fail
            go_meet
            case rel => exact ⟨rfl, HP.1, HP.2.2.1 _ _ (by omega) hU⟩
        · go_simp
          refine hK _ _ ?_
          clear hK K
          try simp only [Act.put, List.setIfInBounds_toArray, List.set_cons_zero, List.set_cons_succ]
          refine wpAny_ready (rs := [0]) (by kernel_rfl) (by simp) ?_
          refine AllReady.cons rfl (fun K hK => ?_) AllReady.nil
          rw [if_pos (by rfl)]
          refine wp_load_row 38 _ rfl (w.heap.size + 2) rfl 38 (cH T) (0, 0) _ hA Try.underlying38 rfl head_size (hK _ _ ?_)
          clear hK K
          try simp only [Act.put, List.setIfInBounds_toArray, List.set_cons_zero, List.set_cons_succ]
          refine wpAny_ready (rs := [2]) (by kernel_rfl) (by simp) ?_
          refine AllReady.cons rfl (fun K hK => ?_) AllReady.nil
          rw [if_pos (by rfl)]
          refine wp_store_row 38 _ _ rfl (w.heap.size + 1) (cH T) rfl rfl 38 (cH zeroH) hR head_size rfl (cH_one T) (hK _ _ ?_)
          clear hK K
          generalize w14.drew.setRow (w.heap.size + 1) (cH T) = w15 at HP ⊢
          have c0 : w15.cell? ⟨w.heap.size + 3, 0, none⟩ = some (.int .u8 x) := (cell_eq (HP.2.2.2 _ (by omega))).trans c0
          try simp only [Act.put, List.setIfInBounds_toArray, List.set_cons_zero, List.set_cons_succ]
          refine wpAny_ready (rs := [3]) (by kernel_rfl) (by simp) ?_
          refine AllReady.cons rfl (fun K hK => ?_) AllReady.nil
          go_simp
          refine hK _ _ ?_
          clear hK K
          try simp only [Act.put, List.setIfInBounds_toArray, List.set_cons_zero, List.set_cons_succ]
          refine wpAny_done (by kernel_rfl) ?_ _
          go_wp2_with fail
          go_meet
          case rel => exact ⟨rfl, HP.1, HP.2.2.1 _ _ (by omega) hU⟩
      case rest =>
        obtain ⟨rfl, hA, hU⟩ := hcut
        have HH := Lib.hid (And.intro hA hU)
        clear hA hU
        go_wp2_with fail
        refine bodyPost_ret (v := .tuple #[.agg (cH T), .int .u8 x]) (results_head Try.results44 _ _ _ _ _ _ rfl rfl HH.out.1) rfl ⟨by rw [HT.out, HX.out], HH.out.2⟩
end Go.Proofs.Ytkhlkjhfgfjadaa
