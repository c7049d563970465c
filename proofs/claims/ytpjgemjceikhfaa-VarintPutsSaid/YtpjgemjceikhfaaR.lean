/- The walk of VarintPuts where there are at most 300 bytes and 100 numbers: it returns true, and what was there stays. -/
import Derived.Test.YtpjgemjceikhfaaQ
import Derived.Test.YtpjgemjceikhfaaY
import Derived.Laws.AppendOwnNone
import Derived.Deep.DeepCutAuto
import Derived.Deep.RegionHeld3
namespace Go.Proofs.Ytpjgemjceikhfaa
open Go.RowKit
set_option linter.unusedVariables false
set_option maxHeartbeats 8000000 in
theorem puts_walk (a : Option Addr) (cap : Nat) (l : List Int) (x : Int) (v2 : Value) (a2 : Option Addr) (cap2 : Nat) (ls : List Int) (w : World) (hb : BytesAt w (.slice a l.length cap) l) (hnil : a = none → l = [] ∧ cap = 0) (h3 : l.length ≤ 300)
    (x0 : 0 ≤ x) (x1 : x ≤ 18446744073709551615) (hw : WordsAt w (.slice a2 ls.length cap2) ls) (h4 : ls.length ≤ 100) (hx : Wide ls) :
    Calls Try.prog 3 #[.slice a l.length cap, .int .u64 x, .slice a2 ls.length cap2] w fun e w' => e = .returned (.bool true) ∧ Below w.heap.size w w' := by
  have hd : decide (300 < (l.length : Int)) = false := by simp; omega
  have hd2 : decide (100 < (ls.length : Int)) = false := by simp; omega
  have HB := Lib.hid hb; clear hb
  have HN := Lib.hid hnil; clear hnil
  have HW := Lib.hid hw; clear hw
  have HX := Lib.hid hx; clear hx
  obtain ⟨i0, hi, hz0, hz1, hz2⟩ := info_parts Try.info5
  go_enter Try.func3, Try.ntmps3
  go_upto_region 3 with fail
  go_cut [7] (fun c wx => Own wx w.heap.size c l ∧ Below w.heap.size w wx)
  case first =>
    cases a with
    | none =>
      obtain ⟨rfl, rfl⟩ := HN.out rfl
      have ho : (w.alloc (.cells #[] 5)).ownsRow w.heap.size 5 1 (.slice (some ⟨w.heap.size, 0, none⟩) 0 0) 0 [] := World.ownsRow_made w #[] 0 (Nat.le_refl _) (by unfold maxLen; omega) rfl
      have HO := Lib.hid ho; clear ho
      go_wp2_with fail
      go_meet
      case rel => exact ⟨HO.out, by go_grown⟩
    | some y =>
      have hcs := bytesAt_cells HB.out
      have HCS := Lib.hid hcs; clear hcs
      have ho : (w.alloc (.cells #[] 5)).ownsRow w.heap.size 5 1 (.slice (some ⟨w.heap.size, 0, none⟩) 0 0) 0 [] := World.ownsRow_made w #[] 0 (Nat.le_refl _) (by unfold maxLen; omega) rfl
      have HO := Lib.hid ho; clear ho
      go_wp2_with (first | (at_builtin; refine wpList_append_own _ rfl _ _ 22 rfl w.heap.size 5 i0 (.int .u8 0) 1 1 Try.underlying22 hi hz0 hz1 hz2 rfl (by decide) _ _ _ rfl HO.out y l.length cap (l.map (Value.int .u8)) rfl (by simp) ?d1 (ints_oneCell _ _) ?d3 ?d4 ?d5 ?_) | fail)
      case d1 => exact fun j u hj => (((Below.refl w.heap.size w).alloc (Nat.le_refl _) _).cell (p := y.add j) (by have h1 := HCS.out j u hj; exact cell_lt h1)).trans (HCS.out j u hj)
      case d3 => unfold maxLen; omega
      case d4 => omega
      case d5 => rw [World.size_alloc]; omega
      intro v' w1 hown' hgrow _
      have hst : Own w1 w.heap.size v' l ∧ Below w.heap.size w w1 :=
        ⟨by simpa [Own] using hown', (Below.alloc (Below.refl _ _) (Nat.le_refl _) _).grown hgrow (by rw [World.size_alloc]; omega) (fun g hg => by simp [Value.ownBlock] at hg; omega)⟩
      clear hown' hgrow
      go_wp2_with fail
      go_meet
      case rel => exact hst
  case rest =>
    obtain ⟨hown, hbw⟩ := hcut
    generalize wc = wa at *
    have hbv := hown.bytesAt
    go_wp2_with fail
    refine (put_any _ l x _ hbv (by omega) x0 x1).mono ?_
    rintro e w1 ⟨v, rfl, hov, hb1⟩
    have hbw1 := hbw.trans (hb1.mono hbw.size)
    have HB0 := hb1
    have HO1 := Lib.hid hown
    have HV := Lib.hid hov
    have hd1 : Below w1.heap.size w1 w1.drew := (Below.refl _ _).drew
    have hs1 := run_str w1.drew v _ (hov.bytesAt.below hd1)
    have HB1 := Lib.hid (HB.out.below hbw1)
    have hs1b := run_str w1.drew _ _ (HB1.out.below hd1)
    have hcat : str (l ++ enc x) = str l ++ str (enc x) := (str_append l (enc x)).symm
    have hzl : (str l).size ≤ 300 := by rw [str_size]; exact h3
    have hzx : (str (enc x)).size ≤ 10 := by rw [str_size]; exact (enc_len x).2
    rw [hcat] at hs1
    have HR := Lib.hid (fun W => rbytes_any x W x0 x1)
    have hLb : (l ++ enc x).length ≤ 310 := by
      rw [List.length_append]
      have := enc_len x
      omega
    obtain ⟨L, hL⟩ : ∃ L, l ++ enc x = L := ⟨_, rfl⟩
    rw [hL] at hLb hcat
    rw [hL] at hov
    have HL := Lib.hid hL
    have HC := Lib.hid hcat
    have HZL := Lib.hid hzl
    have HZX := Lib.hid hzx
    generalize hSl : str l = Sl at *
    generalize hSx : str (enc x) = Sx at *
    have HSl := Lib.hid hSl
    have HSx := Lib.hid hSx
    have HOV := Lib.hid hov
    clear hbv hown hb1 hL hcat hSl hSx hov
    go_upto_region 5 with fail
    go_cut [9] (fun s wx => s = .bool true ∧ Below w1.heap.size w1 wx)
    case first =>
      go_region_with (go_at_call 10; refine (HR.out _).mono ?_; rintro e w2 ⟨rfl, hb2⟩; have hs2 := run_str w2 v _ (HOV.out.bytesAt.below (hd1.trans hb2)); rw [HC.out] at hs2; have hs3 := run_str w2 _ _ (HB1.out.below (hd1.trans hb2)); rw [HSl.out] at hs3)
      all_goals
        go_wp2_with fail
        go_meet
        case rel => exact ⟨rfl, hd1.trans hb2⟩
    case rest =>
      obtain ⟨rfl, hb2⟩ := hcut
      have hov := HOV.out.below hb2
      have hsz1 : wa.heap.size ≤ w1.heap.size := HB0.size
      have hbc : Below wa.heap.size wa wc := HB0.trans (hb2.mono hsz1)
      have hL1 : 1 ≤ L.length := by
        have := enc_len x
        rw [← HL.out, List.length_append]; omega
      generalize wc = wb at *
      clear hb2 HB1 HV HOV hbw1 hd1 hs1 hs1b HB0 HC HL
      go_wp2_with fail
      rcases hov.2 with ⟨rfl, h0⟩ | ⟨g, cp, cur, rfl, hg, hh, hle, hmx, hcs, htk⟩
      · omega
      · clear hh hcs htk
        have HGE := hg
        go_loopw [10] (fun i wr => ∃ (k : Nat) (l' : List Int), k ≤ L.length ∧ i = .int .i64 k ∧ l'.length = L.length ∧ Own wr wa.heap.size (.slice (some ⟨g, 0, none⟩) L.length cp) l' ∧ Below wa.heap.size wa wr) (fun i _ => L.length - (intOf i).toNat)
        case atStart => exact ⟨0, L, Nat.zero_le _, rfl, rfl, hov, hbc⟩
        case round =>
          obtain ⟨k, l', hk, rfl, hl', hown, hbr⟩ := hrel
          by_cases hlt : k < L.length
          · have hcx : wr.cell? ⟨g, k, none⟩ = some (.int .u8 (l'.getD k 0)) := by
              rw [World.ownsRow.cellAt (by rw [← hl'] at hown; exact hown) k (by omega)]
              have : k < l'.length := by omega
              simp [this]
            have hfz : wr.frozen? ⟨g, k, none⟩ = false := World.ownsRow.frozenAt (by rw [← hl'] at hown; exact hown) k
            obtain ⟨c, hc⟩ : ∃ c, l'.getD k 0 = c := ⟨_, rfl⟩
            rw [hc] at hcx
            have HL' := Lib.hid hl'
            clear hl' hc
            have HOW := Lib.hid hown; clear hown
            go_wp2_with fail
            go_roundw
            case rel =>
              have hst := (World.ownsRow.stored (show wr.ownsRow wa.heap.size 5 1 (.slice (some ⟨g, 0, none⟩) l'.length cp) l'.length (l'.map (Value.int .u8)) from by have := HOW.out; rw [← HL'.out] at this; exact this) k (.int .u8 (IntKind.u8.wrap (c + 1)))).1
              refine ⟨k + 1, l'.set k (IntKind.u8.wrap (c + 1)), by omega, by go_num, by rw [List.length_set]; exact HL'.out, ?_, hbr.setCell hg _⟩
              unfold Own
              rw [List.length_set, List.map_set, ← HL'.out]
              exact hst
            case measure => simp [intOf]; omega
          · obtain rfl : k = L.length := by omega
            have hbx := (hbw.trans (hbr.mono hbw.size)).drew
            have hc1 := run_str wr.drew u7 _ (HO1.out.bytesAt.below hbr.drew)
            have hc2 := run_str wr.drew _ _ (HB.out.below hbx)
            rw [HSl.out] at hc1 hc2
            have HW1 := Lib.hid (HW.out.below hbx)
            have hm : Sx.size = (enc x).length := by rw [← HSx.out, str_size]
            obtain ⟨m, hmm⟩ : ∃ m, (enc x).length = m := ⟨_, rfl⟩
            rw [hmm] at hm
            have HM := Lib.hid hmm
            clear hmm hown hov hbr
            go_wp2_with fail
            go_region_with (first | (go_at_call 11; refine (size_any x _ x0 x1).mono ?_; rw [HM.out]; rintro e w' ⟨rfl, rfl⟩) | (go_at_call 10; refine (HR.out _).mono ?_; rintro e w2 ⟨rfl, hb2⟩; have hbx2 := hbx.trans (hb2.mono hbx.size)) | (go_at_call 12; refine (all_any _ ls _ (HW.out.below hbx2) (by omega) HX.out).mono ?_; rintro e w3 ⟨v3, rfl, ho3, hb3⟩; have hbx3 := hbx2.trans (hb3.mono hbx2.size); have hs5 := run_str w3 v3 _ ho3.bytesAt; have HO3 := Lib.hid ho3) | (go_at_call 13; refine (rall_any _ ls _ (HW.out.below hbx3) (by omega) HX.out).mono ?_; rintro e w4 ⟨rfl, hb4⟩; have hs6 := run_str w4 v3 _ (HO3.out.bytesAt.below hb4); have hbx4 := hbx3.trans (hb4.mono hbx3.size)) | (go_at_call 8; refine (awake_any _).mono ?_; rintro e w5 ⟨rfl, hb5⟩; have hbx5 := hbx4.trans (hb5.mono hbx4.size)))
            all_goals
              go_wp2_with fail
              go_ret
              exact ⟨rfl, hbx5⟩
end Go.Proofs.Ytpjgemjceikhfaa
