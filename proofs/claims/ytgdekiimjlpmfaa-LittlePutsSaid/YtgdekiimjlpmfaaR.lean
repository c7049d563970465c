/- The walk of LittlePuts where the bytes are at most 300: it returns true, and what was there stays. -/
import Derived.Test.YtgdekiimjlpmfaaQ
import Derived.Laws.AppendOwnNone
import Derived.Deep.DeepCutAuto
import Derived.Deep.RegionHeld3
namespace Go.Proofs.Ytgdekiimjlpmfaa
open Go.RowKit
set_option linter.unusedVariables false
theorem bytesAt_cells {w : World} {x : Addr} {cap : Nat} {l : List Int} (h : BytesAt w (.slice (some x) l.length cap) l) : ∀ j u, (l.map (Value.int .u8))[j]? = some u → w.cell? (x.add j) = some u := by
  intro j u hj
  have hjl : j < l.length := by have := (List.getElem?_eq_some_iff.1 hj).1; simpa using this
  obtain ⟨a, c, he, _, _, hc⟩ := h
  obtain ⟨y, hy, _, hcell⟩ := hc (by omega)
  simp only [Value.slice.injEq] at he
  obtain ⟨h1, _, _⟩ := he
  rw [← h1] at hy
  obtain rfl := Option.some.inj hy
  rw [hcell j hjl]
  simpa [hjl] using hj
theorem cell_lt {w : World} {a : Addr} {v : Value} (h : w.cell? a = some v) : a.block < w.heap.size := by
  rcases Nat.lt_or_ge a.block w.heap.size with h' | h'
  · exact h'
  · simp [World.cell?, Array.getElem?_eq_none h'] at h
theorem Own.below {w w' : World} {B : Nat} {v : Value} {l : List Int} (h : Own w B v l) (hb : Below w.heap.size w w') : Own w' B v l := by
  have hlt := World.ownsRow.lt h
  obtain ⟨h1, h2⟩ := h
  refine ⟨h1, ?_⟩
  rcases h2 with h2 | ⟨g, cap, cur, hv, hg, hh, r⟩
  · exact .inl h2
  · refine .inr ⟨g, cap, cur, hv, hg, ?_, r⟩
    rw [hb.block g (hlt g (by rw [hv]; rfl)).2]; exact hh
set_option maxHeartbeats 800000 in
theorem puts_walk (a : Option Addr) (cap : Nat) (l : List Int) (n x : Int) (m : Nat) (w : World) (hb : BytesAt w (.slice a l.length cap) l) (hnil : a = none → l = [] ∧ cap = 0) (h3 : l.length ≤ 300)
    (hn : n = m ∧ 1 ≤ m ∧ m ≤ 8 ∨ m = 0 ∧ (n < 1 ∨ 8 < n)) (x0 : 0 ≤ x) (x1 : x ≤ 18446744073709551615) :
    Calls Try.prog 3 #[.slice a l.length cap, .int .i64 n, .int .u64 x] w fun e w' => e = .returned (.bool true) ∧ Below w.heap.size w w' := by
  have hd : decide (300 < (l.length : Int)) = false := by simp; omega
  have HB := Lib.hid hb; clear hb
  have HN := Lib.hid hnil; clear hnil
  have HM := Lib.hid hn; clear hn
  obtain ⟨i0, hi, hz0, hz1, hz2⟩ := info_parts Try.info5
  go_enter Try.func3, Try.ntmps3
  go_upto_region 3 with fail
  go_cut [7] (fun c wx => Own wx w.heap.size c l ∧ Below w.heap.size w wx)
  case first =>
    cases a with
    | none =>
      obtain ⟨rfl, rfl⟩ := HN.out rfl
      have ho : (w.alloc (.cells #[] 5)).ownsRow w.heap.size 5 1 (.slice (some ⟨w.heap.size, 0, none⟩) 0 0) 0 [] := World.ownsRow_made w #[] 0 (Nat.le_refl _) (by unfold maxLen; omega) rfl
      have HO := Lib.hid ho; clear ho
      go_wp2_with fail
      go_meet
      case rel => exact ⟨HO.out, by go_grown⟩
    | some y =>
      have hcs := bytesAt_cells HB.out
      have HCS := Lib.hid hcs; clear hcs
      have ho : (w.alloc (.cells #[] 5)).ownsRow w.heap.size 5 1 (.slice (some ⟨w.heap.size, 0, none⟩) 0 0) 0 [] := World.ownsRow_made w #[] 0 (Nat.le_refl _) (by unfold maxLen; omega) rfl
      have HO := Lib.hid ho; clear ho
      go_wp2_with (first | (at_builtin; refine wpList_append_own _ rfl _ _ 22 rfl w.heap.size 5 i0 (.int .u8 0) 1 1 Try.underlying22 hi hz0 hz1 hz2 rfl (by decide) _ _ _ rfl HO.out y l.length cap (l.map (Value.int .u8)) rfl (by simp) ?d1 (ints_oneCell _ _) ?d3 ?d4 ?d5 ?_) | fail)
      case d1 => exact fun j u hj => (((Below.refl w.heap.size w).alloc (Nat.le_refl _) _).cell (p := y.add j) (by have h1 := HCS.out j u hj; exact cell_lt h1)).trans (HCS.out j u hj)
      case d3 => unfold maxLen; omega
      case d4 => omega
      case d5 => rw [World.size_alloc]; omega
      intro v' w1 hown' hgrow _
      have hst : Own w1 w.heap.size v' l ∧ Below w.heap.size w w1 :=
        ⟨by simpa [Own] using hown', (Below.alloc (Below.refl _ _) (Nat.le_refl _) _).grown hgrow (by rw [World.size_alloc]; omega) (fun g hg => by simp [Value.ownBlock] at hg; omega)⟩
      clear hown' hgrow
      go_wp2_with fail
      go_meet
      case rel => exact hst
  case rest =>
    obtain ⟨hown, hbw⟩ := hcut
    generalize wc = wa at *
    have hbv := hown.bytesAt
    go_wp2_with fail
    refine (put_any _ l n x m _ hbv (by omega) HM.out x0 x1).mono ?_
    rintro e w1 ⟨v, rfl, hov, hb1⟩
    have hbw1 := hbw.trans (hb1.mono hbw.size)
    have HB0 := hb1
    have HO1 := Lib.hid hown
    have HV := Lib.hid hov
    have hd1 : Below w1.heap.size w1 w1.drew := (Below.refl _ _).drew
    have hs1 := run_str w1.drew v _ (hov.bytesAt.below hd1)
    have HB1 := Lib.hid (HB.out.below hbw1)
    obtain ⟨L, hL⟩ : ∃ L, l ++ leB m x = L := ⟨_, rfl⟩
    have hLb : L.length ≤ 308 := by
      rw [← hL, List.length_append, leB_len]
      have := HM.out
      omega
    rw [hL] at hs1
    have HL := Lib.hid hL
    clear hbv hown hov hb1 hL
    go_upto_region 5 with fail
    go_cut [9] (fun s wx => s = .bool true ∧ Below w1.heap.size w1 wx)
    case first =>
      go_region_with (go_at_call 10; refine (rput_any _ l n x m _ (HB1.out.below hd1) (by omega) HM.out x0 x1).mono ?_; rintro e w2 ⟨v2, rfl, ho2, hb2⟩; rw [HL.out] at ho2; have hs2 := run_str w2 v2 _ ho2.bytesAt; have hs3 := run_str w2 v L (HL.out ▸ (HV.out.bytesAt.below (hd1.trans hb2))); clear ho2)
      all_goals
        go_wp2_with fail
        go_meet
        case rel => exact ⟨rfl, hd1.trans hb2⟩
    case rest =>
      obtain ⟨rfl, hb2⟩ := hcut
      have hov := HV.out.below hb2
      rw [HL.out] at hov
      have hsz1 : wa.heap.size ≤ w1.heap.size := HB0.size
      have hbc : Below wa.heap.size wa wc := HB0.trans (hb2.mono hsz1)
      generalize wc = wb at *
      clear hb2 HB1 HV hbw1 hd1 hs1
      go_wp2_with fail
      rcases hov.2 with ⟨rfl, h0⟩ | ⟨g, cp, cur, rfl, hg, hh, hle, hmx, hcs, htk⟩
      · obtain rfl : L = [] := List.eq_nil_of_length_eq_zero h0
        refine wp_loop_rounds 1 ?_
        rw [rounds_succ]
        have hc1 := run_str wb u7 _ (HO1.out.bytesAt.below hbc)
        have hc2 := run_str wb _ _ (HB.out.below (hbw.trans (hbc.mono hbw.size)))
        go_wp2_with fail
        refine (awake_any _).mono ?_
        rintro e w5 ⟨rfl, hb5⟩
        go_wp2_with fail
        go_ret
        exact ⟨rfl, (hbw.trans (hbc.mono hbw.size)).trans (hb5.mono (by have := hbw.size; have := hbc.size; omega))⟩
      · clear hh hcs htk
        have HGE := hg
        go_loopw [10] (fun i wr => ∃ (k : Nat) (l' : List Int), k ≤ L.length ∧ i = .int .i64 k ∧ l'.length = L.length ∧ Own wr wa.heap.size (.slice (some ⟨g, 0, none⟩) L.length cp) l' ∧ Below wa.heap.size wa wr) (fun i _ => L.length - (intOf i).toNat)
        case atStart => exact ⟨0, L, Nat.zero_le _, rfl, rfl, hov, hbc⟩
        case round =>
          obtain ⟨k, l', hk, rfl, hl', hown, hbr⟩ := hrel
          by_cases hlt : k < L.length
          · have hcx : wr.cell? ⟨g, k, none⟩ = some (.int .u8 (l'.getD k 0)) := by
              rw [World.ownsRow.cellAt (by rw [← hl'] at hown; exact hown) k (by omega)]
              have : k < l'.length := by omega
              simp [this]
            have hfz : wr.frozen? ⟨g, k, none⟩ = false := World.ownsRow.frozenAt (by rw [← hl'] at hown; exact hown) k
            obtain ⟨c, hc⟩ : ∃ c, l'.getD k 0 = c := ⟨_, rfl⟩
            rw [hc] at hcx
            have HL' := Lib.hid hl'
            clear hl' hc
            have HOW := Lib.hid hown; clear hown
            go_wp2_with fail
            go_roundw
            case rel =>
              have hst := (World.ownsRow.stored (show wr.ownsRow wa.heap.size 5 1 (.slice (some ⟨g, 0, none⟩) l'.length cp) l'.length (l'.map (Value.int .u8)) from by have := HOW.out; rw [← HL'.out] at this; exact this) k (.int .u8 (IntKind.u8.wrap (c + 1)))).1
              refine ⟨k + 1, l'.set k (IntKind.u8.wrap (c + 1)), by omega, by go_num, by rw [List.length_set]; exact HL'.out, ?_, hbr.setCell hg _⟩
              unfold Own
              rw [List.length_set, List.map_set, ← HL'.out]
              exact hst
            case measure => simp [intOf]; omega
          · obtain rfl : k = L.length := by omega
            have hc1 := run_str wr u7 _ (HO1.out.bytesAt.below hbr)
            have hc2 := run_str wr _ _ (HB.out.below (hbw.trans (hbr.mono hbw.size)))
            have hsz5 := hbr.size
            go_wp2_with fail
            refine (awake_any _).mono ?_
            rintro e w5 ⟨rfl, hb5⟩
            go_wp2_with fail
            go_ret
            exact ⟨rfl, (hbw.trans (hbr.mono hbw.size)).trans (hb5.mono (by have := hbw.size; omega))⟩
end Go.Proofs.Ytgdekiimjlpmfaa
