/- The contract of varint's Take where the scan may be and the count is in its bounds: n numbers, one behind the other, or what is wrong with the first that is wrong. -/
import Derived.Test.YtpjgemjceikhfaaK
namespace Go.Proofs.Ytpjgemjceikhfaa
open Go.RowKit
set_option linter.unusedVariables false
theorem make_words (m : Nat) (W : World) (h : m ≤ 65536) : (Instr.makeSlice 24 (.int .i64 0) (.int .i64 (m : Int))).run Try.prog W = .ok (.slice (some ⟨W.heap.size, 0, none⟩) 0 m) (W.alloc (.cells (madeCells #[.int .u64 0] m) 23)) := by
  obtain ⟨i0, hi, hz0, hz1, hz2⟩ := info_parts Try.info23
  have := run_make (P := Try.prog) W 24 23 i0 (.int .u64 0) Try.underlying24 hi hz0 .i64 .i64 (0 : Int) (m : Int) (by omega) (by omega) (by rw [hz2]; omega) (by omega)
  rw [this, hz1]
  simp only [Int.toNat_natCast, Nat.mul_one]
  rfl
theorem ownW_made (w : World) (m : Nat) (h : m ≤ 65536) : OwnW (w.alloc (.cells (madeCells #[.int .u64 0] m) 23)) w.heap.size (.slice (some ⟨w.heap.size, 0, none⟩) 0 m) [] := by
  refine ⟨by simp, .inr ⟨w.heap.size, m, _, rfl, Nat.le_refl _, heap_alloc_new _ _, by simp, by unfold maxLen; omega, ?_, ?_⟩⟩
  · have := toList_madeCells_one (.int .u64 0) m
    have := congrArg List.length this
    simpa using this
  · simp
theorem OwnW.setCell {w : World} {B : Nat} {v : Value} {l : List Int} (h : OwnW w B v l) (a : Addr) (u : Value) (ha : a.block < B) : OwnW (w.setCell a u) B v l := by
  obtain ⟨h1, h2⟩ := h
  refine ⟨h1, ?_⟩
  rcases h2 with h2 | ⟨g, cap, cur, hv, hg, hh, r⟩
  · exact .inl h2
  · refine .inr ⟨g, cap, cur, hv, hg, ?_, r⟩
    rw [Below.heap_setCell w a u g (by omega)]; exact hh
theorem spot_set {w : World} {h : Nat} {t t' : ByteArray} {p p' q q' : Int} (s : Spot w h t p q) : Spot (((w.setCell ⟨h, 0, none⟩ (.string t')).setCell ⟨h, 1, none⟩ (.int .i64 p')).setCell ⟨h, 2, none⟩ (.int .i64 q')) h t' p' q' := by
  obtain ⟨c0, c1, c2, f0⟩ := s
  exact ⟨by simp [go_sem, c0], by simp [go_sem, c1], by simp [go_sem, c2], fun o => by simp [go_sem, f0]⟩
theorem spot_off {w : World} {h g : Nat} {t t' : ByteArray} {p p' q q' : Int} (s : Spot w h t p q) (hg : g ≠ h) : Spot (((w.setCell ⟨g, 0, none⟩ (.string t')).setCell ⟨g, 1, none⟩ (.int .i64 p')).setCell ⟨g, 2, none⟩ (.int .i64 q')) h t p q := by
  obtain ⟨c0, c1, c2, f0⟩ := s
  have hg' : h ≠ g := fun e => hg e.symm
  exact ⟨by simp [go_sem, c0], by simp [go_sem, c1], by simp [go_sem, c2], fun o => by simp [go_sem, f0]⟩
set_option maxHeartbeats 1000000 in
set_option maxRecDepth 20000 in
theorem take_3 (t : ByteArray) (p q n : Int) (w : World) (hm : t.size ≤ maxLen) (hr : restBad t p q = 0) (h0 : 0 ≤ n) (h1 : n ≤ 65536) : Calls Try.prog 17 #[.agg #[.string t, .int .i64 p, .int .i64 q], .int .i64 n] w (TakeEnd t (takeS t n.toNat p []).1 (takeS t n.toNat p []).2.1 (takeS t n.toNat p []).2.2 w) := by
  have HV := Lib.hid (fun W => hr ▸ vplaced_any t p q W hm)
  obtain ⟨rfl, p0, p1⟩ := restBad_ok t p q hr
  obtain ⟨l, hl⟩ : ∃ l, (takeS t n.toNat p []).1 = l := ⟨_, rfl⟩
  obtain ⟨pe, hpe⟩ : ∃ pe, (takeS t n.toNat p []).2.1 = pe := ⟨_, rfl⟩
  obtain ⟨qe, hqe⟩ : ∃ qe, (takeS t n.toNat p []).2.2 = qe := ⟨_, rfl⟩
  have HT : Hid (takeS t n.toNat p [] = (l, pe, qe)) := Lib.hid (by rw [← hl, ← hpe, ← hqe])
  rw [hl, hpe, hqe]
  clear hl hpe hqe
  obtain ⟨m, rfl⟩ : ∃ m : Nat, n = m := ⟨n.toNat, by omega⟩
  rw [Int.toNat_natCast] at HT
  have HR := Lib.hid hr
  have HM := Lib.hid hm
  clear hr hm
  go_enter Try.func17, Try.ntmps17
  go_upto_region 1 with fail
  go_cut [] (fun wx => Spot wx w.heap.size t p 0 ∧ Spot wx (w.heap.size + 1) { data := #[] } 0 0 ∧ w.heap.size + 2 ≤ wx.heap.size ∧ Below w.heap.size w wx)
  case first =>
    go_wp2_with fail
    refine (HV.out _).mono ?_
    rintro e w1 ⟨rfl, hb⟩
    have hz : w.heap.size + 2 ≤ w1.heap.size := by have := hb.size; simp at this; omega
    have hbw : Below w.heap.size w w1 := Below.trans (by go_grown) (hb.mono (by simp; omega))
    have f0 : ∀ o, w1.frozen? ⟨w.heap.size, o, none⟩ = false := fun o => ((bcell hb).2 _ _ (by simp; omega)).trans (by simp [go_sem])
    have f1 : ∀ o, w1.frozen? ⟨w.heap.size + 1, o, none⟩ = false := fun o => ((bcell hb).2 _ _ (by simp)).trans (by simp [go_sem])
    have c0 : w1.cell? ⟨w.heap.size, 0, none⟩ = some (.string t) := ((bcell hb).1 _ _ (by simp; omega)).trans (by simp [go_sem])
    have c1 : w1.cell? ⟨w.heap.size, 1, none⟩ = some (.int .i64 p) := ((bcell hb).1 _ _ (by simp; omega)).trans (by simp [go_sem])
    have c2 : w1.cell? ⟨w.heap.size, 2, none⟩ = some (.int .i64 0) := ((bcell hb).1 _ _ (by simp; omega)).trans (by simp [go_sem])
    have c3 : w1.cell? ⟨w.heap.size + 1, 0, none⟩ = some (.string { data := #[] }) := ((bcell hb).1 _ _ (by simp)).trans (by simp [go_sem])
    have c4 : w1.cell? ⟨w.heap.size + 1, 1, none⟩ = some (.int .i64 0) := ((bcell hb).1 _ _ (by simp)).trans (by simp [go_sem])
    have c5 : w1.cell? ⟨w.heap.size + 1, 2, none⟩ = some (.int .i64 0) := ((bcell hb).1 _ _ (by simp)).trans (by simp [go_sem])
    clear hb HV
    go_wp2_with fail
    go_meet
    case rel => exact ⟨⟨by simp [go_sem, c0], by simp [go_sem, c1], by simp [go_sem, c2], fun o => by simp [go_sem, f0]⟩, ⟨by simp [go_sem, c3], by simp [go_sem, c4], by simp [go_sem, c5], fun o => by simp [go_sem, f1]⟩, by simp only [World.size_setCell]; exact hz, by go_grown⟩
  case rest =>
    obtain ⟨⟨c0, c1, c2, f0⟩, ⟨c3, c4, c5, f1⟩, hz, hbw⟩ := hcut
    clear HV
    generalize wc = w1 at *
    have hm6 : m ≤ 65536 := by omega
    go_upto_region 7 with fail
    go_cut [6] (fun v wx => OwnW wx (w.heap.size + 2) v [] ∧ Spot wx w.heap.size t p 0 ∧ Spot wx (w.heap.size + 1) { data := #[] } 0 0 ∧ w.heap.size + 2 ≤ wx.heap.size ∧ Below w.heap.size w wx)
    case first =>
      have S0 : Spot w1 w.heap.size t p 0 := ⟨c0, c1, c2, f0⟩
      have S1 : Spot w1 (w.heap.size + 1) { data := #[] } 0 0 := ⟨c3, c4, c5, f1⟩
      have hmk1 := fun W => make_words m W hm6
      by_cases hlt : (m : Int) ≤ ((t.size - p.toNat : Nat) : Int)
      · go_wp2_with fail
        refine (rest_yes t p _ HM.out HR.out p0 p1).mono ?_
        rintro e w2 ⟨rfl, hb⟩
        go_wp2_with fail
        go_meet
        case rel =>
          have hs2 := hb.size
          exact ⟨(ownW_made w2 m hm6).mono (by omega), (S0.below hb (by omega)).below (((Below.refl w2.heap.size w2).alloc (Nat.le_refl _) _)) (by omega), (S1.below hb (by omega)).below (((Below.refl w2.heap.size w2).alloc (Nat.le_refl _) _)) (by omega), by simp; omega, (hbw.trans (hb.mono (by omega))).alloc (by omega) _⟩
      · have hle : t.size - p.toNat ≤ 65536 := by omega
        have hmk2 := fun W => make_words (t.size - p.toNat) W hle
        have hlt' : ((t.size - p.toNat : Nat) : Int) < (m : Int) := by omega
        go_wp2_with fail
        refine (rest_yes t p _ HM.out HR.out p0 p1).mono ?_
        rintro e w2 ⟨rfl, hb⟩
        go_wp2_with fail
        go_meet
        case rel =>
          have hs2 := hb.size
          exact ⟨(ownW_made w2 _ hle).mono (by omega), (S0.below hb (by omega)).below (((Below.refl w2.heap.size w2).alloc (Nat.le_refl _) _)) (by omega), (S1.below hb (by omega)).below (((Below.refl w2.heap.size w2).alloc (Nat.le_refl _) _)) (by omega), by simp; omega, (hbw.trans (hb.mono (by omega))).alloc (by omega) _⟩
    case rest =>
      clear c0 c1 c2 f0 c3 c4 c5 f1 hz hbw
      obtain ⟨hown, S0, S1, hz, hbw⟩ := hcut
      generalize wc = wa at *
      obtain ⟨i0, hi, hz0, hz1, hz2⟩ := info_parts Try.info23
      go_wp2_with fail
      go_loopw [6, 29] (fun v i wr => ∃ (k : Nat) (pk : Int) (acc : List Int), k ≤ m ∧ i = .int .i64 k ∧ acc.length = k ∧ Hid (takeS t (m - k) pk acc = (l, pe, qe)) ∧ 0 ≤ pk ∧ pk ≤ t.size ∧ Spot wr w.heap.size t pk 0 ∧ Spot wr (w.heap.size + 1) { data := #[] } 0 0 ∧ OwnW wr (w.heap.size + 2) v acc ∧ w.heap.size + 2 ≤ wr.heap.size ∧ Below w.heap.size w wr) (fun _ i _ => m - (intOf i).toNat)
      case atStart => exact ⟨0, p, [], Nat.zero_le _, rfl, rfl, HT, p0, p1, S0, S1, hown, hz, hbw⟩
      case round =>
        clear hown S0 S1 hz hbw HT p0 p1
        obtain ⟨k, pk, acc, hk, rfl, hacc, HT, p0, p1, S0, S1, hown, hz, hbw⟩ := hrel
        by_cases hlt : k < m
        · have hrb : restBad t pk 0 = 0 := by
            unfold restBad placedV
            rw [if_pos ⟨p0, p1⟩]; rfl
          obtain ⟨j, hj⟩ : ∃ j, m - k = j + 1 := ⟨m - k - 1, by omega⟩
          have hm0 := HM.out
          have S0' := S0
          obtain ⟨c0, c1, c2, f0⟩ := S0
          by_cases he : errV (rst t pk) = 0
          · have hcb := cnt_bd t pk p0 p1 he
            have HT' := HT.out
            rw [hj, takeS_ok t j pk acc he] at HT'
            have HG := fun W => get_3 t pk 0 _ _ W hm0 hrb he rfl rfl
            generalize cntV (rst t pk) = c at *
            generalize valV (rst t pk) = x at *
            have HG := Lib.hid HG
            have HT := Lib.hid HT'
            have HA := Lib.hid hacc
            clear he hrb hm0 HT' hacc
            obtain ⟨cb0, cb1, cb2⟩ := hcb
            go_wp2_with fail
            refine (HG.out _).mono ?_
            rintro e w2 ⟨rfl, hb⟩
            have hs2 := hb.size
            have T0 := S0'.below hb (by omega)
            have T1 := S1.below hb (by omega)
            have U0 := spot_set (t' := t) (p' := pk + c) (q' := 0) T0
            have U1 := spot_off (g := w.heap.size) (t' := t) (p' := pk + c) (q' := 0) T1 (by omega)
            have hown3 := (((hown.below hb).setCell ⟨w.heap.size, 0, none⟩ (.string t) (by show w.heap.size < _; omega)).setCell ⟨w.heap.size, 1, none⟩ (.int .i64 (pk + c)) (by show w.heap.size < _; omega)).setCell ⟨w.heap.size, 2, none⟩ (.int .i64 0) (by show w.heap.size < _; omega)
            have hbw3 : Below w.heap.size w (((w2.setCell ⟨w.heap.size, 0, none⟩ (.string t)).setCell ⟨w.heap.size, 1, none⟩ (.int .i64 (pk + c))).setCell ⟨w.heap.size, 2, none⟩ (.int .i64 0)) :=
              (((hbw.trans (hb.mono hbw.size)).setCell (Nat.le_refl _) _).setCell (Nat.le_refl _) _).setCell (Nat.le_refl _) _
            obtain ⟨d0, d1, d2, g0⟩ := T0
            clear HG c0 c1 c2 f0 hown hbw hb T1 S1 S0'
            go_wp2_with (first | (at_builtin; refine wpList_append_own _ rfl _ _ 24 rfl (w.heap.size + 2) 23 i0 (.int .u64 0) 1 8 Try.underlying24 hi hz0 hz1 hz2 rfl (by decide) _ _ _ rfl (World.ownsRow.alloc hown3 _) ⟨w2.heap.size, 0, none⟩ 1 1 [.int .u64 x] rfl rfl ?c1 ?c2 ?c3 ?c4 ?c5 ?_) | fail)
            case c1 =>
              intro j u hj
              match j, hj with
              | 0, hj => simp at hj; subst hj; simp [Addr.add, go_sem]
            case c2 => intro u hu; simp at hu; subst hu; rfl
            case c3 => rw [HA.out]; unfold maxLen; omega
            case c4 => rw [HA.out]; omega
            case c5 => simp; omega
            intro v' w4 hown' hgrow _
            have hbel := ((Below.refl (w.heap.size + 2) _).alloc (by simp only [World.size_setCell]; omega) _).grown hgrow (by simp; omega) (fun g hg => (World.ownsRow.lt hown3 g hg).1)
            have hO' := OwnW.snoc hown'
            have V0 := U0.below hbel (by omega)
            have V1 := U1.below hbel (by omega)
            have hb4 := hbw3.trans (hbel.mono (by omega))
            have hz4 := hbel.size
            clear hown' hgrow hown3 hbel hbw3 U0 U1 d0 d1 d2 g0
            go_wp2_with fail
            go_roundw
            case rel => exact ⟨k + 1, pk + c, acc ++ [x], by omega, by go_num, by simp [HA.out], by rw [show m - (k + 1) = j from by omega]; exact HT, by omega, cb1, V0, V1, hO', by simp only [World.size_setCell] at hz4; omega, hb4⟩
            case measure => simp [intOf]; omega
          · have HT' := HT.out
            rw [hj, takeS_no t j pk acc he] at HT'
            simp only [Prod.mk.injEq] at HT'
            obtain ⟨rfl, rfl, rfl⟩ := HT'
            have HG := fun W => get_2 t pk 0 _ W hm0 hrb rfl he
            have hne : (errV (rst t pk) != 0) = true := by simp only [bne_iff_ne, ne_eq]; exact he
            generalize errV (rst t pk) = r at *
            have HG := Lib.hid HG
            clear he hrb hm0 hacc HT
            go_wp2_with fail
            refine (HG.out _).mono ?_
            rintro e w2 ⟨rfl, hb⟩
            have hs2 := hb.size
            have T0 := S0'.below hb (by omega)
            have T1 := S1.below hb (by omega)
            have hbw2 := hbw.trans (hb.mono hbw.size)
            obtain ⟨d0, d1, d2, g0⟩ := T0
            obtain ⟨d3, d4, d5, g1⟩ := T1
            clear HG c0 c1 c2 f0 hown hbw hb S1 S0'
            go_wp2_with fail
            go_region
            all_goals
              go_wp2
              refine bodyPost_ret (v := .tuple #[.slice none 0 0, .agg #[.string t, .int .i64 pk, .int .i64 r]]) (by simp [results, Try.results17, go_sem, d3, d4, d5]) rfl ⟨_, rfl, ownW_nil _ _, ?_⟩
              go_grown
        · obtain rfl : k = m := by omega
          have HT' := HT.out
          rw [Nat.sub_self, takeS] at HT'
          simp only [Prod.mk.injEq] at HT'
          obtain ⟨rfl, rfl, rfl⟩ := HT'
          obtain ⟨d0, d1, d2, g0⟩ := S0
          obtain ⟨d3, d4, d5, g1⟩ := S1
          have HOW := Lib.hid hown
          clear hown HT
          go_wp2_with fail
          go_region
          all_goals
            go_wp2
            refine bodyPost_ret (v := .tuple #[u6, .agg #[.string t, .int .i64 pk, .int .i64 0]]) (by simp [results, Try.results17, go_sem, d3, d4, d5]) rfl ⟨_, rfl, ?_, ?_⟩
            · refine OwnW.mono (B := w.heap.size + 2) ?_ (by omega)
              iterate 3 (refine OwnW.setCell ?_ _ _ (by show w.heap.size + 1 < _; omega))
              exact HOW.out
            · go_grown
theorem take_any (t : ByteArray) (p q n : Int) (w : World) (hm : t.size ≤ maxLen) : Calls Try.prog 17 #[.agg #[.string t, .int .i64 p, .int .i64 q], .int .i64 n] w (TakeEnd t (tkAll t p q n).1 (tkAll t p q n).2.1 (tkAll t p q n).2.2 w) := by
  unfold tkAll
  by_cases h0 : restBad t p q = 0
  · rw [if_pos h0]
    by_cases hn : n < 0 ∨ 65536 < n
    · rw [if_pos hn]
      exact take_2 t p q n w hm h0 hn
    · rw [if_neg hn]
      exact take_3 t p q n w hm h0 (by omega) (by omega)
  · rw [if_neg h0]
    exact take_1 t p q n _ w hm rfl h0
end Go.Proofs.Ytpjgemjceikhfaa
