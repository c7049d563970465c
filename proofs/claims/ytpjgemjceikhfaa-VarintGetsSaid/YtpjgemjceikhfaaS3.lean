/- The contract of the document's own Take, for every scan and count: what the program's answers too. -/
import Derived.Test.YtpjgemjceikhfaaS2
import Derived.Test.YtpjgemjceikhfaaK3
namespace Go.Proofs.Ytpjgemjceikhfaa
open Go.RowKit
set_option linter.unusedVariables false
theorem below_set3 {B h : Nat} {w wx : World} (hb : Below B w wx) (hB : B ≤ h) (v0 v1 v2 : Value) : Below B w (((wx.setCell ⟨h, 0, none⟩ v0).setCell ⟨h, 1, none⟩ v1).setCell ⟨h, 2, none⟩ v2) := ((hb.setCell hB _).setCell hB _).setCell hB _
theorem rtake_1 (t : ByteArray) (p q n : Int) (w : World) (h : q ≠ 0) : Calls Try.prog 18 #[.agg #[.string t, .int .i64 p, .int .i64 q], .int .i64 n] w (TakeEnd t [] p q w) := by
  have hne : (q != 0) = true := by simp only [bne_iff_ne, ne_eq]; exact h
  clear h
  go_enter Try.func18, Try.ntmps18
  go_wp2_with fail
  go_region
  all_goals
    go_wp2
    refine bodyPost_ret (v := .tuple #[.slice none 0 0, .agg #[.string t, .int .i64 p, .int .i64 q]]) (by simp [results, Try.results18, go_sem]) rfl ⟨_, rfl, ownW_nil _ _, ?_⟩
    go_grown
set_option maxRecDepth 20000 in
theorem rtake_2 (t : ByteArray) (p n : Int) (w : World) (h : (p < 0 ∨ t.size < p) ∨ n < 0 ∨ 65536 < n) : Calls Try.prog 18 #[.agg #[.string t, .int .i64 p, .int .i64 0], .int .i64 n] w (TakeEnd t [] p 2 w) := by
  have H := Lib.hid h; clear h
  by_cases h1 : p < 0
  · go_enter Try.func18, Try.ntmps18
    go_wp2_with fail
    go_region
    all_goals
      go_wp2
      refine bodyPost_ret (v := .tuple #[.slice none 0 0, .agg #[.string t, .int .i64 p, .int .i64 2]]) (by simp [results, Try.results18, go_sem]) rfl ⟨_, rfl, ownW_nil _ _, ?_⟩
      go_grown
  · by_cases h2 : (t.size : Int) < p
    · go_enter Try.func18, Try.ntmps18
      go_wp2_with fail
      go_region
      all_goals
        go_wp2
        refine bodyPost_ret (v := .tuple #[.slice none 0 0, .agg #[.string t, .int .i64 p, .int .i64 2]]) (by simp [results, Try.results18, go_sem]) rfl ⟨_, rfl, ownW_nil _ _, ?_⟩
        go_grown
    · by_cases h3 : n < 0
      · go_enter Try.func18, Try.ntmps18
        go_wp2_with fail
        go_region
        all_goals
          go_wp2
          refine bodyPost_ret (v := .tuple #[.slice none 0 0, .agg #[.string t, .int .i64 p, .int .i64 2]]) (by simp [results, Try.results18, go_sem]) rfl ⟨_, rfl, ownW_nil _ _, ?_⟩
          go_grown
      · have h4 : 65536 < n := by have := H.out; omega
        go_enter Try.func18, Try.ntmps18
        go_wp2_with fail
        go_region
        all_goals
          go_wp2
          refine bodyPost_ret (v := .tuple #[.slice none 0 0, .agg #[.string t, .int .i64 p, .int .i64 2]]) (by simp [results, Try.results18, go_sem]) rfl ⟨_, rfl, ownW_nil _ _, ?_⟩
          go_grown
set_option maxHeartbeats 1000000 in
set_option maxRecDepth 20000 in
theorem rtake_3 (t : ByteArray) (p n : Int) (w : World) (hm : t.size ≤ maxLen) (p0 : 0 ≤ p) (p1 : p ≤ t.size) (h0 : 0 ≤ n) (h1 : n ≤ 65536) : Calls Try.prog 18 #[.agg #[.string t, .int .i64 p, .int .i64 0], .int .i64 n] w (TakeEnd t (takeS t n.toNat p []).1 (takeS t n.toNat p []).2.1 (takeS t n.toNat p []).2.2 w) := by
  obtain ⟨l, hl⟩ : ∃ l, (takeS t n.toNat p []).1 = l := ⟨_, rfl⟩
  obtain ⟨pe, hpe⟩ : ∃ pe, (takeS t n.toNat p []).2.1 = pe := ⟨_, rfl⟩
  obtain ⟨qe, hqe⟩ : ∃ qe, (takeS t n.toNat p []).2.2 = qe := ⟨_, rfl⟩
  have HT : Hid (takeS t n.toNat p [] = (l, pe, qe)) := Lib.hid (by rw [← hl, ← hpe, ← hqe])
  rw [hl, hpe, hqe]
  clear hl hpe hqe
  obtain ⟨m, rfl⟩ : ∃ m : Nat, n = m := ⟨n.toNat, by omega⟩
  rw [Int.toNat_natCast] at HT
  have HM := Lib.hid hm
  have hm6 : m ≤ 65536 := by omega
  clear hm
  obtain ⟨i0, hi, hz0, hz1, hz2⟩ := info_parts Try.info23
  go_enter Try.func18, Try.ntmps18
  go_wp2_with fail
  go_loopw [6, 7] (fun v i wr => ∃ (k : Nat) (pk : Int) (acc : List Int), k ≤ m ∧ i = .int .i64 k ∧ acc.length = k ∧ Hid (takeS t (m - k) pk acc = (l, pe, qe)) ∧ 0 ≤ pk ∧ pk ≤ t.size ∧ Spot wr w.heap.size t pk 0 ∧ Spot wr (w.heap.size + 1) { data := #[] } 0 0 ∧ OwnW wr (w.heap.size + 2) v acc ∧ w.heap.size + 2 ≤ wr.heap.size ∧ Below w.heap.size w wr) (fun _ i _ => m - (intOf i).toNat)
  case atStart => exact ⟨0, p, [], Nat.zero_le _, rfl, rfl, HT, p0, p1, ⟨by simp [go_sem], by simp [go_sem], by simp [go_sem], fun o => by simp [go_sem]⟩, ⟨by simp [go_sem], by simp [go_sem], by simp [go_sem], fun o => by simp [go_sem]⟩, ownW_nil _ _, by simp, by go_grown⟩
  case round =>
    clear HT p0 p1
    obtain ⟨k, pk, acc, hk, rfl, hacc, HT, p0, p1, S0, S1, hown, hz, hbw⟩ := hrel
    by_cases hlt : k < m
    · have hrb : restBad t pk 0 = 0 := by
        unfold restBad placedV
        rw [if_pos ⟨p0, p1⟩]; rfl
      obtain ⟨j, hj⟩ : ∃ j, m - k = j + 1 := ⟨m - k - 1, by omega⟩
      have hm0 := HM.out
      have S0' := S0
      obtain ⟨c0, c1, c2, f0⟩ := S0
      by_cases he : errV (rst t pk) = 0
      · have hcb := cnt_bd t pk p0 p1 he
        have HT' := HT.out
        rw [hj, takeS_ok t j pk acc he] at HT'
        have HG := fun W => rget_4 t pk W hm0 p0 p1 he
        generalize cntV (rst t pk) = c at *
        generalize valV (rst t pk) = x at *
        have HG := Lib.hid HG
        have HT := Lib.hid HT'
        have HA := Lib.hid hacc
        clear he hrb hm0 HT' hacc
        obtain ⟨cb0, cb1, cb2⟩ := hcb
        go_wp2_with fail
        refine (HG.out _).mono ?_
        rintro e w2 ⟨rfl, hb⟩
        have hs2 := hb.size
        have T0 := S0'.below hb (by omega)
        have T1 := S1.below hb (by omega)
        have U0 := spot_set (t' := t) (p' := pk + c) (q' := 0) T0
        have U1 := spot_off (g := w.heap.size) (t' := t) (p' := pk + c) (q' := 0) T1 (by omega)
        have hown3 := (((hown.below hb).setCell ⟨w.heap.size, 0, none⟩ (.string t) (by show w.heap.size < _; omega)).setCell ⟨w.heap.size, 1, none⟩ (.int .i64 (pk + c)) (by show w.heap.size < _; omega)).setCell ⟨w.heap.size, 2, none⟩ (.int .i64 0) (by show w.heap.size < _; omega)
        have hbw3 := below_set3 (hbw.trans (hb.mono hbw.size)) (Nat.le_refl _) (.string t) (.int .i64 (pk + c)) (.int .i64 0)
        have hlt2 : w.heap.size < w2.heap.size := by omega
        have hne2 : w.heap.size ≠ w2.heap.size := by omega
        have hne3 : w2.heap.size ≠ w.heap.size := by omega
        obtain ⟨d0, d1, d2, g0⟩ := T0
        clear HG c0 c1 c2 f0 hown hbw hb T1 S1 S0'
        go_upto_region 14 with fail
        generalize hW3 : ((w2.setCell ⟨w.heap.size, 0, none⟩ (.string t)).setCell ⟨w.heap.size, 1, none⟩ (.int .i64 (pk + c))).setCell ⟨w.heap.size, 2, none⟩ (.int .i64 0) = W3 at *
        have hs3 : w.heap.size + 2 ≤ W3.heap.size := by rw [← hW3]; simp only [World.size_setCell]; omega
        clear hW3 d0 d1 d2 g0
        go_wp2_with (first | (at_builtin; refine wpList_append_own _ rfl _ _ 24 rfl (w.heap.size + 2) 23 i0 (.int .u64 0) 1 8 Try.underlying24 hi hz0 hz1 hz2 rfl (by decide) _ _ _ rfl (World.ownsRow.alloc (World.ownsRow.alloc hown3 _) _) ⟨W3.heap.size + 1, 0, none⟩ 1 1 [.int .u64 x] rfl rfl ?c1 ?c2 ?c3 ?c4 ?c5 ?_) | fail)
        case c1 =>
          intro j u hj
          match j, hj with
          | 0, hj => simp at hj; subst hj; simp [Addr.add, go_sem]
        case c2 => intro u hu; simp at hu; subst hu; rfl
        case c3 => rw [HA.out]; unfold maxLen; omega
        case c4 => rw [HA.out]; omega
        case c5 => simp; omega
        intro v' w4 hown' hgrow _
        have hbel := (((Below.refl (w.heap.size + 2) W3).alloc (by omega) _).alloc (by simp; omega) _).grown hgrow (by simp; omega) (fun g hg => (World.ownsRow.lt hown3 g hg).1)
        have hO' := OwnW.snoc hown'
        have V0 := U0.below hbel (by omega)
        have V1 := U1.below hbel (by omega)
        have hb4 := hbw3.trans (hbel.mono (by omega))
        have hz4 := hbel.size
        clear hown' hgrow hown3 hbel hbw3 U0 U1
        go_wp2_with fail
        go_roundw
        case rel => exact ⟨k + 1, pk + c, acc ++ [x], by omega, by go_num, by simp [HA.out], by rw [show m - (k + 1) = j from by omega]; exact HT, by omega, cb1, V0, V1, hO', by omega, hb4⟩
        case measure => simp [intOf]; omega
      · have HT' := HT.out
        rw [hj, takeS_no t j pk acc he] at HT'
        simp only [Prod.mk.injEq] at HT'
        obtain ⟨rfl, rfl, rfl⟩ := HT'
        have HG := fun W => rget_3 t pk _ W hm0 p0 p1 rfl he
        have hne : (errV (rst t pk) != 0) = true := by simp only [bne_iff_ne, ne_eq]; exact he
        generalize errV (rst t pk) = r at *
        have HG := Lib.hid HG
        clear he hrb hm0 hacc HT
        go_wp2_with fail
        refine (HG.out _).mono ?_
        rintro e w2 ⟨rfl, hb⟩
        have hs2 := hb.size
        have T0 := S0'.below hb (by omega)
        have T1 := S1.below hb (by omega)
        have hbw2 := hbw.trans (hb.mono hbw.size)
        have U0 := spot_set (t' := t) (p' := pk) (q' := r) T0
        have U1 := spot_off (g := w.heap.size) (t' := t) (p' := pk) (q' := r) T1 (by omega)
        have hbw3 := below_set3 hbw2 (Nat.le_refl _) (.string t) (.int .i64 pk) (.int .i64 r)
        obtain ⟨d0, d1, d2, g0⟩ := T0
        have hlt2 : w.heap.size < w2.heap.size := by omega
        have hne2 : w.heap.size ≠ w2.heap.size := by omega
        have hne3 : w2.heap.size ≠ w.heap.size := by omega
        clear HG c0 c1 c2 f0 hown hbw hb S1 S0' T1 hbw2
        go_upto_region 13 with fail
        generalize hW3 : ((w2.setCell ⟨w.heap.size, 0, none⟩ (.string t)).setCell ⟨w.heap.size, 1, none⟩ (.int .i64 pk)).setCell ⟨w.heap.size, 2, none⟩ (.int .i64 r) = W3 at *
        have hs3 : w.heap.size + 2 ≤ W3.heap.size := by rw [← hW3]; simp only [World.size_setCell]; omega
        clear hW3 d0 d1 d2 g0
        have hbx : Below (w.heap.size + 2) W3 (W3.alloc (.cells #[.string t, .int .i64 pk, .int .i64 r] 33)) := (Below.refl _ _).alloc hs3 _
        have V0 := U0.below hbx (by omega)
        have V1 := U1.below hbx (by omega)
        have hbw4 := hbw3.trans (hbx.mono (by omega))
        generalize W3.alloc (.cells #[.string t, .int .i64 pk, .int .i64 r] 33) = W4 at *
        clear U0 U1 hbx hbw3 hs3
        obtain ⟨d0, d1, d2, g0⟩ := V0
        obtain ⟨d3, d4, d5, g1⟩ := V1
        go_wp2_with fail
        go_region
        all_goals
          go_wp2
          refine bodyPost_ret (v := .tuple #[.slice none 0 0, .agg #[.string t, .int .i64 pk, .int .i64 r]]) (by simp [results, Try.results18, go_sem, d3, d4, d5]) rfl ⟨_, rfl, ownW_nil _ _, ?_⟩
          go_grown
    · obtain rfl : k = m := by omega
      have HT' := HT.out
      rw [Nat.sub_self, takeS] at HT'
      simp only [Prod.mk.injEq] at HT'
      obtain ⟨rfl, rfl, rfl⟩ := HT'
      obtain ⟨d0, d1, d2, g0⟩ := S0
      obtain ⟨d3, d4, d5, g1⟩ := S1
      have HOW := Lib.hid hown
      clear hown HT
      go_wp2_with fail
      go_region
      all_goals
        go_wp2
        refine bodyPost_ret (v := .tuple #[u6, .agg #[.string t, .int .i64 pk, .int .i64 0]]) (by simp [results, Try.results18, go_sem, d3, d4, d5]) rfl ⟨_, rfl, ?_, ?_⟩
        · refine OwnW.mono (B := w.heap.size + 2) ?_ (by omega)
          iterate 3 (refine OwnW.setCell ?_ _ _ (by show w.heap.size + 1 < _; omega))
          exact HOW.out
        · go_grown
theorem rtake_any (t : ByteArray) (p q n : Int) (w : World) (hm : t.size ≤ maxLen) : Calls Try.prog 18 #[.agg #[.string t, .int .i64 p, .int .i64 q], .int .i64 n] w (TakeEnd t (tkAll t p q n).1 (tkAll t p q n).2.1 (tkAll t p q n).2.2 w) := by
  unfold tkAll
  by_cases h0 : restBad t p q = 0
  · obtain ⟨rfl, p0, p1⟩ := restBad_ok t p q h0
    rw [if_pos h0]
    by_cases hn : n < 0 ∨ 65536 < n
    · rw [if_pos hn]
      exact rtake_2 t p n w (.inr hn)
    · rw [if_neg hn]
      exact rtake_3 t p n w hm p0 p1 (by omega) (by omega)
  · rw [if_neg h0]
    by_cases hq : q = 0
    · subst hq
      have hp : p < 0 ∨ t.size < p := by
        by_cases hp : 0 ≤ p ∧ p ≤ t.size
        · exact absurd (by unfold restBad placedV; rw [if_pos hp]; rfl) h0
        · omega
      have e : restBad t p 0 = 2 := by unfold restBad placedV; rw [if_neg (by omega)]; rfl
      rw [e]
      exact rtake_2 t p n w (.inl hp)
    · have e : restBad t p q = q := by unfold restBad; simp only [firstOf]; rw [if_neg hq]
      rw [e]
      exact rtake_1 t p q n w hq
end Go.Proofs.Ytpjgemjceikhfaa
