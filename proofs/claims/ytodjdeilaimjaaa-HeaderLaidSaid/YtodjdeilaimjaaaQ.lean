/- The contract of the document's own Put: for any bytes, any number of bytes and any number, a row of the call's own holds the bytes and behind them the lowest n bytes of the number; what was there stays. -/
import Derived.Test.YtodjdeilaimjaaaW
namespace Go.Proofs.Ytodjdeilaimjaaa
open Go.RowKit
set_option linter.unusedVariables false
theorem take_snoc (l : List Int) (k : Nat) (h : k < l.length) : l.take (k + 1) = l.take k ++ [l.getD k 0] := by
  rw [List.take_succ_eq_append_getElem h]; simp [h]
theorem own_nil (w : World) (B : Nat) : Own w B (.slice none 0 0) [] := World.ownsRow_nil _ _ _ _
/-- What an append of one byte leaves. -/
theorem own_step {w wr w1 : World} {v v' : Value} {l : List Int} {c : Int} {k : Nat} (hlen : l.length = k) (hsz : w.heap.size ≤ wr.heap.size) (hbw : Below w.heap.size w wr) (hown : Own wr w.heap.size v l)
    (hown' : w1.ownsRow w.heap.size 5 1 v' (l.length + 1) (l.map (Value.int .u8) ++ [.int .u8 c])) (hgrow : (wr.alloc (.cells #[.int .u8 c] 5)).grownBy w1 v.ownBlock) :
    Own w1 w.heap.size v' (l ++ [c]) ∧ Below w.heap.size w w1 :=
  ⟨Own.snoc hown', (hbw.alloc (by omega) _).grown hgrow (by rw [World.size_alloc]; omega) (fun g hg => (World.ownsRow.lt hown g hg).1)⟩
theorem shr_hid (k : Nat) (x y : Int) (h : shr k x = y) : shr (k + 1) x = y / 256 := by rw [shr_succ, h]
set_option maxRecDepth 20000 in
theorem rput_any (v : Value) (l : List Int) (n x : Int) (m : Nat) (w : World) (hb : BytesAt w v l) (hl : l.length ≤ 1000000) (hn : n = m ∧ 1 ≤ m ∧ m ≤ 8 ∨ m = 0 ∧ (n < 1 ∨ 8 < n)) (x0 : 0 ≤ x) (x1 : x ≤ 18446744073709551615) :
    Calls Try.prog 39 #[v, .int .i64 n, .int .u64 x] w (PutEnd w (l ++ leB m x)) := by
  have hb0 := hb
  obtain ⟨a, cap, rfl, hc1, hc2, hcell⟩ := hb
  have HC : ∀ k, k < l.length → ∃ b off, a = some ⟨b, off, none⟩ ∧ b < w.heap.size ∧ w.cell? ⟨b, off + k, none⟩ = some (.int .u8 (l.getD k 0)) := by
    intro k hk
    obtain ⟨⟨b, off, s⟩, ha, hxb, hx⟩ := hcell (by omega)
    have h0 := hx k hk
    have hs : s = none := by
      have := World.cell?_spot (hx 0 (by omega))
      rwa [show (⟨b, off, s⟩ : Addr).add 0 = ⟨b, off, s⟩ from rfl] at this
    subst hs
    refine ⟨b, off, ha, hxb, ?_⟩
    rw [← h0]
    unfold Addr.add
    split
    · rename_i h; subst h; rfl
    · rfl
  have H := Lib.hid HC; clear HC hcell hb0
  obtain ⟨i0, hi, hz0, hz1, hz2⟩ := info_parts Try.info5
  rcases hn with ⟨rfl, hm1, hm8⟩ | ⟨rfl, hn⟩
  · go_enter Try.func39, Try.ntmps39
    go_wp2_with fail
    go_loopw [7, 8] (fun v i wr => ∃ k : Nat, k ≤ l.length ∧ i = .int .i64 k ∧ Own wr w.heap.size v (l.take k) ∧ Below w.heap.size w wr) (fun _ i _ => l.length - (intOf i).toNat)
    case atStart => exact ⟨0, Nat.zero_le _, rfl, own_nil _ _, Below.refl _ _⟩
    case round =>
      obtain ⟨k, hk, rfl, hown, hbw⟩ := hrel
      have hsz := hbw.size
      by_cases hlt : k < l.length
      · obtain ⟨b, off, rfl, hbl, hcx⟩ := H.out k hlt
        have hcy := (hbw.cell (p := ⟨b, off + k, none⟩) hbl).trans hcx
        clear hcx
        obtain ⟨c, hc⟩ : ∃ c, l.getD k 0 = c := ⟨_, rfl⟩
        rw [hc] at hcy
        have hlen : (l.take k).length = k := by simp; omega
        have HT : Hid (l.take (k + 1) = l.take k ++ [c]) := Lib.hid (hc ▸ take_snoc l k hlt)
        have HL := Lib.hid hlen
        clear hc hlen
        generalize hL : l.take k = L at *
        have HLL := Lib.hid hL; clear hL
        go_wp2_with (first | (at_builtin; refine wpList_append_own _ rfl _ _ 49 rfl w.heap.size 5 i0 (.int .u8 0) 1 1 Try.underlying49 hi hz0 hz1 hz2 rfl (by decide) _ _ _ rfl (World.ownsRow.alloc hown _) ⟨wr.heap.size, 0, none⟩ 1 1 [.int .u8 c] rfl rfl ?c1 ?c2 ?c3 ?c4 ?c5 ?_) | fail)
        case c1 =>
          intro j u hj
          match j, hj with
          | 0, hj => simp at hj; subst hj; simp [Addr.add]
        case c2 => intro u hu; simp at hu; subst hu; rfl
        case c3 => rw [HL.out]; unfold maxLen; omega
        case c4 => rw [HL.out]; omega
        case c5 => rw [World.size_alloc]; omega
        intro v' w1 hown' hgrow _
        have hst := own_step HL.out hsz hbw hown hown' hgrow
        rw [← HT.out] at hst
        clear hown' hgrow hown hbw hcy
        go_wp2_with fail
        go_roundw
        case rel => exact ⟨k + 1, by omega, by go_num, hst.1, hst.2⟩
        case measure => simp [intOf]; omega
      · obtain rfl : k = l.length := by omega
        rw [List.take_length] at hown
        go_wp2_with fail
        clear H hlt hk
        go_loopw [7, 2, 9] (fun v x' i w2 => ∃ (k : Nat) (y : Int), k ≤ m ∧ i = .int .i64 k ∧ x' = .int .u64 y ∧ 0 ≤ y ∧ y ≤ 18446744073709551615 ∧ Hid (shr k x = y) ∧ Own w2 w.heap.size v (l ++ leB k x) ∧ Below w.heap.size w w2) (fun _ _ i _ => m - (intOf i).toNat)
        case atStart => exact ⟨0, x, Nat.zero_le _, rfl, rfl, x0, x1, rfl, by simpa [leB] using hown, hbw⟩
        case round =>
          clear hown hbw hsz
          obtain ⟨k, y, hk, rfl, rfl, y0, y1, HY, hown, hbw⟩ := hrel
          have hlen : (l ++ leB k x).length = l.length + k := by rw [List.length_append, leB_len]
          have HL := Lib.hid hlen; clear hlen
          have hsz := hbw.size
          by_cases hlt : k < m
          · obtain ⟨L, hL⟩ : ∃ L, l ++ leB k x = L := ⟨_, rfl⟩
            have HLL := Lib.hid hL
            rw [hL] at hown
            have HL2 := HL.out; rw [hL] at HL2
            have HT : Hid (l ++ leB (k + 1) x = L ++ [y % 256]) := Lib.hid (by rw [leB_succ, HY.out, ← List.append_assoc, hL])
            have HL3 := Lib.hid HL2
            clear hL HL2
            go_wp2_with (first | (at_builtin; refine wpList_append_own _ rfl _ _ 49 rfl w.heap.size 5 i0 (.int .u8 0) 1 1 Try.underlying49 hi hz0 hz1 hz2 rfl (by decide) _ _ _ rfl (World.ownsRow.alloc hown _) ⟨wr.heap.size, 0, none⟩ 1 1 [.int .u8 (y % 256)] rfl rfl ?d1 ?d2 ?d3 ?d4 ?d5 ?_) | fail)
            case d1 =>
              intro j u hj
              match j, hj with
              | 0, hj => simp at hj; subst hj; simp [Addr.add]
            case d2 => intro u hu; simp at hu; subst hu; rfl
            case d3 => rw [HL3.out]; unfold maxLen; omega
            case d4 => rw [HL3.out]; omega
            case d5 => rw [World.size_alloc]; omega
            intro v' w1 hown' hgrow _
            have hst := own_step HL3.out hsz hbw hown hown' hgrow
            rw [← HT.out] at hst
            have HY' : Hid (shr (k + 1) x = y / 256) := Lib.hid (shr_hid k x y HY.out)
            clear hown' hgrow hown hbw HY HL3 HT HLL
            go_wp2_with fail
            go_roundw
            case rel => exact ⟨k + 1, y / 256, by omega, by go_num, rfl, by omega, by omega, HY', hst.1, hst.2⟩
            case measure => simp [intOf]; omega
          · obtain rfl : k = m := by omega
            go_wp2_with fail
            go_ret
            exact ⟨_, rfl, hown, hbw⟩
  · go_enter Try.func39, Try.ntmps39
    go_wp2_with fail
    go_loopw [7, 8] (fun v i wr => ∃ k : Nat, k ≤ l.length ∧ i = .int .i64 k ∧ Own wr w.heap.size v (l.take k) ∧ Below w.heap.size w wr) (fun _ i _ => l.length - (intOf i).toNat)
    case atStart => exact ⟨0, Nat.zero_le _, rfl, own_nil _ _, Below.refl _ _⟩
    case round =>
      obtain ⟨k, hk, rfl, hown, hbw⟩ := hrel
      have hsz := hbw.size
      by_cases hlt : k < l.length
      · obtain ⟨b, off, rfl, hbl, hcx⟩ := H.out k hlt
        have hcy := (hbw.cell (p := ⟨b, off + k, none⟩) hbl).trans hcx
        clear hcx
        obtain ⟨c, hc⟩ : ∃ c, l.getD k 0 = c := ⟨_, rfl⟩
        rw [hc] at hcy
        have hlen : (l.take k).length = k := by simp; omega
        have HT : Hid (l.take (k + 1) = l.take k ++ [c]) := Lib.hid (hc ▸ take_snoc l k hlt)
        have HL := Lib.hid hlen
        clear hc hlen
        generalize hL : l.take k = L at *
        have HLL := Lib.hid hL; clear hL
        go_wp2_with (first | (at_builtin; refine wpList_append_own _ rfl _ _ 49 rfl w.heap.size 5 i0 (.int .u8 0) 1 1 Try.underlying49 hi hz0 hz1 hz2 rfl (by decide) _ _ _ rfl (World.ownsRow.alloc hown _) ⟨wr.heap.size, 0, none⟩ 1 1 [.int .u8 c] rfl rfl ?e1 ?e2 ?e3 ?e4 ?e5 ?_) | fail)
        case e1 =>
          intro j u hj
          match j, hj with
          | 0, hj => simp at hj; subst hj; simp [Addr.add]
        case e2 => intro u hu; simp at hu; subst hu; rfl
        case e3 => rw [HL.out]; unfold maxLen; omega
        case e4 => rw [HL.out]; omega
        case e5 => rw [World.size_alloc]; omega
        intro v' w1 hown' hgrow _
        have hst := own_step HL.out hsz hbw hown hown' hgrow
        rw [← HT.out] at hst
        clear hown' hgrow hown hbw hcy
        go_wp2_with fail
        go_roundw
        case rel => exact ⟨k + 1, by omega, by go_num, hst.1, hst.2⟩
        case measure => simp [intOf]; omega
      · obtain rfl : k = l.length := by omega
        rw [List.take_length] at hown
        go_wp2_with fail
        clear H hlt hk
        have hfin : Own wr w.heap.size u7 (l ++ leB 0 x) := by simpa [leB] using hown
        rcases hn with hn | hn
        · refine wp_loop_rounds 1 ?_
          rw [rounds_succ]
          go_wp2_with fail
          go_ret
          exact ⟨_, rfl, hfin, hbw⟩
        · refine wp_loop_rounds 1 ?_
          rw [rounds_succ]
          have hd : decide (n ≤ 8) = false := by simp; omega
          go_wp2_with fail
          go_ret
          exact ⟨_, rfl, hfin, hbw⟩
end Go.Proofs.Ytodjdeilaimjaaa
