/- The contract of varint's All: a new row of the call's own holds the bytes of all the numbers, one behind the other; what was there stays. -/
import Derived.Test.YtpjgemjceikhfaaW
namespace Go.Proofs.Ytpjgemjceikhfaa
open Go.RowKit
set_option linter.unusedVariables false
theorem make_bytes0 (m : Nat) (W : World) (h : m ≤ 1000100) : (Instr.makeSlice 22 (.int .i64 0) (.int .i64 (m : Int))).run Try.prog W = .ok (.slice (some ⟨W.heap.size, 0, none⟩) 0 m) (W.alloc (.cells (madeCells #[.int .u8 0] m) 5)) := by
  have := make_bytes 0 m W (by omega)
  simpa using this
theorem own_made (w : World) (m : Nat) (h : m ≤ 1000100) : Own (w.alloc (.cells (madeCells #[.int .u8 0] m) 5)) w.heap.size (.slice (some ⟨w.heap.size, 0, none⟩) 0 m) [] := by
  have := own_of_splice (w2 := w.alloc (.cells (madeCells #[.int .u8 0] m) 5)) (g := w.heap.size) (m := m) (l := []) (by
    rw [heap_alloc_new]
    have := toList_madeCells_one (.int .u8 0) m
    simp [splice, ← this]) (by simp; unfold maxLen; omega)
  simpa using this
theorem all_any (v : Value) (l : List Int) (w : World) (hw : WordsAt w v l) (hl : l.length ≤ 1000) (hx : Wide l) : Calls Try.prog 12 #[v] w (PutEnd w (encs l)) := by
  obtain ⟨a, cap, rfl, hc⟩ := hw
  have HC := Lib.hid hc; clear hc
  have HX := Lib.hid hx; clear hx
  go_enter Try.func12, Try.ntmps12
  go_wp2_with fail
  go_loop [3, 11] (fun s i => ∃ k : Nat, k ≤ l.length ∧ i = .int .i64 k ∧ ∃ n : Nat, s = .int .i64 n ∧ Hid (n = (encs (l.take k)).length) ∧ n ≤ 10 * k) (fun _ i => l.length - (intOf i).toNat)
  case atStart => exact ⟨0, Nat.zero_le _, rfl, 0, rfl, by simp [encs, Hid], by omega⟩
  case round =>
    obtain ⟨k, hk, rfl, n, rfl, HN, hn⟩ := hrel
    by_cases hlt : k < l.length
    · obtain ⟨b, off, rfl, hb, hcell⟩ := HC.out k hlt
      have bx := HX.out k hlt
      have ht := encs_take l k hlt
      generalize l.getD k 0 = x at *
      obtain ⟨x0, x1⟩ := bx
      have HT := Lib.hid ht; clear ht
      have hel := enc_len x
      obtain ⟨m, hm⟩ : ∃ m, (enc x).length = m := ⟨_, rfl⟩
      rw [hm] at hel
      have HM := Lib.hid hm; clear hm
      go_wp2_with (go_at_call 11; refine (size_any x _ x0 x1).mono ?_; rw [HM.out]; rintro e w' ⟨rfl, rfl⟩)
      refine ⟨⟨k + 1, by omega, by go_num, n + m, by go_num, ?_, by omega⟩, ?_⟩
      · apply Lib.hid; rw [HT.out, List.length_append, HM.out, ← HN.out]
      · simp [intOf]; omega
    · obtain rfl : k = l.length := by omega
      have hmk := fun W => make_bytes0 n W (by omega)
      have hO := own_made w n (by omega)
      have HO := Lib.hid hO; clear hO
      clear HN hlt hk
      go_wp2_with fail
      go_loopw [6, 24] (fun v i wr => ∃ k : Nat, k ≤ l.length ∧ i = .int .i64 k ∧ Own wr w.heap.size v (encs (l.take k)) ∧ Below w.heap.size w wr) (fun _ i _ => l.length - (intOf i).toNat)
      case atStart => exact ⟨0, Nat.zero_le _, rfl, by simpa [encs] using HO.out, (Below.refl _ _).alloc (Nat.le_refl _) _⟩
      case round =>
        clear HO
        obtain ⟨k, hk, rfl, hown, hbw⟩ := hrel
        have hel := encs_len (l.take k)
        rw [List.length_take] at hel
        have HO := Lib.hid hown; clear hown
        have hsz := hbw.size
        by_cases hlt : k < l.length
        · obtain ⟨b, off, rfl, hb, hcell⟩ := HC.out k hlt
          have hcell := (hbw.cell (p := ⟨b, off + k, none⟩) hb).trans hcell
          have bx := HX.out k hlt
          have ht := encs_take l k hlt
          generalize l.getD k 0 = x at *
          obtain ⟨x0, x1⟩ := bx
          have HT := Lib.hid ht; clear ht
          have hq : (encs (l.take k)).length ≤ 1000000 := by omega
          clear hel
          go_wp2_with fail
          refine (lay_any w.heap.size _ _ x _ HO.out hsz hq x0 x1).mono ?_
          rintro e w2 ⟨v2, rfl, ho2, hb2⟩
          rw [← HT.out] at ho2
          have hb := hbw.trans hb2
          clear hb2 hbw HO
          go_wp2_with fail
          go_roundw
          case rel => exact ⟨k + 1, by omega, by go_num, ho2, hb⟩
          case measure => simp [intOf]; omega
        · obtain rfl : k = l.length := by omega
          clear hel
          go_wp2_with fail
          go_ret
          refine ⟨_, rfl, ?_, hbw⟩
          have := HO.out
          rwa [List.take_length] at this
end Go.Proofs.Ytpjgemjceikhfaa
