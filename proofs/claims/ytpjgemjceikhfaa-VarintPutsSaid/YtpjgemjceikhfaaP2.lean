/- The contract of varint's Put: for any bytes and any number, a new row of the call's own holds the bytes and behind them the number's; what was there stays. -/
import Derived.Test.YtpjgemjceikhfaaP
namespace Go.Proofs.Ytpjgemjceikhfaa
open Go.RowKit
set_option linter.unusedVariables false
theorem make_bytes (L m : Nat) (W : World) (h : L + m ≤ 1000100) : (Instr.makeSlice 22 (.int .i64 (L : Int)) (.int .i64 ((L : Int) + (m : Int)))).run Try.prog W = .ok (.slice (some ⟨W.heap.size, 0, none⟩) L (L + m)) (W.alloc (.cells (madeCells #[.int .u8 0] (L + m)) 5)) := by
  obtain ⟨i0, hi, hz0, hz1, hz2⟩ := info_parts Try.info5
  have := run_make (P := Try.prog) W 22 5 i0 (.int .u8 0) Try.underlying22 hi hz0 .i64 .i64 (L : Int) ((L : Int) + (m : Int)) (by omega) (by omega) (by rw [hz2]; omega) (by omega)
  rw [this, hz1]
  simp only [Int.toNat_natCast]
  rw [show ((L : Int) + (m : Int)).toNat = L + m from by omega, Nat.mul_one]
  rfl
theorem put_any (v : Value) (l : List Int) (x : Int) (w : World) (hb : BytesAt w v l) (hl : l.length ≤ 1000000) (x0 : 0 ≤ x) (x1 : x ≤ 18446744073709551615) :
    Calls Try.prog 9 #[v, .int .u64 x] w (PutEnd w (l ++ enc x)) := by
  obtain ⟨a, cap, rfl, hc1, hc2, hcell⟩ := hb
  have hn := enc_len x
  obtain ⟨m, hm⟩ : ∃ m, (enc x).length = m := ⟨_, rfl⟩
  rw [hm] at hn
  have hmk := fun W => make_bytes l.length m W (by omega)
  have hG : (w.alloc (.cells (madeCells #[.int .u8 0] (l.length + m)) 5)).heap[w.heap.size]? = some (.cells (List.replicate (l.length + m) (Value.int .u8 0)).toArray 5 (0, 0)) := by
    rw [heap_alloc_new]
    have := toList_madeCells_one (.int .u8 0) (l.length + m)
    rw [← this]
  have hpos : 0 < (l.map (Value.int .u8)).length → ∃ ad, a = some ad ∧ ∀ j u, (l.map (Value.int .u8))[j]? = some u → (w.alloc (.cells (madeCells #[.int .u8 0] (l.length + m)) 5)).cell? (ad.add j) = some u := by
    intro h
    obtain ⟨y, hy, hyb, hyc⟩ := hcell (by simpa using h)
    refine ⟨y, hy, fun j u hj => ?_⟩
    have hjl : j < l.length := by
      have := (List.getElem?_eq_some_iff.1 hj).1
      simpa using this
    have hu : u = .int .u8 (l.getD j 0) := by simpa [hjl] using hj.symm
    rw [hu, ← hyc j hjl]
    exact ((Below.refl w.heap.size w).alloc (Nat.le_refl _) _).cell (p := y.add j) (by rw [add_block]; exact hyb)
  have HG := Lib.hid hG; clear hG
  have HP := Lib.hid hpos; clear hpos
  clear hcell
  have HM := Lib.hid hm; clear hm
  have hml : l.length + m ≤ maxLen := by unfold maxLen; omega
  go_enter Try.func9, Try.ntmps9
  go_wp2_with (first | (go_at_call 11; refine (size_any x _ x0 x1).mono ?_; rw [HM.out]; rintro e w' ⟨rfl, rfl⟩) | (with_reducible refine wpList_copy_splice rfl (.tmp 14) (.tmp 15) 22 22 rfl 5 Try.underlying22 (by kernel_rfl) _ _ _ _ _ _ rfl rfl w.heap.size 0 (List.replicate (l.length + m) (Value.int .u8 0)) 5 HG.out (l.map (Value.int .u8)) (by simp) (fun h => ⟨rfl, HP.out h⟩) (by simp) (ints_oneCell _ _) w.heap.size w ((Below.refl _ _).alloc (Nat.le_refl _) _) (Nat.le_refl _) ?_; intro w2 HG2 HB2) | fail)
  have hO := own_of_splice HG2.out (by omega)
  have hs2 := HB2.size
  clear HG2 HG HP hmk
  refine (lay_any w.heap.size _ l x w2 hO hs2 hl x0 x1).mono ?_
  rintro e w3 ⟨v', rfl, hown, hb3⟩
  have hbw := HB2.trans hb3
  clear hb3 HB2 hO
  go_wp2
  go_ret
  exact ⟨_, rfl, hown, hbw⟩
end Go.Proofs.Ytpjgemjceikhfaa
