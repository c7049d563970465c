/- Contracts of the law's own and Back, of the document's Same where both lists are the same, and what stays of a new block. -/
import Derived.Test.YtpjgemjceikhfaaW
namespace Go.Proofs.Ytpjgemjceikhfaa
open Go.RowKit
set_option linter.unusedVariables false
theorem kept1 {w w1 : World} {A B C : Value} {T : TypeId} (hb : Below (w.alloc (.cells #[A, B, C] T)).heap.size (w.alloc (.cells #[A, B, C] T)) w1) :
    w.heap.size < w1.heap.size ∧ Below w.heap.size w w1 ∧
    w1.cell? ⟨w.heap.size, 0, none⟩ = some A ∧ w1.cell? ⟨w.heap.size, 1, none⟩ = some B ∧ w1.cell? ⟨w.heap.size, 2, none⟩ = some C := by
  have hz : (w.alloc (.cells #[A, B, C] T)).heap.size = w.heap.size + 1 := by rw [World.size_alloc]
  have hs := hb.size
  rw [hz] at hs hb
  refine ⟨by omega, Below.trans (by go_grown) (hb.mono (by omega)), ?_, ?_, ?_⟩
  · exact ((bcell hb).1 _ _ (by omega)).trans (by simp [go_sem])
  · exact ((bcell hb).1 _ _ (by omega)).trans (by simp [go_sem])
  · exact ((bcell hb).1 _ _ (by omega)).trans (by simp [go_sem])
theorem own_any (t : ByteArray) (p q : Int) (w : World) : Calls Try.prog 15 #[.agg #[.string t, .int .i64 p, .int .i64 q]] w fun e w' => e = .returned (.agg #[.string t, .int .i64 p, .int .i64 q]) ∧ Below w.heap.size w w' := by
  go_enter Try.func15, Try.ntmps15
  go_wp2
  refine bodyPost_ret (v := .agg #[.string t, .int .i64 p, .int .i64 q]) (by simp [results, Try.results15, go_sem]) rfl ⟨rfl, ?_⟩
  go_grown
theorem back_any (t : ByteArray) (p q : Int) (w : World) : Calls Try.prog 19 #[.agg #[.string t, .int .i64 p, .int .i64 q]] w fun e w' => e = .returned (.agg #[.string t, .int .i64 p, .int .i64 q]) ∧ Below w.heap.size w w' := by
  go_enter Try.func19, Try.ntmps19
  go_wp2
  refine bodyPost_ret (v := .agg #[.string t, .int .i64 p, .int .i64 q]) (by simp [results, Try.results19, go_sem]) rfl ⟨rfl, ?_⟩
  go_grown
theorem same_yes (v1 v2 : Value) (l : List Int) (w : World) (h1 : WordsAt w v1 l) (h2 : WordsAt w v2 l) (hl : l.length ≤ 1000000) : Calls Try.prog 20 #[v1, v2] w fun e w' => e = .returned (.bool true) ∧ Below w.heap.size w w' := by
  obtain ⟨a, cap, rfl, hc⟩ := h1
  obtain ⟨a2, cap2, rfl, hc2⟩ := h2
  have HC := Lib.hid hc; clear hc
  have HC2 := Lib.hid hc2; clear hc2
  go_enter Try.func20, Try.ntmps20
  go_wp2_with fail
  go_loopw [5] (fun i wr => ∃ k : Nat, k ≤ l.length ∧ i = .int .i64 k ∧ Below w.heap.size w wr) (fun i _ => l.length - (intOf i).toNat)
  case atStart => exact ⟨0, Nat.zero_le _, rfl, Below.refl _ _⟩
  case round =>
    obtain ⟨k, hk, rfl, hbw⟩ := hrel
    by_cases hlt : k < l.length
    · obtain ⟨b, off, rfl, hb, hcell⟩ := HC.out k hlt
      obtain ⟨b2, off2, rfl, hb2, hcell2⟩ := HC2.out k hlt
      have hcell := (hbw.cell (p := ⟨b, off + k, none⟩) hb).trans hcell
      have hcell2 := (hbw.cell (p := ⟨b2, off2 + k, none⟩) hb2).trans hcell2
      have hk0 : (0 : Int) ≤ (k : Int) := Int.natCast_nonneg _
      have hk1 : (k : Int) < (l.length : Int) := by omega
      go_wp2_with fail
      go_region
      all_goals
        go_wp2_with fail
        go_roundw
        case rel => exact ⟨k + 1, by omega, by go_num, hbw.drew⟩
        case measure => simp [intOf]; omega
    · obtain rfl : k = l.length := by omega
      go_wp2_with fail
      go_ret
      exact ⟨rfl, hbw⟩
end Go.Proofs.Ytpjgemjceikhfaa
