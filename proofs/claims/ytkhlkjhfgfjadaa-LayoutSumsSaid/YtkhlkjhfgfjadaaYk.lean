/- Four texts, four sections: each is what it is. -/
import Derived.Test.YtkhlkjhfgfjadaaYi
import Derived.ChangeKeysEq
namespace Go.Proofs.Ytkhlkjhfgfjadaa
open Go.RowKit
set_option maxRecDepth 100000
set_option linter.unusedVariables false
set_option linter.unusedSimpArgs false
theorem same_str4 (a b c d : ByteArray) (w : World) : (Op.equalIn 10000 44 (.agg #[.string a, .string b, .string c, .string d]) (.agg #[.string a, .string b, .string c, .string d])).run Try.prog w = .ok true w := by
  have c1 : Try.prog.cellsOf 9 = 1 := by kernel_rfl
  have r4 : List.range 4 = [0, 1, 2, 3] := rfl
  obtain ⟨i, hi⟩ : ∃ i, Try.prog.info? 9 = some i := ⟨_, rfl⟩
  rw [show (10000 : Nat) = 9999 + 1 from rfl, run_equalIn_array w 9999 _ _ Try.underlying44 hi, c1, r4]
  simp [Op.eqItems, part, isAgg, run_underlying Try.underlying9, fun a w => run_equalIn_string w 9998 9 a a Try.underlying9]
theorem same_sec4 (s : Sc) (w : World) : (Op.equalIn 10000 30 (.agg (sArr s)) (.agg (sArr s))).run Try.prog w = .ok true w := by
  have c1 : Try.prog.cellsOf 29 = 2 := by kernel_rfl
  have r4 : List.range 4 = [0, 1, 2, 3] := rfl
  obtain ⟨i, hi⟩ : ∃ i, Try.prog.info? 29 = some i := ⟨_, rfl⟩
  have hsz : ∀ w, (sizeOf 29).run Try.prog w = .ok 2 w := fun w => by rw [run_sizeOf w hi]; congr 1
  have hs := fun a b w => eq_sec a b a b w 9997
  rw [show (10000 : Nat) = 9999 + 1 from rfl, run_equalIn_array w 9999 _ _ Try.underlying30 hi, c1, r4]
  unfold sArr
  simp [Op.eqItems, part, isAgg, run_underlying Try.underlying29, hsz, hs]
theorem fld_root (h : Hd) (W : World) : Sem.run Try.prog (Instr.field 38 (.agg (cH h)) 0) W = .ok (.agg #[.int .u64 h.rf, .int .u64 h.rl]) W := by
  obtain ⟨i, hi⟩ : ∃ i, Try.prog.info? 29 = some i := ⟨_, rfl⟩
  have hsz : ∀ w, (sizeOf 29).run Try.prog w = .ok 2 w := fun w => by rw [run_sizeOf w hi]; congr 1
  unfold cH
  simp [Instr.field, run_underlying Try.underlying38, run_underlying Try.underlying29, asIntOf, asAgg, part, hsz, isAgg, go_sem]
/-- Two blocks made for a header and for four texts, and filled. -/
structure TwoW (w W : World) (Hc P : Array Value) : Prop where
  s1 : W.heap[w.heap.size]? = some (.cells Z24 38 (0, 0))
  s2 : (W.setRow w.heap.size Hc).heap[w.heap.size + 1]? = some (.cells P4 44 (0, 0))
  e1 : ((W.setRow w.heap.size Hc).setRow (w.heap.size + 1) P).heap[w.heap.size]? = some (.cells Hc 38 (0, 0))
  e2 : ((W.setRow w.heap.size Hc).setRow (w.heap.size + 1) P).heap[w.heap.size + 1]? = some (.cells P 44 (0, 0))
  e3 : Below w.heap.size w ((W.setRow w.heap.size Hc).setRow (w.heap.size + 1) P)
  e4 : w.heap.size + 2 ≤ ((W.setRow w.heap.size Hc).setRow (w.heap.size + 1) P).heap.size
theorem two_of (w : World) (X : Hd) (p : Pt) : TwoW w ((w.alloc (.cells Z24 38)).alloc (.cells P4 44)) (cH X) (pArr p) := by
  have hz : cH zeroH = Z24 := rfl
  have h1 : HAt ((w.alloc (.cells Z24 38)).alloc (.cells P4 44)) w.heap.size 38 zeroH := (heap_alloc_old (by simp)).trans (HAt.made w zeroH _)
  have h2 : ((w.alloc (.cells Z24 38)).alloc (.cells P4 44)).heap[w.heap.size + 1]? = some (.cells P4 44 (0, 0)) := by
    have := heap_new15 (w.alloc (.cells Z24 38)) (.cells P4 44)
    rw [World.size_alloc] at this
    exact this
  have hb : Below w.heap.size w ((w.alloc (.cells Z24 38)).alloc (.cells P4 44)) := ((Below.refl _ w).alloc (Nat.le_refl _) _).alloc (by simp) _
  have hs : w.heap.size + 2 ≤ ((w.alloc (.cells Z24 38)).alloc (.cells P4 44)).heap.size := by simp
  generalize (w.alloc (.cells Z24 38)).alloc (.cells P4 44) = W at *
  have hp := put24 W w.heap.size 38 zeroH X h1
  have g2 : (W.setRow w.heap.size (cH X)).heap[w.heap.size + 1]? = some (.cells P4 44 (0, 0)) := (hp.2.2.2 _ (by omega)).trans h2
  have hb2 : Below w.heap.size w ((W.setRow w.heap.size (cH X)).setRow (w.heap.size + 1) (pArr p)) := below_setRow (hp.2.2.1 _ _ (Nat.le_refl _) hb) (by omega) _
  refine ⟨h1, g2, (setRow_other _ _ _ _ (by omega)).trans hp.1, hrow g2 rfl, hb2, ?_⟩
  simpa [World.setRow] using hs
end Go.Proofs.Ytkhlkjhfgfjadaa
