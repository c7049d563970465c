/- The program's lengthsOf, sectionsOf. -/
import Derived.Test.YtkhlkjhfgfjadaaYe
namespace Go.Proofs.Ytkhlkjhfgfjadaa
open Go.RowKit
set_option maxRecDepth 100000
set_option linter.unusedVariables false
set_option linter.unusedSimpArgs false
theorem size_strP : Try.t9.size = 1 := by kernel_rfl
theorem size_u64P : Try.t22.size = 1 := by kernel_rfl
theorem idx_p (c0 c1 c2 c3 : Value) (W : World) :
    Sem.run Try.prog (Instr.index 44 (.agg #[c0, c1, c2, c3]) (.int .i64 0)) W = .ok c0 W ∧
    Sem.run Try.prog (Instr.index 44 (.agg #[c0, c1, c2, c3]) (.int .i64 1)) W = .ok c1 W ∧
    Sem.run Try.prog (Instr.index 44 (.agg #[c0, c1, c2, c3]) (.int .i64 2)) W = .ok c2 W ∧
    Sem.run Try.prog (Instr.index 44 (.agg #[c0, c1, c2, c3]) (.int .i64 3)) W = .ok c3 W := by
  refine ⟨?_, ?_, ?_, ?_⟩ <;> simp [Instr.index, run_underlying Try.underlying44, asIntOf, part, sizeOf, size_strP, go_sem]
theorem idx_n (c0 c1 c2 c3 : Value) (W : World) :
    Sem.run Try.prog (Instr.index 23 (.agg #[c0, c1, c2, c3]) (.int .i64 0)) W = .ok c0 W ∧
    Sem.run Try.prog (Instr.index 23 (.agg #[c0, c1, c2, c3]) (.int .i64 1)) W = .ok c1 W ∧
    Sem.run Try.prog (Instr.index 23 (.agg #[c0, c1, c2, c3]) (.int .i64 2)) W = .ok c2 W ∧
    Sem.run Try.prog (Instr.index 23 (.agg #[c0, c1, c2, c3]) (.int .i64 3)) W = .ok c3 W := by
  refine ⟨?_, ?_, ?_, ?_⟩ <;> simp [Instr.index, run_underlying Try.underlying23, asIntOf, part, sizeOf, size_u64P, go_sem]
theorem lens15_any (p : Pt) (w : World) (hp : Few p 300) : Calls Try.prog 20 #[.agg (pArr p)] w fun e w' => e = .returned (.agg #[.int .u64 p.p0.size, .int .u64 p.p1.size, .int .u64 p.p2.size, .int .u64 p.p3.size]) ∧ Below w.heap.size w w' := by
  obtain ⟨p0, p1, p2, p3⟩ := p
  obtain ⟨l0, l1, l2, l3⟩ := hp
  dsimp only at l0 l1 l2 l3
  have w0 : IntKind.u64.wrap (p0.size : Int) = (p0.size : Int) := by rw [IntKind.wrap_u64]; omega
  have w1 : IntKind.u64.wrap (p1.size : Int) = (p1.size : Int) := by rw [IntKind.wrap_u64]; omega
  have w2 : IntKind.u64.wrap (p2.size : Int) = (p2.size : Int) := by rw [IntKind.wrap_u64]; omega
  have w3 : IntKind.u64.wrap (p3.size : Int) = (p3.size : Int) := by rw [IntKind.wrap_u64]; omega
  have i0 := fun W => (idx_p (.string p0) (.string p1) (.string p2) (.string p3) W).1
  have i1 := fun W => (idx_p (.string p0) (.string p1) (.string p2) (.string p3) W).2.1
  have i2 := fun W => (idx_p (.string p0) (.string p1) (.string p2) (.string p3) W).2.2.1
  have i3 := fun W => (idx_p (.string p0) (.string p1) (.string p2) (.string p3) W).2.2.2
  clear l0 l1 l2 l3
  unfold pArr
  go_enter Try.func20, Try.ntmps20
  go_wp2_with fail
  refine wp_loop_rounds 5 ?_
  rw [rounds_succ]
  go_wp2_with fail
  rw [rounds_succ]
  go_wp2_with fail
  rw [rounds_succ]
  go_wp2_with fail
  rw [rounds_succ]
  go_wp2_with fail
  rw [rounds_succ]
  go_wp2_with fail
  refine bodyPost_ret (v := .agg #[.int .u64 p0.size, .int .u64 p1.size, .int .u64 p2.size, .int .u64 p3.size]) (by simp [results, Try.results20, go_sem]) rfl ⟨rfl, by go_grown⟩
def hArr (h : Hd) : Array Value := #[.int .u64 h.rf, .int .u64 h.rl, .int .u64 h.mf, .int .u64 h.ml, .int .u64 h.lf, .int .u64 h.ll, .int .u64 h.df, .int .u64 h.dl]
set_option maxHeartbeats 4000000 in
theorem secs15_any (h : Hd) (w : World) : Calls Try.prog 27 #[.agg (cH h)] w fun e w' => e = .returned (.agg (hArr h)) ∧ Below w.heap.size w w' := by
  unfold cH hArr
  go_enter Try.func27, Try.ntmps27
  go_wp2_with fail
  refine bodyPost_ret (v := .agg #[.int .u64 h.rf, .int .u64 h.rl, .int .u64 h.mf, .int .u64 h.ml, .int .u64 h.lf, .int .u64 h.ll, .int .u64 h.df, .int .u64 h.dl]) (by simp [results, Try.results27, go_sem]) rfl ⟨rfl, by go_grown⟩
theorem end15_exact (f l s : Int) (w : World) (hs : IntKind.u64.wrap (f + l) = s) : Calls Try.prog 19 #[.agg #[.int .u64 f, .int .u64 l]] w fun e w' => e = .returned (.int .u64 s) ∧ w' = w.alloc (.cells #[.int .u64 f, .int .u64 l] 29) := by
  subst hs
  go_enter Try.func19, Try.ntmps19
  go_wp2_with fail
  go_ret
  exact ⟨rfl, rfl⟩
end Go.Proofs.Ytkhlkjhfgfjadaa
