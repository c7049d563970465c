/- The law's own: sections of the program's. -/
import Derived.Test.YtkhlkjhfgfjadaaYc
namespace Go.Proofs.Ytkhlkjhfgfjadaa
open Go.RowKit
set_option maxRecDepth 100000
set_option linter.unusedVariables false
set_option linter.unusedSimpArgs false
set_option maxHeartbeats 4000000 in
theorem own15_any (s : Sc) (w : World) : Calls Try.prog 9 #[.agg (sArr s)] w fun e w' => e = .returned (.agg (sArr s)) ∧ Below w.heap.size w w' := by
  unfold sArr
  go_enter Try.func9, Try.ntmps9
  go_wp2_with fail
  refine wp_loop_rounds 5 ?_
  rw [rounds_succ]
  go_wp2_with fail
  rw [rounds_succ]
  go_wp2_with fail
  rw [rounds_succ]
  go_wp2_with fail
  rw [rounds_succ]
  go_wp2_with fail
  rw [rounds_succ]
  go_wp2_with fail
  refine bodyPost_ret (v := .agg #[.int .u64 s.rf, .int .u64 s.rl, .int .u64 s.mf, .int .u64 s.ml, .int .u64 s.lf, .int .u64 s.ll, .int .u64 s.df, .int .u64 s.dl]) (by simp [results, Try.results9, go_sem]) rfl ⟨rfl, by go_grown⟩
end Go.Proofs.Ytkhlkjhfgfjadaa
