/- The program's side: what a chart's functions answer. -/
import Derived.Test.YtmmjdlpoiibhaaaLf
import Derived.Test.YtmmjdlpoiibhaaaLg
import Derived.Test.YtmmjdlpoiibhaaaLd
import Derived.Test.YtmmjdlpoiibhaaaHg
import Derived.Test.YtmmjdlpoiibhaaaHk
import Derived.Test.YtmmjdlpoiibhaaaHl
import Derived.Test.YtmmjdlpoiibhaaaHm
import Derived.Test.YtmmjdlpoiibhaaaHn
import Derived.Handy
namespace Go.Proofs.Ytmmjdlpoiibhaaa
open Go.RowKit
set_option maxRecDepth 20000
set_option linter.unusedVariables false
theorem del_any (s : Value) (l : List It) (id : Nat) (w : World) (h : ChS w s l) (hid : id < 18446744073709551616) :
    Calls Try.prog 14 #[.agg #[s], .int .u64 id] w fun e w' => ∃ s', e = .returned (.agg #[s']) ∧ ChS w' s' (delI id l) ∧ Below w.heap.size w w' := by
  cases hb : (getI id l).isSome with
  | true => exact del_yes_any s l id w h hid hb
  | false => exact del_no_any s l id w h hid hb
theorem fnC_nil (g : Nat) (lb : Array Value) (w : World) : (Op.equal 64 (.func (.func g) #[] lb) .nilFunc).run Try.prog w = .ok false w := by
  rw [Op.equal, show Op.maxDepth = 9999 + 1 from rfl]
  unfold Op.equalIn
  simp [go_sem]
theorem fnC_neq (g : Nat) (lb : Array Value) (w : World) : (binOp BinOp.neq 64 (.func (.func g) #[] lb) .nilFunc).run Try.prog w = .ok (.bool true) w := by
  simp [binOp, go_sem, fnC_nil]
theorem fnC_eql (g : Nat) (lb : Array Value) (w : World) : (binOp BinOp.eql 64 (.func (.func g) #[] lb) .nilFunc).run Try.prog w = .ok (.bool false) w := by
  simp [binOp, go_sem, fnC_nil]
end Go.Proofs.Ytmmjdlpoiibhaaa
