/- Calls, as the law takes them; a chart's bytes. -/
import Derived.Test.YtmmjdlpoiibhaaaLp
namespace Go.Proofs.Ytmmjdlpoiibhaaa
open Go.RowKit
set_option maxRecDepth 20000
set_option linter.unusedVariables false
/-- A call: what to do, an identifier, a text. -/
structure OpC where
  d : Nat
  id : Nat
  t : ByteArray
def OpsAt (w : World) (v : Value) (l : List OpC) : Prop := ∃ a cap, v = .slice a l.length cap ∧ l.length ≤ cap ∧ cap ≤ maxLen ∧ ∀ k t, l[k]? = some t → ∃ g off, a = some ⟨g, off, none⟩ ∧ g < w.heap.size ∧ w.cell? ⟨g, off + k * 3, none⟩ = some (.int .u8 t.d) ∧ w.cell? ⟨g, off + k * 3 + 1, none⟩ = some (.int .u64 t.id) ∧ w.cell? ⟨g, off + k * 3 + 2, none⟩ = some (.string t.t)
end Go.Proofs.Ytmmjdlpoiibhaaa
