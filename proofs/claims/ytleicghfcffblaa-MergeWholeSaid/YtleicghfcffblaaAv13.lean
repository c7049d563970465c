/- Closed values for awake. -/
import Derived.Test.YtleicghfcffblaaMM
import Derived.Test.YtleicghfcffblaaNc
import Derived.Test.YtleicghfcffblaaLo
namespace Go.Proofs.Ytleicghfcffblaa
open Go.RowKit
set_option maxRecDepth 20000
def kAb3 : ByteArray := { data := #[97, 98, 99] }
def kAb2 : ByteArray := { data := #[97, 98] }
def kX1 : ByteArray := { data := #[120] }
def aL : List It := [(5, kAb3), (6, kAb3), (8, kAb3)]
def aE : List En := [⟨5, 0, 3, 2⟩, ⟨8, 0, 3, 1⟩]
theorem av1 : ofI [(8, kAb3), (5, kAb3), (6, kAb3)] = (aL, 0) := by rfl
theorem av2 : (rowsS aL).1 = aE := by decide
theorem av3 : catF (rowsS aL).2 = kAb3 := by decide
theorem av4 : backN aE kAb3 = (aL, 0) := by decide
theorem av5 : backN [⟨1, 0, 1, 0⟩] kX1 = ([], 14) := by decide
theorem av6 : backN aE kAb2 = ([], 8) := by decide
theorem av7 : leastN aE = true := by decide
theorem av8 : leastN [⟨1, 0, 1, 1⟩, ⟨2, 0, 1, 1⟩] = false := by decide
theorem may_aE : MaysN aE := fun e he => by
  simp only [aE, List.mem_cons, List.not_mem_nil, or_false] at he
  rcases he with rfl | rfl <;> (unfold MayN; decide)
end Go.Proofs.Ytleicghfcffblaa
