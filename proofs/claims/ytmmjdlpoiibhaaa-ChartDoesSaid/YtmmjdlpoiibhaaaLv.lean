/- Closed values for awake. -/
import Derived.Test.YtmmjdlpoiibhaaaLo
namespace Go.Proofs.Ytmmjdlpoiibhaaa
open Go.RowKit
set_option maxRecDepth 20000
def kA : ByteArray := { data := #[97] }
def kB : ByteArray := { data := #[98] }
def kX : ByteArray := { data := #[120] }
def kY : ByteArray := { data := #[121] }
def kE : ByteArray := { data := #[] }
theorem w1E : putE [] 5 kB = 0 := by decide
theorem w1L : putL [] 5 kB = [(5, kB)] := by rfl
theorem w2E : putE [(5, kB)] 0 kA = 0 := by decide
theorem w2L : putL [(5, kB)] 0 kA = [(0, kA), (5, kB)] := by rfl
theorem w3E : putE [(5, kB)] 1 kE = 2 := by decide
theorem w4 : ofI [(1, kX), (1, kY)] = ([], 22) := by rfl
theorem w5 : getI 5 [(0, kA), (5, kB)] = some kB := by rfl
theorem w6 : delI 5 [(0, kA), (5, kB)] = [(0, kA)] := by rfl
theorem w7 : getI 5 [(0, kA)] = none := by rfl
theorem w8 : zlo [(0, kA), (5, kB)] = 0 := by decide
theorem w9 : zhi [(0, kA), (5, kB)] = 2 := by decide
theorem w10 : bytesI [(0, kA), (5, kB)] = 2 := by rfl
end Go.Proofs.Ytmmjdlpoiibhaaa
