/- What every text of this layer stands on: the imports, how two endings of the same numbers are the same, the table of the quarters as the program's start lays it, and that it stays where nothing that was there is written. -/
import Derived.Test.YtmmjdlpoiibhaaaRows
import Derived.Test.YtmmjdlpoiibhaaaM
import Derived.WalkKit
import Derived.Outline
import Derived.WalkSpells
import Derived.WalkLawsBesides
import Derived.Lib.Hide
import Derived.Below
import Derived.Deep.MidRow
namespace Go.Proofs.Ytmmjdlpoiibhaaa
open Go.RowKit
set_option linter.unusedVariables false
theorem ret2 {k l : IntKind} {a b c d : Int} (h : a = b) (g : c = d) : Ending.returned (.tuple #[.int k a, .int l c]) = .returned (.tuple #[.int k b, .int l d]) := by rw [h, g]
theorem ret3 {k l m : IntKind} {a b c d e f : Int} (h : a = b) (g : c = d) (i : e = f) : Ending.returned (.tuple #[.int k a, .int l c, .int m e]) = .returned (.tuple #[.int k b, .int l d, .int m f]) := by rw [h, g, i]
end Go.Proofs.Ytmmjdlpoiibhaaa
