/-
  No cell of these rows narrows 'for every input' (looked for: loops, veiled, ifaces, maps, wideKeys, modest, calm, conditions, laid).
  DERIVED. THE GIVEN ROWS OF THIS SEAT. 5 by the template 'for every input the law returns true; each argument reads behind the call as it read before'; 0 by the template 'total and deterministic' (their statements: YtmmjdlpoiibhaaaTotals.lean).
  GIVEN WITH THE SEED: the statements are not yours to turn. If you find one false, say at which input.
  Laid BY PROGRAM, IN A SANDBOX (cutbox-rows.mjs): the forced cells as the released guide's own fill.sh prints them over the translation 1732728dc37aafd2… (all of the seat's roots in one cut). By AI agents, Wed Nov 11 2026. No macro, syntax, notation, axiom, sorry.
-/
import Derived.Test.YtmmjdlpoiibhaaaChecked
import GoSem.Claim
import GoSem.ClaimJoined
import GoSem.ClaimMapViews
import Derived.JoinedTies
import Derived.KernelRfl
namespace Go.Proofs.Ytmmjdlpoiibhaaa
/- THE CELL 'sum', in the pinned program and in every row, IS THE sha256 OF THE DUMP (.gsa) THAT YtmmjdlpoiibhaaaProg.lean LOADS. Nothing in Lean hashes anything: it is a label: what it is worth is what the hold of that sum in a sandbox is worth. -/
noncomputable def Try.pinned : Pinned := { name := "ytmmjdlpoiibhaaa", sum := "1732728dc37aafd2bbf69ebd38eab9de5416a690dd96cfd08a6beb281faadc5a", checked := Try.checked }
namespace Rows
def none {H : Type} : Left H := { results := [], args := [] }

/-- 'gazetteerlaw12.ChartDoes': WHATEVER THE INPUT: true; the input reads as it did. -/
def chartDoesSpec : ChangeSpec := { name := "chartDoes", fn := fun _ => fun
  | [d1, d2] => { results := [.lit (.bool true)], args := [d1, d2] }
  | _ => none }
def chartDoesRow : OpenClaim := { program := "ytmmjdlpoiibhaaa", sum := "1732728dc37aafd2bbf69ebd38eab9de5416a690dd96cfd08a6beb281faadc5a", func := "gazetteer/gazetteerlaw12.ChartDoes", spec := "chartDoes", inPlace := ["slices.overlaps[gazetteer/chart.Item]"], unfollowed := true, recurses := true, apart := false }
def ChartDoesSaid : Prop := chartDoesRow.holds Try.pinned (OpenSpec.ofChange chartDoesSpec)

/-- ITS FALSE NEIGHBOUR: 'it returns false'. Refute it at one input. -/
def chartDoesWrong : ChangeSpec := { name := "chartDoes", fn := fun _ => fun
  | [d1, d2] => { results := [.lit (.bool false)], args := [d1, d2] }
  | _ => none }
def ChartDoesWrongFalsely : Prop := chartDoesRow.holds Try.pinned (OpenSpec.ofChange chartDoesWrong)

/-- 'gazetteerlaw12.ChartMakes': WHATEVER THE INPUT: true; the input reads as it did. -/
def chartMakesSpec : ChangeSpec := { name := "chartMakes", fn := fun _ => fun
  | [d1, d2] => { results := [.lit (.bool true)], args := [d1, d2] }
  | _ => none }
def chartMakesRow : OpenClaim := { program := "ytmmjdlpoiibhaaa", sum := "1732728dc37aafd2bbf69ebd38eab9de5416a690dd96cfd08a6beb281faadc5a", func := "gazetteer/gazetteerlaw12.ChartMakes", spec := "chartMakes", inPlace := ["slices.overlaps[gazetteer/chart.Item]"], unfollowed := true, recurses := true, apart := false }
def ChartMakesSaid : Prop := chartMakesRow.holds Try.pinned (OpenSpec.ofChange chartMakesSpec)

/-- ITS FALSE NEIGHBOUR: 'it returns false'. Refute it at one input. -/
def chartMakesWrong : ChangeSpec := { name := "chartMakes", fn := fun _ => fun
  | [d1, d2] => { results := [.lit (.bool false)], args := [d1, d2] }
  | _ => none }
def ChartMakesWrongFalsely : Prop := chartMakesRow.holds Try.pinned (OpenSpec.ofChange chartMakesWrong)

/-- 'gazetteerlaw12.ChartBounds': WHATEVER THE INPUT: true; the input reads as it did. -/
def chartBoundsSpec : ChangeSpec := { name := "chartBounds", fn := fun _ => fun
  | [d1, d2] => { results := [.lit (.bool true)], args := [d1, d2] }
  | _ => none }
def chartBoundsRow : OpenClaim := { program := "ytmmjdlpoiibhaaa", sum := "1732728dc37aafd2bbf69ebd38eab9de5416a690dd96cfd08a6beb281faadc5a", func := "gazetteer/gazetteerlaw12.ChartBounds", spec := "chartBounds", inPlace := ["internal/abi.NoEscape", "internal/bytealg.MakeNoZero", "slices.overlaps[gazetteer/chart.Item]"], unfollowed := true, recurses := true, apart := false }
def ChartBoundsSaid : Prop := chartBoundsRow.holds Try.pinned (OpenSpec.ofChange chartBoundsSpec)

/-- ITS FALSE NEIGHBOUR: 'it returns false'. Refute it at one input. -/
def chartBoundsWrong : ChangeSpec := { name := "chartBounds", fn := fun _ => fun
  | [d1, d2] => { results := [.lit (.bool false)], args := [d1, d2] }
  | _ => none }
def ChartBoundsWrongFalsely : Prop := chartBoundsRow.holds Try.pinned (OpenSpec.ofChange chartBoundsWrong)

/-- 'gazetteerlaw12.ChartOrder': WHATEVER THE INPUT: true; the input reads as it did. -/
def chartOrderSpec : ChangeSpec := { name := "chartOrder", fn := fun _ => fun
  | [d1, d2] => { results := [.lit (.bool true)], args := [d1, d2] }
  | _ => none }
def chartOrderRow : OpenClaim := { program := "ytmmjdlpoiibhaaa", sum := "1732728dc37aafd2bbf69ebd38eab9de5416a690dd96cfd08a6beb281faadc5a", func := "gazetteer/gazetteerlaw12.ChartOrder", spec := "chartOrder", inPlace := ["slices.overlaps[gazetteer/chart.Item]"], unfollowed := true, recurses := true, apart := false }
def ChartOrderSaid : Prop := chartOrderRow.holds Try.pinned (OpenSpec.ofChange chartOrderSpec)

/-- ITS FALSE NEIGHBOUR: 'it returns false'. Refute it at one input. -/
def chartOrderWrong : ChangeSpec := { name := "chartOrder", fn := fun _ => fun
  | [d1, d2] => { results := [.lit (.bool false)], args := [d1, d2] }
  | _ => none }
def ChartOrderWrongFalsely : Prop := chartOrderRow.holds Try.pinned (OpenSpec.ofChange chartOrderWrong)

/-- 'gazetteerlaw12.ChartEach': WHATEVER THE INPUT: true; the input reads as it did. -/
def chartEachSpec : ChangeSpec := { name := "chartEach", fn := fun _ => fun
  | [d1, d2, d3] => { results := [.lit (.bool true)], args := [d1, d2, d3] }
  | _ => none }
def chartEachRow : OpenClaim := { program := "ytmmjdlpoiibhaaa", sum := "1732728dc37aafd2bbf69ebd38eab9de5416a690dd96cfd08a6beb281faadc5a", func := "gazetteer/gazetteerlaw12.ChartEach", spec := "chartEach", inPlace := ["slices.overlaps[gazetteer/chart.Item]"], unfollowed := true, recurses := true, apart := false }
def ChartEachSaid : Prop := chartEachRow.holds Try.pinned (OpenSpec.ofChange chartEachSpec)

/-- ITS FALSE NEIGHBOUR: 'it returns false'. Refute it at one input. -/
def chartEachWrong : ChangeSpec := { name := "chartEach", fn := fun _ => fun
  | [d1, d2, d3] => { results := [.lit (.bool false)], args := [d1, d2, d3] }
  | _ => none }
def ChartEachWrongFalsely : Prop := chartEachRow.holds Try.pinned (OpenSpec.ofChange chartEachWrong)

/- THE SECOND FORM. 'bulk': how many values and letters a reading holds, each counted each time it is reached (what is shared counts as often as it is met; a slice's spare places count too). A statement '..UptoSaid' is the law's where the arguments, and the package variables that the reading takes, are together of bulk at most 1048576: NARROWER than '..Said'. Prove '..Said' where nothing that the law and all that it calls make is longer than what came in: it says more and counts as full. Else prove '..UptoSaid'. A law counts once. -/
mutual
def uptoBulk {H : Type} : DataW H → Nat
  | .lit (.string bytes) => bytes.length + 1
  | .lit _ => 1
  | .nil => 1
  | .ptr d => uptoBulk d + 1
  | .slice elems spare => uptoBulkAll elems + uptoBulkAll spare + 1
  | .agg parts => uptoBulkAll parts + 1
  | .iface _ d => uptoBulk d + 1
  | .map entries => uptoBulkEntries entries + 1
  | .held _ => 1
def uptoBulkAll {H : Type} : List (DataW H) → Nat
  | [] => 0
  | d :: r => uptoBulk d + uptoBulkAll r
def uptoBulkEntries {H : Type} : List (Lit × DataW H) → Nat
  | [] => 0
  | x :: r => uptoBulkEntry x + uptoBulkEntries r
def uptoBulkEntry {H : Type} : Lit × DataW H → Nat
  | (.string bytes, d) => bytes.length + uptoBulk d + 1
  | (_, d) => uptoBulk d + 1
 end
def uptoSmall : (H : Type) → List (DataW H) → Bool := fun _ ds => decide (uptoBulkAll ds ≤ 1048576)
def OpenSpec.upto (s : _root_.Go.ChangeSpec) : _root_.Go.OpenSpec := { _root_.Go.OpenSpec.ofChange s with cond := some uptoSmall }

/-- 'gazetteerlaw12.ChartDoes', WHERE WHAT IT READS IS OF BULK AT MOST 1048576: true; the input reads as it did. -/
def chartDoesUptoRow : OpenClaim := { program := "ytmmjdlpoiibhaaa", sum := "1732728dc37aafd2bbf69ebd38eab9de5416a690dd96cfd08a6beb281faadc5a", func := "gazetteer/gazetteerlaw12.ChartDoes", spec := "chartDoes", inPlace := ["slices.overlaps[gazetteer/chart.Item]"], unfollowed := true, recurses := true, apart := false, narrowed := true }
def ChartDoesUptoSaid : Prop := chartDoesUptoRow.holds Try.pinned (OpenSpec.upto chartDoesSpec)

/-- 'gazetteerlaw12.ChartMakes', WHERE WHAT IT READS IS OF BULK AT MOST 1048576: true; the input reads as it did. -/
def chartMakesUptoRow : OpenClaim := { program := "ytmmjdlpoiibhaaa", sum := "1732728dc37aafd2bbf69ebd38eab9de5416a690dd96cfd08a6beb281faadc5a", func := "gazetteer/gazetteerlaw12.ChartMakes", spec := "chartMakes", inPlace := ["slices.overlaps[gazetteer/chart.Item]"], unfollowed := true, recurses := true, apart := false, narrowed := true }
def ChartMakesUptoSaid : Prop := chartMakesUptoRow.holds Try.pinned (OpenSpec.upto chartMakesSpec)

/-- 'gazetteerlaw12.ChartBounds', WHERE WHAT IT READS IS OF BULK AT MOST 1048576: true; the input reads as it did. -/
def chartBoundsUptoRow : OpenClaim := { program := "ytmmjdlpoiibhaaa", sum := "1732728dc37aafd2bbf69ebd38eab9de5416a690dd96cfd08a6beb281faadc5a", func := "gazetteer/gazetteerlaw12.ChartBounds", spec := "chartBounds", inPlace := ["internal/abi.NoEscape", "internal/bytealg.MakeNoZero", "slices.overlaps[gazetteer/chart.Item]"], unfollowed := true, recurses := true, apart := false, narrowed := true }
def ChartBoundsUptoSaid : Prop := chartBoundsUptoRow.holds Try.pinned (OpenSpec.upto chartBoundsSpec)

/-- 'gazetteerlaw12.ChartOrder', WHERE WHAT IT READS IS OF BULK AT MOST 1048576: true; the input reads as it did. -/
def chartOrderUptoRow : OpenClaim := { program := "ytmmjdlpoiibhaaa", sum := "1732728dc37aafd2bbf69ebd38eab9de5416a690dd96cfd08a6beb281faadc5a", func := "gazetteer/gazetteerlaw12.ChartOrder", spec := "chartOrder", inPlace := ["slices.overlaps[gazetteer/chart.Item]"], unfollowed := true, recurses := true, apart := false, narrowed := true }
def ChartOrderUptoSaid : Prop := chartOrderUptoRow.holds Try.pinned (OpenSpec.upto chartOrderSpec)

/-- 'gazetteerlaw12.ChartEach', WHERE WHAT IT READS IS OF BULK AT MOST 1048576: true; the input reads as it did. -/
def chartEachUptoRow : OpenClaim := { program := "ytmmjdlpoiibhaaa", sum := "1732728dc37aafd2bbf69ebd38eab9de5416a690dd96cfd08a6beb281faadc5a", func := "gazetteer/gazetteerlaw12.ChartEach", spec := "chartEach", inPlace := ["slices.overlaps[gazetteer/chart.Item]"], unfollowed := true, recurses := true, apart := false, narrowed := true }
def ChartEachUptoSaid : Prop := chartEachUptoRow.holds Try.pinned (OpenSpec.upto chartEachSpec)

end Rows
end Go.Proofs.Ytmmjdlpoiibhaaa
