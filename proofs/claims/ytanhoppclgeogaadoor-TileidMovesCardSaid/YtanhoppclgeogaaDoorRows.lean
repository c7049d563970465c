/-
  NARROWER THAN 'FOR EVERY INPUT', by the rows' own cells (each row's printed sentence says how): TileidTells: laid · TileidMoves: laid · TileidBack: laid · TileidFour: laid · TileidRange: laid.
  DERIVED. THE GIVEN ROWS OF THIS SEAT. 5 by the template 'for every input the law returns true; each argument reads behind the call as it read before'; 0 by the template 'total and deterministic' (their statements: YtanhoppclgeogaaDoorTotals.lean).
  GIVEN WITH THE SEED: the statements are not yours to turn. If you find one false, say at which input.
  Laid BY PROGRAM, IN A SANDBOX (cutbox-rows.mjs): the forced cells as the released guide's own fill.sh prints them over the translation 08f3baa5c785b246… (all of the seat's roots in one cut). By AI agents, Wed Nov 11 2026. No macro, syntax, notation, axiom, sorry.
-/
import Derived.Test.YtanhoppclgeogaaDoorChecked
import GoSem.Claim
import GoSem.ClaimJoined
import GoSem.ClaimMapViews
import Derived.JoinedTies
import Derived.KernelRfl
namespace Go.Proofs.YtanhoppclgeogaaDoor
/- THE CELL 'sum', in the pinned program and in every row, IS THE sha256 OF THE DUMP (.gsa) THAT YtanhoppclgeogaaDoorProg.lean LOADS. Nothing in Lean hashes anything: it is a label: what it is worth is what the hold of that sum in a sandbox is worth. -/
noncomputable def Tryd.pinned : Pinned := { name := "ytanhoppclgeogaadoor", sum := "08f3baa5c785b2467d6d3a0ec3255a4495a493118fee34ca0acae87f2b6818a2", checked := Tryd.checked }
namespace Rows
def none {H : Type} : Left H := { results := [], args := [] }

/- WHAT THE LISTED PACKAGE-LEVEL VARIABLES READ AS WHEN THE CALL BEGINS. Each datum BY PROGRAM (the guide's laid-datum.mjs) off the statement by which the dump's own 'gosem.cut.vars' lays the variable. In a bare row this is a premise. The card (YtanhoppclgeogaaDoorCards.lean) ties it to the program's text. -/
def laid_gazetteer_curve_quarters {H : Type} : DataW H := .agg [.agg [.lit (.int .i64 0), .lit (.int .i64 0), .lit (.bool true), .lit (.bool false)], .agg [.lit (.int .i64 0), .lit (.int .i64 1), .lit (.bool false), .lit (.bool false)], .agg [.lit (.int .i64 1), .lit (.int .i64 1), .lit (.bool false), .lit (.bool false)], .agg [.lit (.int .i64 1), .lit (.int .i64 0), .lit (.bool true), .lit (.bool true)]]

/-- 'gazetteerlaw04.TileidTells': WHATEVER THE INPUT: true; the input reads as it did. -/
def tileidTellsSpec : ChangeSpec := { name := "tileidTells", fn := fun _ => fun
  | [d1, d2, d3] => { results := [.lit (.bool true)], args := [d1, d2, d3] }
  | _ => none }
def tileidTellsRow : OpenClaim := { program := "ytanhoppclgeogaadoor", sum := "08f3baa5c785b2467d6d3a0ec3255a4495a493118fee34ca0acae87f2b6818a2", func := "gazetteer/gazetteerlaw04.TileidTells", spec := "tileidTells", recurses := true, named := ["gazetteer/curve.quarters"], apart := false, laid := [("gazetteer/curve.quarters", laid_gazetteer_curve_quarters)] }
def TileidTellsSaid : Prop := tileidTellsRow.holds Tryd.pinned (OpenSpec.ofChange tileidTellsSpec)

/-- ITS FALSE NEIGHBOUR: 'it returns false'. Refute it at one input. -/
def tileidTellsWrong : ChangeSpec := { name := "tileidTells", fn := fun _ => fun
  | [d1, d2, d3] => { results := [.lit (.bool false)], args := [d1, d2, d3] }
  | _ => none }
def TileidTellsWrongFalsely : Prop := tileidTellsRow.holds Tryd.pinned (OpenSpec.ofChange tileidTellsWrong)

/-- 'gazetteerlaw04.TileidMoves': WHATEVER THE INPUT: true; the input reads as it did. -/
def tileidMovesSpec : ChangeSpec := { name := "tileidMoves", fn := fun _ => fun
  | [d1, d2, d3] => { results := [.lit (.bool true)], args := [d1, d2, d3] }
  | _ => none }
def tileidMovesRow : OpenClaim := { program := "ytanhoppclgeogaadoor", sum := "08f3baa5c785b2467d6d3a0ec3255a4495a493118fee34ca0acae87f2b6818a2", func := "gazetteer/gazetteerlaw04.TileidMoves", spec := "tileidMoves", recurses := true, named := ["gazetteer/curve.quarters"], apart := false, laid := [("gazetteer/curve.quarters", laid_gazetteer_curve_quarters)] }
def TileidMovesSaid : Prop := tileidMovesRow.holds Tryd.pinned (OpenSpec.ofChange tileidMovesSpec)

/-- ITS FALSE NEIGHBOUR: 'it returns false'. Refute it at one input. -/
def tileidMovesWrong : ChangeSpec := { name := "tileidMoves", fn := fun _ => fun
  | [d1, d2, d3] => { results := [.lit (.bool false)], args := [d1, d2, d3] }
  | _ => none }
def TileidMovesWrongFalsely : Prop := tileidMovesRow.holds Tryd.pinned (OpenSpec.ofChange tileidMovesWrong)

/-- 'gazetteerlaw04.TileidBack': WHATEVER THE INPUT: true; the input reads as it did. -/
def tileidBackSpec : ChangeSpec := { name := "tileidBack", fn := fun _ => fun
  | [d1, d2, d3] => { results := [.lit (.bool true)], args := [d1, d2, d3] }
  | _ => none }
def tileidBackRow : OpenClaim := { program := "ytanhoppclgeogaadoor", sum := "08f3baa5c785b2467d6d3a0ec3255a4495a493118fee34ca0acae87f2b6818a2", func := "gazetteer/gazetteerlaw04.TileidBack", spec := "tileidBack", named := ["gazetteer/curve.quarters"], apart := false, laid := [("gazetteer/curve.quarters", laid_gazetteer_curve_quarters)] }
def TileidBackSaid : Prop := tileidBackRow.holds Tryd.pinned (OpenSpec.ofChange tileidBackSpec)

/-- ITS FALSE NEIGHBOUR: 'it returns false'. Refute it at one input. -/
def tileidBackWrong : ChangeSpec := { name := "tileidBack", fn := fun _ => fun
  | [d1, d2, d3] => { results := [.lit (.bool false)], args := [d1, d2, d3] }
  | _ => none }
def TileidBackWrongFalsely : Prop := tileidBackRow.holds Tryd.pinned (OpenSpec.ofChange tileidBackWrong)

/-- 'gazetteerlaw04.TileidFour': WHATEVER THE INPUT: true; the input reads as it did. -/
def tileidFourSpec : ChangeSpec := { name := "tileidFour", fn := fun _ => fun
  | [d1, d2] => { results := [.lit (.bool true)], args := [d1, d2] }
  | _ => none }
def tileidFourRow : OpenClaim := { program := "ytanhoppclgeogaadoor", sum := "08f3baa5c785b2467d6d3a0ec3255a4495a493118fee34ca0acae87f2b6818a2", func := "gazetteer/gazetteerlaw04.TileidFour", spec := "tileidFour", named := ["gazetteer/curve.quarters"], apart := false, laid := [("gazetteer/curve.quarters", laid_gazetteer_curve_quarters)] }
def TileidFourSaid : Prop := tileidFourRow.holds Tryd.pinned (OpenSpec.ofChange tileidFourSpec)

/-- ITS FALSE NEIGHBOUR: 'it returns false'. Refute it at one input. -/
def tileidFourWrong : ChangeSpec := { name := "tileidFour", fn := fun _ => fun
  | [d1, d2] => { results := [.lit (.bool false)], args := [d1, d2] }
  | _ => none }
def TileidFourWrongFalsely : Prop := tileidFourRow.holds Tryd.pinned (OpenSpec.ofChange tileidFourWrong)

/-- 'gazetteerlaw04.TileidRange': WHATEVER THE INPUT: true; the input reads as it did. -/
def tileidRangeSpec : ChangeSpec := { name := "tileidRange", fn := fun _ => fun
  | [d1, d2] => { results := [.lit (.bool true)], args := [d1, d2] }
  | _ => none }
def tileidRangeRow : OpenClaim := { program := "ytanhoppclgeogaadoor", sum := "08f3baa5c785b2467d6d3a0ec3255a4495a493118fee34ca0acae87f2b6818a2", func := "gazetteer/gazetteerlaw04.TileidRange", spec := "tileidRange", named := ["gazetteer/curve.quarters"], apart := false, laid := [("gazetteer/curve.quarters", laid_gazetteer_curve_quarters)] }
def TileidRangeSaid : Prop := tileidRangeRow.holds Tryd.pinned (OpenSpec.ofChange tileidRangeSpec)

/-- ITS FALSE NEIGHBOUR: 'it returns false'. Refute it at one input. -/
def tileidRangeWrong : ChangeSpec := { name := "tileidRange", fn := fun _ => fun
  | [d1, d2] => { results := [.lit (.bool false)], args := [d1, d2] }
  | _ => none }
def TileidRangeWrongFalsely : Prop := tileidRangeRow.holds Tryd.pinned (OpenSpec.ofChange tileidRangeWrong)

/- THE SECOND FORM. 'bulk': how many values and letters a reading holds, each counted each time it is reached (what is shared counts as often as it is met; a slice's spare places count too). A statement '..UptoSaid' is the law's where the arguments, and the package variables that the reading takes, are together of bulk at most 1048576: NARROWER than '..Said'. Prove '..Said' where nothing that the law and all that it calls make is longer than what came in: it says more and counts as full. Else prove '..UptoSaid'. A law counts once. -/
mutual
def uptoBulk {H : Type} : DataW H → Nat
  | .lit (.string bytes) => bytes.length + 1
  | .lit _ => 1
  | .nil => 1
  | .ptr d => uptoBulk d + 1
  | .slice elems spare => uptoBulkAll elems + uptoBulkAll spare + 1
  | .agg parts => uptoBulkAll parts + 1
  | .iface _ d => uptoBulk d + 1
  | .map entries => uptoBulkEntries entries + 1
  | .held _ => 1
def uptoBulkAll {H : Type} : List (DataW H) → Nat
  | [] => 0
  | d :: r => uptoBulk d + uptoBulkAll r
def uptoBulkEntries {H : Type} : List (Lit × DataW H) → Nat
  | [] => 0
  | x :: r => uptoBulkEntry x + uptoBulkEntries r
def uptoBulkEntry {H : Type} : Lit × DataW H → Nat
  | (.string bytes, d) => bytes.length + uptoBulk d + 1
  | (_, d) => uptoBulk d + 1
 end
def uptoSmall : (H : Type) → List (DataW H) → Bool := fun _ ds => decide (uptoBulkAll ds ≤ 1048576)
def OpenSpec.upto (s : _root_.Go.ChangeSpec) : _root_.Go.OpenSpec := { _root_.Go.OpenSpec.ofChange s with cond := some uptoSmall }

/-- 'gazetteerlaw04.TileidTells', WHERE WHAT IT READS IS OF BULK AT MOST 1048576: true; the input reads as it did. -/
def tileidTellsUptoRow : OpenClaim := { program := "ytanhoppclgeogaadoor", sum := "08f3baa5c785b2467d6d3a0ec3255a4495a493118fee34ca0acae87f2b6818a2", func := "gazetteer/gazetteerlaw04.TileidTells", spec := "tileidTells", recurses := true, named := ["gazetteer/curve.quarters"], apart := false, laid := [("gazetteer/curve.quarters", laid_gazetteer_curve_quarters)], narrowed := true }
def TileidTellsUptoSaid : Prop := tileidTellsUptoRow.holds Tryd.pinned (OpenSpec.upto tileidTellsSpec)

/-- 'gazetteerlaw04.TileidMoves', WHERE WHAT IT READS IS OF BULK AT MOST 1048576: true; the input reads as it did. -/
def tileidMovesUptoRow : OpenClaim := { program := "ytanhoppclgeogaadoor", sum := "08f3baa5c785b2467d6d3a0ec3255a4495a493118fee34ca0acae87f2b6818a2", func := "gazetteer/gazetteerlaw04.TileidMoves", spec := "tileidMoves", recurses := true, named := ["gazetteer/curve.quarters"], apart := false, laid := [("gazetteer/curve.quarters", laid_gazetteer_curve_quarters)], narrowed := true }
def TileidMovesUptoSaid : Prop := tileidMovesUptoRow.holds Tryd.pinned (OpenSpec.upto tileidMovesSpec)

/-- 'gazetteerlaw04.TileidBack', WHERE WHAT IT READS IS OF BULK AT MOST 1048576: true; the input reads as it did. -/
def tileidBackUptoRow : OpenClaim := { program := "ytanhoppclgeogaadoor", sum := "08f3baa5c785b2467d6d3a0ec3255a4495a493118fee34ca0acae87f2b6818a2", func := "gazetteer/gazetteerlaw04.TileidBack", spec := "tileidBack", named := ["gazetteer/curve.quarters"], apart := false, laid := [("gazetteer/curve.quarters", laid_gazetteer_curve_quarters)], narrowed := true }
def TileidBackUptoSaid : Prop := tileidBackUptoRow.holds Tryd.pinned (OpenSpec.upto tileidBackSpec)

/-- 'gazetteerlaw04.TileidFour', WHERE WHAT IT READS IS OF BULK AT MOST 1048576: true; the input reads as it did. -/
def tileidFourUptoRow : OpenClaim := { program := "ytanhoppclgeogaadoor", sum := "08f3baa5c785b2467d6d3a0ec3255a4495a493118fee34ca0acae87f2b6818a2", func := "gazetteer/gazetteerlaw04.TileidFour", spec := "tileidFour", named := ["gazetteer/curve.quarters"], apart := false, laid := [("gazetteer/curve.quarters", laid_gazetteer_curve_quarters)], narrowed := true }
def TileidFourUptoSaid : Prop := tileidFourUptoRow.holds Tryd.pinned (OpenSpec.upto tileidFourSpec)

/-- 'gazetteerlaw04.TileidRange', WHERE WHAT IT READS IS OF BULK AT MOST 1048576: true; the input reads as it did. -/
def tileidRangeUptoRow : OpenClaim := { program := "ytanhoppclgeogaadoor", sum := "08f3baa5c785b2467d6d3a0ec3255a4495a493118fee34ca0acae87f2b6818a2", func := "gazetteer/gazetteerlaw04.TileidRange", spec := "tileidRange", named := ["gazetteer/curve.quarters"], apart := false, laid := [("gazetteer/curve.quarters", laid_gazetteer_curve_quarters)], narrowed := true }
def TileidRangeUptoSaid : Prop := tileidRangeUptoRow.holds Tryd.pinned (OpenSpec.upto tileidRangeSpec)

end Rows
end Go.Proofs.YtanhoppclgeogaaDoor
