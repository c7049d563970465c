/-
  NARROWER THAN 'FOR EVERY INPUT', by the rows' own cells (each row's printed sentence says how): CoverTells: laid · CoverLists: laid · CoverJust: laid · CoverUnion: laid · CoverParts: laid.
  DERIVED. THE GIVEN ROWS OF THIS SEAT. 5 by the template 'for every input the law returns true; each argument reads behind the call as it read before'; 0 by the template 'total and deterministic' (their statements: YthlekifagidijaaDoorTotals.lean).
  GIVEN WITH THE SEED: the statements are not yours to turn. If you find one false, say at which input.
  Laid BY PROGRAM, IN A SANDBOX (cutbox-rows.mjs): the forced cells as the released guide's own fill.sh prints them over the translation 817b823b4a21208a… (all of the seat's roots in one cut). By AI agents, Wed Nov 11 2026. No macro, syntax, notation, axiom, sorry.
-/
import Derived.Test.YthlekifagidijaaDoorChecked
import GoSem.Claim
import GoSem.ClaimJoined
import GoSem.ClaimMapViews
import Derived.JoinedTies
import Derived.KernelRfl
namespace Go.Proofs.YthlekifagidijaaDoor
/- THE CELL 'sum', in the pinned program and in every row, IS THE sha256 OF THE DUMP (.gsa) THAT YthlekifagidijaaDoorProg.lean LOADS. Nothing in Lean hashes anything: it is a label: what it is worth is what the hold of that sum in a sandbox is worth. -/
noncomputable def Tryd.pinned : Pinned := { name := "ythlekifagidijaadoor", sum := "817b823b4a21208ad81c70472523fc5fcf927df518e5d8e4711e5f8447d98622", checked := Tryd.checked }
namespace Rows
def none {H : Type} : Left H := { results := [], args := [] }

/- WHAT THE LISTED PACKAGE-LEVEL VARIABLES READ AS WHEN THE CALL BEGINS. Each datum BY PROGRAM (the guide's laid-datum.mjs) off the statement by which the dump's own 'gosem.cut.vars' lays the variable. In a bare row this is a premise. The card (YthlekifagidijaaDoorCards.lean) ties it to the program's text. -/
def laid_gazetteer_curve_quarters {H : Type} : DataW H := .agg [.agg [.lit (.int .i64 0), .lit (.int .i64 0), .lit (.bool true), .lit (.bool false)], .agg [.lit (.int .i64 0), .lit (.int .i64 1), .lit (.bool false), .lit (.bool false)], .agg [.lit (.int .i64 1), .lit (.int .i64 1), .lit (.bool false), .lit (.bool false)], .agg [.lit (.int .i64 1), .lit (.int .i64 0), .lit (.bool true), .lit (.bool true)]]

/-- 'gazetteerlaw05.CoverTells': WHATEVER THE INPUT: true; the input reads as it did. -/
def coverTellsSpec : ChangeSpec := { name := "coverTells", fn := fun _ => fun
  | [d1, d2, d3] => { results := [.lit (.bool true)], args := [d1, d2, d3] }
  | _ => none }
def coverTellsRow : OpenClaim := { program := "ythlekifagidijaadoor", sum := "817b823b4a21208ad81c70472523fc5fcf927df518e5d8e4711e5f8447d98622", func := "gazetteer/gazetteerlaw05.CoverTells", spec := "coverTells", unfollowed := true, recurses := true, named := ["gazetteer/curve.quarters"], apart := false, laid := [("gazetteer/curve.quarters", laid_gazetteer_curve_quarters)] }
def CoverTellsSaid : Prop := coverTellsRow.holds Tryd.pinned (OpenSpec.ofChange coverTellsSpec)

/-- ITS FALSE NEIGHBOUR: 'it returns false'. Refute it at one input. -/
def coverTellsWrong : ChangeSpec := { name := "coverTells", fn := fun _ => fun
  | [d1, d2, d3] => { results := [.lit (.bool false)], args := [d1, d2, d3] }
  | _ => none }
def CoverTellsWrongFalsely : Prop := coverTellsRow.holds Tryd.pinned (OpenSpec.ofChange coverTellsWrong)

/-- 'gazetteerlaw05.CoverLists': WHATEVER THE INPUT: true; the input reads as it did. -/
def coverListsSpec : ChangeSpec := { name := "coverLists", fn := fun _ => fun
  | [d1, d2, d3] => { results := [.lit (.bool true)], args := [d1, d2, d3] }
  | _ => none }
def coverListsRow : OpenClaim := { program := "ythlekifagidijaadoor", sum := "817b823b4a21208ad81c70472523fc5fcf927df518e5d8e4711e5f8447d98622", func := "gazetteer/gazetteerlaw05.CoverLists", spec := "coverLists", unfollowed := true, recurses := true, named := ["gazetteer/curve.quarters"], apart := false, laid := [("gazetteer/curve.quarters", laid_gazetteer_curve_quarters)] }
def CoverListsSaid : Prop := coverListsRow.holds Tryd.pinned (OpenSpec.ofChange coverListsSpec)

/-- ITS FALSE NEIGHBOUR: 'it returns false'. Refute it at one input. -/
def coverListsWrong : ChangeSpec := { name := "coverLists", fn := fun _ => fun
  | [d1, d2, d3] => { results := [.lit (.bool false)], args := [d1, d2, d3] }
  | _ => none }
def CoverListsWrongFalsely : Prop := coverListsRow.holds Tryd.pinned (OpenSpec.ofChange coverListsWrong)

/-- 'gazetteerlaw05.CoverJust': WHATEVER THE INPUT: true; the input reads as it did. -/
def coverJustSpec : ChangeSpec := { name := "coverJust", fn := fun _ => fun
  | [d1, d2] => { results := [.lit (.bool true)], args := [d1, d2] }
  | _ => none }
def coverJustRow : OpenClaim := { program := "ythlekifagidijaadoor", sum := "817b823b4a21208ad81c70472523fc5fcf927df518e5d8e4711e5f8447d98622", func := "gazetteer/gazetteerlaw05.CoverJust", spec := "coverJust", unfollowed := true, recurses := true, named := ["gazetteer/curve.quarters"], apart := false, laid := [("gazetteer/curve.quarters", laid_gazetteer_curve_quarters)] }
def CoverJustSaid : Prop := coverJustRow.holds Tryd.pinned (OpenSpec.ofChange coverJustSpec)

/-- ITS FALSE NEIGHBOUR: 'it returns false'. Refute it at one input. -/
def coverJustWrong : ChangeSpec := { name := "coverJust", fn := fun _ => fun
  | [d1, d2] => { results := [.lit (.bool false)], args := [d1, d2] }
  | _ => none }
def CoverJustWrongFalsely : Prop := coverJustRow.holds Tryd.pinned (OpenSpec.ofChange coverJustWrong)

/-- 'gazetteerlaw05.CoverUnion': WHATEVER THE INPUT: true; the input reads as it did. -/
def coverUnionSpec : ChangeSpec := { name := "coverUnion", fn := fun _ => fun
  | [d1, d2, d3] => { results := [.lit (.bool true)], args := [d1, d2, d3] }
  | _ => none }
def coverUnionRow : OpenClaim := { program := "ythlekifagidijaadoor", sum := "817b823b4a21208ad81c70472523fc5fcf927df518e5d8e4711e5f8447d98622", func := "gazetteer/gazetteerlaw05.CoverUnion", spec := "coverUnion", unfollowed := true, recurses := true, named := ["gazetteer/curve.quarters"], apart := false, laid := [("gazetteer/curve.quarters", laid_gazetteer_curve_quarters)] }
def CoverUnionSaid : Prop := coverUnionRow.holds Tryd.pinned (OpenSpec.ofChange coverUnionSpec)

/-- ITS FALSE NEIGHBOUR: 'it returns false'. Refute it at one input. -/
def coverUnionWrong : ChangeSpec := { name := "coverUnion", fn := fun _ => fun
  | [d1, d2, d3] => { results := [.lit (.bool false)], args := [d1, d2, d3] }
  | _ => none }
def CoverUnionWrongFalsely : Prop := coverUnionRow.holds Tryd.pinned (OpenSpec.ofChange coverUnionWrong)

/-- 'gazetteerlaw05.CoverParts': WHATEVER THE INPUT: true; the input reads as it did. -/
def coverPartsSpec : ChangeSpec := { name := "coverParts", fn := fun _ => fun
  | [d1, d2] => { results := [.lit (.bool true)], args := [d1, d2] }
  | _ => none }
def coverPartsRow : OpenClaim := { program := "ythlekifagidijaadoor", sum := "817b823b4a21208ad81c70472523fc5fcf927df518e5d8e4711e5f8447d98622", func := "gazetteer/gazetteerlaw05.CoverParts", spec := "coverParts", unfollowed := true, recurses := true, named := ["gazetteer/curve.quarters"], apart := false, laid := [("gazetteer/curve.quarters", laid_gazetteer_curve_quarters)] }
def CoverPartsSaid : Prop := coverPartsRow.holds Tryd.pinned (OpenSpec.ofChange coverPartsSpec)

/-- ITS FALSE NEIGHBOUR: 'it returns false'. Refute it at one input. -/
def coverPartsWrong : ChangeSpec := { name := "coverParts", fn := fun _ => fun
  | [d1, d2] => { results := [.lit (.bool false)], args := [d1, d2] }
  | _ => none }
def CoverPartsWrongFalsely : Prop := coverPartsRow.holds Tryd.pinned (OpenSpec.ofChange coverPartsWrong)

/- THE SECOND FORM. 'bulk': how many values and letters a reading holds, each counted each time it is reached (what is shared counts as often as it is met; a slice's spare places count too). A statement '..UptoSaid' is the law's where the arguments, and the package variables that the reading takes, are together of bulk at most 1048576: NARROWER than '..Said'. Prove '..Said' where nothing that the law and all that it calls make is longer than what came in: it says more and counts as full. Else prove '..UptoSaid'. A law counts once. -/
mutual
def uptoBulk {H : Type} : DataW H → Nat
  | .lit (.string bytes) => bytes.length + 1
  | .lit _ => 1
  | .nil => 1
  | .ptr d => uptoBulk d + 1
  | .slice elems spare => uptoBulkAll elems + uptoBulkAll spare + 1
  | .agg parts => uptoBulkAll parts + 1
  | .iface _ d => uptoBulk d + 1
  | .map entries => uptoBulkEntries entries + 1
  | .held _ => 1
def uptoBulkAll {H : Type} : List (DataW H) → Nat
  | [] => 0
  | d :: r => uptoBulk d + uptoBulkAll r
def uptoBulkEntries {H : Type} : List (Lit × DataW H) → Nat
  | [] => 0
  | x :: r => uptoBulkEntry x + uptoBulkEntries r
def uptoBulkEntry {H : Type} : Lit × DataW H → Nat
  | (.string bytes, d) => bytes.length + uptoBulk d + 1
  | (_, d) => uptoBulk d + 1
 end
def uptoSmall : (H : Type) → List (DataW H) → Bool := fun _ ds => decide (uptoBulkAll ds ≤ 1048576)
def OpenSpec.upto (s : _root_.Go.ChangeSpec) : _root_.Go.OpenSpec := { _root_.Go.OpenSpec.ofChange s with cond := some uptoSmall }

/-- 'gazetteerlaw05.CoverTells', WHERE WHAT IT READS IS OF BULK AT MOST 1048576: true; the input reads as it did. -/
def coverTellsUptoRow : OpenClaim := { program := "ythlekifagidijaadoor", sum := "817b823b4a21208ad81c70472523fc5fcf927df518e5d8e4711e5f8447d98622", func := "gazetteer/gazetteerlaw05.CoverTells", spec := "coverTells", unfollowed := true, recurses := true, named := ["gazetteer/curve.quarters"], apart := false, laid := [("gazetteer/curve.quarters", laid_gazetteer_curve_quarters)], narrowed := true }
def CoverTellsUptoSaid : Prop := coverTellsUptoRow.holds Tryd.pinned (OpenSpec.upto coverTellsSpec)

/-- 'gazetteerlaw05.CoverLists', WHERE WHAT IT READS IS OF BULK AT MOST 1048576: true; the input reads as it did. -/
def coverListsUptoRow : OpenClaim := { program := "ythlekifagidijaadoor", sum := "817b823b4a21208ad81c70472523fc5fcf927df518e5d8e4711e5f8447d98622", func := "gazetteer/gazetteerlaw05.CoverLists", spec := "coverLists", unfollowed := true, recurses := true, named := ["gazetteer/curve.quarters"], apart := false, laid := [("gazetteer/curve.quarters", laid_gazetteer_curve_quarters)], narrowed := true }
def CoverListsUptoSaid : Prop := coverListsUptoRow.holds Tryd.pinned (OpenSpec.upto coverListsSpec)

/-- 'gazetteerlaw05.CoverJust', WHERE WHAT IT READS IS OF BULK AT MOST 1048576: true; the input reads as it did. -/
def coverJustUptoRow : OpenClaim := { program := "ythlekifagidijaadoor", sum := "817b823b4a21208ad81c70472523fc5fcf927df518e5d8e4711e5f8447d98622", func := "gazetteer/gazetteerlaw05.CoverJust", spec := "coverJust", unfollowed := true, recurses := true, named := ["gazetteer/curve.quarters"], apart := false, laid := [("gazetteer/curve.quarters", laid_gazetteer_curve_quarters)], narrowed := true }
def CoverJustUptoSaid : Prop := coverJustUptoRow.holds Tryd.pinned (OpenSpec.upto coverJustSpec)

/-- 'gazetteerlaw05.CoverUnion', WHERE WHAT IT READS IS OF BULK AT MOST 1048576: true; the input reads as it did. -/
def coverUnionUptoRow : OpenClaim := { program := "ythlekifagidijaadoor", sum := "817b823b4a21208ad81c70472523fc5fcf927df518e5d8e4711e5f8447d98622", func := "gazetteer/gazetteerlaw05.CoverUnion", spec := "coverUnion", unfollowed := true, recurses := true, named := ["gazetteer/curve.quarters"], apart := false, laid := [("gazetteer/curve.quarters", laid_gazetteer_curve_quarters)], narrowed := true }
def CoverUnionUptoSaid : Prop := coverUnionUptoRow.holds Tryd.pinned (OpenSpec.upto coverUnionSpec)

/-- 'gazetteerlaw05.CoverParts', WHERE WHAT IT READS IS OF BULK AT MOST 1048576: true; the input reads as it did. -/
def coverPartsUptoRow : OpenClaim := { program := "ythlekifagidijaadoor", sum := "817b823b4a21208ad81c70472523fc5fcf927df518e5d8e4711e5f8447d98622", func := "gazetteer/gazetteerlaw05.CoverParts", spec := "coverParts", unfollowed := true, recurses := true, named := ["gazetteer/curve.quarters"], apart := false, laid := [("gazetteer/curve.quarters", laid_gazetteer_curve_quarters)], narrowed := true }
def CoverPartsUptoSaid : Prop := coverPartsUptoRow.holds Tryd.pinned (OpenSpec.upto coverPartsSpec)

end Rows
end Go.Proofs.YthlekifagidijaaDoor
