/-
  NARROWER THAN 'FOR EVERY INPUT', by the rows' own cells (each row's printed sentence says how): CurveTells: laid · CurvePoints: laid · CurveBack: laid · CurveSteps: laid · CurveQuarters: laid.
  DERIVED. THE GIVEN ROWS OF THIS SEAT. 5 by the template 'for every input the law returns true; each argument reads behind the call as it read before'; 0 by the template 'total and deterministic' (their statements: YtojfmlckjcehjaaDoorTotals.lean).
  GIVEN WITH THE SEED: the statements are not yours to turn. If you find one false, say at which input.
  Laid BY PROGRAM, IN A SANDBOX (cutbox-rows.mjs): the forced cells as the released guide's own fill.sh prints them over the translation 5e3db703cb83956b… (all of the seat's roots in one cut). By AI agents, Wed Nov 11 2026. No macro, syntax, notation, axiom, sorry.
-/
import Derived.Test.YtojfmlckjcehjaaDoorChecked
import GoSem.Claim
import GoSem.ClaimJoined
import GoSem.ClaimMapViews
import Derived.JoinedTies
import Derived.KernelRfl
namespace Go.Proofs.YtojfmlckjcehjaaDoor
/- THE CELL 'sum', in the pinned program and in every row, IS THE sha256 OF THE DUMP (.gsa) THAT YtojfmlckjcehjaaDoorProg.lean LOADS. Nothing in Lean hashes anything: it is a label: what it is worth is what the hold of that sum in a sandbox is worth. -/
noncomputable def Tryd.pinned : Pinned := { name := "ytojfmlckjcehjaadoor", sum := "5e3db703cb83956bf000c9be87c866009936b800f91963ea0dc76ab30b1327cc", checked := Tryd.checked }
namespace Rows
def none {H : Type} : Left H := { results := [], args := [] }

/- WHAT THE LISTED PACKAGE-LEVEL VARIABLES READ AS WHEN THE CALL BEGINS. Each datum BY PROGRAM (the guide's laid-datum.mjs) off the statement by which the dump's own 'gosem.cut.vars' lays the variable. In a bare row this is a premise. The card (YtojfmlckjcehjaaDoorCards.lean) ties it to the program's text. -/
def laid_gazetteer_curve_quarters {H : Type} : DataW H := .agg [.agg [.lit (.int .i64 0), .lit (.int .i64 0), .lit (.bool true), .lit (.bool false)], .agg [.lit (.int .i64 0), .lit (.int .i64 1), .lit (.bool false), .lit (.bool false)], .agg [.lit (.int .i64 1), .lit (.int .i64 1), .lit (.bool false), .lit (.bool false)], .agg [.lit (.int .i64 1), .lit (.int .i64 0), .lit (.bool true), .lit (.bool true)]]

/-- 'gazetteerlaw03.CurveTells': WHATEVER THE INPUT: true; the input reads as it did. -/
def curveTellsSpec : ChangeSpec := { name := "curveTells", fn := fun _ => fun
  | [d1, d2, d3] => { results := [.lit (.bool true)], args := [d1, d2, d3] }
  | _ => none }
def curveTellsRow : OpenClaim := { program := "ytojfmlckjcehjaadoor", sum := "5e3db703cb83956bf000c9be87c866009936b800f91963ea0dc76ab30b1327cc", func := "gazetteer/gazetteerlaw03.CurveTells", spec := "curveTells", recurses := true, named := ["gazetteer/curve.quarters"], apart := false, laid := [("gazetteer/curve.quarters", laid_gazetteer_curve_quarters)] }
def CurveTellsSaid : Prop := curveTellsRow.holds Tryd.pinned (OpenSpec.ofChange curveTellsSpec)

/-- ITS FALSE NEIGHBOUR: 'it returns false'. Refute it at one input. -/
def curveTellsWrong : ChangeSpec := { name := "curveTells", fn := fun _ => fun
  | [d1, d2, d3] => { results := [.lit (.bool false)], args := [d1, d2, d3] }
  | _ => none }
def CurveTellsWrongFalsely : Prop := curveTellsRow.holds Tryd.pinned (OpenSpec.ofChange curveTellsWrong)

/-- 'gazetteerlaw03.CurvePoints': WHATEVER THE INPUT: true; the input reads as it did. -/
def curvePointsSpec : ChangeSpec := { name := "curvePoints", fn := fun _ => fun
  | [d1, d2] => { results := [.lit (.bool true)], args := [d1, d2] }
  | _ => none }
def curvePointsRow : OpenClaim := { program := "ytojfmlckjcehjaadoor", sum := "5e3db703cb83956bf000c9be87c866009936b800f91963ea0dc76ab30b1327cc", func := "gazetteer/gazetteerlaw03.CurvePoints", spec := "curvePoints", recurses := true, named := ["gazetteer/curve.quarters"], apart := false, laid := [("gazetteer/curve.quarters", laid_gazetteer_curve_quarters)] }
def CurvePointsSaid : Prop := curvePointsRow.holds Tryd.pinned (OpenSpec.ofChange curvePointsSpec)

/-- ITS FALSE NEIGHBOUR: 'it returns false'. Refute it at one input. -/
def curvePointsWrong : ChangeSpec := { name := "curvePoints", fn := fun _ => fun
  | [d1, d2] => { results := [.lit (.bool false)], args := [d1, d2] }
  | _ => none }
def CurvePointsWrongFalsely : Prop := curvePointsRow.holds Tryd.pinned (OpenSpec.ofChange curvePointsWrong)

/-- 'gazetteerlaw03.CurveBack': WHATEVER THE INPUT: true; the input reads as it did. -/
def curveBackSpec : ChangeSpec := { name := "curveBack", fn := fun _ => fun
  | [d1, d2] => { results := [.lit (.bool true)], args := [d1, d2] }
  | _ => none }
def curveBackRow : OpenClaim := { program := "ytojfmlckjcehjaadoor", sum := "5e3db703cb83956bf000c9be87c866009936b800f91963ea0dc76ab30b1327cc", func := "gazetteer/gazetteerlaw03.CurveBack", spec := "curveBack", named := ["gazetteer/curve.quarters"], apart := false, laid := [("gazetteer/curve.quarters", laid_gazetteer_curve_quarters)] }
def CurveBackSaid : Prop := curveBackRow.holds Tryd.pinned (OpenSpec.ofChange curveBackSpec)

/-- ITS FALSE NEIGHBOUR: 'it returns false'. Refute it at one input. -/
def curveBackWrong : ChangeSpec := { name := "curveBack", fn := fun _ => fun
  | [d1, d2] => { results := [.lit (.bool false)], args := [d1, d2] }
  | _ => none }
def CurveBackWrongFalsely : Prop := curveBackRow.holds Tryd.pinned (OpenSpec.ofChange curveBackWrong)

/-- 'gazetteerlaw03.CurveSteps': WHATEVER THE INPUT: true; the input reads as it did. -/
def curveStepsSpec : ChangeSpec := { name := "curveSteps", fn := fun _ => fun
  | [d1, d2, d3] => { results := [.lit (.bool true)], args := [d1, d2, d3] }
  | _ => none }
def curveStepsRow : OpenClaim := { program := "ytojfmlckjcehjaadoor", sum := "5e3db703cb83956bf000c9be87c866009936b800f91963ea0dc76ab30b1327cc", func := "gazetteer/gazetteerlaw03.CurveSteps", spec := "curveSteps", named := ["gazetteer/curve.quarters"], apart := false, laid := [("gazetteer/curve.quarters", laid_gazetteer_curve_quarters)] }
def CurveStepsSaid : Prop := curveStepsRow.holds Tryd.pinned (OpenSpec.ofChange curveStepsSpec)

/-- ITS FALSE NEIGHBOUR: 'it returns false'. Refute it at one input. -/
def curveStepsWrong : ChangeSpec := { name := "curveSteps", fn := fun _ => fun
  | [d1, d2, d3] => { results := [.lit (.bool false)], args := [d1, d2, d3] }
  | _ => none }
def CurveStepsWrongFalsely : Prop := curveStepsRow.holds Tryd.pinned (OpenSpec.ofChange curveStepsWrong)

/-- 'gazetteerlaw03.CurveQuarters': WHATEVER THE INPUT: true; the input reads as it did. -/
def curveQuartersSpec : ChangeSpec := { name := "curveQuarters", fn := fun _ => fun
  | [d1, d2, d3] => { results := [.lit (.bool true)], args := [d1, d2, d3] }
  | _ => none }
def curveQuartersRow : OpenClaim := { program := "ytojfmlckjcehjaadoor", sum := "5e3db703cb83956bf000c9be87c866009936b800f91963ea0dc76ab30b1327cc", func := "gazetteer/gazetteerlaw03.CurveQuarters", spec := "curveQuarters", named := ["gazetteer/curve.quarters"], apart := false, laid := [("gazetteer/curve.quarters", laid_gazetteer_curve_quarters)] }
def CurveQuartersSaid : Prop := curveQuartersRow.holds Tryd.pinned (OpenSpec.ofChange curveQuartersSpec)

/-- ITS FALSE NEIGHBOUR: 'it returns false'. Refute it at one input. -/
def curveQuartersWrong : ChangeSpec := { name := "curveQuarters", fn := fun _ => fun
  | [d1, d2, d3] => { results := [.lit (.bool false)], args := [d1, d2, d3] }
  | _ => none }
def CurveQuartersWrongFalsely : Prop := curveQuartersRow.holds Tryd.pinned (OpenSpec.ofChange curveQuartersWrong)

/- THE SECOND FORM. 'bulk': how many values and letters a reading holds, each counted each time it is reached (what is shared counts as often as it is met; a slice's spare places count too). A statement '..UptoSaid' is the law's where the arguments, and the package variables that the reading takes, are together of bulk at most 1048576: NARROWER than '..Said'. Prove '..Said' where nothing that the law and all that it calls make is longer than what came in: it says more and counts as full. Else prove '..UptoSaid'. A law counts once. -/
mutual
def uptoBulk {H : Type} : DataW H → Nat
  | .lit (.string bytes) => bytes.length + 1
  | .lit _ => 1
  | .nil => 1
  | .ptr d => uptoBulk d + 1
  | .slice elems spare => uptoBulkAll elems + uptoBulkAll spare + 1
  | .agg parts => uptoBulkAll parts + 1
  | .iface _ d => uptoBulk d + 1
  | .map entries => uptoBulkEntries entries + 1
  | .held _ => 1
def uptoBulkAll {H : Type} : List (DataW H) → Nat
  | [] => 0
  | d :: r => uptoBulk d + uptoBulkAll r
def uptoBulkEntries {H : Type} : List (Lit × DataW H) → Nat
  | [] => 0
  | x :: r => uptoBulkEntry x + uptoBulkEntries r
def uptoBulkEntry {H : Type} : Lit × DataW H → Nat
  | (.string bytes, d) => bytes.length + uptoBulk d + 1
  | (_, d) => uptoBulk d + 1
 end
def uptoSmall : (H : Type) → List (DataW H) → Bool := fun _ ds => decide (uptoBulkAll ds ≤ 1048576)
def OpenSpec.upto (s : _root_.Go.ChangeSpec) : _root_.Go.OpenSpec := { _root_.Go.OpenSpec.ofChange s with cond := some uptoSmall }

/-- 'gazetteerlaw03.CurveTells', WHERE WHAT IT READS IS OF BULK AT MOST 1048576: true; the input reads as it did. -/
def curveTellsUptoRow : OpenClaim := { program := "ytojfmlckjcehjaadoor", sum := "5e3db703cb83956bf000c9be87c866009936b800f91963ea0dc76ab30b1327cc", func := "gazetteer/gazetteerlaw03.CurveTells", spec := "curveTells", recurses := true, named := ["gazetteer/curve.quarters"], apart := false, laid := [("gazetteer/curve.quarters", laid_gazetteer_curve_quarters)], narrowed := true }
def CurveTellsUptoSaid : Prop := curveTellsUptoRow.holds Tryd.pinned (OpenSpec.upto curveTellsSpec)

/-- 'gazetteerlaw03.CurvePoints', WHERE WHAT IT READS IS OF BULK AT MOST 1048576: true; the input reads as it did. -/
def curvePointsUptoRow : OpenClaim := { program := "ytojfmlckjcehjaadoor", sum := "5e3db703cb83956bf000c9be87c866009936b800f91963ea0dc76ab30b1327cc", func := "gazetteer/gazetteerlaw03.CurvePoints", spec := "curvePoints", recurses := true, named := ["gazetteer/curve.quarters"], apart := false, laid := [("gazetteer/curve.quarters", laid_gazetteer_curve_quarters)], narrowed := true }
def CurvePointsUptoSaid : Prop := curvePointsUptoRow.holds Tryd.pinned (OpenSpec.upto curvePointsSpec)

/-- 'gazetteerlaw03.CurveBack', WHERE WHAT IT READS IS OF BULK AT MOST 1048576: true; the input reads as it did. -/
def curveBackUptoRow : OpenClaim := { program := "ytojfmlckjcehjaadoor", sum := "5e3db703cb83956bf000c9be87c866009936b800f91963ea0dc76ab30b1327cc", func := "gazetteer/gazetteerlaw03.CurveBack", spec := "curveBack", named := ["gazetteer/curve.quarters"], apart := false, laid := [("gazetteer/curve.quarters", laid_gazetteer_curve_quarters)], narrowed := true }
def CurveBackUptoSaid : Prop := curveBackUptoRow.holds Tryd.pinned (OpenSpec.upto curveBackSpec)

/-- 'gazetteerlaw03.CurveSteps', WHERE WHAT IT READS IS OF BULK AT MOST 1048576: true; the input reads as it did. -/
def curveStepsUptoRow : OpenClaim := { program := "ytojfmlckjcehjaadoor", sum := "5e3db703cb83956bf000c9be87c866009936b800f91963ea0dc76ab30b1327cc", func := "gazetteer/gazetteerlaw03.CurveSteps", spec := "curveSteps", named := ["gazetteer/curve.quarters"], apart := false, laid := [("gazetteer/curve.quarters", laid_gazetteer_curve_quarters)], narrowed := true }
def CurveStepsUptoSaid : Prop := curveStepsUptoRow.holds Tryd.pinned (OpenSpec.upto curveStepsSpec)

/-- 'gazetteerlaw03.CurveQuarters', WHERE WHAT IT READS IS OF BULK AT MOST 1048576: true; the input reads as it did. -/
def curveQuartersUptoRow : OpenClaim := { program := "ytojfmlckjcehjaadoor", sum := "5e3db703cb83956bf000c9be87c866009936b800f91963ea0dc76ab30b1327cc", func := "gazetteer/gazetteerlaw03.CurveQuarters", spec := "curveQuarters", named := ["gazetteer/curve.quarters"], apart := false, laid := [("gazetteer/curve.quarters", laid_gazetteer_curve_quarters)], narrowed := true }
def CurveQuartersUptoSaid : Prop := curveQuartersUptoRow.holds Tryd.pinned (OpenSpec.upto curveQuartersSpec)

end Rows
end Go.Proofs.YtojfmlckjcehjaaDoor
