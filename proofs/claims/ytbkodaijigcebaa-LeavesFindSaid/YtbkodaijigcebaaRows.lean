/-
  No cell of these rows narrows 'for every input' (looked for: loops, veiled, ifaces, maps, wideKeys, modest, calm, conditions, laid).
  DERIVED. THE GIVEN ROWS OF THIS SEAT. 4 by the template 'for every input the law returns true; each argument reads behind the call as it read before'; 0 by the template 'total and deterministic' (their statements: YtbkodaijigcebaaTotals.lean).
  GIVEN WITH THE SEED: the statements are not yours to turn. If you find one false, say at which input.
  Laid BY PROGRAM, IN A SANDBOX (cutbox-rows.mjs): the forced cells as the released guide's own fill.sh prints them over the translation e75b8b02623b517a… (all of the seat's roots in one cut). By AI agents, Wed Nov 11 2026. No macro, syntax, notation, axiom, sorry.
-/
import Derived.Test.YtbkodaijigcebaaChecked
import GoSem.Claim
import GoSem.ClaimJoined
import GoSem.ClaimMapViews
import Derived.JoinedTies
import Derived.KernelRfl
namespace Go.Proofs.Ytbkodaijigcebaa
/- THE CELL 'sum', in the pinned program and in every row, IS THE sha256 OF THE DUMP (.gsa) THAT YtbkodaijigcebaaProg.lean LOADS. Nothing in Lean hashes anything: it is a label: what it is worth is what the hold of that sum in a sandbox is worth. -/
noncomputable def Try.pinned : Pinned := { name := "ytbkodaijigcebaa", sum := "e75b8b02623b517aac9dfccd460a5242edc24d323ec86ee45ea85fdf0d795344", checked := Try.checked }
namespace Rows
def none {H : Type} : Left H := { results := [], args := [] }

/-- 'gazetteerlaw14.LeavesSplits': WHATEVER THE INPUT: true; the input reads as it did. -/
def leavesSplitsSpec : ChangeSpec := { name := "leavesSplits", fn := fun _ => fun
  | [d1, d2, d3] => { results := [.lit (.bool true)], args := [d1, d2, d3] }
  | _ => none }
def leavesSplitsRow : OpenClaim := { program := "ytbkodaijigcebaa", sum := "e75b8b02623b517aac9dfccd460a5242edc24d323ec86ee45ea85fdf0d795344", func := "gazetteer/gazetteerlaw14.LeavesSplits", spec := "leavesSplits", unfollowed := true, recurses := true, apart := false }
def LeavesSplitsSaid : Prop := leavesSplitsRow.holds Try.pinned (OpenSpec.ofChange leavesSplitsSpec)

/-- ITS FALSE NEIGHBOUR: 'it returns false'. Refute it at one input. -/
def leavesSplitsWrong : ChangeSpec := { name := "leavesSplits", fn := fun _ => fun
  | [d1, d2, d3] => { results := [.lit (.bool false)], args := [d1, d2, d3] }
  | _ => none }
def LeavesSplitsWrongFalsely : Prop := leavesSplitsRow.holds Try.pinned (OpenSpec.ofChange leavesSplitsWrong)

/-- 'gazetteerlaw14.LeavesJoins': WHATEVER THE INPUT: true; the input reads as it did. -/
def leavesJoinsSpec : ChangeSpec := { name := "leavesJoins", fn := fun _ => fun
  | [d1, d2] => { results := [.lit (.bool true)], args := [d1, d2] }
  | _ => none }
def leavesJoinsRow : OpenClaim := { program := "ytbkodaijigcebaa", sum := "e75b8b02623b517aac9dfccd460a5242edc24d323ec86ee45ea85fdf0d795344", func := "gazetteer/gazetteerlaw14.LeavesJoins", spec := "leavesJoins", unfollowed := true, recurses := true, apart := false }
def LeavesJoinsSaid : Prop := leavesJoinsRow.holds Try.pinned (OpenSpec.ofChange leavesJoinsSpec)

/-- ITS FALSE NEIGHBOUR: 'it returns false'. Refute it at one input. -/
def leavesJoinsWrong : ChangeSpec := { name := "leavesJoins", fn := fun _ => fun
  | [d1, d2] => { results := [.lit (.bool false)], args := [d1, d2] }
  | _ => none }
def LeavesJoinsWrongFalsely : Prop := leavesJoinsRow.holds Try.pinned (OpenSpec.ofChange leavesJoinsWrong)

/-- 'gazetteerlaw14.LeavesBack': WHATEVER THE INPUT: true; the input reads as it did. -/
def leavesBackSpec : ChangeSpec := { name := "leavesBack", fn := fun _ => fun
  | [d1, d2] => { results := [.lit (.bool true)], args := [d1, d2] }
  | _ => none }
def leavesBackRow : OpenClaim := { program := "ytbkodaijigcebaa", sum := "e75b8b02623b517aac9dfccd460a5242edc24d323ec86ee45ea85fdf0d795344", func := "gazetteer/gazetteerlaw14.LeavesBack", spec := "leavesBack", unfollowed := true, recurses := true, apart := false }
def LeavesBackSaid : Prop := leavesBackRow.holds Try.pinned (OpenSpec.ofChange leavesBackSpec)

/-- ITS FALSE NEIGHBOUR: 'it returns false'. Refute it at one input. -/
def leavesBackWrong : ChangeSpec := { name := "leavesBack", fn := fun _ => fun
  | [d1, d2] => { results := [.lit (.bool false)], args := [d1, d2] }
  | _ => none }
def LeavesBackWrongFalsely : Prop := leavesBackRow.holds Try.pinned (OpenSpec.ofChange leavesBackWrong)

/-- 'gazetteerlaw14.LeavesFind': WHATEVER THE INPUT: true; the input reads as it did. -/
def leavesFindSpec : ChangeSpec := { name := "leavesFind", fn := fun _ => fun
  | [d1, d2, d3] => { results := [.lit (.bool true)], args := [d1, d2, d3] }
  | _ => none }
def leavesFindRow : OpenClaim := { program := "ytbkodaijigcebaa", sum := "e75b8b02623b517aac9dfccd460a5242edc24d323ec86ee45ea85fdf0d795344", func := "gazetteer/gazetteerlaw14.LeavesFind", spec := "leavesFind", unfollowed := true, recurses := true, apart := false }
def LeavesFindSaid : Prop := leavesFindRow.holds Try.pinned (OpenSpec.ofChange leavesFindSpec)

/-- ITS FALSE NEIGHBOUR: 'it returns false'. Refute it at one input. -/
def leavesFindWrong : ChangeSpec := { name := "leavesFind", fn := fun _ => fun
  | [d1, d2, d3] => { results := [.lit (.bool false)], args := [d1, d2, d3] }
  | _ => none }
def LeavesFindWrongFalsely : Prop := leavesFindRow.holds Try.pinned (OpenSpec.ofChange leavesFindWrong)

/- THE SECOND FORM. 'bulk': how many values and letters a reading holds, each counted each time it is reached (what is shared counts as often as it is met; a slice's spare places count too). A statement '..UptoSaid' is the law's where the arguments, and the package variables that the reading takes, are together of bulk at most 1048576: NARROWER than '..Said'. Prove '..Said' where nothing that the law and all that it calls make is longer than what came in: it says more and counts as full. Else prove '..UptoSaid'. A law counts once. -/
mutual
def uptoBulk {H : Type} : DataW H → Nat
  | .lit (.string bytes) => bytes.length + 1
  | .lit _ => 1
  | .nil => 1
  | .ptr d => uptoBulk d + 1
  | .slice elems spare => uptoBulkAll elems + uptoBulkAll spare + 1
  | .agg parts => uptoBulkAll parts + 1
  | .iface _ d => uptoBulk d + 1
  | .map entries => uptoBulkEntries entries + 1
  | .held _ => 1
def uptoBulkAll {H : Type} : List (DataW H) → Nat
  | [] => 0
  | d :: r => uptoBulk d + uptoBulkAll r
def uptoBulkEntries {H : Type} : List (Lit × DataW H) → Nat
  | [] => 0
  | x :: r => uptoBulkEntry x + uptoBulkEntries r
def uptoBulkEntry {H : Type} : Lit × DataW H → Nat
  | (.string bytes, d) => bytes.length + uptoBulk d + 1
  | (_, d) => uptoBulk d + 1
 end
def uptoSmall : (H : Type) → List (DataW H) → Bool := fun _ ds => decide (uptoBulkAll ds ≤ 1048576)
def OpenSpec.upto (s : _root_.Go.ChangeSpec) : _root_.Go.OpenSpec := { _root_.Go.OpenSpec.ofChange s with cond := some uptoSmall }

/-- 'gazetteerlaw14.LeavesSplits', WHERE WHAT IT READS IS OF BULK AT MOST 1048576: true; the input reads as it did. -/
def leavesSplitsUptoRow : OpenClaim := { program := "ytbkodaijigcebaa", sum := "e75b8b02623b517aac9dfccd460a5242edc24d323ec86ee45ea85fdf0d795344", func := "gazetteer/gazetteerlaw14.LeavesSplits", spec := "leavesSplits", unfollowed := true, recurses := true, apart := false, narrowed := true }
def LeavesSplitsUptoSaid : Prop := leavesSplitsUptoRow.holds Try.pinned (OpenSpec.upto leavesSplitsSpec)

/-- 'gazetteerlaw14.LeavesJoins', WHERE WHAT IT READS IS OF BULK AT MOST 1048576: true; the input reads as it did. -/
def leavesJoinsUptoRow : OpenClaim := { program := "ytbkodaijigcebaa", sum := "e75b8b02623b517aac9dfccd460a5242edc24d323ec86ee45ea85fdf0d795344", func := "gazetteer/gazetteerlaw14.LeavesJoins", spec := "leavesJoins", unfollowed := true, recurses := true, apart := false, narrowed := true }
def LeavesJoinsUptoSaid : Prop := leavesJoinsUptoRow.holds Try.pinned (OpenSpec.upto leavesJoinsSpec)

/-- 'gazetteerlaw14.LeavesBack', WHERE WHAT IT READS IS OF BULK AT MOST 1048576: true; the input reads as it did. -/
def leavesBackUptoRow : OpenClaim := { program := "ytbkodaijigcebaa", sum := "e75b8b02623b517aac9dfccd460a5242edc24d323ec86ee45ea85fdf0d795344", func := "gazetteer/gazetteerlaw14.LeavesBack", spec := "leavesBack", unfollowed := true, recurses := true, apart := false, narrowed := true }
def LeavesBackUptoSaid : Prop := leavesBackUptoRow.holds Try.pinned (OpenSpec.upto leavesBackSpec)

/-- 'gazetteerlaw14.LeavesFind', WHERE WHAT IT READS IS OF BULK AT MOST 1048576: true; the input reads as it did. -/
def leavesFindUptoRow : OpenClaim := { program := "ytbkodaijigcebaa", sum := "e75b8b02623b517aac9dfccd460a5242edc24d323ec86ee45ea85fdf0d795344", func := "gazetteer/gazetteerlaw14.LeavesFind", spec := "leavesFind", unfollowed := true, recurses := true, apart := false, narrowed := true }
def LeavesFindUptoSaid : Prop := leavesFindUptoRow.holds Try.pinned (OpenSpec.upto leavesFindSpec)

end Rows
end Go.Proofs.Ytbkodaijigcebaa
