/-
  No cell of these rows narrows 'for every input' (looked for: loops, veiled, ifaces, maps, wideKeys, modest, calm, conditions, laid).
  DERIVED. THE GIVEN ROWS OF THIS SEAT. 5 by the template 'for every input the law returns true; each argument reads behind the call as it read before'; 0 by the template 'total and deterministic' (their statements: YtgnghnekckhcdaaTotals.lean).
  GIVEN WITH THE SEED: the statements are not yours to turn. If you find one false, say at which input.
  Laid BY PROGRAM, IN A SANDBOX (cutbox-rows.mjs): the forced cells as the released guide's own fill.sh prints them over the translation 116ac197e01629ed… (all of the seat's roots in one cut). By AI agents, Wed Nov 11 2026. No macro, syntax, notation, axiom, sorry.
-/
import Derived.Test.YtgnghnekckhcdaaChecked
import GoSem.Claim
import GoSem.ClaimJoined
import GoSem.ClaimMapViews
import Derived.JoinedTies
import Derived.KernelRfl
namespace Go.Proofs.Ytgnghnekckhcdaa
/- THE CELL 'sum', in the pinned program and in every row, IS THE sha256 OF THE DUMP (.gsa) THAT YtgnghnekckhcdaaProg.lean LOADS. Nothing in Lean hashes anything: it is a label: what it is worth is what the hold of that sum in a sandbox is worth. -/
noncomputable def Try.pinned : Pinned := { name := "ytgnghnekckhcdaa", sum := "116ac197e01629ed800fd888a8ce7841bdd07c2623f91822ea457bb890acdd23", checked := Try.checked }
namespace Rows
def none {H : Type} : Left H := { results := [], args := [] }

/-- 'gazetteerlaw08.DirsLays': WHATEVER THE INPUT: true; the input reads as it did. -/
def dirsLaysSpec : ChangeSpec := { name := "dirsLays", fn := fun _ => fun
  | [d] => { results := [.lit (.bool true)], args := [d] }
  | _ => none }
def dirsLaysRow : OpenClaim := { program := "ytgnghnekckhcdaa", sum := "116ac197e01629ed800fd888a8ce7841bdd07c2623f91822ea457bb890acdd23", func := "gazetteer/gazetteerlaw08.DirsLays", spec := "dirsLays", unfollowed := true, recurses := true, apart := false }
def DirsLaysSaid : Prop := dirsLaysRow.holds Try.pinned (OpenSpec.ofChange dirsLaysSpec)

/-- ITS FALSE NEIGHBOUR: 'it returns false'. Refute it at one input. -/
def dirsLaysWrong : ChangeSpec := { name := "dirsLays", fn := fun _ => fun
  | [d] => { results := [.lit (.bool false)], args := [d] }
  | _ => none }
def DirsLaysWrongFalsely : Prop := dirsLaysRow.holds Try.pinned (OpenSpec.ofChange dirsLaysWrong)

/-- 'gazetteerlaw08.DirsTakes': WHATEVER THE INPUT: true; the input reads as it did. -/
def dirsTakesSpec : ChangeSpec := { name := "dirsTakes", fn := fun _ => fun
  | [d] => { results := [.lit (.bool true)], args := [d] }
  | _ => none }
def dirsTakesRow : OpenClaim := { program := "ytgnghnekckhcdaa", sum := "116ac197e01629ed800fd888a8ce7841bdd07c2623f91822ea457bb890acdd23", func := "gazetteer/gazetteerlaw08.DirsTakes", spec := "dirsTakes", unfollowed := true, recurses := true, apart := false }
def DirsTakesSaid : Prop := dirsTakesRow.holds Try.pinned (OpenSpec.ofChange dirsTakesSpec)

/-- ITS FALSE NEIGHBOUR: 'it returns false'. Refute it at one input. -/
def dirsTakesWrong : ChangeSpec := { name := "dirsTakes", fn := fun _ => fun
  | [d] => { results := [.lit (.bool false)], args := [d] }
  | _ => none }
def DirsTakesWrongFalsely : Prop := dirsTakesRow.holds Try.pinned (OpenSpec.ofChange dirsTakesWrong)

/-- 'gazetteerlaw08.DirsBack': WHATEVER THE INPUT: true; the input reads as it did. -/
def dirsBackSpec : ChangeSpec := { name := "dirsBack", fn := fun _ => fun
  | [d1, d2] => { results := [.lit (.bool true)], args := [d1, d2] }
  | _ => none }
def dirsBackRow : OpenClaim := { program := "ytgnghnekckhcdaa", sum := "116ac197e01629ed800fd888a8ce7841bdd07c2623f91822ea457bb890acdd23", func := "gazetteer/gazetteerlaw08.DirsBack", spec := "dirsBack", unfollowed := true, recurses := true, apart := false }
def DirsBackSaid : Prop := dirsBackRow.holds Try.pinned (OpenSpec.ofChange dirsBackSpec)

/-- ITS FALSE NEIGHBOUR: 'it returns false'. Refute it at one input. -/
def dirsBackWrong : ChangeSpec := { name := "dirsBack", fn := fun _ => fun
  | [d1, d2] => { results := [.lit (.bool false)], args := [d1, d2] }
  | _ => none }
def DirsBackWrongFalsely : Prop := dirsBackRow.holds Try.pinned (OpenSpec.ofChange dirsBackWrong)

/-- 'gazetteerlaw08.DirsCut': WHATEVER THE INPUT: true; the input reads as it did. -/
def dirsCutSpec : ChangeSpec := { name := "dirsCut", fn := fun _ => fun
  | [d1, d2] => { results := [.lit (.bool true)], args := [d1, d2] }
  | _ => none }
def dirsCutRow : OpenClaim := { program := "ytgnghnekckhcdaa", sum := "116ac197e01629ed800fd888a8ce7841bdd07c2623f91822ea457bb890acdd23", func := "gazetteer/gazetteerlaw08.DirsCut", spec := "dirsCut", unfollowed := true, recurses := true, apart := false }
def DirsCutSaid : Prop := dirsCutRow.holds Try.pinned (OpenSpec.ofChange dirsCutSpec)

/-- ITS FALSE NEIGHBOUR: 'it returns false'. Refute it at one input. -/
def dirsCutWrong : ChangeSpec := { name := "dirsCut", fn := fun _ => fun
  | [d1, d2] => { results := [.lit (.bool false)], args := [d1, d2] }
  | _ => none }
def DirsCutWrongFalsely : Prop := dirsCutRow.holds Try.pinned (OpenSpec.ofChange dirsCutWrong)

/-- 'gazetteerlaw08.DirsEach': WHATEVER THE INPUT: true; the input reads as it did. -/
def dirsEachSpec : ChangeSpec := { name := "dirsEach", fn := fun _ => fun
  | [d1, d2] => { results := [.lit (.bool true)], args := [d1, d2] }
  | _ => none }
def dirsEachRow : OpenClaim := { program := "ytgnghnekckhcdaa", sum := "116ac197e01629ed800fd888a8ce7841bdd07c2623f91822ea457bb890acdd23", func := "gazetteer/gazetteerlaw08.DirsEach", spec := "dirsEach", inPlace := ["internal/abi.NoEscape", "internal/bytealg.MakeNoZero"], unfollowed := true, recurses := true, apart := false }
def DirsEachSaid : Prop := dirsEachRow.holds Try.pinned (OpenSpec.ofChange dirsEachSpec)

/-- ITS FALSE NEIGHBOUR: 'it returns false'. Refute it at one input. -/
def dirsEachWrong : ChangeSpec := { name := "dirsEach", fn := fun _ => fun
  | [d1, d2] => { results := [.lit (.bool false)], args := [d1, d2] }
  | _ => none }
def DirsEachWrongFalsely : Prop := dirsEachRow.holds Try.pinned (OpenSpec.ofChange dirsEachWrong)

/- THE SECOND FORM. 'bulk': how many values and letters a reading holds, each counted each time it is reached (what is shared counts as often as it is met; a slice's spare places count too). A statement '..UptoSaid' is the law's where the arguments, and the package variables that the reading takes, are together of bulk at most 1048576: NARROWER than '..Said'. Prove '..Said' where nothing that the law and all that it calls make is longer than what came in: it says more and counts as full. Else prove '..UptoSaid'. A law counts once. -/
mutual
def uptoBulk {H : Type} : DataW H → Nat
  | .lit (.string bytes) => bytes.length + 1
  | .lit _ => 1
  | .nil => 1
  | .ptr d => uptoBulk d + 1
  | .slice elems spare => uptoBulkAll elems + uptoBulkAll spare + 1
  | .agg parts => uptoBulkAll parts + 1
  | .iface _ d => uptoBulk d + 1
  | .map entries => uptoBulkEntries entries + 1
  | .held _ => 1
def uptoBulkAll {H : Type} : List (DataW H) → Nat
  | [] => 0
  | d :: r => uptoBulk d + uptoBulkAll r
def uptoBulkEntries {H : Type} : List (Lit × DataW H) → Nat
  | [] => 0
  | x :: r => uptoBulkEntry x + uptoBulkEntries r
def uptoBulkEntry {H : Type} : Lit × DataW H → Nat
  | (.string bytes, d) => bytes.length + uptoBulk d + 1
  | (_, d) => uptoBulk d + 1
 end
def uptoSmall : (H : Type) → List (DataW H) → Bool := fun _ ds => decide (uptoBulkAll ds ≤ 1048576)
def OpenSpec.upto (s : _root_.Go.ChangeSpec) : _root_.Go.OpenSpec := { _root_.Go.OpenSpec.ofChange s with cond := some uptoSmall }

/-- 'gazetteerlaw08.DirsLays', WHERE WHAT IT READS IS OF BULK AT MOST 1048576: true; the input reads as it did. -/
def dirsLaysUptoRow : OpenClaim := { program := "ytgnghnekckhcdaa", sum := "116ac197e01629ed800fd888a8ce7841bdd07c2623f91822ea457bb890acdd23", func := "gazetteer/gazetteerlaw08.DirsLays", spec := "dirsLays", unfollowed := true, recurses := true, apart := false, narrowed := true }
def DirsLaysUptoSaid : Prop := dirsLaysUptoRow.holds Try.pinned (OpenSpec.upto dirsLaysSpec)

/-- 'gazetteerlaw08.DirsTakes', WHERE WHAT IT READS IS OF BULK AT MOST 1048576: true; the input reads as it did. -/
def dirsTakesUptoRow : OpenClaim := { program := "ytgnghnekckhcdaa", sum := "116ac197e01629ed800fd888a8ce7841bdd07c2623f91822ea457bb890acdd23", func := "gazetteer/gazetteerlaw08.DirsTakes", spec := "dirsTakes", unfollowed := true, recurses := true, apart := false, narrowed := true }
def DirsTakesUptoSaid : Prop := dirsTakesUptoRow.holds Try.pinned (OpenSpec.upto dirsTakesSpec)

/-- 'gazetteerlaw08.DirsBack', WHERE WHAT IT READS IS OF BULK AT MOST 1048576: true; the input reads as it did. -/
def dirsBackUptoRow : OpenClaim := { program := "ytgnghnekckhcdaa", sum := "116ac197e01629ed800fd888a8ce7841bdd07c2623f91822ea457bb890acdd23", func := "gazetteer/gazetteerlaw08.DirsBack", spec := "dirsBack", unfollowed := true, recurses := true, apart := false, narrowed := true }
def DirsBackUptoSaid : Prop := dirsBackUptoRow.holds Try.pinned (OpenSpec.upto dirsBackSpec)

/-- 'gazetteerlaw08.DirsCut', WHERE WHAT IT READS IS OF BULK AT MOST 1048576: true; the input reads as it did. -/
def dirsCutUptoRow : OpenClaim := { program := "ytgnghnekckhcdaa", sum := "116ac197e01629ed800fd888a8ce7841bdd07c2623f91822ea457bb890acdd23", func := "gazetteer/gazetteerlaw08.DirsCut", spec := "dirsCut", unfollowed := true, recurses := true, apart := false, narrowed := true }
def DirsCutUptoSaid : Prop := dirsCutUptoRow.holds Try.pinned (OpenSpec.upto dirsCutSpec)

/-- 'gazetteerlaw08.DirsEach', WHERE WHAT IT READS IS OF BULK AT MOST 1048576: true; the input reads as it did. -/
def dirsEachUptoRow : OpenClaim := { program := "ytgnghnekckhcdaa", sum := "116ac197e01629ed800fd888a8ce7841bdd07c2623f91822ea457bb890acdd23", func := "gazetteer/gazetteerlaw08.DirsEach", spec := "dirsEach", inPlace := ["internal/abi.NoEscape", "internal/bytealg.MakeNoZero"], unfollowed := true, recurses := true, apart := false, narrowed := true }
def DirsEachUptoSaid : Prop := dirsEachUptoRow.holds Try.pinned (OpenSpec.upto dirsEachSpec)

end Rows
end Go.Proofs.Ytgnghnekckhcdaa
