/-
  No cell of these rows narrows 'for every input' (looked for: loops, veiled, ifaces, maps, wideKeys, modest, calm, conditions, laid).
  DERIVED. THE GIVEN ROWS OF THIS SEAT. 5 by the template 'for every input the law returns true; each argument reads behind the call as it read before'; 0 by the template 'total and deterministic' (their statements: YtodjdeilaimjaaaTotals.lean).
  GIVEN WITH THE SEED: the statements are not yours to turn. If you find one false, say at which input.
  Laid BY PROGRAM, IN A SANDBOX (cutbox-rows.mjs): the forced cells as the released guide's own fill.sh prints them over the translation 0c2174f6a42cbfbd… (all of the seat's roots in one cut). By AI agents, Wed Nov 11 2026. No macro, syntax, notation, axiom, sorry.
-/
import Derived.Test.YtodjdeilaimjaaaChecked
import GoSem.Claim
import GoSem.ClaimJoined
import GoSem.ClaimMapViews
import Derived.JoinedTies
import Derived.KernelRfl
namespace Go.Proofs.Ytodjdeilaimjaaa
/- THE CELL 'sum', in the pinned program and in every row, IS THE sha256 OF THE DUMP (.gsa) THAT YtodjdeilaimjaaaProg.lean LOADS. Nothing in Lean hashes anything: it is a label: what it is worth is what the hold of that sum in a sandbox is worth. -/
noncomputable def Try.pinned : Pinned := { name := "ytodjdeilaimjaaa", sum := "0c2174f6a42cbfbdc3a860886cb0cc8e6ff03e2b03ae6bedc568f19a11634983", checked := Try.checked }
namespace Rows
def none {H : Type} : Left H := { results := [], args := [] }

/-- 'gazetteerlaw06.HeaderTells': WHATEVER THE INPUT: true; the input reads as it did. -/
def headerTellsSpec : ChangeSpec := { name := "headerTells", fn := fun _ => fun
  | [d1, d2] => { results := [.lit (.bool true)], args := [d1, d2] }
  | _ => none }
def headerTellsRow : OpenClaim := { program := "ytodjdeilaimjaaa", sum := "0c2174f6a42cbfbdc3a860886cb0cc8e6ff03e2b03ae6bedc568f19a11634983", func := "gazetteer/gazetteerlaw06.HeaderTells", spec := "headerTells", unfollowed := true, recurses := true, apart := false }
def HeaderTellsSaid : Prop := headerTellsRow.holds Try.pinned (OpenSpec.ofChange headerTellsSpec)

/-- ITS FALSE NEIGHBOUR: 'it returns false'. Refute it at one input. -/
def headerTellsWrong : ChangeSpec := { name := "headerTells", fn := fun _ => fun
  | [d1, d2] => { results := [.lit (.bool false)], args := [d1, d2] }
  | _ => none }
def HeaderTellsWrongFalsely : Prop := headerTellsRow.holds Try.pinned (OpenSpec.ofChange headerTellsWrong)

/-- 'gazetteerlaw06.HeaderTakes': WHATEVER THE INPUT: true; the input reads as it did. -/
def headerTakesSpec : ChangeSpec := { name := "headerTakes", fn := fun _ => fun
  | [d] => { results := [.lit (.bool true)], args := [d] }
  | _ => none }
def headerTakesRow : OpenClaim := { program := "ytodjdeilaimjaaa", sum := "0c2174f6a42cbfbdc3a860886cb0cc8e6ff03e2b03ae6bedc568f19a11634983", func := "gazetteer/gazetteerlaw06.HeaderTakes", spec := "headerTakes", unfollowed := true, recurses := true, apart := false }
def HeaderTakesSaid : Prop := headerTakesRow.holds Try.pinned (OpenSpec.ofChange headerTakesSpec)

/-- ITS FALSE NEIGHBOUR: 'it returns false'. Refute it at one input. -/
def headerTakesWrong : ChangeSpec := { name := "headerTakes", fn := fun _ => fun
  | [d] => { results := [.lit (.bool false)], args := [d] }
  | _ => none }
def HeaderTakesWrongFalsely : Prop := headerTakesRow.holds Try.pinned (OpenSpec.ofChange headerTakesWrong)

/-- 'gazetteerlaw06.HeaderBack': WHATEVER THE INPUT: true; the input reads as it did. -/
def headerBackSpec : ChangeSpec := { name := "headerBack", fn := fun _ => fun
  | [d1, d2] => { results := [.lit (.bool true)], args := [d1, d2] }
  | _ => none }
def headerBackRow : OpenClaim := { program := "ytodjdeilaimjaaa", sum := "0c2174f6a42cbfbdc3a860886cb0cc8e6ff03e2b03ae6bedc568f19a11634983", func := "gazetteer/gazetteerlaw06.HeaderBack", spec := "headerBack", unfollowed := true, recurses := true, apart := false }
def HeaderBackSaid : Prop := headerBackRow.holds Try.pinned (OpenSpec.ofChange headerBackSpec)

/-- ITS FALSE NEIGHBOUR: 'it returns false'. Refute it at one input. -/
def headerBackWrong : ChangeSpec := { name := "headerBack", fn := fun _ => fun
  | [d1, d2] => { results := [.lit (.bool false)], args := [d1, d2] }
  | _ => none }
def HeaderBackWrongFalsely : Prop := headerBackRow.holds Try.pinned (OpenSpec.ofChange headerBackWrong)

/-- 'gazetteerlaw06.HeaderBit': WHATEVER THE INPUT: true; the input reads as it did. -/
def headerBitSpec : ChangeSpec := { name := "headerBit", fn := fun _ => fun
  | [d1, d2, d3] => { results := [.lit (.bool true)], args := [d1, d2, d3] }
  | _ => none }
def headerBitRow : OpenClaim := { program := "ytodjdeilaimjaaa", sum := "0c2174f6a42cbfbdc3a860886cb0cc8e6ff03e2b03ae6bedc568f19a11634983", func := "gazetteer/gazetteerlaw06.HeaderBit", spec := "headerBit", unfollowed := true, recurses := true, apart := false }
def HeaderBitSaid : Prop := headerBitRow.holds Try.pinned (OpenSpec.ofChange headerBitSpec)

/-- ITS FALSE NEIGHBOUR: 'it returns false'. Refute it at one input. -/
def headerBitWrong : ChangeSpec := { name := "headerBit", fn := fun _ => fun
  | [d1, d2, d3] => { results := [.lit (.bool false)], args := [d1, d2, d3] }
  | _ => none }
def HeaderBitWrongFalsely : Prop := headerBitRow.holds Try.pinned (OpenSpec.ofChange headerBitWrong)

/-- 'gazetteerlaw06.HeaderLaid': WHATEVER THE INPUT: true; the input reads as it did. -/
def headerLaidSpec : ChangeSpec := { name := "headerLaid", fn := fun _ => fun
  | [d1, d2, d3] => { results := [.lit (.bool true)], args := [d1, d2, d3] }
  | _ => none }
def headerLaidRow : OpenClaim := { program := "ytodjdeilaimjaaa", sum := "0c2174f6a42cbfbdc3a860886cb0cc8e6ff03e2b03ae6bedc568f19a11634983", func := "gazetteer/gazetteerlaw06.HeaderLaid", spec := "headerLaid", unfollowed := true, recurses := true, apart := false }
def HeaderLaidSaid : Prop := headerLaidRow.holds Try.pinned (OpenSpec.ofChange headerLaidSpec)

/-- ITS FALSE NEIGHBOUR: 'it returns false'. Refute it at one input. -/
def headerLaidWrong : ChangeSpec := { name := "headerLaid", fn := fun _ => fun
  | [d1, d2, d3] => { results := [.lit (.bool false)], args := [d1, d2, d3] }
  | _ => none }
def HeaderLaidWrongFalsely : Prop := headerLaidRow.holds Try.pinned (OpenSpec.ofChange headerLaidWrong)

/- THE SECOND FORM. 'bulk': how many values and letters a reading holds, each counted each time it is reached (what is shared counts as often as it is met; a slice's spare places count too). A statement '..UptoSaid' is the law's where the arguments, and the package variables that the reading takes, are together of bulk at most 1048576: NARROWER than '..Said'. Prove '..Said' where nothing that the law and all that it calls make is longer than what came in: it says more and counts as full. Else prove '..UptoSaid'. A law counts once. -/
mutual
def uptoBulk {H : Type} : DataW H → Nat
  | .lit (.string bytes) => bytes.length + 1
  | .lit _ => 1
  | .nil => 1
  | .ptr d => uptoBulk d + 1
  | .slice elems spare => uptoBulkAll elems + uptoBulkAll spare + 1
  | .agg parts => uptoBulkAll parts + 1
  | .iface _ d => uptoBulk d + 1
  | .map entries => uptoBulkEntries entries + 1
  | .held _ => 1
def uptoBulkAll {H : Type} : List (DataW H) → Nat
  | [] => 0
  | d :: r => uptoBulk d + uptoBulkAll r
def uptoBulkEntries {H : Type} : List (Lit × DataW H) → Nat
  | [] => 0
  | x :: r => uptoBulkEntry x + uptoBulkEntries r
def uptoBulkEntry {H : Type} : Lit × DataW H → Nat
  | (.string bytes, d) => bytes.length + uptoBulk d + 1
  | (_, d) => uptoBulk d + 1
 end
def uptoSmall : (H : Type) → List (DataW H) → Bool := fun _ ds => decide (uptoBulkAll ds ≤ 1048576)
def OpenSpec.upto (s : _root_.Go.ChangeSpec) : _root_.Go.OpenSpec := { _root_.Go.OpenSpec.ofChange s with cond := some uptoSmall }

/-- 'gazetteerlaw06.HeaderTells', WHERE WHAT IT READS IS OF BULK AT MOST 1048576: true; the input reads as it did. -/
def headerTellsUptoRow : OpenClaim := { program := "ytodjdeilaimjaaa", sum := "0c2174f6a42cbfbdc3a860886cb0cc8e6ff03e2b03ae6bedc568f19a11634983", func := "gazetteer/gazetteerlaw06.HeaderTells", spec := "headerTells", unfollowed := true, recurses := true, apart := false, narrowed := true }
def HeaderTellsUptoSaid : Prop := headerTellsUptoRow.holds Try.pinned (OpenSpec.upto headerTellsSpec)

/-- 'gazetteerlaw06.HeaderTakes', WHERE WHAT IT READS IS OF BULK AT MOST 1048576: true; the input reads as it did. -/
def headerTakesUptoRow : OpenClaim := { program := "ytodjdeilaimjaaa", sum := "0c2174f6a42cbfbdc3a860886cb0cc8e6ff03e2b03ae6bedc568f19a11634983", func := "gazetteer/gazetteerlaw06.HeaderTakes", spec := "headerTakes", unfollowed := true, recurses := true, apart := false, narrowed := true }
def HeaderTakesUptoSaid : Prop := headerTakesUptoRow.holds Try.pinned (OpenSpec.upto headerTakesSpec)

/-- 'gazetteerlaw06.HeaderBack', WHERE WHAT IT READS IS OF BULK AT MOST 1048576: true; the input reads as it did. -/
def headerBackUptoRow : OpenClaim := { program := "ytodjdeilaimjaaa", sum := "0c2174f6a42cbfbdc3a860886cb0cc8e6ff03e2b03ae6bedc568f19a11634983", func := "gazetteer/gazetteerlaw06.HeaderBack", spec := "headerBack", unfollowed := true, recurses := true, apart := false, narrowed := true }
def HeaderBackUptoSaid : Prop := headerBackUptoRow.holds Try.pinned (OpenSpec.upto headerBackSpec)

/-- 'gazetteerlaw06.HeaderBit', WHERE WHAT IT READS IS OF BULK AT MOST 1048576: true; the input reads as it did. -/
def headerBitUptoRow : OpenClaim := { program := "ytodjdeilaimjaaa", sum := "0c2174f6a42cbfbdc3a860886cb0cc8e6ff03e2b03ae6bedc568f19a11634983", func := "gazetteer/gazetteerlaw06.HeaderBit", spec := "headerBit", unfollowed := true, recurses := true, apart := false, narrowed := true }
def HeaderBitUptoSaid : Prop := headerBitUptoRow.holds Try.pinned (OpenSpec.upto headerBitSpec)

/-- 'gazetteerlaw06.HeaderLaid', WHERE WHAT IT READS IS OF BULK AT MOST 1048576: true; the input reads as it did. -/
def headerLaidUptoRow : OpenClaim := { program := "ytodjdeilaimjaaa", sum := "0c2174f6a42cbfbdc3a860886cb0cc8e6ff03e2b03ae6bedc568f19a11634983", func := "gazetteer/gazetteerlaw06.HeaderLaid", spec := "headerLaid", unfollowed := true, recurses := true, apart := false, narrowed := true }
def HeaderLaidUptoSaid : Prop := headerLaidUptoRow.holds Try.pinned (OpenSpec.upto headerLaidSpec)

end Rows
end Go.Proofs.Ytodjdeilaimjaaa
