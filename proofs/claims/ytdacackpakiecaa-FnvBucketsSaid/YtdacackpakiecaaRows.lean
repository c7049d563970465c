/-
  No cell of these rows narrows 'for every input' (looked for: loops, veiled, ifaces, maps, wideKeys, modest, calm, conditions, laid).
  DERIVED. THE GIVEN ROWS OF THIS SEAT. 4 by the template 'for every input the law returns true; each argument reads behind the call as it read before'; 0 by the template 'total and deterministic' (their statements: YtdacackpakiecaaTotals.lean).
  GIVEN WITH THE SEED: the statements are not yours to turn. If you find one false, say at which input.
  Laid BY PROGRAM, IN A SANDBOX (cutbox-rows.mjs): the forced cells as the released guide's own fill.sh prints them over the translation e9f944fd30a9ca93… (all of the seat's roots in one cut). By AI agents, Wed Nov 11 2026. No macro, syntax, notation, axiom, sorry.
-/
import Derived.Test.YtdacackpakiecaaChecked
import GoSem.Claim
import GoSem.ClaimJoined
import GoSem.ClaimMapViews
import Derived.JoinedTies
import Derived.KernelRfl
namespace Go.Proofs.Ytdacackpakiecaa
/- THE CELL 'sum', in the pinned program and in every row, IS THE sha256 OF THE DUMP (.gsa) THAT YtdacackpakiecaaProg.lean LOADS. Nothing in Lean hashes anything: it is a label: what it is worth is what the hold of that sum in a sandbox is worth. -/
noncomputable def Try.pinned : Pinned := { name := "ytdacackpakiecaa", sum := "e9f944fd30a9ca93c0b0dfa359d9592e9f77b1dc60ea4a8b84a05c03f84dea23", checked := Try.checked }
namespace Rows
def none {H : Type} : Left H := { results := [], args := [] }

/-- 'gazetteerlaw10.FnvTells': WHATEVER THE INPUT: true; the input reads as it did. -/
def fnvTellsSpec : ChangeSpec := { name := "fnvTells", fn := fun _ => fun
  | [d1, d2, d3] => { results := [.lit (.bool true)], args := [d1, d2, d3] }
  | _ => none }
def fnvTellsRow : OpenClaim := { program := "ytdacackpakiecaa", sum := "e9f944fd30a9ca93c0b0dfa359d9592e9f77b1dc60ea4a8b84a05c03f84dea23", func := "gazetteer/gazetteerlaw10.FnvTells", spec := "fnvTells", unfollowed := true, recurses := true, apart := false }
def FnvTellsSaid : Prop := fnvTellsRow.holds Try.pinned (OpenSpec.ofChange fnvTellsSpec)

/-- ITS FALSE NEIGHBOUR: 'it returns false'. Refute it at one input. -/
def fnvTellsWrong : ChangeSpec := { name := "fnvTells", fn := fun _ => fun
  | [d1, d2, d3] => { results := [.lit (.bool false)], args := [d1, d2, d3] }
  | _ => none }
def FnvTellsWrongFalsely : Prop := fnvTellsRow.holds Try.pinned (OpenSpec.ofChange fnvTellsWrong)

/-- 'gazetteerlaw10.FnvParts': WHATEVER THE INPUT: true; the input reads as it did. -/
def fnvPartsSpec : ChangeSpec := { name := "fnvParts", fn := fun _ => fun
  | [d1, d2] => { results := [.lit (.bool true)], args := [d1, d2] }
  | _ => none }
def fnvPartsRow : OpenClaim := { program := "ytdacackpakiecaa", sum := "e9f944fd30a9ca93c0b0dfa359d9592e9f77b1dc60ea4a8b84a05c03f84dea23", func := "gazetteer/gazetteerlaw10.FnvParts", spec := "fnvParts", unfollowed := true, recurses := true, apart := false }
def FnvPartsSaid : Prop := fnvPartsRow.holds Try.pinned (OpenSpec.ofChange fnvPartsSpec)

/-- ITS FALSE NEIGHBOUR: 'it returns false'. Refute it at one input. -/
def fnvPartsWrong : ChangeSpec := { name := "fnvParts", fn := fun _ => fun
  | [d1, d2] => { results := [.lit (.bool false)], args := [d1, d2] }
  | _ => none }
def FnvPartsWrongFalsely : Prop := fnvPartsRow.holds Try.pinned (OpenSpec.ofChange fnvPartsWrong)

/-- 'gazetteerlaw10.FnvUnlike': WHATEVER THE INPUT: true; the input reads as it did. -/
def fnvUnlikeSpec : ChangeSpec := { name := "fnvUnlike", fn := fun _ => fun
  | [d1, d2, d3] => { results := [.lit (.bool true)], args := [d1, d2, d3] }
  | _ => none }
def fnvUnlikeRow : OpenClaim := { program := "ytdacackpakiecaa", sum := "e9f944fd30a9ca93c0b0dfa359d9592e9f77b1dc60ea4a8b84a05c03f84dea23", func := "gazetteer/gazetteerlaw10.FnvUnlike", spec := "fnvUnlike", unfollowed := true, recurses := true, apart := false }
def FnvUnlikeSaid : Prop := fnvUnlikeRow.holds Try.pinned (OpenSpec.ofChange fnvUnlikeSpec)

/-- ITS FALSE NEIGHBOUR: 'it returns false'. Refute it at one input. -/
def fnvUnlikeWrong : ChangeSpec := { name := "fnvUnlike", fn := fun _ => fun
  | [d1, d2, d3] => { results := [.lit (.bool false)], args := [d1, d2, d3] }
  | _ => none }
def FnvUnlikeWrongFalsely : Prop := fnvUnlikeRow.holds Try.pinned (OpenSpec.ofChange fnvUnlikeWrong)

/-- 'gazetteerlaw10.FnvBuckets': WHATEVER THE INPUT: true; the input reads as it did. -/
def fnvBucketsSpec : ChangeSpec := { name := "fnvBuckets", fn := fun _ => fun
  | [d1, d2] => { results := [.lit (.bool true)], args := [d1, d2] }
  | _ => none }
def fnvBucketsRow : OpenClaim := { program := "ytdacackpakiecaa", sum := "e9f944fd30a9ca93c0b0dfa359d9592e9f77b1dc60ea4a8b84a05c03f84dea23", func := "gazetteer/gazetteerlaw10.FnvBuckets", spec := "fnvBuckets", unfollowed := true, recurses := true, apart := false }
def FnvBucketsSaid : Prop := fnvBucketsRow.holds Try.pinned (OpenSpec.ofChange fnvBucketsSpec)

/-- ITS FALSE NEIGHBOUR: 'it returns false'. Refute it at one input. -/
def fnvBucketsWrong : ChangeSpec := { name := "fnvBuckets", fn := fun _ => fun
  | [d1, d2] => { results := [.lit (.bool false)], args := [d1, d2] }
  | _ => none }
def FnvBucketsWrongFalsely : Prop := fnvBucketsRow.holds Try.pinned (OpenSpec.ofChange fnvBucketsWrong)

/- THE SECOND FORM. 'bulk': how many values and letters a reading holds, each counted each time it is reached (what is shared counts as often as it is met; a slice's spare places count too). A statement '..UptoSaid' is the law's where the arguments, and the package variables that the reading takes, are together of bulk at most 1048576: NARROWER than '..Said'. Prove '..Said' where nothing that the law and all that it calls make is longer than what came in: it says more and counts as full. Else prove '..UptoSaid'. A law counts once. -/
mutual
def uptoBulk {H : Type} : DataW H → Nat
  | .lit (.string bytes) => bytes.length + 1
  | .lit _ => 1
  | .nil => 1
  | .ptr d => uptoBulk d + 1
  | .slice elems spare => uptoBulkAll elems + uptoBulkAll spare + 1
  | .agg parts => uptoBulkAll parts + 1
  | .iface _ d => uptoBulk d + 1
  | .map entries => uptoBulkEntries entries + 1
  | .held _ => 1
def uptoBulkAll {H : Type} : List (DataW H) → Nat
  | [] => 0
  | d :: r => uptoBulk d + uptoBulkAll r
def uptoBulkEntries {H : Type} : List (Lit × DataW H) → Nat
  | [] => 0
  | x :: r => uptoBulkEntry x + uptoBulkEntries r
def uptoBulkEntry {H : Type} : Lit × DataW H → Nat
  | (.string bytes, d) => bytes.length + uptoBulk d + 1
  | (_, d) => uptoBulk d + 1
 end
def uptoSmall : (H : Type) → List (DataW H) → Bool := fun _ ds => decide (uptoBulkAll ds ≤ 1048576)
def OpenSpec.upto (s : _root_.Go.ChangeSpec) : _root_.Go.OpenSpec := { _root_.Go.OpenSpec.ofChange s with cond := some uptoSmall }

/-- 'gazetteerlaw10.FnvTells', WHERE WHAT IT READS IS OF BULK AT MOST 1048576: true; the input reads as it did. -/
def fnvTellsUptoRow : OpenClaim := { program := "ytdacackpakiecaa", sum := "e9f944fd30a9ca93c0b0dfa359d9592e9f77b1dc60ea4a8b84a05c03f84dea23", func := "gazetteer/gazetteerlaw10.FnvTells", spec := "fnvTells", unfollowed := true, recurses := true, apart := false, narrowed := true }
def FnvTellsUptoSaid : Prop := fnvTellsUptoRow.holds Try.pinned (OpenSpec.upto fnvTellsSpec)

/-- 'gazetteerlaw10.FnvParts', WHERE WHAT IT READS IS OF BULK AT MOST 1048576: true; the input reads as it did. -/
def fnvPartsUptoRow : OpenClaim := { program := "ytdacackpakiecaa", sum := "e9f944fd30a9ca93c0b0dfa359d9592e9f77b1dc60ea4a8b84a05c03f84dea23", func := "gazetteer/gazetteerlaw10.FnvParts", spec := "fnvParts", unfollowed := true, recurses := true, apart := false, narrowed := true }
def FnvPartsUptoSaid : Prop := fnvPartsUptoRow.holds Try.pinned (OpenSpec.upto fnvPartsSpec)

/-- 'gazetteerlaw10.FnvUnlike', WHERE WHAT IT READS IS OF BULK AT MOST 1048576: true; the input reads as it did. -/
def fnvUnlikeUptoRow : OpenClaim := { program := "ytdacackpakiecaa", sum := "e9f944fd30a9ca93c0b0dfa359d9592e9f77b1dc60ea4a8b84a05c03f84dea23", func := "gazetteer/gazetteerlaw10.FnvUnlike", spec := "fnvUnlike", unfollowed := true, recurses := true, apart := false, narrowed := true }
def FnvUnlikeUptoSaid : Prop := fnvUnlikeUptoRow.holds Try.pinned (OpenSpec.upto fnvUnlikeSpec)

/-- 'gazetteerlaw10.FnvBuckets', WHERE WHAT IT READS IS OF BULK AT MOST 1048576: true; the input reads as it did. -/
def fnvBucketsUptoRow : OpenClaim := { program := "ytdacackpakiecaa", sum := "e9f944fd30a9ca93c0b0dfa359d9592e9f77b1dc60ea4a8b84a05c03f84dea23", func := "gazetteer/gazetteerlaw10.FnvBuckets", spec := "fnvBuckets", unfollowed := true, recurses := true, apart := false, narrowed := true }
def FnvBucketsUptoSaid : Prop := fnvBucketsUptoRow.holds Try.pinned (OpenSpec.upto fnvBucketsSpec)

end Rows
end Go.Proofs.Ytdacackpakiecaa
