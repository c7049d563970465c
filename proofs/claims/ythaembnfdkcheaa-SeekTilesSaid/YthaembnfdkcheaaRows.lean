/-
  No cell of these rows narrows 'for every input' (looked for: loops, veiled, ifaces, maps, wideKeys, modest, calm, conditions, laid).
  DERIVED. THE GIVEN ROWS OF THIS SEAT. 4 by the template 'for every input the law returns true; each argument reads behind the call as it read before'; 0 by the template 'total and deterministic' (their statements: YthaembnfdkcheaaTotals.lean).
  GIVEN WITH THE SEED: the statements are not yours to turn. If you find one false, say at which input.
  Laid BY PROGRAM, IN A SANDBOX (cutbox-rows.mjs): the forced cells as the released guide's own fill.sh prints them over the translation c023420aeef996f6… (all of the seat's roots in one cut). By AI agents, Wed Nov 11 2026. No macro, syntax, notation, axiom, sorry.
-/
import Derived.Test.YthaembnfdkcheaaChecked
import GoSem.Claim
import GoSem.ClaimJoined
import GoSem.ClaimMapViews
import Derived.JoinedTies
import Derived.KernelRfl
namespace Go.Proofs.Ythaembnfdkcheaa
/- THE CELL 'sum', in the pinned program and in every row, IS THE sha256 OF THE DUMP (.gsa) THAT YthaembnfdkcheaaProg.lean LOADS. Nothing in Lean hashes anything: it is a label: what it is worth is what the hold of that sum in a sandbox is worth. -/
noncomputable def Try.pinned : Pinned := { name := "ythaembnfdkcheaa", sum := "c023420aeef996f6468d9a91f55fafae0cd48f2a9bc93dd6e8796ffa3c7ad222", checked := Try.checked }
namespace Rows
def none {H : Type} : Left H := { results := [], args := [] }

/-- 'gazetteerlaw09.SeekTells': WHATEVER THE INPUT: true; the input reads as it did. -/
def seekTellsSpec : ChangeSpec := { name := "seekTells", fn := fun _ => fun
  | [d1, d2] => { results := [.lit (.bool true)], args := [d1, d2] }
  | _ => none }
def seekTellsRow : OpenClaim := { program := "ythaembnfdkcheaa", sum := "c023420aeef996f6468d9a91f55fafae0cd48f2a9bc93dd6e8796ffa3c7ad222", func := "gazetteer/gazetteerlaw09.SeekTells", spec := "seekTells", unfollowed := true, recurses := true, apart := false }
def SeekTellsSaid : Prop := seekTellsRow.holds Try.pinned (OpenSpec.ofChange seekTellsSpec)

/-- ITS FALSE NEIGHBOUR: 'it returns false'. Refute it at one input. -/
def seekTellsWrong : ChangeSpec := { name := "seekTells", fn := fun _ => fun
  | [d1, d2] => { results := [.lit (.bool false)], args := [d1, d2] }
  | _ => none }
def SeekTellsWrongFalsely : Prop := seekTellsRow.holds Try.pinned (OpenSpec.ofChange seekTellsWrong)

/-- 'gazetteerlaw09.SeekHas': WHATEVER THE INPUT: true; the input reads as it did. -/
def seekHasSpec : ChangeSpec := { name := "seekHas", fn := fun _ => fun
  | [d1, d2] => { results := [.lit (.bool true)], args := [d1, d2] }
  | _ => none }
def seekHasRow : OpenClaim := { program := "ythaembnfdkcheaa", sum := "c023420aeef996f6468d9a91f55fafae0cd48f2a9bc93dd6e8796ffa3c7ad222", func := "gazetteer/gazetteerlaw09.SeekHas", spec := "seekHas", unfollowed := true, recurses := true, apart := false }
def SeekHasSaid : Prop := seekHasRow.holds Try.pinned (OpenSpec.ofChange seekHasSpec)

/-- ITS FALSE NEIGHBOUR: 'it returns false'. Refute it at one input. -/
def seekHasWrong : ChangeSpec := { name := "seekHas", fn := fun _ => fun
  | [d1, d2] => { results := [.lit (.bool false)], args := [d1, d2] }
  | _ => none }
def SeekHasWrongFalsely : Prop := seekHasRow.holds Try.pinned (OpenSpec.ofChange seekHasWrong)

/-- 'gazetteerlaw09.SeekTiles': WHATEVER THE INPUT: true; the input reads as it did. -/
def seekTilesSpec : ChangeSpec := { name := "seekTiles", fn := fun _ => fun
  | [d1, d2] => { results := [.lit (.bool true)], args := [d1, d2] }
  | _ => none }
def seekTilesRow : OpenClaim := { program := "ythaembnfdkcheaa", sum := "c023420aeef996f6468d9a91f55fafae0cd48f2a9bc93dd6e8796ffa3c7ad222", func := "gazetteer/gazetteerlaw09.SeekTiles", spec := "seekTiles", unfollowed := true, recurses := true, apart := false }
def SeekTilesSaid : Prop := seekTilesRow.holds Try.pinned (OpenSpec.ofChange seekTilesSpec)

/-- ITS FALSE NEIGHBOUR: 'it returns false'. Refute it at one input. -/
def seekTilesWrong : ChangeSpec := { name := "seekTiles", fn := fun _ => fun
  | [d1, d2] => { results := [.lit (.bool false)], args := [d1, d2] }
  | _ => none }
def SeekTilesWrongFalsely : Prop := seekTilesRow.holds Try.pinned (OpenSpec.ofChange seekTilesWrong)

/-- 'gazetteerlaw09.SeekParts': WHATEVER THE INPUT: true; the input reads as it did. -/
def seekPartsSpec : ChangeSpec := { name := "seekParts", fn := fun _ => fun
  | [d1, d2] => { results := [.lit (.bool true)], args := [d1, d2] }
  | _ => none }
def seekPartsRow : OpenClaim := { program := "ythaembnfdkcheaa", sum := "c023420aeef996f6468d9a91f55fafae0cd48f2a9bc93dd6e8796ffa3c7ad222", func := "gazetteer/gazetteerlaw09.SeekParts", spec := "seekParts", unfollowed := true, recurses := true, apart := false }
def SeekPartsSaid : Prop := seekPartsRow.holds Try.pinned (OpenSpec.ofChange seekPartsSpec)

/-- ITS FALSE NEIGHBOUR: 'it returns false'. Refute it at one input. -/
def seekPartsWrong : ChangeSpec := { name := "seekParts", fn := fun _ => fun
  | [d1, d2] => { results := [.lit (.bool false)], args := [d1, d2] }
  | _ => none }
def SeekPartsWrongFalsely : Prop := seekPartsRow.holds Try.pinned (OpenSpec.ofChange seekPartsWrong)

/- THE SECOND FORM. 'bulk': how many values and letters a reading holds, each counted each time it is reached (what is shared counts as often as it is met; a slice's spare places count too). A statement '..UptoSaid' is the law's where the arguments, and the package variables that the reading takes, are together of bulk at most 1048576: NARROWER than '..Said'. Prove '..Said' where nothing that the law and all that it calls make is longer than what came in: it says more and counts as full. Else prove '..UptoSaid'. A law counts once. -/
mutual
def uptoBulk {H : Type} : DataW H → Nat
  | .lit (.string bytes) => bytes.length + 1
  | .lit _ => 1
  | .nil => 1
  | .ptr d => uptoBulk d + 1
  | .slice elems spare => uptoBulkAll elems + uptoBulkAll spare + 1
  | .agg parts => uptoBulkAll parts + 1
  | .iface _ d => uptoBulk d + 1
  | .map entries => uptoBulkEntries entries + 1
  | .held _ => 1
def uptoBulkAll {H : Type} : List (DataW H) → Nat
  | [] => 0
  | d :: r => uptoBulk d + uptoBulkAll r
def uptoBulkEntries {H : Type} : List (Lit × DataW H) → Nat
  | [] => 0
  | x :: r => uptoBulkEntry x + uptoBulkEntries r
def uptoBulkEntry {H : Type} : Lit × DataW H → Nat
  | (.string bytes, d) => bytes.length + uptoBulk d + 1
  | (_, d) => uptoBulk d + 1
 end
def uptoSmall : (H : Type) → List (DataW H) → Bool := fun _ ds => decide (uptoBulkAll ds ≤ 1048576)
def OpenSpec.upto (s : _root_.Go.ChangeSpec) : _root_.Go.OpenSpec := { _root_.Go.OpenSpec.ofChange s with cond := some uptoSmall }

/-- 'gazetteerlaw09.SeekTells', WHERE WHAT IT READS IS OF BULK AT MOST 1048576: true; the input reads as it did. -/
def seekTellsUptoRow : OpenClaim := { program := "ythaembnfdkcheaa", sum := "c023420aeef996f6468d9a91f55fafae0cd48f2a9bc93dd6e8796ffa3c7ad222", func := "gazetteer/gazetteerlaw09.SeekTells", spec := "seekTells", unfollowed := true, recurses := true, apart := false, narrowed := true }
def SeekTellsUptoSaid : Prop := seekTellsUptoRow.holds Try.pinned (OpenSpec.upto seekTellsSpec)

/-- 'gazetteerlaw09.SeekHas', WHERE WHAT IT READS IS OF BULK AT MOST 1048576: true; the input reads as it did. -/
def seekHasUptoRow : OpenClaim := { program := "ythaembnfdkcheaa", sum := "c023420aeef996f6468d9a91f55fafae0cd48f2a9bc93dd6e8796ffa3c7ad222", func := "gazetteer/gazetteerlaw09.SeekHas", spec := "seekHas", unfollowed := true, recurses := true, apart := false, narrowed := true }
def SeekHasUptoSaid : Prop := seekHasUptoRow.holds Try.pinned (OpenSpec.upto seekHasSpec)

/-- 'gazetteerlaw09.SeekTiles', WHERE WHAT IT READS IS OF BULK AT MOST 1048576: true; the input reads as it did. -/
def seekTilesUptoRow : OpenClaim := { program := "ythaembnfdkcheaa", sum := "c023420aeef996f6468d9a91f55fafae0cd48f2a9bc93dd6e8796ffa3c7ad222", func := "gazetteer/gazetteerlaw09.SeekTiles", spec := "seekTiles", unfollowed := true, recurses := true, apart := false, narrowed := true }
def SeekTilesUptoSaid : Prop := seekTilesUptoRow.holds Try.pinned (OpenSpec.upto seekTilesSpec)

/-- 'gazetteerlaw09.SeekParts', WHERE WHAT IT READS IS OF BULK AT MOST 1048576: true; the input reads as it did. -/
def seekPartsUptoRow : OpenClaim := { program := "ythaembnfdkcheaa", sum := "c023420aeef996f6468d9a91f55fafae0cd48f2a9bc93dd6e8796ffa3c7ad222", func := "gazetteer/gazetteerlaw09.SeekParts", spec := "seekParts", unfollowed := true, recurses := true, apart := false, narrowed := true }
def SeekPartsUptoSaid : Prop := seekPartsUptoRow.holds Try.pinned (OpenSpec.upto seekPartsSpec)

end Rows
end Go.Proofs.Ythaembnfdkcheaa
