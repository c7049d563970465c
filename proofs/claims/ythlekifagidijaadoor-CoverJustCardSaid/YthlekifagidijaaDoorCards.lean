/-
  DERIVED. GIVEN WITH THE SEED: THE CARDS: each row of YthlekifagidijaaDoorRows.lean that lists a variable, with what it lists TIED to the program's text (the seventh form; the later family's looks); each row that meets fmt, with fmt's text TOLD by the authors' own Lean function (tested against real Go, not proved from fmt's source: count such statements apart). THE CARD IS WHAT COUNTS. Prove the row's statement (the work); the ties are given (YthlekifagidijaaDoorTie.lean); close each card by the builder's one call (the guide's Derived/Test/ToyasCard.lean, 'card_holds'). Laid BY PROGRAM, IN A SANDBOX (cutbox-door.mjs). By AI agents, Wed Nov 11 2026. No macro, syntax, notation, axiom, sorry.
-/
import Derived.Test.YthlekifagidijaaDoorRows
import GoSem.ClaimSeven
namespace Go.Proofs.YthlekifagidijaaDoor
namespace Rows

/-- THE TIED CARD OF 'gazetteerlaw05.CoverTells'. -/
def coverTellsCard : Claim7 := { stood := { row := coverTellsRow, standIns := [], harness := (true, "2f996a1db55584bf496b3d266df8ef455cf6bb0399a4e0a2aa2e96517ce85bdd"), looks := false }, kinds := [], alts := [], laidByText := true, laidKinds := [.wider], laidTests := true, laidLooks := .later }
def CoverTellsCardSaid : Prop := Claim7.holds Tryd.pinned (.plain (OpenSpec.ofChange coverTellsSpec)) coverTellsCard

/-- THE TIED CARD OF 'gazetteerlaw05.CoverLists'. -/
def coverListsCard : Claim7 := { stood := { row := coverListsRow, standIns := [], harness := (true, "2f996a1db55584bf496b3d266df8ef455cf6bb0399a4e0a2aa2e96517ce85bdd"), looks := false }, kinds := [], alts := [], laidByText := true, laidKinds := [.wider], laidTests := true, laidLooks := .later }
def CoverListsCardSaid : Prop := Claim7.holds Tryd.pinned (.plain (OpenSpec.ofChange coverListsSpec)) coverListsCard

/-- THE TIED CARD OF 'gazetteerlaw05.CoverJust'. -/
def coverJustCard : Claim7 := { stood := { row := coverJustRow, standIns := [], harness := (true, "2f996a1db55584bf496b3d266df8ef455cf6bb0399a4e0a2aa2e96517ce85bdd"), looks := false }, kinds := [], alts := [], laidByText := true, laidKinds := [.wider], laidTests := true, laidLooks := .later }
def CoverJustCardSaid : Prop := Claim7.holds Tryd.pinned (.plain (OpenSpec.ofChange coverJustSpec)) coverJustCard

/-- THE TIED CARD OF 'gazetteerlaw05.CoverUnion'. -/
def coverUnionCard : Claim7 := { stood := { row := coverUnionRow, standIns := [], harness := (true, "2f996a1db55584bf496b3d266df8ef455cf6bb0399a4e0a2aa2e96517ce85bdd"), looks := false }, kinds := [], alts := [], laidByText := true, laidKinds := [.wider], laidTests := true, laidLooks := .later }
def CoverUnionCardSaid : Prop := Claim7.holds Tryd.pinned (.plain (OpenSpec.ofChange coverUnionSpec)) coverUnionCard

/-- THE TIED CARD OF 'gazetteerlaw05.CoverParts'. -/
def coverPartsCard : Claim7 := { stood := { row := coverPartsRow, standIns := [], harness := (true, "2f996a1db55584bf496b3d266df8ef455cf6bb0399a4e0a2aa2e96517ce85bdd"), looks := false }, kinds := [], alts := [], laidByText := true, laidKinds := [.wider], laidTests := true, laidLooks := .later }
def CoverPartsCardSaid : Prop := Claim7.holds Tryd.pinned (.plain (OpenSpec.ofChange coverPartsSpec)) coverPartsCard

/-- THE SECOND FORM's CARD OF 'gazetteerlaw05.CoverTells'. -/
def coverTellsUptoCard : Claim7 := { stood := { row := coverTellsUptoRow, standIns := [], harness := (true, "2f996a1db55584bf496b3d266df8ef455cf6bb0399a4e0a2aa2e96517ce85bdd"), looks := false }, kinds := [], alts := [], laidByText := true, laidKinds := [.wider], laidTests := true, laidLooks := .later }
def CoverTellsUptoCardSaid : Prop := Claim7.holds Tryd.pinned (.plain (OpenSpec.upto coverTellsSpec)) coverTellsUptoCard

/-- THE SECOND FORM's CARD OF 'gazetteerlaw05.CoverLists'. -/
def coverListsUptoCard : Claim7 := { stood := { row := coverListsUptoRow, standIns := [], harness := (true, "2f996a1db55584bf496b3d266df8ef455cf6bb0399a4e0a2aa2e96517ce85bdd"), looks := false }, kinds := [], alts := [], laidByText := true, laidKinds := [.wider], laidTests := true, laidLooks := .later }
def CoverListsUptoCardSaid : Prop := Claim7.holds Tryd.pinned (.plain (OpenSpec.upto coverListsSpec)) coverListsUptoCard

/-- THE SECOND FORM's CARD OF 'gazetteerlaw05.CoverJust'. -/
def coverJustUptoCard : Claim7 := { stood := { row := coverJustUptoRow, standIns := [], harness := (true, "2f996a1db55584bf496b3d266df8ef455cf6bb0399a4e0a2aa2e96517ce85bdd"), looks := false }, kinds := [], alts := [], laidByText := true, laidKinds := [.wider], laidTests := true, laidLooks := .later }
def CoverJustUptoCardSaid : Prop := Claim7.holds Tryd.pinned (.plain (OpenSpec.upto coverJustSpec)) coverJustUptoCard

/-- THE SECOND FORM's CARD OF 'gazetteerlaw05.CoverUnion'. -/
def coverUnionUptoCard : Claim7 := { stood := { row := coverUnionUptoRow, standIns := [], harness := (true, "2f996a1db55584bf496b3d266df8ef455cf6bb0399a4e0a2aa2e96517ce85bdd"), looks := false }, kinds := [], alts := [], laidByText := true, laidKinds := [.wider], laidTests := true, laidLooks := .later }
def CoverUnionUptoCardSaid : Prop := Claim7.holds Tryd.pinned (.plain (OpenSpec.upto coverUnionSpec)) coverUnionUptoCard

/-- THE SECOND FORM's CARD OF 'gazetteerlaw05.CoverParts'. -/
def coverPartsUptoCard : Claim7 := { stood := { row := coverPartsUptoRow, standIns := [], harness := (true, "2f996a1db55584bf496b3d266df8ef455cf6bb0399a4e0a2aa2e96517ce85bdd"), looks := false }, kinds := [], alts := [], laidByText := true, laidKinds := [.wider], laidTests := true, laidLooks := .later }
def CoverPartsUptoCardSaid : Prop := Claim7.holds Tryd.pinned (.plain (OpenSpec.upto coverPartsSpec)) coverPartsUptoCard
end Rows
end Go.Proofs.YthlekifagidijaaDoor
