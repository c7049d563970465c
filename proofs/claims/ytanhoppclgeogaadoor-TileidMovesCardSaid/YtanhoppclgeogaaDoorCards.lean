/-
  DERIVED. GIVEN WITH THE SEED: THE CARDS: each row of YtanhoppclgeogaaDoorRows.lean that lists a variable, with what it lists TIED to the program's text (the seventh form; the later family's looks); each row that meets fmt, with fmt's text TOLD by the authors' own Lean function (tested against real Go, not proved from fmt's source: count such statements apart). THE CARD IS WHAT COUNTS. Prove the row's statement (the work); the ties are given (YtanhoppclgeogaaDoorTie.lean); close each card by the builder's one call (the guide's Derived/Test/ToyasCard.lean, 'card_holds'). Laid BY PROGRAM, IN A SANDBOX (cutbox-door.mjs). By AI agents, Wed Nov 11 2026. No macro, syntax, notation, axiom, sorry.
-/
import Derived.Test.YtanhoppclgeogaaDoorRows
import GoSem.ClaimSeven
namespace Go.Proofs.YtanhoppclgeogaaDoor
namespace Rows

/-- THE TIED CARD OF 'gazetteerlaw04.TileidTells'. -/
def tileidTellsCard : Claim7 := { stood := { row := tileidTellsRow, standIns := [], harness := (true, "930abe39ec179caa4f4be1cdcf5e60ee720a1421bd4d7a4afdbd205e9567dabd"), looks := false }, kinds := [], alts := [], laidByText := true, laidKinds := [.wider], laidTests := true, laidLooks := .later }
def TileidTellsCardSaid : Prop := Claim7.holds Tryd.pinned (.plain (OpenSpec.ofChange tileidTellsSpec)) tileidTellsCard

/-- THE TIED CARD OF 'gazetteerlaw04.TileidMoves'. -/
def tileidMovesCard : Claim7 := { stood := { row := tileidMovesRow, standIns := [], harness := (true, "930abe39ec179caa4f4be1cdcf5e60ee720a1421bd4d7a4afdbd205e9567dabd"), looks := false }, kinds := [], alts := [], laidByText := true, laidKinds := [.wider], laidTests := true, laidLooks := .later }
def TileidMovesCardSaid : Prop := Claim7.holds Tryd.pinned (.plain (OpenSpec.ofChange tileidMovesSpec)) tileidMovesCard

/-- THE TIED CARD OF 'gazetteerlaw04.TileidBack'. -/
def tileidBackCard : Claim7 := { stood := { row := tileidBackRow, standIns := [], harness := (true, "930abe39ec179caa4f4be1cdcf5e60ee720a1421bd4d7a4afdbd205e9567dabd"), looks := false }, kinds := [], alts := [], laidByText := true, laidKinds := [.wider], laidTests := true, laidLooks := .later }
def TileidBackCardSaid : Prop := Claim7.holds Tryd.pinned (.plain (OpenSpec.ofChange tileidBackSpec)) tileidBackCard

/-- THE TIED CARD OF 'gazetteerlaw04.TileidFour'. -/
def tileidFourCard : Claim7 := { stood := { row := tileidFourRow, standIns := [], harness := (true, "930abe39ec179caa4f4be1cdcf5e60ee720a1421bd4d7a4afdbd205e9567dabd"), looks := false }, kinds := [], alts := [], laidByText := true, laidKinds := [.wider], laidTests := true, laidLooks := .later }
def TileidFourCardSaid : Prop := Claim7.holds Tryd.pinned (.plain (OpenSpec.ofChange tileidFourSpec)) tileidFourCard

/-- THE TIED CARD OF 'gazetteerlaw04.TileidRange'. -/
def tileidRangeCard : Claim7 := { stood := { row := tileidRangeRow, standIns := [], harness := (true, "930abe39ec179caa4f4be1cdcf5e60ee720a1421bd4d7a4afdbd205e9567dabd"), looks := false }, kinds := [], alts := [], laidByText := true, laidKinds := [.wider], laidTests := true, laidLooks := .later }
def TileidRangeCardSaid : Prop := Claim7.holds Tryd.pinned (.plain (OpenSpec.ofChange tileidRangeSpec)) tileidRangeCard

/-- THE SECOND FORM's CARD OF 'gazetteerlaw04.TileidTells'. -/
def tileidTellsUptoCard : Claim7 := { stood := { row := tileidTellsUptoRow, standIns := [], harness := (true, "930abe39ec179caa4f4be1cdcf5e60ee720a1421bd4d7a4afdbd205e9567dabd"), looks := false }, kinds := [], alts := [], laidByText := true, laidKinds := [.wider], laidTests := true, laidLooks := .later }
def TileidTellsUptoCardSaid : Prop := Claim7.holds Tryd.pinned (.plain (OpenSpec.upto tileidTellsSpec)) tileidTellsUptoCard

/-- THE SECOND FORM's CARD OF 'gazetteerlaw04.TileidMoves'. -/
def tileidMovesUptoCard : Claim7 := { stood := { row := tileidMovesUptoRow, standIns := [], harness := (true, "930abe39ec179caa4f4be1cdcf5e60ee720a1421bd4d7a4afdbd205e9567dabd"), looks := false }, kinds := [], alts := [], laidByText := true, laidKinds := [.wider], laidTests := true, laidLooks := .later }
def TileidMovesUptoCardSaid : Prop := Claim7.holds Tryd.pinned (.plain (OpenSpec.upto tileidMovesSpec)) tileidMovesUptoCard

/-- THE SECOND FORM's CARD OF 'gazetteerlaw04.TileidBack'. -/
def tileidBackUptoCard : Claim7 := { stood := { row := tileidBackUptoRow, standIns := [], harness := (true, "930abe39ec179caa4f4be1cdcf5e60ee720a1421bd4d7a4afdbd205e9567dabd"), looks := false }, kinds := [], alts := [], laidByText := true, laidKinds := [.wider], laidTests := true, laidLooks := .later }
def TileidBackUptoCardSaid : Prop := Claim7.holds Tryd.pinned (.plain (OpenSpec.upto tileidBackSpec)) tileidBackUptoCard

/-- THE SECOND FORM's CARD OF 'gazetteerlaw04.TileidFour'. -/
def tileidFourUptoCard : Claim7 := { stood := { row := tileidFourUptoRow, standIns := [], harness := (true, "930abe39ec179caa4f4be1cdcf5e60ee720a1421bd4d7a4afdbd205e9567dabd"), looks := false }, kinds := [], alts := [], laidByText := true, laidKinds := [.wider], laidTests := true, laidLooks := .later }
def TileidFourUptoCardSaid : Prop := Claim7.holds Tryd.pinned (.plain (OpenSpec.upto tileidFourSpec)) tileidFourUptoCard

/-- THE SECOND FORM's CARD OF 'gazetteerlaw04.TileidRange'. -/
def tileidRangeUptoCard : Claim7 := { stood := { row := tileidRangeUptoRow, standIns := [], harness := (true, "930abe39ec179caa4f4be1cdcf5e60ee720a1421bd4d7a4afdbd205e9567dabd"), looks := false }, kinds := [], alts := [], laidByText := true, laidKinds := [.wider], laidTests := true, laidLooks := .later }
def TileidRangeUptoCardSaid : Prop := Claim7.holds Tryd.pinned (.plain (OpenSpec.upto tileidRangeSpec)) tileidRangeUptoCard
end Rows
end Go.Proofs.YtanhoppclgeogaaDoor
