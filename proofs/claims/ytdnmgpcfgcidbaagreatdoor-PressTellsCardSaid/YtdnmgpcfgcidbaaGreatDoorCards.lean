/-
  DERIVED. GIVEN WITH THE SEED: THE CARDS: each row of YtdnmgpcfgcidbaaGreatDoorRows.lean that lists a variable, with what it lists TIED to the program's text (the seventh form; the later family's looks); each row that meets fmt, with fmt's text TOLD by the authors' own Lean function (tested against real Go, not proved from fmt's source: count such statements apart). THE CARD IS WHAT COUNTS. Prove the row's statement (the work); the ties are given (YtdnmgpcfgcidbaaGreatDoorTie.lean); close each card by the builder's one call (the guide's Derived/Test/ToyasCard.lean, 'card_holds'). Laid BY PROGRAM, IN A SANDBOX (cutbox-door.mjs). By AI agents, Wed Nov 11 2026. No macro, syntax, notation, axiom, sorry.
-/
import Derived.Test.YtdnmgpcfgcidbaaGreatDoorRows
import GoSem.ClaimSeven
namespace Go.Proofs.YtdnmgpcfgcidbaaGreatDoor
namespace Rows

/-- THE TIED CARD OF 'gazetteerlaw18.PressTells'. -/
def pressTellsCard : Claim7 := { stood := { row := pressTellsRow, standIns := [], harness := (true, "4f3dc58218f51a6e250df23fe80a29a7f38e87c279d3b6f9598db9479df83b02"), looks := true }, kinds := [], alts := [], laidByText := true, laidKinds := [.data, .data, .data, .data, .sentinel, .sentinel, .pinned], laidTests := true, laidLooks := .later }
def PressTellsCardSaid : Prop := Claim7.holds Tryz.pinned (.plain (OpenSpec.ofChange pressTellsSpec)) pressTellsCard

/-- THE TIED CARD OF 'gazetteerlaw18.PressWhole'. -/
def pressWholeCard : Claim7 := { stood := { row := pressWholeRow, standIns := [], harness := (true, "4f3dc58218f51a6e250df23fe80a29a7f38e87c279d3b6f9598db9479df83b02"), looks := true }, kinds := [], alts := [], laidByText := true, laidKinds := [.data, .data, .data, .data, .sentinel, .sentinel, .pinned], laidTests := true, laidLooks := .later }
def PressWholeCardSaid : Prop := Claim7.holds Tryz.pinned (.plain (OpenSpec.ofChange pressWholeSpec)) pressWholeCard

/-- THE TIED CARD OF 'gazetteerlaw18.PressOnce'. -/
def pressOnceCard : Claim7 := { stood := { row := pressOnceRow, standIns := [], harness := (true, "4f3dc58218f51a6e250df23fe80a29a7f38e87c279d3b6f9598db9479df83b02"), looks := true }, kinds := [], alts := [], laidByText := true, laidKinds := [.data, .data, .data, .data, .sentinel, .sentinel, .pinned], laidTests := true, laidLooks := .later }
def PressOnceCardSaid : Prop := Claim7.holds Tryz.pinned (.plain (OpenSpec.ofChange pressOnceSpec)) pressOnceCard

/-- THE TIED CARD OF 'gazetteerlaw18.PressOne'. -/
def pressOneCard : Claim7 := { stood := { row := pressOneRow, standIns := [], harness := (true, "4f3dc58218f51a6e250df23fe80a29a7f38e87c279d3b6f9598db9479df83b02"), looks := true }, kinds := [], alts := [], laidByText := true, laidKinds := [.data, .data, .data, .data, .sentinel, .sentinel, .pinned], laidTests := true, laidLooks := .later }
def PressOneCardSaid : Prop := Claim7.holds Tryz.pinned (.plain (OpenSpec.ofChange pressOneSpec)) pressOneCard

/-- THE SECOND FORM's CARD OF 'gazetteerlaw18.PressTells'. -/
def pressTellsUptoCard : Claim7 := { stood := { row := pressTellsUptoRow, standIns := [], harness := (true, "4f3dc58218f51a6e250df23fe80a29a7f38e87c279d3b6f9598db9479df83b02"), looks := true }, kinds := [], alts := [], laidByText := true, laidKinds := [.data, .data, .data, .data, .sentinel, .sentinel, .pinned], laidTests := true, laidLooks := .later }
def PressTellsUptoCardSaid : Prop := Claim7.holds Tryz.pinned (.plain (OpenSpec.upto pressTellsSpec)) pressTellsUptoCard

/-- THE SECOND FORM's CARD OF 'gazetteerlaw18.PressWhole'. -/
def pressWholeUptoCard : Claim7 := { stood := { row := pressWholeUptoRow, standIns := [], harness := (true, "4f3dc58218f51a6e250df23fe80a29a7f38e87c279d3b6f9598db9479df83b02"), looks := true }, kinds := [], alts := [], laidByText := true, laidKinds := [.data, .data, .data, .data, .sentinel, .sentinel, .pinned], laidTests := true, laidLooks := .later }
def PressWholeUptoCardSaid : Prop := Claim7.holds Tryz.pinned (.plain (OpenSpec.upto pressWholeSpec)) pressWholeUptoCard

/-- THE SECOND FORM's CARD OF 'gazetteerlaw18.PressOnce'. -/
def pressOnceUptoCard : Claim7 := { stood := { row := pressOnceUptoRow, standIns := [], harness := (true, "4f3dc58218f51a6e250df23fe80a29a7f38e87c279d3b6f9598db9479df83b02"), looks := true }, kinds := [], alts := [], laidByText := true, laidKinds := [.data, .data, .data, .data, .sentinel, .sentinel, .pinned], laidTests := true, laidLooks := .later }
def PressOnceUptoCardSaid : Prop := Claim7.holds Tryz.pinned (.plain (OpenSpec.upto pressOnceSpec)) pressOnceUptoCard

/-- THE SECOND FORM's CARD OF 'gazetteerlaw18.PressOne'. -/
def pressOneUptoCard : Claim7 := { stood := { row := pressOneUptoRow, standIns := [], harness := (true, "4f3dc58218f51a6e250df23fe80a29a7f38e87c279d3b6f9598db9479df83b02"), looks := true }, kinds := [], alts := [], laidByText := true, laidKinds := [.data, .data, .data, .data, .sentinel, .sentinel, .pinned], laidTests := true, laidLooks := .later }
def PressOneUptoCardSaid : Prop := Claim7.holds Tryz.pinned (.plain (OpenSpec.upto pressOneSpec)) pressOneUptoCard
end Rows
end Go.Proofs.YtdnmgpcfgcidbaaGreatDoor
