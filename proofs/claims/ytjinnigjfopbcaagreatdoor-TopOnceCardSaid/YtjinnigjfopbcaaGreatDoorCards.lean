/-
  DERIVED. GIVEN WITH THE SEED: THE CARDS: each row of YtjinnigjfopbcaaGreatDoorRows.lean that lists a variable, with what it lists TIED to the program's text (the seventh form; the later family's looks); each row that meets fmt, with fmt's text TOLD by the authors' own Lean function (tested against real Go, not proved from fmt's source: count such statements apart). THE CARD IS WHAT COUNTS. Prove the row's statement (the work); the ties are given (YtjinnigjfopbcaaGreatDoorTie.lean); close each card by the builder's one call (the guide's Derived/Test/ToyasCard.lean, 'card_holds'). Laid BY PROGRAM, IN A SANDBOX (cutbox-door.mjs). By AI agents, Wed Nov 11 2026. No macro, syntax, notation, axiom, sorry.
-/
import Derived.Test.YtjinnigjfopbcaaGreatDoorRows
import GoSem.ClaimSeven
namespace Go.Proofs.YtjinnigjfopbcaaGreatDoor
namespace Rows

/-- THE TIED CARD OF 'gazetteerlaw19.AuditTells'. -/
def auditTellsCard : Claim7 := { stood := { row := auditTellsRow, standIns := [], harness := (true, "ac893dd34d78f3b1a8a7c7564f7230de6a82f1b1241d11a3e2a7a4ecad9e0396"), looks := true }, kinds := [], alts := [], laidByText := true, laidKinds := [.data, .data, .data, .data, .sentinel, .sentinel, .pinned], laidTests := true, laidLooks := .later }
def AuditTellsCardSaid : Prop := Claim7.holds Tryz.pinned (.plain (OpenSpec.ofChange auditTellsSpec)) auditTellsCard

/-- THE TIED CARD OF 'gazetteerlaw20.NaiveTells'. -/
def naiveTellsCard : Claim7 := { stood := { row := naiveTellsRow, standIns := [], harness := (true, "ac893dd34d78f3b1a8a7c7564f7230de6a82f1b1241d11a3e2a7a4ecad9e0396"), looks := true }, kinds := [], alts := [], laidByText := true, laidKinds := [.data, .data, .data, .data, .sentinel, .sentinel, .pinned], laidTests := true, laidLooks := .later }
def NaiveTellsCardSaid : Prop := Claim7.holds Tryz.pinned (.plain (OpenSpec.ofChange naiveTellsSpec)) naiveTellsCard

/-- THE TIED CARD OF 'gazetteerlaw20.NaiveBack'. -/
def naiveBackCard : Claim7 := { stood := { row := naiveBackRow, standIns := [], harness := (true, "ac893dd34d78f3b1a8a7c7564f7230de6a82f1b1241d11a3e2a7a4ecad9e0396"), looks := true }, kinds := [], alts := [], laidByText := true, laidKinds := [.data, .data, .data, .data, .sentinel, .sentinel, .pinned], laidTests := true, laidLooks := .later }
def NaiveBackCardSaid : Prop := Claim7.holds Tryz.pinned (.plain (OpenSpec.ofChange naiveBackSpec)) naiveBackCard

/-- THE TIED CARD OF 'gazetteerlaw20.NaiveTiles'. -/
def naiveTilesCard : Claim7 := { stood := { row := naiveTilesRow, standIns := [], harness := (true, "ac893dd34d78f3b1a8a7c7564f7230de6a82f1b1241d11a3e2a7a4ecad9e0396"), looks := true }, kinds := [], alts := [], laidByText := true, laidKinds := [.data, .data, .data, .data, .sentinel, .sentinel, .pinned], laidTests := true, laidLooks := .later }
def NaiveTilesCardSaid : Prop := Claim7.holds Tryz.pinned (.plain (OpenSpec.ofChange naiveTilesSpec)) naiveTilesCard

/-- THE TIED CARD OF 'gazetteertop.TopFormat'. -/
def topFormatCard : Claim7 := { stood := { row := topFormatRow, standIns := [], harness := (true, "ac893dd34d78f3b1a8a7c7564f7230de6a82f1b1241d11a3e2a7a4ecad9e0396"), looks := true }, kinds := [], alts := [], laidByText := true, laidKinds := [.data, .data, .data, .data, .sentinel, .sentinel, .pinned], laidTests := true, laidLooks := .later }
def TopFormatCardSaid : Prop := Claim7.holds Tryz.pinned (.plain (OpenSpec.ofChange topFormatSpec)) topFormatCard

/-- THE TIED CARD OF 'gazetteertop.TopOnce'. -/
def topOnceCard : Claim7 := { stood := { row := topOnceRow, standIns := [], harness := (true, "ac893dd34d78f3b1a8a7c7564f7230de6a82f1b1241d11a3e2a7a4ecad9e0396"), looks := true }, kinds := [], alts := [], laidByText := true, laidKinds := [.data, .data, .data, .data, .sentinel, .sentinel, .pinned], laidTests := true, laidLooks := .later }
def TopOnceCardSaid : Prop := Claim7.holds Tryz.pinned (.plain (OpenSpec.ofChange topOnceSpec)) topOnceCard

/-- THE TIED CARD OF 'gazetteertop.TopDescend'. -/
def topDescendCard : Claim7 := { stood := { row := topDescendRow, standIns := [], harness := (true, "ac893dd34d78f3b1a8a7c7564f7230de6a82f1b1241d11a3e2a7a4ecad9e0396"), looks := true }, kinds := [], alts := [], laidByText := true, laidKinds := [.wider, .data, .data, .data, .data, .sentinel, .sentinel, .pinned], laidTests := true, laidLooks := .later }
def TopDescendCardSaid : Prop := Claim7.holds Tryz.pinned (.plain (OpenSpec.ofChange topDescendSpec)) topDescendCard

/-- THE SECOND FORM's CARD OF 'gazetteerlaw19.AuditTells'. -/
def auditTellsUptoCard : Claim7 := { stood := { row := auditTellsUptoRow, standIns := [], harness := (true, "ac893dd34d78f3b1a8a7c7564f7230de6a82f1b1241d11a3e2a7a4ecad9e0396"), looks := true }, kinds := [], alts := [], laidByText := true, laidKinds := [.data, .data, .data, .data, .sentinel, .sentinel, .pinned], laidTests := true, laidLooks := .later }
def AuditTellsUptoCardSaid : Prop := Claim7.holds Tryz.pinned (.plain (OpenSpec.upto auditTellsSpec)) auditTellsUptoCard

/-- THE SECOND FORM's CARD OF 'gazetteerlaw20.NaiveTells'. -/
def naiveTellsUptoCard : Claim7 := { stood := { row := naiveTellsUptoRow, standIns := [], harness := (true, "ac893dd34d78f3b1a8a7c7564f7230de6a82f1b1241d11a3e2a7a4ecad9e0396"), looks := true }, kinds := [], alts := [], laidByText := true, laidKinds := [.data, .data, .data, .data, .sentinel, .sentinel, .pinned], laidTests := true, laidLooks := .later }
def NaiveTellsUptoCardSaid : Prop := Claim7.holds Tryz.pinned (.plain (OpenSpec.upto naiveTellsSpec)) naiveTellsUptoCard

/-- THE SECOND FORM's CARD OF 'gazetteerlaw20.NaiveBack'. -/
def naiveBackUptoCard : Claim7 := { stood := { row := naiveBackUptoRow, standIns := [], harness := (true, "ac893dd34d78f3b1a8a7c7564f7230de6a82f1b1241d11a3e2a7a4ecad9e0396"), looks := true }, kinds := [], alts := [], laidByText := true, laidKinds := [.data, .data, .data, .data, .sentinel, .sentinel, .pinned], laidTests := true, laidLooks := .later }
def NaiveBackUptoCardSaid : Prop := Claim7.holds Tryz.pinned (.plain (OpenSpec.upto naiveBackSpec)) naiveBackUptoCard

/-- THE SECOND FORM's CARD OF 'gazetteerlaw20.NaiveTiles'. -/
def naiveTilesUptoCard : Claim7 := { stood := { row := naiveTilesUptoRow, standIns := [], harness := (true, "ac893dd34d78f3b1a8a7c7564f7230de6a82f1b1241d11a3e2a7a4ecad9e0396"), looks := true }, kinds := [], alts := [], laidByText := true, laidKinds := [.data, .data, .data, .data, .sentinel, .sentinel, .pinned], laidTests := true, laidLooks := .later }
def NaiveTilesUptoCardSaid : Prop := Claim7.holds Tryz.pinned (.plain (OpenSpec.upto naiveTilesSpec)) naiveTilesUptoCard

/-- THE SECOND FORM's CARD OF 'gazetteertop.TopFormat'. -/
def topFormatUptoCard : Claim7 := { stood := { row := topFormatUptoRow, standIns := [], harness := (true, "ac893dd34d78f3b1a8a7c7564f7230de6a82f1b1241d11a3e2a7a4ecad9e0396"), looks := true }, kinds := [], alts := [], laidByText := true, laidKinds := [.data, .data, .data, .data, .sentinel, .sentinel, .pinned], laidTests := true, laidLooks := .later }
def TopFormatUptoCardSaid : Prop := Claim7.holds Tryz.pinned (.plain (OpenSpec.upto topFormatSpec)) topFormatUptoCard

/-- THE SECOND FORM's CARD OF 'gazetteertop.TopOnce'. -/
def topOnceUptoCard : Claim7 := { stood := { row := topOnceUptoRow, standIns := [], harness := (true, "ac893dd34d78f3b1a8a7c7564f7230de6a82f1b1241d11a3e2a7a4ecad9e0396"), looks := true }, kinds := [], alts := [], laidByText := true, laidKinds := [.data, .data, .data, .data, .sentinel, .sentinel, .pinned], laidTests := true, laidLooks := .later }
def TopOnceUptoCardSaid : Prop := Claim7.holds Tryz.pinned (.plain (OpenSpec.upto topOnceSpec)) topOnceUptoCard

/-- THE SECOND FORM's CARD OF 'gazetteertop.TopDescend'. -/
def topDescendUptoCard : Claim7 := { stood := { row := topDescendUptoRow, standIns := [], harness := (true, "ac893dd34d78f3b1a8a7c7564f7230de6a82f1b1241d11a3e2a7a4ecad9e0396"), looks := true }, kinds := [], alts := [], laidByText := true, laidKinds := [.wider, .data, .data, .data, .data, .sentinel, .sentinel, .pinned], laidTests := true, laidLooks := .later }
def TopDescendUptoCardSaid : Prop := Claim7.holds Tryz.pinned (.plain (OpenSpec.upto topDescendSpec)) topDescendUptoCard
end Rows
end Go.Proofs.YtjinnigjfopbcaaGreatDoor
