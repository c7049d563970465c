/-
  DERIVED. GIVEN WITH THE SEED: THE CARDS: each row of YtjkgkmmkehnggaaGreatDoorRows.lean that lists a variable, with what it lists TIED to the program's text (the seventh form; the later family's looks); each row that meets fmt, with fmt's text TOLD by the authors' own Lean function (tested against real Go, not proved from fmt's source: count such statements apart). THE CARD IS WHAT COUNTS. Prove the row's statement (the work); the ties are given (YtjkgkmmkehnggaaGreatDoorTie.lean); close each card by the builder's one call (the guide's Derived/Test/ToyasCard.lean, 'card_holds'). Laid BY PROGRAM, IN A SANDBOX (cutbox-door.mjs). By AI agents, Wed Nov 11 2026. No macro, syntax, notation, axiom, sorry.
-/
import Derived.Test.YtjkgkmmkehnggaaGreatDoorRows
import GoSem.ClaimSeven
namespace Go.Proofs.YtjkgkmmkehnggaaGreatDoor
namespace Rows

/-- THE TIED CARD OF 'gazetteerlaw19.AuditTells'. -/
def auditTellsCard : Claim7 := { stood := { row := auditTellsRow, standIns := [], harness := (true, "4389a38cf8bdb3b6a522128dc85a3fde8a01b18ce967c32f47a64e2345e0551d"), looks := true }, kinds := [], alts := [], laidByText := true, laidKinds := [.data, .data, .data, .data, .sentinel, .sentinel, .pinned], laidTests := true, laidLooks := .later }
def AuditTellsCardSaid : Prop := Claim7.holds Tryz.pinned (.plain (OpenSpec.ofChange auditTellsSpec)) auditTellsCard

/-- THE TIED CARD OF 'gazetteerlaw19.AuditGood'. -/
def auditGoodCard : Claim7 := { stood := { row := auditGoodRow, standIns := [], harness := (true, "4389a38cf8bdb3b6a522128dc85a3fde8a01b18ce967c32f47a64e2345e0551d"), looks := true }, kinds := [], alts := [], laidByText := true, laidKinds := [.data, .data, .data, .data, .sentinel, .sentinel, .pinned], laidTests := true, laidLooks := .later }
def AuditGoodCardSaid : Prop := Claim7.holds Tryz.pinned (.plain (OpenSpec.ofChange auditGoodSpec)) auditGoodCard

/-- THE TIED CARD OF 'gazetteerlaw19.AuditRises'. -/
def auditRisesCard : Claim7 := { stood := { row := auditRisesRow, standIns := [], harness := (true, "4389a38cf8bdb3b6a522128dc85a3fde8a01b18ce967c32f47a64e2345e0551d"), looks := true }, kinds := [], alts := [], laidByText := true, laidKinds := [.data, .data, .data, .data, .sentinel, .sentinel, .pinned], laidTests := true, laidLooks := .later }
def AuditRisesCardSaid : Prop := Claim7.holds Tryz.pinned (.plain (OpenSpec.ofChange auditRisesSpec)) auditRisesCard

/-- THE SECOND FORM's CARD OF 'gazetteerlaw19.AuditTells'. -/
def auditTellsUptoCard : Claim7 := { stood := { row := auditTellsUptoRow, standIns := [], harness := (true, "4389a38cf8bdb3b6a522128dc85a3fde8a01b18ce967c32f47a64e2345e0551d"), looks := true }, kinds := [], alts := [], laidByText := true, laidKinds := [.data, .data, .data, .data, .sentinel, .sentinel, .pinned], laidTests := true, laidLooks := .later }
def AuditTellsUptoCardSaid : Prop := Claim7.holds Tryz.pinned (.plain (OpenSpec.upto auditTellsSpec)) auditTellsUptoCard

/-- THE SECOND FORM's CARD OF 'gazetteerlaw19.AuditGood'. -/
def auditGoodUptoCard : Claim7 := { stood := { row := auditGoodUptoRow, standIns := [], harness := (true, "4389a38cf8bdb3b6a522128dc85a3fde8a01b18ce967c32f47a64e2345e0551d"), looks := true }, kinds := [], alts := [], laidByText := true, laidKinds := [.data, .data, .data, .data, .sentinel, .sentinel, .pinned], laidTests := true, laidLooks := .later }
def AuditGoodUptoCardSaid : Prop := Claim7.holds Tryz.pinned (.plain (OpenSpec.upto auditGoodSpec)) auditGoodUptoCard

/-- THE SECOND FORM's CARD OF 'gazetteerlaw19.AuditRises'. -/
def auditRisesUptoCard : Claim7 := { stood := { row := auditRisesUptoRow, standIns := [], harness := (true, "4389a38cf8bdb3b6a522128dc85a3fde8a01b18ce967c32f47a64e2345e0551d"), looks := true }, kinds := [], alts := [], laidByText := true, laidKinds := [.data, .data, .data, .data, .sentinel, .sentinel, .pinned], laidTests := true, laidLooks := .later }
def AuditRisesUptoCardSaid : Prop := Claim7.holds Tryz.pinned (.plain (OpenSpec.upto auditRisesSpec)) auditRisesUptoCard
end Rows
end Go.Proofs.YtjkgkmmkehnggaaGreatDoor
