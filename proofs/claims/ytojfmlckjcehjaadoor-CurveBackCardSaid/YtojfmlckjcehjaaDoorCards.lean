/-
  DERIVED. GIVEN WITH THE SEED: THE CARDS: each row of YtojfmlckjcehjaaDoorRows.lean that lists a variable, with what it lists TIED to the program's text (the seventh form; the later family's looks); each row that meets fmt, with fmt's text TOLD by the authors' own Lean function (tested against real Go, not proved from fmt's source: count such statements apart). THE CARD IS WHAT COUNTS. Prove the row's statement (the work); the ties are given (YtojfmlckjcehjaaDoorTie.lean); close each card by the builder's one call (the guide's Derived/Test/ToyasCard.lean, 'card_holds'). Laid BY PROGRAM, IN A SANDBOX (cutbox-door.mjs). By AI agents, Wed Nov 11 2026. No macro, syntax, notation, axiom, sorry.
-/
import Derived.Test.YtojfmlckjcehjaaDoorRows
import GoSem.ClaimSeven
namespace Go.Proofs.YtojfmlckjcehjaaDoor
namespace Rows

/-- THE TIED CARD OF 'gazetteerlaw03.CurveTells'. -/
def curveTellsCard : Claim7 := { stood := { row := curveTellsRow, standIns := [], harness := (true, "4a0511c8a6240e5ea829f3b86d4a13062685d4055504642ef897c97c22a859fb"), looks := false }, kinds := [], alts := [], laidByText := true, laidKinds := [.wider], laidTests := true, laidLooks := .later }
def CurveTellsCardSaid : Prop := Claim7.holds Tryd.pinned (.plain (OpenSpec.ofChange curveTellsSpec)) curveTellsCard

/-- THE TIED CARD OF 'gazetteerlaw03.CurvePoints'. -/
def curvePointsCard : Claim7 := { stood := { row := curvePointsRow, standIns := [], harness := (true, "4a0511c8a6240e5ea829f3b86d4a13062685d4055504642ef897c97c22a859fb"), looks := false }, kinds := [], alts := [], laidByText := true, laidKinds := [.wider], laidTests := true, laidLooks := .later }
def CurvePointsCardSaid : Prop := Claim7.holds Tryd.pinned (.plain (OpenSpec.ofChange curvePointsSpec)) curvePointsCard

/-- THE TIED CARD OF 'gazetteerlaw03.CurveBack'. -/
def curveBackCard : Claim7 := { stood := { row := curveBackRow, standIns := [], harness := (true, "4a0511c8a6240e5ea829f3b86d4a13062685d4055504642ef897c97c22a859fb"), looks := false }, kinds := [], alts := [], laidByText := true, laidKinds := [.wider], laidTests := true, laidLooks := .later }
def CurveBackCardSaid : Prop := Claim7.holds Tryd.pinned (.plain (OpenSpec.ofChange curveBackSpec)) curveBackCard

/-- THE TIED CARD OF 'gazetteerlaw03.CurveSteps'. -/
def curveStepsCard : Claim7 := { stood := { row := curveStepsRow, standIns := [], harness := (true, "4a0511c8a6240e5ea829f3b86d4a13062685d4055504642ef897c97c22a859fb"), looks := false }, kinds := [], alts := [], laidByText := true, laidKinds := [.wider], laidTests := true, laidLooks := .later }
def CurveStepsCardSaid : Prop := Claim7.holds Tryd.pinned (.plain (OpenSpec.ofChange curveStepsSpec)) curveStepsCard

/-- THE TIED CARD OF 'gazetteerlaw03.CurveQuarters'. -/
def curveQuartersCard : Claim7 := { stood := { row := curveQuartersRow, standIns := [], harness := (true, "4a0511c8a6240e5ea829f3b86d4a13062685d4055504642ef897c97c22a859fb"), looks := false }, kinds := [], alts := [], laidByText := true, laidKinds := [.wider], laidTests := true, laidLooks := .later }
def CurveQuartersCardSaid : Prop := Claim7.holds Tryd.pinned (.plain (OpenSpec.ofChange curveQuartersSpec)) curveQuartersCard

/-- THE SECOND FORM's CARD OF 'gazetteerlaw03.CurveTells'. -/
def curveTellsUptoCard : Claim7 := { stood := { row := curveTellsUptoRow, standIns := [], harness := (true, "4a0511c8a6240e5ea829f3b86d4a13062685d4055504642ef897c97c22a859fb"), looks := false }, kinds := [], alts := [], laidByText := true, laidKinds := [.wider], laidTests := true, laidLooks := .later }
def CurveTellsUptoCardSaid : Prop := Claim7.holds Tryd.pinned (.plain (OpenSpec.upto curveTellsSpec)) curveTellsUptoCard

/-- THE SECOND FORM's CARD OF 'gazetteerlaw03.CurvePoints'. -/
def curvePointsUptoCard : Claim7 := { stood := { row := curvePointsUptoRow, standIns := [], harness := (true, "4a0511c8a6240e5ea829f3b86d4a13062685d4055504642ef897c97c22a859fb"), looks := false }, kinds := [], alts := [], laidByText := true, laidKinds := [.wider], laidTests := true, laidLooks := .later }
def CurvePointsUptoCardSaid : Prop := Claim7.holds Tryd.pinned (.plain (OpenSpec.upto curvePointsSpec)) curvePointsUptoCard

/-- THE SECOND FORM's CARD OF 'gazetteerlaw03.CurveBack'. -/
def curveBackUptoCard : Claim7 := { stood := { row := curveBackUptoRow, standIns := [], harness := (true, "4a0511c8a6240e5ea829f3b86d4a13062685d4055504642ef897c97c22a859fb"), looks := false }, kinds := [], alts := [], laidByText := true, laidKinds := [.wider], laidTests := true, laidLooks := .later }
def CurveBackUptoCardSaid : Prop := Claim7.holds Tryd.pinned (.plain (OpenSpec.upto curveBackSpec)) curveBackUptoCard

/-- THE SECOND FORM's CARD OF 'gazetteerlaw03.CurveSteps'. -/
def curveStepsUptoCard : Claim7 := { stood := { row := curveStepsUptoRow, standIns := [], harness := (true, "4a0511c8a6240e5ea829f3b86d4a13062685d4055504642ef897c97c22a859fb"), looks := false }, kinds := [], alts := [], laidByText := true, laidKinds := [.wider], laidTests := true, laidLooks := .later }
def CurveStepsUptoCardSaid : Prop := Claim7.holds Tryd.pinned (.plain (OpenSpec.upto curveStepsSpec)) curveStepsUptoCard

/-- THE SECOND FORM's CARD OF 'gazetteerlaw03.CurveQuarters'. -/
def curveQuartersUptoCard : Claim7 := { stood := { row := curveQuartersUptoRow, standIns := [], harness := (true, "4a0511c8a6240e5ea829f3b86d4a13062685d4055504642ef897c97c22a859fb"), looks := false }, kinds := [], alts := [], laidByText := true, laidKinds := [.wider], laidTests := true, laidLooks := .later }
def CurveQuartersUptoCardSaid : Prop := Claim7.holds Tryd.pinned (.plain (OpenSpec.upto curveQuartersSpec)) curveQuartersUptoCard
end Rows
end Go.Proofs.YtojfmlckjcehjaaDoor
