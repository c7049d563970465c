/- TopOnce: for every input that fits its types: true; the arguments read behind the call as they read before. No condition. -/
import Derived.Test.YtjinnigjfopbcaaGreatDoorRows
import Derived.Test.YtjinnigjfopbcaaGreatDoorTie
import Derived.Test.YtjinnigjfopbcaaGreatDoorCards
import Derived.LaidMore
import Derived.Stop.Joined
import Derived.SevenTiedAt
import Derived.ChangeOld
import Derived.Below
import Derived.WalkKit
import Derived.ProofKit
import Derived.OpenShut
import Derived.Carry
import Derived.Lay
import Derived.ChangeMaps5
import Derived.ShutString
namespace Go.Proofs.YtjinnigjfopbcaaGreatDoor.topOnce
open Go.ChangeShapes Go.WideShapes Go.ChangeAt Go.RowKit
open Go.ChangeMaps (open_string shut_string)
set_option linter.unusedVariables false
set_option maxHeartbeats 4000000 in
theorem jf_a : (Rows.topOnceRow.inPlace == Tryz.pinned.checked.prog.inPlace 8) = true := by kernel_rfl
set_option maxHeartbeats 4000000 in
theorem jf_b : (Rows.topOnceRow.unfollowed == Tryz.pinned.checked.prog.unfollowed 8) = true := by kernel_rfl
end Go.Proofs.YtjinnigjfopbcaaGreatDoor.topOnce
