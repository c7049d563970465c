/- NaiveBack: for every input that fits its types: true; the arguments read behind the call as they read before. No condition. -/
import Derived.Test.YtjinnigjfopbcaaGreatDoorRows
import Derived.Test.YtjinnigjfopbcaaGreatDoorTie
import Derived.Test.YtjinnigjfopbcaaGreatDoorCards
import Derived.Test.YtjinnigjfopbcaaGreatDoorL
import Derived.Test.YtjinnigjfopbcaaGreatDoorUZ2
import Derived.LaidMore
import Derived.Stop.Joined
import Derived.SevenTiedAt
import Derived.ChangeOld
import Derived.Below
import Derived.WalkKit
import Derived.ProofKit
import Derived.OpenShut
import Derived.Carry
import Derived.Lay
import Derived.ChangeMaps5
import Derived.ShutString
import Derived.Test.YtjinnigjfopbcaaGreatDoorNBackA
import Derived.Test.YtjinnigjfopbcaaGreatDoorNBackB
import Derived.Test.YtjinnigjfopbcaaGreatDoorNBackC
namespace Go.Proofs.YtjinnigjfopbcaaGreatDoor.naiveBack
open Go.ChangeShapes Go.WideShapes Go.ChangeAt Go.RowKit
open Go.ChangeMaps (open_string shut_string)
set_option linter.unusedVariables false
set_option maxHeartbeats 4000000 in
theorem closed : joinedFacts Tryz.pinned.checked.prog 5 Tryz.f5 Rows.naiveBackSpec Rows.naiveBackRow = true := by
  unfold joinedFacts
  rw [jf_a, jf_b, jf_c, jf_d]
  kernel_rfl
set_option maxHeartbeats 4000000 in
theorem over : Rows.naiveBackRow.holds Tryz.pinned (OpenSpec.ofChange Rows.naiveBackSpec) :=
  OpenClaim.holds_of_wide 5 Tryz.f5 rfl rfl rfl rfl rfl rfl rfl ⟨rfl, rfl, rfl, rfl, rfl⟩ rfl rfl rfl rfl rfl (by as_aux_lemma => kernel_rfl) Tryz.func5 closed
    (of_decide_eq_true (by as_aux_lemma => kernel_rfl)) (by as_aux_lemma => (unfold Func.isWrapper; first | (rw [if_pos (by decide +kernel)]; kernel_rfl) | (rw [if_neg (by decide +kernel)]; exact ⟨rfl, rfl⟩)))
    (fun os started H enc _ => lifted os started H enc)
theorem tied : Rows.NaiveBackCardSaid :=
  Claim7.holds_tied_plain_at .later [] [.data, .data, .data, .data, .sentinel, .sentinel, .pinned] true (true, "ac893dd34d78f3b1a8a7c7564f7230de6a82f1b1241d11a3e2a7a4ecad9e0396") true
    over (fun _ h => by cases h) (by as_aux_lemma => kernel_rfl) (fun _ h => by cases h) naiveBack_row_tie rfl ⟨rfl, rfl⟩ (by as_aux_lemma => kernel_rfl) rfl
    (fun f fn hf hfn => by
      obtain rfl : f = 5 := Option.some.inj ((show Tryz.prog.funcNamed "gazetteer/gazetteerlaw20.NaiveBack" = some 5 by as_aux_lemma => kernel_rfl).symm.trans hf) |>.symm
      obtain rfl : fn = Tryz.f5 := (Option.some.inj (Tryz.func5.symm.trans hfn)).symm
      exact ⟨by as_aux_lemma => kernel_rfl, fun j t ht => by
        rw [Tryz.params5] at ht
        have hm : t ∈ [39, 53, 9] := by simpa using Array.mem_of_getElem? ht
        have hall : ([39, 53, 9].all fun u => !Tryz.prog.wantsStandIn u) = true := by as_aux_lemma => kernel_rfl
        exact (show Tryz.prog.wantsStandIn t = false by simpa using List.all_eq_true.1 hall t hm)⟩)
    (by as_aux_lemma => kernel_rfl)
end Go.Proofs.YtjinnigjfopbcaaGreatDoor.naiveBack
namespace Go.Proofs.YtjinnigjfopbcaaGreatDoor
theorem naiveBack_holds : Rows.NaiveBackCardSaid := naiveBack.tied
end Go.Proofs.YtjinnigjfopbcaaGreatDoor
