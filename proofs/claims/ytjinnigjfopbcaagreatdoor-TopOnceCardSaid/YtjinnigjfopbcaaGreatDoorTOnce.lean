/- TopOnce: for every input that fits its types: true; the arguments read behind the call as they read before. No condition. -/
import Derived.Test.YtjinnigjfopbcaaGreatDoorRows
import Derived.Test.YtjinnigjfopbcaaGreatDoorTie
import Derived.Test.YtjinnigjfopbcaaGreatDoorCards
import Derived.Test.YtjinnigjfopbcaaGreatDoorL
import Derived.Test.YtjinnigjfopbcaaGreatDoorJZ2
import Derived.LaidMore
import Derived.Stop.Joined
import Derived.SevenTiedAt
import Derived.ChangeOld
import Derived.Below
import Derived.WalkKit
import Derived.ProofKit
import Derived.OpenShut
import Derived.Carry
import Derived.Lay
import Derived.ChangeMaps5
import Derived.ShutString
import Derived.Test.YtjinnigjfopbcaaGreatDoorTOnceA
import Derived.Test.YtjinnigjfopbcaaGreatDoorTOnceB
import Derived.Test.YtjinnigjfopbcaaGreatDoorTOnceC
namespace Go.Proofs.YtjinnigjfopbcaaGreatDoor.topOnce
open Go.ChangeShapes Go.WideShapes Go.ChangeAt Go.RowKit
open Go.ChangeMaps (open_string shut_string)
set_option linter.unusedVariables false
set_option maxHeartbeats 4000000 in
theorem closed : joinedFacts Tryz.pinned.checked.prog 8 Tryz.f8 Rows.topOnceSpec Rows.topOnceRow = true := by
  unfold joinedFacts
  rw [jf_a, jf_b, jf_c, jf_d]
  kernel_rfl
set_option maxHeartbeats 4000000 in
theorem over : Rows.topOnceRow.holds Tryz.pinned (OpenSpec.ofChange Rows.topOnceSpec) :=
  OpenClaim.holds_of_wide 8 Tryz.f8 rfl rfl rfl rfl rfl rfl rfl ⟨rfl, rfl, rfl, rfl, rfl⟩ rfl rfl rfl rfl rfl (by as_aux_lemma => kernel_rfl) Tryz.func8 closed
    (of_decide_eq_true (by as_aux_lemma => kernel_rfl)) (by as_aux_lemma => (unfold Func.isWrapper; first | (rw [if_pos (by decide +kernel)]; kernel_rfl) | (rw [if_neg (by decide +kernel)]; exact ⟨rfl, rfl⟩)))
    (fun os started H enc _ => lifted os started H enc)
theorem tied : Rows.TopOnceCardSaid :=
  Claim7.holds_tied_plain_at .later [] [.data, .data, .data, .data, .sentinel, .sentinel, .pinned] true (true, "ac893dd34d78f3b1a8a7c7564f7230de6a82f1b1241d11a3e2a7a4ecad9e0396") true
    over (fun _ h => by cases h) (by as_aux_lemma => kernel_rfl) (fun _ h => by cases h) topOnce_row_tie rfl ⟨rfl, rfl⟩ (by as_aux_lemma => kernel_rfl) rfl
    (fun f fn hf hfn => by
      obtain rfl : f = 8 := Option.some.inj ((show Tryz.prog.funcNamed "gazetteer/gazetteertop.TopOnce" = some 8 by as_aux_lemma => kernel_rfl).symm.trans hf) |>.symm
      obtain rfl : fn = Tryz.f8 := (Option.some.inj (Tryz.func8.symm.trans hfn)).symm
      exact ⟨by as_aux_lemma => kernel_rfl, fun j t ht => by
        rw [Tryz.params8] at ht
        have hm : t ∈ [39] := by simpa using Array.mem_of_getElem? ht
        have hall : ([39].all fun u => !Tryz.prog.wantsStandIn u) = true := by as_aux_lemma => kernel_rfl
        exact (show Tryz.prog.wantsStandIn t = false by simpa using List.all_eq_true.1 hall t hm)⟩)
    (by as_aux_lemma => kernel_rfl)
end Go.Proofs.YtjinnigjfopbcaaGreatDoor.topOnce
namespace Go.Proofs.YtjinnigjfopbcaaGreatDoor
theorem topOnce_holds : Rows.TopOnceCardSaid := topOnce.tied
end Go.Proofs.YtjinnigjfopbcaaGreatDoor
