/- AuditRises: for every input that fits its types: true; the arguments read behind the call as they read before. No condition. -/
import Derived.Test.YtjkgkmmkehnggaaGreatDoorRows
import Derived.Test.YtjkgkmmkehnggaaGreatDoorTie
import Derived.Test.YtjkgkmmkehnggaaGreatDoorCards
import Derived.Test.YtjkgkmmkehnggaaGreatDoorL
import Derived.Test.YtjkgkmmkehnggaaGreatDoorVZ8
import Derived.Test.YtjkgkmmkehnggaaGreatDoorVa7
import Derived.LaidMore
import Derived.Stop.Joined
import Derived.SevenTiedAt
import Derived.ChangeOld
import Derived.Below
import Derived.WalkKit
import Derived.ProofKit
import Derived.OpenShut
import Derived.Carry
import Derived.Lay
import Derived.ChangeMaps5
import Derived.ShutString
namespace Go.Proofs.YtjkgkmmkehnggaaGreatDoor.auditRises
open Go.ChangeShapes Go.WideShapes Go.ChangeAt Go.RowKit
open Go.ChangeMaps (open_string shut_string)
set_option linter.unusedVariables false
theorem walk (x0 : ByteArray) (x1 : Int) (x2 : Nat) (w : World) (hq : QTab w) (m0 : x0.size ≤ maxLen) (m1 : -9223372036854775808 ≤ x1 ∧ x1 ≤ 9223372036854775807) (m2 : x2 < 65536) :
    Calls Tryz.prog 5 #[.string x0, .int .i64 x1, .int .u16 (x2 : Nat)] w fun e w' => e = .returned (.bool true) ∧ Below w.heap.size w w' :=
  auditrises_law x0 x1 x2 w hq m1 m2
set_option maxRecDepth 100000 in
theorem lifted (os : Os) (started : os.Started) (H : Type) (enc : TypeId × Value → H) :
    ReturnsInHanded {} Tryz.checked os 5 .any (fun w args => (Rows.auditRisesSpec.pre enc Tryz.prog Tryz.f5 [] false w args ∧ laidMetH Tryz.prog laidQ w) ∧ sizedMet enc Tryz.prog Tryz.f5 (OpenSpec.ofChange Rows.auditRisesSpec) false w args)
      (Rows.auditRisesSpec.post enc Tryz.prog Tryz.f5 false true false false) := by
  refine returnsInHanded_of_change_and (C := Tryz.checked) (X := fun w _ => laidMetH Tryz.prog laidQ w) (fun _ _ _ hh h => h.of_heap hh) lOwn started (by kernel_rfl) Tryz.func5
    (ChangeSpec.witness_shaped (enc := enc) (C := Tryz.checked) (os := os) (X := fun w _ => laidMetH Tryz.prog laidQ w) false (World.laidAll Tryz.prog os laidQ) #[.string { data := #[] }, .int .i64 0, .int .u16 0] 8 (World.laidAll_os _ _ _) (World.shaped_of_ZipB (by kernel_rfl) (by kernel_rfl)) (by kernel_rfl) (by kernel_rfl) (by kernel_rfl) (door_met os _)) ?_
  intro W base args ds gs before hval0 hW _ _ hL _
  have hval : ∀ (j : Nat) t v, Tryz.f5.params[j]? = some t → args[j]? = some v → Value.okWide Tryz.prog W .any base t v := hval0
  have hW' := hW
  obtain ⟨p, q, hA0, hV, rfl, hfz, hnd⟩ := hW
  have hA : DataW.TrodAll enc Tryz.prog W 0 (fun _ => true) true Tryz.f5.params.toList args.toList ds p := hA0
  rw [Tryz.params5] at hA hval
  obtain ⟨v0, vs0, d0, ds0, p0, q0, hargs, rfl, rfl, h0, r0⟩ := trodAll_cons hA
  obtain ⟨v1, vs1, d1, ds1, p1, q1, rfl, rfl, rfl, h1, r1⟩ := trodAll_cons r0
  obtain ⟨v2, vs2, d2, ds2, p2, q2, rfl, rfl, rfl, h2, r2⟩ := trodAll_cons r1
  obtain ⟨rfl, rfl, rfl⟩ := trodAll_nil r2
  obtain rfl : args = #[v0, v1, v2] := by cases args; simp_all
  obtain ⟨rfl, rfl⟩ := trodVars_none hV
  obtain ⟨x0, rfl, rfl, rfl, m0⟩ := open_string Tryz.underlying9 (hval 0 9 v0 rfl rfl) h0
  obtain ⟨x1, rfl, rfl, rfl, n1⟩ := open_int Tryz.underlying3 (hval 1 3 v1 rfl rfl) h1
  have m1 : -9223372036854775808 ≤ x1 ∧ x1 ≤ 9223372036854775807 := by have := bounds_i64 n1; omega
  obtain ⟨y2, rfl, rfl, rfl, n2⟩ := open_int Tryz.underlying40 (hval 2 40 v2 rfl rfl) h2
  obtain ⟨x2, rfl⟩ := nat_of (bounds_u16 n2).1
  have m2 : x2 < 65536 := by have := (bounds_u16 n2).2; omega
  clear hA0 hval0
  refine (walk x0 x1 x2 W (of_laid hL) m0 m1 m2).mono fun e W' ⟨he, bel⟩ => ?_
  subst he
  exact ⟨_, rfl, _, _, _, [], _, [], hW', trodAll_mk1 (shut_bool Tryz.underlying4 _), (trodAll_cons_mk (shut_string Tryz.underlying9 m0) (trodAll_cons_mk (shut_int Tryz.underlying3 n1) (trodAll_cons_mk (shut_int Tryz.underlying40 n2) trodAll_mk0))), rfl, bel.frame _, fun h => by cases h⟩
set_option maxHeartbeats 4000000 in
theorem jf_a : (Rows.auditRisesRow.inPlace == Tryz.pinned.checked.prog.inPlace 5) = true := by kernel_rfl
set_option maxHeartbeats 4000000 in
theorem jf_b : (Rows.auditRisesRow.unfollowed == Tryz.pinned.checked.prog.unfollowed 5) = true := by kernel_rfl
set_option maxHeartbeats 4000000 in
theorem jf_c : (Rows.auditRisesRow.recurses == Tryz.pinned.checked.prog.recurses 5) = true := by kernel_rfl
set_option maxHeartbeats 4000000 in
theorem jf_d : (Rows.auditRisesRow.named == Tryz.pinned.checked.prog.varsNamed 5) = true := by kernel_rfl
set_option maxHeartbeats 4000000 in
theorem closed : joinedFacts Tryz.pinned.checked.prog 5 Tryz.f5 Rows.auditRisesSpec Rows.auditRisesRow = true := by
  unfold joinedFacts
  rw [jf_a, jf_b, jf_c, jf_d]
  kernel_rfl
set_option maxHeartbeats 4000000 in
theorem over : Rows.auditRisesRow.holds Tryz.pinned (OpenSpec.ofChange Rows.auditRisesSpec) :=
  OpenClaim.holds_of_wide 5 Tryz.f5 rfl rfl rfl rfl rfl rfl rfl ⟨rfl, rfl, rfl, rfl, rfl⟩ rfl rfl rfl rfl rfl (by as_aux_lemma => kernel_rfl) Tryz.func5 closed
    (of_decide_eq_true (by as_aux_lemma => kernel_rfl)) (by as_aux_lemma => (unfold Func.isWrapper; first | (rw [if_pos (by decide +kernel)]; kernel_rfl) | (rw [if_neg (by decide +kernel)]; exact ⟨rfl, rfl⟩)))
    (fun os started H enc _ => lifted os started H enc)
theorem tied : Rows.AuditRisesCardSaid :=
  Claim7.holds_tied_plain_at .later [] [.data, .data, .data, .data, .sentinel, .sentinel, .pinned] true (true, "4389a38cf8bdb3b6a522128dc85a3fde8a01b18ce967c32f47a64e2345e0551d") true
    over (fun _ h => by cases h) (by kernel_rfl) (fun _ h => by cases h) auditRises_row_tie rfl ⟨rfl, rfl⟩ (by kernel_rfl) rfl
    (fun f fn hf hfn => by
      obtain rfl : f = 5 := Option.some.inj ((show Tryz.prog.funcNamed "gazetteer/gazetteerlaw19.AuditRises" = some 5 by kernel_rfl).symm.trans hf) |>.symm
      obtain rfl : fn = Tryz.f5 := (Option.some.inj (Tryz.func5.symm.trans hfn)).symm
      exact ⟨by kernel_rfl, fun j t ht => by
        rw [Tryz.params5] at ht
        have hm : t ∈ [9, 3, 40] := by simpa using Array.mem_of_getElem? ht
        have hall : ([9, 3, 40].all fun u => !Tryz.prog.wantsStandIn u) = true := by kernel_rfl
        exact (show Tryz.prog.wantsStandIn t = false by simpa using List.all_eq_true.1 hall t hm)⟩)
    (by kernel_rfl)
end Go.Proofs.YtjkgkmmkehnggaaGreatDoor.auditRises
namespace Go.Proofs.YtjkgkmmkehnggaaGreatDoor
theorem auditRises_holds : Rows.AuditRisesCardSaid := auditRises.tied
end Go.Proofs.YtjkgkmmkehnggaaGreatDoor
