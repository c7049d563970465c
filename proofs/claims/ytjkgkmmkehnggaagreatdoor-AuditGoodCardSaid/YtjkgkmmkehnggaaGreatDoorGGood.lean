/- AuditGood: for every input that fits its types: true; the arguments read behind the call as they read before. No condition. -/
import Derived.Test.YtjkgkmmkehnggaaGreatDoorRows
import Derived.Test.YtjkgkmmkehnggaaGreatDoorTie
import Derived.Test.YtjkgkmmkehnggaaGreatDoorCards
import Derived.Test.YtjkgkmmkehnggaaGreatDoorL
import Derived.Test.YtjkgkmmkehnggaaGreatDoorYZ8
import Derived.Test.YtjkgkmmkehnggaaGreatDoorYa9
import Derived.LaidMore
import Derived.Stop.Joined
import Derived.SevenTiedAt
import Derived.ChangeOld
import Derived.Below
import Derived.WalkKit
import Derived.ProofKit
import Derived.OpenShut
import Derived.Carry
import Derived.Lay
import Derived.ChangeMaps5
import Derived.ShutString
namespace Go.Proofs.YtjkgkmmkehnggaaGreatDoor.auditGood
open Go.ChangeShapes Go.WideShapes Go.ChangeAt Go.RowKit
open Go.ChangeMaps (open_string shut_string)
set_option linter.unusedVariables false
theorem walk (v0 : Value) (l0 : List It) (x1 : Int × Int × ByteArray) (x2 : Nat) (w : World) (hq : QTab w) (s0 : ItsAt w v0 l0) (m0 : ∀ e ∈ l0, e.1 < 18446744073709551616 ∧ e.2.size ≤ maxLen) (m1 : PlanIn x1) (m2 : x2 < 256) :
    Calls Tryz.prog 4 #[v0, .agg #[.int .i64 x1.1, .int .u8 x1.2.1, .string x1.2.2], .int .u8 (x2 : Nat)] w fun e w' => e = .returned (.bool true) ∧ Below w.heap.size w w' :=
  xvX v0 l0 x1 x2 w hq s0 m0 m1 m2
set_option maxRecDepth 100000 in
theorem lifted (os : Os) (started : os.Started) (H : Type) (enc : TypeId × Value → H) :
    ReturnsInHanded {} Tryz.checked os 4 .any (fun w args => (Rows.auditGoodSpec.pre enc Tryz.prog Tryz.f4 [] false w args ∧ laidMetH Tryz.prog laidQ w) ∧ sizedMet enc Tryz.prog Tryz.f4 (OpenSpec.ofChange Rows.auditGoodSpec) false w args)
      (Rows.auditGoodSpec.post enc Tryz.prog Tryz.f4 false true false false) := by
  refine returnsInHanded_of_change_and (C := Tryz.checked) (X := fun w _ => laidMetH Tryz.prog laidQ w) (fun _ _ _ hh h => h.of_heap hh) lOwn started (by kernel_rfl) Tryz.func4
    (ChangeSpec.witness_shaped (enc := enc) (C := Tryz.checked) (os := os) (X := fun w _ => laidMetH Tryz.prog laidQ w) false (World.laidAll Tryz.prog os laidQ) #[.slice none 0 0, .agg #[.int .i64 0, .int .u8 0, .string { data := #[] }], .int .u8 0] 8 (World.laidAll_os _ _ _) (World.shaped_of_ZipB (by kernel_rfl) (by kernel_rfl)) (by kernel_rfl) (by kernel_rfl) (by kernel_rfl) (door_met os _)) ?_
  intro W base args ds gs before hval0 hW _ _ hL _
  have hval : ∀ (j : Nat) t v, Tryz.f4.params[j]? = some t → args[j]? = some v → Value.okWide Tryz.prog W .any base t v := hval0
  have hW' := hW
  obtain ⟨p, q, hA0, hV, rfl, hfz, hnd⟩ := hW
  have hA : DataW.TrodAll enc Tryz.prog W 0 (fun _ => true) true Tryz.f4.params.toList args.toList ds p := hA0
  rw [Tryz.params4] at hA hval
  obtain ⟨v0, vs0, d0, ds0, p0, q0, hargs, rfl, rfl, h0, r0⟩ := trodAll_cons hA
  obtain ⟨v1, vs1, d1, ds1, p1, q1, rfl, rfl, rfl, h1, r1⟩ := trodAll_cons r0
  obtain ⟨v2, vs2, d2, ds2, p2, q2, rfl, rfl, rfl, h2, r2⟩ := trodAll_cons r1
  obtain ⟨rfl, rfl, rfl⟩ := trodAll_nil r2
  obtain rfl : args = #[v0, v1, v2] := by cases args; simp_all
  obtain ⟨rfl, rfl⟩ := trodVars_none hV
  have k0 := h0
  have lt0 : ∀ x ∈ p0, x.block < W.heap.size := by obtain ⟨m, hm⟩ := k0; exact DataW.trod_lt m _ _ _ hm
  obtain ⟨l0, s0, m0⟩ := its_opened (hval 0 26 v0 rfl rfl) h0
  have k1 := h1
  have lt1 : ∀ x ∈ p1, x.block < W.heap.size := by obtain ⟨m, hm⟩ := k1; exact DataW.trod_lt m _ _ _ hm
  obtain ⟨x1, rfl, m1⟩ := plan_opened (hval 1 28 v1 rfl rfl) h1
  obtain ⟨y2, rfl, rfl, rfl, n2⟩ := open_int Tryz.underlying5 (hval 2 5 v2 rfl rfl) h2
  obtain ⟨x2, rfl⟩ := nat_of (bounds_u8 n2).1
  have m2 : x2 < 256 := by have := (bounds_u8 n2).2; omega
  clear hA0 hval0
  refine (walk v0 l0 x1 x2 W (of_laid hL) s0 m0 m1 m2).mono fun e W' ⟨he, bel⟩ => ?_
  subst he
  exact ⟨_, rfl, _, _, _, [], _, [], hW', trodAll_mk1 (shut_bool Tryz.underlying4 _), (trodAll_cons_mk (Below.trod lLaid (by kernel_rfl) (of_decide_eq_true (by kernel_rfl)) k0 bel lt0) (trodAll_cons_mk (Below.trod lLaid (by kernel_rfl) (of_decide_eq_true (by kernel_rfl)) k1 bel lt1) (trodAll_cons_mk (shut_int Tryz.underlying5 n2) trodAll_mk0))), rfl, bel.frame _, fun h => by cases h⟩
set_option maxHeartbeats 4000000 in
theorem jf_a : (Rows.auditGoodRow.inPlace == Tryz.pinned.checked.prog.inPlace 4) = true := by kernel_rfl
set_option maxHeartbeats 4000000 in
theorem jf_b : (Rows.auditGoodRow.unfollowed == Tryz.pinned.checked.prog.unfollowed 4) = true := by kernel_rfl
set_option maxHeartbeats 4000000 in
theorem jf_c : (Rows.auditGoodRow.recurses == Tryz.pinned.checked.prog.recurses 4) = true := by kernel_rfl
set_option maxHeartbeats 4000000 in
theorem jf_d : (Rows.auditGoodRow.named == Tryz.pinned.checked.prog.varsNamed 4) = true := by kernel_rfl
set_option maxHeartbeats 4000000 in
theorem closed : joinedFacts Tryz.pinned.checked.prog 4 Tryz.f4 Rows.auditGoodSpec Rows.auditGoodRow = true := by
  unfold joinedFacts
  rw [jf_a, jf_b, jf_c, jf_d]
  kernel_rfl
set_option maxHeartbeats 4000000 in
theorem over : Rows.auditGoodRow.holds Tryz.pinned (OpenSpec.ofChange Rows.auditGoodSpec) :=
  OpenClaim.holds_of_wide 4 Tryz.f4 rfl rfl rfl rfl rfl rfl rfl ⟨rfl, rfl, rfl, rfl, rfl⟩ rfl rfl rfl rfl rfl (by as_aux_lemma => kernel_rfl) Tryz.func4 closed
    (of_decide_eq_true (by as_aux_lemma => kernel_rfl)) (by as_aux_lemma => (unfold Func.isWrapper; first | (rw [if_pos (by decide +kernel)]; kernel_rfl) | (rw [if_neg (by decide +kernel)]; exact ⟨rfl, rfl⟩)))
    (fun os started H enc _ => lifted os started H enc)
theorem tied : Rows.AuditGoodCardSaid :=
  Claim7.holds_tied_plain_at .later [] [.data, .data, .data, .data, .sentinel, .sentinel, .pinned] true (true, "4389a38cf8bdb3b6a522128dc85a3fde8a01b18ce967c32f47a64e2345e0551d") true
    over (fun _ h => by cases h) (by kernel_rfl) (fun _ h => by cases h) auditGood_row_tie rfl ⟨rfl, rfl⟩ (by kernel_rfl) rfl
    (fun f fn hf hfn => by
      obtain rfl : f = 4 := Option.some.inj ((show Tryz.prog.funcNamed "gazetteer/gazetteerlaw19.AuditGood" = some 4 by kernel_rfl).symm.trans hf) |>.symm
      obtain rfl : fn = Tryz.f4 := (Option.some.inj (Tryz.func4.symm.trans hfn)).symm
      exact ⟨by kernel_rfl, fun j t ht => by
        rw [Tryz.params4] at ht
        have hm : t ∈ [26, 28, 5] := by simpa using Array.mem_of_getElem? ht
        have hall : ([26, 28, 5].all fun u => !Tryz.prog.wantsStandIn u) = true := by kernel_rfl
        exact (show Tryz.prog.wantsStandIn t = false by simpa using List.all_eq_true.1 hall t hm)⟩)
    (by kernel_rfl)
end Go.Proofs.YtjkgkmmkehnggaaGreatDoor.auditGood
namespace Go.Proofs.YtjkgkmmkehnggaaGreatDoor
theorem auditGood_holds : Rows.AuditGoodCardSaid := auditGood.tied
end Go.Proofs.YtjkgkmmkehnggaaGreatDoor
