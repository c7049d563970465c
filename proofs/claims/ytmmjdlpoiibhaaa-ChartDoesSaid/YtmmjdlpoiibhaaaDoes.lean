/- Whatever calls of Put, Del and Get come in: after each of them the program's chart has the tiles, the errors, the bytes, the zooms and the length that the document's list has, and the chart ahead of it is as it was. No condition: more than 60 calls, or more than 3000 bytes, return through awake, which is proved true in every world. -/
import Derived.Test.YtmmjdlpoiibhaaaRows
import Derived.Test.YtmmjdlpoiibhaaaLr
import Derived.Test.YtmmjdlpoiibhaaaWd
import Derived.ChangeOld
import Derived.Below
import Derived.WalkKit
import Derived.ProofKit
import Derived.OpenShut
import Derived.Carry
import Derived.ChangeMaps5
import Derived.ShutString
import Derived.SizedLaws
namespace Go.Proofs.Ytmmjdlpoiibhaaa.chartDoes
open Go.ChangeShapes Go.WideShapes Go.ChangeAt Go.RowKit
open Go.ChangeMaps (open_string shut_string)
set_option linter.unusedVariables false
theorem own : ownKnob Try.prog.godebug = none := by kernel_rfl
theorem walk (v0 : Value) (l0 : List OpC) (x1 : Nat) (w : World) (s0 : OpsAt w v0 l0) (m0 : ∀ e ∈ l0, (e.d < 256 ∧ e.id < 18446744073709551616 ∧ e.t.size ≤ maxLen)) (m1 : x1 < 18446744073709551616) :
    Calls Try.prog 3 #[v0, .int .u64 (x1 : Nat)] w fun e w' => e = .returned (.bool true) ∧ Below w.heap.size w w' :=
  chartdoes_law v0 l0 x1 w s0 m1 (fun e he => (m0 e he).1) (fun e he => (m0 e he).2.1) (fun e he => (m0 e he).2.2)
set_option maxRecDepth 100000 in
theorem lifted (os : Os) (started : os.Started) (H : Type) (enc : TypeId × Value → H) :
    ReturnsInHanded {} Try.checked os 3 .any (Rows.chartDoesSpec.pre6 enc Try.prog Try.f3 Rows.chartDoesRow.domain false) (Rows.chartDoesSpec.post enc Try.prog Try.f3 false true false false) := by
  refine returnsInHanded_of_change (C := Try.checked) own started (by kernel_rfl) Try.func3
    (ChangeSpec.witness6 (enc := enc) (C := Try.checked) false ⟨#[], #[.slice none 0 0, .int .u64 0], []⟩ 8 (by kernel_rfl) (by kernel_rfl) (by kernel_rfl) (by kernel_rfl)) ?_
  intro W base args ds gs before hval0 hW hcnd _
  have hval : ∀ (j : Nat) t v, Try.f3.params[j]? = some t → args[j]? = some v → Value.okWide Try.prog W .any base t v := hval0
  have hW' := hW
  obtain ⟨p, q, hA0, hV, rfl, hfz, hnd⟩ := hW
  have hA : DataW.TrodAll enc Try.prog W 0 (fun _ => true) true Try.f3.params.toList args.toList ds p := hA0
  rw [Try.params3] at hA hval
  obtain ⟨v0, vs0, d0, ds0, p0, q0, hargs, rfl, rfl, h0, r0⟩ := trodAll_cons hA
  obtain ⟨v1, vs1, d1, ds1, p1, q1, rfl, rfl, rfl, h1, r1⟩ := trodAll_cons r0
  obtain ⟨rfl, rfl, rfl⟩ := trodAll_nil r1
  obtain rfl : args = #[v0, v1] := by cases args; simp_all
  obtain ⟨rfl, rfl⟩ := trodVars_none hV
  have k0 := h0
  have lt0 : ∀ x ∈ p0, x.block < W.heap.size := by obtain ⟨m, hm⟩ := k0; exact DataW.trod_lt m _ _ _ hm
  obtain ⟨l0, s0, m0⟩ := opcs_opened (hval 0 22 v0 rfl rfl) h0
  have k1 := h1
  have lt1 : ∀ x ∈ p1, x.block < W.heap.size := by obtain ⟨m, hm⟩ := k1; exact DataW.trod_lt m _ _ _ hm
  obtain ⟨y1, rfl, rfl, rfl, n1⟩ := open_int Try.underlying23 (hval 1 23 v1 rfl rfl) h1
  obtain ⟨x1, rfl⟩ := nat_of (bounds_u64 n1).1
  have m1 : x1 < 18446744073709551616 := by have := (bounds_u64 n1).2; omega
  clear hA0 hval0
  refine (walk v0 l0 x1 W s0 m0 m1).mono fun e W' ⟨he, bel⟩ => ?_
  subst he
  exact ⟨_, rfl, _, _, _, [], _, [], hW', trodAll_mk1 (shut_bool Try.underlying4 _), (trodAll_cons_mk (Below.trod lLaid (by kernel_rfl) (of_decide_eq_true (by kernel_rfl)) k0 bel lt0) (trodAll_cons_mk (shut_int Try.underlying23 n1) trodAll_mk0)), rfl, bel.frame _, fun h => by cases h⟩
theorem over : Rows.chartDoesRow.holds Try.pinned (OpenSpec.ofChange Rows.chartDoesSpec) :=
  OpenClaim.holds_of_wide 3 Try.f3 rfl rfl rfl rfl rfl rfl rfl ⟨rfl, rfl, rfl, rfl, rfl⟩ rfl rfl rfl rfl rfl (by kernel_rfl) Try.func3 (by kernel_rfl)
    (of_decide_eq_true (by kernel_rfl)) (by unfold Func.isWrapper; first | (rw [if_pos (by decide +kernel)]; kernel_rfl) | (rw [if_neg (by decide +kernel)]; exact ⟨rfl, rfl⟩))
    (fun os started H enc _ => lifted os started H enc)
end Go.Proofs.Ytmmjdlpoiibhaaa.chartDoes
namespace Go.Proofs.Ytmmjdlpoiibhaaa
theorem chartDoes_holds : Rows.ChartDoesSaid := chartDoes.over
end Go.Proofs.Ytmmjdlpoiibhaaa
