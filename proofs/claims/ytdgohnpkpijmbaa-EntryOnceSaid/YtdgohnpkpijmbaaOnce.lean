/- EntryOnce holds of the program as it landed: of a row that may be, no identifier is told by two entries, and each beginning of it, and each end, may be, too. No condition. -/
import Derived.Test.YtdgohnpkpijmbaaRows
import Derived.Test.YtdgohnpkpijmbaaEz
import Derived.Test.YtdgohnpkpijmbaaWoE
import Derived.ChangeOld
import Derived.Below
import Derived.WalkKit
import Derived.ProofKit
import Derived.OpenShut
import Derived.Carry
import Derived.ChangeMaps5
import Derived.ShutString
import Derived.SizedLaws
namespace Go.Proofs.Ytdgohnpkpijmbaa.entryOnce
open Go.ChangeShapes Go.WideShapes Go.ChangeAt Go.RowKit
open Go.ChangeMaps (open_string shut_string)
set_option linter.unusedVariables false
theorem own : ownKnob Try.prog.godebug = none := by kernel_rfl
theorem walk (v0 : Value) (l0 : List En) (x1 : Int) (x2 : Int) (w : World) (s0 : EnsAt w v0 l0) (m0 : MaysN l0) (z0 : l0.length * 24 ≤ 140737488351232) (m1 : (Lit.int .u64 x1).wf = true) (m2 : (Lit.int .u8 x2).wf = true) :
    Calls Try.prog 5 #[v0, .int .u64 x1, .int .u8 x2] w fun e w' => e = .returned (.bool true) ∧ Below w.heap.size w w' :=
  once_law v0 l0 x1 x2 w s0 m0 z0 (bounds_u8 m2).1 (bounds_u8 m2).2
set_option maxRecDepth 100000 in
theorem lifted (os : Os) (started : os.Started) (H : Type) (enc : TypeId × Value → H) :
    ReturnsInHanded {} Try.checked os 5 .any (Rows.entryOnceSpec.pre6 enc Try.prog Try.f5 Rows.entryOnceRow.domain false) (Rows.entryOnceSpec.post enc Try.prog Try.f5 false true false false) := by
  refine returnsInHanded_of_change_sized (C := Try.checked) own started (by kernel_rfl) Try.func5
    (ChangeSpec.witness6 (enc := enc) (C := Try.checked) false ⟨#[], #[.slice none 0 0, .int .u64 0, .int .u8 0], []⟩ 8 (by kernel_rfl) (by kernel_rfl) (by kernel_rfl) (by kernel_rfl)) ?_
  intro W base args ds gs before hval0 hW hcnd hsz _
  have hval : ∀ (j : Nat) t v, Try.f5.params[j]? = some t → args[j]? = some v → Value.okWide Try.prog W .any base t v := hval0
  have hW' := hW
  obtain ⟨p, q, hA0, hV, rfl, hfz, hnd⟩ := hW
  have hA : DataW.TrodAll enc Try.prog W 0 (fun _ => true) true Try.f5.params.toList args.toList ds p := hA0
  rw [Try.params5] at hA hval
  obtain ⟨v0, vs0, d0, ds0, p0, q0, hargs, rfl, rfl, h0, r0⟩ := trodAll_cons hA
  obtain ⟨v1, vs1, d1, ds1, p1, q1, rfl, rfl, rfl, h1, r1⟩ := trodAll_cons r0
  obtain ⟨v2, vs2, d2, ds2, p2, q2, rfl, rfl, rfl, h2, r2⟩ := trodAll_cons r1
  obtain ⟨rfl, rfl, rfl⟩ := trodAll_nil r2
  obtain rfl : args = #[v0, v1, v2] := by cases args; simp_all
  obtain ⟨rfl, rfl⟩ := trodVars_none hV
  have k0 := h0
  have lt0 : ∀ x ∈ p0, x.block < W.heap.size := by obtain ⟨m, hm⟩ := k0; exact DataW.trod_lt m _ _ _ hm
  obtain ⟨l0, s0, m0, q0'⟩ := ents_opened (hval 0 35 v0 rfl rfl) h0
  have z0 : l0.length * 24 ≤ 140737488351232 := by
    rcases q0' with rfl | ⟨es, rest, rfl, hes⟩
    · simp
    · have hzz := sized_slice hsz (j := 0) (t := 35) (e := 25) rfl rfl Try.underlying35
      have hby : Try.checked.prog.bytesOf 25 = 24 := by kernel_rfl
      rw [hby] at hzz
      unfold reachBytes at hzz
      omega
  obtain ⟨x1, rfl, rfl, rfl, m1⟩ := open_int Try.underlying22 (hval 1 22 v1 rfl rfl) h1
  obtain ⟨x2, rfl, rfl, rfl, m2⟩ := open_int Try.underlying5 (hval 2 5 v2 rfl rfl) h2
  clear hA0 hval0
  refine (walk v0 l0 x1 x2 W s0 m0 z0 m1 m2).mono fun e W' ⟨he, bel⟩ => ?_
  subst he
  exact ⟨_, rfl, _, _, _, [], _, [], hW', trodAll_mk1 (shut_bool Try.underlying4 _), (trodAll_cons_mk (Below.trod lLaid (by kernel_rfl) (of_decide_eq_true (by kernel_rfl)) k0 bel lt0) (trodAll_cons_mk (shut_int Try.underlying22 m1) (trodAll_cons_mk (shut_int Try.underlying5 m2) trodAll_mk0))), rfl, bel.frame _, fun h => by cases h⟩
theorem over : Rows.entryOnceRow.holds Try.pinned (OpenSpec.ofChange Rows.entryOnceSpec) :=
  OpenClaim.holds_of_wide 5 Try.f5 rfl rfl rfl rfl rfl rfl rfl ⟨rfl, rfl, rfl, rfl, rfl⟩ rfl rfl rfl rfl rfl (by kernel_rfl) Try.func5 (by kernel_rfl)
    (of_decide_eq_true (by kernel_rfl)) (by unfold Func.isWrapper; first | (rw [if_pos (by decide +kernel)]; kernel_rfl) | (rw [if_neg (by decide +kernel)]; exact ⟨rfl, rfl⟩))
    (fun os started H enc _ => lifted os started H enc)
end Go.Proofs.Ytdgohnpkpijmbaa.entryOnce
namespace Go.Proofs.Ytdgohnpkpijmbaa
theorem entryOnce_holds : Rows.EntryOnceSaid := entryOnce.over
end Go.Proofs.Ytdgohnpkpijmbaa
