/- LittleTurns of layer 1 returns true for every number x, every number v with a sign and every n, and its arguments read as before. No condition. -/
import Derived.Test.YtgdekiimjlpmfaaRows
import Derived.Test.YtgdekiimjlpmfaaW
import Derived.WalkKit
import Derived.ProofKit
import Derived.OpenShut
import Derived.ShutString
import Derived.ChangeOld
import Derived.Below
namespace Go.Proofs.Ytgdekiimjlpmfaa.littleTurns
open Go.ChangeShapes Go.WideShapes Go.ChangeAt Go.RowKit
open Go.ChangeMaps (open_string shut_string)
set_option linter.unusedVariables false      -- a walk need not use every 'w<i>' (that an integer argument fits its kind)

theorem own : ownKnob Try.prog.godebug = none := by kernel_rfl

/-! ### THE WALK -/
theorem cmp_low (x n : Int) (h0 : 1 ≤ n) (h1 : n ≤ 8) : (low x n == IntKind.u64.wrap (x * 2 ^ (64 - 8 * n).toNat) / 2 ^ (64 - 8 * n).toNat) = true := by
  rw [show 64 - 8 * n = 8 * (8 - n) from by omega, shifts_low x n h0 h1]
  simp
theorem walk_arg (a0 : Int) (a1 : Int) (a2 : Int) (w : World) (h : a2 < 1 ∨ 8 < a2) :
    Calls Try.prog 7 #[.int .u64 a0, .int .i64 a1, .int .i64 a2] w fun e w' => e = .returned (.bool true) ∧ Below w.heap.size w w' := by
  go_enter Try.func7, Try.ntmps7
  go_wp2_with fail
  refine (unsigned_arg _ _ _ h).mono ?_
  rintro e w' ⟨rfl, rfl⟩
  go_wp2_with fail
  refine (signed_no _ _ _ h).mono ?_
  rintro e w' ⟨rfl, rfl⟩
  go_wp2_with fail
  refine (awake_any _).mono ?_
  rintro e w1 ⟨rfl, hb⟩
  go_wp2_with fail
  go_ret
  exact ⟨rfl, hb⟩
theorem walk_yes (a0 : Int) (a1 : Int) (a2 : Int) (w : World) (h0 : 1 ≤ a2) (h1 : a2 ≤ 8) (x0 : 0 ≤ a0) (hr : inr a1 a2 = true) :
    Calls Try.prog 7 #[.int .u64 a0, .int .i64 a1, .int .i64 a2] w fun e w' => e = .returned (.bool true) ∧ Below w.heap.size w w' := by
  go_enter Try.func7, Try.ntmps7
  go_wp2_with fail
  refine (unsigned_yes _ _ _ h0 h1 hr).mono ?_
  rintro e w' ⟨rfl, rfl⟩
  have HR := Lib.hid hr; clear hr
  go_wp2_with fail
  have ns := signed_yes (low a1 a2) a2 w h0 h1
  rw [sgn_low, sgn_back a1 a2 h0 h1 HR.out] at ns
  refine ns.mono ?_
  clear ns
  rintro e w' ⟨rfl, rfl⟩
  have hq : a2 < 8 → (low a1 a2 / 2 ^ (8 * a2).toNat != 0) = false := fun h8 => by rw [low_small a1 a2 h0 h8]; rfl
  have HQ := Lib.hid hq; clear hq
  by_cases h8 : a2 < 8
  · have hq := HQ.out h8
    go_wp2_with fail
    refine (signed_yes _ _ _ h0 h1).mono ?_
    rintro e w' ⟨rfl, rfl⟩
    go_wp2_with fail
    have ns := unsigned_yes (sgn a0 a2) a2 w h0 h1 (sgn_inr a0 a2 h0 h1)
    rw [low_sgn a0 a2 h0 h1] at ns
    refine ns.mono ?_
    clear ns
    rintro e w' ⟨rfl, rfl⟩
    have hc := cmp_low a0 a2 h0 h1
    go_wp2_with fail
    refine (awake_any _).mono ?_
    rintro e w1 ⟨rfl, hb⟩
    go_wp2_with fail
    go_ret
    exact ⟨rfl, hb⟩
  · go_wp2_with fail
    refine (signed_yes _ _ _ h0 h1).mono ?_
    rintro e w' ⟨rfl, rfl⟩
    go_wp2_with fail
    have ns := unsigned_yes (sgn a0 a2) a2 w h0 h1 (sgn_inr a0 a2 h0 h1)
    rw [low_sgn a0 a2 h0 h1] at ns
    refine ns.mono ?_
    clear ns
    rintro e w' ⟨rfl, rfl⟩
    have hc := cmp_low a0 a2 h0 h1
    go_wp2_with fail
    refine (awake_any _).mono ?_
    rintro e w1 ⟨rfl, hb⟩
    go_wp2_with fail
    go_ret
    exact ⟨rfl, hb⟩
theorem walk_no (a0 : Int) (a1 : Int) (a2 : Int) (w : World) (h0 : 1 ≤ a2) (h1 : a2 ≤ 8) (x0 : 0 ≤ a0) (hr : inr a1 a2 = false) :
    Calls Try.prog 7 #[.int .u64 a0, .int .i64 a1, .int .i64 a2] w fun e w' => e = .returned (.bool true) ∧ Below w.heap.size w w' := by
  have HR := Lib.hid hr; clear hr
  go_enter Try.func7, Try.ntmps7
  go_wp2_with fail
  refine (unsigned_no _ _ _ h0 h1 HR.out).mono ?_
  rintro e w' ⟨rfl, rfl⟩
  go_wp2_with fail
  refine (signed_yes _ _ _ h0 h1).mono ?_
  rintro e w' ⟨rfl, rfl⟩
  go_wp2_with fail
  have ns := unsigned_yes (sgn a0 a2) a2 w h0 h1 (sgn_inr a0 a2 h0 h1)
  rw [low_sgn a0 a2 h0 h1] at ns
  refine ns.mono ?_
  clear ns
  rintro e w' ⟨rfl, rfl⟩
  have hc := cmp_low a0 a2 h0 h1
  go_wp2_with fail
  refine (awake_any _).mono ?_
  rintro e w1 ⟨rfl, hb⟩
  go_wp2_with fail
  go_ret
  exact ⟨rfl, hb⟩
theorem walk (a0 : Int) (a1 : Int) (a2 : Int) (w0 : (Lit.int .u64 a0).wf = true) (w1 : (Lit.int .i64 a1).wf = true) (w2 : (Lit.int .i64 a2).wf = true) (w : World) :
    Calls Try.prog 7 #[.int .u64 a0, .int .i64 a1, .int .i64 a2] w fun e w' => e = .returned (.bool true) ∧ Below w.heap.size w w' := by
  have x0 : 0 ≤ a0 := (bounds_u64 w0).1
  by_cases h : 1 ≤ a2 ∧ a2 ≤ 8
  · cases hr : inr a1 a2
    · exact walk_no a0 a1 a2 w h.1 h.2 x0 hr
    · exact walk_yes a0 a1 a2 w h.1 h.2 x0 hr
  · exact walk_arg a0 a1 a2 w (by omega)

/-! ### THE ROW's STEP: WRITTEN OUT: LEAVE IT -/
set_option maxRecDepth 100000 in
theorem lifted (os : Os) (started : os.Started) (H : Type) (enc : TypeId × Value → H) :
    ReturnsInHanded {} Try.checked os 7 .any (Rows.littleTurnsSpec.pre6 enc Try.prog Try.f7 Rows.littleTurnsRow.domain false) (Rows.littleTurnsSpec.post enc Try.prog Try.f7 false true false false) := by
  refine returnsInHanded_of_change (C := Try.checked) own started (by kernel_rfl) Try.func7
    (ChangeSpec.witness6 (enc := enc) (C := Try.checked) false ⟨#[], #[.int .u64 0, .int .i64 0, .int .i64 0], []⟩ 8 (by kernel_rfl) (by kernel_rfl) (by kernel_rfl) (by kernel_rfl)) ?_
  intro W base args ds gs before hval0 hW hcnd _
  have hval : ∀ (j : Nat) t v, Try.f7.params[j]? = some t → args[j]? = some v → Value.okWide Try.prog W .any base t v := hval0
  have hW' := hW
  obtain ⟨p, q, hA0, hV, rfl, hfz, hnd⟩ := hW
  have hA : DataW.TrodAll enc Try.prog W 0 (fun _ => true) true Try.f7.params.toList args.toList ds p := hA0
  rw [Try.params7] at hA hval
  obtain ⟨v0, vs0, d0, ds0, p0, q0, hargs, rfl, rfl, h0, r0⟩ := trodAll_cons hA
  obtain ⟨v1, vs1, d1, ds1, p1, q1, rfl, rfl, rfl, h1, r1⟩ := trodAll_cons r0
  obtain ⟨v2, vs2, d2, ds2, p2, q2, rfl, rfl, rfl, h2, r2⟩ := trodAll_cons r1
  obtain ⟨rfl, rfl, rfl⟩ := trodAll_nil r2
  obtain rfl : args = #[v0, v1, v2] := by cases args; simp_all
  obtain ⟨rfl, rfl⟩ := trodVars_none hV
  obtain ⟨a0, rfl, rfl, rfl, w0⟩ := open_int Try.underlying23 (hval 0 23 v0 rfl rfl) h0
  obtain ⟨a1, rfl, rfl, rfl, w1⟩ := open_int Try.underlying2 (hval 1 2 v1 rfl rfl) h1
  obtain ⟨a2, rfl, rfl, rfl, w2⟩ := open_int Try.underlying3 (hval 2 3 v2 rfl rfl) h2
  clear hA0 hval0
  refine (walk a0 a1 a2 w0 w1 w2 W).mono fun e W' ⟨he, bel⟩ => ?_
  subst he
  exact ⟨_, rfl, _, _, _, [], _, [], hW', trodAll_mk1 (shut_bool Try.underlying4 _), (trodAll_cons_mk (shut_int Try.underlying23 w0) (trodAll_cons_mk (shut_int Try.underlying2 w1) (trodAll_cons_mk (shut_int Try.underlying3 w2) trodAll_mk0))), rfl, bel.frame _, fun h => by cases h⟩

theorem over : Rows.littleTurnsRow.holds Try.pinned (OpenSpec.ofChange Rows.littleTurnsSpec) :=
  OpenClaim.holds_of_wide 7 Try.f7 rfl rfl rfl rfl rfl rfl rfl ⟨rfl, rfl, rfl, rfl, rfl⟩ rfl rfl rfl rfl rfl (by kernel_rfl) Try.func7 (by kernel_rfl)
    (of_decide_eq_true (by kernel_rfl)) (by unfold Func.isWrapper; first | (rw [if_pos (by decide +kernel)]; kernel_rfl) | (rw [if_neg (by decide +kernel)]; exact ⟨rfl, rfl⟩))
    (fun os started H enc _ => lifted os started H enc)

end Go.Proofs.Ytgdekiimjlpmfaa.littleTurns
namespace Go.Proofs.Ytgdekiimjlpmfaa
theorem littleTurns_holds : Rows.LittleTurnsSaid := littleTurns.over
end Go.Proofs.Ytgdekiimjlpmfaa
