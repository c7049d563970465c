/- The contract of the document's Zooms. -/
import Derived.Test.YtmmjdlpoiibhaaaLb
import Derived.Test.YtmmjdlpoiibhaaaLz
namespace Go.Proofs.Ytmmjdlpoiibhaaa
open Go.RowKit
set_option maxRecDepth 20000
set_option linter.unusedVariables false
set_option linter.unusedSimpArgs false
def zlo : List It → Int
  | [] => 0
  | t :: _ => zofV (t.1 : Int)
def zhi (l : List It) : Int := match l.getLast? with | none => 0 | some t => zofV (t.1 : Int)
set_option maxRecDepth 20000 in
set_option maxHeartbeats 1000000 in
theorem rzooms_any (v : Value) (l : List It) (w : World) (hv : ItsAt w v l) :
    Calls Try.prog 19 #[v] w fun e w' => e = .returned (.tuple #[.int .i64 (zlo l), .int .i64 (zhi l), .bool (decide (0 < l.length))]) ∧ Below w.heap.size w w' := by
  obtain ⟨al, cap, rfl, hcap, hmx, hc⟩ := hv
  have hmx' : l.length ≤ maxLen := by omega
  unfold maxLen at hmx'
  cases l with
  | nil =>
    go_enter Try.func19, Try.ntmps19
    go_wp2_with fail
    refine bodyPost_ret (results_tmp3 rfl _ _ _) rfl ⟨rfl, Below.refl _ _⟩
  | cons t m =>
    obtain ⟨n, hn⟩ : ∃ n, (t :: m).length = n + 1 := ⟨m.length, by simp⟩
    obtain ⟨u, hu⟩ : ∃ u, (t :: m)[n]? = some u := ⟨_, List.getElem?_eq_getElem (by omega)⟩
    obtain ⟨g, off, rfl, hg, c0, c1⟩ := hc 0 t rfl
    obtain ⟨g', off', e, hg', d0, d1⟩ := hc n u hu
    injection e with e
    injection e with e1 e2
    subst e1 e2
    have hlast : zhi (t :: m) = zofV (u.1 : Int) := by
      unfold zhi
      rw [List.getLast?_eq_getElem?, hn, Nat.add_sub_cancel, hu]
    have hpos : decide (0 < (t :: m).length) = true := decide_eq_true (by omega)
    rw [hlast, hpos, show zlo (t :: m) = zofV (t.1 : Int) from rfl]
    rw [hn] at hcap hmx' ⊢
    obtain ⟨x, s⟩ := t
    obtain ⟨y, s'⟩ := u
    simp only at c0 c1 d0 d1 ⊢
    have HZ1 : Hid (∀ W, Calls Try.prog 36 #[.int .u64 x] W fun e w' => e = .returned (.int .i64 (zofV x)) ∧ w' = W) := Lib.hid (fun W => (rzoom_any (x : Int) (by omega) W).mono (fun e w' h => ⟨h.1, h.2.symm⟩))
    have HZ2 : Hid (∀ W, Calls Try.prog 36 #[.int .u64 y] W fun e w' => e = .returned (.int .i64 (zofV y)) ∧ w' = W) := Lib.hid (fun W => (rzoom_any (y : Int) (by omega) W).mono (fun e w' h => ⟨h.1, h.2.symm⟩))
    generalize zofV (x : Int) = zx at *
    generalize zofV (y : Int) = zy at *
    simp only [Nat.zero_mul, Nat.add_zero] at c0 c1
    clear hc hu hlast hpos hg'
    go_enter Try.func19, Try.ntmps19
    go_wp2_with fail
    go_quiet (first | (go_at_call 36; (with_reducible refine Calls.quiet_of_same (HZ1.out _))) | (go_at_call 36; (with_reducible refine Calls.quiet_of_same (HZ2.out _))))
    go_wp2_with fail
    refine bodyPost_ret (results_tmp3 rfl _ _ _) rfl ⟨rfl, ⟨rfl, rfl, rfl, Nat.le_refl _, fun _ _ => rfl⟩⟩
end Go.Proofs.Ytmmjdlpoiibhaaa
