/- The document's Cut. -/
import Derived.Test.YtbkodaijigcebaaUc
namespace Go.Proofs.Ytbkodaijigcebaa
open Go.RowKit
set_option maxRecDepth 20000
set_option linter.unusedVariables false
set_option linter.unusedSimpArgs false
theorem ensAt_form {w : World} {v : Value} {l : List En} (h : EnsAt w v l) : ∃ a cap, v = .slice a l.length cap := by
  obtain ⟨a, cap, e, _⟩ := h
  exact ⟨a, cap, e⟩
def lenS : Value → Nat
  | .slice _ n _ => n
  | _ => 0
/-- What Cut keeps: the rest of the row, the pieces made. -/
structure CutS (w W : World) (E : TypeId) (l : List En) (n : Nat) (d : Nat) (vl vo : Value) (vs : List Value) (ps : List (List En)) : Prop where
  rest : EnsAt w vl (l.drop d)
  out : OwnV W w.heap.size E vo vs
  pcs : Pcs w vs ps
  eq : cutN n l = ps ++ cutN n (l.drop d)
  few : vs.length ≤ d
  le : d ≤ l.length
  bel : Below w.heap.size w W
theorem vals_one (w : World) (x : Value) (T : TypeId) : ValsAt (w.alloc (.cells #[x] T)) (.slice (some ⟨w.heap.size, 0, none⟩) 1 1) [x] := by
  refine ⟨_, 1, rfl, Nat.le_refl _, by unfold maxLen; omega, fun k t ht => ?_⟩
  cases k with
  | zero =>
    simp at ht
    subst ht
    exact ⟨w.heap.size, 0, rfl, by simp, by simp [go_sem]⟩
  | succ k => simp at ht
set_option maxHeartbeats 2000000 in
theorem rcut_any (v : Value) (l : List En) (n : Int) (w : World) (hv : EnsAt w v l) (hl : l.length ≤ 100000) (hn : -9223372036854775808 ≤ n ∧ n ≤ 9223372036854775807) :
    Calls Try.prog 14 #[v, .int .i64 n] w fun e w' => ∃ v', e = .returned v' ∧ PcsAt w' v' (cutZ n l) ∧ Below w.heap.size w w' := by
  by_cases h1 : n < 1
  · have hz : cutZ n l = [] := by unfold cutZ; rw [if_pos h1]
    have HZ := Lib.hid hz
    clear hz
    go_enter Try.func14, Try.ntmps14
    go_wp2_with fail
    go_ret
    exact ⟨_, rfl, by rw [HZ.out]; exact ⟨[], valsAt_nil _, pcs_nil _⟩, Below.refl _ _⟩
  · obtain ⟨N, rfl⟩ : ∃ N : Nat, n = N := ⟨n.toNat, by omega⟩
    have hN : 1 ≤ N := by omega
    have HZ : Hid (cutZ (N : Int) l = cutN N l) := Lib.hid (by unfold cutZ; rw [if_neg h1, Int.toNat_natCast])
    have HST : Hid (CutS w w 22 l N 0 v (.slice none 0 0) [] []) := Lib.hid ⟨by rw [List.drop_zero]; exact hv, ownV_nil _ _ _, pcs_nil _, by simp, by simp, by simp, Below.refl _ _⟩
    obtain ⟨av, cv, rfl⟩ := ensAt_form hv
    clear hv
    go_enter Try.func14, Try.ntmps14
    go_wp2_with fail
    go_loopw [0, 5] (fun vl vo wr => ∃ d vs ps, Hid (CutS w wr 22 l N d vl vo vs ps)) (fun vl _ _ => lenS vl)
    case atStart => exact ⟨0, [], [], HST⟩
    case round =>
      obtain ⟨d, vs, ps, HC⟩ := hrel
      have hR := HC.out.rest
      have hle := HC.out.le
      have hfw := HC.out.few
      obtain ⟨a, c, rfl, h2, h3, hc⟩ := hR
      have hdl : (l.drop d).length = l.length - d := List.length_drop
      obtain ⟨m, hm⟩ : ∃ m, (l.drop d).length = m := ⟨_, rfl⟩
      rw [hm] at h2 ⊢
      unfold maxLen at h3
      by_cases hlt : N < m
      · obtain ⟨t0, ht0⟩ : ∃ t, (l.drop d)[0]? = some t := ⟨_, List.getElem?_eq_getElem (by omega)⟩
        obtain ⟨g, off, rfl, hg, _⟩ := hc 0 t0 ht0
        have hi1 : (N : Int) < (m : Int) := by omega
        have hi2 : (N : Int) ≤ (c : Int) := by omega
        have hi3 : N ≤ c := by omega
        have hi4 : ¬ c - N = 0 := by omega
        clear hc
        have hba : Below wr.heap.size wr (wr.alloc (.cells #[.slice (some ⟨g, off, none⟩) N c] 22)) := (Below.refl _ _).alloc (Nat.le_refl _) _
        obtain ⟨v5, w5, hr5, ho5, hg5⟩ := vappend_run (wr.alloc (.cells #[.slice (some ⟨g, off, none⟩) N c] 22)) w.heap.size 35 22 35 _ 24 Try.underlying35 infoRs rfl (by omega) u5 (.slice (some ⟨wr.heap.size, 0, none⟩) 1 1) vs [.slice (some ⟨g, off, none⟩) N c] (HC.out.out.below hba) (vals_one _ _ _) (by intro u hu; simp at hu; subst hu; rfl) (by simp; omega) (Nat.le_trans HC.out.bel.size hba.size)
        have hrest := HC.out.rest
        rw [← hm] at hi1 hlt
        have HN : Hid (CutS w w5 22 l N (d + N) (.slice (some ⟨g, off + N * 4, none⟩) (m - N) (c - N)) v5 (vs ++ [.slice (some ⟨g, off, none⟩) N c]) (ps ++ [(l.drop d).take N])) := by
          refine Lib.hid ⟨?_, ho5, HC.out.pcs.snoc (hrest.takeS N (by omega)), ?_, by simp; omega, by omega, (HC.out.bel.trans (hba.mono HC.out.bel.size)).grown hg5 (Nat.le_trans HC.out.bel.size hba.size) (fun q hq => (HC.out.out.lt q hq).1)⟩
          · have := hrest.dropS N (by omega)
            rw [List.drop_drop, hm] at this
            exact this
          · rw [HC.out.eq, cutN_step N hN (l.drop d) (by intro e; rw [e] at hlt; simp at hlt), List.drop_drop, List.append_assoc]
            rfl
        rw [hm] at hi1 hlt
        have hi5 : m - N < m := by omega
        clear ho5 hg5 hrest hba hdl hm ht0
        go_wp2_with (first | (at_builtin; refine Lib.wpList_append_run _ rfl _ _ _ _ rfl _ _ rfl rfl _ _ hr5 ?_) | fail)
        go_roundw
        case rel => exact ⟨d + N, _, _, HN⟩
        case measure => exact hi5
      · have hi1 : ¬ (N : Int) < (m : Int) := by omega
        by_cases h0 : m = 0
        · have hnil : l.drop d = [] := List.eq_nil_of_length_eq_zero (by omega)
          have HQ : Hid (cutN N l = ps) := Lib.hid (by have := HC.out.eq; rw [hnil, cutN_nil, List.append_nil] at this; exact this)
          subst h0
          clear hc hdl hm
          go_wp2_with fail
          go_ret
          exact ⟨_, rfl, by rw [HZ.out, HQ.out]; exact ⟨vs, HC.out.out.valsAt, HC.out.pcs.below HC.out.bel⟩, HC.out.bel⟩
        · have hi2 : (0 : Int) < (m : Int) := by omega
          have hne : l.drop d ≠ [] := by intro e; rw [e] at hm; simp at hm; omega
          have HQ : Hid (cutN N l = ps ++ [l.drop d]) := Lib.hid (by have := HC.out.eq; rw [cutN_last N hN (l.drop d) hne (by omega)] at this; exact this)
          have hba : Below wr.heap.size wr (wr.alloc (.cells #[.slice a m c] 22)) := (Below.refl _ _).alloc (Nat.le_refl _) _
          obtain ⟨v5, w5, hr5, ho5, hg5⟩ := vappend_run (wr.alloc (.cells #[.slice a m c] 22)) w.heap.size 35 22 35 _ 24 Try.underlying35 infoRs rfl (by omega) u5 (.slice (some ⟨wr.heap.size, 0, none⟩) 1 1) vs [.slice a m c] (HC.out.out.below hba) (vals_one _ _ _) (by intro u hu; simp at hu; subst hu; rfl) (by simp; omega) (Nat.le_trans HC.out.bel.size hba.size)
          have hrest := HC.out.rest
          rw [hm] at hrest
          have HN : Hid (PcsAt w5 v5 (ps ++ [l.drop d]) ∧ Below w.heap.size w w5) := by
            have hb5 := (HC.out.bel.trans (hba.mono HC.out.bel.size)).grown hg5 (Nat.le_trans HC.out.bel.size hba.size) (fun q hq => (HC.out.out.lt q hq).1)
            exact Lib.hid ⟨⟨_, ho5.valsAt, (HC.out.pcs.snoc hrest).below hb5⟩, hb5⟩
          clear ho5 hg5 hrest hba hdl hm hc h0 hne
          go_wp2_with (first | (at_builtin; refine Lib.wpList_append_run _ rfl _ _ _ _ rfl _ _ rfl rfl _ _ hr5 ?_) | fail)
          go_ret
          exact ⟨_, rfl, by rw [HZ.out, HQ.out]; exact HN.out.1, HN.out.2⟩
end Go.Proofs.Ytbkodaijigcebaa
