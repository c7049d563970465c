/- Contracts of the document's Same, and of Put where an item is put. -/
import Derived.Test.YtmmjdlpoiibhaaaLc
namespace Go.Proofs.Ytmmjdlpoiibhaaa
open Go.RowKit
set_option maxRecDepth 20000
set_option linter.unusedVariables false
set_option linter.unusedSimpArgs false
theorem same_step (a b : List It) (k : Nat) (s t : It) (ha : a[k]? = some s) (hb : b[k]? = some t) (h : a.take k = b.take k) (he : s = t) : a.take (k + 1) = b.take (k + 1) := by
  rw [itake_at a k s ha, itake_at b k t hb, h, he]
theorem same_not (a b : List It) (k : Nat) (s t : It) (ha : a[k]? = some s) (hb : b[k]? = some t) (he : s ≠ t) : a ≠ b := by
  intro h
  rw [h, hb] at ha
  injection ha with ha
  exact he ha.symm
set_option maxHeartbeats 1000000 in
theorem rsame_any (v u : Value) (a b : List It) (w : World) (hv : ItsAt w v a) (hu : ItsAt w u b) :
    Calls Try.prog 11 #[v, u] w fun e w' => e = .returned (.bool (decide (a = b))) ∧ Below w.heap.size w w' := by
  obtain ⟨al, cap, rfl, hcap, hmx, hc⟩ := hv
  obtain ⟨bl, cbp, rfl, hcbp, hmy, hd⟩ := hu
  have HC := Lib.hid hc
  have HD := Lib.hid hd
  have hmx' : a.length ≤ maxLen := by omega
  have hmy' : b.length ≤ maxLen := by omega
  unfold maxLen at hmx' hmy'
  clear hc hd
  go_enter Try.func11, Try.ntmps11
  by_cases hl : a.length = b.length
  · have hle : ((a.length : Int) != (b.length : Int)) = false := by simp; omega
    have HLn := Lib.hid hl
    clear hl
    go_wp2_with fail
    go_loopw [5] (fun i wr => ∃ k : Nat, k ≤ a.length ∧ i = .int .i64 k ∧ a.take k = b.take k ∧ Below w.heap.size w wr) (fun i _ => a.length - (intOf i).toNat)
    case atStart => exact ⟨0, Nat.zero_le _, rfl, by simp, Below.refl _ _⟩
    case round =>
      obtain ⟨k, hk, rfl, hq, hbw⟩ := hrel
      by_cases hlt : k < a.length
      · obtain ⟨⟨x, s⟩, hsk⟩ : ∃ t, a[k]? = some t := ⟨_, List.getElem?_eq_getElem hlt⟩
        obtain ⟨⟨y, t⟩, htk⟩ : ∃ t, b[k]? = some t := ⟨_, List.getElem?_eq_getElem (by have := HLn.out; omega)⟩
        obtain ⟨g, off, rfl, hg, c0, c1⟩ := HC.out k _ hsk
        obtain ⟨h, oh, rfl, hh, d0, d1⟩ := HD.out k _ htk
        have c0 := (hbw.cell (p := ⟨g, off + k * 2, none⟩) hg).trans c0
        have c1 := (hbw.cell (p := ⟨g, off + k * 2 + 1, none⟩) hg).trans c1
        have c2 := Nat.lt_of_lt_of_le hg hbw.size
        have d0 := (hbw.cell (p := ⟨h, oh + k * 2, none⟩) hh).trans d0
        have d1 := (hbw.cell (p := ⟨h, oh + k * 2 + 1, none⟩) hh).trans d1
        have d2 := Nat.lt_of_lt_of_le hh hbw.size
        have HB := Lib.hid (fun n => hbw.trans (show Below w.heap.size wr (wr.drewN n) from ⟨rfl, rfl, rfl, Nat.le_refl _, fun _ _ => rfl⟩))
        have hk2 : (k : Int) < (b.length : Int) := by have := HLn.out; omega
        clear hbw
        by_cases hxy : x = y
        · subst hxy
          by_cases hst : s = t
          · have HQ := Lib.hid (same_step a b k _ _ hsk htk hq (by rw [hst]))
            have hy := str_yes hst
            clear hq
            go_wp2_with fail
            go_quiet (fail)
            go_wp2_with fail
            go_roundw
            case rel => exact ⟨k + 1, by omega, by go_num, HQ.out, HB.out _⟩
            case measure => simp [intOf]; omega
          · have HQ := Lib.hid (show decide (a = b) = false from decide_eq_false (same_not a b k _ _ hsk htk (fun e => hst (by injection e))))
            have hy := str_no hst
            clear hq
            go_wp2_with fail
            go_quiet (fail)
            go_wp2_with fail
            go_ret
            exact ⟨by rw [HQ.out]; rfl, HB.out _⟩
        · have HQ := Lib.hid (show decide (a = b) = false from decide_eq_false (same_not a b k _ _ hsk htk (fun e => hxy (by injection e))))
          have hy : ¬ (x : Int) = (y : Int) := by omega
          clear hq
          go_wp2_with fail
          go_quiet (fail)
          go_wp2_with fail
          go_ret
          exact ⟨by rw [HQ.out]; rfl, HB.out _⟩
      · have hkl : k = a.length := by omega
        subst hkl
        rw [List.take_length, HLn.out, List.take_length] at hq
        have HQ := Lib.hid (show decide (a = b) = true from decide_eq_true hq)
        clear hq
        go_wp2_with fail
        go_ret
        exact ⟨by rw [HQ.out]; rfl, hbw⟩
  · have hle : ((a.length : Int) != (b.length : Int)) = true := by simp; omega
    have HQ := Lib.hid (show decide (a = b) = false from decide_eq_false (fun e => hl (by rw [e])))
    go_wp2_with fail
    go_ret
    exact ⟨by rw [HQ.out]; rfl, Below.refl _ _⟩
end Go.Proofs.Ytmmjdlpoiibhaaa
