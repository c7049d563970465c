/- The program's isPointer; slices.IndexFunc and ContainsFunc with it; check. -/
import Derived.Test.YtbkodaijigcebaaQd
import Derived.Test.YtbkodaijigcebaaUf
namespace Go.Proofs.Ytbkodaijigcebaa
open Go.RowKit
set_option maxRecDepth 20000
set_option linter.unusedVariables false
set_option linter.unusedSimpArgs false
theorem lptr_any (e : En) (w : World) : Calls Try.prog 49 #[.agg (eC e)] w fun x w' => x = .returned (.bool (decide (e.rn = 0))) ∧ Below w.heap.size w w' := by
  obtain ⟨i, o, l, r⟩ := e
  unfold eC
  dsimp only
  have hd : (r == 0) = decide (r = 0) := by rw [Bool.eq_iff_iff]; simp
  go_enter Try.func49, Try.ntmps49
  go_wp2_with fail
  go_ret
  exact ⟨ret_b (by first | exact hd | rfl | simp), by go_grown⟩
/-- The place of the first pointer, or -1. -/
def IdxP (l : List En) (w : World) (x : Ending) (w' : World) : Prop := ∃ r : Int, x = .returned (.int .i64 r) ∧ decide (0 ≤ r) = decide (leavesN l ≠ []) ∧ Below w.heap.size w w'
theorem leaves_take {l : List En} (i : Nat) (e : En) (h : l[i]? = some e) : leavesN (l.take (i + 1)) = leavesN (l.take i) ++ leavesN [e] := by
  unfold leavesN
  rw [List.take_add_one, h, List.filter_append]
  rfl
theorem leaves_some {l : List En} (i : Nat) (e : En) (h : l[i]? = some e) (hr : e.rn = 0) : leavesN l ≠ [] := by
  intro h0
  unfold leavesN at h0
  rw [List.filter_eq_nil_iff] at h0
  exact h0 e (List.mem_of_getElem? h) (by simpa using hr)
set_option maxHeartbeats 1000000 in
theorem lidx_any (v : Value) (l : List En) (w : World) (hv : EnsAt w v l) (hl : l.length ≤ 100000) : Calls Try.prog 78 #[v, .func (.func 49) #[] #[]] w (IdxP l w) := by
  obtain ⟨a, cap, rfl, h1, h2, hc⟩ := hv
  have HC := Lib.hid hc
  clear hc
  go_enter Try.func78, Try.ntmps78
  go_wp2_with fail
  go_loopw [8] (fun s wr => ∃ i : Nat, i ≤ l.length ∧ s = .int .i64 i ∧ Hid (leavesN (l.take i) = []) ∧ Below w.heap.size w wr) (fun s _ => l.length - (intOf s).toNat)
  case atStart => exact ⟨0, Nat.zero_le _, rfl, Lib.hid rfl, Below.refl _ _⟩
  case round =>
    obtain ⟨i, hi, rfl, HM, hbw⟩ := hrel
    by_cases hlt : i < l.length
    · obtain ⟨t, ht⟩ : ∃ t, l[i]? = some t := ⟨_, List.getElem?_eq_getElem hlt⟩
      obtain ⟨g, off, rfl, hg, hcs⟩ := HC.out i t ht
      obtain ⟨l0, l1, l2, l3⟩ := cells4 hbw hcs
      have hi2 : (i : Int) < (l.length : Int) := by omega
      have HT := Lib.hid ht
      have HE := Lib.hid (lptr_any t wr)
      have HTK := Lib.hid (leaves_take i t ht)
      have HSM := Lib.hid (leaves_some i t ht)
      clear ht hcs
      obtain ⟨p1, p2, p3, p4⟩ := t
      unfold eC at HE
      dsimp only at l0 l1 l2 l3 HE HTK HSM
      by_cases hp : p4 = 0
      · have HP := Lib.hid (HSM.out hp)
        rw [decide_eq_true hp] at HE
        clear hp
        go_wp2_with fail
        refine HE.out.mono ?_
        rintro e w1 ⟨rfl, hb⟩
        have hbw1 := hbw.trans (hb.mono hbw.size)
        clear hb hbw l0 l1 l2 l3 HE
        go_wp2_with fail
        go_ret
        exact ⟨i, rfl, by rw [decide_eq_true HP.out, decide_eq_true (by omega)], hbw1⟩
      · have HP : Hid (leavesN (l.take (i + 1)) = []) := Lib.hid (by rw [HTK.out, HM.out]; unfold leavesN; simp [hp])
        rw [decide_eq_false hp] at HE
        clear hp
        go_wp2_with fail
        refine HE.out.mono ?_
        rintro e w1 ⟨rfl, hb⟩
        have hbw1 := hbw.trans (hb.mono hbw.size)
        clear hb hbw l0 l1 l2 l3 HE
        go_wp2_with fail
        go_roundw
        case rel => exact ⟨i + 1, by omega, by go_num, HP, hbw1⟩
        case measure => simp [intOf]; omega
    · obtain rfl : i = l.length := by omega
      rw [List.take_length] at HM
      go_wp2_with fail
      go_ret
      exact ⟨-1, rfl, by rw [HM.out]; decide, hbw⟩
theorem lcont_any (v : Value) (l : List En) (w : World) (hv : EnsAt w v l) (hl : l.length ≤ 100000) : Calls Try.prog 48 #[v, .func (.func 49) #[] #[]] w fun x w' => x = .returned (.bool (decide (leavesN l ≠ []))) ∧ Below w.heap.size w w' := by
  have HI := Lib.hid (lidx_any v l w hv hl)
  obtain ⟨av, cv, rfl⟩ := ensAt_form hv
  clear hv
  go_enter Try.func48, Try.ntmps48
  go_wp2_with fail
  refine HI.out.mono ?_
  rintro x w1 ⟨r, rfl, hr, hb⟩
  have HR := Lib.hid hr
  clear hr
  go_wp2_with fail
  go_ret
  exact ⟨ret_b HR.out, hb⟩
/-- What check answers. -/
def chkS (l : List En) (b : Int) : Int := if b < 1 ∨ 16257 < b then 2 else if rowN l ≠ 0 then rowN l else if leavesN l ≠ [] then 14 else 0
set_option maxHeartbeats 1000000 in
theorem lcheck_any (v : Value) (l : List En) (b : Int) (w : World) (hv : EnsAt w v l) (hm : MaysN l) (hl : l.length ≤ 100000) (hb : -9223372036854775808 ≤ b ∧ b ≤ 9223372036854775807) :
    Calls Try.prog 23 #[v, .int .i64 b] w fun x w' => x = .returned (.int .i64 (chkS l b)) ∧ Below w.heap.size w w' := by
  unfold chkS
  have HR := Lib.hid (prow_any v l w hv hm)
  have HL := Lib.hid (fun X (hX : Below w.heap.size w X) => lcont_any v l X (hv.below hX) hl)
  obtain ⟨av, cv, rfl⟩ := ensAt_form hv
  clear hv
  by_cases h1 : b < 1
  · rw [if_pos (Or.inl h1)]
    have d1 : decide (b < 1) = true := decide_eq_true h1
    clear h1 HR HL
    go_enter Try.func23, Try.ntmps23
    go_wp2_with fail
    go_ret
    exact ⟨rfl, Below.refl _ _⟩
  by_cases h2 : 16257 < b
  · rw [if_pos (Or.inr h2)]
    have d1 : decide (b < 1) = false := decide_eq_false h1
    have d2 : decide (16257 < b) = true := decide_eq_true h2
    clear HR HL
    go_enter Try.func23, Try.ntmps23
    go_wp2_with fail
    go_ret
    exact ⟨rfl, Below.refl _ _⟩
  rw [if_neg (by omega)]
  have d1 : decide (b < 1) = false := decide_eq_false h1
  have d2 : decide (16257 < b) = false := decide_eq_false h2
  by_cases h3 : rowN l = 0
  · rw [if_neg (by simpa using h3)]
    rw [h3] at HR
    clear h3
    by_cases h4 : leavesN l ≠ []
    · rw [if_pos h4]
      rw [decide_eq_true h4] at HL
      clear h4
      go_enter Try.func23, Try.ntmps23
      go_wp2_with fail
      refine HR.out.mono ?_
      rintro x w1 ⟨rfl, hb1⟩
      have HB1 := Lib.hid hb1
      clear hb1
      go_wp2_with fail
      refine (HL.out _ HB1.out).mono ?_
      rintro x w2 ⟨rfl, hb2⟩
      have HB2 := Lib.hid (HB1.out.trans (hb2.mono HB1.out.size))
      clear hb2
      go_wp2_with fail
      go_ret
      exact ⟨rfl, HB2.out⟩
    · rw [if_neg h4]
      rw [decide_eq_false h4] at HL
      clear h4
      go_enter Try.func23, Try.ntmps23
      go_wp2_with fail
      refine HR.out.mono ?_
      rintro x w1 ⟨rfl, hb1⟩
      have HB1 := Lib.hid hb1
      clear hb1
      go_wp2_with fail
      refine (HL.out _ HB1.out).mono ?_
      rintro x w2 ⟨rfl, hb2⟩
      have HB2 := Lib.hid (HB1.out.trans (hb2.mono HB1.out.size))
      clear hb2
      go_wp2_with fail
      go_ret
      exact ⟨rfl, HB2.out⟩
  · rw [if_pos h3]
    have hq : (rowN l != 0) = true := by simpa using h3
    generalize rowN l = q at *
    clear h3
    go_enter Try.func23, Try.ntmps23
    go_wp2_with fail
    refine HR.out.mono ?_
    rintro x w1 ⟨rfl, hb1⟩
    have HB1 := Lib.hid hb1
    clear hb1
    go_wp2_with fail
    go_ret
    exact ⟨rfl, HB1.out⟩
end Go.Proofs.Ytbkodaijigcebaa
