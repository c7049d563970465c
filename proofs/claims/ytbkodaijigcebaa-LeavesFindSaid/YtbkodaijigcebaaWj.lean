/- LeavesJoins: its walk. -/
import Derived.Test.YtbkodaijigcebaaAk
namespace Go.Proofs.Ytbkodaijigcebaa
open Go.RowKit
set_option maxRecDepth 20000
set_option linter.unusedVariables false
set_option linter.unusedSimpArgs false
theorem join_len (root : List En) (d : ByteArray) : (joinN root d).1.length ≤ 4096 := by
  unfold joinN
  split
  · simp
  · split
    · simp
    · split
      · simp
      · rename_i h
        exact rowN_len (Classical.not_not.1 h)
set_option maxHeartbeats 2000000 in
theorem leavesjoins_law (v : Value) (l : List En) (t : ByteArray) (w : World) (hv : EnsAt w v l) (hm : MaysN l) (ht : t.size ≤ maxLen) :
    Calls Try.prog 4 #[v, .string t] w fun e w' => e = .returned (.bool true) ∧ Below w.heap.size w w' := by
  have HA := Lib.hid awake14_any
  unfold maxLen at ht
  by_cases h1 : 100 < l.length
  · have hd : (100 : Int) < (l.length : Int) := by omega
    obtain ⟨av, cv, rfl⟩ := ensAt_form hv
    go_enter Try.func4, Try.ntmps4
    go_wp2_with fail
    refine (HA.out _).mono ?_
    rintro e w1 ⟨rfl, hb⟩
    have HB := Lib.hid hb
    clear hb
    go_wp2_with fail
    go_ret
    exact ⟨rfl, HB.out⟩
  have hd1 : ¬ (100 : Int) < (l.length : Int) := by omega
  by_cases h2 : 1500 < t.size
  · have hd : (1500 : Int) < (t.size : Int) := by omega
    obtain ⟨av, cv, rfl⟩ := ensAt_form hv
    go_enter Try.func4, Try.ntmps4
    go_wp2_with fail
    refine (HA.out _).mono ?_
    rintro e w1 ⟨rfl, hb⟩
    have HB := Lib.hid hb
    clear hb
    go_wp2_with fail
    go_ret
    exact ⟨rfl, HB.out⟩
  have hd2 : ¬ (1500 : Int) < (t.size : Int) := by omega
  have HV := Lib.hid hv
  have HOW := Lib.hid (ownN_any v l w hv (by omega))
  unfold EnsEnd at HOW
  have HJ := Lib.hid (fun x X (hx : EnsAt X x l) => join14_any x l t X hx hm (by omega) (by omega))
  have HRJ := Lib.hid (fun X (hX : Below w.heap.size w X) => rjoin_any v l t X (hv.below hX) hm (by omega) (by omega))
  have hjl := join_len l t
  unfold PieEnd at HJ HRJ
  generalize joinN l t = J at *
  obtain ⟨m, z⟩ := J
  dsimp only at HJ HRJ hjl
  obtain ⟨av, cv, rfl⟩ := ensAt_form hv
  clear hv
  go_enter Try.func4, Try.ntmps4
  go_wp2_with fail
  refine HOW.out.mono ?_
  rintro e w1 ⟨v1, rfl, ho1, hb1⟩
  have HO1 := Lib.hid ho1.ensAt
  have HB1 := Lib.hid hb1
  obtain ⟨a1, c1, rfl⟩ := ensAt_form ho1.ensAt
  clear ho1 hb1
  go_wp2_with fail
  refine (HJ.out _ _ HO1.out).mono ?_
  rintro e w2 ⟨v2, rfl, he2, hb2⟩
  have HO2 := Lib.hid he2
  have HB2 := Lib.hid (HB1.out.trans (hb2.mono HB1.out.size))
  obtain ⟨a2, c2, rfl⟩ := ensAt_form he2
  clear he2 hb2
  go_wp2_with fail
  refine (HRJ.out _ HB2.out).mono ?_
  rintro e w3 ⟨v3, rfl, he3, hb3⟩
  have HO3 := Lib.hid (HO2.out.below hb3)
  have HR3 := Lib.hid he3
  have HB3 := Lib.hid (HB2.out.trans (hb3.mono HB2.out.size))
  obtain ⟨a3, c3, rfl⟩ := ensAt_form he3
  clear he3 hb3
  go_wp2_with fail
  refine (backN_any _ m _ HO3.out (by omega)).mono ?_
  rintro e w4 ⟨v4, rfl, ho4, hb4⟩
  have HO4 := Lib.hid ho4.ensAt
  have HR4 := Lib.hid (HR3.out.below hb4)
  have HB4 := Lib.hid (HB3.out.trans (hb4.mono HB3.out.size))
  obtain ⟨a4, c4, rfl⟩ := ensAt_form ho4.ensAt
  clear ho4 hb4
  go_wp2_with fail
  refine (rsameN_any _ _ m m _ HO4.out HR4.out).mono ?_
  rintro e w5 ⟨rfl, hb5⟩
  rw [decide_eq_true rfl]
  have HB5 := Lib.hid (HB4.out.trans (hb5.mono HB4.out.size))
  clear hb5
  go_wp2_with fail
  refine (HA.out _).mono ?_
  rintro e w6 ⟨rfl, hb6⟩
  have HB6 := Lib.hid (HB5.out.trans (hb6.mono HB5.out.size))
  clear hb6
  go_wp2_with fail
  go_ret
  exact ⟨rfl, HB6.out⟩
end Go.Proofs.Ytbkodaijigcebaa
