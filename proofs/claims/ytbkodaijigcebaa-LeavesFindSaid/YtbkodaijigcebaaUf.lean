/- The document's Split. -/
import Derived.Test.YtbkodaijigcebaaUe
namespace Go.Proofs.Ytbkodaijigcebaa
open Go.RowKit
set_option maxRecDepth 20000
set_option linter.unusedVariables false
set_option linter.unusedSimpArgs false
theorem results_tmp4 {fn : Func} {t u v x : Tmp} (h : fn.results = #[.tmp t, .tmp u, .tmp v, .tmp x]) (tmps : Array Value) (P : Program) (w : World) :
    (results fn tmps).run P w = .ok (.tuple #[tmps.getD t undef, tmps.getD u undef, tmps.getD v undef, tmps.getD x undef]) w := by
  simp [results, h]
/-- What Split answers. -/
def SplEnd (l : List En) (budget : Int) (w : World) (e : Ending) (w' : World) : Prop := ∃ v', e = .returned (.tuple #[v', .string (splitN l budget).text, .int .i64 (splitN l budget).size, .int .i64 (splitN l budget).err]) ∧ EnsAt w' v' (splitN l budget).root ∧ Below w.heap.size w w'
theorem goS_step (l : List En) (budget : Int) (f n : Nat) : goS l budget (f + 1) n = if fitN budget (cutN n l) then some n else goS l budget f (2 * n) := rfl
theorem fit_few {l : List En} (n : Nat) (hn : 1 ≤ n) (hl : l.length ≤ 150) (budget : Int) : fitN budget (cutN n l) = decide (sizD (rootsN 0 (cutN n l)) ≤ budget) := by
  unfold fitN
  rw [decide_eq_true, Bool.true_and]
  intro p hp
  have h1 := (textI_bd p).2
  have h2 : p.length ≤ l.length := by
    obtain ⟨P1, P2, he⟩ := List.append_of_mem hp
    rw [← cut_flat n hn l, he]
    simp
    omega
  omega
/-- Which answer, in each way. -/
theorem split_arg {l : List En} {b : Int} (h : b < 1 ∨ 16257 < b) : splitN l b = ⟨[], noB, 0, 2⟩ := by unfold splitN; rw [if_pos h]
theorem split_row {l : List En} {b : Int} (h : ¬ (b < 1 ∨ 16257 < b)) (h1 : rowN l ≠ 0) : splitN l b = ⟨[], noB, 0, rowN l⟩ := by unfold splitN; rw [if_neg h, if_pos h1]
theorem split_kind {l : List En} {b : Int} (h : ¬ (b < 1 ∨ 16257 < b)) (h1 : rowN l = 0) (h2 : leavesN l ≠ []) : splitN l b = ⟨[], noB, 0, 14⟩ := by unfold splitN; rw [if_neg h, if_neg (by simpa using h1), if_pos h2]
theorem split_same {l : List En} {b : Int} (h : ¬ (b < 1 ∨ 16257 < b)) (h1 : rowN l = 0) (h2 : leavesN l = []) (h3 : sizD l ≤ b) : splitN l b = ⟨l, noB, 0, 0⟩ := by unfold splitN; rw [if_neg h, if_neg (by simpa using h1), if_neg (by simpa using h2), if_pos h3]
theorem split_some {l : List En} {b : Int} {n : Nat} (h : ¬ (b < 1 ∨ 16257 < b)) (h1 : rowN l = 0) (h2 : leavesN l = []) (h3 : ¬ sizD l ≤ b) (h4 : goS l b 13 1 = some n) : splitN l b = ⟨rootsN 0 (cutN n l), str (textsI (cutN n l)), n, 0⟩ := by unfold splitN; rw [if_neg h, if_neg (by simpa using h1), if_neg (by simpa using h2), if_neg h3, h4]
theorem split_none {l : List En} {b : Int} (h : ¬ (b < 1 ∨ 16257 < b)) (h1 : rowN l = 0) (h2 : leavesN l = []) (h3 : ¬ sizD l ≤ b) (h4 : goS l b 13 1 = none) : splitN l b = ⟨[], noB, 0, 15⟩ := by unfold splitN; rw [if_neg h, if_neg (by simpa using h1), if_neg (by simpa using h2), if_neg h3, h4]
theorem leaves_len {l : List En} : leavesN l ≠ [] ↔ 0 < (leavesN l).length := by rw [List.length_pos_iff]
theorem pow_tab : ∀ j, j < 14 → (2 ^ (13 - j) ≤ 4096 ↔ 1 ≤ j) ∧ 1 ≤ 2 ^ (13 - j) ∧ 2 ^ (13 - j) ≤ 8192 := by decide
theorem pow_next : ∀ j, j < 13 → 2 * 2 ^ (13 - (j + 1)) = 2 ^ (13 - j) := by decide
set_option maxHeartbeats 4000000 in
theorem rsplit_any (v : Value) (l : List En) (b : Int) (w : World) (hv : EnsAt w v l) (hm : MaysN l) (hl : l.length ≤ 150) (hb : -9223372036854775808 ≤ b ∧ b ≤ 9223372036854775807) :
    Calls Try.prog 10 #[v, .int .i64 b] w (SplEnd l b w) := by
  unfold SplEnd
  by_cases h1 : b < 1 ∨ 16257 < b
  · rw [split_arg h1]
    by_cases h2 : b < 1
    · clear h1
      go_enter Try.func10, Try.ntmps10
      go_wp2_with fail
      refine bodyPost_ret (results_tmp4 rfl _ _ _) rfl ⟨_, rfl, ens_nil _, Below.refl _ _⟩
    · have h3 : 16257 < b := by omega
      clear h1
      go_enter Try.func10, Try.ntmps10
      go_wp2_with fail
      refine bodyPost_ret (results_tmp4 rfl _ _ _) rfl ⟨_, rfl, ens_nil _, Below.refl _ _⟩
  have c1 : ¬ b < 1 := by omega
  have c2 : ¬ 16257 < b := by omega
  have HRO := Lib.hid (rrowN_any v l w hv hm)
  by_cases h2 : rowN l = 0
  · rw [h2] at HRO
    have HLV := Lib.hid (fun X (hX : Below w.heap.size w X) => rleaves_any v l X (hv.below hX) (by omega))
    unfold EnsEnd at HLV
    by_cases h3 : leavesN l = []
    · have HSZ := Lib.hid (fun X (hX : Below w.heap.size w X) => rsizD_any v l X (hv.below hX) hm (by omega))
      rw [h3] at HLV
      by_cases h4 : sizD l ≤ b
      · rw [split_same h1 h2 h3 h4]
        have HV := Lib.hid hv
        obtain ⟨av, cv, rfl⟩ := ensAt_form hv
        clear hv h2 h3
        go_enter Try.func10, Try.ntmps10
        go_wp2_with fail
        refine HRO.out.mono ?_
        rintro e w1 ⟨rfl, hb1⟩
        have HB1 := Lib.hid hb1
        clear hb1
        go_wp2_with fail
        refine (HLV.out _ HB1.out).mono ?_
        rintro e w2 ⟨v2, rfl, he2, hb2⟩
        have HB2 := Lib.hid (HB1.out.trans (hb2.mono HB1.out.size))
        obtain ⟨a2, c2', rfl⟩ := ensAt_form he2.ensAt
        rw [List.length_nil]
        clear hb2 he2
        go_wp2_with fail
        refine (HSZ.out _ HB2.out).mono ?_
        rintro e w3 ⟨rfl, hb3⟩
        have HB3 := Lib.hid (HB2.out.trans (hb3.mono HB2.out.size))
        clear hb3
        go_wp2_with fail
        refine bodyPost_ret (results_tmp4 rfl _ _ _) rfl ⟨_, rfl, HV.out.below HB3.out, HB3.out⟩
      · have HTR := Lib.hid (fun N X (hN : 1 ≤ N ∧ N ≤ 100000) (hX : Below w.heap.size w X) => rtry_any v l b N X (hv.below hX) hm h2 h3 hl hN hb)
        have HS := Lib.hid (fun n h => split_some (l := l) (b := b) (n := n) h1 h2 h3 h4 h)
        have HNO := Lib.hid (fun h => split_none (l := l) (b := b) h1 h2 h3 h4 h)
        obtain ⟨av, cv, rfl⟩ := ensAt_form hv
        obtain ⟨R, hR⟩ : ∃ R, splitN l b = R := ⟨_, rfl⟩
        rw [hR] at HS HNO ⊢
        have HGO := Lib.hid (fun (n : Nat) (hn : 1 ≤ n) => fit_few (l := l) n hn hl b)
        clear hv h2 h3 hR
        go_enter Try.func10, Try.ntmps10
        go_wp2_with fail
        refine HRO.out.mono ?_
        rintro e w1 ⟨rfl, hb1⟩
        have HB1 := Lib.hid hb1
        clear hb1
        go_wp2_with fail
        refine (HLV.out _ HB1.out).mono ?_
        rintro e w2 ⟨v2, rfl, he2, hb2⟩
        have HB2 := Lib.hid (HB1.out.trans (hb2.mono HB1.out.size))
        obtain ⟨a2, c2', rfl⟩ := ensAt_form he2.ensAt
        rw [List.length_nil]
        clear hb2 he2
        go_wp2_with fail
        refine (HSZ.out _ HB2.out).mono ?_
        rintro e w3 ⟨rfl, hb3⟩
        have HB3 := Lib.hid (HB2.out.trans (hb3.mono HB2.out.size))
        clear hb3
        go_wp2_with fail
        go_loopw [9] (fun i wr => ∃ (j N : Nat), i = .int .i64 (N : Int) ∧ j ≤ 13 ∧ Hid (N = 2 ^ (13 - j)) ∧ Hid (goS l b 13 1 = goS l b j N) ∧ Hid (Below w.heap.size w wr)) (fun i _ => 8192 - (intOf i).toNat)
        case atStart => exact ⟨13, 1, rfl, by omega, Lib.hid (by decide), Lib.hid rfl, HB3⟩
        case round =>
          obtain ⟨j, N, rfl, hj, HN, HGS, HBW⟩ := hrel
          obtain ⟨t1, t2, t3⟩ := pow_tab j (by omega)
          rw [← HN.out] at t1 t2 t3
          cases j with
          | zero =>
            have hi1 : ¬ (N : Int) ≤ 4096 := by omega
            have HF := Lib.hid (HNO.out (HGS.out.trans rfl))
            clear HN HGS t1
            go_wp2_with fail
            refine bodyPost_ret (results_tmp4 rfl _ _ _) rfl ⟨_, by rw [HF.out]; rfl, by rw [HF.out]; exact ens_nil _, HBW.out⟩
          | succ j =>
            have hi1 : (N : Int) ≤ 4096 := by omega
            have HG2 := HGS.out
            rw [goS_step l b j N, HGO.out N (by omega)] at HG2
            have HCALL := Lib.hid (HTR.out N wr ⟨by omega, by omega⟩ HBW.out)
            have hnx := pow_next j (by omega)
            by_cases hfit : sizD (rootsN 0 (cutN N l)) ≤ b
            · rw [if_pos (decide_eq_true hfit)] at HG2
              have HF := Lib.hid (HS.out N HG2)
              rw [decide_eq_true hfit] at HCALL
              clear hfit HG2 HN HGS t1 hnx
              go_wp2_with fail
              refine HCALL.out.mono ?_
              rintro e w4 ⟨v4, rfl, he4, hb4⟩
              have HE4 := Lib.hid he4
              have HB4 := Lib.hid (HBW.out.trans (hb4.mono HBW.out.size))
              obtain ⟨a4, c4, rfl⟩ := ensAt_form he4
              clear hb4 he4
              go_wp2_with fail
              refine bodyPost_ret (results_tmp4 rfl _ _ _) rfl ⟨_, by rw [HF.out]; rfl, by rw [HF.out]; exact HE4.out, HB4.out⟩
            · rw [if_neg (by rw [decide_eq_false hfit]; simp)] at HG2
              rw [decide_eq_false hfit] at HCALL
              have HG3 := Lib.hid HG2
              have HN2 : Hid (2 * N = 2 ^ (13 - j)) := Lib.hid (by rw [HN.out]; exact hnx)
              have hw : IntKind.i64.wrap (2 * (N : Int)) = ((2 * N : Nat) : Int) := by rw [IntKind.wrap_i64] <;> omega
              clear hfit HG2 HN HGS t1 hnx
              go_wp2_with fail
              refine HCALL.out.mono ?_
              rintro e w4 ⟨v4, rfl, he4, hb4⟩
              have HB4 := Lib.hid (HBW.out.trans (hb4.mono HBW.out.size))
              obtain ⟨a4, c4, rfl⟩ := ensAt_form he4
              clear hb4 he4
              go_wp2_with fail
              go_roundw
              case rel => exact ⟨j, 2 * N, by first | rfl | (push_cast; rfl), by omega, HN2, HG3, HB4⟩
              case measure => simp [intOf]; omega
    · rw [split_kind h1 h2 h3]
      have hlp : (0 : Int) < ((leavesN l).length : Int) := by have := leaves_len.1 h3; omega
      clear h3
      go_enter Try.func10, Try.ntmps10
      go_wp2_with fail
      refine HRO.out.mono ?_
      rintro e w1 ⟨rfl, hb1⟩
      have HB1 := Lib.hid hb1
      clear hb1
      go_wp2_with fail
      refine (HLV.out _ HB1.out).mono ?_
      rintro e w2 ⟨v2, rfl, he2, hb2⟩
      have HB2 := Lib.hid (HB1.out.trans (hb2.mono HB1.out.size))
      obtain ⟨a2, c2', rfl⟩ := ensAt_form he2.ensAt
      clear hb2 he2
      go_wp2_with fail
      refine bodyPost_ret (results_tmp4 rfl _ _ _) rfl ⟨_, rfl, ens_nil _, HB2.out⟩
  · rw [split_row h1 h2]
    have hq : (rowN l != 0) = true := by simpa using h2
    generalize rowN l = q at *
    clear h2
    go_enter Try.func10, Try.ntmps10
    go_wp2_with fail
    refine HRO.out.mono ?_
    rintro e w1 ⟨rfl, hb1⟩
    have HB1 := Lib.hid hb1
    clear hb1
    go_wp2_with fail
    refine bodyPost_ret (results_tmp4 rfl _ _ _) rfl ⟨_, rfl, ens_nil _, HB1.out⟩
end Go.Proofs.Ytbkodaijigcebaa
