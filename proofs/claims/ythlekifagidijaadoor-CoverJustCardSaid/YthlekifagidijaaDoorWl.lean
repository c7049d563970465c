/- The walk of CoverLists: the program's Union, In and Total of any two lists are the document's. -/
import Derived.Test.YthlekifagidijaaDoorAk
namespace Go.Proofs.YthlekifagidijaaDoor
open Go.RowKit
set_option linter.unusedVariables false
set_option linter.unusedSimpArgs false
theorem uni_len (a b : List (Int × Int)) : (uni a b).length ≤ a.length + b.length := by
  have h1 := puts_len [] a
  have h2 := puts_len (puts [] a) b
  unfold uni
  simp only [List.length_nil] at h1
  omega
theorem uni_wide (a b : List (Int × Int)) (ha : WideS a) (hb : WideS b) : WideS (uni a b) := puts_wide _ _ (puts_wide _ _ wide_nil ha) hb
set_option maxHeartbeats 2000000 in
set_option maxRecDepth 20000 in
theorem lists_walk (v1 : Value) (a : List (Int × Int)) (v2 : Value) (b : List (Int × Int)) (d : Int) (w : World) (hq : QTab w) (s1 : SpansAt w v1 a) (t1 : WideS a) (s2 : SpansAt w v2 b) (t2 : WideS b) (d0 : 0 ≤ d) (d1 : d ≤ 18446744073709551615) : Calls Tryd.prog 4 #[v1, v2, .int .u64 d] w fun e w' => e = .returned (.bool true) ∧ Below w.heap.size w w' := by
  have HQ := Lib.hid hq
  have HA := Lib.hid awake_any
  clear hq
  by_cases h1 : 40 < a.length
  · obtain ⟨al, cap, rfl, _⟩ := s1
    obtain ⟨al2, cap2, rfl, _⟩ := s2
    have h1' : (40 : Int) < (a.length : Int) := by omega
    go_enter Tryd.func4, Tryd.ntmps4
    go_wp2_with fail
    refine (HA.out _ HQ.out).mono ?_
    rintro e w1 ⟨rfl, hb⟩
    go_wp2_with fail
    go_ret
    exact ⟨rfl, hb⟩
  · by_cases h2 : 40 < b.length
    · obtain ⟨al, cap, rfl, _⟩ := s1
      obtain ⟨al2, cap2, rfl, _⟩ := s2
      have h1' : ¬ (40 : Int) < (a.length : Int) := by omega
      have h2' : (40 : Int) < (b.length : Int) := by omega
      go_enter Tryd.func4, Tryd.ntmps4
      go_wp2_with fail
      refine (HA.out _ HQ.out).mono ?_
      rintro e w1 ⟨rfl, hb⟩
      go_wp2_with fail
      go_ret
      exact ⟨rfl, hb⟩
    · have hul := uni_len a b
      have HO1 := Lib.hid (fun w h => sown_any v1 a w h (by omega))
      have HO2 := Lib.hid (fun w h => sown_any v2 b w h (by omega))
      have HU := Lib.hid (fun x y w h g => union_any x y a b w h g t1 t2 (by omega))
      have HR := Lib.hid (fun w h g => runion_any v1 v2 a b w h g t1 t2 (by omega) (by omega))
      have HB := Lib.hid (fun v w h => sback_any v (uni a b) w h (by omega))
      have HSm := Lib.hid (fun x y w h g => rsame_yes x y (uni a b) w h g (by omega))
      have HI := Lib.hid (fun v w h => in_any v a d w h (by omega))
      have HI2 := Lib.hid (fun w h => rin_any v1 a d w h (by omega))
      have HT := Lib.hid (fun v w h => total_any v a w h t1 (by omega))
      have HT2 := Lib.hid (fun w h => rtotal_any v1 a w h t1 (by omega))
      have h1' : decide ((40 : Int) < (a.length : Int)) = false := decide_eq_false (by omega)
      have h2' : decide ((40 : Int) < (b.length : Int)) = false := decide_eq_false (by omega)
      obtain ⟨al, cap, rfl, q1⟩ := s1
      obtain ⟨al2, cap2, rfl, q2⟩ := s2
      have s1 : SpansAt w (.slice al a.length cap) a := ⟨al, cap, rfl, q1⟩
      have s2 : SpansAt w (.slice al2 b.length cap2) b := ⟨al2, cap2, rfl, q2⟩
      have HS1 := Lib.hid s1
      have HS2 := Lib.hid s2
      clear q1 q2 s1 s2 t1 t2 h1 h2 hul
      generalize memB a d = mb at *
      generalize tot a % 18446744073709551616 = tt at *
      change Hid (∀ w h g, Calls _ _ _ _ (SpansEnd (uni a b) w)) at HR
      generalize uni a b = U at *
      go_enter Tryd.func4, Tryd.ntmps4
      go_wp2_with fail
      refine (HO1.out _ HS1.out).mono ?_
      rintro e w1 ⟨x1, rfl, hx1, hb⟩
      go_wp2_with fail
      refine (HO2.out _ (HS2.out.below hb)).mono ?_
      rintro e w2 ⟨x2, rfl, hx2, hb2⟩
      replace hx1 := hx1.below hb2
      replace hb := hb.trans (hb2.mono hb.size)
      go_wp2_with fail
      refine (HU.out _ _ _ hx1 hx2).mono ?_
      rintro e w3 ⟨x3, rfl, hx3, hb2⟩
      replace hb := hb.trans (hb2.mono hb.size)
      clear hx1 hx2 hb2
      go_wp2_with fail
      refine (HB.out _ _ hx3).mono ?_
      rintro e w4 ⟨x4, rfl, hx4, hb2⟩
      replace hb := hb.trans (hb2.mono hb.size)
      clear hx3 hb2
      go_wp2_with fail
      refine (HR.out _ (HS1.out.below hb) (HS2.out.below hb)).mono ?_
      rintro e w5 ⟨x5, rfl, hx5, hb2⟩
      replace hx4 := hx4.below hb2
      replace hb := hb.trans (hb2.mono hb.size)
      clear hb2
      go_wp2_with fail
      refine (HSm.out _ _ _ hx4 hx5).mono ?_
      rintro e w6 ⟨rfl, hb2⟩
      replace hb := hb.trans (hb2.mono hb.size)
      clear hb2 hx4 hx5
      go_wp2_with fail
      refine (HO1.out _ (HS1.out.below hb)).mono ?_
      rintro e w7 ⟨x7, rfl, hx7, hb2⟩
      replace hb := hb.trans (hb2.mono hb.size)
      clear hb2
      go_wp2_with fail
      refine (HI.out _ _ hx7).mono ?_
      rintro e w8 ⟨rfl, hb2⟩
      replace hb := hb.trans (hb2.mono hb.size)
      clear hb2 hx7
      go_wp2_with fail
      refine (HI2.out _ (HS1.out.below hb)).mono ?_
      rintro e w9 ⟨rfl, hb2⟩
      replace hb := hb.trans (hb2.mono hb.size)
      clear hb2
      go_wp2_with fail
      refine (HO1.out _ (HS1.out.below hb)).mono ?_
      rintro e w10 ⟨x10, rfl, hx10, hb2⟩
      replace hb := hb.trans (hb2.mono hb.size)
      clear hb2
      go_wp2_with fail
      refine (HT.out _ _ hx10).mono ?_
      rintro e w11 ⟨rfl, hb2⟩
      replace hb := hb.trans (hb2.mono hb.size)
      clear hb2 hx10
      go_wp2_with fail
      refine (HT2.out _ (HS1.out.below hb)).mono ?_
      rintro e w12 ⟨rfl, hb2⟩
      replace hb := hb.trans (hb2.mono hb.size)
      clear hb2
      go_wp2_with fail
      refine (HA.out _ (HQ.out.below hb)).mono ?_
      rintro e w13 ⟨rfl, hb2⟩
      replace hb := hb.trans (hb2.mono hb.size)
      clear hb2
      go_wp2_with fail
      go_ret
      exact ⟨rfl, hb⟩
end Go.Proofs.YthlekifagidijaaDoor
