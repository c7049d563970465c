/- LeavesSplits: its walk. -/
import Derived.Test.YtbkodaijigcebaaWj
import Derived.Deep.RegionWith
import Derived.Deep.DeepCutAuto
import Derived.Deep.CutRange
import Derived.Deep.RegionHeld3
namespace Go.Proofs.Ytbkodaijigcebaa
open Go.RowKit
set_option maxRecDepth 20000
set_option linter.unusedVariables false
set_option linter.unusedSimpArgs false
theorem roots_fewN {l : List En} (n : Nat) (hn : 1 ≤ n) : (rootsN 0 (cutN n l)).length ≤ l.length := by rw [rootsN_len]; exact cut_len n hn l
theorem split_len (l : List En) (b : Int) (hl : l.length ≤ 5000) : (splitN l b).root.length ≤ l.length := by
  by_cases h : (splitN l b).err = 0
  · obtain ⟨_, _, _, _, h3⟩ := split_ok h
    rcases h3 with ⟨_, h3⟩ | ⟨_, n, hn, _, h3⟩
    · rw [h3]; exact Nat.le_refl _
    · rw [h3]; exact roots_fewN n hn
  · rw [(split_bad h).1]; simp
set_option maxHeartbeats 4000000 in
theorem leavessplits_law (v : Value) (l : List En) (b n : Int) (w : World) (hv : EnsAt w v l) (hm : MaysN l) (b0 : -9223372036854775808 ≤ b) (b1 : b ≤ 9223372036854775807) (n0 : -9223372036854775808 ≤ n) (n1 : n ≤ 9223372036854775807) :
    Calls Try.prog 3 #[v, .int .i64 b, .int .i64 n] w fun e w' => e = .returned (.bool true) ∧ Below w.heap.size w w' := by
  have HA := Lib.hid awake14_any
  by_cases h1 : 150 < l.length
  · have hd : (150 : Int) < (l.length : Int) := by omega
    obtain ⟨av, cv, rfl⟩ := ensAt_form hv
    go_enter Try.func3, Try.ntmps3
    go_wp2_with fail
    refine (HA.out _).mono ?_
    rintro e w1 ⟨rfl, hb⟩
    have HB := Lib.hid hb
    clear hb
    go_wp2_with fail
    go_ret
    exact ⟨rfl, HB.out⟩
  have hd1 : ¬ (150 : Int) < (l.length : Int) := by omega
  have HOW := Lib.hid (ownN_any v l w hv (by omega))
  unfold EnsEnd at HOW
  have HS := Lib.hid (fun x X (hx : EnsAt X x l) => split14_any x l b X hx hm (by omega) ⟨b0, b1⟩)
  have HRS := Lib.hid (fun X (hX : Below w.heap.size w X) => rsplit_any v l b X (hv.below hX) hm (by omega) ⟨b0, b1⟩)
  have HC := Lib.hid (fun x X (hx : EnsAt X x l) => cut14_any x l n X hx hm (by omega) ⟨n0, n1⟩)
  have HRC := Lib.hid (fun X (hX : Below w.heap.size w X) => rcut_any v l n X (hv.below hX) (by omega) ⟨n0, n1⟩)
  have hsl := split_len l b (by omega)
  have hpl : ∀ p ∈ cutZ n l, p.length ≤ 150 := fun p hp => by
    unfold cutZ at hp
    split at hp
    · simp at hp
    · obtain ⟨P1, P2, he⟩ := List.append_of_mem hp
      have := cut_flat n.toNat (by omega) l
      rw [he] at this
      have := congrArg List.length this
      simp at this
      omega
  have hcl : (cutZ n l).length ≤ 150 := by
    unfold cutZ
    split
    · simp
    · have := cut_len n.toNat (by omega) l; omega
  have HPL := Lib.hid hpl
  unfold SplEnd at HS HRS
  generalize splitN l b = J at *
  generalize cutZ n l = ps at *
  obtain ⟨rt, tx, sz, er⟩ := J
  dsimp only at HS HRS hsl
  obtain ⟨av, cv, rfl⟩ := ensAt_form hv
  clear hv hpl
  go_enter Try.func3, Try.ntmps3
  go_wp2_with fail
  refine HOW.out.mono ?_
  rintro e w1 ⟨v1, rfl, ho1, hb1⟩
  have HX1 := Lib.hid ho1.ensAt
  have HB1 := Lib.hid hb1
  obtain ⟨a1, c1, rfl⟩ := ensAt_form ho1.ensAt
  clear ho1 hb1
  go_wp2_with fail
  refine (HS.out _ _ HX1.out).mono ?_
  rintro e w2 ⟨v2, rfl, he2, hb2⟩
  have HX2 := Lib.hid (HX1.out.below hb2)
  have HR2 := Lib.hid he2
  have HB2 := Lib.hid (HB1.out.trans (hb2.mono HB1.out.size))
  obtain ⟨a2, c2, rfl⟩ := ensAt_form he2
  clear he2 hb2 HX1
  go_wp2_with fail
  refine (HRS.out _ HB2.out).mono ?_
  rintro e w3 ⟨v3, rfl, he3, hb3⟩
  have HX3 := Lib.hid (HX2.out.below hb3)
  have HR3 := Lib.hid (HR2.out.below hb3)
  have HQ3 := Lib.hid he3
  have HB3 := Lib.hid (HB2.out.trans (hb3.mono HB2.out.size))
  obtain ⟨a3, c3, rfl⟩ := ensAt_form he3
  clear he3 hb3 HX2 HR2
  go_wp2_with fail
  refine (backN_any _ rt _ HR3.out (by omega)).mono ?_
  rintro e w4 ⟨v4, rfl, ho4, hb4⟩
  have HX4 := Lib.hid (HX3.out.below hb4)
  have HR4 := Lib.hid ho4.ensAt
  have HQ4 := Lib.hid (HQ3.out.below hb4)
  have HB4 := Lib.hid (HB3.out.trans (hb4.mono HB3.out.size))
  obtain ⟨a4, c4, rfl⟩ := ensAt_form ho4.ensAt
  clear ho4 hb4 HX3 HR3 HQ3
  go_wp2_with fail
  refine (rsameN_any _ _ rt rt _ HR4.out HQ4.out).mono ?_
  rintro e w5 ⟨rfl, hb5⟩
  rw [decide_eq_true rfl]
  have HX5 := Lib.hid (HX4.out.below hb5)
  have HB5 := Lib.hid (HB4.out.trans (hb5.mono HB4.out.size))
  clear hb5 HX4 HR4 HQ4
  go_wp2_with fail
  refine (HC.out _ _ HX5.out).mono ?_
  rintro e w6 ⟨v6, rfl, hp6, hb6⟩
  have HP6 := Lib.hid hp6
  have HB6 := Lib.hid (HB5.out.trans (hb6.mono HB5.out.size))
  obtain ⟨a6, c6, rfl, hc6, hm6⟩ := hp6.form
  clear hp6 hb6 HX5
  go_wp2_with fail
  refine (HRC.out _ HB6.out).mono ?_
  rintro e w7 ⟨v7, rfl, hp7, hb7⟩
  have HP7 := Lib.hid (HP6.out.below hb7)
  have HQ7 := Lib.hid hp7
  have HB7 := Lib.hid (HB6.out.trans (hb7.mono HB6.out.size))
  obtain ⟨a7, c7, rfl, hc7, hm7⟩ := hp7.form
  clear hp7 hb7 HP6
  go_wp2_with fail
  go_loopw [18] (fun i wr => ∃ k : Nat, k ≤ ps.length ∧ i = .int .i64 k ∧ Hid (Below w7.heap.size w7 wr)) (fun i _ => ps.length - (intOf i).toNat)
  case atStart => exact ⟨0, Nat.zero_le _, rfl, Lib.hid (Below.refl _ _)⟩
  case round =>
    obtain ⟨k, hk, rfl, HBW⟩ := hrel
    by_cases hlt : k < ps.length
    · obtain ⟨p, hp⟩ : ∃ p, ps[k]? = some p := ⟨_, List.getElem?_eq_getElem hlt⟩
      obtain ⟨g, off, cap, x, hvx, hg, c0, hx⟩ := (HP7.out.below HBW.out).at k p hp
      cases hvx
      obtain ⟨g2, off2, cap2, y, hvy, hg2, d0, hy⟩ := (HQ7.out.below HBW.out).at k p hp
      cases hvy
      have hpk := HPL.out p (List.mem_of_getElem? hp)
      have HBK := Lib.hid (fun X (hX : Below wr.heap.size wr X) => backN_any x p X (hx.below hX) (by omega))
      have HSM := Lib.hid (fun u X (hu : EnsAt X u p) (hX : Below wr.heap.size wr X) => rsameN_any u y p p X hu (hy.below hX))
      unfold EnsEnd at HBK
      rw [decide_eq_true rfl] at HSM
      have hki : (k : Int) < (ps.length : Int) := by omega
      have HD := Lib.hid (fun X (hX : Below wr.heap.size wr X) => vcell_later hX d0)
      obtain ⟨ax, cx, rfl⟩ := ensAt_form hx
      obtain ⟨ay, cy, rfl⟩ := ensAt_form hy
      clear hx hy hp hpk
      go_upto_region 14 with fail
      go_cut [88] (fun q wx => q = .bool false ∧ Below wr.heap.size wr wx)
      case first =>
        go_region_with (first | (go_at_call 12; refine (HBK.out _ (by go_grown)).mono ?_; rintro e w9 ⟨v9, rfl, ho9, hb9⟩; have hbb : Below wr.heap.size wr w9 := (by go_grown : Below wr.heap.size wr _).trans (hb9.mono (by simp)); have d9 := HD.out _ hbb; have he9 := ho9.ensAt; obtain ⟨a9, c9, rfl⟩ := ensAt_form ho9.ensAt; clear ho9 hb9) | (go_at_call 11; refine (HSM.out _ _ he9 hbb).mono ?_; rintro e w10 ⟨rfl, hb10⟩; have hbc : Below wr.heap.size wr w10 := hbb.trans (hb10.mono hbb.size); clear hb10))
        all_goals
          go_wp2_with fail
          go_meet
          case rel => exact ⟨rfl, hbc⟩
      case rest =>
        obtain ⟨rfl, hb9⟩ := hcut
        have HB9 := Lib.hid (HBW.out.trans (hb9.mono HBW.out.size))
        clear hb9 c0 d0
        go_wp2_with fail
        go_roundw
        case rel => exact ⟨k + 1, by omega, by go_num, HB9⟩
        case measure => simp [intOf]; omega
    · obtain rfl : k = ps.length := by omega
      go_wp2_with fail
      refine (HA.out _).mono ?_
      rintro e w9 ⟨rfl, hb9⟩
      have HB9 := Lib.hid (HB7.out.trans ((HBW.out.trans (hb9.mono HBW.out.size)).mono HB7.out.size))
      clear hb9
      go_wp2_with fail
      go_ret
      exact ⟨rfl, HB9.out⟩
end Go.Proofs.Ytbkodaijigcebaa
