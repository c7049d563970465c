/- The contract of the document's Of. -/
import Derived.Test.YtmmjdlpoiibhaaaLe
import Derived.Deep.RegionHeld3
namespace Go.Proofs.Ytmmjdlpoiibhaaa
open Go.RowKit
set_option maxRecDepth 20000
set_option linter.unusedVariables false
set_option linter.unusedSimpArgs false
theorem takeH {P : Program} {ops : Array Oper} {Q : Exit → Act → World → Prop} {md : Region.Mode} {S : World → Prop} {i d : Nat} {oi : Oper} {v : Value} {fuel : Nat} {listed : Array Bool} {a : Act} {w : World} (hi : ops[i]? = some oi) (hd : oi.dst = some d)
    (hs : Region.noSelect ops = true) (hf : Region.free md ops listed i = true) (hr : (Region.ready md ops listed).contains i = true)
    (hQ : ∀ c a w, Q (.panic c) (a.put (some d) v) w → Q (.panic c) a w) (hy : YieldsIf P ops S oi v a) (hS : S w)
    (h : wpAnyH P md ops Q S fuel (listed.setIfInBounds i true) (a.put (some d) v) w) : wpAnyH P md ops Q S (fuel + 1) listed a w :=
  wpAnyH_take hi hs hf hr (by rw [hd]; exact hQ) hy hS (by rw [hd]; exact h)
theorem ItsAt.pre {w : World} {a : Option Addr} {n cap : Nat} {l : List It} (h : ItsAt w (.slice a n cap) l) (k : Nat) (hk : k ≤ l.length) : ItsAt w (.slice a k cap) (l.take k) := by
  obtain ⟨a', cap', e, h1, h2, hc⟩ := h
  cases e
  have hl : (l.take k).length = k := by rw [List.length_take]; omega
  refine ⟨_, cap, by rw [hl], by omega, h2, fun j t ht => ?_⟩
  have hj : j < k := by have := (List.getElem?_eq_some_iff.1 ht).1; omega
  rw [List.getElem?_take, if_pos hj] at ht
  exact hc j t ht
theorem putI_len (id : Nat) (s : ByteArray) (l : List It) : (putI id s l).length ≤ l.length + 1 := by
  have h1 := congrArg List.length (low_high id (delI id l))
  have h2 := delI_len id l
  unfold putI
  rw [List.length_append] at h1
  rw [List.length_append, List.length_cons]
  omega
theorem ofR_step (all acc : List It) (k : Nat) (t : It) (h : all[k]? = some t) : ofR (all.take k) acc (all.drop k) = if (getI t.1 (all.take k)).isSome then ([], 22) else if putE acc t.1 t.2 ≠ 0 then ([], putE acc t.1 t.2) else ofR (all.take (k + 1)) (putI t.1 t.2 acc) (all.drop (k + 1)) := by
  rw [idrop_at all k t h, ofR, itake_at all k t h]
def ROfEnd (l : List It) (w : World) (e : Ending) (w' : World) : Prop :=
  ∃ v', e = .returned (.tuple #[v', .int .i64 ((ofI l).2 : Nat)]) ∧ ItsAt w' v' (ofI l).1 ∧ Below w.heap.size w w'
set_option maxRecDepth 20000 in
set_option maxHeartbeats 4000000 in
theorem rof_any (v : Value) (l : List It) (w : World) (hv : ItsAt w v l) (hl : l.length ≤ 10000) (hid : ∀ t ∈ l, t.1 < 18446744073709551616) : Calls Try.prog 25 #[v] w (ROfEnd l w) := by
  obtain ⟨al, cap, rfl, hcap, hmx, hc⟩ := id hv
  have HV := Lib.hid hv
  have HC := Lib.hid hc
  have hmx' : l.length ≤ maxLen := by omega
  unfold maxLen at hmx'
  clear hc hv
  go_enter Try.func25, Try.ntmps25
  go_wp2_with fail
  go_loopw [4, 5] (fun u i wr => ∃ (k : Nat) (acc : List It), k ≤ l.length ∧ i = .int .i64 k ∧ ItsAt wr u acc ∧ acc.length ≤ k ∧ ofI l = ofR (l.take k) acc (l.drop k) ∧ Below w.heap.size w wr) (fun _ i _ => l.length - (intOf i).toNat)
  case atStart => exact ⟨0, [], Nat.zero_le _, rfl, its_nil _, Nat.zero_le _, by simp [ofI], Below.refl _ _⟩
  case round =>
    obtain ⟨k, acc, hk, rfl, hu, hacc, hof, hbw⟩ := hrel
    by_cases hlt : k < l.length
    · obtain ⟨⟨x, s⟩, htk⟩ : ∃ t, l[k]? = some t := ⟨_, List.getElem?_eq_getElem hlt⟩
      obtain ⟨g, off, rfl, hg, c0, c1⟩ := HC.out k _ htk
      have hx := hid _ (List.mem_of_getElem? htk)
      simp only at hx
      rw [ofR_step l acc k _ htk] at hof
      have HOf := Lib.hid hof
      have HU := Lib.hid hu
      have HB := Lib.hid hbw
      have d0 := (hbw.cell (p := ⟨g, off + k * 2, none⟩) hg).trans c0
      have d1 := (hbw.cell (p := ⟨g, off + k * 2 + 1, none⟩) hg).trans c1
      have d2 := Nat.lt_of_lt_of_le hg hbw.size
      have hki : (k : Int) < (l.length : Int) := by omega
      have hgq := fun n => rget_any (.slice (some ⟨g, off, none⟩) k cap) (l.take k) x (wr.drewN n) (((HV.out.below hbw).pre k hk).below ⟨rfl, rfl, rfl, Nat.le_refl _, fun _ _ => rfl⟩)
      have HG := Lib.hid hgq
      clear hgq hof hu hbw c0 c1
      generalize getT (getI x (l.take k)) = gt at *
      cases hgb : (getI x (l.take k)).isSome with
      | true =>
        rw [hgb] at HG HOf
        simp only [if_true] at HOf
        go_wp2_with fail
        go_quiet ((go_at_call 17; (with_reducible refine Calls.quiet_of_same (HG.out _))))
        go_wp2_with fail
        refine bodyPost_ret (results_tmp2 rfl _ _ _) rfl ⟨.slice none 0 0, ?_, ?_, (HB.out.trans (⟨rfl, rfl, rfl, Nat.le_refl _, fun _ _ => rfl⟩))⟩
        · rw [HOf.out]; rfl
        · rw [HOf.out]; exact its_nil _
      | false =>
        rw [hgb] at HG HOf
        simp only [Bool.false_eq_true, if_false] at HOf
        go_wp2_with fail
        go_quiet ((go_at_call 17; (with_reducible refine Calls.quiet_of_same (HG.out _))))
        have hb2 : Below wr.heap.size wr (wr.drewN nq) := ⟨rfl, rfl, rfl, Nat.le_refl _, fun _ _ => rfl⟩
        have HU2 := Lib.hid (HU.out.below hb2)
        have HB2 := Lib.hid (HB.out.trans (hb2.mono HB.out.size))
        have hcc : (wr.drewN nq).cell? ⟨g, off + k * 2, none⟩ = some (.int .u64 x) ∧ (wr.drewN nq).cell? ⟨g, off + k * 2 + 1, none⟩ = some (.string s) ∧ g < (wr.drewN nq).heap.size := ⟨d0, d1, d2⟩
        clear hb2 HU HB d0 d1 d2 HG
        generalize wr.drewN nq = wn at *
        have HCC := Lib.hid hcc
        have HP := Lib.hid (fun W hb => rput_any _ acc x s W (HU2.out.below hb) (by omega) hx)
        have HS : Hid (∀ W, Below wn.heap.size wn W → W.cell? ⟨g, off + k * 2, none⟩ = some (.int .u64 x) ∧ W.cell? ⟨g, off + k * 2 + 1, none⟩ = some (.string s) ∧ g < W.heap.size) := Lib.hid (fun W hb => ⟨(hb.cell (p := ⟨g, off + k * 2, none⟩) hcc.2.2).trans hcc.1, (hb.cell (p := ⟨g, off + k * 2 + 1, none⟩) hcc.2.2).trans hcc.2.1, Nat.lt_of_lt_of_le hcc.2.2 hb.size⟩)
        clear hcc HCC
        go_wp2_with fail
        refine wp_region_held_drew (S := fun w' => Below wn.heap.size wn w') (by kernel_rfl) (Below.drew (Below.refl _ _)) (fun hH0 => ?_)
        refine takeH (i := 0) (d := 30) (v := ?_) rfl rfl (by kernel_rfl) (by kernel_rfl) (by kernel_rfl) (fun _ _ _ h => h) (Or.inl ⟨by rfl, ?y0⟩) hH0 ?_
        case y0 => intro w hSw; obtain ⟨s0, s1, s2⟩ := HS.out _ hSw; go_simp; try with_reducible rfl
        try simp only [Act.put, List.setIfInBounds_toArray, List.set_cons_zero, List.set_cons_succ]
        refine takeH (i := 1) (d := 31) (v := ?_) rfl rfl (by kernel_rfl) (by kernel_rfl) (by kernel_rfl) (fun _ _ _ h => h) (Or.inl ⟨by rfl, ?y1⟩) hH0 ?_
        case y1 => intro w hSw; obtain ⟨s0, s1, s2⟩ := HS.out _ hSw; go_simp; try with_reducible rfl
        try simp only [Act.put, List.setIfInBounds_toArray, List.set_cons_zero, List.set_cons_succ]
        refine takeH (i := 2) (d := 32) (v := ?_) rfl rfl (by kernel_rfl) (by kernel_rfl) (by kernel_rfl) (fun _ _ _ h => h) (Or.inl ⟨by rfl, ?y2⟩) hH0 ?_
        case y2 => intro w hSw; obtain ⟨s0, s1, s2⟩ := HS.out _ hSw; go_simp; try with_reducible rfl
        try simp only [Act.put, List.setIfInBounds_toArray, List.set_cons_zero, List.set_cons_succ]
        refine takeH (i := 3) (d := 33) (v := ?_) rfl rfl (by kernel_rfl) (by kernel_rfl) (by kernel_rfl) (fun _ _ _ h => h) (Or.inl ⟨by rfl, ?y3⟩) hH0 ?_
        case y3 => intro w hSw; obtain ⟨s0, s1, s2⟩ := HS.out _ hSw; go_simp; try with_reducible rfl
        try simp only [Act.put, List.setIfInBounds_toArray, List.set_cons_zero, List.set_cons_succ]
        refine takeH (i := 4) (d := 34) (v := ?_) rfl rfl (by kernel_rfl) (by kernel_rfl) (by kernel_rfl) (fun _ _ _ h => h) (Or.inl ⟨by rfl, ?y4⟩) hH0 ?_
        case y4 => intro w hSw; obtain ⟨s0, s1, s2⟩ := HS.out _ hSw; go_simp; try with_reducible rfl
        try simp only [Act.put, List.setIfInBounds_toArray, List.set_cons_zero, List.set_cons_succ]
        refine takeH (i := 5) (d := 35) (v := ?_) rfl rfl (by kernel_rfl) (by kernel_rfl) (by kernel_rfl) (fun _ _ _ h => h) (Or.inl ⟨by rfl, ?y5⟩) hH0 ?_
        case y5 => intro w hSw; obtain ⟨s0, s1, s2⟩ := HS.out _ hSw; go_simp; try with_reducible rfl
        try simp only [Act.put, List.setIfInBounds_toArray, List.set_cons_zero, List.set_cons_succ]
        refine takeH (i := 6) (d := 36) (v := ?_) rfl rfl (by kernel_rfl) (by kernel_rfl) (by kernel_rfl) (fun _ _ _ h => h) (Or.inl ⟨by rfl, ?y6⟩) hH0 ?_
        case y6 => intro w hSw; obtain ⟨s0, s1, s2⟩ := HS.out _ hSw; go_simp; try with_reducible rfl
        try simp only [Act.put, List.setIfInBounds_toArray, List.set_cons_zero, List.set_cons_succ]
        refine takeH (i := 7) (d := 37) (v := ?_) rfl rfl (by kernel_rfl) (by kernel_rfl) (by kernel_rfl) (fun _ _ _ h => h) (Or.inl ⟨by rfl, ?y7⟩) hH0 ?_
        case y7 => intro w hSw; obtain ⟨s0, s1, s2⟩ := HS.out _ hSw; go_simp; try with_reducible rfl
        try simp only [Act.put, List.setIfInBounds_toArray, List.set_cons_zero, List.set_cons_succ]
        refine takeH (i := 8) (d := 38) (v := ?_) rfl rfl (by kernel_rfl) (by kernel_rfl) (by kernel_rfl) (fun _ _ _ h => h) (Or.inl ⟨by rfl, ?y8⟩) hH0 ?_
        case y8 => intro w hSw; obtain ⟨s0, s1, s2⟩ := HS.out _ hSw; go_simp; try with_reducible rfl
        try simp only [Act.put, List.setIfInBounds_toArray, List.set_cons_zero, List.set_cons_succ]
        refine takeH (i := 9) (d := 39) (v := ?_) rfl rfl (by kernel_rfl) (by kernel_rfl) (by kernel_rfl) (fun _ _ _ h => h) (Or.inl ⟨by rfl, ?y9⟩) hH0 ?_
        case y9 => intro w hSw; obtain ⟨s0, s1, s2⟩ := HS.out _ hSw; go_simp; try with_reducible rfl
        try simp only [Act.put, List.setIfInBounds_toArray, List.set_cons_zero, List.set_cons_succ]
        refine takeH (i := 10) (d := 40) (v := ?_) rfl rfl (by kernel_rfl) (by kernel_rfl) (by kernel_rfl) (fun _ _ _ h => h) (Or.inl ⟨by rfl, ?y10⟩) hH0 ?_
        case y10 => intro w hSw; obtain ⟨s0, s1, s2⟩ := HS.out _ hSw; go_simp; try with_reducible rfl
        try simp only [Act.put, List.setIfInBounds_toArray, List.set_cons_zero, List.set_cons_succ]
        refine wpAnyH_ready (rs := [11]) (by kernel_rfl) (by simp) ?_
        refine AllReadyH.cons rfl (fun K hK => ?_) AllReadyH.nil
        go_simp
        refine (HP.out _ (by assumption)).mono ?_
        rintro e w' ⟨v', rfl, hit, hb⟩
        have HIT := Lib.hid hit
        have HBW := Lib.hid (hH0.trans (hb.mono hH0.size))
        go_wp2_with fail
        refine hK.out _ _ (HBW.out) (fun hH1 => ?_)
        clear hK K hH0
        try simp only [Act.put, List.setIfInBounds_toArray, List.set_cons_zero, List.set_cons_succ]
        refine takeH (i := 12) (d := 29) (v := ?_) rfl rfl (by kernel_rfl) (by kernel_rfl) (by kernel_rfl) (fun _ _ _ h => h) (Or.inl ⟨by rfl, ?y12⟩) hH1 ?_
        case y12 => intro w hSw; obtain ⟨s0, s1, s2⟩ := HS.out _ hSw; go_simp; try with_reducible rfl
        try simp only [Act.put, List.setIfInBounds_toArray, List.set_cons_zero, List.set_cons_succ]
        refine takeH (i := 13) (d := 42) (v := ?_) rfl rfl (by kernel_rfl) (by kernel_rfl) (by kernel_rfl) (fun _ _ _ h => h) (Or.inl ⟨by rfl, ?y13⟩) hH1 ?_
        case y13 => intro w hSw; obtain ⟨s0, s1, s2⟩ := HS.out _ hSw; go_simp; try with_reducible rfl
        try simp only [Act.put, List.setIfInBounds_toArray, List.set_cons_zero, List.set_cons_succ]
        refine takeH (i := 14) (d := 43) (v := ?_) rfl rfl (by kernel_rfl) (by kernel_rfl) (by kernel_rfl) (fun _ _ _ h => h) (Or.inl ⟨by rfl, ?y14⟩) hH1 ?_
        case y14 => intro w hSw; obtain ⟨s0, s1, s2⟩ := HS.out _ hSw; go_simp; try with_reducible rfl
        try simp only [Act.put, List.setIfInBounds_toArray, List.set_cons_zero, List.set_cons_succ]
        refine takeH (i := 15) (d := 8) (v := ?_) rfl rfl (by kernel_rfl) (by kernel_rfl) (by kernel_rfl) (fun _ _ _ h => h) (Or.inl ⟨by rfl, ?y15⟩) hH1 ?_
        case y15 => intro w hSw; obtain ⟨s0, s1, s2⟩ := HS.out _ hSw; go_simp; try with_reducible rfl
        try simp only [Act.put, List.setIfInBounds_toArray, List.set_cons_zero, List.set_cons_succ]
        refine takeH (i := 16) (d := 9) (v := ?_) rfl rfl (by kernel_rfl) (by kernel_rfl) (by kernel_rfl) (fun _ _ _ h => h) (Or.inl ⟨by rfl, ?y16⟩) hH1 ?_
        case y16 => intro w hSw; obtain ⟨s0, s1, s2⟩ := HS.out _ hSw; go_simp; try with_reducible rfl
        try simp only [Act.put, List.setIfInBounds_toArray, List.set_cons_zero, List.set_cons_succ]
        refine wpAnyH_done (by kernel_rfl) ?_ _
        have HIB := Lib.hid (HB2.out.trans (HBW.out.mono HB2.out.size))
        have HPL := Lib.hid (show putL acc x s = if putE acc x s = 0 then putI x s acc else acc from rfl)
        clear hit hb hH1 HBW HP HS HB2 HU2
        generalize hpe : putE acc x s = n at *
        by_cases h0 : n = 0
        · have h0' : ((n : Int) != 0) = false := by simp; omega
          rw [if_neg (by omega)] at HOf
          rw [if_pos h0] at HPL
          rw [HPL.out] at HIT
          have HLn := Lib.hid (putI_len x s acc)
          go_wp2_with fail
          go_roundw
          case rel => exact ⟨k + 1, putI x s acc, by omega, by go_num, HIT.out, by have := HLn.out; omega, HOf.out, HIB.out⟩
          case measure => simp [intOf]; omega
        · have h0' : ((n : Int) != 0) = true := by simp; omega
          rw [if_pos h0] at HOf
          go_wp2_with fail
          refine bodyPost_ret (results_tmp2 rfl _ _ _) rfl ⟨.slice none 0 0, ?_, ?_, HIB.out⟩
          · rw [HOf.out]; rfl
          · rw [HOf.out]; exact its_nil _
    · have hkl : k = l.length := by omega
      subst hkl
      rw [List.drop_length, ofR] at hof
      have HOf := Lib.hid hof
      have HU := Lib.hid hu
      clear hof hu
      go_wp2_with fail
      refine bodyPost_ret (results_tmp2 rfl _ _ _) rfl ⟨u4, ?_, ?_, hbw⟩
      · rw [HOf.out]; rfl
      · rw [HOf.out]; exact HU.out
end Go.Proofs.Ytmmjdlpoiibhaaa
