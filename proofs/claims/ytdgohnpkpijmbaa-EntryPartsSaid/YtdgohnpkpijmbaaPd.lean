/- Contracts of the library's Equal at entries, and of the program's Same: two lists are the same. -/
import Derived.Test.YtdgohnpkpijmbaaEg
import Derived.Test.YtdgohnpkpijmbaaPb
namespace Go.Proofs.Ytdgohnpkpijmbaa
open Go.RowKit
set_option linter.unusedVariables false
set_option linter.unusedSimpArgs false
theorem eq_entP (a b : En) (T : TypeId) (w : World) (hT : T = 26) : (Op.equalIn 10000 T (.agg #[.int .u64 a.id, .int .u64 a.off, .int .u32 a.ln, .int .u32 a.rn]) (.agg #[.int .u64 b.id, .int .u64 b.off, .int .u32 b.ln, .int .u32 b.rn])).run Try.prog w = .ok (decide (a = b)) w := by
  subst hT
  have hS : Try.prog.underlying 26 = some (.struct (Try.prog.fieldsOf 26)) := by kernel_rfl
  rw [show (10000 : Nat) = 9999 + 1 from rfl, run_equalIn_agg w 9999 _ _ _ hS (by kernel_rfl)]
  simp only [Program.fieldsOf, Try.underlying26]
  go_simp
  by_cases h0 : a.id = b.id
  case neg => simp [h0, En.eq_iff]
  by_cases h1 : a.off = b.off
  case neg => simp [h0, h1, En.eq_iff]
  by_cases h2 : a.ln = b.ln
  case neg => simp [h0, h1, h2, En.eq_iff]
  by_cases h3 : a.rn = b.rn
  case neg => simp [h0, h1, h2, h3, En.eq_iff]
  simp [h0, h1, h2, h3, En.eq_iff]
set_option maxRecDepth 20000 in
set_option maxHeartbeats 2000000 in
theorem pequal_any (v u : Value) (l m : List En) (w : World) (hv : EnsAt w v l) (hu : EnsAt w u m) : Calls Try.prog 30 #[v, u] w fun x w' => x = .returned (.bool (decide (l = m))) ∧ Below w.heap.size w w' := by
  obtain ⟨al, cap, rfl, hcap, hmx, hc⟩ := hv
  obtain ⟨am, cam, rfl, hcam, hmm, hcm⟩ := hu
  have HC := Lib.hid hc
  have HD := Lib.hid hcm
  obtain ⟨R, hR⟩ : ∃ R, decide (l = m) = R := ⟨_, rfl⟩
  rw [hR]
  have HR := Lib.hid hR
  have hml : l.length ≤ 9223372036854775807 := by unfold maxLen at hmx; omega
  clear hc hcm hR
  by_cases hne : l.length = m.length
  · have hd : ((l.length : Int) != (m.length : Int)) = false := by simp; omega
    have HN := Lib.hid hne
    clear hne
    go_enter Try.func30, Try.ntmps30
    go_wp2_with fail
    go_loopw [13] (fun s wr => ∃ i : Nat, i ≤ l.length ∧ s = .int .i64 i ∧ Hid (l.take i = m.take i) ∧ Below w.heap.size w wr) (fun s _ => l.length - (intOf s).toNat)
    case atStart => exact ⟨0, Nat.zero_le _, rfl, Lib.hid rfl, Below.refl _ _⟩
    case round =>
      obtain ⟨i, hi, rfl, HG, hbw⟩ := hrel
      by_cases hlt : i < l.length
      · have hlm : i < m.length := by have := HN.out; omega
        obtain ⟨e, he⟩ : ∃ t, l[i]? = some t := ⟨_, List.getElem?_eq_getElem hlt⟩
        obtain ⟨f, hf⟩ : ∃ t, m[i]? = some t := ⟨_, List.getElem?_eq_getElem hlm⟩
        obtain ⟨g, off, rfl, hg, l0, l1, l2, l3⟩ := HC.out i e he
        obtain ⟨g', off', rfl, hg', f0, f1, f2, f3⟩ := HD.out i f hf
        have HS0 := keep2E (Below.drew (Below.refl _ _)) ⟨cells4 hbw ⟨l0, l1, l2, l3⟩, cells4 hbw ⟨f0, f1, f2, f3⟩, hbw⟩
        have hq := fun W => eq_entP e f _ W rfl
        have hi2 : (i : Int) < (l.length : Int) := by omega
        have hi3 : (i : Int) < (m.length : Int) := by omega
        have hi4 : (0 : Int) ≤ (i : Int) := by omega
        have HE := Lib.hid (And.intro he hf)
        clear he hf l0 l1 l2 l3 f0 f1 f2 f3 hbw hg hg'
        by_cases hef : e = f
        · rw [decide_eq_true hef] at hq
          have HG2 : Hid (l.take (i + 1) = m.take (i + 1)) := Lib.hid (by rw [take_one l i e HE.out.1, take_one m i f HE.out.2, HG.out, hef])
          clear hef HG HE
          go_upto_region 6 with fail
          refine wp_region_held_drew (S := fun w' => (w'.cell? ⟨g, off + i * 4, none⟩ = some (.int .u64 e.id) ∧ w'.cell? ⟨g, off + i * 4 + 1, none⟩ = some (.int .u64 e.off) ∧ w'.cell? ⟨g, off + i * 4 + 2, none⟩ = some (.int .u32 e.ln) ∧ w'.cell? ⟨g, off + i * 4 + 3, none⟩ = some (.int .u32 e.rn)) ∧ (w'.cell? ⟨g', off' + i * 4, none⟩ = some (.int .u64 f.id) ∧ w'.cell? ⟨g', off' + i * 4 + 1, none⟩ = some (.int .u64 f.off) ∧ w'.cell? ⟨g', off' + i * 4 + 2, none⟩ = some (.int .u32 f.ln) ∧ w'.cell? ⟨g', off' + i * 4 + 3, none⟩ = some (.int .u32 f.rn)) ∧ Below w.heap.size w w') (by kernel_rfl) HS0 (fun hH0 => ?_)
          refine takeH (i := 0) (d := 16) (v := ?_) rfl rfl (by kernel_rfl) (by kernel_rfl) (by kernel_rfl) (fun _ _ _ h => h) (Or.inl ⟨by rfl, ?y0⟩) hH0 ?_
          case y0 => intro w hSw; go_simp; try with_reducible rfl
          try simp only [Act.put, List.setIfInBounds_toArray, List.set_cons_zero, List.set_cons_succ]
          refine takeH (i := 1) (d := 17) (v := ?_) rfl rfl (by kernel_rfl) (by kernel_rfl) (by kernel_rfl) (fun _ _ _ h => h) (Or.inl ⟨by rfl, ?y1⟩) hH0 ?_
          case y1 => intro w hSw; go_simp; try with_reducible rfl
          try simp only [Act.put, List.setIfInBounds_toArray, List.set_cons_zero, List.set_cons_succ]
          refine takeH (i := 2) (d := 18) (v := ?_) rfl rfl (by kernel_rfl) (by kernel_rfl) (by kernel_rfl) (fun _ _ _ h => h) (Or.inl ⟨by rfl, ?y2⟩) hH0 ?_
          case y2 => intro w hSw; go_simp; try with_reducible rfl
          try simp only [Act.put, List.setIfInBounds_toArray, List.set_cons_zero, List.set_cons_succ]
          refine takeH (i := 3) (d := 19) (v := ?_) rfl rfl (by kernel_rfl) (by kernel_rfl) (by kernel_rfl) (fun _ _ _ h => h) (Or.inl ⟨by rfl, ?y3⟩) hH0 ?_
          case y3 => intro w hSw; go_simp; try with_reducible rfl
          try simp only [Act.put, List.setIfInBounds_toArray, List.set_cons_zero, List.set_cons_succ]
          refine takeH (i := 4) (d := 20) (v := ?_) rfl rfl (by kernel_rfl) (by kernel_rfl) (by kernel_rfl) (fun _ _ _ h => h) (Or.inl ⟨by rfl, ?y4⟩) hH0 ?_
          case y4 => intro w hSw; go_simp; try with_reducible rfl
          try simp only [Act.put, List.setIfInBounds_toArray, List.set_cons_zero, List.set_cons_succ]
          refine takeH (i := 5) (d := 21) (v := ?_) rfl rfl (by kernel_rfl) (by kernel_rfl) (by kernel_rfl) (fun _ _ _ h => h) (Or.inl ⟨by rfl, ?y5⟩) hH0 ?_
          case y5 => intro w hSw; go_simp; try with_reducible rfl
          try simp only [Act.put, List.setIfInBounds_toArray, List.set_cons_zero, List.set_cons_succ]
          refine takeH (i := 6) (d := 22) (v := ?_) rfl rfl (by kernel_rfl) (by kernel_rfl) (by kernel_rfl) (fun _ _ _ h => h) (Or.inl ⟨by rfl, ?y6⟩) hH0 ?_
          case y6 => intro w hSw; go_simp; try with_reducible rfl
          try simp only [Act.put, List.setIfInBounds_toArray, List.set_cons_zero, List.set_cons_succ]
          refine takeH (i := 7) (d := 23) (v := ?_) rfl rfl (by kernel_rfl) (by kernel_rfl) (by kernel_rfl) (fun _ _ _ h => h) (Or.inl ⟨by rfl, ?y7⟩) hH0 ?_
          case y7 => intro w hSw; go_simp; try with_reducible rfl
          try simp only [Act.put, List.setIfInBounds_toArray, List.set_cons_zero, List.set_cons_succ]
          refine takeH (i := 8) (d := 24) (v := ?_) rfl rfl (by kernel_rfl) (by kernel_rfl) (by kernel_rfl) (fun _ _ _ h => h) (Or.inl ⟨by rfl, ?y8⟩) hH0 ?_
          case y8 => intro w hSw; go_simp; try with_reducible rfl
          try simp only [Act.put, List.setIfInBounds_toArray, List.set_cons_zero, List.set_cons_succ]
          refine wpAnyH_done (by kernel_rfl) ?_ _
          go_wp2_with fail
          go_roundw
          case rel => exact ⟨i + 1, by omega, by go_num, HG2, hH0.2.2⟩
          case measure => simp [intOf]; omega
        · rw [decide_eq_false hef] at hq
          have hR : R = false := by
            rw [← HR.out, decide_eq_false_iff_not]
            intro hlm2
            apply hef
            have h1 := HE.out.1
            rw [hlm2, HE.out.2] at h1
            exact (Option.some.inj h1).symm
          subst hR
          clear hef HG HE HR
          go_upto_region 6 with fail
          refine wp_region_held_drew (S := fun w' => (w'.cell? ⟨g, off + i * 4, none⟩ = some (.int .u64 e.id) ∧ w'.cell? ⟨g, off + i * 4 + 1, none⟩ = some (.int .u64 e.off) ∧ w'.cell? ⟨g, off + i * 4 + 2, none⟩ = some (.int .u32 e.ln) ∧ w'.cell? ⟨g, off + i * 4 + 3, none⟩ = some (.int .u32 e.rn)) ∧ (w'.cell? ⟨g', off' + i * 4, none⟩ = some (.int .u64 f.id) ∧ w'.cell? ⟨g', off' + i * 4 + 1, none⟩ = some (.int .u64 f.off) ∧ w'.cell? ⟨g', off' + i * 4 + 2, none⟩ = some (.int .u32 f.ln) ∧ w'.cell? ⟨g', off' + i * 4 + 3, none⟩ = some (.int .u32 f.rn)) ∧ Below w.heap.size w w') (by kernel_rfl) HS0 (fun hH0 => ?_)
          refine takeH (i := 0) (d := 16) (v := ?_) rfl rfl (by kernel_rfl) (by kernel_rfl) (by kernel_rfl) (fun _ _ _ h => h) (Or.inl ⟨by rfl, ?y0⟩) hH0 ?_
          case y0 => intro w hSw; go_simp; try with_reducible rfl
          try simp only [Act.put, List.setIfInBounds_toArray, List.set_cons_zero, List.set_cons_succ]
          refine takeH (i := 1) (d := 17) (v := ?_) rfl rfl (by kernel_rfl) (by kernel_rfl) (by kernel_rfl) (fun _ _ _ h => h) (Or.inl ⟨by rfl, ?y1⟩) hH0 ?_
          case y1 => intro w hSw; go_simp; try with_reducible rfl
          try simp only [Act.put, List.setIfInBounds_toArray, List.set_cons_zero, List.set_cons_succ]
          refine takeH (i := 2) (d := 18) (v := ?_) rfl rfl (by kernel_rfl) (by kernel_rfl) (by kernel_rfl) (fun _ _ _ h => h) (Or.inl ⟨by rfl, ?y2⟩) hH0 ?_
          case y2 => intro w hSw; go_simp; try with_reducible rfl
          try simp only [Act.put, List.setIfInBounds_toArray, List.set_cons_zero, List.set_cons_succ]
          refine takeH (i := 3) (d := 19) (v := ?_) rfl rfl (by kernel_rfl) (by kernel_rfl) (by kernel_rfl) (fun _ _ _ h => h) (Or.inl ⟨by rfl, ?y3⟩) hH0 ?_
          case y3 => intro w hSw; go_simp; try with_reducible rfl
          try simp only [Act.put, List.setIfInBounds_toArray, List.set_cons_zero, List.set_cons_succ]
          refine takeH (i := 4) (d := 20) (v := ?_) rfl rfl (by kernel_rfl) (by kernel_rfl) (by kernel_rfl) (fun _ _ _ h => h) (Or.inl ⟨by rfl, ?y4⟩) hH0 ?_
          case y4 => intro w hSw; go_simp; try with_reducible rfl
          try simp only [Act.put, List.setIfInBounds_toArray, List.set_cons_zero, List.set_cons_succ]
          refine takeH (i := 5) (d := 21) (v := ?_) rfl rfl (by kernel_rfl) (by kernel_rfl) (by kernel_rfl) (fun _ _ _ h => h) (Or.inl ⟨by rfl, ?y5⟩) hH0 ?_
          case y5 => intro w hSw; go_simp; try with_reducible rfl
          try simp only [Act.put, List.setIfInBounds_toArray, List.set_cons_zero, List.set_cons_succ]
          refine takeH (i := 6) (d := 22) (v := ?_) rfl rfl (by kernel_rfl) (by kernel_rfl) (by kernel_rfl) (fun _ _ _ h => h) (Or.inl ⟨by rfl, ?y6⟩) hH0 ?_
          case y6 => intro w hSw; go_simp; try with_reducible rfl
          try simp only [Act.put, List.setIfInBounds_toArray, List.set_cons_zero, List.set_cons_succ]
          refine takeH (i := 7) (d := 23) (v := ?_) rfl rfl (by kernel_rfl) (by kernel_rfl) (by kernel_rfl) (fun _ _ _ h => h) (Or.inl ⟨by rfl, ?y7⟩) hH0 ?_
          case y7 => intro w hSw; go_simp; try with_reducible rfl
          try simp only [Act.put, List.setIfInBounds_toArray, List.set_cons_zero, List.set_cons_succ]
          refine takeH (i := 8) (d := 24) (v := ?_) rfl rfl (by kernel_rfl) (by kernel_rfl) (by kernel_rfl) (fun _ _ _ h => h) (Or.inl ⟨by rfl, ?y8⟩) hH0 ?_
          case y8 => intro w hSw; go_simp; try with_reducible rfl
          try simp only [Act.put, List.setIfInBounds_toArray, List.set_cons_zero, List.set_cons_succ]
          refine wpAnyH_done (by kernel_rfl) ?_ _
          go_wp2_with fail
          go_ret
          exact ⟨rfl, hH0.2.2⟩
      · obtain rfl : i = l.length := by omega
        have hR : R = true := by
          rw [← HR.out, decide_eq_true_iff]
          have := HG.out
          rw [List.take_length, HN.out, List.take_length] at this
          exact this
        subst hR
        clear HG HR
        go_wp2_with fail
        go_ret
        exact ⟨rfl, hbw⟩
  · have hd : ((l.length : Int) != (m.length : Int)) = true := by simp; omega
    have hR : R = false := by
      rw [← HR.out, decide_eq_false_iff_not]
      intro h
      exact hne (by rw [h])
    subst hR
    clear hne HR
    go_enter Try.func30, Try.ntmps30
    go_wp2_with fail
    go_ret
    exact ⟨rfl, by go_grown⟩
theorem psame_any (v u : Value) (l m : List En) (w : World) (hv : EnsAt w v l) (hu : EnsAt w u m) : Calls Try.prog 23 #[v, u] w fun x w' => x = .returned (.bool (decide (l = m))) ∧ Below w.heap.size w w' := by
  have HQ := Lib.hid (fun W (h : Below w.heap.size w W) => pequal_any v u l m W (hv.below h) (hu.below h))
  obtain ⟨al, cap, rfl, -, -, -⟩ := hv
  obtain ⟨am, cam, rfl, -, -, -⟩ := hu
  go_enter Try.func23, Try.ntmps23
  go_wp2_with fail
  refine (HQ.out _ (by go_grown)).mono ?_
  rintro x w1 ⟨rfl, hb⟩
  go_wp2_with fail
  go_ret
  exact ⟨rfl, hb⟩
end Go.Proofs.Ytdgohnpkpijmbaa
