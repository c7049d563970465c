/- Contracts of the program's Row. -/
import Derived.Test.YthaembnfdkcheaaME
import Derived.Test.YthaembnfdkcheaaMP
namespace Go.Proofs.Ythaembnfdkcheaa
open Go.RowKit
set_option linter.unusedVariables false
set_option linter.unusedSimpArgs false
set_option maxRecDepth 20000 in
set_option maxHeartbeats 1000000 in
theorem prow_any (v : Value) (l : List En) (w : World) (hv : EnsAt w v l) (hm : MaysN l) : Calls Try.prog 17 #[v] w fun x w' => x = .returned (.int .i64 (rowN l)) ∧ Below w.heap.size w w' := by
  obtain ⟨al, cap, rfl, hcap, _, hc⟩ := hv
  have HC := Lib.hid hc
  have HM := Lib.hid hm
  obtain ⟨R, hR⟩ : ∃ R, rowN l = R := ⟨_, rfl⟩
  rw [hR]
  clear hc hm
  by_cases h4 : 4096 < l.length
  · have hR2 : R = 21 := by rw [← hR, rowN, if_pos h4]
    subst hR2
    have hd : decide (4096 < (l.length : Int)) = true := by simp; omega
    clear hR
    go_enter Try.func17, Try.ntmps17
    go_wp2_with fail
    go_ret
    exact ⟨rfl, by go_grown⟩
  have hR2 : rowG (-1) l = R := by rw [← hR, rowN, if_neg h4]
  have HR := Lib.hid hR2
  have hd : decide (4096 < (l.length : Int)) = false := by simp; omega
  clear hR hR2
  go_enter Try.func17, Try.ntmps17
  go_wp2_with fail
  go_loopw [11] (fun s wr => ∃ i : Nat, i ≤ l.length ∧ s = .int .i64 i ∧ Hid (rowG (-1) (l.take i) = 0) ∧ Below w.heap.size w wr) (fun s _ => l.length - (intOf s).toNat)
  case atStart => exact ⟨0, Nat.zero_le _, rfl, Lib.hid rfl, Below.refl _ _⟩
  case round =>
    obtain ⟨i, hi, rfl, HG, hbw⟩ := hrel
    by_cases hlt : i < l.length
    · obtain ⟨e, he⟩ : ∃ t, l[i]? = some t := ⟨_, List.getElem?_eq_getElem hlt⟩
      obtain ⟨g, off, rfl, hg, l0, l1, l2, l3⟩ := HC.out i e he
      have hme := HM.out e (List.mem_of_getElem? he)
      have HK := Lib.hid (fun W => pcheck_any e W hme)
      have HAt := Lib.hid (rowG_at l i e he HG.out)
      have hi2 : (i : Int) < (l.length : Int) := by omega
      have hcl := keep1E (Below.refl _ _) ⟨cells4 hbw ⟨l0, l1, l2, l3⟩, hbw⟩
      have HE : Hid (¬ e.id ≤ -1) := Lib.hid (by have := hme.1; omega)
      clear he hme l0 l1 l2 l3 hbw HG
      unfold eC at HK
      have HX := Lib.hid (EAt.made wr e 29)
      have HBX := Lib.hid (hcl.2.trans (((Below.refl wr.heap.size wr).alloc (Nat.le_refl _) (.cells (eC e) 29)).mono hcl.2.size))
      unfold eC at HX HBX
      by_cases h0 : ckN e = 0
      · rw [h0] at HK
        have HCL := Lib.hid hcl
        obtain ⟨⟨k0, k1, k2, k3⟩, hbw⟩ := hcl
        clear hbw
        by_cases hz : i = 0
        · have hdz : decide (0 < (i : Int)) = false := by simp; omega
          have hdn : decide (0 < i) = false := by simp; omega
          have HZ := Lib.hid hz
          clear hz
          go_wp2_with fail
          refine (HK.out _).mono ?_
          rintro x w1 ⟨rfl, hb⟩
          have HS0 := keepE (Below.drew (Below.refl _ _)) (keepE hb ⟨HX.out, HBX.out⟩)
          clear hb k0 k1 k2 k3 HCL HX HBX
          go_upto_region 9 with fail
          refine wp_region_held_drew (S := fun w' => (w'.cell? ⟨wr.heap.size, 0, none⟩ = some (.int .u64 e.id) ∧ w'.cell? ⟨wr.heap.size, 1, none⟩ = some (.int .u64 e.off) ∧ w'.cell? ⟨wr.heap.size, 2, none⟩ = some (.int .u32 e.ln) ∧ w'.cell? ⟨wr.heap.size, 3, none⟩ = some (.int .u32 e.rn)) ∧ Below w.heap.size w w') (by kernel_rfl) HS0 (fun hH0 => ?_)
          refine takeH (i := 0) (d := 21) (v := ?_) rfl rfl (by kernel_rfl) (by kernel_rfl) (by kernel_rfl) (fun _ _ _ h => h) (Or.inl ⟨by rfl, ?y0⟩) hH0 ?_
          case y0 => intro w hSw; go_simp; try with_reducible rfl
          try simp only [Act.put, List.setIfInBounds_toArray, List.set_cons_zero, List.set_cons_succ]
          refine takeH (i := 1) (d := 22) (v := ?_) rfl rfl (by kernel_rfl) (by kernel_rfl) (by kernel_rfl) (fun _ _ _ h => h) (Or.inl ⟨by rfl, ?y1⟩) hH0 ?_
          case y1 => intro w hSw; go_simp; try with_reducible rfl
          try simp only [Act.put, List.setIfInBounds_toArray, List.set_cons_zero, List.set_cons_succ]
          refine takeH (i := 2) (d := 23) (v := ?_) rfl rfl (by kernel_rfl) (by kernel_rfl) (by kernel_rfl) (fun _ _ _ h => h) (Or.inl ⟨by rfl, ?y2⟩) hH0 ?_
          case y2 => intro w hSw; go_simp; try with_reducible rfl
          try simp only [Act.put, List.setIfInBounds_toArray, List.set_cons_zero, List.set_cons_succ]
          refine takeH (i := 3) (d := 24) (v := undef) rfl rfl (by kernel_rfl) (by kernel_rfl) (by kernel_rfl) (fun _ _ _ h => h) (Or.inr ⟨by rfl, rfl⟩) hH0 ?_
          try simp only [Act.put, List.setIfInBounds_toArray, List.set_cons_zero, List.set_cons_succ]
          refine takeH (i := 4) (d := 25) (v := undef) rfl rfl (by kernel_rfl) (by kernel_rfl) (by kernel_rfl) (fun _ _ _ h => h) (Or.inr ⟨by rfl, rfl⟩) hH0 ?_
          try simp only [Act.put, List.setIfInBounds_toArray, List.set_cons_zero, List.set_cons_succ]
          refine takeH (i := 5) (d := 26) (v := undef) rfl rfl (by kernel_rfl) (by kernel_rfl) (by kernel_rfl) (fun _ _ _ h => h) (Or.inr ⟨by rfl, rfl⟩) hH0 ?_
          try simp only [Act.put, List.setIfInBounds_toArray, List.set_cons_zero, List.set_cons_succ]
          refine takeH (i := 6) (d := 27) (v := undef) rfl rfl (by kernel_rfl) (by kernel_rfl) (by kernel_rfl) (fun _ _ _ h => h) (Or.inr ⟨by rfl, rfl⟩) hH0 ?_
          try simp only [Act.put, List.setIfInBounds_toArray, List.set_cons_zero, List.set_cons_succ]
          refine takeH (i := 7) (d := 28) (v := undef) rfl rfl (by kernel_rfl) (by kernel_rfl) (by kernel_rfl) (fun _ _ _ h => h) (Or.inr ⟨by rfl, rfl⟩) hH0 ?_
          try simp only [Act.put, List.setIfInBounds_toArray, List.set_cons_zero, List.set_cons_succ]
          refine takeH (i := 8) (d := 29) (v := undef) rfl rfl (by kernel_rfl) (by kernel_rfl) (by kernel_rfl) (fun _ _ _ h => h) (Or.inr ⟨by rfl, rfl⟩) hH0 ?_
          try simp only [Act.put, List.setIfInBounds_toArray, List.set_cons_zero, List.set_cons_succ]
          refine takeH (i := 9) (d := 30) (v := undef) rfl rfl (by kernel_rfl) (by kernel_rfl) (by kernel_rfl) (fun _ _ _ h => h) (Or.inr ⟨by rfl, rfl⟩) hH0 ?_
          try simp only [Act.put, List.setIfInBounds_toArray, List.set_cons_zero, List.set_cons_succ]
          refine takeH (i := 10) (d := 31) (v := undef) rfl rfl (by kernel_rfl) (by kernel_rfl) (by kernel_rfl) (fun _ _ _ h => h) (Or.inr ⟨by rfl, rfl⟩) hH0 ?_
          try simp only [Act.put, List.setIfInBounds_toArray, List.set_cons_zero, List.set_cons_succ]
          refine takeH (i := 11) (d := 32) (v := undef) rfl rfl (by kernel_rfl) (by kernel_rfl) (by kernel_rfl) (fun _ _ _ h => h) (Or.inr ⟨by rfl, rfl⟩) hH0 ?_
          try simp only [Act.put, List.setIfInBounds_toArray, List.set_cons_zero, List.set_cons_succ]
          refine takeH (i := 12) (d := 33) (v := ?_) rfl rfl (by kernel_rfl) (by kernel_rfl) (by kernel_rfl) (fun _ _ _ h => h) (Or.inl ⟨by rfl, ?y12⟩) hH0 ?_
          case y12 => intro w hSw; go_simp; try with_reducible rfl
          try simp only [Act.put, List.setIfInBounds_toArray, List.set_cons_zero, List.set_cons_succ]
          refine wpAnyH_done (by kernel_rfl) ?_ _
          go_wp2_with fail
          go_roundw
          case rel =>
            refine ⟨i + 1, by omega, by go_num, Lib.hid (HAt.out.2 h0 ?_), hH0.2⟩
            unfold prvN
            rw [if_pos HZ.out]
            exact HE.out
          case measure => simp [intOf]; omega
        · obtain ⟨j, rfl⟩ : ∃ j, i = j + 1 := ⟨i - 1, by omega⟩
          obtain ⟨f, hf⟩ : ∃ t, l[j]? = some t := ⟨_, List.getElem?_eq_getElem (by omega)⟩
          have hpv : prvN l (j + 1) = laN f := by
            unfold prvN
            rw [if_neg (by omega), Nat.add_sub_cancel, List.getD_eq_getElem?_getD, hf]
            rfl
          rw [hpv] at HAt
          obtain ⟨g', off', ha, hg', f0, f1, f2, f3⟩ := HC.out j f hf
          obtain ⟨rfl, rfl⟩ : g = g' ∧ off = off' := by simpa using ha
          have hmf := HM.out f (List.mem_of_getElem? hf)
          have HLF := Lib.hid (fun W => plast_any f W hmf)
          unfold eC at HLF
          have HF := Lib.hid (cells4 HBX.out ⟨f0, f1, f2, f3⟩)
          have hij : ((j + 1 : Nat) : Int) - 1 = (j : Int) := by omega
          have hwj : IntKind.i64.wrap (j : Int) = (j : Int) := by rw [IntKind.wrap_i64] <;> omega
          have hj2 : (j : Int) < (l.length : Int) := by omega
          have hj0 : (0 : Int) ≤ (j : Int) := by omega
          generalize hgi : j + 1 = i at *
          have hdz : decide (0 < (i : Int)) = true := by simp; omega
          have hdn : decide (0 < i) = true := by simp; omega
          obtain ⟨q, hq⟩ : ∃ q, laN f = q := ⟨_, rfl⟩
          rw [hq] at HAt HLF
          clear hq hf f0 f1 f2 f3 hpv hz hmf
          by_cases hle : e.id ≤ q
          · have hR : R = 10 := by rw [← HR.out, HAt.out.1, if_neg (fun h => h h0), if_pos hle]
            subst hR
            have hdl : decide (e.id ≤ q) = true := by simpa using hle
            clear hle HAt
            go_wp2_with fail
            refine (HK.out _).mono ?_
            rintro x w1 ⟨rfl, hb⟩
            have HS0 := keep2E (Below.drew (Below.refl _ _)) (keep2E hb ⟨HX.out, HF.out, HBX.out⟩)
            clear hb k0 k1 k2 k3 HCL HX HBX HF
            go_upto_region 9 with fail
            refine wp_region_held_drew (S := fun w' => (w'.cell? ⟨wr.heap.size, 0, none⟩ = some (.int .u64 e.id) ∧ w'.cell? ⟨wr.heap.size, 1, none⟩ = some (.int .u64 e.off) ∧ w'.cell? ⟨wr.heap.size, 2, none⟩ = some (.int .u32 e.ln) ∧ w'.cell? ⟨wr.heap.size, 3, none⟩ = some (.int .u32 e.rn)) ∧ (w'.cell? ⟨g, off + j * 4, none⟩ = some (.int .u64 f.id) ∧ w'.cell? ⟨g, off + j * 4 + 1, none⟩ = some (.int .u64 f.off) ∧ w'.cell? ⟨g, off + j * 4 + 2, none⟩ = some (.int .u32 f.ln) ∧ w'.cell? ⟨g, off + j * 4 + 3, none⟩ = some (.int .u32 f.rn)) ∧ Below w.heap.size w w') (by kernel_rfl) HS0 (fun hH0 => ?_)
            refine takeH (i := 0) (d := 21) (v := ?_) rfl rfl (by kernel_rfl) (by kernel_rfl) (by kernel_rfl) (fun _ _ _ h => h) (Or.inl ⟨by rfl, ?y0⟩) hH0 ?_
            case y0 => intro w hSw; go_simp; try with_reducible rfl
            try simp only [Act.put, List.setIfInBounds_toArray, List.set_cons_zero, List.set_cons_succ]
            refine takeH (i := 1) (d := 22) (v := ?_) rfl rfl (by kernel_rfl) (by kernel_rfl) (by kernel_rfl) (fun _ _ _ h => h) (Or.inl ⟨by rfl, ?y1⟩) hH0 ?_
            case y1 => intro w hSw; go_simp; try with_reducible rfl
            try simp only [Act.put, List.setIfInBounds_toArray, List.set_cons_zero, List.set_cons_succ]
            refine takeH (i := 2) (d := 23) (v := ?_) rfl rfl (by kernel_rfl) (by kernel_rfl) (by kernel_rfl) (fun _ _ _ h => h) (Or.inl ⟨by rfl, ?y2⟩) hH0 ?_
            case y2 => intro w hSw; go_simp; try with_reducible rfl
            try simp only [Act.put, List.setIfInBounds_toArray, List.set_cons_zero, List.set_cons_succ]
            refine takeH (i := 3) (d := 24) (v := ?_) rfl rfl (by kernel_rfl) (by kernel_rfl) (by kernel_rfl) (fun _ _ _ h => h) (Or.inl ⟨by rfl, ?y3⟩) hH0 ?_
            case y3 => intro w hSw; go_simp; try with_reducible rfl
            try simp only [Act.put, List.setIfInBounds_toArray, List.set_cons_zero, List.set_cons_succ]
            refine takeH (i := 4) (d := 25) (v := ?_) rfl rfl (by kernel_rfl) (by kernel_rfl) (by kernel_rfl) (fun _ _ _ h => h) (Or.inl ⟨by rfl, ?y4⟩) hH0 ?_
            case y4 => intro w hSw; go_simp; try with_reducible rfl
            try simp only [Act.put, List.setIfInBounds_toArray, List.set_cons_zero, List.set_cons_succ]
            refine takeH (i := 5) (d := 26) (v := ?_) rfl rfl (by kernel_rfl) (by kernel_rfl) (by kernel_rfl) (fun _ _ _ h => h) (Or.inl ⟨by rfl, ?y5⟩) hH0 ?_
            case y5 => intro w hSw; go_simp; try with_reducible rfl
            try simp only [Act.put, List.setIfInBounds_toArray, List.set_cons_zero, List.set_cons_succ]
            refine takeH (i := 6) (d := 27) (v := ?_) rfl rfl (by kernel_rfl) (by kernel_rfl) (by kernel_rfl) (fun _ _ _ h => h) (Or.inl ⟨by rfl, ?y6⟩) hH0 ?_
            case y6 => intro w hSw; go_simp; try with_reducible rfl
            try simp only [Act.put, List.setIfInBounds_toArray, List.set_cons_zero, List.set_cons_succ]
            refine takeH (i := 7) (d := 28) (v := ?_) rfl rfl (by kernel_rfl) (by kernel_rfl) (by kernel_rfl) (fun _ _ _ h => h) (Or.inl ⟨by rfl, ?y7⟩) hH0 ?_
            case y7 => intro w hSw; go_simp; try with_reducible rfl
            try simp only [Act.put, List.setIfInBounds_toArray, List.set_cons_zero, List.set_cons_succ]
            refine takeH (i := 8) (d := 29) (v := ?_) rfl rfl (by kernel_rfl) (by kernel_rfl) (by kernel_rfl) (fun _ _ _ h => h) (Or.inl ⟨by rfl, ?y8⟩) hH0 ?_
            case y8 => intro w hSw; go_simp; try with_reducible rfl
            try simp only [Act.put, List.setIfInBounds_toArray, List.set_cons_zero, List.set_cons_succ]
            refine takeH (i := 9) (d := 30) (v := ?_) rfl rfl (by kernel_rfl) (by kernel_rfl) (by kernel_rfl) (fun _ _ _ h => h) (Or.inl ⟨by rfl, ?y9⟩) hH0 ?_
            case y9 => intro w hSw; go_simp; try with_reducible rfl
            try simp only [Act.put, List.setIfInBounds_toArray, List.set_cons_zero, List.set_cons_succ]
            refine wpAnyH_ready (rs := [10]) (by kernel_rfl) (by simp) ?_
            refine AllReadyH.cons rfl (fun K hK => ?_) AllReadyH.nil
            go_simp
            refine (HLF.out _).mono ?_
            rintro e w' ⟨rfl, hb⟩
            go_wp2_with fail
            refine hK.out _ _ (keep2E hb hH0) (fun hH1 => ?_)
            clear hK K hb hH0
            try simp only [Act.put, List.setIfInBounds_toArray, List.set_cons_zero, List.set_cons_succ]
            refine takeH (i := 11) (d := 32) (v := ?_) rfl rfl (by kernel_rfl) (by kernel_rfl) (by kernel_rfl) (fun _ _ _ h => h) (Or.inl ⟨by rfl, ?y11⟩) hH1 ?_
            case y11 => intro w hSw; go_simp; try with_reducible rfl
            try simp only [Act.put, List.setIfInBounds_toArray, List.set_cons_zero, List.set_cons_succ]
            refine takeH (i := 12) (d := 33) (v := ?_) rfl rfl (by kernel_rfl) (by kernel_rfl) (by kernel_rfl) (fun _ _ _ h => h) (Or.inl ⟨by rfl, ?y12⟩) hH1 ?_
            case y12 => intro w hSw; go_simp; try with_reducible rfl
            try simp only [Act.put, List.setIfInBounds_toArray, List.set_cons_zero, List.set_cons_succ]
            refine wpAnyH_done (by kernel_rfl) ?_ _
            go_wp2_with fail
            go_ret
            exact ⟨rfl, hH1.2.2⟩
          · have hdl : decide (e.id ≤ q) = false := by simpa using hle
            have HG2 := Lib.hid (HAt.out.2 h0 hle)
            clear hle HAt
            go_wp2_with fail
            refine (HK.out _).mono ?_
            rintro x w1 ⟨rfl, hb⟩
            have HS0 := keep2E (Below.drew (Below.refl _ _)) (keep2E hb ⟨HX.out, HF.out, HBX.out⟩)
            clear hb k0 k1 k2 k3 HCL HX HBX HF
            go_upto_region 9 with fail
            refine wp_region_held_drew (S := fun w' => (w'.cell? ⟨wr.heap.size, 0, none⟩ = some (.int .u64 e.id) ∧ w'.cell? ⟨wr.heap.size, 1, none⟩ = some (.int .u64 e.off) ∧ w'.cell? ⟨wr.heap.size, 2, none⟩ = some (.int .u32 e.ln) ∧ w'.cell? ⟨wr.heap.size, 3, none⟩ = some (.int .u32 e.rn)) ∧ (w'.cell? ⟨g, off + j * 4, none⟩ = some (.int .u64 f.id) ∧ w'.cell? ⟨g, off + j * 4 + 1, none⟩ = some (.int .u64 f.off) ∧ w'.cell? ⟨g, off + j * 4 + 2, none⟩ = some (.int .u32 f.ln) ∧ w'.cell? ⟨g, off + j * 4 + 3, none⟩ = some (.int .u32 f.rn)) ∧ Below w.heap.size w w') (by kernel_rfl) HS0 (fun hH0 => ?_)
            refine takeH (i := 0) (d := 21) (v := ?_) rfl rfl (by kernel_rfl) (by kernel_rfl) (by kernel_rfl) (fun _ _ _ h => h) (Or.inl ⟨by rfl, ?y0⟩) hH0 ?_
            case y0 => intro w hSw; go_simp; try with_reducible rfl
            try simp only [Act.put, List.setIfInBounds_toArray, List.set_cons_zero, List.set_cons_succ]
            refine takeH (i := 1) (d := 22) (v := ?_) rfl rfl (by kernel_rfl) (by kernel_rfl) (by kernel_rfl) (fun _ _ _ h => h) (Or.inl ⟨by rfl, ?y1⟩) hH0 ?_
            case y1 => intro w hSw; go_simp; try with_reducible rfl
            try simp only [Act.put, List.setIfInBounds_toArray, List.set_cons_zero, List.set_cons_succ]
            refine takeH (i := 2) (d := 23) (v := ?_) rfl rfl (by kernel_rfl) (by kernel_rfl) (by kernel_rfl) (fun _ _ _ h => h) (Or.inl ⟨by rfl, ?y2⟩) hH0 ?_
            case y2 => intro w hSw; go_simp; try with_reducible rfl
            try simp only [Act.put, List.setIfInBounds_toArray, List.set_cons_zero, List.set_cons_succ]
            refine takeH (i := 3) (d := 24) (v := ?_) rfl rfl (by kernel_rfl) (by kernel_rfl) (by kernel_rfl) (fun _ _ _ h => h) (Or.inl ⟨by rfl, ?y3⟩) hH0 ?_
            case y3 => intro w hSw; go_simp; try with_reducible rfl
            try simp only [Act.put, List.setIfInBounds_toArray, List.set_cons_zero, List.set_cons_succ]
            refine takeH (i := 4) (d := 25) (v := ?_) rfl rfl (by kernel_rfl) (by kernel_rfl) (by kernel_rfl) (fun _ _ _ h => h) (Or.inl ⟨by rfl, ?y4⟩) hH0 ?_
            case y4 => intro w hSw; go_simp; try with_reducible rfl
            try simp only [Act.put, List.setIfInBounds_toArray, List.set_cons_zero, List.set_cons_succ]
            refine takeH (i := 5) (d := 26) (v := ?_) rfl rfl (by kernel_rfl) (by kernel_rfl) (by kernel_rfl) (fun _ _ _ h => h) (Or.inl ⟨by rfl, ?y5⟩) hH0 ?_
            case y5 => intro w hSw; go_simp; try with_reducible rfl
            try simp only [Act.put, List.setIfInBounds_toArray, List.set_cons_zero, List.set_cons_succ]
            refine takeH (i := 6) (d := 27) (v := ?_) rfl rfl (by kernel_rfl) (by kernel_rfl) (by kernel_rfl) (fun _ _ _ h => h) (Or.inl ⟨by rfl, ?y6⟩) hH0 ?_
            case y6 => intro w hSw; go_simp; try with_reducible rfl
            try simp only [Act.put, List.setIfInBounds_toArray, List.set_cons_zero, List.set_cons_succ]
            refine takeH (i := 7) (d := 28) (v := ?_) rfl rfl (by kernel_rfl) (by kernel_rfl) (by kernel_rfl) (fun _ _ _ h => h) (Or.inl ⟨by rfl, ?y7⟩) hH0 ?_
            case y7 => intro w hSw; go_simp; try with_reducible rfl
            try simp only [Act.put, List.setIfInBounds_toArray, List.set_cons_zero, List.set_cons_succ]
            refine takeH (i := 8) (d := 29) (v := ?_) rfl rfl (by kernel_rfl) (by kernel_rfl) (by kernel_rfl) (fun _ _ _ h => h) (Or.inl ⟨by rfl, ?y8⟩) hH0 ?_
            case y8 => intro w hSw; go_simp; try with_reducible rfl
            try simp only [Act.put, List.setIfInBounds_toArray, List.set_cons_zero, List.set_cons_succ]
            refine takeH (i := 9) (d := 30) (v := ?_) rfl rfl (by kernel_rfl) (by kernel_rfl) (by kernel_rfl) (fun _ _ _ h => h) (Or.inl ⟨by rfl, ?y9⟩) hH0 ?_
            case y9 => intro w hSw; go_simp; try with_reducible rfl
            try simp only [Act.put, List.setIfInBounds_toArray, List.set_cons_zero, List.set_cons_succ]
            refine wpAnyH_ready (rs := [10]) (by kernel_rfl) (by simp) ?_
            refine AllReadyH.cons rfl (fun K hK => ?_) AllReadyH.nil
            go_simp
            refine (HLF.out _).mono ?_
            rintro e w' ⟨rfl, hb⟩
            go_wp2_with fail
            refine hK.out _ _ (keep2E hb hH0) (fun hH1 => ?_)
            clear hK K hb hH0
            try simp only [Act.put, List.setIfInBounds_toArray, List.set_cons_zero, List.set_cons_succ]
            refine takeH (i := 11) (d := 32) (v := ?_) rfl rfl (by kernel_rfl) (by kernel_rfl) (by kernel_rfl) (fun _ _ _ h => h) (Or.inl ⟨by rfl, ?y11⟩) hH1 ?_
            case y11 => intro w hSw; go_simp; try with_reducible rfl
            try simp only [Act.put, List.setIfInBounds_toArray, List.set_cons_zero, List.set_cons_succ]
            refine takeH (i := 12) (d := 33) (v := ?_) rfl rfl (by kernel_rfl) (by kernel_rfl) (by kernel_rfl) (fun _ _ _ h => h) (Or.inl ⟨by rfl, ?y12⟩) hH1 ?_
            case y12 => intro w hSw; go_simp; try with_reducible rfl
            try simp only [Act.put, List.setIfInBounds_toArray, List.set_cons_zero, List.set_cons_succ]
            refine wpAnyH_done (by kernel_rfl) ?_ _
            go_wp2_with fail
            go_roundw
            case rel => exact ⟨i + 1, by omega, by go_num, HG2, hH1.2.2⟩
            case measure => simp [intOf]; omega
      · have hR : R = ckN e := by rw [← HR.out, HAt.out.1, if_pos h0]
        obtain ⟨r, hr⟩ : ∃ r, ckN e = r := ⟨_, rfl⟩
        rw [hr] at HK h0 hR
        subst hR
        have hne : (R != 0) = true := by simp only [bne_iff_ne, ne_eq]; exact h0
        clear h0 hr HAt HR
        have HCL := Lib.hid hcl.2
        obtain ⟨⟨k0, k1, k2, k3⟩, hbw⟩ := hcl
        clear hbw
        go_wp2_with fail
        refine (HK.out _).mono ?_
        rintro x w1 ⟨rfl, hb⟩
        have hb1 := Lib.hid (HBX.out.trans (hb.mono HBX.out.size))
        clear hb k0 k1 k2 k3 HCL
        go_wp2_with fail
        go_ret
        exact ⟨rfl, hb1.out⟩
    · obtain rfl : i = l.length := by omega
      have hG := HG.out
      rw [List.take_length] at hG
      have hR : R = 0 := HR.out.symm.trans hG
      subst hR
      clear hG HG HR
      go_wp2_with fail
      go_ret
      exact ⟨rfl, hbw⟩
end Go.Proofs.Ythaembnfdkcheaa
