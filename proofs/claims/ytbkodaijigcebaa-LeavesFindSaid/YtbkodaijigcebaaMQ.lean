/- Several texts, one behind the other: Pc, Pe, Pf. -/
import Derived.Test.YtbkodaijigcebaaME
import Derived.Test.YtbkodaijigcebaaMP
import Derived.RangeFuncNested
import Derived.RangeFuncBound
import Derived.RangeFuncCalls
import Derived.RangeFuncLeaves
import Derived.RangeFuncWrites
import Derived.Shelf.Abstract
import Derived.Shelf.RegionOpen
import Derived.WalkKit
import Derived.OwnWalkIn
import Derived.TacticsInMore
import Derived.LoopNIn
import Derived.LoopIn
/- Contracts of the program's Row. -/
namespace Go.Proofs.Ytbkodaijigcebaa
open Go.RowKit
set_option maxRecDepth 20000
set_option linter.unusedVariables false
set_option linter.unusedSimpArgs false
set_option maxRecDepth 20000 in
set_option maxHeartbeats 1000000 in
theorem prow_any (v : Value) (l : List En) (w : World) (hv : EnsAt w v l) (hm : MaysN l) : Calls Try.prog 31 #[v] w fun x w' => x = .returned (.int .i64 (rowN l)) ∧ Below w.heap.size w w' := by
  obtain ⟨al, cap, rfl, hcap, _, hc⟩ := hv
  have HC := Lib.hid hc
  have HM := Lib.hid hm
  obtain ⟨R, hR⟩ : ∃ R, rowN l = R := ⟨_, rfl⟩
  rw [hR]
  clear hc hm
  by_cases h4 : 4096 < l.length
  · have hR2 : R = 21 := by rw [← hR, rowN, if_pos h4]
    subst hR2
    have hd : decide (4096 < (l.length : Int)) = true := by simp; omega
    clear hR
    go_enter Try.func31, Try.ntmps31
    go_wp2_with fail
    go_ret
    exact ⟨rfl, by go_grown⟩
  have hR2 : rowG (-1) l = R := by rw [← hR, rowN, if_neg h4]
  have HR := Lib.hid hR2
  have hd : decide (4096 < (l.length : Int)) = false := by simp; omega
  clear hR hR2
  go_enter Try.func31, Try.ntmps31
  go_wp2_with fail
  go_loopw [11] (fun s wr => ∃ i : Nat, i ≤ l.length ∧ s = .int .i64 i ∧ Hid (rowG (-1) (l.take i) = 0) ∧ Below w.heap.size w wr) (fun s _ => l.length - (intOf s).toNat)
  case atStart => exact ⟨0, Nat.zero_le _, rfl, Lib.hid rfl, Below.refl _ _⟩
  case round =>
    obtain ⟨i, hi, rfl, HG, hbw⟩ := hrel
    by_cases hlt : i < l.length
    · obtain ⟨e, he⟩ : ∃ t, l[i]? = some t := ⟨_, List.getElem?_eq_getElem hlt⟩
      obtain ⟨g, off, rfl, hg, l0, l1, l2, l3⟩ := HC.out i e he
      have hme := HM.out e (List.mem_of_getElem? he)
      have HK := Lib.hid (fun W => pcheck_any e W hme)
      have HAt := Lib.hid (rowG_at l i e he HG.out)
      have hi2 : (i : Int) < (l.length : Int) := by omega
      have hcl := keep1E (Below.refl _ _) ⟨cells4 hbw ⟨l0, l1, l2, l3⟩, hbw⟩
      have HE : Hid (¬ e.id ≤ -1) := Lib.hid (by have := hme.1; omega)
      clear he hme l0 l1 l2 l3 hbw HG
      unfold eC at HK
      have HX := Lib.hid (EAt.made wr e 52)
      have HBX := Lib.hid (hcl.2.trans (((Below.refl wr.heap.size wr).alloc (Nat.le_refl _) (.cells (eC e) 52)).mono hcl.2.size))
      unfold eC at HX HBX
      by_cases h0 : ckN e = 0
      · rw [h0] at HK
        have HCL := Lib.hid hcl
        obtain ⟨⟨k0, k1, k2, k3⟩, hbw⟩ := hcl
        clear hbw
        by_cases hz : i = 0
        · have hdz : decide (0 < (i : Int)) = false := by simp; omega
          have hdn : decide (0 < i) = false := by simp; omega
          have HZ := Lib.hid hz
          clear hz
          go_wp2_with fail
          refine (HK.out _).mono ?_
          rintro x w1 ⟨rfl, hb⟩
          have HS0 := keepE (Below.drew (Below.refl _ _)) (keepE hb ⟨HX.out, HBX.out⟩)
          clear hb k0 k1 k2 k3 HCL HX HBX
          go_upto_region 9 with fail
          refine wp_region_held_drew (S := fun w' => (w'.cell? ⟨wr.heap.size, 0, none⟩ = some (.int .u64 e.id) ∧ w'.cell? ⟨wr.heap.size, 1, none⟩ = some (.int .u64 e.off) ∧ w'.cell? ⟨wr.heap.size, 2, none⟩ = some (.int .u32 e.ln) ∧ w'.cell? ⟨wr.heap.size, 3, none⟩ = some (.int .u32 e.rn)) ∧ Below w.heap.size w w') (by kernel_rfl) HS0 (fun hH0 => ?_)
          refine takeH (i := 0) (d := 21) (v := ?_) rfl rfl (by kernel_rfl) (by kernel_rfl) (by kernel_rfl) (fun _ _ _ h => h) (Or.inl ⟨by rfl, ?y0⟩) hH0 ?_
          case y0 => intro w hSw; go_simp; try with_reducible rfl
          try simp only [Act.put, List.setIfInBounds_toArray, List.set_cons_zero, List.set_cons_succ]
          refine takeH (i := 1) (d := 22) (v := ?_) rfl rfl (by kernel_rfl) (by kernel_rfl) (by kernel_rfl) (fun _ _ _ h => h) (Or.inl ⟨by rfl, ?y1⟩) hH0 ?_
          case y1 => intro w hSw; go_simp; try with_reducible rfl
          try simp only [Act.put, List.setIfInBounds_toArray, List.set_cons_zero, List.set_cons_succ]
          refine takeH (i := 2) (d := 23) (v := ?_) rfl rfl (by kernel_rfl) (by kernel_rfl) (by kernel_rfl) (fun _ _ _ h => h) (Or.inl ⟨by rfl, ?y2⟩) hH0 ?_
          case y2 => intro w hSw; go_simp; try with_reducible rfl
          try simp only [Act.put, List.setIfInBounds_toArray, List.set_cons_zero, List.set_cons_succ]
          refine takeH (i := 3) (d := 24) (v := undef) rfl rfl (by kernel_rfl) (by kernel_rfl) (by kernel_rfl) (fun _ _ _ h => h) (Or.inr ⟨by rfl, rfl⟩) hH0 ?_
          try simp only [Act.put, List.setIfInBounds_toArray, List.set_cons_zero, List.set_cons_succ]
          refine takeH (i := 4) (d := 25) (v := undef) rfl rfl (by kernel_rfl) (by kernel_rfl) (by kernel_rfl) (fun _ _ _ h => h) (Or.inr ⟨by rfl, rfl⟩) hH0 ?_
          try simp only [Act.put, List.setIfInBounds_toArray, List.set_cons_zero, List.set_cons_succ]
          refine takeH (i := 5) (d := 26) (v := undef) rfl rfl (by kernel_rfl) (by kernel_rfl) (by kernel_rfl) (fun _ _ _ h => h) (Or.inr ⟨by rfl, rfl⟩) hH0 ?_
          try simp only [Act.put, List.setIfInBounds_toArray, List.set_cons_zero, List.set_cons_succ]
          refine takeH (i := 6) (d := 27) (v := undef) rfl rfl (by kernel_rfl) (by kernel_rfl) (by kernel_rfl) (fun _ _ _ h => h) (Or.inr ⟨by rfl, rfl⟩) hH0 ?_
          try simp only [Act.put, List.setIfInBounds_toArray, List.set_cons_zero, List.set_cons_succ]
          refine takeH (i := 7) (d := 28) (v := undef) rfl rfl (by kernel_rfl) (by kernel_rfl) (by kernel_rfl) (fun _ _ _ h => h) (Or.inr ⟨by rfl, rfl⟩) hH0 ?_
          try simp only [Act.put, List.setIfInBounds_toArray, List.set_cons_zero, List.set_cons_succ]
          refine takeH (i := 8) (d := 29) (v := undef) rfl rfl (by kernel_rfl) (by kernel_rfl) (by kernel_rfl) (fun _ _ _ h => h) (Or.inr ⟨by rfl, rfl⟩) hH0 ?_
          try simp only [Act.put, List.setIfInBounds_toArray, List.set_cons_zero, List.set_cons_succ]
          refine takeH (i := 9) (d := 30) (v := undef) rfl rfl (by kernel_rfl) (by kernel_rfl) (by kernel_rfl) (fun _ _ _ h => h) (Or.inr ⟨by rfl, rfl⟩) hH0 ?_
          try simp only [Act.put, List.setIfInBounds_toArray, List.set_cons_zero, List.set_cons_succ]
          refine takeH (i := 10) (d := 31) (v := undef) rfl rfl (by kernel_rfl) (by kernel_rfl) (by kernel_rfl) (fun _ _ _ h => h) (Or.inr ⟨by rfl, rfl⟩) hH0 ?_
          try simp only [Act.put, List.setIfInBounds_toArray, List.set_cons_zero, List.set_cons_succ]
          refine takeH (i := 11) (d := 32) (v := undef) rfl rfl (by kernel_rfl) (by kernel_rfl) (by kernel_rfl) (fun _ _ _ h => h) (Or.inr ⟨by rfl, rfl⟩) hH0 ?_
          try simp only [Act.put, List.setIfInBounds_toArray, List.set_cons_zero, List.set_cons_succ]
          refine takeH (i := 12) (d := 33) (v := ?_) rfl rfl (by kernel_rfl) (by kernel_rfl) (by kernel_rfl) (fun _ _ _ h => h) (Or.inl ⟨by rfl, ?y12⟩) hH0 ?_
          case y12 => intro w hSw; go_simp; try with_reducible rfl
          try simp only [Act.put, List.setIfInBounds_toArray, List.set_cons_zero, List.set_cons_succ]
          refine wpAnyH_done (by kernel_rfl) ?_ _
          go_wp2_with fail
          go_roundw
          case rel =>
            refine ⟨i + 1, by omega, by go_num, Lib.hid (HAt.out.2 h0 ?_), hH0.2⟩
            unfold prvN
            rw [if_pos HZ.out]
            exact HE.out
          case measure => simp [intOf]; omega
        · obtain ⟨j, rfl⟩ : ∃ j, i = j + 1 := ⟨i - 1, by omega⟩
          obtain ⟨f, hf⟩ : ∃ t, l[j]? = some t := ⟨_, List.getElem?_eq_getElem (by omega)⟩
          have hpv : prvN l (j + 1) = laN f := by
            unfold prvN
            rw [if_neg (by omega), Nat.add_sub_cancel, List.getD_eq_getElem?_getD, hf]
            rfl
          rw [hpv] at HAt
          obtain ⟨g', off', ha, hg', f0, f1, f2, f3⟩ := HC.out j f hf
          obtain ⟨rfl, rfl⟩ : g = g' ∧ off = off' := by simpa using ha
          have hmf := HM.out f (List.mem_of_getElem? hf)
          have HLF := Lib.hid (fun W => plast_any f W hmf)
          unfold eC at HLF
          have HF := Lib.hid (cells4 HBX.out ⟨f0, f1, f2, f3⟩)
          have hij : ((j + 1 : Nat) : Int) - 1 = (j : Int) := by omega
          have hwj : IntKind.i64.wrap (j : Int) = (j : Int) := by rw [IntKind.wrap_i64] <;> omega
          have hj2 : (j : Int) < (l.length : Int) := by omega
          have hj0 : (0 : Int) ≤ (j : Int) := by omega
          generalize hgi : j + 1 = i at *
          have hdz : decide (0 < (i : Int)) = true := by simp; omega
          have hdn : decide (0 < i) = true := by simp; omega
          obtain ⟨q, hq⟩ : ∃ q, laN f = q := ⟨_, rfl⟩
          rw [hq] at HAt HLF
          clear hq hf f0 f1 f2 f3 hpv hz hmf
          by_cases hle : e.id ≤ q
          · have hR : R = 10 := by rw [← HR.out, HAt.out.1, if_neg (fun h => h h0), if_pos hle]
            subst hR
            have hdl : decide (e.id ≤ q) = true := by simpa using hle
            clear hle HAt
            go_wp2_with fail
            refine (HK.out _).mono ?_
            rintro x w1 ⟨rfl, hb⟩
            have HS0 := keep2E (Below.drew (Below.refl _ _)) (keep2E hb ⟨HX.out, HF.out, HBX.out⟩)
            clear hb k0 k1 k2 k3 HCL HX HBX HF
            go_upto_region 9 with fail
            refine wp_region_held_drew (S := fun w' => (w'.cell? ⟨wr.heap.size, 0, none⟩ = some (.int .u64 e.id) ∧ w'.cell? ⟨wr.heap.size, 1, none⟩ = some (.int .u64 e.off) ∧ w'.cell? ⟨wr.heap.size, 2, none⟩ = some (.int .u32 e.ln) ∧ w'.cell? ⟨wr.heap.size, 3, none⟩ = some (.int .u32 e.rn)) ∧ (w'.cell? ⟨g, off + j * 4, none⟩ = some (.int .u64 f.id) ∧ w'.cell? ⟨g, off + j * 4 + 1, none⟩ = some (.int .u64 f.off) ∧ w'.cell? ⟨g, off + j * 4 + 2, none⟩ = some (.int .u32 f.ln) ∧ w'.cell? ⟨g, off + j * 4 + 3, none⟩ = some (.int .u32 f.rn)) ∧ Below w.heap.size w w') (by kernel_rfl) HS0 (fun hH0 => ?_)
            refine takeH (i := 0) (d := 21) (v := ?_) rfl rfl (by kernel_rfl) (by kernel_rfl) (by kernel_rfl) (fun _ _ _ h => h) (Or.inl ⟨by rfl, ?y0⟩) hH0 ?_
            case y0 => intro w hSw; go_simp; try with_reducible rfl
            try simp only [Act.put, List.setIfInBounds_toArray, List.set_cons_zero, List.set_cons_succ]
            refine takeH (i := 1) (d := 22) (v := ?_) rfl rfl (by kernel_rfl) (by kernel_rfl) (by kernel_rfl) (fun _ _ _ h => h) (Or.inl ⟨by rfl, ?y1⟩) hH0 ?_
            case y1 => intro w hSw; go_simp; try with_reducible rfl
            try simp only [Act.put, List.setIfInBounds_toArray, List.set_cons_zero, List.set_cons_succ]
            refine takeH (i := 2) (d := 23) (v := ?_) rfl rfl (by kernel_rfl) (by kernel_rfl) (by kernel_rfl) (fun _ _ _ h => h) (Or.inl ⟨by rfl, ?y2⟩) hH0 ?_
            case y2 => intro w hSw; go_simp; try with_reducible rfl
            try simp only [Act.put, List.setIfInBounds_toArray, List.set_cons_zero, List.set_cons_succ]
            refine takeH (i := 3) (d := 24) (v := ?_) rfl rfl (by kernel_rfl) (by kernel_rfl) (by kernel_rfl) (fun _ _ _ h => h) (Or.inl ⟨by rfl, ?y3⟩) hH0 ?_
            case y3 => intro w hSw; go_simp; try with_reducible rfl
            try simp only [Act.put, List.setIfInBounds_toArray, List.set_cons_zero, List.set_cons_succ]
            refine takeH (i := 4) (d := 25) (v := ?_) rfl rfl (by kernel_rfl) (by kernel_rfl) (by kernel_rfl) (fun _ _ _ h => h) (Or.inl ⟨by rfl, ?y4⟩) hH0 ?_
            case y4 => intro w hSw; go_simp; try with_reducible rfl
            try simp only [Act.put, List.setIfInBounds_toArray, List.set_cons_zero, List.set_cons_succ]
            refine takeH (i := 5) (d := 26) (v := ?_) rfl rfl (by kernel_rfl) (by kernel_rfl) (by kernel_rfl) (fun _ _ _ h => h) (Or.inl ⟨by rfl, ?y5⟩) hH0 ?_
            case y5 => intro w hSw; go_simp; try with_reducible rfl
            try simp only [Act.put, List.setIfInBounds_toArray, List.set_cons_zero, List.set_cons_succ]
            refine takeH (i := 6) (d := 27) (v := ?_) rfl rfl (by kernel_rfl) (by kernel_rfl) (by kernel_rfl) (fun _ _ _ h => h) (Or.inl ⟨by rfl, ?y6⟩) hH0 ?_
            case y6 => intro w hSw; go_simp; try with_reducible rfl
            try simp only [Act.put, List.setIfInBounds_toArray, List.set_cons_zero, List.set_cons_succ]
            refine takeH (i := 7) (d := 28) (v := ?_) rfl rfl (by kernel_rfl) (by kernel_rfl) (by kernel_rfl) (fun _ _ _ h => h) (Or.inl ⟨by rfl, ?y7⟩) hH0 ?_
            case y7 => intro w hSw; go_simp; try with_reducible rfl
            try simp only [Act.put, List.setIfInBounds_toArray, List.set_cons_zero, List.set_cons_succ]
            refine takeH (i := 8) (d := 29) (v := ?_) rfl rfl (by kernel_rfl) (by kernel_rfl) (by kernel_rfl) (fun _ _ _ h => h) (Or.inl ⟨by rfl, ?y8⟩) hH0 ?_
            case y8 => intro w hSw; go_simp; try with_reducible rfl
            try simp only [Act.put, List.setIfInBounds_toArray, List.set_cons_zero, List.set_cons_succ]
            refine takeH (i := 9) (d := 30) (v := ?_) rfl rfl (by kernel_rfl) (by kernel_rfl) (by kernel_rfl) (fun _ _ _ h => h) (Or.inl ⟨by rfl, ?y9⟩) hH0 ?_
            case y9 => intro w hSw; go_simp; try with_reducible rfl
            try simp only [Act.put, List.setIfInBounds_toArray, List.set_cons_zero, List.set_cons_succ]
            refine wpAnyH_ready (rs := [10]) (by kernel_rfl) (by simp) ?_
            refine AllReadyH.cons rfl (fun K hK => ?_) AllReadyH.nil
            go_simp
            refine (HLF.out _).mono ?_
            rintro e w' ⟨rfl, hb⟩
            go_wp2_with fail
            refine hK.out _ _ (keep2E hb hH0) (fun hH1 => ?_)
            clear hK K hb hH0
            try simp only [Act.put, List.setIfInBounds_toArray, List.set_cons_zero, List.set_cons_succ]
            refine takeH (i := 11) (d := 32) (v := ?_) rfl rfl (by kernel_rfl) (by kernel_rfl) (by kernel_rfl) (fun _ _ _ h => h) (Or.inl ⟨by rfl, ?y11⟩) hH1 ?_
            case y11 => intro w hSw; go_simp; try with_reducible rfl
            try simp only [Act.put, List.setIfInBounds_toArray, List.set_cons_zero, List.set_cons_succ]
            refine takeH (i := 12) (d := 33) (v := ?_) rfl rfl (by kernel_rfl) (by kernel_rfl) (by kernel_rfl) (fun _ _ _ h => h) (Or.inl ⟨by rfl, ?y12⟩) hH1 ?_
            case y12 => intro w hSw; go_simp; try with_reducible rfl
            try simp only [Act.put, List.setIfInBounds_toArray, List.set_cons_zero, List.set_cons_succ]
            refine wpAnyH_done (by kernel_rfl) ?_ _
            go_wp2_with fail
            go_ret
            exact ⟨rfl, hH1.2.2⟩
          · have hdl : decide (e.id ≤ q) = false := by simpa using hle
            have HG2 := Lib.hid (HAt.out.2 h0 hle)
            clear hle HAt
            go_wp2_with fail
            refine (HK.out _).mono ?_
            rintro x w1 ⟨rfl, hb⟩
            have HS0 := keep2E (Below.drew (Below.refl _ _)) (keep2E hb ⟨HX.out, HF.out, HBX.out⟩)
            clear hb k0 k1 k2 k3 HCL HX HBX HF
            go_upto_region 9 with fail
            refine wp_region_held_drew (S := fun w' => (w'.cell? ⟨wr.heap.size, 0, none⟩ = some (.int .u64 e.id) ∧ w'.cell? ⟨wr.heap.size, 1, none⟩ = some (.int .u64 e.off) ∧ w'.cell? ⟨wr.heap.size, 2, none⟩ = some (.int .u32 e.ln) ∧ w'.cell? ⟨wr.heap.size, 3, none⟩ = some (.int .u32 e.rn)) ∧ (w'.cell? ⟨g, off + j * 4, none⟩ = some (.int .u64 f.id) ∧ w'.cell? ⟨g, off + j * 4 + 1, none⟩ = some (.int .u64 f.off) ∧ w'.cell? ⟨g, off + j * 4 + 2, none⟩ = some (.int .u32 f.ln) ∧ w'.cell? ⟨g, off + j * 4 + 3, none⟩ = some (.int .u32 f.rn)) ∧ Below w.heap.size w w') (by kernel_rfl) HS0 (fun hH0 => ?_)
            refine takeH (i := 0) (d := 21) (v := ?_) rfl rfl (by kernel_rfl) (by kernel_rfl) (by kernel_rfl) (fun _ _ _ h => h) (Or.inl ⟨by rfl, ?y0⟩) hH0 ?_
            case y0 => intro w hSw; go_simp; try with_reducible rfl
            try simp only [Act.put, List.setIfInBounds_toArray, List.set_cons_zero, List.set_cons_succ]
            refine takeH (i := 1) (d := 22) (v := ?_) rfl rfl (by kernel_rfl) (by kernel_rfl) (by kernel_rfl) (fun _ _ _ h => h) (Or.inl ⟨by rfl, ?y1⟩) hH0 ?_
            case y1 => intro w hSw; go_simp; try with_reducible rfl
            try simp only [Act.put, List.setIfInBounds_toArray, List.set_cons_zero, List.set_cons_succ]
            refine takeH (i := 2) (d := 23) (v := ?_) rfl rfl (by kernel_rfl) (by kernel_rfl) (by kernel_rfl) (fun _ _ _ h => h) (Or.inl ⟨by rfl, ?y2⟩) hH0 ?_
            case y2 => intro w hSw; go_simp; try with_reducible rfl
            try simp only [Act.put, List.setIfInBounds_toArray, List.set_cons_zero, List.set_cons_succ]
            refine takeH (i := 3) (d := 24) (v := ?_) rfl rfl (by kernel_rfl) (by kernel_rfl) (by kernel_rfl) (fun _ _ _ h => h) (Or.inl ⟨by rfl, ?y3⟩) hH0 ?_
            case y3 => intro w hSw; go_simp; try with_reducible rfl
            try simp only [Act.put, List.setIfInBounds_toArray, List.set_cons_zero, List.set_cons_succ]
            refine takeH (i := 4) (d := 25) (v := ?_) rfl rfl (by kernel_rfl) (by kernel_rfl) (by kernel_rfl) (fun _ _ _ h => h) (Or.inl ⟨by rfl, ?y4⟩) hH0 ?_
            case y4 => intro w hSw; go_simp; try with_reducible rfl
            try simp only [Act.put, List.setIfInBounds_toArray, List.set_cons_zero, List.set_cons_succ]
            refine takeH (i := 5) (d := 26) (v := ?_) rfl rfl (by kernel_rfl) (by kernel_rfl) (by kernel_rfl) (fun _ _ _ h => h) (Or.inl ⟨by rfl, ?y5⟩) hH0 ?_
            case y5 => intro w hSw; go_simp; try with_reducible rfl
            try simp only [Act.put, List.setIfInBounds_toArray, List.set_cons_zero, List.set_cons_succ]
            refine takeH (i := 6) (d := 27) (v := ?_) rfl rfl (by kernel_rfl) (by kernel_rfl) (by kernel_rfl) (fun _ _ _ h => h) (Or.inl ⟨by rfl, ?y6⟩) hH0 ?_
            case y6 => intro w hSw; go_simp; try with_reducible rfl
            try simp only [Act.put, List.setIfInBounds_toArray, List.set_cons_zero, List.set_cons_succ]
            refine takeH (i := 7) (d := 28) (v := ?_) rfl rfl (by kernel_rfl) (by kernel_rfl) (by kernel_rfl) (fun _ _ _ h => h) (Or.inl ⟨by rfl, ?y7⟩) hH0 ?_
            case y7 => intro w hSw; go_simp; try with_reducible rfl
            try simp only [Act.put, List.setIfInBounds_toArray, List.set_cons_zero, List.set_cons_succ]
            refine takeH (i := 8) (d := 29) (v := ?_) rfl rfl (by kernel_rfl) (by kernel_rfl) (by kernel_rfl) (fun _ _ _ h => h) (Or.inl ⟨by rfl, ?y8⟩) hH0 ?_
            case y8 => intro w hSw; go_simp; try with_reducible rfl
            try simp only [Act.put, List.setIfInBounds_toArray, List.set_cons_zero, List.set_cons_succ]
            refine takeH (i := 9) (d := 30) (v := ?_) rfl rfl (by kernel_rfl) (by kernel_rfl) (by kernel_rfl) (fun _ _ _ h => h) (Or.inl ⟨by rfl, ?y9⟩) hH0 ?_
            case y9 => intro w hSw; go_simp; try with_reducible rfl
            try simp only [Act.put, List.setIfInBounds_toArray, List.set_cons_zero, List.set_cons_succ]
            refine wpAnyH_ready (rs := [10]) (by kernel_rfl) (by simp) ?_
            refine AllReadyH.cons rfl (fun K hK => ?_) AllReadyH.nil
            go_simp
            refine (HLF.out _).mono ?_
            rintro e w' ⟨rfl, hb⟩
            go_wp2_with fail
            refine hK.out _ _ (keep2E hb hH0) (fun hH1 => ?_)
            clear hK K hb hH0
            try simp only [Act.put, List.setIfInBounds_toArray, List.set_cons_zero, List.set_cons_succ]
            refine takeH (i := 11) (d := 32) (v := ?_) rfl rfl (by kernel_rfl) (by kernel_rfl) (by kernel_rfl) (fun _ _ _ h => h) (Or.inl ⟨by rfl, ?y11⟩) hH1 ?_
            case y11 => intro w hSw; go_simp; try with_reducible rfl
            try simp only [Act.put, List.setIfInBounds_toArray, List.set_cons_zero, List.set_cons_succ]
            refine takeH (i := 12) (d := 33) (v := ?_) rfl rfl (by kernel_rfl) (by kernel_rfl) (by kernel_rfl) (fun _ _ _ h => h) (Or.inl ⟨by rfl, ?y12⟩) hH1 ?_
            case y12 => intro w hSw; go_simp; try with_reducible rfl
            try simp only [Act.put, List.setIfInBounds_toArray, List.set_cons_zero, List.set_cons_succ]
            refine wpAnyH_done (by kernel_rfl) ?_ _
            go_wp2_with fail
            go_roundw
            case rel => exact ⟨i + 1, by omega, by go_num, HG2, hH1.2.2⟩
            case measure => simp [intOf]; omega
      · have hR : R = ckN e := by rw [← HR.out, HAt.out.1, if_pos h0]
        obtain ⟨r, hr⟩ : ∃ r, ckN e = r := ⟨_, rfl⟩
        rw [hr] at HK h0 hR
        subst hR
        have hne : (R != 0) = true := by simp only [bne_iff_ne, ne_eq]; exact h0
        clear h0 hr HAt HR
        have HCL := Lib.hid hcl.2
        obtain ⟨⟨k0, k1, k2, k3⟩, hbw⟩ := hcl
        clear hbw
        go_wp2_with fail
        refine (HK.out _).mono ?_
        rintro x w1 ⟨rfl, hb⟩
        have hb1 := Lib.hid (HBX.out.trans (hb.mono HBX.out.size))
        clear hb k0 k1 k2 k3 HCL
        go_wp2_with fail
        go_ret
        exact ⟨rfl, hb1.out⟩
    · obtain rfl : i = l.length := by omega
      have hG := HG.out
      rw [List.take_length] at hG
      have hR : R = 0 := HR.out.symm.trans hG
      subst hR
      clear hG HG HR
      go_wp2_with fail
      go_ret
      exact ⟨rfl, hbw⟩
end Go.Proofs.Ytbkodaijigcebaa
/- The program's taken: what it hands on (the entries that Check takes, in order), as a contract of the iterator. -/
namespace Go.Proofs.Ytbkodaijigcebaa
open Go.RowKit Go.Shelf
set_option maxRecDepth 20000
set_option linter.unusedVariables false
set_option linter.unusedSimpArgs false
attribute [local go_sem] Oper.semAt_some
/-- An entry that Check takes. -/
abbrev Ok := { e : En // MayN e ∧ ckN e = 0 }
open Classical in
noncomputable def tk (l : List En) : List Ok := l.filterMap fun e => if h : MayN e ∧ ckN e = 0 then some ⟨e, h⟩ else none
theorem tk_nil : tk [] = [] := rfl
theorem tk_yes (l : List En) (e : En) (h : MayN e ∧ ckN e = 0) : tk (l ++ [e]) = tk l ++ [⟨e, h⟩] := by simp [tk, h]
theorem tk_no (l : List En) (e : En) (h : ¬ ckN e = 0) : tk (l ++ [e]) = tk l := by simp [tk, h]
theorem tk_len (l : List En) : (tk l).length ≤ l.length := List.length_filterMap_le _ _
theorem tk_pre (l : List En) (k : Nat) : tk (l.take k) <+: tk l := by
  refine ⟨tk (l.drop k), ?_⟩
  unfold tk
  rw [← List.filterMap_append, List.take_append_drop]
theorem tk_lt (l : List En) (k : Nat) (e : En) (he : l[k]? = some e) (h : MayN e ∧ ckN e = 0) : (tk (l.take k)).length < (tk l).length := by
  obtain ⟨r, hr⟩ := tk_pre l (k + 1)
  rw [take_one l k e he, tk_yes _ e h] at hr
  rw [← hr]
  simp
theorem abides {β : Type} {J : β → World → Prop} {B : Nat} (hJ : AbidesFrom B J) {s : β} {W W' : World} (h : J s W) (hb : Below W.heap.size W W') : J s W' :=
  hJ s W W' none h ⟨hb.os, hb.tape, hb.output, hb.size, fun k hk _ => hb.block k hk⟩ (fun r e => by cases e)
set_option maxHeartbeats 1000000 in
theorem ptaken_in (n : Nat) (a : Option Addr) (len cap : Nat) (w : World) :
    CallsIn Fence.wide n Try.prog 39 #[.slice a len cap] w fun e w' => e = .returned (.func (.func 67) #[] #[.pointer (some ⟨w.heap.size, 0, none⟩)]) ∧ w' = w.alloc (.cells #[.slice a len cap] 24) := by
  refine callsIn_of_wp Try.func39 rfl trivial ?_ rfl
  simp only [Try.ntmps39, List.size_toArray, List.length_cons, List.length_nil, Nat.reduceAdd, Nat.reduceSub, Array.replicate_succ, Array.replicate_zero, List.push_toArray, List.append_toArray, List.nil_append, List.cons_append]
  gi_wp2
  go_ret
  exact ⟨rfl, rfl⟩
set_option maxRecDepth 100000 in
set_option maxHeartbeats 2000000 in
theorem ptaken1_in (n : Nat) (hn : 1 ≤ n) (lp Bs : Nat) (w₀ : World) (v : Value) (zs : List En) (hm : MaysN zs) (hv : EnsAt w₀ v zs) (J Jx : List Ok → World → Prop)
    (W : World) (hW : Below w₀.heap.size w₀ W) (hJ : AbidesFrom W.heap.size J)
    (hY : ∀ pre x W1, J pre W1 → pre.length < (tk zs).length → YieldAt Fence.wide (n - 1) Try.prog lp #[.agg (eC x.1)] W1 fun e W' =>
      (e = .returned (.bool true) ∧ J (pre ++ [x]) W' ∧ Below w₀.heap.size W1 W') ∨ (e = .returned (.bool false) ∧ Jx (pre ++ [x]) W'))
    (hBs : W.cell? ⟨Bs, 0, none⟩ = some v) (h0 : J [] W) :
    CallsIn Fence.wide n Try.prog 67 #[.func (.yield lp) #[] #[], .pointer (some ⟨Bs, 0, none⟩)] W fun e W' => (∃ v, e = .returned v) ∧
      ((∃ ys, ys = tk zs ∧ J ys W') ∨ (∃ pre, pre <+: tk zs ∧ Jx pre W')) := by
  obtain ⟨al, cap, rfl, hcap, hmx, hc⟩ := hv
  have HC := Lib.hid hc
  have HM := Lib.hid hm
  have HJ := Lib.hid hJ
  have HY := Lib.hid hY
  have hml : zs.length ≤ 9223372036854775807 := by unfold maxLen at hmx; omega
  clear hc hm hJ hY
  refine callsIn_of_wp Try.func67 rfl trivial ?_ rfl
  simp only [Try.ntmps67, List.size_toArray, List.length_cons, List.length_nil, Nat.reduceAdd, Nat.reduceSub, Array.replicate_succ, Array.replicate_zero, List.push_toArray, List.append_toArray, List.nil_append, List.cons_append]
  gi_wp2
  gi_loopw [7] (fun i wr => ∃ k : Nat, k ≤ zs.length ∧ i = .int .i64 k ∧ Hid (J (tk (zs.take k)) wr) ∧ Below w₀.heap.size w₀ wr) (fun i _ => zs.length - (intOf i).toNat)
  case atStart => exact ⟨0, Nat.zero_le _, rfl, Lib.hid h0, hW⟩
  case round =>
    obtain ⟨k, hk, rfl, HJs, hnx⟩ := hrel
    by_cases hlt : k < zs.length
    · obtain ⟨e, he⟩ : ∃ t, zs[k]? = some t := ⟨_, List.getElem?_eq_getElem hlt⟩
      obtain ⟨g, off, rfl, hg, l0, l1, l2, l3⟩ := HC.out k e he
      have hme := HM.out e (List.mem_of_getElem? he)
      have HK := Lib.hid (fun W => pcheck_any e W hme)
      have hi2 : (k : Int) < (zs.length : Int) := by omega
      have c0 := (hnx.cell (p := ⟨g, off + k * 4, none⟩) hg).trans l0
      have c1 := (hnx.cell (p := ⟨g, off + k * 4 + 1, none⟩) hg).trans l1
      have c2 := (hnx.cell (p := ⟨g, off + k * 4 + 2, none⟩) hg).trans l2
      have c3 := (hnx.cell (p := ⟨g, off + k * 4 + 3, none⟩) hg).trans l3
      have HX := Lib.hid (EAt.made wr e 52)
      have HBX := Lib.hid ((Below.refl wr.heap.size wr).alloc (Nat.le_refl _) (.cells (eC e) 52))
      have HN := Lib.hid hnx
      clear l0 l1 l2 l3 hnx
      unfold eC at HK HX HBX
      by_cases hck : ckN e = 0
      · rw [hck] at HK
        have HT := Lib.hid (tk_lt zs k e he ⟨hme, hck⟩)
        have HE := Lib.hid (And.intro he (And.intro hme hck))
        clear he hme hck
        gi_wp2
        refine ⟨trivial, (callsIn_wide.2 (HK.out _)).mono ?_⟩
        rintro x w1 ⟨rfl, hb⟩
        obtain ⟨k0, k1, k2, k3⟩ := EAt.later HX.out hb
        have hb1 := HBX.out.trans (hb.mono HBX.out.size)
        have HN1 := Lib.hid (HN.out.trans (hb1.mono HN.out.size))
        have hJ1 := abides HJ.out HJs.out hb1
        obtain ⟨fn, tmps, assign, body, hy, hR⟩ := HY.out _ ⟨e, HE.out.2⟩ w1 hJ1 HT.out
        dsimp only [eC] at hy
        have HR := Lib.hid hR
        have HK1 := Lib.hid (tk_yes (zs.take k) e HE.out.2)
        have HP1 := Lib.hid (tk_pre zs (k + 1))
        rw [take_one zs k e HE.out.1] at HP1
        have HT1 := Lib.hid (take_one zs k e HE.out.1)
        clear hb hb1 hJ1 hR HX HBX HN HJs HT c0 c1 c2 c3
        gi_wp2
        refine HR.out.mono ?_
        rintro x W3 (⟨rfl, hJ3, hk3⟩ | ⟨rfl, hJx3⟩)
        · have HJ3 := Lib.hid hJ3
          have HN3 := Lib.hid (HN1.out.trans hk3)
          clear hJ3 hk3
          gi_wp2
          go_roundw
          case rel => exact ⟨k + 1, by omega, by go_num, Lib.hid (by rw [HT1.out, HK1.out]; exact HJ3.out), HN3.out⟩
          case measure => simp [intOf]; omega
        · have HJ3 := Lib.hid hJx3
          clear hJx3
          gi_wp2
          refine bodyPost_ret (results_none rfl _ _ _) rfl ?_
          exact ⟨⟨_, rfl⟩, .inr ⟨_, by rw [← HK1.out]; exact HP1.out, HJ3.out⟩⟩
      · obtain ⟨r, hr⟩ : ∃ r, ckN e = r := ⟨_, rfl⟩
        have HK1 := Lib.hid (tk_no (zs.take k) e hck)
        have HT1 := Lib.hid (take_one zs k e he)
        rw [hr] at HK hck
        have hne : (r == 0) = false := by simpa using hck
        clear he hme hck hr
        gi_wp2
        refine ⟨trivial, (callsIn_wide.2 (HK.out _)).mono ?_⟩
        rintro x w1 ⟨rfl, hb⟩
        have hb1 := HBX.out.trans (hb.mono HBX.out.size)
        have HN1 := Lib.hid (HN.out.trans (hb1.mono HN.out.size))
        have HJ1 := Lib.hid (abides HJ.out HJs.out hb1)
        clear hb hb1 HX HBX HN HJs c0 c1 c2 c3
        gi_wp2
        refine ⟨fun _ h => (by cases h), ?_⟩
        gi_wp2
        go_roundw
        case rel => exact ⟨k + 1, by omega, by go_num, Lib.hid (by rw [HT1.out, HK1.out]; exact HJ1.out), HN1.out⟩
        case measure => simp [intOf]; omega
    · obtain rfl : k = zs.length := by omega
      have hJ0 := HJs.out
      rw [List.take_length] at hJ0
      have HJ0 := Lib.hid hJ0
      clear hJ0 HJs
      gi_wp2
      go_end0
      exact ⟨⟨_, rfl⟩, .inl ⟨_, rfl, HJ0.out⟩⟩
/-- What taken hands: a value that hands on just the entries that Check takes. -/
theorem ptaken_stops (n : Nat) (hn : 1 ≤ n) (Bs : Nat) (w₀ w : World) (v : Value) (zs : List En) (hm : MaysN zs) (hv : EnsAt w₀ v zs) (hw : Below w₀.heap.size w₀ w) (hBs : w.cell? ⟨Bs, 0, none⟩ = some v) :
    SeqStopsK Fence.wide n Try.prog 67 #[.pointer (some ⟨Bs, 0, none⟩)] (fun x : Ok => #[.agg (eC x.1)]) (Below w₀.heap.size) (fun ys => ys = tk zs) (fun pre => pre <+: tk zs) (tk zs).length w := fun l J Jx W hW hJ _ hY h0 =>
  ptaken1_in n hn l Bs w₀ v zs hm hv J Jx W (hw.trans (hW.mono hw.size)) hJ hY ((hW.cell (p := ⟨Bs, 0, none⟩) (ecell_lt hBs)).trans hBs) h0
end Go.Proofs.Ytbkodaijigcebaa
/- Contracts of the program's Count and End: ranges over what taken hands on. -/
namespace Go.Proofs.Ytbkodaijigcebaa
open Go.RowKit Go.Shelf
set_option maxRecDepth 20000
set_option linter.unusedVariables false
set_option linter.unusedSimpArgs false
attribute [local go_sem] Oper.semAt_some
theorem tk_cyes (l : List En) (e : En) (h : MayN e ∧ ckN e = 0) : tk (e :: l) = ⟨e, h⟩ :: tk l := by simp [tk, h]
theorem tk_cno (l : List En) (e : En) (h : ¬ ckN e = 0) : tk (e :: l) = tk l := by simp [tk, h]
def csN (l : List Ok) : Int := (l.map fun x => x.1.rn).sum
def emN (l : List Ok) : Int := l.foldl (fun n x => max n (x.1.off + x.1.ln)) 0
theorem csN_snoc (l : List Ok) (x : Ok) : csN (l ++ [x]) = csN l + x.1.rn := by simp [csN]
theorem emN_snoc (l : List Ok) (x : Ok) : emN (l ++ [x]) = max (emN l) (x.1.off + x.1.ln) := by simp [emN]
theorem csN_tk (l : List En) (hm : MaysN l) : csN (tk l) = cntN l := by
  induction l with
  | nil => rfl
  | cons e l ih =>
    have h1 := ih (fun x hx => hm x (List.mem_cons_of_mem _ hx))
    have hme := hm e (List.mem_cons_self ..)
    by_cases h : ckN e = 0
    · rw [tk_cyes l e ⟨hme, h⟩]
      simp only [csN, cntN, List.map_cons, List.sum_cons, if_pos h] at h1 ⊢
      rw [h1]
    · rw [tk_cno l e h]
      simp only [csN, cntN, List.map_cons, List.sum_cons, if_neg h] at h1 ⊢
      rw [h1]; omega
theorem emN_from (l : List En) (hm : MaysN l) : ∀ n : Int, (tk l).foldl (fun n x => max n (x.1.off + x.1.ln)) n = l.foldl (fun n e => if ckN e = 0 then max n (e.off + e.ln) else n) n := by
  induction l with
  | nil => intro n; rfl
  | cons e l ih =>
    intro n
    have h1 := ih (fun x hx => hm x (List.mem_cons_of_mem _ hx))
    have hme := hm e (List.mem_cons_self ..)
    by_cases h : ckN e = 0
    · rw [tk_cyes l e ⟨hme, h⟩, List.foldl_cons, List.foldl_cons, if_pos h]
      exact h1 _
    · rw [tk_cno l e h, List.foldl_cons, if_neg h]
      exact h1 _
theorem emN_tk (l : List En) (hm : MaysN l) : emN (tk l) = enN l := emN_from l hm 0
theorem csN_bd (l : List Ok) : 0 ≤ csN l ∧ csN l ≤ 4294967295 * l.length := by
  induction l with
  | nil => simp [csN]
  | cons x l ih =>
    have := x.2.1.2.2.2
    simp only [csN, List.map_cons, List.sum_cons, List.length_cons] at ih ⊢
    omega
theorem emN_bd (l : List Ok) : 0 ≤ emN l ∧ emN l ≤ 1099511627776 := by
  have key : ∀ (l : List Ok) (n : Int), 0 ≤ n → n ≤ 1099511627776 → 0 ≤ l.foldl (fun n x => max n (x.1.off + x.1.ln)) n ∧ l.foldl (fun n x => max n (x.1.off + x.1.ln)) n ≤ 1099511627776 := by
    intro l
    induction l with
    | nil => intro n h0 h1; exact ⟨h0, h1⟩
    | cons x l ih =>
      intro n h0 h1
      have := ck_ok x.1 x.2.2
      have h2 := x.2.1
      unfold MayN at h2
      refine ih (max n (x.1.off + x.1.ln)) ?_ ?_ <;> omega
  exact key l 0 (by omega) (by omega)
theorem eat_own {B : Nat} (b : Nat) (e : En) : OwnFrom B (fun (_ : Unit) W => EAt W b e) := fun _ X Y row hs hg hr =>
  ⟨cell_kept hs.1 hg (fun r h => (hr r h).2), cell_kept hs.2.1 hg (fun r h => (hr r h).2), cell_kept hs.2.2.1 hg (fun r h => (hr r h).2), cell_kept hs.2.2.2 hg (fun r h => (hr r h).2)⟩
set_option maxRecDepth 100000 in
set_option maxHeartbeats 2000000 in
theorem pend_any (v : Value) (l : List En) (w : World) (hv : EnsAt w v l) (hm : MaysN l) (hl : l.length ≤ 100000) : Calls Try.prog 20 #[v] w fun x w' => x = .returned (.int .u64 (enN l)) ∧ Below w.heap.size w w' := by
  have HS := Lib.hid (fun n hn Bs W hW hc => ptaken_stops n hn Bs w W v l hm hv hW hc)
  have hlen := Nat.le_trans (tk_len l) hl
  have HE := Lib.hid (emN_tk l hm)
  obtain ⟨al, cap, rfl, -, -, -⟩ := hv
  refine (callsIn_wide (n := 3)).1 ?_
  refine callsIn_of_wp_marks Try.func20 rfl trivial ?_ rfl
  simp only [Try.ntmps20, List.size_toArray, List.length_cons, List.length_nil, Nat.reduceAdd, Nat.reduceSub, Array.replicate_succ, Array.replicate_zero, List.push_toArray, List.append_toArray, List.nil_append, List.cons_append]
  gi_wp2
  refine ⟨trivial, (ptaken_in _ _ _ _ _).mono ?_⟩
  rintro x w1 ⟨rfl, rfl⟩
  gi_wp2
  have bN := (Boxed.new w 47 (.int .u64 0)).alloc (.cells #[.slice al l.length cap] 24)
  have bA := Boxed.new (w.alloc (.cells #[.int .u64 0] 47)) 24 (.slice al l.length cap)
  simp only [World.size_alloc] at bA
  have hB0 : Below w.heap.size w ((w.alloc (.cells #[.int .u64 0] 47)).alloc (.cells #[.slice al l.length cap] 24)) := ((Below.refl _ w).alloc (Nat.le_refl _) _).alloc (by simp) _
  have hsz : ((w.alloc (.cells #[.int .u64 0] 47)).alloc (.cells #[.slice al l.length cap] 24)).heap.size = w.heap.size + 2 := by simp
  obtain ⟨W0, hW0⟩ : ∃ W0, (w.alloc (.cells #[.int .u64 0] 47)).alloc (.cells #[.slice al l.length cap] 24) = W0 := ⟨_, rfl⟩
  rw [hW0] at bN bA hB0 hsz ⊢
  clear hW0
  refine wpIn_rangeFunc_ownH rfl (by omega) (gf := 67) (lb := #[.pointer (some ⟨w.heap.size + 1, 0, none⟩)]) rfl trivial (enters_of Try.func67 (by kernel_rfl) rfl)
    (HS.out (3 - 1) (by omega) (w.heap.size + 1) W0 hB0 bA.cell) belowK_t (belowK_b (by omega)) (Below.refl _ _) (fun _ => rfl)
    (fun pre W => Boxed W w.heap.size 47 (.int .u64 (emN pre)) ∧ Below w.heap.size w W)
    (fun _ _ _ => False)
    (OwnFrom.and (Own.from (boxed_own _ _ _) _) (ownFrom_below (Nat.le_refl _) (by omega)))
    (fun _ _ _ _ _ hs _ _ => hs)
    ⟨bN, hB0⟩
    (fun x a' W => ∃ Bx, w.heap.size < Bx ∧ EAt W Bx x.1 ∧ a' = { tmps := #[.slice al l.length cap, undef, .int .u64 0, .pointer (some ⟨w.heap.size, 0, none⟩), .pointer (some ⟨Bx, 0, none⟩), .slice al l.length cap, .func (.func 67) #[] #[.pointer (some ⟨w.heap.size + 1, 0, none⟩)], .agg (eC x.1), undef, undef, undef, undef, undef, undef, undef, undef, undef], defers := [] })
    (fun x a' _ X Y row hs hg hr => by obtain ⟨Bx, h1, h2, h3⟩ := hs; exact ⟨Bx, h1, eat_own Bx x.1 () X Y row h2 hg hr, h3⟩)
    ?assign ?body ?done ?stop
  case assign =>
    rintro lp pre x W K ⟨bN1, hB1⟩ hK
    have HX := EAt.made W x.1 52
    have HK := Lib.hid (hK _ (W.alloc (.cells (eC x.1) 52)) ((KeepsOthers.alloc _ _).from _) ((Below.refl _ W).alloc hB1.size _) ⟨bN1.alloc _, hB1.alloc hB1.size _⟩ ⟨W.heap.size, bN1.lt, HX, rfl⟩)
    clear hK HX
    unfold eC at HK ⊢
    gi_wp2
    exact HK.out
  case body =>
    rintro lp pre x a' W hlp ⟨r, hr⟩ ⟨bN1, hB1⟩ ⟨Bx, hBx, bX, rfl⟩ hlt
    have hbd := emN_bd pre
    have hmx := x.2.1
    unfold MayN at hmx
    have hok := ck_ok x.1 x.2.2
    have hw1 : IntKind.u64.wrap x.1.ln = x.1.ln := by rw [IntKind.wrap_u64] <;> omega
    have hw2 : IntKind.u64.wrap (x.1.off + x.1.ln) = x.1.off + x.1.ln := by rw [IntKind.wrap_u64] <;> omega
    have cN := bN1.cell
    have fN := bN1.frozen
    obtain ⟨k0, k1, k2, k3⟩ := bX
    have HB := Lib.hid bN1
    have HB1 := Lib.hid hB1
    have HSn := Lib.hid (emN_snoc pre x)
    clear bN1 hB1 hbd hmx hok hr
    unfold eC
    gi_wp2
    all_goals
      refine ⟨(KeepsOthers.setCell _ _ _).from _, (Below.refl _ W).setCell (p := ⟨w.heap.size, 0, none⟩) (Nat.le_refl _) _, ?_, HB1.out.setCell (p := ⟨w.heap.size, 0, none⟩) (Nat.le_refl _) _⟩
      rw [HSn.out]
      first
        | (rw [Int.max_eq_right (by omega)]; exact HB.out.set _)
        | (rw [Int.max_eq_left (by omega)]; exact HB.out.set _)
  case done =>
    rintro D zs W hD rfl ⟨bN1, hB1⟩ hK
    have cN := bN1.cell
    have HB1 := Lib.hid hB1
    clear hB1
    gi_wp2
    refine ⟨by simp, .inl ⟨_, _, rfl, run_takeDeferred hK, ?_⟩⟩
    refine ⟨_, results_tmp rfl _ _ _, ?_, HB1.out.trans (belowK_b (w := w) (Nat.le_refl _) W D _ _ (by omega) hK rfl rfl)⟩
    exact ret_u64 HE.out
  case stop =>
    rintro D c pre W _ _ h _
    exact h.elim
end Go.Proofs.Ytbkodaijigcebaa
