/- Several texts, one behind the other: Ed, Ef, Eg. -/
import Derived.Test.YtbkodaijigcebaaME
import Derived.Laws.StructEq
/- Contracts of the document's Row, first, Contents and Same, over rows of entries. -/
namespace Go.Proofs.Ytbkodaijigcebaa
open Go.RowKit
set_option maxRecDepth 20000
set_option linter.unusedVariables false
set_option linter.unusedSimpArgs false
set_option maxRecDepth 20000 in
set_option maxHeartbeats 1000000 in
theorem rrowN_any (v : Value) (l : List En) (w : World) (hv : EnsAt w v l) (hm : MaysN l) : Calls Try.prog 26 #[v] w fun x w' => x = .returned (.int .i64 (rowN l)) ∧ Below w.heap.size w w' := by
  obtain ⟨al, cap, rfl, hcap, _, hc⟩ := hv
  have HC := Lib.hid hc
  have HM := Lib.hid hm
  obtain ⟨R, hR⟩ : ∃ R, rowN l = R := ⟨_, rfl⟩
  rw [hR]
  clear hc hm
  by_cases h4 : 4096 < l.length
  · have hR2 : R = 21 := by rw [← hR, rowN, if_pos h4]
    subst hR2
    have hd : decide (4096 < (l.length : Int)) = true := by simp; omega
    clear hR
    go_enter Try.func26, Try.ntmps26
    go_wp2_with fail
    go_ret
    exact ⟨rfl, by go_grown⟩
  have hR2 : rowG (-1) l = R := by rw [← hR, rowN, if_neg h4]
  have HR := Lib.hid hR2
  have hd : decide (4096 < (l.length : Int)) = false := by simp; omega
  clear hR hR2
  go_enter Try.func26, Try.ntmps26
  go_wp2_with fail
  go_loopw [3] (fun s wr => ∃ i : Nat, i ≤ l.length ∧ s = .int .i64 i ∧ Hid (rowG (-1) (l.take i) = 0) ∧ Below w.heap.size w wr) (fun s _ => l.length - (intOf s).toNat)
  case atStart => exact ⟨0, Nat.zero_le _, rfl, Lib.hid rfl, Below.refl _ _⟩
  case round =>
    obtain ⟨i, hi, rfl, HG, hbw⟩ := hrel
    by_cases hlt : i < l.length
    · obtain ⟨e, he⟩ : ∃ t, l[i]? = some t := ⟨_, List.getElem?_eq_getElem hlt⟩
      obtain ⟨g, off, rfl, hg, l0, l1, l2, l3⟩ := HC.out i e he
      have hme := HM.out e (List.mem_of_getElem? he)
      have HK := Lib.hid (fun W => rcheckN_any e W hme)
      have HAt := Lib.hid (rowG_at l i e he HG.out)
      have hi2 : (i : Int) < (l.length : Int) := by omega
      have hcl := keep1E (Below.refl _ _) ⟨cells4 hbw ⟨l0, l1, l2, l3⟩, hbw⟩
      have HE : Hid (¬ e.id ≤ -1) := Lib.hid (by have := hme.1; omega)
      clear he hme l0 l1 l2 l3 hbw HG
      unfold eC at HK
      by_cases h0 : ckN e = 0
      · rw [h0] at HK
        have HCL := Lib.hid hcl
        obtain ⟨⟨k0, k1, k2, k3⟩, hbw⟩ := hcl
        clear hbw
        by_cases hz : i = 0
        · have hdz : decide (0 < (i : Int)) = false := by simp; omega
          have hdn : decide (0 < i) = false := by simp; omega
          have HZ := Lib.hid hz
          clear hz
          go_wp2_with fail
          refine (HK.out _).mono ?_
          rintro x w1 ⟨rfl, hb⟩
          have HS0 := keep1E (Below.drew (Below.refl _ _)) (keep1E hb HCL.out)
          clear hb k0 k1 k2 k3 HCL
          go_upto_region 9 with fail
          refine wp_region_held_drew (S := fun w' => (w'.cell? ⟨g, off + i * 4, none⟩ = some (.int .u64 e.id) ∧ w'.cell? ⟨g, off + i * 4 + 1, none⟩ = some (.int .u64 e.off) ∧ w'.cell? ⟨g, off + i * 4 + 2, none⟩ = some (.int .u32 e.ln) ∧ w'.cell? ⟨g, off + i * 4 + 3, none⟩ = some (.int .u32 e.rn)) ∧ Below w.heap.size w w') (by kernel_rfl) HS0 (fun hH0 => ?_)
          refine takeH (i := 0) (d := 22) (v := ?_) rfl rfl (by kernel_rfl) (by kernel_rfl) (by kernel_rfl) (fun _ _ _ h => h) (Or.inl ⟨by rfl, ?y0⟩) hH0 ?_
          case y0 => intro w hSw; go_simp; try with_reducible rfl
          try simp only [Act.put, List.setIfInBounds_toArray, List.set_cons_zero, List.set_cons_succ]
          refine takeH (i := 1) (d := 23) (v := ?_) rfl rfl (by kernel_rfl) (by kernel_rfl) (by kernel_rfl) (fun _ _ _ h => h) (Or.inl ⟨by rfl, ?y1⟩) hH0 ?_
          case y1 => intro w hSw; go_simp; try with_reducible rfl
          try simp only [Act.put, List.setIfInBounds_toArray, List.set_cons_zero, List.set_cons_succ]
          refine takeH (i := 2) (d := 24) (v := ?_) rfl rfl (by kernel_rfl) (by kernel_rfl) (by kernel_rfl) (fun _ _ _ h => h) (Or.inl ⟨by rfl, ?y2⟩) hH0 ?_
          case y2 => intro w hSw; go_simp; try with_reducible rfl
          try simp only [Act.put, List.setIfInBounds_toArray, List.set_cons_zero, List.set_cons_succ]
          refine takeH (i := 3) (d := 25) (v := undef) rfl rfl (by kernel_rfl) (by kernel_rfl) (by kernel_rfl) (fun _ _ _ h => h) (Or.inr ⟨by rfl, rfl⟩) hH0 ?_
          try simp only [Act.put, List.setIfInBounds_toArray, List.set_cons_zero, List.set_cons_succ]
          refine takeH (i := 4) (d := 26) (v := undef) rfl rfl (by kernel_rfl) (by kernel_rfl) (by kernel_rfl) (fun _ _ _ h => h) (Or.inr ⟨by rfl, rfl⟩) hH0 ?_
          try simp only [Act.put, List.setIfInBounds_toArray, List.set_cons_zero, List.set_cons_succ]
          refine takeH (i := 5) (d := 27) (v := undef) rfl rfl (by kernel_rfl) (by kernel_rfl) (by kernel_rfl) (fun _ _ _ h => h) (Or.inr ⟨by rfl, rfl⟩) hH0 ?_
          try simp only [Act.put, List.setIfInBounds_toArray, List.set_cons_zero, List.set_cons_succ]
          refine takeH (i := 6) (d := 28) (v := undef) rfl rfl (by kernel_rfl) (by kernel_rfl) (by kernel_rfl) (fun _ _ _ h => h) (Or.inr ⟨by rfl, rfl⟩) hH0 ?_
          try simp only [Act.put, List.setIfInBounds_toArray, List.set_cons_zero, List.set_cons_succ]
          refine takeH (i := 7) (d := 29) (v := undef) rfl rfl (by kernel_rfl) (by kernel_rfl) (by kernel_rfl) (fun _ _ _ h => h) (Or.inr ⟨by rfl, rfl⟩) hH0 ?_
          try simp only [Act.put, List.setIfInBounds_toArray, List.set_cons_zero, List.set_cons_succ]
          refine takeH (i := 8) (d := 30) (v := undef) rfl rfl (by kernel_rfl) (by kernel_rfl) (by kernel_rfl) (fun _ _ _ h => h) (Or.inr ⟨by rfl, rfl⟩) hH0 ?_
          try simp only [Act.put, List.setIfInBounds_toArray, List.set_cons_zero, List.set_cons_succ]
          refine takeH (i := 9) (d := 31) (v := undef) rfl rfl (by kernel_rfl) (by kernel_rfl) (by kernel_rfl) (fun _ _ _ h => h) (Or.inr ⟨by rfl, rfl⟩) hH0 ?_
          try simp only [Act.put, List.setIfInBounds_toArray, List.set_cons_zero, List.set_cons_succ]
          refine takeH (i := 10) (d := 32) (v := undef) rfl rfl (by kernel_rfl) (by kernel_rfl) (by kernel_rfl) (fun _ _ _ h => h) (Or.inr ⟨by rfl, rfl⟩) hH0 ?_
          try simp only [Act.put, List.setIfInBounds_toArray, List.set_cons_zero, List.set_cons_succ]
          refine takeH (i := 11) (d := 33) (v := undef) rfl rfl (by kernel_rfl) (by kernel_rfl) (by kernel_rfl) (fun _ _ _ h => h) (Or.inr ⟨by rfl, rfl⟩) hH0 ?_
          try simp only [Act.put, List.setIfInBounds_toArray, List.set_cons_zero, List.set_cons_succ]
          refine takeH (i := 12) (d := 34) (v := undef) rfl rfl (by kernel_rfl) (by kernel_rfl) (by kernel_rfl) (fun _ _ _ h => h) (Or.inr ⟨by rfl, rfl⟩) hH0 ?_
          try simp only [Act.put, List.setIfInBounds_toArray, List.set_cons_zero, List.set_cons_succ]
          refine takeH (i := 13) (d := 35) (v := undef) rfl rfl (by kernel_rfl) (by kernel_rfl) (by kernel_rfl) (fun _ _ _ h => h) (Or.inr ⟨by rfl, rfl⟩) hH0 ?_
          try simp only [Act.put, List.setIfInBounds_toArray, List.set_cons_zero, List.set_cons_succ]
          refine takeH (i := 14) (d := 36) (v := undef) rfl rfl (by kernel_rfl) (by kernel_rfl) (by kernel_rfl) (fun _ _ _ h => h) (Or.inr ⟨by rfl, rfl⟩) hH0 ?_
          try simp only [Act.put, List.setIfInBounds_toArray, List.set_cons_zero, List.set_cons_succ]
          refine takeH (i := 15) (d := 37) (v := ?_) rfl rfl (by kernel_rfl) (by kernel_rfl) (by kernel_rfl) (fun _ _ _ h => h) (Or.inl ⟨by rfl, ?y15⟩) hH0 ?_
          case y15 => intro w hSw; go_simp; try with_reducible rfl
          try simp only [Act.put, List.setIfInBounds_toArray, List.set_cons_zero, List.set_cons_succ]
          refine wpAnyH_done (by kernel_rfl) ?_ _
          go_wp2_with fail
          go_roundw
          case rel =>
            refine ⟨i + 1, by omega, by go_num, Lib.hid (HAt.out.2 h0 ?_), hH0.2⟩
            unfold prvN
            rw [if_pos HZ.out]
            exact HE.out
          case measure => simp [intOf]; omega
        · obtain ⟨j, rfl⟩ : ∃ j, i = j + 1 := ⟨i - 1, by omega⟩
          obtain ⟨f, hf⟩ : ∃ t, l[j]? = some t := ⟨_, List.getElem?_eq_getElem (by omega)⟩
          have hpv : prvN l (j + 1) = laN f := by
            unfold prvN
            rw [if_neg (by omega), Nat.add_sub_cancel, List.getD_eq_getElem?_getD, hf]
            rfl
          rw [hpv] at HAt
          obtain ⟨g', off', ha, hg', f0, f1, f2, f3⟩ := HC.out j f hf
          obtain ⟨rfl, rfl⟩ : g = g' ∧ off = off' := by simpa using ha
          have hmf := HM.out f (List.mem_of_getElem? hf)
          have HLF := Lib.hid (fun W => rlastN_any f W hmf)
          unfold eC at HLF
          have HCL2 := Lib.hid (keep2E (Below.refl _ _) ⟨HCL.out.1, cells4 (HCL.out.2) ⟨f0, f1, f2, f3⟩, HCL.out.2⟩)
          have hij : ((j + 1 : Nat) : Int) - 1 = (j : Int) := by omega
          have hwj : IntKind.i64.wrap (j : Int) = (j : Int) := by rw [IntKind.wrap_i64] <;> omega
          have hj2 : (j : Int) < (l.length : Int) := by omega
          have hj0 : (0 : Int) ≤ (j : Int) := by omega
          generalize hgi : j + 1 = i at *
          have hdz : decide (0 < (i : Int)) = true := by simp; omega
          have hdn : decide (0 < i) = true := by simp; omega
          obtain ⟨q, hq⟩ : ∃ q, laN f = q := ⟨_, rfl⟩
          rw [hq] at HAt HLF
          clear hq hf f0 f1 f2 f3 hpv hz hmf
          by_cases hle : e.id ≤ q
          · have hR : R = 10 := by rw [← HR.out, HAt.out.1, if_neg (fun h => h h0), if_pos hle]
            subst hR
            have hdl : decide (e.id ≤ q) = true := by simpa using hle
            clear hle HAt
            go_wp2_with fail
            refine (HK.out _).mono ?_
            rintro x w1 ⟨rfl, hb⟩
            have HS0 := keep2E (Below.drew (Below.refl _ _)) (keep2E hb HCL2.out)
            clear hb k0 k1 k2 k3 HCL HCL2
            go_upto_region 9 with fail
            refine wp_region_held_drew (S := fun w' => (w'.cell? ⟨g, off + i * 4, none⟩ = some (.int .u64 e.id) ∧ w'.cell? ⟨g, off + i * 4 + 1, none⟩ = some (.int .u64 e.off) ∧ w'.cell? ⟨g, off + i * 4 + 2, none⟩ = some (.int .u32 e.ln) ∧ w'.cell? ⟨g, off + i * 4 + 3, none⟩ = some (.int .u32 e.rn)) ∧ (w'.cell? ⟨g, off + j * 4, none⟩ = some (.int .u64 f.id) ∧ w'.cell? ⟨g, off + j * 4 + 1, none⟩ = some (.int .u64 f.off) ∧ w'.cell? ⟨g, off + j * 4 + 2, none⟩ = some (.int .u32 f.ln) ∧ w'.cell? ⟨g, off + j * 4 + 3, none⟩ = some (.int .u32 f.rn)) ∧ Below w.heap.size w w') (by kernel_rfl) HS0 (fun hH0 => ?_)
            refine takeH (i := 0) (d := 22) (v := ?_) rfl rfl (by kernel_rfl) (by kernel_rfl) (by kernel_rfl) (fun _ _ _ h => h) (Or.inl ⟨by rfl, ?y0⟩) hH0 ?_
            case y0 => intro w hSw; go_simp; try with_reducible rfl
            try simp only [Act.put, List.setIfInBounds_toArray, List.set_cons_zero, List.set_cons_succ]
            refine takeH (i := 1) (d := 23) (v := ?_) rfl rfl (by kernel_rfl) (by kernel_rfl) (by kernel_rfl) (fun _ _ _ h => h) (Or.inl ⟨by rfl, ?y1⟩) hH0 ?_
            case y1 => intro w hSw; go_simp; try with_reducible rfl
            try simp only [Act.put, List.setIfInBounds_toArray, List.set_cons_zero, List.set_cons_succ]
            refine takeH (i := 2) (d := 24) (v := ?_) rfl rfl (by kernel_rfl) (by kernel_rfl) (by kernel_rfl) (fun _ _ _ h => h) (Or.inl ⟨by rfl, ?y2⟩) hH0 ?_
            case y2 => intro w hSw; go_simp; try with_reducible rfl
            try simp only [Act.put, List.setIfInBounds_toArray, List.set_cons_zero, List.set_cons_succ]
            refine takeH (i := 3) (d := 25) (v := ?_) rfl rfl (by kernel_rfl) (by kernel_rfl) (by kernel_rfl) (fun _ _ _ h => h) (Or.inl ⟨by rfl, ?y3⟩) hH0 ?_
            case y3 => intro w hSw; go_simp; try with_reducible rfl
            try simp only [Act.put, List.setIfInBounds_toArray, List.set_cons_zero, List.set_cons_succ]
            refine takeH (i := 4) (d := 26) (v := ?_) rfl rfl (by kernel_rfl) (by kernel_rfl) (by kernel_rfl) (fun _ _ _ h => h) (Or.inl ⟨by rfl, ?y4⟩) hH0 ?_
            case y4 => intro w hSw; go_simp; try with_reducible rfl
            try simp only [Act.put, List.setIfInBounds_toArray, List.set_cons_zero, List.set_cons_succ]
            refine takeH (i := 5) (d := 27) (v := ?_) rfl rfl (by kernel_rfl) (by kernel_rfl) (by kernel_rfl) (fun _ _ _ h => h) (Or.inl ⟨by rfl, ?y5⟩) hH0 ?_
            case y5 => intro w hSw; go_simp; try with_reducible rfl
            try simp only [Act.put, List.setIfInBounds_toArray, List.set_cons_zero, List.set_cons_succ]
            refine takeH (i := 6) (d := 28) (v := ?_) rfl rfl (by kernel_rfl) (by kernel_rfl) (by kernel_rfl) (fun _ _ _ h => h) (Or.inl ⟨by rfl, ?y6⟩) hH0 ?_
            case y6 => intro w hSw; go_simp; try with_reducible rfl
            try simp only [Act.put, List.setIfInBounds_toArray, List.set_cons_zero, List.set_cons_succ]
            refine takeH (i := 7) (d := 29) (v := ?_) rfl rfl (by kernel_rfl) (by kernel_rfl) (by kernel_rfl) (fun _ _ _ h => h) (Or.inl ⟨by rfl, ?y7⟩) hH0 ?_
            case y7 => intro w hSw; go_simp; try with_reducible rfl
            try simp only [Act.put, List.setIfInBounds_toArray, List.set_cons_zero, List.set_cons_succ]
            refine takeH (i := 8) (d := 30) (v := ?_) rfl rfl (by kernel_rfl) (by kernel_rfl) (by kernel_rfl) (fun _ _ _ h => h) (Or.inl ⟨by rfl, ?y8⟩) hH0 ?_
            case y8 => intro w hSw; go_simp; try with_reducible rfl
            try simp only [Act.put, List.setIfInBounds_toArray, List.set_cons_zero, List.set_cons_succ]
            refine takeH (i := 9) (d := 31) (v := ?_) rfl rfl (by kernel_rfl) (by kernel_rfl) (by kernel_rfl) (fun _ _ _ h => h) (Or.inl ⟨by rfl, ?y9⟩) hH0 ?_
            case y9 => intro w hSw; go_simp; try with_reducible rfl
            try simp only [Act.put, List.setIfInBounds_toArray, List.set_cons_zero, List.set_cons_succ]
            refine takeH (i := 10) (d := 32) (v := ?_) rfl rfl (by kernel_rfl) (by kernel_rfl) (by kernel_rfl) (fun _ _ _ h => h) (Or.inl ⟨by rfl, ?y10⟩) hH0 ?_
            case y10 => intro w hSw; go_simp; try with_reducible rfl
            try simp only [Act.put, List.setIfInBounds_toArray, List.set_cons_zero, List.set_cons_succ]
            refine takeH (i := 11) (d := 33) (v := ?_) rfl rfl (by kernel_rfl) (by kernel_rfl) (by kernel_rfl) (fun _ _ _ h => h) (Or.inl ⟨by rfl, ?y11⟩) hH0 ?_
            case y11 => intro w hSw; go_simp; try with_reducible rfl
            try simp only [Act.put, List.setIfInBounds_toArray, List.set_cons_zero, List.set_cons_succ]
            refine takeH (i := 12) (d := 34) (v := ?_) rfl rfl (by kernel_rfl) (by kernel_rfl) (by kernel_rfl) (fun _ _ _ h => h) (Or.inl ⟨by rfl, ?y12⟩) hH0 ?_
            case y12 => intro w hSw; go_simp; try with_reducible rfl
            try simp only [Act.put, List.setIfInBounds_toArray, List.set_cons_zero, List.set_cons_succ]
            refine wpAnyH_ready (rs := [13]) (by kernel_rfl) (by simp) ?_
            refine AllReadyH.cons rfl (fun K hK => ?_) AllReadyH.nil
            go_simp
            refine (HLF.out _).mono ?_
            rintro e w' ⟨rfl, hb⟩
            go_wp2_with fail
            refine hK.out _ _ (keep2E hb hH0) (fun hH1 => ?_)
            clear hK K hb hH0
            try simp only [Act.put, List.setIfInBounds_toArray, List.set_cons_zero, List.set_cons_succ]
            refine takeH (i := 14) (d := 36) (v := ?_) rfl rfl (by kernel_rfl) (by kernel_rfl) (by kernel_rfl) (fun _ _ _ h => h) (Or.inl ⟨by rfl, ?y14⟩) hH1 ?_
            case y14 => intro w hSw; go_simp; try with_reducible rfl
            try simp only [Act.put, List.setIfInBounds_toArray, List.set_cons_zero, List.set_cons_succ]
            refine takeH (i := 15) (d := 37) (v := ?_) rfl rfl (by kernel_rfl) (by kernel_rfl) (by kernel_rfl) (fun _ _ _ h => h) (Or.inl ⟨by rfl, ?y15⟩) hH1 ?_
            case y15 => intro w hSw; go_simp; try with_reducible rfl
            try simp only [Act.put, List.setIfInBounds_toArray, List.set_cons_zero, List.set_cons_succ]
            refine wpAnyH_done (by kernel_rfl) ?_ _
            go_wp2_with fail
            go_ret
            exact ⟨rfl, hH1.2.2⟩
          · have hdl : decide (e.id ≤ q) = false := by simpa using hle
            have HG2 := Lib.hid (HAt.out.2 h0 hle)
            clear hle HAt
            go_wp2_with fail
            refine (HK.out _).mono ?_
            rintro x w1 ⟨rfl, hb⟩
            have HS0 := keep2E (Below.drew (Below.refl _ _)) (keep2E hb HCL2.out)
            clear hb k0 k1 k2 k3 HCL HCL2
            go_upto_region 9 with fail
            refine wp_region_held_drew (S := fun w' => (w'.cell? ⟨g, off + i * 4, none⟩ = some (.int .u64 e.id) ∧ w'.cell? ⟨g, off + i * 4 + 1, none⟩ = some (.int .u64 e.off) ∧ w'.cell? ⟨g, off + i * 4 + 2, none⟩ = some (.int .u32 e.ln) ∧ w'.cell? ⟨g, off + i * 4 + 3, none⟩ = some (.int .u32 e.rn)) ∧ (w'.cell? ⟨g, off + j * 4, none⟩ = some (.int .u64 f.id) ∧ w'.cell? ⟨g, off + j * 4 + 1, none⟩ = some (.int .u64 f.off) ∧ w'.cell? ⟨g, off + j * 4 + 2, none⟩ = some (.int .u32 f.ln) ∧ w'.cell? ⟨g, off + j * 4 + 3, none⟩ = some (.int .u32 f.rn)) ∧ Below w.heap.size w w') (by kernel_rfl) HS0 (fun hH0 => ?_)
            refine takeH (i := 0) (d := 22) (v := ?_) rfl rfl (by kernel_rfl) (by kernel_rfl) (by kernel_rfl) (fun _ _ _ h => h) (Or.inl ⟨by rfl, ?y0⟩) hH0 ?_
            case y0 => intro w hSw; go_simp; try with_reducible rfl
            try simp only [Act.put, List.setIfInBounds_toArray, List.set_cons_zero, List.set_cons_succ]
            refine takeH (i := 1) (d := 23) (v := ?_) rfl rfl (by kernel_rfl) (by kernel_rfl) (by kernel_rfl) (fun _ _ _ h => h) (Or.inl ⟨by rfl, ?y1⟩) hH0 ?_
            case y1 => intro w hSw; go_simp; try with_reducible rfl
            try simp only [Act.put, List.setIfInBounds_toArray, List.set_cons_zero, List.set_cons_succ]
            refine takeH (i := 2) (d := 24) (v := ?_) rfl rfl (by kernel_rfl) (by kernel_rfl) (by kernel_rfl) (fun _ _ _ h => h) (Or.inl ⟨by rfl, ?y2⟩) hH0 ?_
            case y2 => intro w hSw; go_simp; try with_reducible rfl
            try simp only [Act.put, List.setIfInBounds_toArray, List.set_cons_zero, List.set_cons_succ]
            refine takeH (i := 3) (d := 25) (v := ?_) rfl rfl (by kernel_rfl) (by kernel_rfl) (by kernel_rfl) (fun _ _ _ h => h) (Or.inl ⟨by rfl, ?y3⟩) hH0 ?_
            case y3 => intro w hSw; go_simp; try with_reducible rfl
            try simp only [Act.put, List.setIfInBounds_toArray, List.set_cons_zero, List.set_cons_succ]
            refine takeH (i := 4) (d := 26) (v := ?_) rfl rfl (by kernel_rfl) (by kernel_rfl) (by kernel_rfl) (fun _ _ _ h => h) (Or.inl ⟨by rfl, ?y4⟩) hH0 ?_
            case y4 => intro w hSw; go_simp; try with_reducible rfl
            try simp only [Act.put, List.setIfInBounds_toArray, List.set_cons_zero, List.set_cons_succ]
            refine takeH (i := 5) (d := 27) (v := ?_) rfl rfl (by kernel_rfl) (by kernel_rfl) (by kernel_rfl) (fun _ _ _ h => h) (Or.inl ⟨by rfl, ?y5⟩) hH0 ?_
            case y5 => intro w hSw; go_simp; try with_reducible rfl
            try simp only [Act.put, List.setIfInBounds_toArray, List.set_cons_zero, List.set_cons_succ]
            refine takeH (i := 6) (d := 28) (v := ?_) rfl rfl (by kernel_rfl) (by kernel_rfl) (by kernel_rfl) (fun _ _ _ h => h) (Or.inl ⟨by rfl, ?y6⟩) hH0 ?_
            case y6 => intro w hSw; go_simp; try with_reducible rfl
            try simp only [Act.put, List.setIfInBounds_toArray, List.set_cons_zero, List.set_cons_succ]
            refine takeH (i := 7) (d := 29) (v := ?_) rfl rfl (by kernel_rfl) (by kernel_rfl) (by kernel_rfl) (fun _ _ _ h => h) (Or.inl ⟨by rfl, ?y7⟩) hH0 ?_
            case y7 => intro w hSw; go_simp; try with_reducible rfl
            try simp only [Act.put, List.setIfInBounds_toArray, List.set_cons_zero, List.set_cons_succ]
            refine takeH (i := 8) (d := 30) (v := ?_) rfl rfl (by kernel_rfl) (by kernel_rfl) (by kernel_rfl) (fun _ _ _ h => h) (Or.inl ⟨by rfl, ?y8⟩) hH0 ?_
            case y8 => intro w hSw; go_simp; try with_reducible rfl
            try simp only [Act.put, List.setIfInBounds_toArray, List.set_cons_zero, List.set_cons_succ]
            refine takeH (i := 9) (d := 31) (v := ?_) rfl rfl (by kernel_rfl) (by kernel_rfl) (by kernel_rfl) (fun _ _ _ h => h) (Or.inl ⟨by rfl, ?y9⟩) hH0 ?_
            case y9 => intro w hSw; go_simp; try with_reducible rfl
            try simp only [Act.put, List.setIfInBounds_toArray, List.set_cons_zero, List.set_cons_succ]
            refine takeH (i := 10) (d := 32) (v := ?_) rfl rfl (by kernel_rfl) (by kernel_rfl) (by kernel_rfl) (fun _ _ _ h => h) (Or.inl ⟨by rfl, ?y10⟩) hH0 ?_
            case y10 => intro w hSw; go_simp; try with_reducible rfl
            try simp only [Act.put, List.setIfInBounds_toArray, List.set_cons_zero, List.set_cons_succ]
            refine takeH (i := 11) (d := 33) (v := ?_) rfl rfl (by kernel_rfl) (by kernel_rfl) (by kernel_rfl) (fun _ _ _ h => h) (Or.inl ⟨by rfl, ?y11⟩) hH0 ?_
            case y11 => intro w hSw; go_simp; try with_reducible rfl
            try simp only [Act.put, List.setIfInBounds_toArray, List.set_cons_zero, List.set_cons_succ]
            refine takeH (i := 12) (d := 34) (v := ?_) rfl rfl (by kernel_rfl) (by kernel_rfl) (by kernel_rfl) (fun _ _ _ h => h) (Or.inl ⟨by rfl, ?y12⟩) hH0 ?_
            case y12 => intro w hSw; go_simp; try with_reducible rfl
            try simp only [Act.put, List.setIfInBounds_toArray, List.set_cons_zero, List.set_cons_succ]
            refine wpAnyH_ready (rs := [13]) (by kernel_rfl) (by simp) ?_
            refine AllReadyH.cons rfl (fun K hK => ?_) AllReadyH.nil
            go_simp
            refine (HLF.out _).mono ?_
            rintro e w' ⟨rfl, hb⟩
            go_wp2_with fail
            refine hK.out _ _ (keep2E hb hH0) (fun hH1 => ?_)
            clear hK K hb hH0
            try simp only [Act.put, List.setIfInBounds_toArray, List.set_cons_zero, List.set_cons_succ]
            refine takeH (i := 14) (d := 36) (v := ?_) rfl rfl (by kernel_rfl) (by kernel_rfl) (by kernel_rfl) (fun _ _ _ h => h) (Or.inl ⟨by rfl, ?y14⟩) hH1 ?_
            case y14 => intro w hSw; go_simp; try with_reducible rfl
            try simp only [Act.put, List.setIfInBounds_toArray, List.set_cons_zero, List.set_cons_succ]
            refine takeH (i := 15) (d := 37) (v := ?_) rfl rfl (by kernel_rfl) (by kernel_rfl) (by kernel_rfl) (fun _ _ _ h => h) (Or.inl ⟨by rfl, ?y15⟩) hH1 ?_
            case y15 => intro w hSw; go_simp; try with_reducible rfl
            try simp only [Act.put, List.setIfInBounds_toArray, List.set_cons_zero, List.set_cons_succ]
            refine wpAnyH_done (by kernel_rfl) ?_ _
            go_wp2_with fail
            go_roundw
            case rel => exact ⟨i + 1, by omega, by go_num, HG2, hH1.2.2⟩
            case measure => simp [intOf]; omega
      · have hR : R = ckN e := by rw [← HR.out, HAt.out.1, if_pos h0]
        obtain ⟨r, hr⟩ : ∃ r, ckN e = r := ⟨_, rfl⟩
        rw [hr] at HK h0 hR
        subst hR
        have hne : (R != 0) = true := by simp only [bne_iff_ne, ne_eq]; exact h0
        clear h0 hr HAt HR
        have HCL := Lib.hid hcl.2
        obtain ⟨⟨k0, k1, k2, k3⟩, hbw⟩ := hcl
        clear hbw
        go_wp2_with fail
        refine (HK.out _).mono ?_
        rintro x w1 ⟨rfl, hb⟩
        have hb1 := Lib.hid (HCL.out.trans (hb.mono HCL.out.size))
        clear hb k0 k1 k2 k3 HCL
        go_wp2_with fail
        go_ret
        exact ⟨rfl, hb1.out⟩
    · obtain rfl : i = l.length := by omega
      have hG := HG.out
      rw [List.take_length] at hG
      have hR : R = 0 := HR.out.symm.trans hG
      subst hR
      clear hG HG HR
      go_wp2_with fail
      go_ret
      exact ⟨rfl, hbw⟩
end Go.Proofs.Ytbkodaijigcebaa
/- Contracts of the document's first, Contents and Same, over rows of entries. -/
namespace Go.Proofs.Ytbkodaijigcebaa
open Go.RowKit
set_option maxRecDepth 20000
set_option linter.unusedVariables false
set_option linter.unusedSimpArgs false
theorem ret_bn {a b : Bool} (h : a = b) : Ending.returned (.bool a) = .returned (.bool b) := by rw [h]
end Go.Proofs.Ytbkodaijigcebaa
/- Contracts of the document's Contents and Same, and of the law's Own, over rows of entries. -/
namespace Go.Proofs.Ytbkodaijigcebaa
open Go.RowKit
set_option maxRecDepth 20000
set_option linter.unusedVariables false
set_option linter.unusedSimpArgs false
theorem eq_ent (a b : En) (T : TypeId) (w : World) (hT : T = 58) : (Op.equalIn 10000 T (.agg #[.int .u64 a.id, .int .u64 a.off, .int .u32 a.ln, .int .u32 a.rn]) (.agg #[.int .u64 b.id, .int .u64 b.off, .int .u32 b.ln, .int .u32 b.rn])).run Try.prog w = .ok (decide (a = b)) w := by
  subst hT
  have hS : Try.prog.underlying 58 = some (.struct (Try.prog.fieldsOf 58)) := by kernel_rfl
  rw [show (10000 : Nat) = 9999 + 1 from rfl, run_equalIn_agg w 9999 _ _ _ hS (by kernel_rfl)]
  simp only [Program.fieldsOf, Try.underlying58]
  go_simp
  by_cases h0 : a.id = b.id
  case neg => simp [h0, En.eq_iff]
  by_cases h1 : a.off = b.off
  case neg => simp [h0, h1, En.eq_iff]
  by_cases h2 : a.ln = b.ln
  case neg => simp [h0, h1, h2, En.eq_iff]
  by_cases h3 : a.rn = b.rn
  case neg => simp [h0, h1, h2, h3, En.eq_iff]
  simp [h0, h1, h2, h3, En.eq_iff]
set_option maxRecDepth 20000 in
set_option maxHeartbeats 2000000 in
theorem rsameN_any (v u : Value) (l m : List En) (w : World) (hv : EnsAt w v l) (hu : EnsAt w u m) : Calls Try.prog 11 #[v, u] w fun x w' => x = .returned (.bool (decide (l = m))) ∧ Below w.heap.size w w' := by
  obtain ⟨al, cap, rfl, hcap, hmx, hc⟩ := hv
  obtain ⟨am, cam, rfl, hcam, hmm, hcm⟩ := hu
  have HC := Lib.hid hc
  have HD := Lib.hid hcm
  obtain ⟨R, hR⟩ : ∃ R, decide (l = m) = R := ⟨_, rfl⟩
  rw [hR]
  have HR := Lib.hid hR
  have hml : l.length ≤ 9223372036854775807 := by unfold maxLen at hmx; omega
  clear hc hcm hR
  by_cases hne : l.length = m.length
  · have hd : ((l.length : Int) != (m.length : Int)) = false := by simp; omega
    have HN := Lib.hid hne
    clear hne
    go_enter Try.func11, Try.ntmps11
    go_wp2_with fail
    go_loopw [5] (fun s wr => ∃ i : Nat, i ≤ l.length ∧ s = .int .i64 i ∧ Hid (l.take i = m.take i) ∧ Below w.heap.size w wr) (fun s _ => l.length - (intOf s).toNat)
    case atStart => exact ⟨0, Nat.zero_le _, rfl, Lib.hid rfl, Below.refl _ _⟩
    case round =>
      obtain ⟨i, hi, rfl, HG, hbw⟩ := hrel
      by_cases hlt : i < l.length
      · have hlm : i < m.length := by have := HN.out; omega
        obtain ⟨e, he⟩ : ∃ t, l[i]? = some t := ⟨_, List.getElem?_eq_getElem hlt⟩
        obtain ⟨f, hf⟩ : ∃ t, m[i]? = some t := ⟨_, List.getElem?_eq_getElem hlm⟩
        obtain ⟨g, off, rfl, hg, l0, l1, l2, l3⟩ := HC.out i e he
        obtain ⟨g', off', rfl, hg', f0, f1, f2, f3⟩ := HD.out i f hf
        have HS0 := keep2E (Below.drew (Below.refl _ _)) ⟨cells4 hbw ⟨l0, l1, l2, l3⟩, cells4 hbw ⟨f0, f1, f2, f3⟩, hbw⟩
        have hq := fun W => eq_ent e f _ W rfl
        have hi2 : (i : Int) < (l.length : Int) := by omega
        have hi3 : (i : Int) < (m.length : Int) := by omega
        have hi4 : (0 : Int) ≤ (i : Int) := by omega
        have HE := Lib.hid (And.intro he hf)
        clear he hf l0 l1 l2 l3 f0 f1 f2 f3 hbw hg hg'
        by_cases hef : e = f
        · rw [decide_eq_true hef] at hq
          have HG2 : Hid (l.take (i + 1) = m.take (i + 1)) := Lib.hid (by rw [take_one l i e HE.out.1, take_one m i f HE.out.2, HG.out, hef])
          clear hef HG HE
          go_upto_region 6 with fail
          refine wp_region_held_drew (S := fun w' => (w'.cell? ⟨g, off + i * 4, none⟩ = some (.int .u64 e.id) ∧ w'.cell? ⟨g, off + i * 4 + 1, none⟩ = some (.int .u64 e.off) ∧ w'.cell? ⟨g, off + i * 4 + 2, none⟩ = some (.int .u32 e.ln) ∧ w'.cell? ⟨g, off + i * 4 + 3, none⟩ = some (.int .u32 e.rn)) ∧ (w'.cell? ⟨g', off' + i * 4, none⟩ = some (.int .u64 f.id) ∧ w'.cell? ⟨g', off' + i * 4 + 1, none⟩ = some (.int .u64 f.off) ∧ w'.cell? ⟨g', off' + i * 4 + 2, none⟩ = some (.int .u32 f.ln) ∧ w'.cell? ⟨g', off' + i * 4 + 3, none⟩ = some (.int .u32 f.rn)) ∧ Below w.heap.size w w') (by kernel_rfl) HS0 (fun hH0 => ?_)
          refine takeH (i := 0) (d := 17) (v := ?_) rfl rfl (by kernel_rfl) (by kernel_rfl) (by kernel_rfl) (fun _ _ _ h => h) (Or.inl ⟨by rfl, ?y0⟩) hH0 ?_
          case y0 => intro w hSw; go_simp; try with_reducible rfl
          try simp only [Act.put, List.setIfInBounds_toArray, List.set_cons_zero, List.set_cons_succ]
          refine takeH (i := 1) (d := 18) (v := ?_) rfl rfl (by kernel_rfl) (by kernel_rfl) (by kernel_rfl) (fun _ _ _ h => h) (Or.inl ⟨by rfl, ?y1⟩) hH0 ?_
          case y1 => intro w hSw; go_simp; try with_reducible rfl
          try simp only [Act.put, List.setIfInBounds_toArray, List.set_cons_zero, List.set_cons_succ]
          refine takeH (i := 2) (d := 19) (v := ?_) rfl rfl (by kernel_rfl) (by kernel_rfl) (by kernel_rfl) (fun _ _ _ h => h) (Or.inl ⟨by rfl, ?y2⟩) hH0 ?_
          case y2 => intro w hSw; go_simp; try with_reducible rfl
          try simp only [Act.put, List.setIfInBounds_toArray, List.set_cons_zero, List.set_cons_succ]
          refine takeH (i := 3) (d := 20) (v := ?_) rfl rfl (by kernel_rfl) (by kernel_rfl) (by kernel_rfl) (fun _ _ _ h => h) (Or.inl ⟨by rfl, ?y3⟩) hH0 ?_
          case y3 => intro w hSw; go_simp; try with_reducible rfl
          try simp only [Act.put, List.setIfInBounds_toArray, List.set_cons_zero, List.set_cons_succ]
          refine takeH (i := 4) (d := 21) (v := ?_) rfl rfl (by kernel_rfl) (by kernel_rfl) (by kernel_rfl) (fun _ _ _ h => h) (Or.inl ⟨by rfl, ?y4⟩) hH0 ?_
          case y4 => intro w hSw; go_simp; try with_reducible rfl
          try simp only [Act.put, List.setIfInBounds_toArray, List.set_cons_zero, List.set_cons_succ]
          refine takeH (i := 5) (d := 22) (v := ?_) rfl rfl (by kernel_rfl) (by kernel_rfl) (by kernel_rfl) (fun _ _ _ h => h) (Or.inl ⟨by rfl, ?y5⟩) hH0 ?_
          case y5 => intro w hSw; go_simp; try with_reducible rfl
          try simp only [Act.put, List.setIfInBounds_toArray, List.set_cons_zero, List.set_cons_succ]
          refine takeH (i := 6) (d := 23) (v := ?_) rfl rfl (by kernel_rfl) (by kernel_rfl) (by kernel_rfl) (fun _ _ _ h => h) (Or.inl ⟨by rfl, ?y6⟩) hH0 ?_
          case y6 => intro w hSw; go_simp; try with_reducible rfl
          try simp only [Act.put, List.setIfInBounds_toArray, List.set_cons_zero, List.set_cons_succ]
          refine takeH (i := 7) (d := 24) (v := ?_) rfl rfl (by kernel_rfl) (by kernel_rfl) (by kernel_rfl) (fun _ _ _ h => h) (Or.inl ⟨by rfl, ?y7⟩) hH0 ?_
          case y7 => intro w hSw; go_simp; try with_reducible rfl
          try simp only [Act.put, List.setIfInBounds_toArray, List.set_cons_zero, List.set_cons_succ]
          refine takeH (i := 8) (d := 25) (v := ?_) rfl rfl (by kernel_rfl) (by kernel_rfl) (by kernel_rfl) (fun _ _ _ h => h) (Or.inl ⟨by rfl, ?y8⟩) hH0 ?_
          case y8 => intro w hSw; go_simp; try with_reducible rfl
          try simp only [Act.put, List.setIfInBounds_toArray, List.set_cons_zero, List.set_cons_succ]
          refine wpAnyH_done (by kernel_rfl) ?_ _
          go_wp2_with fail
          go_roundw
          case rel => exact ⟨i + 1, by omega, by go_num, HG2, hH0.2.2⟩
          case measure => simp [intOf]; omega
        · rw [decide_eq_false hef] at hq
          have hR : R = false := by
            rw [← HR.out, decide_eq_false_iff_not]
            intro hlm2
            apply hef
            have h1 := HE.out.1
            rw [hlm2, HE.out.2] at h1
            exact (Option.some.inj h1).symm
          subst hR
          clear hef HG HE HR
          go_upto_region 6 with fail
          refine wp_region_held_drew (S := fun w' => (w'.cell? ⟨g, off + i * 4, none⟩ = some (.int .u64 e.id) ∧ w'.cell? ⟨g, off + i * 4 + 1, none⟩ = some (.int .u64 e.off) ∧ w'.cell? ⟨g, off + i * 4 + 2, none⟩ = some (.int .u32 e.ln) ∧ w'.cell? ⟨g, off + i * 4 + 3, none⟩ = some (.int .u32 e.rn)) ∧ (w'.cell? ⟨g', off' + i * 4, none⟩ = some (.int .u64 f.id) ∧ w'.cell? ⟨g', off' + i * 4 + 1, none⟩ = some (.int .u64 f.off) ∧ w'.cell? ⟨g', off' + i * 4 + 2, none⟩ = some (.int .u32 f.ln) ∧ w'.cell? ⟨g', off' + i * 4 + 3, none⟩ = some (.int .u32 f.rn)) ∧ Below w.heap.size w w') (by kernel_rfl) HS0 (fun hH0 => ?_)
          refine takeH (i := 0) (d := 17) (v := ?_) rfl rfl (by kernel_rfl) (by kernel_rfl) (by kernel_rfl) (fun _ _ _ h => h) (Or.inl ⟨by rfl, ?y0⟩) hH0 ?_
          case y0 => intro w hSw; go_simp; try with_reducible rfl
          try simp only [Act.put, List.setIfInBounds_toArray, List.set_cons_zero, List.set_cons_succ]
          refine takeH (i := 1) (d := 18) (v := ?_) rfl rfl (by kernel_rfl) (by kernel_rfl) (by kernel_rfl) (fun _ _ _ h => h) (Or.inl ⟨by rfl, ?y1⟩) hH0 ?_
          case y1 => intro w hSw; go_simp; try with_reducible rfl
          try simp only [Act.put, List.setIfInBounds_toArray, List.set_cons_zero, List.set_cons_succ]
          refine takeH (i := 2) (d := 19) (v := ?_) rfl rfl (by kernel_rfl) (by kernel_rfl) (by kernel_rfl) (fun _ _ _ h => h) (Or.inl ⟨by rfl, ?y2⟩) hH0 ?_
          case y2 => intro w hSw; go_simp; try with_reducible rfl
          try simp only [Act.put, List.setIfInBounds_toArray, List.set_cons_zero, List.set_cons_succ]
          refine takeH (i := 3) (d := 20) (v := ?_) rfl rfl (by kernel_rfl) (by kernel_rfl) (by kernel_rfl) (fun _ _ _ h => h) (Or.inl ⟨by rfl, ?y3⟩) hH0 ?_
          case y3 => intro w hSw; go_simp; try with_reducible rfl
          try simp only [Act.put, List.setIfInBounds_toArray, List.set_cons_zero, List.set_cons_succ]
          refine takeH (i := 4) (d := 21) (v := ?_) rfl rfl (by kernel_rfl) (by kernel_rfl) (by kernel_rfl) (fun _ _ _ h => h) (Or.inl ⟨by rfl, ?y4⟩) hH0 ?_
          case y4 => intro w hSw; go_simp; try with_reducible rfl
          try simp only [Act.put, List.setIfInBounds_toArray, List.set_cons_zero, List.set_cons_succ]
          refine takeH (i := 5) (d := 22) (v := ?_) rfl rfl (by kernel_rfl) (by kernel_rfl) (by kernel_rfl) (fun _ _ _ h => h) (Or.inl ⟨by rfl, ?y5⟩) hH0 ?_
          case y5 => intro w hSw; go_simp; try with_reducible rfl
          try simp only [Act.put, List.setIfInBounds_toArray, List.set_cons_zero, List.set_cons_succ]
          refine takeH (i := 6) (d := 23) (v := ?_) rfl rfl (by kernel_rfl) (by kernel_rfl) (by kernel_rfl) (fun _ _ _ h => h) (Or.inl ⟨by rfl, ?y6⟩) hH0 ?_
          case y6 => intro w hSw; go_simp; try with_reducible rfl
          try simp only [Act.put, List.setIfInBounds_toArray, List.set_cons_zero, List.set_cons_succ]
          refine takeH (i := 7) (d := 24) (v := ?_) rfl rfl (by kernel_rfl) (by kernel_rfl) (by kernel_rfl) (fun _ _ _ h => h) (Or.inl ⟨by rfl, ?y7⟩) hH0 ?_
          case y7 => intro w hSw; go_simp; try with_reducible rfl
          try simp only [Act.put, List.setIfInBounds_toArray, List.set_cons_zero, List.set_cons_succ]
          refine takeH (i := 8) (d := 25) (v := ?_) rfl rfl (by kernel_rfl) (by kernel_rfl) (by kernel_rfl) (fun _ _ _ h => h) (Or.inl ⟨by rfl, ?y8⟩) hH0 ?_
          case y8 => intro w hSw; go_simp; try with_reducible rfl
          try simp only [Act.put, List.setIfInBounds_toArray, List.set_cons_zero, List.set_cons_succ]
          refine wpAnyH_done (by kernel_rfl) ?_ _
          go_wp2_with fail
          go_ret
          exact ⟨rfl, hH0.2.2⟩
      · obtain rfl : i = l.length := by omega
        have hR : R = true := by
          rw [← HR.out, decide_eq_true_iff]
          have := HG.out
          rw [List.take_length, HN.out, List.take_length] at this
          exact this
        subst hR
        clear HG HR
        go_wp2_with fail
        go_ret
        exact ⟨rfl, hbw⟩
  · have hd : ((l.length : Int) != (m.length : Int)) = true := by simp; omega
    have hR : R = false := by
      rw [← HR.out, decide_eq_false_iff_not]
      intro h
      exact hne (by rw [h])
    subst hR
    clear hne HR
    go_enter Try.func11, Try.ntmps11
    go_wp2_with fail
    go_ret
    exact ⟨rfl, by go_grown⟩
theorem info_ent : (Try.prog.info? 52).map (fun i => (i.zero, i.size, i.bytes)) = some (some (.agg #[.int .u64 0, .int .u64 0, .int .u32 0, .int .u32 0]), 4, 24) := by kernel_rfl
theorem info_parts {P : Program} {t : TypeId} {z : Option Value} {s b : Nat} (h : (P.info? t).map (fun i => (i.zero, i.size, i.bytes)) = some (z, s, b)) : ∃ i, P.info? t = some i ∧ i.zero = z ∧ i.size = s ∧ i.bytes = b := by
  cases hi : P.info? t with
  | none => rw [hi] at h; cases h
  | some i =>
    rw [hi] at h
    simp only [Option.map_some, Option.some.injEq, Prod.mk.injEq] at h
    exact ⟨i, rfl, h.1, h.2.1, h.2.2⟩
/-- What a call leaves that hands a row of its own. -/
def EnsEnd (l : List En) (E : TypeId) (w : World) (x : Ending) (w' : World) : Prop := ∃ v', x = .returned v' ∧ OwnE w' w.heap.size E v' l ∧ Below w.heap.size w w'
set_option maxHeartbeats 1000000 in
theorem ownN_any (v : Value) (l : List En) (w : World) (hv : EnsAt w v l) (hl : l.length * 24 ≤ 140737488351232) : Calls Try.prog 8 #[v] w (EnsEnd l 52 w) := by
  obtain ⟨a, cap, rfl, h1, h2, hc⟩ := hv
  have HC := Lib.hid hc
  clear hc
  obtain ⟨i0, hi, hz0, hz1, hz2⟩ := info_parts info_ent
  have HI0 := Lib.hid hi
  have HZ0 := Lib.hid hz0
  have HZ1 := Lib.hid hz1
  have HZ2 := Lib.hid hz2
  clear hi hz0 hz1 hz2
  go_enter Try.func8, Try.ntmps8
  go_wp2_with fail
  go_loopw [3, 4] (fun v s wr => ∃ i : Nat, i ≤ l.length ∧ s = .int .i64 i ∧ OwnE wr w.heap.size 52 v (l.take i) ∧ Below w.heap.size w wr) (fun _ s _ => l.length - (intOf s).toNat)
  case atStart => exact ⟨0, Nat.zero_le _, rfl, ownE_nil _ _ _, Below.refl _ _⟩
  case round =>
    obtain ⟨i, hi, rfl, hown, hbw⟩ := hrel
    by_cases hlt : i < l.length
    · obtain ⟨t, ht⟩ : ∃ t, l[i]? = some t := ⟨_, List.getElem?_eq_getElem hlt⟩
      obtain ⟨g, off, rfl, hg, l0, l1, l2, l3⟩ := HC.out i t ht
      replace l0 := ecell_later hbw l0
      replace l1 := ecell_later hbw l1
      replace l2 := ecell_later hbw l2
      replace l3 := ecell_later hbw l3
      have hsz := hbw.size
      have HTK := Lib.hid (take_one l i t ht)
      have HOWN : Hid (wr.ownsRow w.heap.size 52 4 u3 (l.take i).length (flat4 (l.take i))) := Lib.hid hown
      have hlen : (l.take i).length = i := by rw [List.length_take]; omega
      have HLEN := Lib.hid hlen
      have hi2 : (i : Int) < (l.length : Int) := by omega
      clear ht hown hlen
      obtain ⟨p, q, r, s⟩ := t
      dsimp only at l0 l1 l2 l3
      go_wp2_with (first | (at_builtin; refine wpList_append_own _ rfl _ _ 24 rfl w.heap.size 52 i0 (.agg #[.int .u64 0, .int .u64 0, .int .u32 0, .int .u32 0]) 4 24 Try.underlying24 HI0.out HZ0.out HZ1.out HZ2.out rfl (by decide) _ _ _ rfl (World.ownsRow.alloc HOWN.out _) ⟨wr.heap.size, 0, none⟩ 1 1 [.int .u64 p, .int .u64 q, .int .u32 r, .int .u32 s] rfl rfl ?c2 ?c3 ?c4 ?c5 ?c6 ?_) | fail)
      case c2 =>
        intro j u hu
        match j, hu with
        | 0, hu => simp at hu; subst hu; simp [Addr.add, go_sem]
        | 1, hu => simp at hu; subst hu; simp [Addr.add, go_sem]
        | 2, hu => simp at hu; subst hu; simp [Addr.add, go_sem]
        | 3, hu => simp at hu; subst hu; simp [Addr.add, go_sem]
      case c3 => intro u hu; simp at hu; rcases hu with rfl | rfl | rfl | rfl <;> rfl
      case c4 => rw [HLEN.out]; unfold maxLen; omega
      case c5 => rw [HLEN.out]; omega
      case c6 => simp; omega
      intro v' w5 hown' hgr _
      have hb5 : Below w.heap.size w w5 := (hbw.alloc hsz _).grown hgr (by simp; omega) (fun g hg => (World.ownsRow.lt HOWN.out g hg).1)
      have hO' : OwnE w5 w.heap.size 52 v' (l.take (i + 1)) := owne_conv hown' (by rw [HTK.out, List.length_append, HLEN.out]; rfl) (by rw [HTK.out, flat4_append]; rfl)
      have HO' := Lib.hid hO'
      clear hown' hgr HOWN hO' l0 l1 l2 l3 hbw
      go_wp2_with fail
      go_roundw
      case rel => exact ⟨i + 1, by omega, by go_num, HO'.out, hb5⟩
      case measure => simp [intOf]; omega
    · obtain rfl : i = l.length := by omega
      rw [List.take_length] at hown
      go_wp2_with fail
      go_ret
      exact ⟨_, rfl, hown, hbw⟩
end Go.Proofs.Ytbkodaijigcebaa
