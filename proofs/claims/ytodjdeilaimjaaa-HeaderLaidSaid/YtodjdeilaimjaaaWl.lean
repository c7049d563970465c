/- The walk of HeaderLaid. -/
import Derived.Test.YtodjdeilaimjaaaWt
namespace Go.Proofs.Ytodjdeilaimjaaa
open Go.RowKit
set_option linter.unusedVariables false
set_option linter.unusedSimpArgs false
/-- The header's own bytes, and the four sections: where each begins, how long it is. -/
def fL (X : Hd) (k : Nat) : Int := if k = 0 then 0 else frK X (k - 1)
def lL (X : Hd) (k : Nat) : Int := if k = 0 then 127 else lnK X (k - 1)
def row5 (X : Hd) : Array Value := #[.int .u64 0, .int .u64 127, .int .u64 X.rf, .int .u64 X.rl, .int .u64 X.mf, .int .u64 X.ml, .int .u64 X.lf, .int .u64 X.ll, .int .u64 X.df, .int .u64 X.dl]
theorem row5_cells {w : World} {b : Nat} {X : Hd} {T : TypeId} (H : w.heap[b]? = some (.cells (row5 X) T (0, 0))) (k : Nat) (hk : k < 5) : w.cell? ⟨b, k * 2, none⟩ = some (.int .u64 (fL X k)) ∧ w.cell? ⟨b, k * 2 + 1, none⟩ = some (.int .u64 (lL X k)) := by
  have hc : ∀ i, w.cell? ⟨b, i, none⟩ = (row5 X)[i]? := fun i => by simp [World.cell?, H]
  rw [hc, hc]
  obtain rfl | rfl | rfl | rfl | rfl : k = 0 ∨ k = 1 ∨ k = 2 ∨ k = 3 ∨ k = 4 := by omega
  all_goals exact ⟨rfl, rfl⟩
theorem order5 (X : Hd) (n : Int) (hm : MayH X) (e : laidB X n = 0) : (∀ i k, k < i → i < 5 → fL X k + lL X k ≤ fL X i) ∧ (∀ i, i < 5 → fL X i + lL X i ≤ n) ∧ (∀ i, i < 5 → 0 ≤ fL X i ∧ 0 ≤ lL X i ∧ fL X i + lL X i ≤ 1099511627776) := by
  obtain ⟨hc, h1, h2, h3, h4, h5⟩ := laid_ok X n e
  have b0 := sums_ok X 0 hm hc
  have b1 := sums_ok X 1 hm hc
  have b2 := sums_ok X 2 hm hc
  have b3 := sums_ok X 3 hm hc
  simp only [frK, lnK, if_true, Nat.reduceEqDiff, if_false] at b0 b1 b2 b3
  have v : ∀ i, i < 5 → (i = 0 ∧ fL X i = 0 ∧ lL X i = 127) ∨ (i = 1 ∧ fL X i = X.rf ∧ lL X i = X.rl) ∨ (i = 2 ∧ fL X i = X.mf ∧ lL X i = X.ml) ∨ (i = 3 ∧ fL X i = X.lf ∧ lL X i = X.ll) ∨ (i = 4 ∧ fL X i = X.df ∧ lL X i = X.dl) := fun i hi => by
    obtain rfl | rfl | rfl | rfl | rfl : i = 0 ∨ i = 1 ∨ i = 2 ∨ i = 3 ∨ i = 4 := by omega
    all_goals simp [fL, lL, frK, lnK]
  refine ⟨fun i k hki hi => ?_, fun i hi => ?_, fun i hi => ?_⟩
  · have vi := v i hi
    have vk := v k (by omega)
    omega
  · have vi := v i hi
    omega
  · have vi := v i hi
    omega
set_option maxRecDepth 20000 in
theorem laid_out (X : Hd) (n m : Int) (w : World) (hm : MayH X) (h : laidB X n ≠ 0) : Calls Try.prog 7 #[.agg (cH X), .int .u64 n, .int .u64 m] w fun e w' => e = .returned (.bool true) ∧ Below w.heap.size w w' := by
  have HL := Lib.hid (fun W => laid_any X n W hm)
  obtain ⟨r, hr⟩ : ∃ r, laidB X n = r := ⟨_, rfl⟩
  rw [hr] at HL h
  have hne : (r != 0) = true := by simp only [bne_iff_ne, ne_eq]; exact h
  have HO := Lib.hid (fun W => own_any X W)
  have HA := Lib.hid awake_any
  have H0 := HAt.made w X 26
  clear hr hm h
  go_enter Try.func7, Try.ntmps7
  go_wp2_with (first | (refine rload_head (by rfl) _ rfl _ rfl _ X (by assumption) ?_) | fail)
  refine (HO.out _).mono ?_
  rintro e w1 ⟨rfl, hb⟩
  have u1 : Below w.heap.size w w1 := Below.trans (by go_grown) (hb.mono (by rw [World.size_alloc]; omega))
  have HU := Lib.hid u1
  have HZ := HAt.zero w1 32
  clear hb H0 u1
  go_wp2_with (first | (refine store_head (by rfl) _ _ rfl _ rfl X rfl _ zeroH (by assumption) rfl ?_; intro w2 HP) | (refine load_head (by rfl) _ rfl _ rfl _ X (by exact HP.1) ?_) | fail)
  refine (HL.out _).mono ?_
  rintro e w3 ⟨rfl, hb⟩
  have u2 := HP.2.2.1 _ _ HU.out.size (HU.out.alloc HU.out.size _)
  have HU3 := Lib.hid (u2.trans (hb.mono u2.size))
  clear hb u2 HP HU HZ
  go_wp2_with fail
  refine (HA.out _).mono ?_
  rintro e w4 ⟨rfl, hb⟩
  have u4 := HU3.out.trans (hb.mono HU3.out.size)
  clear hb
  go_wp2_with fail
  go_ret
  exact ⟨rfl, u4⟩
/-- What the loops keep. -/
def LAt (w wx : World) (g7 gr : Nat) (X : Hd) : Prop := wx.heap[gr]? = some (.cells (row5 X) 30 (0, 0)) ∧ HAt wx g7 32 X ∧ Below w.heap.size w wx
theorem LAt.later {w wx w' : World} {g7 gr : Nat} {X : Hd} (h : LAt w wx g7 gr X) (hb : Below wx.heap.size wx w') : LAt w w' g7 gr X := by
  have hl : gr < wx.heap.size := by
    rcases Nat.lt_or_ge gr wx.heap.size with h' | h'
    · exact h'
    · have := h.1; rw [Array.getElem?_eq_none h'] at this; cases this
  exact ⟨(hb.block gr hl).trans h.1, h.2.1.later hb, h.2.2.trans (hb.mono h.2.2.size)⟩
theorem LAt.drew {w wx : World} {g7 gr : Nat} {X : Hd} (h : LAt w wx g7 gr X) : LAt w wx.drew g7 gr X := h.later (Below.drew (Below.refl _ _))
theorem keepL {w w' w1 : World} {g7 gr : Nat} {X : Hd} {a b c : Addr} {u v x : Value} (hb : Below w'.heap.size w' w1) (H : LAt w w' g7 gr X ∧ w'.cell? a = some u ∧ w'.cell? b = some v ∧ w'.cell? c = some x) : LAt w w1 g7 gr X ∧ w1.cell? a = some u ∧ w1.cell? b = some v ∧ w1.cell? c = some x :=
  ⟨H.1.later hb, cellb_later hb H.2.1, cellb_later hb H.2.2.1, cellb_later hb H.2.2.2⟩
set_option maxRecDepth 20000 in
set_option maxHeartbeats 4000000 in
theorem laid_walk (X : Hd) (n m : Int) (w : World) (hm : MayH X) (h : laidB X n = 0) (n0 : 0 ≤ n) : Calls Try.prog 7 #[.agg (cH X), .int .u64 n, .int .u64 m] w fun e w' => e = .returned (.bool true) ∧ Below w.heap.size w w' := by
  have HL := Lib.hid (fun W => laid_any X n W hm)
  rw [h] at HL
  have HO := Lib.hid (fun W => own_any X W)
  have HA := Lib.hid awake_any
  have H0 := HAt.made w X 26
  have HM := Lib.hid hm
  have H5 := Lib.hid (order5 X n hm h)
  have HMore := Lib.hid (fun q hq => laid_more X n q h hq)
  clear hm h
  go_enter Try.func7, Try.ntmps7
  go_wp2_with (first | (refine rload_head (by rfl) _ rfl _ rfl _ X (by assumption) ?_) | fail)
  refine (HO.out _).mono ?_
  rintro e w1 ⟨rfl, hb⟩
  have u1 : Below w.heap.size w w1 := Below.trans (by go_grown) (hb.mono (by rw [World.size_alloc]; omega))
  have HU := Lib.hid u1
  have HZ := HAt.zero w1 32
  clear hb H0 u1
  go_wp2_with (first | (refine store_head (by rfl) _ _ rfl _ rfl X rfl _ zeroH (by assumption) rfl ?_; intro w2 HP) | (refine load_head (by rfl) _ rfl _ rfl _ X (by exact HP.1) ?_) | fail)
  refine (HL.out _).mono ?_
  rintro e w3 ⟨rfl, hb⟩
  have u2 := HP.2.2.1 _ _ HU.out.size (HU.out.alloc HU.out.size _)
  have HU3 := Lib.hid (u2.trans (hb.mono u2.size))
  have h3 := HP.1.later hb
  have HH3 := Lib.hid h3
  have hl3 := h3.lt
  have a0 := at0 h3
  have a1 := at1 h3
  have a2 := at2 h3
  have a3 := at3 h3
  have a4 := at4 h3
  have a5 := at5 h3
  have a6 := at6 h3
  have a7 := at7 h3
  obtain ⟨g7, hg7⟩ : ∃ g, w1.heap.size = g := ⟨_, rfl⟩
  rw [hg7] at a0 a1 a2 a3 a4 a5 a6 a7 HH3 hl3 ⊢
  clear hb u2 HP HU HZ HL h3 hg7
  go_wp2_with fail
  go_loopw [9] (fun i wr => ∃ k : Nat, k ≤ 5 ∧ i = .int .i64 k ∧ Hid (LAt w wr g7 w3.heap.size X)) (fun i _ => 5 - (intOf i).toNat)
  case atStart => exact ⟨0, by omega, rfl, Lib.hid ⟨heap_alloc_new w3 _, (heap_alloc_old hl3).trans HH3.out, HU3.out.alloc HU3.out.size _⟩⟩
  case round =>
    obtain ⟨k, hk, rfl, HLA⟩ := hrel
    generalize wr = wo at *
    clear a0 a1 a2 a3 a4 a5 a6 a7 HH3 HU3
    by_cases hlt : k < 5
    · have hd5 : decide ((k : Int) < 5) = true := by simp; omega
      go_wp2_with fail
      go_loopw [10] (fun i wr => ∃ j : Nat, j ≤ k ∧ i = .int .i64 j ∧ Hid (LAt w wr g7 w3.heap.size X)) (fun i _ => k - (intOf i).toNat)
      case atStart => exact ⟨0, by omega, rfl, HLA⟩
      case round =>
        obtain ⟨j, hj, rfl, HLB⟩ := hrel
        generalize wr = wi at *
        by_cases hjk : j < k
        · have hdj : decide ((j : Int) < (k : Int)) = true := by simp; omega
          obtain ⟨c0, c1⟩ := row5_cells HLB.out.1 j (by omega)
          obtain ⟨c2, c3⟩ := row5_cells HLB.out.1 k hlt
          have hs := H5.out.1 k j hjk hlt
          have hb := H5.out.2.2 j (by omega)
          obtain ⟨f, hf⟩ : ∃ f, fL X j = f := ⟨_, rfl⟩
          obtain ⟨l, hl⟩ : ∃ l, lL X j = l := ⟨_, rfl⟩
          obtain ⟨q, hq⟩ : ∃ q, fL X k = q := ⟨_, rfl⟩
          rw [hf, hl] at hb hs
          rw [hf] at c0
          rw [hl] at c1
          rw [hq] at c2 hs
          have hw : IntKind.u64.wrap (f + l) = f + l := by rw [IntKind.wrap_u64] <;> omega
          have HN := Lib.hid (fun W => end_sec f l W)
          rw [hw] at HN
          have hd : decide (q < f + l) = false := by simp; omega
          obtain ⟨p, hp⟩ : ∃ p, f + l = p := ⟨_, rfl⟩
          rw [hp] at HN hd
          have j0 : (0 : Int) ≤ (j : Int) := by omega
          have j5 : (j : Int) < 5 := by omega
          have k0 : (0 : Int) ≤ (k : Int) := by omega
          have k5 : (k : Int) < 5 := by omega
          have HS0 := keepL (Below.drew (Below.refl _ _)) ⟨HLB.out, c0, c1, c2⟩
          clear hf hl hq hp hw hb hs c0 c1 c2 c3
          go_upto_region 11 with fail
          refine wp_region_held_drew (S := fun w' => LAt w w' g7 w3.heap.size X ∧ w'.cell? ⟨w3.heap.size, j * 2, none⟩ = some (.int .u64 f) ∧ w'.cell? ⟨w3.heap.size, j * 2 + 1, none⟩ = some (.int .u64 l) ∧ w'.cell? ⟨w3.heap.size, k * 2, none⟩ = some (.int .u64 q)) (by kernel_rfl) HS0 (fun hH0 => ?_)
          refine takeH (i := 0) (d := 39) (v := ?_) rfl rfl (by kernel_rfl) (by kernel_rfl) (by kernel_rfl) (fun _ _ _ h => h) (Or.inl ⟨by rfl, ?y0⟩) hH0 ?_
          case y0 => intro w hSw; go_simp; try with_reducible rfl
          try simp only [Act.put, List.setIfInBounds_toArray, List.set_cons_zero, List.set_cons_succ]
          refine takeH (i := 1) (d := 40) (v := ?_) rfl rfl (by kernel_rfl) (by kernel_rfl) (by kernel_rfl) (fun _ _ _ h => h) (Or.inl ⟨by rfl, ?y1⟩) hH0 ?_
          case y1 => intro w hSw; go_simp; try with_reducible rfl
          try simp only [Act.put, List.setIfInBounds_toArray, List.set_cons_zero, List.set_cons_succ]
          refine takeH (i := 2) (d := 41) (v := ?_) rfl rfl (by kernel_rfl) (by kernel_rfl) (by kernel_rfl) (fun _ _ _ h => h) (Or.inl ⟨by rfl, ?y2⟩) hH0 ?_
          case y2 => intro w hSw; go_simp; try with_reducible rfl
          try simp only [Act.put, List.setIfInBounds_toArray, List.set_cons_zero, List.set_cons_succ]
          refine takeH (i := 3) (d := 42) (v := ?_) rfl rfl (by kernel_rfl) (by kernel_rfl) (by kernel_rfl) (fun _ _ _ h => h) (Or.inl ⟨by rfl, ?y3⟩) hH0 ?_
          case y3 => intro w hSw; go_simp; try with_reducible rfl
          try simp only [Act.put, List.setIfInBounds_toArray, List.set_cons_zero, List.set_cons_succ]
          refine takeH (i := 5) (d := 44) (v := ?_) rfl rfl (by kernel_rfl) (by kernel_rfl) (by kernel_rfl) (fun _ _ _ h => h) (Or.inl ⟨by rfl, ?y5⟩) hH0 ?_
          case y5 => intro w hSw; go_simp; try with_reducible rfl
          try simp only [Act.put, List.setIfInBounds_toArray, List.set_cons_zero, List.set_cons_succ]
          refine takeH (i := 6) (d := 45) (v := ?_) rfl rfl (by kernel_rfl) (by kernel_rfl) (by kernel_rfl) (fun _ _ _ h => h) (Or.inl ⟨by rfl, ?y6⟩) hH0 ?_
          case y6 => intro w hSw; go_simp; try with_reducible rfl
          try simp only [Act.put, List.setIfInBounds_toArray, List.set_cons_zero, List.set_cons_succ]
          refine takeH (i := 7) (d := 46) (v := ?_) rfl rfl (by kernel_rfl) (by kernel_rfl) (by kernel_rfl) (fun _ _ _ h => h) (Or.inl ⟨by rfl, ?y7⟩) hH0 ?_
          case y7 => intro w hSw; go_simp; try with_reducible rfl
          try simp only [Act.put, List.setIfInBounds_toArray, List.set_cons_zero, List.set_cons_succ]
          refine takeH (i := 8) (d := 47) (v := ?_) rfl rfl (by kernel_rfl) (by kernel_rfl) (by kernel_rfl) (fun _ _ _ h => h) (Or.inl ⟨by rfl, ?y8⟩) hH0 ?_
          case y8 => intro w hSw; go_simp; try with_reducible rfl
          try simp only [Act.put, List.setIfInBounds_toArray, List.set_cons_zero, List.set_cons_succ]
          refine takeH (i := 9) (d := 48) (v := ?_) rfl rfl (by kernel_rfl) (by kernel_rfl) (by kernel_rfl) (fun _ _ _ h => h) (Or.inl ⟨by rfl, ?y9⟩) hH0 ?_
          case y9 => intro w hSw; go_simp; try with_reducible rfl
          try simp only [Act.put, List.setIfInBounds_toArray, List.set_cons_zero, List.set_cons_succ]
          refine wpAnyH_ready (rs := [4]) (by kernel_rfl) (by simp) ?_
          refine AllReadyH.cons rfl (fun K hK => ?_) AllReadyH.nil
          go_simp
          refine (HN.out _).mono ?_
          rintro e w' ⟨rfl, hb⟩
          go_wp2_with fail
          refine hK.out _ _ (keepL hb hH0) (fun hH1 => ?_)
          clear hK K hb hH0
          try simp only [Act.put, List.setIfInBounds_toArray, List.set_cons_zero, List.set_cons_succ]
          refine takeH (i := 10) (d := 49) (v := ?_) rfl rfl (by kernel_rfl) (by kernel_rfl) (by kernel_rfl) (fun _ _ _ h => h) (Or.inl ⟨by rfl, ?y10⟩) hH1 ?_
          case y10 => intro w hSw; go_simp; try with_reducible rfl
          try simp only [Act.put, List.setIfInBounds_toArray, List.set_cons_zero, List.set_cons_succ]
          refine wpAnyH_done (by kernel_rfl) ?_ _
          go_wp2_with fail
          go_roundw
          case rel => exact ⟨j + 1, by omega, by go_num, Lib.hid hH1.1⟩
          case measure => simp [intOf]; omega
        · obtain rfl : j = k := by omega
          have hdj : decide ((j : Int) < (j : Int)) = false := by simp
          obtain ⟨c0, c1⟩ := row5_cells HLB.out.1 j hlt
          have hs := H5.out.2.1 j hlt
          have hb := H5.out.2.2 j (by omega)
          obtain ⟨f, hf⟩ : ∃ f, fL X j = f := ⟨_, rfl⟩
          obtain ⟨l, hl⟩ : ∃ l, lL X j = l := ⟨_, rfl⟩
          rw [hf, hl] at hb hs
          rw [hf] at c0
          rw [hl] at c1
          have hw : IntKind.u64.wrap (f + l) = f + l := by rw [IntKind.wrap_u64] <;> omega
          have HN := Lib.hid (fun W => end_sec f l W)
          rw [hw] at HN
          have hd : decide (n < f + l) = false := by simp; omega
          obtain ⟨p, hp⟩ : ∃ p, f + l = p := ⟨_, rfl⟩
          rw [hp] at HN hd
          have j0 : (0 : Int) ≤ (j : Int) := by omega
          have j5 : (j : Int) < 5 := by omega
          clear hf hl hp hw hb hs
          go_wp2_with fail
          refine (HN.out _).mono ?_
          rintro e w5 ⟨rfl, hb⟩
          have HL5 := Lib.hid (HLB.out.later hb)
          clear hb c0 c1
          go_wp2_with fail
          go_roundw
          case rel => exact ⟨j + 1, by omega, by go_num, HL5⟩
          case measure => simp [intOf]; omega
    · obtain rfl : k = 5 := by omega
      obtain ⟨q, hq⟩ : ∃ q, IntKind.u64.wrap (n + m) = q := ⟨_, rfl⟩
      have h7 := HLA.out.2.1
      by_cases hb : q < n
      · have hd : decide (q < n) = true := by simpa using hb
        clear hb h7
        go_wp2_with fail
        refine (HA.out _).mono ?_
        rintro e w8 ⟨rfl, hb⟩
        have u8 := HLA.out.2.2.trans (hb.mono HLA.out.2.2.size)
        clear hb
        go_wp2_with fail
        go_ret
        exact ⟨rfl, u8⟩
      · have hd : decide (q < n) = false := by simpa using hb
        have HLQ := Lib.hid (fun W => laid_any X q W HM.out)
        rw [HMore.out q (by omega)] at HLQ
        clear hb
        go_wp2_with (first | (refine load_head (by rfl) _ rfl _ rfl _ X (by assumption) ?_) | fail)
        refine (HLQ.out _).mono ?_
        rintro e w7 ⟨rfl, hb⟩
        have HU7 := Lib.hid (HLA.out.2.2.trans (hb.mono HLA.out.2.2.size))
        clear hb h7
        go_wp2_with fail
        refine (HA.out _).mono ?_
        rintro e w8 ⟨rfl, hb⟩
        have u8 := HU7.out.trans (hb.mono HU7.out.size)
        clear hb
        go_wp2_with fail
        go_ret
        exact ⟨rfl, u8⟩
theorem laid_law (X : Hd) (n m : Int) (w : World) (hm : MayH X) (n0 : 0 ≤ n) (_ : n ≤ 18446744073709551615) (_ : 0 ≤ m) (_ : m ≤ 18446744073709551615) : Calls Try.prog 7 #[.agg (cH X), .int .u64 n, .int .u64 m] w fun e w' => e = .returned (.bool true) ∧ Below w.heap.size w w' := by
  by_cases h : laidB X n = 0
  · exact laid_walk X n m w hm h n0
  · exact laid_out X n m w hm h
end Go.Proofs.Ytodjdeilaimjaaa
