/- The document's Cut, walked. -/
import Derived.Test.YtkhlkjhfgfjadaaYf
namespace Go.Proofs.Ytkhlkjhfgfjadaa
open Go.RowKit
set_option maxRecDepth 100000
set_option linter.unusedVariables false
set_option linter.unusedSimpArgs false
/-- What stands before the parts are gone through: the two results' blocks, the header's. -/
structure CutW (w W : World) (X : Hd) (b5 : Nat) : Prop where
  rh : HAt W w.heap.size 27 zeroH
  rp : W.heap[w.heap.size + 1]? = some (.cells #[.string noB, .string noB, .string noB, .string noB] 44 (0, 0))
  hd : HAt W b5 27 X
  lt : w.heap.size + 2 ≤ b5
  bel : Below w.heap.size w W
def Z24 : Array Value := #[.int .u64 0, .int .u64 0, .int .u64 0, .int .u64 0, .int .u64 0, .int .u64 0, .int .u64 0, .int .u64 0, .int .u64 0, .int .u64 0, .int .u64 0, .bool false, .int .u8 0, .int .u8 0, .int .u8 0, .int .i64 0, .int .i64 0, .int .i64 0, .int .i64 0, .int .i64 0, .int .i64 0, .int .i64 0, .int .i64 0, .int .i64 0]
def P4 : Array Value := #[.string { data := #[] }, .string { data := #[] }, .string { data := #[] }, .string { data := #[] }]
theorem z24_one : Z24.all (·.oneCell') = true := by simp [Z24, Value.oneCell']
theorem p4_one : P4.all (·.oneCell') = true := by simp [P4, Value.oneCell']
theorem z24_size : (Try.prog.info? 27).map (·.size) = some Z24.size := rhead_size
theorem p4_size : (Try.prog.info? 44).map (·.size) = some P4.size := str4_size
/-- The results' blocks made zero, whatever stands there. -/
structure ZeroW (w W : World) (b : Nat) : Prop where
  s1 : W.heap[b]? = some (.cells Z24 27 (0, 0))
  s2 : (W.setRow b Z24).heap[b + 1]? = some (.cells P4 44 (0, 0))
  e1 : HAt ((W.setRow b Z24).setRow (b + 1) P4) b 27 zeroH
  e2 : ((W.setRow b Z24).setRow (b + 1) P4).heap[b + 1]? = some (.cells P4 44 (0, 0))
  e3 : Below w.heap.size w ((W.setRow b Z24).setRow (b + 1) P4)
theorem zeroW_of {w W : World} (h1 : HAt W w.heap.size 27 zeroH) (h2 : W.heap[w.heap.size + 1]? = some (.cells P4 44 (0, 0))) (hb : Below w.heap.size w W) : ZeroW w W w.heap.size := by
  have hz : cH zeroH = Z24 := rfl
  have hp := put24 W w.heap.size 27 zeroH zeroH h1
  rw [hz] at hp
  have g2 : (W.setRow w.heap.size Z24).heap[w.heap.size + 1]? = some (.cells P4 44 (0, 0)) := (hp.2.2.2 _ (by omega)).trans h2
  refine ⟨h1, g2, (setRow_other _ _ _ _ (by omega)).trans hp.1, hrow g2 rfl, below_setRow (hp.2.2.1 _ _ (Nat.le_refl _) hb) (by omega) _⟩
/-- The row of parts, as it grows. -/
def PrAt (W : World) (b : Nat) (arr : Array Value) : Prop := W.heap[b]? = some (.cells arr 44 (0, 0))
/-- The results' blocks filled. -/
structure FullW (w W : World) (g : Nat) (Hc P : Array Value) : Prop where
  s1 : W.heap[w.heap.size]? = some (.cells Z24 27 (0, 0))
  p0 : W.heap[g]? = some (.cells P 44 (0, 0))
  s2 : (W.setRow w.heap.size Hc).heap[w.heap.size + 1]? = some (.cells P4 44 (0, 0))
  p1 : (W.setRow w.heap.size Hc).heap[g]? = some (.cells P 44 (0, 0))
  e1 : ((W.setRow w.heap.size Hc).setRow (w.heap.size + 1) P).heap[w.heap.size]? = some (.cells Hc 27 (0, 0))
  e2 : P.size = 4 → ((W.setRow w.heap.size Hc).setRow (w.heap.size + 1) P).heap[w.heap.size + 1]? = some (.cells P 44 (0, 0))
  e3 : Below w.heap.size w ((W.setRow w.heap.size Hc).setRow (w.heap.size + 1) P)
theorem fullW_of {w W : World} {X : Hd} {g : Nat} {P : Array Value} (h1 : HAt W w.heap.size 27 zeroH) (h2 : W.heap[w.heap.size + 1]? = some (.cells P4 44 (0, 0))) (hb : Below w.heap.size w W) (hg : w.heap.size + 1 < g)
    (hP : PrAt W g P) : FullW w W g (cH X) P := by
  have hz : cH zeroH = Z24 := rfl
  have hp := put24 W w.heap.size 27 zeroH X h1
  have g2 : (W.setRow w.heap.size (cH X)).heap[w.heap.size + 1]? = some (.cells P4 44 (0, 0)) := (hp.2.2.2 _ (by omega)).trans h2
  refine ⟨h1, hP, g2, (hp.2.2.2 _ (by omega)).trans hP, (setRow_other _ _ _ _ (by omega)).trans hp.1, fun hs => hrow g2 (by rw [hs]; rfl), below_setRow (hp.2.2.1 _ _ (Nat.le_refl _) hb) (by omega) _⟩
theorem CutW.later {w W W' : World} {X : Hd} {b5 B : Nat} (h : CutW w W X b5) (hb : Below B W W') (hB : b5 < B) : CutW w W' X b5 := by
  have hl := h.lt
  refine ⟨(hb.block _ (by omega)).trans h.rh, (hb.block _ (by omega)).trans h.rp, (hb.block _ hB).trans h.hd, hl, h.bel.trans (hb.mono (by omega))⟩
set_option maxHeartbeats 4000000 in
theorem rcut15_any (t : ByteArray) (w : World) (ht : t.size ≤ 1000000) : Calls Try.prog 17 #[.string t] w (CutEnd (cutN t) w) := by
  unfold CutEnd
  obtain ⟨C, hC⟩ : ∃ C, cutN t = C := ⟨_, rfl⟩
  have hbad := fun h => cut_bad (t := t) h
  have hout := fun X h ho => cut_out (t := t) (X := X) h ho
  have hok := fun X h ho => cut_ok (t := t) (X := X) h ho
  have hmy := fun X h => enc_dec (bl t) X (bl_byts t) h
  rw [hC] at hbad hout hok ⊢
  have HDC := Lib.hid (fun X => rdecode_any t X (by unfold maxLen; omega))
  obtain ⟨D, hD⟩ : ∃ D, decH (bl t) = D := ⟨_, rfl⟩
  rw [hD] at HDC hbad hout hok hmy
  obtain ⟨X, er⟩ := D
  dsimp only at HDC hbad hout hok
  have HBAD := Lib.hid hbad
  have HOUT := Lib.hid (fun h => hout X h)
  have HOKK := Lib.hid (fun h => hok X h)
  have HMY := Lib.hid (fun h => hmy X h)
  clear hbad hout hok hmy hD hC
  have HZ := Lib.hid (HAt.made w zeroH 27)
  generalize hk : cH X = Hc at *
  have HK := Lib.hid hk
  clear hk
  obtain ⟨R, hR⟩ : ∃ R : Value, (.tuple #[.agg (cH C.h), .agg (pArr C.p), .int .i64 C.err]) = R := ⟨_, rfl⟩
  rw [hR]
  have HR := Lib.hid hR
  clear hR
  go_enter Try.func17, Try.ntmps17
  go_wp2_with fail
  obtain ⟨W0, hW0⟩ : ∃ W0, (w.alloc (.cells #[.int .u64 0, .int .u64 0, .int .u64 0, .int .u64 0, .int .u64 0, .int .u64 0, .int .u64 0, .int .u64 0, .int .u64 0, .int .u64 0, .int .u64 0, .bool false, .int .u8 0, .int .u8 0, .int .u8 0, .int .i64 0, .int .i64 0, .int .i64 0, .int .i64 0, .int .i64 0, .int .i64 0, .int .i64 0, .int .i64 0, .int .i64 0] 27)).alloc (.cells #[.string { data := #[] }, .string { data := #[] }, .string { data := #[] }, .string { data := #[] }] 44) = W0 := ⟨_, rfl⟩
  have r0 : HAt W0 w.heap.size 27 zeroH := by
    rw [← hW0]
    exact (heap_alloc_old (by simp)).trans HZ.out
  have r1 : W0.heap[w.heap.size + 1]? = some (.cells #[.string noB, .string noB, .string noB, .string noB] 44 (0, 0)) := by
    have := heap_new15 (w.alloc (.cells #[.int .u64 0, .int .u64 0, .int .u64 0, .int .u64 0, .int .u64 0, .int .u64 0, .int .u64 0, .int .u64 0, .int .u64 0, .int .u64 0, .int .u64 0, .bool false, .int .u8 0, .int .u8 0, .int .u8 0, .int .i64 0, .int .i64 0, .int .i64 0, .int .i64 0, .int .i64 0, .int .i64 0, .int .i64 0, .int .i64 0, .int .i64 0] 27)) (.cells #[.string { data := #[] }, .string { data := #[] }, .string { data := #[] }, .string { data := #[] }] 44)
    rw [World.size_alloc] at this
    rw [← hW0]
    exact this
  have rb : Below w.heap.size w W0 := by rw [← hW0]; exact ((Below.refl _ w).alloc (Nat.le_refl _) _).alloc (by simp) _
  have rz : w.heap.size + 2 ≤ W0.heap.size := by rw [← hW0]; simp
  rw [hW0]
  clear hW0
  refine (HDC.out _).mono ?_
  rintro e w1 ⟨rfl, hb1⟩
  have hz1 : HAt (w1.alloc (.cells (cH zeroH) 27)) w1.heap.size 27 zeroH := HAt.made w1 zeroH _
  have hp := put24 (w1.alloc (.cells (cH zeroH) 27)) w1.heap.size 27 zeroH X hz1
  have hba : Below w1.heap.size w1 (w1.alloc (.cells (cH zeroH) 27)) := (Below.refl _ _).alloc (Nat.le_refl _) _
  have hsz1 := hb1.size
  have HW : Hid (CutW w ((w1.alloc (.cells (cH zeroH) 27)).setRow w1.heap.size (cH X)) X w1.heap.size) := by
    have hb2 := hb1.trans (hba.mono hb1.size)
    refine Lib.hid ⟨hp.keep (r0.later hb2) (by omega), ?_, hp.1, by omega, hp.2.2.1 _ _ (by omega) (rb.trans (hb2.mono rb.size))⟩
    refine (hp.2.2.2 _ (by omega)).trans ((hb2.block _ (by omega)).trans r1)
  have hz2 : (w1.alloc (.cells #[.int .u64 0, .int .u64 0, .int .u64 0, .int .u64 0, .int .u64 0, .int .u64 0, .int .u64 0, .int .u64 0, .int .u64 0, .int .u64 0, .int .u64 0, .bool false, .int .u8 0, .int .u8 0, .int .u8 0, .int .i64 0, .int .i64 0, .int .i64 0, .int .i64 0, .int .i64 0, .int .i64 0, .int .i64 0, .int .i64 0, .int .i64 0] 27)).heap[w1.heap.size]? = some (.cells #[.int .u64 0, .int .u64 0, .int .u64 0, .int .u64 0, .int .u64 0, .int .u64 0, .int .u64 0, .int .u64 0, .int .u64 0, .int .u64 0, .int .u64 0, .bool false, .int .u8 0, .int .u8 0, .int .u8 0, .int .i64 0, .int .i64 0, .int .i64 0, .int .i64 0, .int .i64 0, .int .i64 0, .int .i64 0, .int .i64 0, .int .i64 0] 27 (0, 0)) := hz1
  rw [HK.out] at HW
  have hsz : (Try.prog.info? 27).map (·.size) = some Hc.size := by rw [← HK.out]; exact rhead_size
  have h24 : 24 = Hc.size := by rw [← HK.out]; rfl
  have hone : Hc.all (·.oneCell') = true := by rw [← HK.out]; exact cH_one X
  clear hz1 hp hba hb1 r0 r1 rb rz
  go_upto_region 2 with (first | (refine wpList_store_row rfl 27 _ _ rfl w1.heap.size Hc rfl rfl 27 _ hz2 hsz h24 hone ?_) | fail)
  have hzz : cH zeroH = Z24 := rfl
  rw [hzz] at HW
  unfold Z24 at HW
  generalize hW2 : (w1.alloc (.cells #[.int .u64 0, .int .u64 0, .int .u64 0, .int .u64 0, .int .u64 0, .int .u64 0, .int .u64 0, .int .u64 0, .int .u64 0, .int .u64 0, .int .u64 0, .bool false, .int .u8 0, .int .u8 0, .int .u8 0, .int .i64 0, .int .i64 0, .int .i64 0, .int .i64 0, .int .i64 0, .int .i64 0, .int .i64 0, .int .i64 0, .int .i64 0] 27)).setRow w1.heap.size Hc = W2 at *
  clear hW2 hz2 h24 hone
  have HZW : Hid (ZeroW w W2 w.heap.size) := Lib.hid (zeroW_of HW.out.rh HW.out.rp HW.out.bel)
  by_cases he : er = 0
  · subst he
    obtain ⟨hmX, hcX, _⟩ := HMY.out rfl
    have HSM := Lib.hid (fun k => sums_ok X k hmX hcX)
    have c0 := cell_blk HW.out.hd 0
    have c1 := cell_blk HW.out.hd 1
    have c2 := cell_blk HW.out.hd 2
    have c3 := cell_blk HW.out.hd 3
    have c4 := cell_blk HW.out.hd 4
    have c5 := cell_blk HW.out.hd 5
    have c6 := cell_blk HW.out.hd 6
    have c7 := cell_blk HW.out.hd 7
    simp [cH] at c0 c1 c2 c3 c4 c5 c6 c7
    go_wp2_with fail
    obtain ⟨W3, hW3⟩ : ∃ W3, (W2.alloc (.cells #[.int .u64 X.rf, .int .u64 X.rl, .int .u64 X.mf, .int .u64 X.ml, .int .u64 X.lf, .int .u64 X.ll, .int .u64 X.df, .int .u64 X.dl] 28)).alloc (.cells #[.string { data := #[] }, .string { data := #[] }, .string { data := #[] }, .string { data := #[] }] 44) = W3 := ⟨_, rfl⟩
    have hlt5 : w1.heap.size < W2.heap.size := HW.out.hd.lt
    have g7 : W3.heap[W2.heap.size]? = some (.cells (rowK X) 28 (0, 0)) := by
      rw [← hW3]
      exact (heap_alloc_old (by simp)).trans (heap_new15 W2 _)
    have g8 : PrAt W3 (W2.heap.size + 1) (prA t X 0) := by
      have := heap_new15 (W2.alloc (.cells #[.int .u64 X.rf, .int .u64 X.rl, .int .u64 X.mf, .int .u64 X.ml, .int .u64 X.lf, .int .u64 X.ll, .int .u64 X.df, .int .u64 X.dl] 28)) (.cells #[.string { data := #[] }, .string { data := #[] }, .string { data := #[] }, .string { data := #[] }] 44)
      rw [World.size_alloc] at this
      rw [← hW3]
      exact this
    have hb3 : Below W2.heap.size W2 W3 := by rw [← hW3]; exact ((Below.refl _ W2).alloc (Nat.le_refl _) _).alloc (by simp) _
    have HW3 := Lib.hid (HW.out.later hb3 hlt5)
    have G7 := Lib.hid g7
    have G8 := Lib.hid g8
    rw [hW3]
    clear hW3 g7 g8 hb3 c0 c1 c2 c3 c4 c5 c6 c7 HZW HW
    go_loopw [9] (fun i wr => ∃ k : Nat, k ≤ 4 ∧ i = .int .i64 k ∧ Hid (PrAt wr (W2.heap.size + 1) (prA t X k)) ∧ Hid (∀ j, j < k → ¬ (t.size : Int) < frK X j + lnK X j) ∧ Hid (Below (W2.heap.size + 1) W3 wr)) (fun i _ => 4 - (intOf i).toNat)
    case atStart => exact ⟨0, by omega, rfl, G8, Lib.hid (fun j h => by omega), Lib.hid (Below.refl _ _)⟩
    case round =>
      obtain ⟨k, hk, rfl, HPR, HAL, HBW⟩ := hrel
      have HWr := Lib.hid (HW3.out.later HBW.out (by omega))
      by_cases hk4 : k < 4
      · have hki : (k : Int) < 4 := by omega
        obtain ⟨r0, r1⟩ := row_cells ((HBW.out.block _ (by omega)).trans G7.out) k hk4
        have hpr := HPR.out
        unfold PrAt at hpr
        have p0 : wr.cell? ⟨W2.heap.size + 1, k, none⟩ = some (.string noB) := by simp [World.cell?, hpr, prA_at t X k hk4]
        have pf : ∀ j, wr.frozen? ⟨W2.heap.size + 1, j, none⟩ = false := fun j => by simp [World.frozen?, hpr]
        obtain ⟨m1, m2, m3⟩ := HSM.out k
        have hw4 : IntKind.u64.wrap (frK X k + lnK X k) = frK X k + lnK X k := by rw [IntKind.wrap_u64]; omega
        have hw5 : IntKind.u64.wrap (t.size : Int) = (t.size : Int) := by rw [IntKind.wrap_u64]; omega
        have HBT : Hid (bitK t X k = t.extract (frK X k).toNat (frK X k + lnK X k).toNat) := Lib.hid (by unfold bitK bitN; rw [show (frK X k + lnK X k).toNat = (frK X k).toNat + (lnK X k).toNat by omega])
        by_cases ho : (t.size : Int) < frK X k + lnK X k
        · have HO := Lib.hid (HOUT.out (by simp) (out_of hk4 ho))
          generalize frK X k = fr at *
          generalize lnK X k = ln at *
          have HZW : Hid (∀ n, ZeroW w (wr.drewN n) w.heap.size) := Lib.hid (fun n => by
            have h := HWr.out.later (B := wr.heap.size) (W' := wr.drewN n) ⟨rfl, rfl, rfl, Nat.le_refl _, fun _ _ => rfl⟩ HWr.out.hd.lt
            exact zeroW_of h.rh h.rp h.bel)
          have z1 := fun n => (HZW.out n).s1
          have z2 := fun n => (HZW.out n).s2
          have HRE : Hid (R = .tuple #[.agg (cH zeroH), .agg P4, .int .i64 8]) := Lib.hid (by rw [← HR.out, HO.out]; rfl)
          clear hpr p0 pf
          go_wp2_with fail
          go_quiet (fail)
          go_wp2_with (first | (refine wpList_store_row rfl 27 _ _ rfl w.heap.size Z24 rfl rfl 27 Z24 (z1 _) z24_size rfl z24_one ?_) | (refine wpList_store_row rfl 44 _ _ rfl (w.heap.size + 1) P4 rfl rfl 44 P4 (z2 _) p4_size rfl p4_one ?_) | fail)
          refine bodyPost_ret (results_rr rfl _ _ w.heap.size (w.heap.size + 1) (cH zeroH) P4 (.int .i64 8) rfl rfl rfl (load_hd (HZW.out _).e1) (load_pt (HZW.out _).e2)) rfl ⟨by rw [HRE.out], (HZW.out _).e3⟩
        · have HAL2 : Hid (∀ j, j < k + 1 → ¬ (t.size : Int) < frK X j + lnK X j) := Lib.hid (fun j hj => by
            rcases Nat.lt_or_ge j k with h | h
            · exact HAL.out j h
            · obtain rfl : j = k := by omega
              exact ho)
          have hs2 : frK X k ≤ frK X k + lnK X k := by omega
          have hs3 : frK X k + lnK X k ≤ (t.size : Int) := by omega
          generalize frK X k = fr at *
          generalize lnK X k = ln at *
          clear hpr
          go_wp2_with fail
          go_quiet (fail)
          go_wp2_with fail
          go_region
          all_goals
            go_wp2_with fail
            go_roundw
            case rel =>
              refine ⟨k + 1, by omega, by simp, Lib.hid ?_, Lib.hid (fun j hj => by have := HAL2.out j hj; omega), Lib.hid ?_⟩
              · have hpr := HPR.out
                unfold PrAt at hpr
                have h := hset (w := wr.drewN (nq + 1)) hpr k (.string (bitK t X k))
                rw [prA_set t X k hk4, HBT.out] at h
                exact h
              · have hbw : Below (W2.heap.size + 1) W3 (wr.drewN (nq + 1)) := HBW.out.trans ⟨rfl, rfl, rfl, Nat.le_refl _, fun _ _ => rfl⟩
                exact hbw.setCell (by simp) _
            case measure => simp [intOf]; omega
      · obtain rfl : k = 4 := by omega
        have hB := HWr.out.later (B := wr.heap.size) (W' := wr.drew) ⟨rfl, rfl, rfl, Nat.le_refl _, fun _ _ => rfl⟩ HWr.out.hd.lt
        have hPP : PrAt wr.drew (W2.heap.size + 1) (prA t X 4) := HPR.out
        have HRE : Hid (R = .tuple #[.agg Hc, .agg (prA t X 4), .int .i64 0]) := Lib.hid (by
          rw [← HR.out, HOKK.out (by simp) (not_out (fun j hj => by have := HAL.out j hj; omega)), ← HK.out]
          rfl)
        have hlt2 := hB.lt
        have HFU := Lib.hid (fullW_of (X := X) hB.rh hB.rp hB.bel (by omega) hPP)
        have hX0 : wr.drew.heap[w1.heap.size]? = some (.cells (cH X) 27 (0, 0)) := hB.hd
        have ho4 : (prA t X 4).all (·.oneCell') = true := by simp [prA, Value.oneCell']
        have hs4 : (Try.prog.info? 44).map (·.size) = some (prA t X 4).size := str4_size
        have h44 : 4 = (prA t X 4).size := rfl
        have hoX : (cH X).all (·.oneCell') = true := cH_one X
        have h24 : 24 = (cH X).size := rfl
        rw [HK.out] at HFU hX0 hoX h24
        generalize prA t X 4 = P at *
        have H44 := Lib.hid h44
        have H24 := Lib.hid h24
        clear h44 h24
        clear HPR HAL HWr hB HW3 G7 G8 HBW
        go_wp2_with fail
        refine wp_region_any (by kernel_rfl) ?_
        change wpAny _ _ _ _ _ _ _ (World.drew _)
        refine wpAny_ready (rs := [0, 1]) (by kernel_rfl) (by simp) ?_
        refine AllReady.cons rfl (fun K hK => ?_) (AllReady.cons rfl (fun K hK => ?_) AllReady.nil)
        ·
          rw [if_pos (by rfl)]
          refine wp_load_row 27 _ rfl w1.heap.size rfl 27 Hc (0, 0) _ hX0 Try.underlying27 rfl hsz (hK _ _ ?_)
          clear hK K
          try simp only [Act.put, List.setIfInBounds_toArray, List.set_cons_zero, List.set_cons_succ]
          refine wpAny_ready (rs := [1, 2]) (by kernel_rfl) (by simp) ?_
          refine AllReady.cons rfl (fun K hK => ?_) (AllReady.cons rfl (fun K hK => ?_) AllReady.nil)
          ·
            rw [if_pos (by rfl)]
            refine wp_load_row 44 _ rfl (W2.heap.size + 1) rfl 44 P (0, 0) _ HFU.out.p0 Try.underlying44 rfl hs4 (hK _ _ ?_)
            clear hK K
            try simp only [Act.put, List.setIfInBounds_toArray, List.set_cons_zero, List.set_cons_succ]
            refine wpAny_ready (rs := [2]) (by kernel_rfl) (by simp) ?_
            refine AllReady.cons rfl (fun K hK => ?_) AllReady.nil
            rw [if_pos (by rfl)]
            refine wp_store_row 27 _ _ rfl w.heap.size Hc rfl rfl 27 Z24 HFU.out.s1 hsz H24.out hoX (hK _ _ ?_)
            clear hK K
            try simp only [Act.put, List.setIfInBounds_toArray, List.set_cons_zero, List.set_cons_succ]
            refine wpAny_ready (rs := [3]) (by kernel_rfl) (by simp) ?_
            refine AllReady.cons rfl (fun K hK => ?_) AllReady.nil
            rw [if_pos (by rfl)]
            refine wp_store_row 44 _ _ rfl (w.heap.size + 1) P rfl rfl 44 P4 HFU.out.s2 hs4 H44.out ho4 (hK _ _ ?_)
            clear hK K
            try simp only [Act.put, List.setIfInBounds_toArray, List.set_cons_zero, List.set_cons_succ]
            refine wpAny_ready (rs := [4]) (by kernel_rfl) (by simp) ?_
            refine AllReady.cons rfl (fun K hK => ?_) AllReady.nil
            go_simp
            refine hK _ _ ?_
            clear hK K
            try simp only [Act.put, List.setIfInBounds_toArray, List.set_cons_zero, List.set_cons_succ]
            refine wpAny_done (by kernel_rfl) ?_ _
            go_wp2_with fail
            refine bodyPost_ret (results_rr rfl _ _ w.heap.size (w.heap.size + 1) Hc P (.int .i64 0) rfl rfl rfl (run_loadVar_row _ _ _ _ Hc (0, 0) _ HFU.out.e1 Try.underlying27 rfl hsz) (run_loadVar_row _ _ _ _ P (0, 0) _ (HFU.out.e2 H44.out.symm) Try.underlying44 rfl hs4)) rfl ⟨by rw [HRE.out], HFU.out.e3⟩
          ·
            rw [if_pos (by rfl)]
            refine wp_store_row 27 _ _ rfl w.heap.size Hc rfl rfl 27 Z24 HFU.out.s1 hsz H24.out hoX (hK _ _ ?_)
            clear hK K
            try simp only [Act.put, List.setIfInBounds_toArray, List.set_cons_zero, List.set_cons_succ]
            refine wpAny_ready (rs := [1]) (by kernel_rfl) (by simp) ?_
            refine AllReady.cons rfl (fun K hK => ?_) AllReady.nil
            rw [if_pos (by rfl)]
            refine wp_load_row 44 _ rfl (W2.heap.size + 1) rfl 44 P (0, 0) _ HFU.out.p1 Try.underlying44 rfl hs4 (hK _ _ ?_)
            clear hK K
            try simp only [Act.put, List.setIfInBounds_toArray, List.set_cons_zero, List.set_cons_succ]
            refine wpAny_ready (rs := [3]) (by kernel_rfl) (by simp) ?_
            refine AllReady.cons rfl (fun K hK => ?_) AllReady.nil
            rw [if_pos (by rfl)]
            refine wp_store_row 44 _ _ rfl (w.heap.size + 1) P rfl rfl 44 P4 HFU.out.s2 hs4 H44.out ho4 (hK _ _ ?_)
            clear hK K
            try simp only [Act.put, List.setIfInBounds_toArray, List.set_cons_zero, List.set_cons_succ]
            refine wpAny_ready (rs := [4]) (by kernel_rfl) (by simp) ?_
            refine AllReady.cons rfl (fun K hK => ?_) AllReady.nil
            go_simp
            refine hK _ _ ?_
            clear hK K
            try simp only [Act.put, List.setIfInBounds_toArray, List.set_cons_zero, List.set_cons_succ]
            refine wpAny_done (by kernel_rfl) ?_ _
            go_wp2_with fail
            refine bodyPost_ret (results_rr rfl _ _ w.heap.size (w.heap.size + 1) Hc P (.int .i64 0) rfl rfl rfl (run_loadVar_row _ _ _ _ Hc (0, 0) _ HFU.out.e1 Try.underlying27 rfl hsz) (run_loadVar_row _ _ _ _ P (0, 0) _ (HFU.out.e2 H44.out.symm) Try.underlying44 rfl hs4)) rfl ⟨by rw [HRE.out], HFU.out.e3⟩
        ·
          rw [if_pos (by rfl)]
          refine wp_load_row 44 _ rfl (W2.heap.size + 1) rfl 44 P (0, 0) _ HFU.out.p0 Try.underlying44 rfl hs4 (hK _ _ ?_)
          clear hK K
          try simp only [Act.put, List.setIfInBounds_toArray, List.set_cons_zero, List.set_cons_succ]
          refine wpAny_ready (rs := [0]) (by kernel_rfl) (by simp) ?_
          refine AllReady.cons rfl (fun K hK => ?_) AllReady.nil
          rw [if_pos (by rfl)]
          refine wp_load_row 27 _ rfl w1.heap.size rfl 27 Hc (0, 0) _ hX0 Try.underlying27 rfl hsz (hK _ _ ?_)
          clear hK K
          try simp only [Act.put, List.setIfInBounds_toArray, List.set_cons_zero, List.set_cons_succ]
          refine wpAny_ready (rs := [2]) (by kernel_rfl) (by simp) ?_
          refine AllReady.cons rfl (fun K hK => ?_) AllReady.nil
          rw [if_pos (by rfl)]
          refine wp_store_row 27 _ _ rfl w.heap.size Hc rfl rfl 27 Z24 HFU.out.s1 hsz H24.out hoX (hK _ _ ?_)
          clear hK K
          try simp only [Act.put, List.setIfInBounds_toArray, List.set_cons_zero, List.set_cons_succ]
          refine wpAny_ready (rs := [3]) (by kernel_rfl) (by simp) ?_
          refine AllReady.cons rfl (fun K hK => ?_) AllReady.nil
          rw [if_pos (by rfl)]
          refine wp_store_row 44 _ _ rfl (w.heap.size + 1) P rfl rfl 44 P4 HFU.out.s2 hs4 H44.out ho4 (hK _ _ ?_)
          clear hK K
          try simp only [Act.put, List.setIfInBounds_toArray, List.set_cons_zero, List.set_cons_succ]
          refine wpAny_ready (rs := [4]) (by kernel_rfl) (by simp) ?_
          refine AllReady.cons rfl (fun K hK => ?_) AllReady.nil
          go_simp
          refine hK _ _ ?_
          clear hK K
          try simp only [Act.put, List.setIfInBounds_toArray, List.set_cons_zero, List.set_cons_succ]
          refine wpAny_done (by kernel_rfl) ?_ _
          go_wp2_with fail
          refine bodyPost_ret (results_rr rfl _ _ w.heap.size (w.heap.size + 1) Hc P (.int .i64 0) rfl rfl rfl (run_loadVar_row _ _ _ _ Hc (0, 0) _ HFU.out.e1 Try.underlying27 rfl hsz) (run_loadVar_row _ _ _ _ P (0, 0) _ (HFU.out.e2 H44.out.symm) Try.underlying44 rfl hs4)) rfl ⟨by rw [HRE.out], HFU.out.e3⟩
  · have hC := HBAD.out he
    have hen : (er != 0) = true := by simpa using he
    have HRE : Hid (R = .tuple #[.agg (cH zeroH), .agg P4, .int .i64 er]) := Lib.hid (by rw [← HR.out, hC]; rfl)
    have z1 := HZW.out.s1
    have z2 := HZW.out.s2
    clear he hC
    go_wp2_with (first | (refine wpList_store_row rfl 27 _ _ rfl w.heap.size Z24 rfl rfl 27 Z24 z1 z24_size rfl z24_one ?_) | (refine wpList_store_row rfl 44 _ _ rfl (w.heap.size + 1) P4 rfl rfl 44 P4 z2 p4_size rfl p4_one ?_) | fail)
    refine bodyPost_ret (results_rr rfl _ _ w.heap.size (w.heap.size + 1) (cH zeroH) P4 (.int .i64 er) rfl rfl rfl (load_hd HZW.out.e1) (load_pt HZW.out.e2)) rfl ⟨by rw [HRE.out], HZW.out.e3⟩
end Go.Proofs.Ytkhlkjhfgfjadaa
