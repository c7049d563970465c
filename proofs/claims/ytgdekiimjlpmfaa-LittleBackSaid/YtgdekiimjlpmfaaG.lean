/- The walk of LittleBack where there are from 1 to 40 numbers and as many sizes at least: it returns true, and what was there stays. -/
import Derived.Test.YtgdekiimjlpmfaaEnc
import Derived.Deep.RegionHeld3
import Derived.Deep.DeepCutAuto
import Derived.Deep.LoopGhost
namespace Go.Proofs.Ytgdekiimjlpmfaa
open Go.RowKit
set_option linter.unusedVariables false
set_option maxRecDepth 100000 in
set_option maxHeartbeats 3200000 in
theorem back_walk (lb lo sb so lcap scap m slen : Nat) (l z : List Int) (w : World) (hlm : l.length = m) (h1 : 1 ≤ m) (h40 : m ≤ 40) (hs : m ≤ slen)
    (hlb : lb < w.heap.size) (hsb : sb < w.heap.size) (hlc : ∀ i, i < m → w.cell? ⟨lb, lo + i, none⟩ = some (.int .u64 (l.getD i 0))) (hsc : ∀ i, i < m → w.cell? ⟨sb, so + i, none⟩ = some (.int .u8 (z.getD i 0)))
    (hlw : ∀ i, i < m → 0 ≤ l.getD i 0 ∧ l.getD i 0 ≤ 18446744073709551615) (hsw : ∀ i, i < m → 0 ≤ z.getD i 0 ∧ z.getD i 0 ≤ 255) :
    Calls Try.prog 6 #[.slice (some ⟨lb, lo, none⟩) m lcap, .slice (some ⟨sb, so, none⟩) slen scap] w fun e w' => e = .returned (.bool true) ∧ Below w.heap.size w w' := by
  have hd1 : ((m : Int) == 0) = false := by simp; omega
  have hd2 : decide (40 < (m : Int)) = false := by simp; omega
  have hd3 : decide (slen < m) = false := by simp; omega
  have HLC := Lib.hid hlc; have HSC := Lib.hid hsc; have HLW := Lib.hid hlw; have HSW := Lib.hid hsw; have HLM := Lib.hid hlm
  clear hlc hsc hlw hsw hlm
  go_enter Try.func6, Try.ntmps6
  go_wp2_with fail
  go_loopw [5, 6] (fun v i wr => ∃ k : Nat, k ≤ m ∧ i = .int .i64 k ∧ BytesAt wr v (enc z l k) ∧ Below w.heap.size w wr) (fun _ i _ => m - (intOf i).toNat)
  case atStart => exact ⟨0, Nat.zero_le _, rfl, ⟨none, 0, rfl, Nat.le_refl _, by simp, fun h => by simp [enc] at h⟩, Below.refl _ _⟩
  case round =>
    obtain ⟨k, hk, rfl, hbv, hbw⟩ := hrel
    have HBV := Lib.hid hbv; clear hbv
    by_cases hlt : k < m
    · obtain ⟨x, hx⟩ : ∃ x, l.getD k 0 = x := ⟨_, rfl⟩
      obtain ⟨y, hy⟩ : ∃ y, z.getD k 0 = y := ⟨_, rfl⟩
      have cl := (hbw.cell (p := ⟨lb, lo + k, none⟩) hlb).trans (HLC.out k hlt)
      have cs := (hbw.cell (p := ⟨sb, so + k, none⟩) hsb).trans (HSC.out k hlt)
      have bx := HLW.out k hlt
      have bY := HSW.out k hlt
      rw [hx] at cl bx
      rw [hy] at cs bY
      obtain ⟨x0, x1⟩ := bx
      obtain ⟨y0, y1⟩ := bY
      have HX := Lib.hid hx; have HY := Lib.hid hy; clear hx hy
      have hk0 : (0 : Int) ≤ (k : Int) := Int.natCast_nonneg _
      have hk1 : (k : Int) < (m : Int) := by omega
      have hk2 : (k : Int) < (slen : Int) := by omega
      have HN : Hid (IntKind.i64.wrap (1 + IntKind.i64.wrap (y.tmod 8)) = (nk z k : Int)) := by
        apply Lib.hid
        rw [Int.tmod_eq_emod_of_nonneg y0, IntWalk.i64_in (y % 8) (by omega), IntWalk.i64_in _ (by omega)]
        unfold nk
        rw [HY.out]
        omega
      have HE : Hid ((enc z l k).length ≤ 1000000) := Lib.hid (by rw [enc_len]; have := pos_bd z k; omega)
      go_wp2_with fail
      go_region_held3 (fun w' => w'.cell? ⟨lb, lo + k, none⟩ = some (.int .u64 x) ∧ w'.cell? ⟨sb, so + k, none⟩ = some (.int .u8 y)) (first | exact ⟨cell_later hb2 (by assumption), cell_later hb2 (by assumption)⟩ | exact ⟨cl, cs⟩) ((go_at_call 9; refine (put_any u5 (enc z l k) _ x (nk z k) _ (HBV.out.below ((Below.refl _ _).drew)) HE.out (.inl ⟨HN.out, (nk_bd z k).1, (nk_bd z k).2⟩) x0 x1).mono ?_; rintro e w2 ⟨v2, rfl, ho2, hb2⟩))
      go_wp2_with fail
      go_split_ands
      have hE : BytesAt w2 v2 (enc z l (k + 1)) := by
        have := ho2.bytesAt
        rw [← HX.out] at this
        exact this
      have hB : Below w.heap.size w w2 := (hbw.drew).trans (hb2.mono hbw.size)
      clear ho2 hb2 hbw HX HY
      go_roundw
      case rel => exact ⟨k + 1, by omega, by go_num, hE, hB⟩
      case measure => simp [intOf]; omega
    · obtain rfl : k = m := by omega
      clear hlt hk
      obtain ⟨a, cap, rfl, hcap, hcm, hbc⟩ := HBV.out
      have HC := Lib.hid hbc; clear hbc
      rw [enc_len] at hcap
      have HPL : Hid (1 ≤ pos z k ∧ pos z k ≤ 320) := Lib.hid (by have := pos_bd z k; omega)
      have HBW : Hid (BytesAt wr (.slice a (pos z k) cap) (enc z l k)) := Lib.hid (by have := HBV.out; rwa [enc_len] at this)
      clear HBV HC
      rw [enc_len]
      obtain ⟨T, hT⟩ : ∃ T, str (enc z l k) = T := ⟨_, rfl⟩
      have hrun := run_str wr _ _ HBW.out
      rw [hT] at hrun
      have HT := Lib.hid hT; clear hT
      have hsz := hbw.size
      go_wp2_with fail
      generalize wr = wa at *
      go_loopw [8] (fun i w3 => ∃ j : Nat, j ≤ k ∧ i = .int .i64 j ∧ w3.cell? ⟨wa.heap.size, 0, none⟩ = some (.string T) ∧ w3.cell? ⟨wa.heap.size, 1, none⟩ = some (.int .i64 (pos z j)) ∧ w3.cell? ⟨wa.heap.size, 2, none⟩ = some (.int .i64 0) ∧ (∀ o, w3.frozen? ⟨wa.heap.size, o, none⟩ = false) ∧ Below wa.heap.size wa w3) (fun i _ => k - (intOf i).toNat)
      case atStart => exact ⟨0, Nat.zero_le _, rfl, by simp [go_sem], by simp [go_sem, pos], by simp [go_sem], fun o => by simp [go_sem], (Below.refl _ _).alloc (Nat.le_refl _) _⟩
      case round =>
        obtain ⟨j, hj, rfl, s0, s1, s2, sf, hbs⟩ := hrel
        by_cases hlt : j < k
        · obtain ⟨x, hx⟩ : ∃ x, l.getD j 0 = x := ⟨_, rfl⟩
          obtain ⟨y, hy⟩ : ∃ y, z.getD j 0 = y := ⟨_, rfl⟩
          have cl := (hbs.cell (p := ⟨lb, lo + j, none⟩) (by show lb < wa.heap.size; omega)).trans ((hbw.cell (p := ⟨lb, lo + j, none⟩) hlb).trans (HLC.out j hlt))
          have cs := (hbs.cell (p := ⟨sb, so + j, none⟩) (by show sb < wa.heap.size; omega)).trans ((hbw.cell (p := ⟨sb, so + j, none⟩) hsb).trans (HSC.out j hlt))
          have bx := HLW.out j hlt
          have bY := HSW.out j hlt
          rw [hx] at cl bx
          rw [hy] at cs bY
          obtain ⟨x0, x1⟩ := bx
          obtain ⟨y0, y1⟩ := bY
          have HX := Lib.hid hx; have HY := Lib.hid hy; clear hx hy
          have hk0 : (0 : Int) ≤ (j : Int) := Int.natCast_nonneg _
          have hk1 : (j : Int) < (k : Int) := by omega
          have hk2 : (j : Int) < (slen : Int) := by omega
          have HNUM := Lib.hid (fun W => num_at z l j k x y hlt h40 HX.out HY.out x0 y0 W)
          have hcm := cmp_ne x (1 + y % 8) (by omega) (by omega)
          have HPOS : Hid ((pos z (j + 1) : Int) = (pos z j : Int) + (1 + y % 8)) := Lib.hid (by have := nk_of z j y HY.out y0; show ((pos z j + nk z j : Nat) : Int) = _; omega)
          rw [HT.out] at HNUM
          have hpb : 0 ≤ (pos z j : Int) ∧ (pos z j : Int) ≤ 320 := by have := pos_bd z j; omega
          obtain ⟨hp0, hp1⟩ := hpb
          have hza := hbs.size
          go_wp2_with fail
          refine (HNUM.out _).mono ?_
          rintro e w2 ⟨rfl, hb2⟩
          have t0 := cell_later hb2 s0
          have t1 := cell_later hb2 s1
          have t2 := cell_later hb2 s2
          have tl := cell_later hb2 cl
          have tf : ∀ o, w2.frozen? ⟨wa.heap.size, o, none⟩ = false := fun o => (hb2.frozen (p := ⟨wa.heap.size, o, none⟩) (show wa.heap.size < wr.heap.size from World.block_lt_of_cell? _ _ s0)).trans (sf o)
          have hbs2 := hbs.trans (hb2.mono hza)
          have hz2 : wa.heap.size < w2.heap.size := World.block_lt_of_cell? _ _ t0
          have hl2 : lb < w2.heap.size := World.block_lt_of_cell? _ _ tl
          clear hb2 hbs s0 s1 s2 cl cs sf HNUM
          go_wp2_with fail
          go_roundw
          case rel =>
            refine ⟨j + 1, by omega, by go_num, by simp [go_sem, t0, hz2], ?_, by simp [go_sem, t2, hz2], fun o => by simp [go_sem, hz2, tf], ?_⟩
            · rw [HPOS.out]; simp [go_sem, t1, hz2]
            · go_grown
          case measure => simp [intOf]; omega
        · obtain rfl : j = k := by omega
          have hsT : T.size = pos z j := by rw [← HT.out, str_size, enc_len]
          have HST := Lib.hid hsT; clear hsT
          have hend : endV T (pos z j) 0 = 0 := by
            have e1 : placedV T (pos z j) = 0 := if_pos ⟨by omega, by rw [HST.out]; exact Int.le_refl _⟩
            have e2 : spentV T (pos z j) = 0 := if_neg (by rw [HST.out]; omega)
            simp [endV, firstOf, e1, e2]
          have hrest : ∀ W, Calls Try.prog 17 #[.agg #[.string T, .int .i64 (pos z j), .int .i64 0]] W fun e w' => e = .returned (.string { data := #[] }) ∧ Below W.heap.size W w' := by
            intro W
            have hml : T.size ≤ maxLen := by rw [HST.out]; have := HPL.out; unfold maxLen; omega
            have e0 : restBad T (pos z j) 0 = 0 := by
              have e1 : placedV T (pos z j) = 0 := if_pos ⟨by omega, by rw [HST.out]; exact Int.le_refl _⟩
              simp [restBad, firstOf, e1]
            have key := rest_yes T (pos z j) W hml e0 (by omega) (by rw [HST.out]; exact Int.le_refl _)
            have e3 : T.extract ((pos z j : Int)).toNat T.size = { data := #[] } := by
              apply ByteArray.ext
              apply Array.ext'
              rw [extract_list, Int.toNat_natCast, HST.out]
              simp
            rwa [e3] at key
          have HE := Lib.hid hend; have HR := Lib.hid hrest
          clear hend hrest hlt hj
          go_wp2_with fail
          refine (end_any T (pos z j) 0 _).mono ?_
          rw [HE.out]
          rintro e w2 ⟨rfl, hb2⟩
          have t0 := cell_later hb2 s0
          have t1 := cell_later hb2 s1
          have t2 := cell_later hb2 s2
          have hbs2 := hbs.trans (hb2.mono hbs.size)
          clear hb2 hbs s0 s1 s2 sf
          go_wp2_with fail
          refine (HR.out _).mono ?_
          rintro e w3 ⟨rfl, hb3⟩
          have hbs3 := hbs2.trans (hb3.mono hbs2.size)
          clear hb3 hbs2 t0 t1 t2
          have hpz : ((pos z j : Int) == 0) = false := by have := HPL.out; simp; omega
          have hq1 : 1 ≤ (pos z j : Int) := by have := HPL.out; omega
          have hq2 : (pos z j : Int) ≤ 320 := by have := HPL.out; omega
          obtain ⟨T2, hT2⟩ : ∃ T2, str ((enc z l j).take (pos z j - 1)) = T2 := ⟨_, rfl⟩
          have hrun3 : Sem.run Try.prog (convert 22 9 (.slice a (pos z j - 1) cap)) w3 = .ok (.string T2) w3 := by
            rw [← hT2]
            exact run_str w3 _ _ ((HBW.out.cut (enc_len z l j) (pos z j - 1) (by omega)).below hbs3)
          have HT2 := Lib.hid hT2; clear hT2 hrun
          go_wp2_with fail
          have hsz3 := hbs3.size
          clear hrun3 HBW HST HE HR HT hpz hcap
          generalize w3 = wb at *
          go_loopw [13] (fun i w5 => ∃ (i' : Nat) (A B : Int), i' ≤ j ∧ i = .int .i64 i' ∧ w5.cell? ⟨wb.heap.size, 0, none⟩ = some (.string T2) ∧ w5.cell? ⟨wb.heap.size, 1, none⟩ = some (.int .i64 A) ∧ w5.cell? ⟨wb.heap.size, 2, none⟩ = some (.int .i64 B) ∧ (∀ o, w5.frozen? ⟨wb.heap.size, o, none⟩ = false) ∧ Hid ((i' < j → A = pos z i' ∧ B = 0) ∧ (i' = j → B = 3)) ∧ Below wb.heap.size wb w5) (fun i _ => j - (intOf i).toNat)
          case atStart => exact ⟨0, 0, 0, Nat.zero_le _, rfl, by simp [go_sem], by simp [go_sem], by simp [go_sem], fun o => by simp [go_sem], Lib.hid ⟨fun _ => ⟨rfl, rfl⟩, fun h => by omega⟩, (Below.refl _ _).alloc (Nat.le_refl _) _⟩
          case round =>
            obtain ⟨i', A, B, hi', rfl, s0, s1, s2, sf, HAB, hbr⟩ := hrel
            by_cases hlt : i' < j
            · obtain ⟨rfl, rfl⟩ := HAB.out.1 hlt
              obtain ⟨y, hy⟩ : ∃ y, z.getD i' 0 = y := ⟨_, rfl⟩
              have hsb2 : sb < wb.heap.size := by have := hbs3.size; omega
              have cs := (hbr.cell (p := ⟨sb, so + i', none⟩) hsb2).trans ((hbs3.cell (p := ⟨sb, so + i', none⟩) (show sb < wa.heap.size by omega)).trans ((hbw.cell (p := ⟨sb, so + i', none⟩) hsb).trans (HSC.out i' hlt)))
              have bY := HSW.out i' hlt
              rw [hy] at cs bY
              obtain ⟨y0, y1⟩ := bY
              obtain ⟨V, A', B', hnum, hA1, hA2⟩ := num_cut z l i' j y hlt h40 hy y0
              rw [HT2.out] at hnum
              have HNUM := Lib.hid hnum; have HA1 := Lib.hid hA1; have HA2 := Lib.hid hA2
              have HN : Hid (IntKind.i64.wrap (1 + IntKind.i64.wrap (y.tmod 8)) = 1 + y % 8) := by
                apply Lib.hid
                rw [Int.tmod_eq_emod_of_nonneg y0, IntWalk.i64_in (y % 8) (by omega), IntWalk.i64_in _ (by omega)]
              clear hnum hA1 hA2 hy HAB
              have hk0 : (0 : Int) ≤ (i' : Int) := Int.natCast_nonneg _
              have hk1 : (i' : Int) < (j : Int) := by omega
              have hk2 : (i' : Int) < (slen : Int) := by omega
              go_wp2_with fail
              have hbd : Below wr.heap.size wr wr.drew := (Below.refl _ _).drew
              have HBD := Lib.hid hbd; clear hbd
              have hltz := World.block_lt_of_cell? wr _ s0
              go_region_with (go_at_call 12; (refine (HNUM.out _ HN.out _).mono ?_; rintro e w5 ⟨rfl, hb5⟩; have hb5 := HBD.out.trans hb5; have t0 := cell_later hb5 s0; have t1 := cell_later hb5 s1; have t2 := cell_later hb5 s2; have tf : ∀ o, w5.frozen? ⟨wb.heap.size, o, none⟩ = false := (fun o => (hb5.frozen (p := ⟨wb.heap.size, o, none⟩) hltz).trans (sf o))))
              all_goals
                have hbr5 := hbr.trans (hb5.mono hbr.size)
                have hz5 : wb.heap.size < w5.heap.size := World.block_lt_of_cell? _ _ t0
                clear hb5 hbr s0 s1 s2 sf cs HNUM
                go_wp2_with fail
                go_roundw
                case rel =>
                  refine ⟨i' + 1, A', B', by omega, by go_num, by simp [go_sem, t0], by simp [go_sem, t1], by simp [go_sem, t2], fun o => by simp [go_sem, tf], Lib.hid ⟨HA1.out, HA2.out⟩, ?_⟩
                  go_grown
                case measure => simp [intOf]; omega
            · obtain rfl : i' = j := by omega
              obtain rfl : B = 3 := HAB.out.2 rfl
              clear HAB hlt
              have he : endV T2 A 3 = 3 := by simp [endV, firstOf]
              have HE := Lib.hid he; clear he
              have hsz5 := hbr.size
              have hbw5 : Below w.heap.size w wr := hbw.trans ((hbs3.trans (hbr.mono hsz3)).mono hsz)
              go_wp2_with fail
              refine (end_any T2 A 3 _).mono ?_
              rw [HE.out]
              rintro e w6 ⟨rfl, hb6⟩
              have hbw6 := hbw5.trans (hb6.mono hbw5.size)
              clear hb6 s0 s1 s2 sf hbr hbw5
              go_wp2_with fail
              refine (awake_any _).mono ?_
              rintro e w7 ⟨rfl, hb7⟩
              have hbw7 := hbw6.trans (hb7.mono hbw6.size)
              clear hb7 hbw6
              go_wp2_with fail
              go_ret
              exact ⟨rfl, hbw7⟩
end Go.Proofs.Ytgdekiimjlpmfaa
