/- The contracts of Laid, the program's and the document's: whether the sections stand one behind the other. -/
import Derived.Test.YtodjdeilaimjaaaHd
import Derived.Test.YtodjdeilaimjaaaHe
import Derived.Test.YtodjdeilaimjaaaHq
import Derived.BigRegion
import Derived.Deep.DeepCutAuto
namespace Go.Proofs.Ytodjdeilaimjaaa
open Go.RowKit
set_option linter.unusedVariables false
set_option linter.unusedSimpArgs false
def frK (h : Hd) (k : Nat) : Int := if k = 0 then h.rf else if k = 1 then h.mf else if k = 2 then h.lf else h.df
def lnK (h : Hd) (k : Nat) : Int := if k = 0 then h.rl else if k = 1 then h.ml else if k = 2 then h.ll else h.dl
def enK (h : Hd) (k : Nat) : Int := if k = 0 then 127 else frK h (k - 1) + lnK h (k - 1)
def LaidUp (h : Hd) (k : Nat) : Prop := ∀ j, j < k → ¬ frK h j < enK h j
theorem LaidUp.on {h : Hd} {k : Nat} (u : LaidUp h k) (e : ¬ frK h k < enK h k) : LaidUp h (k + 1) := fun j hj => by
  rcases (by omega : j < k ∨ j = k) with hj | rfl
  · exact u j hj
  · exact e
theorem laid_order (h : Hd) (n : Int) (k : Nat) (hc : ckH h = 0) (u : LaidUp h k) (hk : k < 4) (e : frK h k < enK h k) : laidB h n = 10 := by
  have a0 : 0 < k → ¬ h.rf < 127 := fun hk => u 0 hk
  have a1 : 1 < k → ¬ h.mf < h.rf + h.rl := fun hk => u 1 hk
  have a2 : 2 < k → ¬ h.lf < h.mf + h.ml := fun hk => u 2 hk
  unfold laidB
  rw [if_neg (fun f => f hc)]
  obtain rfl | rfl | rfl | rfl : k = 0 ∨ k = 1 ∨ k = 2 ∨ k = 3 := by omega
  · have e : h.rf < 127 := e
    rw [if_pos e]
  · have e : h.mf < h.rf + h.rl := e
    rw [if_neg (a0 (by omega)), if_pos e]
  · have e : h.lf < h.mf + h.ml := e
    rw [if_neg (a0 (by omega)), if_neg (a1 (by omega)), if_pos e]
  · have e : h.df < h.lf + h.ll := e
    rw [if_neg (a0 (by omega)), if_neg (a1 (by omega)), if_neg (a2 (by omega)), if_pos e]
theorem laid_last (h : Hd) (n : Int) (hc : ckH h = 0) (u : LaidUp h 4) : laidB h n = if n < enK h 4 then 8 else 0 := by
  have a0 : ¬ h.rf < 127 := u 0 (by omega)
  have a1 : ¬ h.mf < h.rf + h.rl := u 1 (by omega)
  have a2 : ¬ h.lf < h.mf + h.ml := u 2 (by omega)
  have a3 : ¬ h.df < h.lf + h.ll := u 3 (by omega)
  unfold laidB
  rw [if_neg (fun f => f hc), if_neg a0, if_neg a1, if_neg a2, if_neg a3]
  rfl
theorem sec_bd (f l : Int) (hf : U64 f) (hl : U64 l) (h : secB f l = true) : 0 ≤ f ∧ 0 ≤ l ∧ f + l ≤ 1099511627776 := by
  simp only [secB, Bool.and_eq_true, decide_eq_true_eq] at h
  unfold U64 at hf hl
  omega
theorem sums_ok (h : Hd) (k : Nat) (hm : MayH h) (hc : ckH h = 0) : 0 ≤ frK h k ∧ 0 ≤ lnK h k ∧ frK h k + lnK h k ≤ 1099511627776 := by
  obtain ⟨m0, m1, m2, m3, m4, m5, m6, m7, -⟩ := hm
  have hs := (ck_zero h hc).1
  simp only [SecsB, Bool.and_eq_true] at hs
  unfold frK lnK
  split
  · exact sec_bd _ _ m0 m1 hs.1
  split
  · exact sec_bd _ _ m2 m3 hs.2.1
  split
  · exact sec_bd _ _ m4 m5 hs.2.2.1
  · exact sec_bd _ _ m6 m7 hs.2.2.2
theorem idx_secK (h : Hd) (k : Nat) (hk : k < 4) (W : World) : Sem.run Try.prog (Instr.index 54 (.agg #[.int .u64 h.rf, .int .u64 h.rl, .int .u64 h.mf, .int .u64 h.ml, .int .u64 h.lf, .int .u64 h.ll, .int .u64 h.df, .int .u64 h.dl]) (.int .i64 k)) W = .ok (.agg #[.int .u64 (frK h k), .int .u64 (lnK h k)]) W := by
  have hI := idx_sec (.int .u64 h.rf) (.int .u64 h.rl) (.int .u64 h.mf) (.int .u64 h.ml) (.int .u64 h.lf) (.int .u64 h.ll) (.int .u64 h.df) (.int .u64 h.dl) W
  obtain rfl | rfl | rfl | rfl : k = 0 ∨ k = 1 ∨ k = 2 ∨ k = 3 := by omega
  · exact hI.1
  · exact hI.2.1
  · exact hI.2.2.1
  · exact hI.2.2.2
set_option maxRecDepth 20000 in
theorem laid_any (h : Hd) (n : Int) (w : World) (hm : MayH h) : Calls Try.prog 13 #[.agg (cH h), .int .u64 n] w fun e w' => e = .returned (.int .i64 (laidB h n)) ∧ Below w.heap.size w w' := by
  have HC := Lib.hid (fun W => check_any h W hm)
  have H0 := HAt.made w h 32
  obtain ⟨R, hR⟩ : ∃ R, laidB h n = R := ⟨_, rfl⟩
  rw [hR]
  have HR := Lib.hid hR
  clear hR
  by_cases hc : ckH h = 0
  · rw [hc] at HC
    have HS := Lib.hid (fun k => sums_ok h k hm hc)
    have HK := Lib.hid hc
    clear hm hc
    go_enter Try.func13, Try.ntmps13
    go_wp2_with (first | (refine load_head (by rfl) _ rfl _ rfl _ h (by assumption) ?_) | fail)
    refine (HC.out _).mono ?_
    rintro e w1 ⟨rfl, hb⟩
    have H1 := H0.below hb (by rw [World.size_alloc]; omega)
    have u1 : Below w.heap.size w w1 := Below.trans (by go_grown) (hb.mono (by rw [World.size_alloc]; omega))
    have HU := Lib.hid u1
    clear hb H0 u1 HC
    go_wp2_with (first | (refine load_head (by rfl) _ rfl _ rfl _ h (by assumption) ?_) | fail)
    refine (sections_h h _).mono ?_
    rintro e w2 ⟨rfl, hb⟩
    have u2 := HU.out.trans (hb.mono HU.out.size)
    have HU2 := Lib.hid u2
    clear hb u2 HU H1
    go_wp2_with fail
    go_loopw [6, 16] (fun e i wr => ∃ k : Nat, k ≤ 4 ∧ i = .int .i64 k ∧ e = .int .u64 (enK h k) ∧ Hid (LaidUp h k) ∧ Hid (Below w.heap.size w wr)) (fun _ i _ => 4 - (intOf i).toNat)
    case atStart => exact ⟨0, by omega, rfl, rfl, Lib.hid (fun j hj => by omega), HU2⟩
    case round =>
      obtain ⟨k, hk, rfl, rfl, HLU, HB⟩ := hrel
      by_cases hlt : k < 4
      · have hI := fun W => idx_secK h k hlt W
        have hs := HS.out k
        have HEn : Hid (enK h (k + 1) = frK h k + lnK h k) := Lib.hid rfl
        obtain ⟨f, hf⟩ : ∃ f, frK h k = f := ⟨_, rfl⟩
        obtain ⟨l, hl⟩ : ∃ l, lnK h k = l := ⟨_, rfl⟩
        obtain ⟨q, hq⟩ : ∃ q, enK h k = q := ⟨_, rfl⟩
        rw [hf, hl] at hI hs HEn
        rw [hq]
        have HF := Lib.hid hf
        have HQ := Lib.hid hq
        clear hf hl hq
        have hd4 : decide ((k : Int) < 4) = true := by simp; omega
        by_cases hb : f < q
        · have hE : R = 10 := HR.out.symm.trans (laid_order h n k HK.out HLU.out hlt (by rw [HF.out, HQ.out]; exact hb))
          subst hE
          have hd : decide (f < q) = true := by simpa using hb
          clear hs hb HEn
          go_wp2_with fail
          go_ret
          exact ⟨rfl, HB.out.alloc HB.out.size _⟩
        · have HL2 := Lib.hid (HLU.out.on (by rw [HF.out, HQ.out]; exact hb))
          have hd : decide (f < q) = false := by simpa using hb
          have hw : IntKind.u64.wrap (f + l) = f + l := by rw [IntKind.wrap_u64] <;> omega
          have HEnd := Lib.hid (fun W => end_sec f l W)
          rw [hw, ← HEn.out] at HEnd
          clear hs hb hw
          go_wp2_with fail
          refine (HEnd.out _).mono ?_
          rintro e w3 ⟨rfl, hb3⟩
          have HB3 := Lib.hid ((HB.out.alloc HB.out.size (.cells #[.int .u64 f, .int .u64 l] 30)).trans (hb3.mono (by rw [World.size_alloc]; have := HB.out.size; omega)))
          clear hb3
          go_wp2_with fail
          go_roundw
          case rel => exact ⟨k + 1, by omega, by go_num, rfl, HL2, HB3⟩
          case measure => simp [intOf]; omega
      · obtain rfl : k = 4 := by omega
        have hE := HR.out.symm.trans (laid_last h n HK.out HLU.out)
        obtain ⟨q, hq⟩ : ∃ q, enK h 4 = q := ⟨_, rfl⟩
        rw [hq] at hE ⊢
        clear hq
        by_cases hb : n < q
        · rw [if_pos hb] at hE
          subst hE
          have hd : decide (n < q) = true := by simpa using hb
          clear hb
          go_wp2_with fail
          go_ret
          exact ⟨rfl, HB.out⟩
        · rw [if_neg hb] at hE
          subst hE
          have hd : decide (n < q) = false := by simpa using hb
          clear hb
          go_wp2_with fail
          go_ret
          exact ⟨rfl, HB.out⟩
  · have hE : R = ckH h := HR.out.symm.trans (by unfold laidB; rw [if_pos hc])
    obtain ⟨r, hr⟩ : ∃ r, ckH h = r := ⟨_, rfl⟩
    rw [hr] at hE hc HC
    subst hE
    have hne : (R != 0) = true := by simp only [bne_iff_ne, ne_eq]; exact hc
    clear hr HR hm hc
    go_enter Try.func13, Try.ntmps13
    go_wp2_with (first | (refine load_head (by rfl) _ rfl _ rfl _ h (by assumption) ?_) | fail)
    refine (HC.out _).mono ?_
    rintro e w1 ⟨rfl, hb⟩
    have u1 : Below w.heap.size w w1 := Below.trans (by go_grown) (hb.mono (by rw [World.size_alloc]; omega))
    clear hb H0
    go_wp2_with fail
    go_ret
    exact ⟨rfl, u1⟩
/-- The row of the four sections. -/
def rowK (h : Hd) : Array Value := #[.int .u64 h.rf, .int .u64 h.rl, .int .u64 h.mf, .int .u64 h.ml, .int .u64 h.lf, .int .u64 h.ll, .int .u64 h.df, .int .u64 h.dl]
theorem row_cells {w : World} {b : Nat} {h : Hd} {T : TypeId} (H : w.heap[b]? = some (.cells (rowK h) T (0, 0))) (k : Nat) (hk : k < 4) : w.cell? ⟨b, k * 2, none⟩ = some (.int .u64 (frK h k)) ∧ w.cell? ⟨b, k * 2 + 1, none⟩ = some (.int .u64 (lnK h k)) := by
  have hc : ∀ i, w.cell? ⟨b, i, none⟩ = (rowK h)[i]? := fun i => by simp [World.cell?, H]
  rw [hc, hc]
  obtain rfl | rfl | rfl | rfl : k = 0 ∨ k = 1 ∨ k = 2 ∨ k = 3 := by omega
  all_goals exact ⟨rfl, rfl⟩
set_option maxRecDepth 20000 in
theorem rlaid_any (h : Hd) (n : Int) (w : World) (hm : MayH h) : Calls Try.prog 14 #[.agg (cH h), .int .u64 n] w fun e w' => e = .returned (.int .i64 (laidB h n)) ∧ Below w.heap.size w w' := by
  have HC := Lib.hid (fun W => rcheck_any h W hm)
  have H0 := HAt.made w h 26
  obtain ⟨R, hR⟩ : ∃ R, laidB h n = R := ⟨_, rfl⟩
  rw [hR]
  have HR := Lib.hid hR
  clear hR
  by_cases hc : ckH h = 0
  · rw [hc] at HC
    have HS := Lib.hid (fun k => sums_ok h k hm hc)
    have HK := Lib.hid hc
    clear hm hc
    go_enter Try.func14, Try.ntmps14
    go_wp2_with (first | (refine rload_head (by rfl) _ rfl _ rfl _ h (by assumption) ?_) | fail)
    refine (HC.out _).mono ?_
    rintro e w1 ⟨rfl, hb⟩
    have H1 := H0.below hb (by rw [World.size_alloc]; omega)
    have u1 : Below w.heap.size w w1 := Below.trans (by go_grown) (hb.mono (by rw [World.size_alloc]; omega))
    have HU := Lib.hid u1
    have a0 := at0 H1
    have a1 := at1 H1
    have a2 := at2 H1
    have a3 := at3 H1
    have a4 := at4 H1
    have a5 := at5 H1
    have a6 := at6 H1
    have a7 := at7 H1
    clear hb H0 u1 HC H1
    go_wp2_with fail
    go_loopw [6, 8] (fun e i wr => ∃ k : Nat, k ≤ 4 ∧ i = .int .i64 k ∧ e = .int .u64 (enK h k) ∧ Hid (LaidUp h k) ∧ Hid (wr.heap[w1.heap.size]? = some (.cells (rowK h) 24 (0, 0))) ∧ Hid (Below w.heap.size w wr)) (fun _ i _ => 4 - (intOf i).toNat)
    case atStart => exact ⟨0, by omega, rfl, rfl, Lib.hid (fun j hj => by omega), Lib.hid (heap_alloc_new w1 _), Lib.hid (HU.out.alloc HU.out.size _)⟩
    case round =>
      obtain ⟨k, hk, rfl, rfl, HLU, HRow, HB⟩ := hrel
      by_cases hlt : k < 4
      · have hs := HS.out k
        obtain ⟨c0, c1⟩ := row_cells HRow.out k hlt
        have HEn : Hid (enK h (k + 1) = frK h k + lnK h k) := Lib.hid rfl
        obtain ⟨f, hf⟩ : ∃ f, frK h k = f := ⟨_, rfl⟩
        obtain ⟨l, hl⟩ : ∃ l, lnK h k = l := ⟨_, rfl⟩
        obtain ⟨q, hq⟩ : ∃ q, enK h k = q := ⟨_, rfl⟩
        rw [hf] at c0
        rw [hl] at c1
        rw [hf, hl] at hs HEn
        rw [hq]
        have HF := Lib.hid hf
        have HQ := Lib.hid hq
        clear hf hl hq
        have hd4 : decide ((k : Int) < 4) = true := by simp; omega
        by_cases hb : f < q
        · have hE : R = 10 := HR.out.symm.trans (laid_order h n k HK.out HLU.out hlt (by rw [HF.out, HQ.out]; exact hb))
          subst hE
          have hd : decide (f < q) = true := by simpa using hb
          clear hs hb HEn
          go_wp2_with fail
          go_ret
          exact ⟨rfl, HB.out⟩
        · have HL2 := Lib.hid (HLU.out.on (by rw [HF.out, HQ.out]; exact hb))
          have hd : decide (f < q) = false := by simpa using hb
          have hw : IntKind.u64.wrap (f + l) = f + l := by rw [IntKind.wrap_u64] <;> omega
          clear hs hb
          go_upto_region 11 with fail
          go_region
          all_goals
            go_wp2_with fail
            go_roundw
            case rel => exact ⟨k + 1, by omega, by go_num, by rw [HEn.out], HL2, HRow, Lib.hid HB.out.drew⟩
            case measure => simp [intOf]; omega
      · obtain rfl : k = 4 := by omega
        have hE := HR.out.symm.trans (laid_last h n HK.out HLU.out)
        obtain ⟨q, hq⟩ : ∃ q, enK h 4 = q := ⟨_, rfl⟩
        rw [hq] at hE ⊢
        clear hq
        by_cases hb : n < q
        · rw [if_pos hb] at hE
          subst hE
          have hd : decide (n < q) = true := by simpa using hb
          clear hb
          go_wp2_with fail
          go_ret
          exact ⟨rfl, HB.out⟩
        · rw [if_neg hb] at hE
          subst hE
          have hd : decide (n < q) = false := by simpa using hb
          clear hb
          go_wp2_with fail
          go_ret
          exact ⟨rfl, HB.out⟩
  · have hE : R = ckH h := HR.out.symm.trans (by unfold laidB; rw [if_pos hc])
    obtain ⟨r, hr⟩ : ∃ r, ckH h = r := ⟨_, rfl⟩
    rw [hr] at hE hc HC
    subst hE
    have hne : (R != 0) = true := by simp only [bne_iff_ne, ne_eq]; exact hc
    clear hr HR hm hc
    go_enter Try.func14, Try.ntmps14
    go_wp2_with (first | (refine rload_head (by rfl) _ rfl _ rfl _ h (by assumption) ?_) | fail)
    refine (HC.out _).mono ?_
    rintro e w1 ⟨rfl, hb⟩
    have u1 : Below w.heap.size w w1 := Below.trans (by go_grown) (hb.mono (by rw [World.size_alloc]; omega))
    clear hb H0
    go_wp2_with fail
    go_ret
    exact ⟨rfl, u1⟩
end Go.Proofs.Ytodjdeilaimjaaa
