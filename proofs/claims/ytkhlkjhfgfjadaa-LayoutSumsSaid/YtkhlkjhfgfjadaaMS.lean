/- Several texts, one behind the other: Hs, Hu. -/
import Derived.Test.YtkhlkjhfgfjadaaMR
import Derived.Test.YtkhlkjhfgfjadaaMK
import Derived.Test.YtkhlkjhfgfjadaaMH
import Derived.BigRegion
import Derived.Deep.DeepCutAuto
/- The contract of Decode, the program's: the header that a text's bytes tell, or why there is none. -/
namespace Go.Proofs.Ytkhlkjhfgfjadaa
open Go.RowKit
set_option maxRecDepth 20000
set_option linter.unusedVariables false
set_option linter.unusedSimpArgs false
set_option maxRecDepth 20000 in
theorem decode_short (t : ByteArray) (w : World) (h127 : t.size < 127) : Calls Try.prog 26 #[.string t] w fun e w' => e = .returned (.tuple #[.agg (cH zeroH), .int .i64 3]) ∧ Below w.heap.size w w' := by
  have HZ := HAt.zero w 38
  have hd : decide ((t.size : Int) < 127) = true := by simp; omega
  clear h127
  go_enter Try.func26, Try.ntmps26
  go_wp2_with (first | (refine store_head (by rfl) _ _ rfl _ rfl zeroH rfl _ zeroH (by assumption) rfl ?_; intro w2 HP) | fail)
  refine bodyPost_ret (v := .tuple #[.agg (cH zeroH), .int .i64 3]) (results_head Try.results26 _ _ _ _ _ _ rfl rfl HP.1) rfl ⟨rfl, HP.2.2.1 _ _ (Nat.le_refl _) ((Below.refl _ _).alloc (Nat.le_refl _) _)⟩
theorem bytes7 (t : ByteArray) (hm : t.size ≤ maxLen) (h : 127 ≤ t.size) (W : World) : Calls Try.prog 42 #[.agg #[.string t, .int .i64 0, .int .i64 0], .int .i64 7] W fun e w' => e = .returned (.tuple #[.string (t.extract 0 7), .agg #[.string t, .int .i64 7, .int .i64 0]]) ∧ Below W.heap.size W w' :=
  bytes_yes t 0 7 W hm (bytesBad_ok t 0 7 hm (by omega) (by omega) (by omega)) (by omega) (by omega) (by omega)
theorem num7 (t : ByteArray) (hm : t.size ≤ maxLen) (h : 127 ≤ t.size) (W : World) : Calls Try.prog 43 #[.agg #[.string t, .int .i64 7, .int .i64 0], .int .i64 1] W fun e w' => e = .returned (.tuple #[.int .u64 (nmB t 7 1), .agg #[.string t, .int .i64 8, .int .i64 0]]) ∧ Below W.heap.size W w' :=
  num_at t 7 1 W hm (by omega) (by omega) (by omega)
set_option maxRecDepth 20000 in
set_option maxHeartbeats 4000000 in
theorem decode_long (t : ByteArray) (w : World) (hm : t.size ≤ maxLen) (h127 : 127 ≤ t.size) (E : Hd × Int) (hE : decH (bl t) = E) : Calls Try.prog 26 #[.string t] w fun e w' => e = .returned (.tuple #[.agg (cH E.1), .int .i64 E.2]) ∧ Below w.heap.size w w' := by
  have HZ := HAt.zero w 38
  have hd : decide ((t.size : Int) < 127) = false := by simp; omega
  have HE := Lib.hid hE
  have HM := Lib.hid hm
  have HL := Lib.hid h127
  have K7 := Lib.hid (bytes7 t hm h127)
  have N7 := Lib.hid (num7 t hm h127)
  have KF := Lib.hid (fun W => fields_any t W hm h127)
  have KC := Lib.hid (fun W => check_any (telB t) W (may_telB t h127))
  clear hE hm h127
  obtain ⟨s7, hs7⟩ : ∃ s, t.extract 0 7 = s := ⟨_, rfl⟩
  rw [hs7] at K7
  have HS7 := Lib.hid hs7
  clear hs7
  go_enter Try.func26, Try.ntmps26
  go_upto_region 3 with fail
  obtain ⟨W0, hW0⟩ : ∃ W0, w.alloc (.cells #[.int .u64 zeroH.rf, .int .u64 zeroH.rl, .int .u64 zeroH.mf, .int .u64 zeroH.ml, .int .u64 zeroH.lf, .int .u64 zeroH.ll, .int .u64 zeroH.df, .int .u64 zeroH.dl, .int .u64 zeroH.ad, .int .u64 zeroH.en, .int .u64 zeroH.co, .bool zeroH.cl, .int .u8 zeroH.inn, .int .u8 zeroH.out, .int .u8 zeroH.knd, .int .i64 zeroH.z0, .int .i64 zeroH.z1, .int .i64 zeroH.lo0, .int .i64 zeroH.la0, .int .i64 zeroH.lo1, .int .i64 zeroH.la1, .int .i64 zeroH.zm, .int .i64 zeroH.lon, .int .i64 zeroH.lat] 38) = W0 := ⟨_, rfl⟩
  have hW2 : w.alloc (.cells #[.int .u64 0, .int .u64 0, .int .u64 0, .int .u64 0, .int .u64 0, .int .u64 0, .int .u64 0, .int .u64 0, .int .u64 0, .int .u64 0, .int .u64 0, .bool false, .int .u8 0, .int .u8 0, .int .u8 0, .int .i64 0, .int .i64 0, .int .i64 0, .int .i64 0, .int .i64 0, .int .i64 0, .int .i64 0, .int .i64 0, .int .i64 0] 38) = W0 := hW0
  rw [hW0] at HZ
  have U0 : Below w.heap.size w W0 := by rw [← hW0]; exact (Below.refl _ _).alloc (Nat.le_refl _) _
  rw [hW2]
  clear hW0 hW2
  have HHZ := Lib.hid HZ
  have HU0 := Lib.hid U0
  clear HZ U0 hd
  go_cut [4, 5] (fun s p wx => ∃ g, s = .string s7 ∧ p = .pointer (some ⟨g, 0, none⟩) ∧ ScanAt wx g t 7 ∧ HAt wx w.heap.size 38 zeroH ∧ w.heap.size < g ∧ Below w.heap.size w wx)
  case first =>
    go_wp2_with fail
    refine (K7.out _).mono ?_
    rintro e w1 ⟨rfl, hb1⟩
    have h1 := HHZ.out.later hb1
    have u1 := HU0.out.trans (hb1.mono HU0.out.size)
    have hl := h1.lt
    have HH1 := Lib.hid (And.intro h1 u1)
    clear h1 u1 hb1
    go_wp2_with fail
    go_meet
    case rel =>
      exact ⟨_, rfl, rfl, heap_alloc_new w1 _, (heap_alloc_old hl).trans HH1.out.1, hl, HH1.out.2.alloc (by omega) _⟩
  case rest =>
  obtain ⟨g, rfl, rfl, hS, hZ, hlt, hU⟩ := hcut
  generalize wc = w1 at *
  clear K7 HHZ HU0
  by_cases hn : s7 = ⟨#[80, 77, 84, 105, 108, 101, 115]⟩
  · have hne := str_eq hn
    subst hn
    have HN := HS7.out
    obtain ⟨s0, s1, s2, sf⟩ := hS.cells
    have hsl := hS.lt
    have HS := Lib.hid hS
    have HH1 := Lib.hid (And.intro hZ hU)
    obtain ⟨y, hy⟩ : ∃ y, nmB t 7 1 = y := ⟨_, rfl⟩
    rw [hy] at N7
    have HY := Lib.hid hy
    have HNN := Lib.hid HN
    clear hS hU hZ hy HN HS7
    go_upto_region 6 with fail
    go_cut [6] (fun x wx => x = .int .u64 y ∧ ScanAt wx g t 8 ∧ HAt wx w.heap.size 38 zeroH ∧ Below w.heap.size w wx)
    case first =>
      go_wp2_with fail
      refine (N7.out _).mono ?_
      rintro e w2 ⟨rfl, hb2⟩
      have hS2 := HS.out.later hb2
      have hZ2 := HH1.out.1.later hb2
      have hU2 := HH1.out.2.trans (hb2.mono HH1.out.2.size)
      obtain ⟨r0, r1, r2, rf⟩ := hS2.cells
      have HH2 := Lib.hid (And.intro hS2 (And.intro hZ2 hU2))
      clear hS2 hZ2 hU2 hb2
      go_wp2_with fail
      go_meet
      case rel =>
        have hk : ∀ k, k ≠ g → (((w2.setCell ⟨g, 0, none⟩ (.string t)).setCell ⟨g, 1, none⟩ (.int .i64 8)).setCell ⟨g, 2, none⟩ (.int .i64 0)).heap[k]? = w2.heap[k]? := fun k hk => by rw [heap_other hk, heap_other hk, heap_other hk]
        exact ⟨rfl, HH2.out.1.on, (hk _ (by omega)).trans HH2.out.2.1, ((HH2.out.2.2.setCell (by show w.heap.size ≤ g; omega) _).setCell (by show w.heap.size ≤ g; omega) _).setCell (by show w.heap.size ≤ g; omega) _⟩
    case rest =>
    obtain ⟨rfl, hS, hZ, hU⟩ := hcut
    generalize wc = w2 at *
    clear N7 HS HH1 s0 s1 s2 sf
    by_cases hv : y = 3
    · subst hv
      obtain ⟨s0, s1, s2, sf⟩ := hS.cells
      have HH2 := Lib.hid (And.intro hZ hU)
      clear hS hU hZ
      have HTT := Lib.hid (fun (c : Int) (hc : c = nmB t 96 1) => hc)
      obtain ⟨T, hT⟩ : ∃ T, telB t = T := ⟨_, rfl⟩
      obtain ⟨x, hx⟩ : ∃ x, nmB t 96 1 = x := ⟨_, rfl⟩
      rw [hT, hx] at KF
      rw [hT] at KC
      have HT := Lib.hid hT
      have HX := Lib.hid hx
      clear hT hx HTT
      go_upto_region 9 with fail
      go_cut [7, 8] (fun p c wx => ∃ k, p = .pointer (some ⟨k, 0, none⟩) ∧ c = .int .u8 x ∧ HAt wx k 38 T ∧ HAt wx w.heap.size 38 zeroH ∧ w.heap.size < k ∧ Below w.heap.size w wx)
      case first =>
        go_wp2_with fail
        refine (KF.out _).mono ?_
        rintro e w3 ⟨rfl, hb3⟩
        have hZ3 := HH2.out.1.later hb3
        have hU3 := HH2.out.2.trans (hb3.mono HH2.out.2.size)
        have hl := hZ3.lt
        have HH3 := Lib.hid (And.intro hZ3 hU3)
        have HZ := HAt.zero w3 38
        clear hZ3 hU3 hb3 s0 s1 s2 sf
        go_wp2_with (first | (refine store_head (by rfl) _ _ rfl _ rfl T rfl _ zeroH (by assumption) rfl ?_; intro w4 HP) | fail)
        go_meet
        case rel => exact ⟨_, rfl, rfl, HP.1, HP.keep ((heap_alloc_old hl).trans HH3.out.1) (by omega), hl, HP.2.2.1 _ _ (by omega) (HH3.out.2.alloc (by omega) _)⟩
      case rest =>
      obtain ⟨k, rfl, rfl, hA, hZ, hlk, hU⟩ := hcut
      generalize wc = w3 at *
      clear KF HH2 s0 s1 s2 sf
      by_cases hf : 1 < x
      · have hE2 : E = (zeroH, 4) := HE.out.symm.trans (decB_form t HL.out HNN.out HY.out (by rw [HX.out]; exact hf))
        subst hE2
        have hd : decide (1 < x) = true := by simpa using hf
        have HU := Lib.hid hU
        clear hf hU hA
        go_wp2_with (first | (refine store_head (by rfl) _ _ rfl _ rfl zeroH rfl _ zeroH (by assumption) rfl ?_; intro w5 HP) | fail)
        refine bodyPost_ret (v := .tuple #[.agg (cH zeroH), .int .i64 4]) (results_head Try.results26 _ _ _ _ _ _ rfl rfl HP.1) rfl ⟨rfl, HP.2.2.1 _ _ (Nat.le_refl _) HU.out⟩
      · have hd : decide (1 < x) = false := by simpa using hf
        have hE1 : ckH T ≠ 0 → E = (zeroH, ckH T) := fun hc => HE.out.symm.trans (by rw [← HT.out] at hc ⊢; exact decB_bad t HL.out HNN.out HY.out (by rw [HX.out]; exact hf) hc)
        have hE0 : ckH T = 0 → E = (T, 0) := fun hc => HE.out.symm.trans (by rw [← HT.out] at hc ⊢; exact decB_ok t HL.out HNN.out HY.out (by rw [HX.out]; exact hf) hc)
        have HHA := Lib.hid hA
        have HHR := Lib.hid hZ
        have HU := Lib.hid hU
        clear hf hU hZ
        obtain ⟨r, hr⟩ : ∃ r, ckH T = r := ⟨_, rfl⟩
        rw [hr] at KC hE1 hE0
        by_cases h0 : r = 0
        · subst h0
          have HE2 : Hid (E = (T, 0)) := Lib.hid (hE0 rfl)
          clear hr hE0 hE1
          go_wp2_with (first | (refine load_head (by rfl) _ rfl _ rfl _ T (by assumption) ?_) | fail)
          refine (KC.out _).mono ?_
          rintro e w6 ⟨rfl, hb⟩
          have hA6 := HHA.out.later hb
          have hR6 := HHR.out.later hb
          have u6 := HU.out.trans (hb.mono HU.out.size)
          have hee : Ending.returned (.tuple #[.agg (cH T), .int .i64 0]) = .returned (.tuple #[.agg (cH E.1), .int .i64 E.2]) := by rw [HE2.out]
          have HU6 := Lib.hid u6
          have HEE := Lib.hid hee
          clear hb HHA HHR HU hA hee u6
          go_wp2_with (first | (refine load_head (by rfl) _ rfl _ rfl _ T (by assumption) ?_) | (refine store_head (by rfl) _ _ rfl _ rfl T rfl _ zeroH (by assumption) rfl ?_; intro w7 HP) | fail)
          refine bodyPost_ret (v := .tuple #[.agg (cH T), .int .i64 0]) (results_head Try.results26 _ _ _ _ _ _ rfl rfl HP.1) rfl ⟨HEE.out, HP.2.2.1 _ _ (Nat.le_refl _) HU6.out⟩
        · have HE2 : Hid (E = (zeroH, r)) := Lib.hid (hE1 h0)
          have hne2 : (r != 0) = true := by simp only [bne_iff_ne, ne_eq]; exact h0
          clear h0 hr hE0 hE1
          go_wp2_with (first | (refine load_head (by rfl) _ rfl _ rfl _ T (by assumption) ?_) | fail)
          refine (KC.out _).mono ?_
          rintro e w6 ⟨rfl, hb⟩
          have hR6 := HHR.out.later hb
          have u6 := HU.out.trans (hb.mono HU.out.size)
          have hee : Ending.returned (.tuple #[.agg (cH zeroH), .int .i64 r]) = .returned (.tuple #[.agg (cH E.1), .int .i64 E.2]) := by rw [HE2.out]
          have HU6 := Lib.hid u6
          have HEE := Lib.hid hee
          clear hb HHA HHR HU hA hee u6
          go_wp2_with (first | (refine store_head (by rfl) _ _ rfl _ rfl zeroH rfl _ zeroH (by assumption) rfl ?_; intro w7 HP) | fail)
          refine bodyPost_ret (v := .tuple #[.agg (cH zeroH), .int .i64 r]) (results_head Try.results26 _ _ _ _ _ _ rfl rfl HP.1) rfl ⟨HEE.out, HP.2.2.1 _ _ (Nat.le_refl _) HU6.out⟩
    · have hE2 : E = (zeroH, 13) := HE.out.symm.trans (decB_version t HL.out HNN.out (by rw [HY.out]; exact hv))
      subst hE2
      have hv2 : (y != 3) = true := by simp only [bne_iff_ne, ne_eq]; exact hv
      have HU := Lib.hid hU
      clear hv hS hU KF KC
      go_wp2_with (first | (refine store_head (by rfl) _ _ rfl _ rfl zeroH rfl _ zeroH (by assumption) rfl ?_; intro w5 HP) | fail)
      refine bodyPost_ret (v := .tuple #[.agg (cH zeroH), .int .i64 13]) (results_head Try.results26 _ _ _ _ _ _ rfl rfl HP.1) rfl ⟨rfl, HP.2.2.1 _ _ (Nat.le_refl _) HU.out⟩
  · have hE2 : E = (zeroH, 12) := HE.out.symm.trans (decB_magic t HL.out (by rw [HS7.out]; exact hn))
    subst hE2
    have hne := str_ne hn
    have HU := Lib.hid hU
    clear hn hS hU KF KC N7
    go_wp2_with (first | (refine store_head (by rfl) _ _ rfl _ rfl zeroH rfl _ zeroH (by assumption) rfl ?_; intro w2 HP) | fail)
    refine bodyPost_ret (v := .tuple #[.agg (cH zeroH), .int .i64 12]) (results_head Try.results26 _ _ _ _ _ _ rfl rfl HP.1) rfl ⟨rfl, HP.2.2.1 _ _ (Nat.le_refl _) HU.out⟩
theorem decode_any (t : ByteArray) (w : World) (hm : t.size ≤ maxLen) : Calls Try.prog 26 #[.string t] w fun e w' => e = .returned (.tuple #[.agg (cH (decH (bl t)).1), .int .i64 (decH (bl t)).2]) ∧ Below w.heap.size w w' := by
  by_cases h127 : t.size < 127
  · rw [decB_short t h127]; exact decode_short t w h127
  · exact decode_long t w hm (by omega) _ rfl
end Go.Proofs.Ytkhlkjhfgfjadaa
/- The contracts of Laid, the program's and the document's: whether the sections stand one behind the other. -/
namespace Go.Proofs.Ytkhlkjhfgfjadaa
open Go.RowKit
set_option maxRecDepth 20000
set_option linter.unusedVariables false
set_option linter.unusedSimpArgs false
def frK (h : Hd) (k : Nat) : Int := if k = 0 then h.rf else if k = 1 then h.mf else if k = 2 then h.lf else h.df
def lnK (h : Hd) (k : Nat) : Int := if k = 0 then h.rl else if k = 1 then h.ml else if k = 2 then h.ll else h.dl
def enK (h : Hd) (k : Nat) : Int := if k = 0 then 127 else frK h (k - 1) + lnK h (k - 1)
def LaidUp (h : Hd) (k : Nat) : Prop := ∀ j, j < k → ¬ frK h j < enK h j
theorem LaidUp.on {h : Hd} {k : Nat} (u : LaidUp h k) (e : ¬ frK h k < enK h k) : LaidUp h (k + 1) := fun j hj => by
  rcases (by omega : j < k ∨ j = k) with hj | rfl
  · exact u j hj
  · exact e
theorem laid_order (h : Hd) (n : Int) (k : Nat) (hc : ckH h = 0) (u : LaidUp h k) (hk : k < 4) (e : frK h k < enK h k) : laidB h n = 10 := by
  have a0 : 0 < k → ¬ h.rf < 127 := fun hk => u 0 hk
  have a1 : 1 < k → ¬ h.mf < h.rf + h.rl := fun hk => u 1 hk
  have a2 : 2 < k → ¬ h.lf < h.mf + h.ml := fun hk => u 2 hk
  unfold laidB
  rw [if_neg (fun f => f hc)]
  obtain rfl | rfl | rfl | rfl : k = 0 ∨ k = 1 ∨ k = 2 ∨ k = 3 := by omega
  · have e : h.rf < 127 := e
    rw [if_pos e]
  · have e : h.mf < h.rf + h.rl := e
    rw [if_neg (a0 (by omega)), if_pos e]
  · have e : h.lf < h.mf + h.ml := e
    rw [if_neg (a0 (by omega)), if_neg (a1 (by omega)), if_pos e]
  · have e : h.df < h.lf + h.ll := e
    rw [if_neg (a0 (by omega)), if_neg (a1 (by omega)), if_neg (a2 (by omega)), if_pos e]
theorem laid_last (h : Hd) (n : Int) (hc : ckH h = 0) (u : LaidUp h 4) : laidB h n = if n < enK h 4 then 8 else 0 := by
  have a0 : ¬ h.rf < 127 := u 0 (by omega)
  have a1 : ¬ h.mf < h.rf + h.rl := u 1 (by omega)
  have a2 : ¬ h.lf < h.mf + h.ml := u 2 (by omega)
  have a3 : ¬ h.df < h.lf + h.ll := u 3 (by omega)
  unfold laidB
  rw [if_neg (fun f => f hc), if_neg a0, if_neg a1, if_neg a2, if_neg a3]
  rfl
theorem sec_bd (f l : Int) (hf : U64 f) (hl : U64 l) (h : secB f l = true) : 0 ≤ f ∧ 0 ≤ l ∧ f + l ≤ 1099511627776 := by
  simp only [secB, Bool.and_eq_true, decide_eq_true_eq] at h
  unfold U64 at hf hl
  omega
theorem sums_ok (h : Hd) (k : Nat) (hm : MayH h) (hc : ckH h = 0) : 0 ≤ frK h k ∧ 0 ≤ lnK h k ∧ frK h k + lnK h k ≤ 1099511627776 := by
  obtain ⟨m0, m1, m2, m3, m4, m5, m6, m7, -⟩ := hm
  have hs := (ck_zero h hc).1
  simp only [SecsB, Bool.and_eq_true] at hs
  unfold frK lnK
  split
  · exact sec_bd _ _ m0 m1 hs.1
  split
  · exact sec_bd _ _ m2 m3 hs.2.1
  split
  · exact sec_bd _ _ m4 m5 hs.2.2.1
  · exact sec_bd _ _ m6 m7 hs.2.2.2
theorem idx_secK (h : Hd) (k : Nat) (hk : k < 4) (W : World) : Sem.run Try.prog (Instr.index 30 (.agg #[.int .u64 h.rf, .int .u64 h.rl, .int .u64 h.mf, .int .u64 h.ml, .int .u64 h.lf, .int .u64 h.ll, .int .u64 h.df, .int .u64 h.dl]) (.int .i64 k)) W = .ok (.agg #[.int .u64 (frK h k), .int .u64 (lnK h k)]) W := by
  have hI := idx_sec (.int .u64 h.rf) (.int .u64 h.rl) (.int .u64 h.mf) (.int .u64 h.ml) (.int .u64 h.lf) (.int .u64 h.ll) (.int .u64 h.df) (.int .u64 h.dl) W
  obtain rfl | rfl | rfl | rfl : k = 0 ∨ k = 1 ∨ k = 2 ∨ k = 3 := by omega
  · exact hI.1
  · exact hI.2.1
  · exact hI.2.2.1
  · exact hI.2.2.2
set_option maxRecDepth 20000 in
theorem laid_any (h : Hd) (n : Int) (w : World) (hm : MayH h) : Calls Try.prog 18 #[.agg (cH h), .int .u64 n] w fun e w' => e = .returned (.int .i64 (laidB h n)) ∧ Below w.heap.size w w' := by
  have HC := Lib.hid (fun W => check_any h W hm)
  have H0 := HAt.made w h 38
  obtain ⟨R, hR⟩ : ∃ R, laidB h n = R := ⟨_, rfl⟩
  rw [hR]
  have HR := Lib.hid hR
  clear hR
  by_cases hc : ckH h = 0
  · rw [hc] at HC
    have HS := Lib.hid (fun k => sums_ok h k hm hc)
    have HK := Lib.hid hc
    clear hm hc
    go_enter Try.func18, Try.ntmps18
    go_wp2_with (first | (refine load_head (by rfl) _ rfl _ rfl _ h (by assumption) ?_) | fail)
    refine (HC.out _).mono ?_
    rintro e w1 ⟨rfl, hb⟩
    have H1 := H0.below hb (by rw [World.size_alloc]; omega)
    have u1 : Below w.heap.size w w1 := Below.trans (by go_grown) (hb.mono (by rw [World.size_alloc]; omega))
    have HU := Lib.hid u1
    clear hb H0 u1 HC
    go_wp2_with (first | (refine load_head (by rfl) _ rfl _ rfl _ h (by assumption) ?_) | fail)
    refine (sections_h h _).mono ?_
    rintro e w2 ⟨rfl, hb⟩
    have u2 := HU.out.trans (hb.mono HU.out.size)
    have HU2 := Lib.hid u2
    clear hb u2 HU H1
    go_wp2_with fail
    go_loopw [6, 16] (fun e i wr => ∃ k : Nat, k ≤ 4 ∧ i = .int .i64 k ∧ e = .int .u64 (enK h k) ∧ Hid (LaidUp h k) ∧ Hid (Below w.heap.size w wr)) (fun _ i _ => 4 - (intOf i).toNat)
    case atStart => exact ⟨0, by omega, rfl, rfl, Lib.hid (fun j hj => by omega), HU2⟩
    case round =>
      obtain ⟨k, hk, rfl, rfl, HLU, HB⟩ := hrel
      by_cases hlt : k < 4
      · have hI := fun W => idx_secK h k hlt W
        have hs := HS.out k
        have HEn : Hid (enK h (k + 1) = frK h k + lnK h k) := Lib.hid rfl
        obtain ⟨f, hf⟩ : ∃ f, frK h k = f := ⟨_, rfl⟩
        obtain ⟨l, hl⟩ : ∃ l, lnK h k = l := ⟨_, rfl⟩
        obtain ⟨q, hq⟩ : ∃ q, enK h k = q := ⟨_, rfl⟩
        rw [hf, hl] at hI hs HEn
        rw [hq]
        have HF := Lib.hid hf
        have HQ := Lib.hid hq
        clear hf hl hq
        have hd4 : decide ((k : Int) < 4) = true := by simp; omega
        by_cases hb : f < q
        · have hE : R = 10 := HR.out.symm.trans (laid_order h n k HK.out HLU.out hlt (by rw [HF.out, HQ.out]; exact hb))
          subst hE
          have hd : decide (f < q) = true := by simpa using hb
          clear hs hb HEn
          go_wp2_with fail
          go_ret
          exact ⟨rfl, HB.out.alloc HB.out.size _⟩
        · have HL2 := Lib.hid (HLU.out.on (by rw [HF.out, HQ.out]; exact hb))
          have hd : decide (f < q) = false := by simpa using hb
          have hw : IntKind.u64.wrap (f + l) = f + l := by rw [IntKind.wrap_u64] <;> omega
          have HEnd := Lib.hid (fun W => end_sec f l W)
          rw [hw, ← HEn.out] at HEnd
          clear hs hb hw
          go_wp2_with fail
          refine (HEnd.out _).mono ?_
          rintro e w3 ⟨rfl, hb3⟩
          have HB3 := Lib.hid ((HB.out.alloc HB.out.size (.cells #[.int .u64 f, .int .u64 l] 29)).trans (hb3.mono (by rw [World.size_alloc]; have := HB.out.size; omega)))
          clear hb3
          go_wp2_with fail
          go_roundw
          case rel => exact ⟨k + 1, by omega, by go_num, rfl, HL2, HB3⟩
          case measure => simp [intOf]; omega
      · obtain rfl : k = 4 := by omega
        have hE := HR.out.symm.trans (laid_last h n HK.out HLU.out)
        obtain ⟨q, hq⟩ : ∃ q, enK h 4 = q := ⟨_, rfl⟩
        rw [hq] at hE ⊢
        clear hq
        by_cases hb : n < q
        · rw [if_pos hb] at hE
          subst hE
          have hd : decide (n < q) = true := by simpa using hb
          clear hb
          go_wp2_with fail
          go_ret
          exact ⟨rfl, HB.out⟩
        · rw [if_neg hb] at hE
          subst hE
          have hd : decide (n < q) = false := by simpa using hb
          clear hb
          go_wp2_with fail
          go_ret
          exact ⟨rfl, HB.out⟩
  · have hE : R = ckH h := HR.out.symm.trans (by unfold laidB; rw [if_pos hc])
    obtain ⟨r, hr⟩ : ∃ r, ckH h = r := ⟨_, rfl⟩
    rw [hr] at hE hc HC
    subst hE
    have hne : (R != 0) = true := by simp only [bne_iff_ne, ne_eq]; exact hc
    clear hr HR hm hc
    go_enter Try.func18, Try.ntmps18
    go_wp2_with (first | (refine load_head (by rfl) _ rfl _ rfl _ h (by assumption) ?_) | fail)
    refine (HC.out _).mono ?_
    rintro e w1 ⟨rfl, hb⟩
    have u1 : Below w.heap.size w w1 := Below.trans (by go_grown) (hb.mono (by rw [World.size_alloc]; omega))
    clear hb H0
    go_wp2_with fail
    go_ret
    exact ⟨rfl, u1⟩
/-- The row of the four sections. -/
def rowK (h : Hd) : Array Value := #[.int .u64 h.rf, .int .u64 h.rl, .int .u64 h.mf, .int .u64 h.ml, .int .u64 h.lf, .int .u64 h.ll, .int .u64 h.df, .int .u64 h.dl]
theorem row_cells {w : World} {b : Nat} {h : Hd} {T : TypeId} (H : w.heap[b]? = some (.cells (rowK h) T (0, 0))) (k : Nat) (hk : k < 4) : w.cell? ⟨b, k * 2, none⟩ = some (.int .u64 (frK h k)) ∧ w.cell? ⟨b, k * 2 + 1, none⟩ = some (.int .u64 (lnK h k)) := by
  have hc : ∀ i, w.cell? ⟨b, i, none⟩ = (rowK h)[i]? := fun i => by simp [World.cell?, H]
  rw [hc, hc]
  obtain rfl | rfl | rfl | rfl : k = 0 ∨ k = 1 ∨ k = 2 ∨ k = 3 := by omega
  all_goals exact ⟨rfl, rfl⟩
end Go.Proofs.Ytkhlkjhfgfjadaa
