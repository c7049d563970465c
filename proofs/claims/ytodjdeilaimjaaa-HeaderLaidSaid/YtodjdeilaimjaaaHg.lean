/- The contract of Encode, the program's: its bytes, or why there are none. -/
import Derived.Test.YtodjdeilaimjaaaHf
import Derived.Test.YtodjdeilaimjaaaHd
import Derived.Test.YtodjdeilaimjaaaHq
import Derived.Deep.DeepCutAuto
import Derived.Deep.RegionWith
import Derived.Deep.RegionHeld3
namespace Go.Proofs.Ytodjdeilaimjaaa
open Go.RowKit
set_option linter.unusedVariables false
theorem bytes_of_nums {w : World} {v : Value} {l : List Int} (h : NumsAt .u8 w v l) : BytesAt w v l := by
  obtain ⟨b, cap, h1, h2, h3, h4, h5⟩ := h
  exact ⟨_, cap, h1, h2, h3, fun _ => ⟨_, rfl, h4, fun i hi => by
    have e : (⟨b, 0, none⟩ : Addr).add i = ⟨b, i, none⟩ := by unfold Addr.add; split <;> simp_all
    rw [e]; exact h5 i hi⟩⟩
theorem LayEnd.over {W : World} {o : Obj} {l : List Int} {e : Ending} {w' : World} (h : LayEnd (W.alloc o) l e w') : LayEnd W l e w' := by
  obtain ⟨v, h1, h2, h3⟩ := h
  exact ⟨v, h1, h2, ((Below.refl _ _).alloc (Nat.le_refl _) _).trans (h3.mono (by rw [World.size_alloc]; omega))⟩
theorem layI1_1 (v : Value) (b : List Int) (a0 : Int) (W : World) (m : Nat) (hb : BytesAt W v b) (hm : m = W.heap.size) (hs : b.length ≤ 999000) : Calls Try.prog 19 #[v, .int .i64 1, .slice (some ⟨m, 0, none⟩) 1 1] (W.alloc (.cells #[.int .i64 a0] 3)) (LayEnd W (b ++ flatH 1 [a0])) :=
  (layI_any v _ b [a0] 1 (W.alloc (.cells #[.int .i64 a0] 3)) (hb.below ((Below.refl _ _).alloc (Nat.le_refl _) _)) (nums_built .i64 W [a0] 3 m (0, 0) hm (by simp [maxLen])) (by omega) (by omega) (by simp only [List.length_cons, List.length_nil]; omega)).mono fun _ _ h => h.over
theorem layI2_1 (v : Value) (b : List Int) (a0 a1 : Int) (W : World) (m : Nat) (hb : BytesAt W v b) (hm : m = W.heap.size) (hs : b.length ≤ 999000) : Calls Try.prog 19 #[v, .int .i64 1, .slice (some ⟨m, 0, none⟩) 2 2] (W.alloc (.cells #[.int .i64 a0, .int .i64 a1] 3)) (LayEnd W (b ++ flatH 1 [a0, a1])) :=
  (layI_any v _ b [a0, a1] 1 (W.alloc (.cells #[.int .i64 a0, .int .i64 a1] 3)) (hb.below ((Below.refl _ _).alloc (Nat.le_refl _) _)) (nums_built .i64 W [a0, a1] 3 m (0, 0) hm (by simp [maxLen])) (by omega) (by omega) (by simp only [List.length_cons, List.length_nil]; omega)).mono fun _ _ h => h.over
theorem layI4_4 (v : Value) (b : List Int) (a0 a1 a2 a3 : Int) (W : World) (m : Nat) (hb : BytesAt W v b) (hm : m = W.heap.size) (hs : b.length ≤ 999000) : Calls Try.prog 19 #[v, .int .i64 4, .slice (some ⟨m, 0, none⟩) 4 4] (W.alloc (.cells #[.int .i64 a0, .int .i64 a1, .int .i64 a2, .int .i64 a3] 3)) (LayEnd W (b ++ flatH 4 [a0, a1, a2, a3])) :=
  (layI_any v _ b [a0, a1, a2, a3] 4 (W.alloc (.cells #[.int .i64 a0, .int .i64 a1, .int .i64 a2, .int .i64 a3] 3)) (hb.below ((Below.refl _ _).alloc (Nat.le_refl _) _)) (nums_built .i64 W [a0, a1, a2, a3] 3 m (0, 0) hm (by simp [maxLen])) (by omega) (by omega) (by simp only [List.length_cons, List.length_nil]; omega)).mono fun _ _ h => h.over
theorem layI2_4 (v : Value) (b : List Int) (a0 a1 : Int) (W : World) (m : Nat) (hb : BytesAt W v b) (hm : m = W.heap.size) (hs : b.length ≤ 999000) : Calls Try.prog 19 #[v, .int .i64 4, .slice (some ⟨m, 0, none⟩) 2 2] (W.alloc (.cells #[.int .i64 a0, .int .i64 a1] 3)) (LayEnd W (b ++ flatH 4 [a0, a1])) :=
  (layI_any v _ b [a0, a1] 4 (W.alloc (.cells #[.int .i64 a0, .int .i64 a1] 3)) (hb.below ((Below.refl _ _).alloc (Nat.le_refl _) _)) (nums_built .i64 W [a0, a1] 3 m (0, 0) hm (by simp [maxLen])) (by omega) (by omega) (by simp only [List.length_cons, List.length_nil]; omega)).mono fun _ _ h => h.over
theorem layW2_8 (v : Value) (b : List Int) (a0 a1 : Int) (W : World) (m : Nat) (hb : BytesAt W v b) (hm : m = W.heap.size) (h0 : U64 a0) (h1 : U64 a1) (hs : b.length ≤ 999000) : Calls Try.prog 21 #[v, .int .i64 8, .slice (some ⟨m, 0, none⟩) 2 2] (W.alloc (.cells #[.int .u64 a0, .int .u64 a1] 22)) (LayEnd W (b ++ flatH 8 [a0, a1])) :=
  (layW_any v _ b [a0, a1] 8 (W.alloc (.cells #[.int .u64 a0, .int .u64 a1] 22)) (hb.below ((Below.refl _ _).alloc (Nat.le_refl _) _)) (nums_built .u64 W [a0, a1] 22 m (0, 0) hm (by simp [maxLen])) (by intro x hx; simp only [List.mem_cons, List.not_mem_nil, or_false] at hx; rcases hx with rfl | rfl <;> assumption) (by omega) (by omega) (by simp only [List.length_cons, List.length_nil]; omega)).mono fun _ _ h => h.over
theorem layW3_8 (v : Value) (b : List Int) (a0 a1 a2 : Int) (W : World) (m : Nat) (hb : BytesAt W v b) (hm : m = W.heap.size) (h0 : U64 a0) (h1 : U64 a1) (h2 : U64 a2) (hs : b.length ≤ 999000) : Calls Try.prog 21 #[v, .int .i64 8, .slice (some ⟨m, 0, none⟩) 3 3] (W.alloc (.cells #[.int .u64 a0, .int .u64 a1, .int .u64 a2] 22)) (LayEnd W (b ++ flatH 8 [a0, a1, a2])) :=
  (layW_any v _ b [a0, a1, a2] 8 (W.alloc (.cells #[.int .u64 a0, .int .u64 a1, .int .u64 a2] 22)) (hb.below ((Below.refl _ _).alloc (Nat.le_refl _) _)) (nums_built .u64 W [a0, a1, a2] 22 m (0, 0) hm (by simp [maxLen])) (by intro x hx; simp only [List.mem_cons, List.not_mem_nil, or_false] at hx; rcases hx with rfl | rfl | rfl <;> assumption) (by omega) (by omega) (by simp only [List.length_cons, List.length_nil]; omega)).mono fun _ _ h => h.over
theorem layB4_1 (v : Value) (b : List Int) (a0 a1 a2 a3 : Int) (W : World) (m : Nat) (hb : BytesAt W v b) (hm : m = W.heap.size) (h0 : U8 a0) (h1 : U8 a1) (h2 : U8 a2) (h3 : U8 a3) (hs : b.length ≤ 999000) : Calls Try.prog 22 #[v, .int .i64 1, .slice (some ⟨m, 0, none⟩) 4 4] (W.alloc (.cells #[.int .u8 a0, .int .u8 a1, .int .u8 a2, .int .u8 a3] 5)) (LayEnd W (b ++ flatH 1 [a0, a1, a2, a3])) :=
  (layB_any v _ b [a0, a1, a2, a3] 1 (W.alloc (.cells #[.int .u8 a0, .int .u8 a1, .int .u8 a2, .int .u8 a3] 5)) (hb.below ((Below.refl _ _).alloc (Nat.le_refl _) _)) (nums_built .u8 W [a0, a1, a2, a3] 5 m (0, 0) hm (by simp [maxLen])) (by intro x hx; simp only [List.mem_cons, List.not_mem_nil, or_false] at hx; rcases hx with rfl | rfl | rfl | rfl <;> assumption) (by omega) (by omega) (by simp only [List.length_cons, List.length_nil]; omega)).mono fun _ _ h => h.over
theorem keep4 {w' w1 : World} {a0 a1 a2 a3 : Addr} {v0 v1 v2 v3 : Value} (hb : Below w'.heap.size w' w1) (h : w'.cell? a0 = some v0 ∧ w'.cell? a1 = some v1 ∧ w'.cell? a2 = some v2 ∧ w'.cell? a3 = some v3) : w1.cell? a0 = some v0 ∧ w1.cell? a1 = some v1 ∧ w1.cell? a2 = some v2 ∧ w1.cell? a3 = some v3 :=
  ⟨cellb_later hb h.1, cellb_later hb h.2.1, cellb_later hb h.2.2.1, cellb_later hb h.2.2.2⟩
theorem ret_enc {s t : ByteArray} {a b : Int} (h : (s, a) = (t, b)) : Ending.returned (.tuple #[.string s, .int .i64 a]) = .returned (.tuple #[.string t, .int .i64 b]) := by
  obtain ⟨h1, h2⟩ := Prod.mk.injEq .. ▸ h
  rw [h1, h2]
/-- The sections' numbers, of the first k ones. -/
def upL (h : Hd) (k : Nat) : List Int := [h.rf, h.rl, h.mf, h.ml, h.lf, h.ll, h.df, h.dl].take (2 * k)
theorem upL_len (h : Hd) (k : Nat) : (flatH 8 (upL h k)).length ≤ 64 := by
  rw [flatH_len, upL, List.length_take]
  simp only [List.length_cons, List.length_nil]
  omega
/-- What has been laid, step by step. -/
def s0 : List Int := mgH ++ flatH 1 [3]
def s1 (h : Hd) (k : Nat) : List Int := s0 ++ flatH 8 (upL h k)
def s2 (h : Hd) : List Int := s1 h 4 ++ flatH 8 [h.ad, h.en, h.co]
def s3 (h : Hd) : List Int := s2 h ++ flatH 1 [cl01 h.cl, h.inn, h.out, h.knd]
def s4 (h : Hd) : List Int := s3 h ++ flatH 1 [h.z0, h.z1]
def s5 (h : Hd) : List Int := s4 h ++ flatH 4 [h.lo0, h.la0, h.lo1, h.la1]
def s6 (h : Hd) : List Int := s5 h ++ flatH 1 [h.zm]
def s7 (h : Hd) : List Int := s6 h ++ flatH 4 [h.lon, h.lat]
theorem leH_unsg (x : Int) : leH 4 (unsg x) = leH 4 x := leH_mod 4 1 x
theorem s7_bytes (h : Hd) : s7 h = bytsH h := by
  simp only [s7, s6, s5, s4, s3, s2, s1, s0, upL, bytsH, headH, mgH, laysH, widH, numsH, flatH, List.take, List.append_nil, leH_unsg, List.append_assoc, List.cons_append, List.nil_append]
  rfl
theorem s_len (h : Hd) (k : Nat) : (s1 h k).length ≤ 200 ∧ (s2 h).length ≤ 200 ∧ (s3 h).length ≤ 200 ∧ (s4 h).length ≤ 200 ∧ (s5 h).length ≤ 200 ∧ (s6 h).length ≤ 200 ∧ (s7 h).length ≤ 200 := by
  have h0 : s0.length = 8 := rfl
  have h1 := upL_len h k
  have h4 := upL_len h 4
  simp only [s7, s6, s5, s4, s3, s2, s1, List.length_append, flatH_len, List.length_cons, List.length_nil] at h1 h4 ⊢
  omega
set_option maxRecDepth 20000 in
set_option maxHeartbeats 1000000 in
theorem encode_any (h : Hd) (w : World) (hm : MayH h) : Calls Try.prog 8 #[.agg (cH h)] w fun e w' => e = .returned (.tuple #[.string (str (encH h).1), .int .i64 (encH h).2]) ∧ Below w.heap.size w w' := by
  have HCk := Lib.hid (fun W => check_any h W hm)
  have HM := Lib.hid hm; clear hm
  have H0 := HAt.made w h 32
  obtain ⟨E, hE⟩ : ∃ E, encH h = E := ⟨_, rfl⟩
  rw [hE]
  have HE := Lib.hid hE; clear hE
  by_cases hc : ckH h = 0
  · have HE2 : Hid ((str (bytsH h), (0 : Int)) = (str E.1, E.2)) := Lib.hid (by rw [← HE.out, encH, if_pos hc])
    rw [hc] at HCk
    have hcv := fun (w : World) (C : Array Value) (n c : Nat) => Lib.run_convert_bytes_const (P := Try.prog) w 49 5 C n c Try.underlying49 Try.underlying5
    go_enter Try.func8, Try.ntmps8
    go_wp2_with (first | (refine load_head (by rfl) _ rfl _ rfl _ h (by assumption) ?_) | fail)
    refine (HCk.out _).mono ?_
    rintro e w1 ⟨rfl, hb⟩
    have h1 := H0.later hb
    have u1 : Below w.heap.size w w1 := Below.trans (by go_grown) (hb.mono (by rw [World.size_alloc]; omega))
    have z1 : w.heap.size < w1.heap.size := h1.lt
    have HH := Lib.hid h1
    have HU := Lib.hid u1
    clear hb H0 h1 u1 hc HCk HE
    go_wp2_with fail
    have hbm := bytes_of_nums (nums_built .u8 w1 mgH 5 w1.heap.size (7, 8) rfl (by decide))
    refine (layI1_1 _ mgH 3 _ _ hbm (by simp) (by decide)).mono ?_
    rintro e w2 ⟨v2, rfl, hv2, hb⟩
    have hz2 : w1.heap.size ≤ w2.heap.size := by have := hb.size; rw [World.size_alloc] at this; omega
    have u2 : Below w1.heap.size w1 w2 := ((Below.refl _ _).alloc (Nat.le_refl _) _).trans (hb.mono (by rw [World.size_alloc]; omega))
    have h2 := HH.out.below u2 z1
    have HV := Lib.hid hv2
    have hlen := fun k => (s_len h k).1
    have HL := Lib.hid hlen
    have hlens := (s_len h 0).2
    have HLS := Lib.hid hlens
    have HU2 := Lib.hid (HU.out.trans (u2.mono (by omega)))
    have HH2 := Lib.hid h2
    clear hb hbm hcv hlen hlens
    go_wp2_with (first | (refine load_head (by rfl) _ rfl _ rfl _ h (by assumption) ?_) | fail)
    refine (sections_h h _).mono ?_
    rintro e w3 ⟨rfl, hb⟩
    have hz3 := hb.size
    have HU3 := Lib.hid (HU2.out.trans (hb.mono (by omega)))
    have HH3 := Lib.hid (HH2.out.later hb)
    have HV3 := Lib.hid (HV.out.below hb)
    clear hb h2 HV u2
    go_wp2_with fail
    have hIX := fun W => idx_sec (.int .u64 h.rf) (.int .u64 h.rl) (.int .u64 h.mf) (.int .u64 h.ml) (.int .u64 h.lf) (.int .u64 h.ll) (.int .u64 h.df) (.int .u64 h.dl) W
    have HIX := Lib.hid hIX
    clear hIX
    have hw3 : w.heap.size < w3.heap.size := by omega
    go_loopw [5, 19] (fun v i wr => ∃ k : Nat, k ≤ 4 ∧ i = .int .i64 k ∧ Hid (BytesAt wr v (s1 h k)) ∧ Below w3.heap.size w3 wr) (fun _ i _ => 4 - (intOf i).toNat)
    case atStart => exact ⟨0, by omega, rfl, Lib.hid (by have := HV3.out; simpa [s1, s0, upL, flatH] using this), Below.refl _ _⟩
    case round =>
      obtain ⟨k, hk, rfl, HB, hbw⟩ := hrel
      have hzr := hbw.size
      have HHr := Lib.hid (HH3.out.below hbw hw3)
      have HUr := Lib.hid (HU3.out.trans (hbw.mono (by omega)))
      rcases (by omega : k = 0 ∨ k = 1 ∨ k = 2 ∨ k = 3 ∨ k = 4) with rfl | rfl | rfl | rfl | rfl
      · have hI := fun W => (HIX.out W).1
        have hbr := HB.out
        have HLW := Lib.hid (fun W m hb hm => layW2_8 u5 (s1 h 0) h.rf h.rl W m hb hm HM.out.1 HM.out.2.1 (by have := HL.out 0; omega))
        have HT : Hid (s1 h 0 ++ flatH 8 [h.rf, h.rl] = s1 h 1) := Lib.hid (by rw [s1, s1, List.append_assoc, ← flatH_append]; rfl)
        clear hbr
        go_wp2_with fail
        refine (HLW.out _ _ (HB.out.below ((Below.refl _ _).alloc (Nat.le_refl _) _)) (by simp)).mono ?_
        rintro e w4 ⟨v4, rfl, hv4, hb⟩
        have u4 : Below w3.heap.size w3 w4 := (hbw.alloc hzr _).trans (hb.mono (by rw [World.size_alloc]; omega))
        rw [HT.out] at hv4
        have HV4 := Lib.hid hv4
        clear hb hv4
        go_wp2_with fail
        go_roundw
        case rel => exact ⟨1, by omega, by rfl, HV4, u4⟩
        case measure => simp [intOf]
      · have hI := fun W => (HIX.out W).2.1
        have hbr := HB.out
        have HLW := Lib.hid (fun W m hb hm => layW2_8 u5 (s1 h 1) h.mf h.ml W m hb hm HM.out.2.2.1 HM.out.2.2.2.1 (by have := HL.out 1; omega))
        have HT : Hid (s1 h 1 ++ flatH 8 [h.mf, h.ml] = s1 h 2) := Lib.hid (by rw [s1, s1, List.append_assoc, ← flatH_append]; rfl)
        clear hbr
        go_wp2_with fail
        refine (HLW.out _ _ (HB.out.below ((Below.refl _ _).alloc (Nat.le_refl _) _)) (by simp)).mono ?_
        rintro e w4 ⟨v4, rfl, hv4, hb⟩
        have u4 : Below w3.heap.size w3 w4 := (hbw.alloc hzr _).trans (hb.mono (by rw [World.size_alloc]; omega))
        rw [HT.out] at hv4
        have HV4 := Lib.hid hv4
        clear hb hv4
        go_wp2_with fail
        go_roundw
        case rel => exact ⟨2, by omega, by rfl, HV4, u4⟩
        case measure => simp [intOf]
      · have hI := fun W => (HIX.out W).2.2.1
        have hbr := HB.out
        have HLW := Lib.hid (fun W m hb hm => layW2_8 u5 (s1 h 2) h.lf h.ll W m hb hm HM.out.2.2.2.2.1 HM.out.2.2.2.2.2.1 (by have := HL.out 2; omega))
        have HT : Hid (s1 h 2 ++ flatH 8 [h.lf, h.ll] = s1 h 3) := Lib.hid (by rw [s1, s1, List.append_assoc, ← flatH_append]; rfl)
        clear hbr
        go_wp2_with fail
        refine (HLW.out _ _ (HB.out.below ((Below.refl _ _).alloc (Nat.le_refl _) _)) (by simp)).mono ?_
        rintro e w4 ⟨v4, rfl, hv4, hb⟩
        have u4 : Below w3.heap.size w3 w4 := (hbw.alloc hzr _).trans (hb.mono (by rw [World.size_alloc]; omega))
        rw [HT.out] at hv4
        have HV4 := Lib.hid hv4
        clear hb hv4
        go_wp2_with fail
        go_roundw
        case rel => exact ⟨3, by omega, by rfl, HV4, u4⟩
        case measure => simp [intOf]
      · have hI := fun W => (HIX.out W).2.2.2
        have hbr := HB.out
        have HLW := Lib.hid (fun W m hb hm => layW2_8 u5 (s1 h 3) h.df h.dl W m hb hm HM.out.2.2.2.2.2.2.1 HM.out.2.2.2.2.2.2.2.1 (by have := HL.out 3; omega))
        have HT : Hid (s1 h 3 ++ flatH 8 [h.df, h.dl] = s1 h 4) := Lib.hid (by rw [s1, s1, List.append_assoc, ← flatH_append]; rfl)
        clear hbr
        go_wp2_with fail
        refine (HLW.out _ _ (HB.out.below ((Below.refl _ _).alloc (Nat.le_refl _) _)) (by simp)).mono ?_
        rintro e w4 ⟨v4, rfl, hv4, hb⟩
        have u4 : Below w3.heap.size w3 w4 := (hbw.alloc hzr _).trans (hb.mono (by rw [World.size_alloc]; omega))
        rw [HT.out] at hv4
        have HV4 := Lib.hid hv4
        clear hb hv4
        go_wp2_with fail
        go_roundw
        case rel => exact ⟨4, by omega, by rfl, HV4, u4⟩
        case measure => simp [intOf]
      · clear hbw HIX HL HV3 HH3 HU3 HU2 HH2 HH HU
        have HLS0 : (s1 h 4).length ≤ 200 := (s_len h 4).1
        have a8 := at8 HHr.out
        have a9 := at9 HHr.out
        have a10 := at10 HHr.out
        have HLW := Lib.hid (fun W m hb hm => layW3_8 u5 (s1 h 4)  h.ad h.en h.co W m hb hm HM.out.2.2.2.2.2.2.2.2.1 HM.out.2.2.2.2.2.2.2.2.2.1 HM.out.2.2.2.2.2.2.2.2.2.2.1 (by have := HLS0; omega))
        go_wp2_with fail
        refine (HLW.out _ _ HB.out (by simp)).mono ?_
        rintro e w5 ⟨v5, rfl, hv, hb⟩
        have HV5 := Lib.hid hv
        have HH5 := Lib.hid (HHr.out.later hb)
        have HU5 := Lib.hid (HUr.out.trans (hb.mono HUr.out.size))
        have hz5 := hb.size
        clear hb hv a8 a9 a10 HLW HHr HUr
        have a11 := at11 HH5.out
        have a12 := at12 HH5.out
        have a13 := at13 HH5.out
        have a14 := at14 HH5.out
        have HLW := Lib.hid (fun W m hb hm hc => layB4_1 v5 (s2 h) (cl01 h.cl) h.inn h.out h.knd W m hb hm hc HM.out.2.2.2.2.2.2.2.2.2.2.2.1 HM.out.2.2.2.2.2.2.2.2.2.2.2.2.1 HM.out.2.2.2.2.2.2.2.2.2.2.2.2.2 (by have := HLS.out.1; omega))
        have HC8 : Hid (U8 (cl01 h.cl)) := Lib.hid (by unfold cl01 U8; cases h.cl <;> simp)
        have HBd := Lib.hid (HV5.out.below (Below.drew (Below.refl _ _)))
        go_upto_region 11 with fail
        go_cut [5] (fun v wx => BytesAt wx v (s3 h) ∧ Below w5.heap.size w5 wx)
        case first =>
          have hS0 : (fun w' => w'.cell? ⟨w.heap.size, 11, none⟩ = some (.bool h.cl) ∧ w'.cell? ⟨w.heap.size, 12, none⟩ = some (.int .u8 h.inn) ∧ w'.cell? ⟨w.heap.size, 13, none⟩ = some (.int .u8 h.out) ∧ w'.cell? ⟨w.heap.size, 14, none⟩ = some (.int .u8 h.knd)) w5.drew := ⟨cellb_later (Below.drew (Below.refl _ _)) a11, cellb_later (Below.drew (Below.refl _ _)) a12, cellb_later (Below.drew (Below.refl _ _)) a13, cellb_later (Below.drew (Below.refl _ _)) a14⟩
          have HS0 := Lib.hid hS0; clear hS0
          go_region_held3 (fun w' => w'.cell? ⟨w.heap.size, 11, none⟩ = some (.bool h.cl) ∧ w'.cell? ⟨w.heap.size, 12, none⟩ = some (.int .u8 h.inn) ∧ w'.cell? ⟨w.heap.size, 13, none⟩ = some (.int .u8 h.out) ∧ w'.cell? ⟨w.heap.size, 14, none⟩ = some (.int .u8 h.knd)) (first | exact HS0.out | assumption | exact keep4 hb (by assumption) | exact keep4 ((Below.refl _ _).alloc (Nat.le_refl _) _) (by assumption))
            (first | (go_at_call 23; refine (flag_any _ _).mono ?_; rintro e w' ⟨rfl, rfl⟩) | (go_at_call 22; refine (HLW.out _ _ HBd.out (by simp) HC8.out).mono ?_; rintro e w' ⟨v', rfl, hv, hb⟩))
          go_wp2_with fail
          go_meet
          case rel => exact ⟨hv, (Below.drew (Below.refl _ _)).trans hb⟩
        case rest =>
          obtain ⟨hv, hb⟩ := hcut
          generalize wc = w6 at *
          have HV6 := Lib.hid hv
          have HH6 := Lib.hid (HH5.out.later hb)
          have HU6 := Lib.hid (HU5.out.trans (hb.mono HU5.out.size))
          have hz6 := hb.size
          clear hb hv a11 a12 a13 a14 HLW HH5 HU5
          have a15 := at15 HH6.out
          have a16 := at16 HH6.out
          have HLW := Lib.hid (fun W m hb hm => layI2_1 u5 (s3 h)  h.z0 h.z1 W m hb hm  (by have := HLS.out.2.1; omega))
          go_wp2_with fail
          refine (HLW.out _ _ HV6.out (by simp)).mono ?_
          rintro e w7 ⟨v7, rfl, hv, hb⟩
          have HV7 := Lib.hid hv
          have HH7 := Lib.hid (HH6.out.later hb)
          have HU7 := Lib.hid (HU6.out.trans (hb.mono HU6.out.size))
          have hz7 := hb.size
          clear hb hv a15 a16 HLW HH6 HU6
          have a17 := at17 HH7.out
          have a18 := at18 HH7.out
          have a19 := at19 HH7.out
          have a20 := at20 HH7.out
          have HLW := Lib.hid (fun W m hb hm => layI4_4 v7 (s4 h)  h.lo0 h.la0 h.lo1 h.la1 W m hb hm  (by have := HLS.out.2.2.1; omega))
          go_wp2_with fail
          refine (HLW.out _ _ HV7.out (by simp)).mono ?_
          rintro e w8 ⟨v8, rfl, hv, hb⟩
          have HV8 := Lib.hid hv
          have HH8 := Lib.hid (HH7.out.later hb)
          have HU8 := Lib.hid (HU7.out.trans (hb.mono HU7.out.size))
          have hz8 := hb.size
          clear hb hv a17 a18 a19 a20 HLW HH7 HU7
          have a21 := at21 HH8.out
          have HLW := Lib.hid (fun W m hb hm => layI1_1 v8 (s5 h)  h.zm W m hb hm  (by have := HLS.out.2.2.2.1; omega))
          go_wp2_with fail
          refine (HLW.out _ _ HV8.out (by simp)).mono ?_
          rintro e w9 ⟨v9, rfl, hv, hb⟩
          have HV9 := Lib.hid hv
          have HH9 := Lib.hid (HH8.out.later hb)
          have HU9 := Lib.hid (HU8.out.trans (hb.mono HU8.out.size))
          have hz9 := hb.size
          clear hb hv a21 HLW HH8 HU8
          have a22 := at22 HH9.out
          have a23 := at23 HH9.out
          have HLW := Lib.hid (fun W m hb hm => layI2_4 v9 (s6 h)  h.lon h.lat W m hb hm  (by have := HLS.out.2.2.2.2.1; omega))
          go_wp2_with fail
          refine (HLW.out _ _ HV9.out (by simp)).mono ?_
          rintro e w10 ⟨v10, rfl, hv, hb⟩
          have HV10 := Lib.hid hv
          have HH10 := Lib.hid (HH9.out.later hb)
          have HU10 := Lib.hid (HU9.out.trans (hb.mono HU9.out.size))
          have hz10 := hb.size
          clear hb hv a22 a23 HLW HH9 HU9
          have hs := run_str w10 v10 _ HV10.out
          rw [show s6 h ++ flatH 4 [h.lon, h.lat] = bytsH h from s7_bytes h] at hs
          go_wp2_with fail
          go_ret2
          exact ⟨ret_enc HE2.out, HU10.out⟩
  · have hne : (ckH h != 0) = true := by simp only [bne_iff_ne, ne_eq]; exact hc
    have HE2 : Hid ((str [], ckH h) = (str E.1, E.2)) := Lib.hid (by rw [← HE.out, encH, if_neg hc])
    clear hc HE
    obtain ⟨r, hr⟩ : ∃ r, ckH h = r := ⟨_, rfl⟩
    rw [hr] at hne HE2 HCk
    clear hr
    go_enter Try.func8, Try.ntmps8
    go_wp2_with (first | (refine load_head (by rfl) _ rfl _ rfl _ h (by assumption) ?_) | fail)
    refine (HCk.out _).mono ?_
    rintro e w1 ⟨rfl, hb⟩
    have u1 : Below w.heap.size w w1 := Below.trans (by go_grown) (hb.mono (by rw [World.size_alloc]; omega))
    clear hb H0
    go_wp2_with fail
    go_ret2
    exact ⟨ret_enc HE2.out, u1⟩
end Go.Proofs.Ytodjdeilaimjaaa
