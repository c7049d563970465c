/- The contract of Encode, the document's: its bytes, or why there are none. -/
import Derived.Test.YtodjdeilaimjaaaHh
import Derived.Test.YtodjdeilaimjaaaHe
import Derived.Test.YtodjdeilaimjaaaHg
namespace Go.Proofs.Ytodjdeilaimjaaa
open Go.RowKit
set_option linter.unusedVariables false
theorem str_le (l : List Int) (n : Nat) (h : l.length ≤ n) : (str l).size ≤ n := by rw [str_size]; exact h
theorem i8 (x : Int) : (str (leH 8 x)).size ≤ 8 := str_le _ _ (by rw [leH_len]; omega)
theorem i4 (x : Int) : (str (leH 4 x)).size ≤ 8 := str_le _ _ (by rw [leH_len]; omega)
theorem i1 (x : Int) : (str (leH 1 x)).size ≤ 8 := str_le _ _ (by rw [leH_len]; omega)
theorem i16 (x y : Int) : (str (leH 8 x ++ leH 8 y)).size ≤ 16 := str_le _ _ (by rw [List.length_append, leH_len, leH_len]; omega)
/-- What has been laid, step by step. -/
def r1 (h : Hd) : List Int := headH ++ ((leH 8 h.rf ++ leH 8 h.rl) ++ ((leH 8 h.mf ++ leH 8 h.ml) ++ ((leH 8 h.lf ++ leH 8 h.ll) ++ (leH 8 h.df ++ leH 8 h.dl))))
def r2 (h : Hd) : List Int := r1 h ++ (leH 8 h.ad ++ (leH 8 h.en ++ (leH 8 h.co ++ leH 1 (cl01 h.cl))))
def r3 (h : Hd) : List Int := r2 h ++ (leH 1 h.inn ++ (leH 1 h.out ++ (leH 1 h.knd ++ (leH 1 h.z0 ++ leH 1 h.z1))))
def r4 (h : Hd) : List Int := r3 h ++ (leH 4 h.lo0 ++ (leH 4 h.la0 ++ (leH 4 h.lo1 ++ leH 4 h.la1)))
def r5 (h : Hd) : List Int := r4 h ++ (leH 1 h.zm ++ (leH 4 h.lon ++ leH 4 h.lat))
theorem r5_bytes (h : Hd) : r5 h = bytsH h := by
  simp only [r5, r4, r3, r2, r1, bytsH, laysH, widH, numsH, leH_unsg, List.append_assoc, List.append_nil]
theorem r_len (h : Hd) : (r1 h).length ≤ 200 ∧ (r2 h).length ≤ 200 ∧ (r3 h).length ≤ 200 ∧ (r4 h).length ≤ 200 := by
  have h0 : headH.length = 8 := rfl
  simp only [r1, r2, r3, r4, List.length_append, leH_len, h0]
  omega
theorem cut_str {s t : ByteArray} {wx : World} {b : Nat} {T : TypeId} {h : Hd} {w : World} (e : s = t) (hA : HAt wx b T h) (hu : Below w.heap.size w wx) : Value.string s = .string t ∧ HAt wx b T h ∧ Below w.heap.size w wx := ⟨by rw [e], hA, hu⟩
theorem head_lit : (⟨#[80, 77, 84, 105, 108, 101, 115, 3]⟩ : ByteArray) = str headH := by decide
theorem keepR7 {w w' w1 : World} {h : Hd} (hb : Below w'.heap.size w' w1) (H : (fun w' => HAt w' w.heap.size 26 h ∧ w'.cell? ⟨w.heap.size, 0, none⟩ = some (.int .u64 h.rf) ∧ w'.cell? ⟨w.heap.size, 1, none⟩ = some (.int .u64 h.rl) ∧ w'.cell? ⟨w.heap.size, 2, none⟩ = some (.int .u64 h.mf) ∧ w'.cell? ⟨w.heap.size, 3, none⟩ = some (.int .u64 h.ml) ∧ w'.cell? ⟨w.heap.size, 4, none⟩ = some (.int .u64 h.lf) ∧ w'.cell? ⟨w.heap.size, 5, none⟩ = some (.int .u64 h.ll) ∧ w'.cell? ⟨w.heap.size, 6, none⟩ = some (.int .u64 h.df) ∧ w'.cell? ⟨w.heap.size, 7, none⟩ = some (.int .u64 h.dl) ∧ Below w.heap.size w w') w') : (fun w' => HAt w' w.heap.size 26 h ∧ w'.cell? ⟨w.heap.size, 0, none⟩ = some (.int .u64 h.rf) ∧ w'.cell? ⟨w.heap.size, 1, none⟩ = some (.int .u64 h.rl) ∧ w'.cell? ⟨w.heap.size, 2, none⟩ = some (.int .u64 h.mf) ∧ w'.cell? ⟨w.heap.size, 3, none⟩ = some (.int .u64 h.ml) ∧ w'.cell? ⟨w.heap.size, 4, none⟩ = some (.int .u64 h.lf) ∧ w'.cell? ⟨w.heap.size, 5, none⟩ = some (.int .u64 h.ll) ∧ w'.cell? ⟨w.heap.size, 6, none⟩ = some (.int .u64 h.df) ∧ w'.cell? ⟨w.heap.size, 7, none⟩ = some (.int .u64 h.dl) ∧ Below w.heap.size w w') w1 :=
  have hA := H.1.later hb
  ⟨hA, at0 hA, at1 hA, at2 hA, at3 hA, at4 hA, at5 hA, at6 hA, at7 hA, H.2.2.2.2.2.2.2.2.2.trans (hb.mono H.2.2.2.2.2.2.2.2.2.size)⟩
theorem keepR8 {w w' w1 : World} {h : Hd} (hb : Below w'.heap.size w' w1) (H : (fun w' => HAt w' w.heap.size 26 h ∧ w'.cell? ⟨w.heap.size, 8, none⟩ = some (.int .u64 h.ad) ∧ w'.cell? ⟨w.heap.size, 9, none⟩ = some (.int .u64 h.en) ∧ w'.cell? ⟨w.heap.size, 10, none⟩ = some (.int .u64 h.co) ∧ Below w.heap.size w w') w') : (fun w' => HAt w' w.heap.size 26 h ∧ w'.cell? ⟨w.heap.size, 8, none⟩ = some (.int .u64 h.ad) ∧ w'.cell? ⟨w.heap.size, 9, none⟩ = some (.int .u64 h.en) ∧ w'.cell? ⟨w.heap.size, 10, none⟩ = some (.int .u64 h.co) ∧ Below w.heap.size w w') w1 :=
  have hA := H.1.later hb
  ⟨hA, at8 hA, at9 hA, at10 hA, H.2.2.2.2.trans (hb.mono H.2.2.2.2.size)⟩
theorem keepR9 {w w' w1 : World} {h : Hd} (hb : Below w'.heap.size w' w1) (H : (fun w' => HAt w' w.heap.size 26 h ∧ w'.cell? ⟨w.heap.size, 12, none⟩ = some (.int .u8 h.inn) ∧ w'.cell? ⟨w.heap.size, 13, none⟩ = some (.int .u8 h.out) ∧ w'.cell? ⟨w.heap.size, 14, none⟩ = some (.int .u8 h.knd) ∧ w'.cell? ⟨w.heap.size, 15, none⟩ = some (.int .i64 h.z0) ∧ w'.cell? ⟨w.heap.size, 16, none⟩ = some (.int .i64 h.z1) ∧ Below w.heap.size w w') w') : (fun w' => HAt w' w.heap.size 26 h ∧ w'.cell? ⟨w.heap.size, 12, none⟩ = some (.int .u8 h.inn) ∧ w'.cell? ⟨w.heap.size, 13, none⟩ = some (.int .u8 h.out) ∧ w'.cell? ⟨w.heap.size, 14, none⟩ = some (.int .u8 h.knd) ∧ w'.cell? ⟨w.heap.size, 15, none⟩ = some (.int .i64 h.z0) ∧ w'.cell? ⟨w.heap.size, 16, none⟩ = some (.int .i64 h.z1) ∧ Below w.heap.size w w') w1 :=
  have hA := H.1.later hb
  ⟨hA, at12 hA, at13 hA, at14 hA, at15 hA, at16 hA, H.2.2.2.2.2.2.trans (hb.mono H.2.2.2.2.2.2.size)⟩
theorem keepR10 {w w' w1 : World} {h : Hd} (hb : Below w'.heap.size w' w1) (H : (fun w' => HAt w' w.heap.size 26 h ∧ w'.cell? ⟨w.heap.size, 17, none⟩ = some (.int .i64 h.lo0) ∧ w'.cell? ⟨w.heap.size, 18, none⟩ = some (.int .i64 h.la0) ∧ w'.cell? ⟨w.heap.size, 19, none⟩ = some (.int .i64 h.lo1) ∧ w'.cell? ⟨w.heap.size, 20, none⟩ = some (.int .i64 h.la1) ∧ Below w.heap.size w w') w') : (fun w' => HAt w' w.heap.size 26 h ∧ w'.cell? ⟨w.heap.size, 17, none⟩ = some (.int .i64 h.lo0) ∧ w'.cell? ⟨w.heap.size, 18, none⟩ = some (.int .i64 h.la0) ∧ w'.cell? ⟨w.heap.size, 19, none⟩ = some (.int .i64 h.lo1) ∧ w'.cell? ⟨w.heap.size, 20, none⟩ = some (.int .i64 h.la1) ∧ Below w.heap.size w w') w1 :=
  have hA := H.1.later hb
  ⟨hA, at17 hA, at18 hA, at19 hA, at20 hA, H.2.2.2.2.2.trans (hb.mono H.2.2.2.2.2.size)⟩
theorem keepR11 {w w' w1 : World} {h : Hd} (hb : Below w'.heap.size w' w1) (H : (fun w' => HAt w' w.heap.size 26 h ∧ w'.cell? ⟨w.heap.size, 21, none⟩ = some (.int .i64 h.zm) ∧ w'.cell? ⟨w.heap.size, 22, none⟩ = some (.int .i64 h.lon) ∧ w'.cell? ⟨w.heap.size, 23, none⟩ = some (.int .i64 h.lat) ∧ Below w.heap.size w w') w') : (fun w' => HAt w' w.heap.size 26 h ∧ w'.cell? ⟨w.heap.size, 21, none⟩ = some (.int .i64 h.zm) ∧ w'.cell? ⟨w.heap.size, 22, none⟩ = some (.int .i64 h.lon) ∧ w'.cell? ⟨w.heap.size, 23, none⟩ = some (.int .i64 h.lat) ∧ Below w.heap.size w w') w1 :=
  have hA := H.1.later hb
  ⟨hA, at21 hA, at22 hA, at23 hA, H.2.2.2.2.trans (hb.mono H.2.2.2.2.size)⟩
set_option maxRecDepth 20000 in
set_option maxHeartbeats 1000000 in
theorem rencode_any (h : Hd) (w : World) (hm : MayH h) : Calls Try.prog 10 #[.agg (cH h)] w fun e w' => e = .returned (.tuple #[.string (str (encH h).1), .int .i64 (encH h).2]) ∧ Below w.heap.size w w' := by
  have HCk := Lib.hid (fun W => rcheck_any h W hm)
  have HM := Lib.hid hm; clear hm
  have H0 := HAt.made w h 26
  obtain ⟨E, hE⟩ : ∃ E, encH h = E := ⟨_, rfl⟩
  rw [hE]
  have HE := Lib.hid hE; clear hE
  by_cases hc : ckH h = 0
  · have HE2 : Hid ((str (bytsH h), (0 : Int)) = (str E.1, E.2)) := Lib.hid (by rw [← HE.out, encH, if_pos hc])
    rw [hc] at HCk
    have HOK := Lib.hid (ck_zero h hc)
    go_enter Try.func10, Try.ntmps10
    go_wp2_with (first | (refine rload_head (by rfl) _ rfl _ rfl _ h (by assumption) ?_) | fail)
    refine (HCk.out _).mono ?_
    rintro e w1 ⟨rfl, hb⟩
    have h1 := H0.later hb
    have u1 : Below w.heap.size w w1 := Below.trans (by go_grown) (hb.mono (by rw [World.size_alloc]; omega))
    have z1 : w.heap.size < w1.heap.size := h1.lt
    have a11 := at11 h1
    have HH := Lib.hid h1
    have HU := Lib.hid u1
    clear hb H0 h1 u1 hc HCk HE
    go_upto_if 13 with fail
    go_cut [5] (fun c wx => c = .int .u64 (cl01 h.cl) ∧ wx = w1)
    case first =>
      obtain ⟨b, hbl⟩ : ∃ b, h.cl = b := ⟨_, rfl⟩
      rw [hbl]
      cases b
      · go_wp2_with fail
        go_meet
        case rel => exact ⟨by rw [hbl]; rfl, rfl⟩
      · go_wp2_with fail
        go_meet
        case rel => exact ⟨by rw [hbl]; rfl, rfl⟩
    case rest =>
      obtain ⟨rfl, rfl⟩ := hcut
      generalize wc = w1 at *
      clear a11
      have HB_cl : U64 (cl01 h.cl) := by unfold cl01 U64; cases h.cl <;> simp
      have HZo := HOK.out.2.2.1
      have HDo := HOK.out.2.2.2
      simp only [ZoomsB, DegB, Bool.and_eq_true, decide_eq_true_eq] at HZo HDo
      have HB_z0 : U64 h.z0 := by unfold U64; omega
      have HB_z1 : U64 h.z1 := by unfold U64; omega
      have HB_zm : U64 h.zm := by unfold U64; omega
      have HG_lo0 : -2147483648 ≤ h.lo0 ∧ h.lo0 < 2147483648 := by omega
      have HG_la0 : -2147483648 ≤ h.la0 ∧ h.la0 < 2147483648 := by omega
      have HG_lo1 : -2147483648 ≤ h.lo1 ∧ h.lo1 < 2147483648 := by omega
      have HG_la1 : -2147483648 ≤ h.la1 ∧ h.la1 < 2147483648 := by omega
      have HG_lon : -2147483648 ≤ h.lon ∧ h.lon < 2147483648 := by omega
      have HG_lat : -2147483648 ≤ h.lat ∧ h.lat < 2147483648 := by omega
      have HW_z0 : IntKind.u64.wrap h.z0 = h.z0 := by rw [wrap_u64]; omega
      have HW_z1 : IntKind.u64.wrap h.z1 = h.z1 := by rw [wrap_u64]; omega
      have HW_zm : IntKind.u64.wrap h.zm = h.zm := by rw [wrap_u64]; omega
      have HW_inn : IntKind.u64.wrap h.inn = h.inn := by have := HM.out.2.2.2.2.2.2.2.2.2.2.2.1; unfold U8 at this; rw [wrap_u64]; omega
      have HW_out : IntKind.u64.wrap h.out = h.out := by have := HM.out.2.2.2.2.2.2.2.2.2.2.2.2.1; unfold U8 at this; rw [wrap_u64]; omega
      have HW_knd : IntKind.u64.wrap h.knd = h.knd := by have := HM.out.2.2.2.2.2.2.2.2.2.2.2.2.2; unfold U8 at this; rw [wrap_u64]; omega
      have hrl := r_len h
      obtain ⟨p, hls⟩ : ∃ p, (⟨#[80, 77, 84, 105, 108, 101, 115, 3]⟩ : ByteArray) = p := ⟨_, rfl⟩
      have ip_ : p.size ≤ 200 := by rw [← hls]; decide
      have K0 := Lib.hid (fun W => section_any h.rf h.rl W HM.out.1 HM.out.2.1)
      have i0_ := i16 h.rf h.rl
      have K1 := Lib.hid (fun W => section_any h.mf h.ml W HM.out.2.2.1 HM.out.2.2.2.1)
      have i1_ := i16 h.mf h.ml
      have K2 := Lib.hid (fun W => section_any h.lf h.ll W HM.out.2.2.2.2.1 HM.out.2.2.2.2.2.1)
      have i2_ := i16 h.lf h.ll
      have K3 := Lib.hid (fun W => section_any h.df h.dl W HM.out.2.2.2.2.2.2.1 HM.out.2.2.2.2.2.2.2.1)
      have i3_ := i16 h.df h.dl
      obtain ⟨x0, hx0⟩ : ∃ x, str (leH 8 h.rf ++ leH 8 h.rl) = x := ⟨_, rfl⟩
      rw [hx0] at K0 i0_
      obtain ⟨x1, hx1⟩ : ∃ x, str (leH 8 h.mf ++ leH 8 h.ml) = x := ⟨_, rfl⟩
      rw [hx1] at K1 i1_
      obtain ⟨x2, hx2⟩ : ∃ x, str (leH 8 h.lf ++ leH 8 h.ll) = x := ⟨_, rfl⟩
      rw [hx2] at K2 i2_
      obtain ⟨x3, hx3⟩ : ∃ x, str (leH 8 h.df ++ leH 8 h.dl) = x := ⟨_, rfl⟩
      rw [hx3] at K3 i3_
      have HT : Hid ((((p ++ x0) ++ x1) ++ x2) ++ x3 = str (r1 h)) := Lib.hid (by rw [← hls, ← hx0, ← hx1, ← hx2, ← hx3]; simp only [head_lit, str_append, r1, List.append_assoc])
      have g0 : ¬ 9223372036854775807 < p.size + x0.size := by omega
      have g1 : ¬ 9223372036854775807 < p.size + x0.size + x1.size := by omega
      have g2 : ¬ 9223372036854775807 < p.size + x0.size + x1.size + x2.size := by omega
      have g3 : ¬ 9223372036854775807 < p.size + x0.size + x1.size + x2.size + x3.size := by omega
      clear  hx0 hx1 hx2 hx3
      have HS0 : Hid ((fun w' => HAt w' w.heap.size 26 h ∧ w'.cell? ⟨w.heap.size, 0, none⟩ = some (.int .u64 h.rf) ∧ w'.cell? ⟨w.heap.size, 1, none⟩ = some (.int .u64 h.rl) ∧ w'.cell? ⟨w.heap.size, 2, none⟩ = some (.int .u64 h.mf) ∧ w'.cell? ⟨w.heap.size, 3, none⟩ = some (.int .u64 h.ml) ∧ w'.cell? ⟨w.heap.size, 4, none⟩ = some (.int .u64 h.lf) ∧ w'.cell? ⟨w.heap.size, 5, none⟩ = some (.int .u64 h.ll) ∧ w'.cell? ⟨w.heap.size, 6, none⟩ = some (.int .u64 h.df) ∧ w'.cell? ⟨w.heap.size, 7, none⟩ = some (.int .u64 h.dl) ∧ Below w.heap.size w w') w1.drew) := Lib.hid ⟨HH.out.later (Below.drew (Below.refl _ _)), at0 (HH.out.later (Below.drew (Below.refl _ _))), at1 (HH.out.later (Below.drew (Below.refl _ _))), at2 (HH.out.later (Below.drew (Below.refl _ _))), at3 (HH.out.later (Below.drew (Below.refl _ _))), at4 (HH.out.later (Below.drew (Below.refl _ _))), at5 (HH.out.later (Below.drew (Below.refl _ _))), at6 (HH.out.later (Below.drew (Below.refl _ _))), at7 (HH.out.later (Below.drew (Below.refl _ _))), HU.out.drew⟩
      go_upto_region 7 with fail
      go_cut [6] (fun s wx => s = .string (str (r1 h)) ∧ HAt wx w.heap.size 26 h ∧ Below w.heap.size w wx)
      case first =>
        go_region_held3 (fun w' => HAt w' w.heap.size 26 h ∧ w'.cell? ⟨w.heap.size, 0, none⟩ = some (.int .u64 h.rf) ∧ w'.cell? ⟨w.heap.size, 1, none⟩ = some (.int .u64 h.rl) ∧ w'.cell? ⟨w.heap.size, 2, none⟩ = some (.int .u64 h.mf) ∧ w'.cell? ⟨w.heap.size, 3, none⟩ = some (.int .u64 h.ml) ∧ w'.cell? ⟨w.heap.size, 4, none⟩ = some (.int .u64 h.lf) ∧ w'.cell? ⟨w.heap.size, 5, none⟩ = some (.int .u64 h.ll) ∧ w'.cell? ⟨w.heap.size, 6, none⟩ = some (.int .u64 h.df) ∧ w'.cell? ⟨w.heap.size, 7, none⟩ = some (.int .u64 h.dl) ∧ Below w.heap.size w w') (first | exact HS0.out | exact keepR7 hb (by assumption))
          (first | (go_at_call_of 24 h.rf; refine (K0.out _).mono ?_; rintro e w' ⟨rfl, hb⟩) | (go_at_call_of 24 h.mf; refine (K1.out _).mono ?_; rintro e w' ⟨rfl, hb⟩) | (go_at_call_of 24 h.lf; refine (K2.out _).mono ?_; rintro e w' ⟨rfl, hb⟩) | (go_at_call_of 24 h.df; refine (K3.out _).mono ?_; rintro e w' ⟨rfl, hb⟩))
        go_wp2_with fail
        go_meet
        case rel =>
          refine cut_str HT.out ?_ ?_
          · go_split_ands; assumption
          · go_split_ands; assumption
      case rest =>
        obtain ⟨rfl, hA, hU⟩ := hcut
        generalize wc = w2 at *
        have HH2 := Lib.hid hA
        have HU2 := Lib.hid hU
        clear hA hU HS0 HT K0 i0_ g0 K1 i1_ g1 K2 i2_ g2 K3 i3_ g3 ip_ hls
        have K0 := Lib.hid (fun W => word8 h.ad W HM.out.2.2.2.2.2.2.2.2.1)
        have i0_ := i8 h.ad
        have K1 := Lib.hid (fun W => word8 h.en W HM.out.2.2.2.2.2.2.2.2.2.1)
        have i1_ := i8 h.en
        have K2 := Lib.hid (fun W => word8 h.co W HM.out.2.2.2.2.2.2.2.2.2.2.1)
        have i2_ := i8 h.co
        have K3 := Lib.hid (fun W => word1 (cl01 h.cl) W HB_cl)
        have i3_ := i1 (cl01 h.cl)
        obtain ⟨x0, hx0⟩ : ∃ x, str (leH 8 h.ad) = x := ⟨_, rfl⟩
        rw [hx0] at K0 i0_
        obtain ⟨x1, hx1⟩ : ∃ x, str (leH 8 h.en) = x := ⟨_, rfl⟩
        rw [hx1] at K1 i1_
        obtain ⟨x2, hx2⟩ : ∃ x, str (leH 8 h.co) = x := ⟨_, rfl⟩
        rw [hx2] at K2 i2_
        obtain ⟨x3, hx3⟩ : ∃ x, str (leH 1 (cl01 h.cl)) = x := ⟨_, rfl⟩
        rw [hx3] at K3 i3_
        have ip_ : (str (r1 h)).size ≤ 200 := str_le _ _ hrl.1
        obtain ⟨p, hp⟩ : ∃ p, str (r1 h) = p := ⟨_, rfl⟩
        rw [hp] at ip_
        have HT : Hid ((((p ++ x0) ++ x1) ++ x2) ++ x3 = str (r2 h)) := Lib.hid (by rw [← hp, ← hx0, ← hx1, ← hx2, ← hx3]; simp only [str_append, r2, List.append_assoc])
        have g0 : ¬ 9223372036854775807 < p.size + x0.size := by omega
        have g1 : ¬ 9223372036854775807 < p.size + x0.size + x1.size := by omega
        have g2 : ¬ 9223372036854775807 < p.size + x0.size + x1.size + x2.size := by omega
        have g3 : ¬ 9223372036854775807 < p.size + x0.size + x1.size + x2.size + x3.size := by omega
        rw [hp]
        clear hp hx0 hx1 hx2 hx3
        have HS0 : Hid ((fun w' => HAt w' w.heap.size 26 h ∧ w'.cell? ⟨w.heap.size, 8, none⟩ = some (.int .u64 h.ad) ∧ w'.cell? ⟨w.heap.size, 9, none⟩ = some (.int .u64 h.en) ∧ w'.cell? ⟨w.heap.size, 10, none⟩ = some (.int .u64 h.co) ∧ Below w.heap.size w w') w2.drew) := Lib.hid ⟨HH2.out.later (Below.drew (Below.refl _ _)), at8 (HH2.out.later (Below.drew (Below.refl _ _))), at9 (HH2.out.later (Below.drew (Below.refl _ _))), at10 (HH2.out.later (Below.drew (Below.refl _ _))), HU2.out.drew⟩
        go_upto_region 8 with fail
        go_cut [6] (fun s wx => s = .string (str (r2 h)) ∧ HAt wx w.heap.size 26 h ∧ Below w.heap.size w wx)
        case first =>
          go_region_held3 (fun w' => HAt w' w.heap.size 26 h ∧ w'.cell? ⟨w.heap.size, 8, none⟩ = some (.int .u64 h.ad) ∧ w'.cell? ⟨w.heap.size, 9, none⟩ = some (.int .u64 h.en) ∧ w'.cell? ⟨w.heap.size, 10, none⟩ = some (.int .u64 h.co) ∧ Below w.heap.size w w') (first | exact HS0.out | exact keepR8 hb (by assumption))
            (first | (go_at_call_of 25 h.ad; refine (K0.out _).mono ?_; rintro e w' ⟨rfl, hb⟩) | (go_at_call_of 25 h.en; refine (K1.out _).mono ?_; rintro e w' ⟨rfl, hb⟩) | (go_at_call_of 25 h.co; refine (K2.out _).mono ?_; rintro e w' ⟨rfl, hb⟩) | (go_at_call_of 25 (cl01 h.cl); refine (K3.out _).mono ?_; rintro e w' ⟨rfl, hb⟩))
          go_wp2_with fail
          go_meet
          case rel =>
            refine cut_str HT.out ?_ ?_
            · go_split_ands; assumption
            · go_split_ands; assumption
        case rest =>
          obtain ⟨rfl, hA, hU⟩ := hcut
          generalize wc = w3 at *
          have HH3 := Lib.hid hA
          have HU3 := Lib.hid hU
          clear hA hU HS0 HT K0 i0_ g0 K1 i1_ g1 K2 i2_ g2 K3 i3_ g3 ip_
          have K0 := Lib.hid (fun W => word1 h.inn W (by have := HM.out.2.2.2.2.2.2.2.2.2.2.2.1; unfold U8 at this; unfold U64; omega))
          have i0_ := i1 h.inn
          have K1 := Lib.hid (fun W => word1 h.out W (by have := HM.out.2.2.2.2.2.2.2.2.2.2.2.2.1; unfold U8 at this; unfold U64; omega))
          have i1_ := i1 h.out
          have K2 := Lib.hid (fun W => word1 h.knd W (by have := HM.out.2.2.2.2.2.2.2.2.2.2.2.2.2; unfold U8 at this; unfold U64; omega))
          have i2_ := i1 h.knd
          have K3 := Lib.hid (fun W => word1 h.z0 W HB_z0)
          have i3_ := i1 h.z0
          have K4 := Lib.hid (fun W => word1 h.z1 W HB_z1)
          have i4_ := i1 h.z1
          obtain ⟨x0, hx0⟩ : ∃ x, str (leH 1 h.inn) = x := ⟨_, rfl⟩
          rw [hx0] at K0 i0_
          obtain ⟨x1, hx1⟩ : ∃ x, str (leH 1 h.out) = x := ⟨_, rfl⟩
          rw [hx1] at K1 i1_
          obtain ⟨x2, hx2⟩ : ∃ x, str (leH 1 h.knd) = x := ⟨_, rfl⟩
          rw [hx2] at K2 i2_
          obtain ⟨x3, hx3⟩ : ∃ x, str (leH 1 h.z0) = x := ⟨_, rfl⟩
          rw [hx3] at K3 i3_
          obtain ⟨x4, hx4⟩ : ∃ x, str (leH 1 h.z1) = x := ⟨_, rfl⟩
          rw [hx4] at K4 i4_
          have ip_ : (str (r2 h)).size ≤ 200 := str_le _ _ hrl.2.1
          obtain ⟨p, hp⟩ : ∃ p, str (r2 h) = p := ⟨_, rfl⟩
          rw [hp] at ip_
          have HT : Hid (((((p ++ x0) ++ x1) ++ x2) ++ x3) ++ x4 = str (r3 h)) := Lib.hid (by rw [← hp, ← hx0, ← hx1, ← hx2, ← hx3, ← hx4]; simp only [str_append, r3, List.append_assoc])
          have g0 : ¬ 9223372036854775807 < p.size + x0.size := by omega
          have g1 : ¬ 9223372036854775807 < p.size + x0.size + x1.size := by omega
          have g2 : ¬ 9223372036854775807 < p.size + x0.size + x1.size + x2.size := by omega
          have g3 : ¬ 9223372036854775807 < p.size + x0.size + x1.size + x2.size + x3.size := by omega
          have g4 : ¬ 9223372036854775807 < p.size + x0.size + x1.size + x2.size + x3.size + x4.size := by omega
          rw [hp]
          clear hp hx0 hx1 hx2 hx3 hx4
          have HS0 : Hid ((fun w' => HAt w' w.heap.size 26 h ∧ w'.cell? ⟨w.heap.size, 12, none⟩ = some (.int .u8 h.inn) ∧ w'.cell? ⟨w.heap.size, 13, none⟩ = some (.int .u8 h.out) ∧ w'.cell? ⟨w.heap.size, 14, none⟩ = some (.int .u8 h.knd) ∧ w'.cell? ⟨w.heap.size, 15, none⟩ = some (.int .i64 h.z0) ∧ w'.cell? ⟨w.heap.size, 16, none⟩ = some (.int .i64 h.z1) ∧ Below w.heap.size w w') w3.drew) := Lib.hid ⟨HH3.out.later (Below.drew (Below.refl _ _)), at12 (HH3.out.later (Below.drew (Below.refl _ _))), at13 (HH3.out.later (Below.drew (Below.refl _ _))), at14 (HH3.out.later (Below.drew (Below.refl _ _))), at15 (HH3.out.later (Below.drew (Below.refl _ _))), at16 (HH3.out.later (Below.drew (Below.refl _ _))), HU3.out.drew⟩
          go_upto_region 9 with fail
          go_cut [6] (fun s wx => s = .string (str (r3 h)) ∧ HAt wx w.heap.size 26 h ∧ Below w.heap.size w wx)
          case first =>
            go_region_held3 (fun w' => HAt w' w.heap.size 26 h ∧ w'.cell? ⟨w.heap.size, 12, none⟩ = some (.int .u8 h.inn) ∧ w'.cell? ⟨w.heap.size, 13, none⟩ = some (.int .u8 h.out) ∧ w'.cell? ⟨w.heap.size, 14, none⟩ = some (.int .u8 h.knd) ∧ w'.cell? ⟨w.heap.size, 15, none⟩ = some (.int .i64 h.z0) ∧ w'.cell? ⟨w.heap.size, 16, none⟩ = some (.int .i64 h.z1) ∧ Below w.heap.size w w') (first | exact HS0.out | exact keepR9 hb (by assumption))
              (first | (go_at_call_of 25 h.inn; refine (K0.out _).mono ?_; rintro e w' ⟨rfl, hb⟩) | (go_at_call_of 25 h.out; refine (K1.out _).mono ?_; rintro e w' ⟨rfl, hb⟩) | (go_at_call_of 25 h.knd; refine (K2.out _).mono ?_; rintro e w' ⟨rfl, hb⟩) | (go_at_call_of 25 h.z0; refine (K3.out _).mono ?_; rintro e w' ⟨rfl, hb⟩) | (go_at_call_of 25 h.z1; refine (K4.out _).mono ?_; rintro e w' ⟨rfl, hb⟩))
            go_wp2_with fail
            go_meet
            case rel =>
              refine cut_str HT.out ?_ ?_
              · go_split_ands; assumption
              · go_split_ands; assumption
          case rest =>
            obtain ⟨rfl, hA, hU⟩ := hcut
            generalize wc = w4 at *
            have HH4 := Lib.hid hA
            have HU4 := Lib.hid hU
            clear hA hU HS0 HT K0 i0_ g0 K1 i1_ g1 K2 i2_ g2 K3 i3_ g3 K4 i4_ g4 ip_
            have K0 := Lib.hid (fun W => signed_any h.lo0 W HG_lo0.1 HG_lo0.2)
            have i0_ := i4 h.lo0
            have K1 := Lib.hid (fun W => signed_any h.la0 W HG_la0.1 HG_la0.2)
            have i1_ := i4 h.la0
            have K2 := Lib.hid (fun W => signed_any h.lo1 W HG_lo1.1 HG_lo1.2)
            have i2_ := i4 h.lo1
            have K3 := Lib.hid (fun W => signed_any h.la1 W HG_la1.1 HG_la1.2)
            have i3_ := i4 h.la1
            obtain ⟨x0, hx0⟩ : ∃ x, str (leH 4 h.lo0) = x := ⟨_, rfl⟩
            rw [hx0] at K0 i0_
            obtain ⟨x1, hx1⟩ : ∃ x, str (leH 4 h.la0) = x := ⟨_, rfl⟩
            rw [hx1] at K1 i1_
            obtain ⟨x2, hx2⟩ : ∃ x, str (leH 4 h.lo1) = x := ⟨_, rfl⟩
            rw [hx2] at K2 i2_
            obtain ⟨x3, hx3⟩ : ∃ x, str (leH 4 h.la1) = x := ⟨_, rfl⟩
            rw [hx3] at K3 i3_
            have ip_ : (str (r3 h)).size ≤ 200 := str_le _ _ hrl.2.2.1
            obtain ⟨p, hp⟩ : ∃ p, str (r3 h) = p := ⟨_, rfl⟩
            rw [hp] at ip_
            have HT : Hid ((((p ++ x0) ++ x1) ++ x2) ++ x3 = str (r4 h)) := Lib.hid (by rw [← hp, ← hx0, ← hx1, ← hx2, ← hx3]; simp only [str_append, r4, List.append_assoc])
            have g0 : ¬ 9223372036854775807 < p.size + x0.size := by omega
            have g1 : ¬ 9223372036854775807 < p.size + x0.size + x1.size := by omega
            have g2 : ¬ 9223372036854775807 < p.size + x0.size + x1.size + x2.size := by omega
            have g3 : ¬ 9223372036854775807 < p.size + x0.size + x1.size + x2.size + x3.size := by omega
            rw [hp]
            clear hp hx0 hx1 hx2 hx3
            have HS0 : Hid ((fun w' => HAt w' w.heap.size 26 h ∧ w'.cell? ⟨w.heap.size, 17, none⟩ = some (.int .i64 h.lo0) ∧ w'.cell? ⟨w.heap.size, 18, none⟩ = some (.int .i64 h.la0) ∧ w'.cell? ⟨w.heap.size, 19, none⟩ = some (.int .i64 h.lo1) ∧ w'.cell? ⟨w.heap.size, 20, none⟩ = some (.int .i64 h.la1) ∧ Below w.heap.size w w') w4.drew) := Lib.hid ⟨HH4.out.later (Below.drew (Below.refl _ _)), at17 (HH4.out.later (Below.drew (Below.refl _ _))), at18 (HH4.out.later (Below.drew (Below.refl _ _))), at19 (HH4.out.later (Below.drew (Below.refl _ _))), at20 (HH4.out.later (Below.drew (Below.refl _ _))), HU4.out.drew⟩
            go_upto_region 10 with fail
            go_cut [6] (fun s wx => s = .string (str (r4 h)) ∧ HAt wx w.heap.size 26 h ∧ Below w.heap.size w wx)
            case first =>
              go_region_held3 (fun w' => HAt w' w.heap.size 26 h ∧ w'.cell? ⟨w.heap.size, 17, none⟩ = some (.int .i64 h.lo0) ∧ w'.cell? ⟨w.heap.size, 18, none⟩ = some (.int .i64 h.la0) ∧ w'.cell? ⟨w.heap.size, 19, none⟩ = some (.int .i64 h.lo1) ∧ w'.cell? ⟨w.heap.size, 20, none⟩ = some (.int .i64 h.la1) ∧ Below w.heap.size w w') (first | exact HS0.out | exact keepR10 hb (by assumption))
                (first | (go_at_call_of 26 h.lo0; refine (K0.out _).mono ?_; rintro e w' ⟨rfl, hb⟩) | (go_at_call_of 26 h.la0; refine (K1.out _).mono ?_; rintro e w' ⟨rfl, hb⟩) | (go_at_call_of 26 h.lo1; refine (K2.out _).mono ?_; rintro e w' ⟨rfl, hb⟩) | (go_at_call_of 26 h.la1; refine (K3.out _).mono ?_; rintro e w' ⟨rfl, hb⟩))
              go_wp2_with fail
              go_meet
              case rel =>
                refine cut_str HT.out ?_ ?_
                · go_split_ands; assumption
                · go_split_ands; assumption
            case rest =>
              obtain ⟨rfl, hA, hU⟩ := hcut
              generalize wc = w5 at *
              have HH5 := Lib.hid hA
              have HU5 := Lib.hid hU
              clear hA hU HS0 HT K0 i0_ g0 K1 i1_ g1 K2 i2_ g2 K3 i3_ g3 ip_
              have K0 := Lib.hid (fun W => word1 h.zm W HB_zm)
              have i0_ := i1 h.zm
              have K1 := Lib.hid (fun W => signed_any h.lon W HG_lon.1 HG_lon.2)
              have i1_ := i4 h.lon
              have K2 := Lib.hid (fun W => signed_any h.lat W HG_lat.1 HG_lat.2)
              have i2_ := i4 h.lat
              obtain ⟨x0, hx0⟩ : ∃ x, str (leH 1 h.zm) = x := ⟨_, rfl⟩
              rw [hx0] at K0 i0_
              obtain ⟨x1, hx1⟩ : ∃ x, str (leH 4 h.lon) = x := ⟨_, rfl⟩
              rw [hx1] at K1 i1_
              obtain ⟨x2, hx2⟩ : ∃ x, str (leH 4 h.lat) = x := ⟨_, rfl⟩
              rw [hx2] at K2 i2_
              have ip_ : (str (r4 h)).size ≤ 200 := str_le _ _ hrl.2.2.2
              obtain ⟨p, hp⟩ : ∃ p, str (r4 h) = p := ⟨_, rfl⟩
              rw [hp] at ip_
              have HT : Hid (((p ++ x0) ++ x1) ++ x2 = str (r5 h)) := Lib.hid (by rw [← hp, ← hx0, ← hx1, ← hx2]; simp only [str_append, r5, List.append_assoc])
              have g0 : ¬ 9223372036854775807 < p.size + x0.size := by omega
              have g1 : ¬ 9223372036854775807 < p.size + x0.size + x1.size := by omega
              have g2 : ¬ 9223372036854775807 < p.size + x0.size + x1.size + x2.size := by omega
              rw [hp]
              clear hp hx0 hx1 hx2
              have HS0 : Hid ((fun w' => HAt w' w.heap.size 26 h ∧ w'.cell? ⟨w.heap.size, 21, none⟩ = some (.int .i64 h.zm) ∧ w'.cell? ⟨w.heap.size, 22, none⟩ = some (.int .i64 h.lon) ∧ w'.cell? ⟨w.heap.size, 23, none⟩ = some (.int .i64 h.lat) ∧ Below w.heap.size w w') w5.drew) := Lib.hid ⟨HH5.out.later (Below.drew (Below.refl _ _)), at21 (HH5.out.later (Below.drew (Below.refl _ _))), at22 (HH5.out.later (Below.drew (Below.refl _ _))), at23 (HH5.out.later (Below.drew (Below.refl _ _))), HU5.out.drew⟩
              go_upto_region 11 with fail
              go_region_held3 (fun w' => HAt w' w.heap.size 26 h ∧ w'.cell? ⟨w.heap.size, 21, none⟩ = some (.int .i64 h.zm) ∧ w'.cell? ⟨w.heap.size, 22, none⟩ = some (.int .i64 h.lon) ∧ w'.cell? ⟨w.heap.size, 23, none⟩ = some (.int .i64 h.lat) ∧ Below w.heap.size w w') (first | exact HS0.out | exact keepR11 hb (by assumption))
                (first | (go_at_call_of 25 h.zm; refine (K0.out _).mono ?_; rintro e w' ⟨rfl, hb⟩) | (go_at_call_of 26 h.lon; refine (K1.out _).mono ?_; rintro e w' ⟨rfl, hb⟩) | (go_at_call_of 26 h.lat; refine (K2.out _).mono ?_; rintro e w' ⟨rfl, hb⟩))
              go_wp2_with fail
              go_ret2
              rw [r5_bytes] at HT
              refine ⟨ret_enc (HE2.out ▸ by rw [HT.out]), ?_⟩
              go_split_ands; assumption
  · have hne : (ckH h != 0) = true := by simp only [bne_iff_ne, ne_eq]; exact hc
    have HE2 : Hid ((str [], ckH h) = (str E.1, E.2)) := Lib.hid (by rw [← HE.out, encH, if_neg hc])
    clear hc HE
    obtain ⟨r, hr⟩ : ∃ r, ckH h = r := ⟨_, rfl⟩
    rw [hr] at hne HE2 HCk
    clear hr
    go_enter Try.func10, Try.ntmps10
    go_wp2_with (first | (refine rload_head (by rfl) _ rfl _ rfl _ h (by assumption) ?_) | fail)
    refine (HCk.out _).mono ?_
    rintro e w1 ⟨rfl, hb⟩
    have u1 : Below w.heap.size w w1 := Below.trans (by go_grown) (hb.mono (by rw [World.size_alloc]; omega))
    clear hb H0
    go_wp2_with fail
    go_ret2
    exact ⟨ret_enc HE2.out, u1⟩
end Go.Proofs.Ytodjdeilaimjaaa
