/- The contract of Decode, the document's: the header that a text's bytes tell, or why there is none. -/
import Derived.Test.YtodjdeilaimjaaaHl
import Derived.Test.YtodjdeilaimjaaaHe
namespace Go.Proofs.Ytodjdeilaimjaaa
open Go.RowKit
set_option linter.unusedVariables false
theorem byte_at (t : ByteArray) (i : Nat) (h : i < t.size) : ((t[i]'h).toNat : Int) = nmB t i 1 := by
  rw [nmB_one, bl]
  have h1 : i < (t.data.toList.map (fun c => (c.toNat : Int))).length := by simpa using h
  rw [List.getD_eq_getElem?_getD, List.getElem?_eq_getElem h1]
  simp
  rfl
theorem str_ne {s : ByteArray} {l : List UInt8} (h : s ≠ ⟨l.toArray⟩) : (s.toList == l) = false := by
  rw [beq_eq_false_iff_ne, ByteArray.toList_eq]
  intro e
  apply h
  apply ByteArray.ext
  apply Array.ext'
  exact e
theorem str_eq {s : ByteArray} {l : List UInt8} (h : s = ⟨l.toArray⟩) : (s.toList == l) = true := by
  subst h
  rw [ByteArray.toList_eq]
  simp
set_option maxRecDepth 20000 in
theorem rdecode_short (t : ByteArray) (w : World) (h127 : t.size < 127) : Calls Try.prog 18 #[.string t] w fun e w' => e = .returned (.tuple #[.agg (cH zeroH), .int .i64 3]) ∧ Below w.heap.size w w' := by
  have HZ := HAt.zero w 26
  have hd : decide ((t.size : Int) < 127) = true := by simp; omega
  clear h127
  go_enter Try.func18, Try.ntmps18
  go_wp2_with (first | (refine rstore_head (by rfl) _ _ rfl _ rfl zeroH rfl _ zeroH (by assumption) rfl ?_; intro w2 HP) | fail)
  refine bodyPost_ret (v := .tuple #[.agg (cH zeroH), .int .i64 3]) (rresults_head Try.results18 _ _ _ _ _ _ rfl rfl HP.1) rfl ⟨rfl, HP.2.2.1 _ _ (Nat.le_refl _) ((Below.refl _ _).alloc (Nat.le_refl _) _)⟩
set_option maxRecDepth 20000 in
theorem rdecode_magic (t : ByteArray) (w : World) (h127 : 127 ≤ t.size) (hn : t.extract 0 7 ≠ ⟨#[80, 77, 84, 105, 108, 101, 115]⟩) : Calls Try.prog 18 #[.string t] w fun e w' => e = .returned (.tuple #[.agg (cH zeroH), .int .i64 12]) ∧ Below w.heap.size w w' := by
  have HZ := HAt.zero w 26
  have hd : decide ((t.size : Int) < 127) = false := by simp; omega
  have h7 : (7 : Int) ≤ (t.size : Int) := by omega
  obtain ⟨s7, hs7⟩ : ∃ s, t.extract 0 7 = s := ⟨_, rfl⟩
  rw [hs7] at hn
  have hne := str_ne hn
  clear hn h127
  go_enter Try.func18, Try.ntmps18
  go_wp2_with (first | (refine rstore_head (by rfl) _ _ rfl _ rfl zeroH rfl _ zeroH (by assumption) rfl ?_; intro w2 HP) | fail)
  refine bodyPost_ret (v := .tuple #[.agg (cH zeroH), .int .i64 12]) (rresults_head Try.results18 _ _ _ _ _ _ rfl rfl HP.1) rfl ⟨rfl, HP.2.2.1 _ _ (Nat.le_refl _) ((Below.refl _ _).alloc (Nat.le_refl _) _)⟩
set_option maxRecDepth 20000 in
theorem rdecode_version (t : ByteArray) (w : World) (h127 : 127 ≤ t.size) (hn : t.extract 0 7 = ⟨#[80, 77, 84, 105, 108, 101, 115]⟩) (hv : nmB t 7 1 ≠ 3) : Calls Try.prog 18 #[.string t] w fun e w' => e = .returned (.tuple #[.agg (cH zeroH), .int .i64 13]) ∧ Below w.heap.size w w' := by
  have HZ := HAt.zero w 26
  have hd : decide ((t.size : Int) < 127) = false := by simp; omega
  have h7 : (7 : Int) ≤ (t.size : Int) := by omega
  obtain ⟨s7, hs7⟩ : ∃ s, t.extract 0 7 = s := ⟨_, rfl⟩
  rw [hs7] at hn
  have hne := str_eq hn
  clear hn
  have b7 := byte_at t 7 (by omega)
  have hv2 : (nmB t 7 1 != 3) = true := by simp only [bne_iff_ne, ne_eq]; exact hv
  obtain ⟨x, hx⟩ : ∃ x, nmB t 7 1 = x := ⟨_, rfl⟩
  rw [hx] at hv2 b7
  clear hx hv
  have g7 : (7 : Int) < (t.size : Int) := by omega
  go_enter Try.func18, Try.ntmps18
  go_wp2_with (first | (refine rstore_head (by rfl) _ _ rfl _ rfl zeroH rfl _ zeroH (by assumption) rfl ?_; intro w2 HP) | fail)
  refine bodyPost_ret (v := .tuple #[.agg (cH zeroH), .int .i64 13]) (rresults_head Try.results18 _ _ _ _ _ _ rfl rfl HP.1) rfl ⟨rfl, HP.2.2.1 _ _ (Nat.le_refl _) ((Below.refl _ _).alloc (Nat.le_refl _) _)⟩
set_option maxRecDepth 20000 in
theorem rdecode_form (t : ByteArray) (w : World) (h127 : 127 ≤ t.size) (hn : t.extract 0 7 = ⟨#[80, 77, 84, 105, 108, 101, 115]⟩) (hv : nmB t 7 1 = 3) (hf : 1 < nmB t 96 1) : Calls Try.prog 18 #[.string t] w fun e w' => e = .returned (.tuple #[.agg (cH zeroH), .int .i64 4]) ∧ Below w.heap.size w w' := by
  have HZ := HAt.zero w 26
  have hd : decide ((t.size : Int) < 127) = false := by simp; omega
  have h7 : (7 : Int) ≤ (t.size : Int) := by omega
  obtain ⟨s7, hs7⟩ : ∃ s, t.extract 0 7 = s := ⟨_, rfl⟩
  rw [hs7] at hn
  have hne := str_eq hn
  clear hn
  have b7 := byte_at t 7 (by omega)
  have b96 := byte_at t 96 (by omega)
  rw [hv] at b7
  have hf2 : decide (1 < nmB t 96 1) = true := by simpa using hf
  obtain ⟨x, hx⟩ : ∃ x, nmB t 96 1 = x := ⟨_, rfl⟩
  rw [hx] at hf2 b96
  clear hx hf hv
  have g7 : (7 : Int) < (t.size : Int) := by omega
  have g96 : (96 : Int) < (t.size : Int) := by omega
  go_enter Try.func18, Try.ntmps18
  go_wp2_with (first | (refine rstore_head (by rfl) _ _ rfl _ rfl zeroH rfl _ zeroH (by assumption) rfl ?_; intro w2 HP) | fail)
  refine bodyPost_ret (v := .tuple #[.agg (cH zeroH), .int .i64 4]) (rresults_head Try.results18 _ _ _ _ _ _ rfl rfl HP.1) rfl ⟨rfl, HP.2.2.1 _ _ (Nat.le_refl _) ((Below.refl _ _).alloc (Nat.le_refl _) _)⟩
/-- What the document's parts of a text tell, in a header's terms. -/
structure TelR (t : ByteArray) (T : Hd) (x : Int) : Prop where
  P0 : ∀ W, Calls Try.prog 35 #[.string t, .int .i64 8] W fun e w' => e = .returned (.agg #[.int .u64 T.rf, .int .u64 T.rl]) ∧ Below W.heap.size W w'
  P1 : ∀ W, Calls Try.prog 35 #[.string t, .int .i64 24] W fun e w' => e = .returned (.agg #[.int .u64 T.mf, .int .u64 T.ml]) ∧ Below W.heap.size W w'
  P2 : ∀ W, Calls Try.prog 35 #[.string t, .int .i64 40] W fun e w' => e = .returned (.agg #[.int .u64 T.lf, .int .u64 T.ll]) ∧ Below W.heap.size W w'
  P3 : ∀ W, Calls Try.prog 35 #[.string t, .int .i64 56] W fun e w' => e = .returned (.agg #[.int .u64 T.df, .int .u64 T.dl]) ∧ Below W.heap.size W w'
  K72 : ∀ W, Calls Try.prog 36 #[.string t, .int .i64 72, .int .i64 8] W fun e w' => e = .returned (.int .u64 T.ad) ∧ W = w'
  K80 : ∀ W, Calls Try.prog 36 #[.string t, .int .i64 80, .int .i64 8] W fun e w' => e = .returned (.int .u64 T.en) ∧ W = w'
  K88 : ∀ W, Calls Try.prog 36 #[.string t, .int .i64 88, .int .i64 8] W fun e w' => e = .returned (.int .u64 T.co) ∧ W = w'
  K102 : ∀ W, Calls Try.prog 37 #[.string t, .int .i64 102] W fun e w' => e = .returned (.int .i64 T.lo0) ∧ W = w'
  K106 : ∀ W, Calls Try.prog 37 #[.string t, .int .i64 106] W fun e w' => e = .returned (.int .i64 T.la0) ∧ W = w'
  K110 : ∀ W, Calls Try.prog 37 #[.string t, .int .i64 110] W fun e w' => e = .returned (.int .i64 T.lo1) ∧ W = w'
  K114 : ∀ W, Calls Try.prog 37 #[.string t, .int .i64 114] W fun e w' => e = .returned (.int .i64 T.la1) ∧ W = w'
  K119 : ∀ W, Calls Try.prog 37 #[.string t, .int .i64 119] W fun e w' => e = .returned (.int .i64 T.lon) ∧ W = w'
  K123 : ∀ W, Calls Try.prog 37 #[.string t, .int .i64 123] W fun e w' => e = .returned (.int .i64 T.lat) ∧ W = w'
  ck : ∀ W, Calls Try.prog 12 #[.agg (cH T)] W fun e w' => e = .returned (.int .i64 (ckH T)) ∧ Below W.heap.size W w'
  cl : T.cl = (x == 1)
theorem telR (t : ByteArray) (hm : t.size ≤ maxLen) (h : 127 ≤ t.size) : TelR t (telB t) (nmB t 96 1) := by
  constructor
  · intro W; rw [telB_rf, telB_rl]; exact rpart_any t 8 W hm (by omega)
  · intro W; rw [telB_mf, telB_ml]; exact rpart_any t 24 W hm (by omega)
  · intro W; rw [telB_lf, telB_ll]; exact rpart_any t 40 W hm (by omega)
  · intro W; rw [telB_df, telB_dl]; exact rpart_any t 56 W hm (by omega)
  · intro W; rw [telB_ad]; exact rat_any t 72 8 W hm (by omega) (by omega)
  · intro W; rw [telB_en]; exact rat_any t 80 8 W hm (by omega) (by omega)
  · intro W; rw [telB_co]; exact rat_any t 88 8 W hm (by omega) (by omega)
  · intro W; rw [telB_lo0]; exact rdegree_any t 102 W hm (by omega)
  · intro W; rw [telB_la0]; exact rdegree_any t 106 W hm (by omega)
  · intro W; rw [telB_lo1]; exact rdegree_any t 110 W hm (by omega)
  · intro W; rw [telB_la1]; exact rdegree_any t 114 W hm (by omega)
  · intro W; rw [telB_lon]; exact rdegree_any t 119 W hm (by omega)
  · intro W; rw [telB_lat]; exact rdegree_any t 123 W hm (by omega)
  · intro W; exact rcheck_any (telB t) W (may_telB t h)
  · rw [telB_cl]
set_option maxRecDepth 20000 in
set_option maxHeartbeats 4000000 in
theorem rdecode_full (t : ByteArray) (w : World) (h127 : 127 ≤ t.size) (hn : t.extract 0 7 = ⟨#[80, 77, 84, 105, 108, 101, 115]⟩) (b7 : ((t[7]'(by omega)).toNat : Int) = 3) (T : Hd) (x : Int) (HT : TelR t T x) (b96 : ((t[96]'(by omega)).toNat : Int) = x) (hf : ¬ 1 < x)
    (b97 : ((t[97]'(by omega)).toNat : Int) = T.inn) (b98 : ((t[98]'(by omega)).toNat : Int) = T.out) (b99 : ((t[99]'(by omega)).toNat : Int) = T.knd) (b100 : ((t[100]'(by omega)).toNat : Int) = T.z0) (hw100 : wrap64 T.z0 = T.z0 ∧ IntKind.i64.wrap T.z0 = T.z0) (b101 : ((t[101]'(by omega)).toNat : Int) = T.z1) (hw101 : wrap64 T.z1 = T.z1 ∧ IntKind.i64.wrap T.z1 = T.z1) (b118 : ((t[118]'(by omega)).toNat : Int) = T.zm) (hw118 : wrap64 T.zm = T.zm ∧ IntKind.i64.wrap T.zm = T.zm)
    (E : Hd × Int) (hE : E = if ckH T = 0 then (T, 0) else (zeroH, ckH T)) :
    Calls Try.prog 18 #[.string t] w fun e w' => e = .returned (.tuple #[.agg (cH E.1), .int .i64 E.2]) ∧ Below w.heap.size w w' := by
  have HZ := HAt.zero w 26
  have hd : decide ((t.size : Int) < 127) = false := by simp; omega
  have h7 : (7 : Int) ≤ (t.size : Int) := by omega
  obtain ⟨s7, hs7⟩ : ∃ s, t.extract 0 7 = s := ⟨_, rfl⟩
  rw [hs7] at hn
  have hne := str_eq hn
  clear hn
  have HE := Lib.hid hE; clear hE
  have hf2 : decide (1 < x) = false := by simpa using hf
  have g7 : (7 : Int) < (t.size : Int) := by omega
  have g96 : (96 : Int) < (t.size : Int) := by omega
  have KP0 := Lib.hid HT.P0
  have KP1 := Lib.hid HT.P1
  have KP2 := Lib.hid HT.P2
  have KP3 := Lib.hid HT.P3
  have HK72 := Lib.hid HT.K72
  have HK80 := Lib.hid HT.K80
  have HK88 := Lib.hid HT.K88
  have HK102 := Lib.hid HT.K102
  have HK106 := Lib.hid HT.K106
  have HK110 := Lib.hid HT.K110
  have HK114 := Lib.hid HT.K114
  have HK119 := Lib.hid HT.K119
  have HK123 := Lib.hid HT.K123
  have HCk := Lib.hid HT.ck
  have hset := rB_set T
  rw [HT.cl] at hset
  have HSetB := Lib.hid hset
  have HB97 := Lib.hid b97
  have HB98 := Lib.hid b98
  have HB99 := Lib.hid b99
  have HB100 := Lib.hid b100
  have HW100 := Lib.hid hw100
  have HB101 := Lib.hid b101
  have HW101 := Lib.hid hw101
  have HB118 := Lib.hid b118
  have HW118 := Lib.hid hw118
  have H127 := Lib.hid h127
  clear hset hf HT b97 b98 b99 b100 hw100 b101 hw101 b118 hw118
  go_enter Try.func18, Try.ntmps18
  go_upto_region 9 with fail
  obtain ⟨W0, hW0⟩ : ∃ W0, w.alloc (.cells #[.int .u64 zeroH.rf, .int .u64 zeroH.rl, .int .u64 zeroH.mf, .int .u64 zeroH.ml, .int .u64 zeroH.lf, .int .u64 zeroH.ll, .int .u64 zeroH.df, .int .u64 zeroH.dl, .int .u64 zeroH.ad, .int .u64 zeroH.en, .int .u64 zeroH.co, .bool zeroH.cl, .int .u8 zeroH.inn, .int .u8 zeroH.out, .int .u8 zeroH.knd, .int .i64 zeroH.z0, .int .i64 zeroH.z1, .int .i64 zeroH.lo0, .int .i64 zeroH.la0, .int .i64 zeroH.lo1, .int .i64 zeroH.la1, .int .i64 zeroH.zm, .int .i64 zeroH.lon, .int .i64 zeroH.lat] 26) = W0 := ⟨_, rfl⟩
  have hW2 : w.alloc (.cells #[.int .u64 0, .int .u64 0, .int .u64 0, .int .u64 0, .int .u64 0, .int .u64 0, .int .u64 0, .int .u64 0, .int .u64 0, .int .u64 0, .int .u64 0, .bool false, .int .u8 0, .int .u8 0, .int .u8 0, .int .i64 0, .int .i64 0, .int .i64 0, .int .i64 0, .int .i64 0, .int .i64 0, .int .i64 0, .int .i64 0, .int .i64 0] 26) = W0 := hW0
  rw [hW0] at HZ
  have U0 : Below w.heap.size w W0 := by rw [← hW0]; exact (Below.refl _ _).alloc (Nat.le_refl _) _
  rw [hW2]
  clear hW0 hW2
  have HHZ := Lib.hid HZ
  have HU0 := Lib.hid U0
  clear HZ U0 hne hs7 hd hf2
  go_cut [4] (fun p wx => ∃ g, p = .pointer (some ⟨g, 0, none⟩) ∧ w.heap.size < g ∧ HAt wx g 26 (uA T) ∧ HAt wx w.heap.size 26 zeroH ∧ Below w.heap.size w wx)
  case first =>
    clear b7 b96 g7 g96 h7
    go_wp2_with fail
    refine (KP0.out _).mono ?_
    rintro e w1 ⟨rfl, hb1⟩
    go_wp2_with fail
    refine (KP1.out _).mono ?_
    rintro e w2 ⟨rfl, hb2⟩
    go_wp2_with fail
    refine (KP2.out _).mono ?_
    rintro e w3 ⟨rfl, hb3⟩
    go_wp2_with fail
    refine (KP3.out _).mono ?_
    rintro e w4 ⟨rfl, hb4⟩
    have H4 := (((HHZ.out.later hb1).later hb2).later hb3).later hb4
    have u1 := HU0.out.trans (hb1.mono HU0.out.size)
    have u2 := u1.trans (hb2.mono u1.size)
    have u3 := u2.trans (hb3.mono u2.size)
    have u4 := u3.trans (hb4.mono u3.size)
    have hl4 := H4.lt
    have HH4 := Lib.hid H4
    have HU4 := Lib.hid u4
    have HZ := HAt.zero w4 26
    clear hb1 hb2 hb3 hb4 u1 u2 u3 u4 H4
    go_wp2_with (first | (refine rstore_head (by rfl) _ _ rfl _ rfl (uA T) rfl _ zeroH (by assumption) rfl ?_; intro w5 HP) | fail)
    go_meet
    case rel => exact ⟨w4.heap.size, rfl, hl4, HP.1, HP.keep (HH4.out.later ((Below.refl _ _).alloc (Nat.le_refl _) _)) (by omega), HP.2.2.1 _ _ HU4.out.size (HU4.out.alloc HU4.out.size _)⟩
  case rest =>
  obtain ⟨g, rfl, hlt, HA, HR, hU⟩ := hcut
  generalize wc = w1 at *
  clear KP0 KP1 KP2 KP3 HHZ HU0 b7 g7 h7
  have hn1 : ¬ g = w.heap.size := by omega
  have HN : Hid (w.heap.size ≠ g) := Lib.hid (by omega)
  have HL : Hid (w.heap.size ≤ g) := Lib.hid (by omega)
  have e8 := at8 HA
  have e9 := at9 HA
  have e10 := at10 HA
  have e11 := at11 HA
  have hf : ∀ o, w1.frozen? ⟨g, o, none⟩ = false := fun o => by unfold HAt at HA; simp [World.frozen?, HA]
  have HHA := Lib.hid HA
  have HHR := Lib.hid HR
  have HU := Lib.hid hU
  clear HA HR hU
  go_upto_region 10 with fail
  go_cut [] (fun wx => HAt wx g 26 (rB T) ∧ HAt wx w.heap.size 26 zeroH ∧ Below w.heap.size w wx)
  case first =>
    go_region_held3 (fun _ => True) (trivial) (first | (go_at_call_of 36 (72 : Int); refine (HK72.out _).mono ?_; rintro e w' ⟨rfl, rfl⟩) | (go_at_call_of 36 (80 : Int); refine (HK80.out _).mono ?_; rintro e w' ⟨rfl, rfl⟩) | (go_at_call_of 36 (88 : Int); refine (HK88.out _).mono ?_; rintro e w' ⟨rfl, rfl⟩))
    all_goals
      go_wp2_with fail
      go_meet
      case rel => exact setF_to [(8, .int .u64 T.ad), (9, .int .u64 T.en), (10, .int .u64 T.co), (11, .bool (x == 1))] (by simp only [setF]) HSetB.out HHA.out HHR.out HN.out HU.out HL.out
  case rest =>
  obtain ⟨HA, HR, hU⟩ := hcut
  generalize wc = w2 at *
  clear HHA HHR HU hf e8 e9 e10 e11 HK72 HK80 HK88 HSetB b96 g96
  have b97 := HB97.out
  have g97 : (97 : Int) < (t.size : Int) := by have := H127.out; omega
  have b98 := HB98.out
  have g98 : (98 : Int) < (t.size : Int) := by have := H127.out; omega
  have b99 := HB99.out
  have g99 : (99 : Int) < (t.size : Int) := by have := H127.out; omega
  have b100 := HB100.out
  have g100 : (100 : Int) < (t.size : Int) := by have := H127.out; omega
  have hw100 := HW100.out.1
  have b101 := HB101.out
  have g101 : (101 : Int) < (t.size : Int) := by have := H127.out; omega
  have hw101 := HW101.out.1
  have e12 := at12 HA
  have e13 := at13 HA
  have e14 := at14 HA
  have e15 := at15 HA
  have e16 := at16 HA
  have hf : ∀ o, w2.frozen? ⟨g, o, none⟩ = false := fun o => by unfold HAt at HA; simp [World.frozen?, HA]
  have HHA := Lib.hid HA
  have HHR := Lib.hid HR
  have HU := Lib.hid hU
  clear HA HR hU
  have HSet := Lib.hid (rC_set T)
  go_upto_region 11 with fail
  go_cut [] (fun wx => HAt wx g 26 (rC T) ∧ HAt wx w.heap.size 26 zeroH ∧ Below w.heap.size w wx)
  case first =>
    go_region
    all_goals
      go_wp2_with fail
      go_meet
      case rel => exact setF_to [(12, .int .u8 T.inn), (13, .int .u8 T.out), (14, .int .u8 T.knd), (15, .int .i64 T.z0), (16, .int .i64 T.z1)] (by simp only [setF]) HSet.out HHA.out HHR.out HN.out HU.out HL.out
  case rest =>
  obtain ⟨HA, HR, hU⟩ := hcut
  generalize wc = w3 at *
  clear HHA HHR HU hf e12 e13 e14 e15 e16 HSet b97 HB97 g97 b98 HB98 g98 b99 HB99 g99 b100 HB100 g100 b101 HB101 g101 hw100 hw101 HW100 HW101
  have e17 := at17 HA
  have e18 := at18 HA
  have e19 := at19 HA
  have e20 := at20 HA
  have hf : ∀ o, w3.frozen? ⟨g, o, none⟩ = false := fun o => by unfold HAt at HA; simp [World.frozen?, HA]
  have HHA := Lib.hid HA
  have HHR := Lib.hid HR
  have HU := Lib.hid hU
  clear HA HR hU
  have HSet := Lib.hid (rD_set T)
  go_upto_region 12 with fail
  go_cut [] (fun wx => HAt wx g 26 (rD T) ∧ HAt wx w.heap.size 26 zeroH ∧ Below w.heap.size w wx)
  case first =>
    go_wp2_with fail
    refine (HK102.out _).mono ?_
    rintro e w' ⟨rfl, rfl⟩
    go_wp2_with fail
    refine (HK106.out _).mono ?_
    rintro e w' ⟨rfl, rfl⟩
    go_wp2_with fail
    refine (HK110.out _).mono ?_
    rintro e w' ⟨rfl, rfl⟩
    go_wp2_with fail
    refine (HK114.out _).mono ?_
    rintro e w' ⟨rfl, rfl⟩
    go_wp2_with fail
    all_goals
      go_meet
      case rel => exact setF_to2 [(17, .int .i64 T.lo0), (18, .int .i64 T.la0), (19, .int .i64 T.lo1), (20, .int .i64 T.la1)] (by simp only [setF]) HSet.out HHA.out HHR.out HN.out HU.out HL.out
  case rest =>
  obtain ⟨HA, HR, hU⟩ := hcut
  generalize wc = w4 at *
  clear HHA HHR HU hf e17 e18 e19 e20 HSet HK102 HK106 HK110 HK114
  have b118 := HB118.out
  have g118 : (118 : Int) < (t.size : Int) := by have := H127.out; omega
  have hw118 := HW118.out.2
  have e21 := at21 HA
  have e22 := at22 HA
  have e23 := at23 HA
  have hf : ∀ o, w4.frozen? ⟨g, o, none⟩ = false := fun o => by unfold HAt at HA; simp [World.frozen?, HA]
  have HHA := Lib.hid HA
  have HHR := Lib.hid HR
  have HU := Lib.hid hU
  clear HA HR hU
  have HSet := Lib.hid (rE_set T)
  go_upto_region 13 with fail
  go_cut [] (fun wx => HAt wx g 26 (T) ∧ HAt wx w.heap.size 26 zeroH ∧ Below w.heap.size w wx)
  case first =>
    go_region_held3 (fun _ => True) (trivial) (first | (go_at_call_of 37 (119 : Int); refine (HK119.out _).mono ?_; rintro e w' ⟨rfl, rfl⟩) | (go_at_call_of 37 (123 : Int); refine (HK123.out _).mono ?_; rintro e w' ⟨rfl, rfl⟩))
    all_goals
      go_wp2_with fail
      go_meet
      case rel => exact setF_to [(21, .int .i64 T.zm), (22, .int .i64 T.lon), (23, .int .i64 T.lat)] (by simp only [setF]) HSet.out HHA.out HHR.out HN.out HU.out HL.out
  case rest =>
  obtain ⟨HA, HR, hU⟩ := hcut
  generalize wc = w5 at *
  clear HHA HHR HU hf e21 e22 e23 HSet HK119 HK123 b118 g118 hw118 HB118 HW118
  have HHA := Lib.hid HA
  have HHR := Lib.hid HR
  have HU := Lib.hid hU
  have HA0 := HA
  clear HA HR hU
  obtain ⟨r, hr⟩ : ∃ r, ckH T = r := ⟨_, rfl⟩
  rw [hr] at HCk HE
  by_cases h0 : r = 0
  · subst h0
    have HE2 : Hid (E = (T, 0)) := Lib.hid (by rw [HE.out, if_pos rfl])
    clear hr
    go_wp2_with (first | (refine rload_head (by rfl) _ rfl _ rfl _ T (by assumption) ?_) | fail)
    refine (HCk.out _).mono ?_
    rintro e w6 ⟨rfl, hb⟩
    have hA6 := HHA.out.later hb
    have hR6 := HHR.out.later hb
    have u6 := HU.out.trans (hb.mono HU.out.size)
    obtain ⟨w7, hst, HP⟩ := stores_head w6 w.heap.size _ _ T hR6
    have hu7 := HP.2.2.1 _ _ (Nat.le_refl _) u6
    have hee : Ending.returned (.tuple #[.agg (cH T), .int .i64 0]) = .returned (.tuple #[.agg (cH E.1), .int .i64 E.2]) := by rw [HE2.out]
    have HA7 := Lib.hid HP.1
    have HH7 := Lib.hid (And.intro hee hu7)
    clear hb HHA HHR HU HA0 hR6 HP hee hu7 u6
    go_wp2_with (first | ((with_reducible refine bodyPost_ret (v := .tuple #[.agg (cH T), .int .i64 0]) ?_ ?_ ?_); exact rresults_head Try.results18 _ _ _ _ _ _ rfl rfl HA7.out; rfl; exact HH7.out) | (refine rload_head (by rfl) _ rfl _ rfl _ T (by assumption) ?_) | fail)
  · have HE2 : Hid (E = (zeroH, r)) := Lib.hid (by rw [HE.out, if_neg h0])
    have hne : (r != 0) = true := by simp only [bne_iff_ne, ne_eq]; exact h0
    clear h0 hr HE
    go_wp2_with (first | (refine rload_head (by rfl) _ rfl _ rfl _ T (by assumption) ?_) | fail)
    refine (HCk.out _).mono ?_
    rintro e w6 ⟨rfl, hb⟩
    have hR6 := HHR.out.later hb
    have u6 := HU.out.trans (hb.mono HU.out.size)
    have hee : Ending.returned (.tuple #[.agg (cH zeroH), .int .i64 r]) = .returned (.tuple #[.agg (cH E.1), .int .i64 E.2]) := by rw [HE2.out]
    have HH6 := Lib.hid u6
    have HEE := Lib.hid hee
    clear hb HHA HHR HU HA0 hee u6
    go_wp2_with (first | ((with_reducible refine bodyPost_ret (v := .tuple #[.agg (cH zeroH), .int .i64 r]) ?_ ?_ ?_); exact rresults_head Try.results18 _ _ _ _ _ _ rfl rfl HP.1; rfl; exact ⟨HEE.out, HP.2.2.1 _ _ (Nat.le_refl _) HH6.out⟩) | (refine rstore_head (by rfl) _ _ rfl _ rfl zeroH rfl _ zeroH (by assumption) rfl ?_; intro w7 HP) | fail)
theorem rdecode_any (t : ByteArray) (w : World) (hm : t.size ≤ maxLen) : Calls Try.prog 18 #[.string t] w fun e w' => e = .returned (.tuple #[.agg (cH (decH (bl t)).1), .int .i64 (decH (bl t)).2]) ∧ Below w.heap.size w w' := by
  by_cases h127 : t.size < 127
  · rw [decB_short t h127]; exact rdecode_short t w h127
  have h : 127 ≤ t.size := by omega
  by_cases hn : t.extract 0 7 = ⟨#[80, 77, 84, 105, 108, 101, 115]⟩
  · by_cases hv : nmB t 7 1 = 3
    · by_cases hf : 1 < nmB t 96 1
      · rw [decB_form t h hn hv hf]; exact rdecode_form t w h hn hv hf
      · have hw : ∀ o, o + 1 ≤ 127 → wrap64 (nmB t o 1) = nmB t o 1 ∧ IntKind.i64.wrap (nmB t o 1) = nmB t o 1 := fun o ho => by
          have := nmB_bd t o 1 (by omega)
          rw [p256_1] at this
          exact ⟨by rw [IntWalk.wrap64_in _ (by omega)], by rw [IntKind.wrap_i64] <;> omega⟩
        have hE : decH (bl t) = if ckH (telB t) = 0 then (telB t, 0) else (zeroH, ckH (telB t)) := by
          by_cases hc : ckH (telB t) = 0
          · rw [if_pos hc, decB_ok t h hn hv hf hc]
          · rw [if_neg hc, decB_bad t h hn hv hf hc]
        exact rdecode_full t w h hn ((byte_at t 7 (by omega)).trans hv) (telB t) _ (telR t hm h) (byte_at t 96 (by omega)) hf
          ((byte_at t 97 (by omega)).trans (telB_inn t).symm)
          ((byte_at t 98 (by omega)).trans (telB_out t).symm)
          ((byte_at t 99 (by omega)).trans (telB_knd t).symm)
          ((byte_at t 100 (by omega)).trans (telB_z0 t).symm) (by rw [telB_z0]; exact hw 100 (by omega))
          ((byte_at t 101 (by omega)).trans (telB_z1 t).symm) (by rw [telB_z1]; exact hw 101 (by omega))
          ((byte_at t 118 (by omega)).trans (telB_zm t).symm) (by rw [telB_zm]; exact hw 118 (by omega))
          _ hE
    · rw [decB_version t h hn hv]; exact rdecode_version t w h hn hv
  · rw [decB_magic t h hn]; exact rdecode_magic t w h hn
end Go.Proofs.Ytodjdeilaimjaaa
