/- Several texts, one behind the other: Ne, Nf, Ng. -/
import Derived.Test.YtbkceneakdbdkaaGreatDoorMG
import Derived.Test.YtbkceneakdbdkaaGreatDoorMD
/- The document's check. -/
namespace Go.Proofs.YtbkceneakdbdkaaGreatDoor
open Go.RowKit
set_option maxRecDepth 20000
set_option linter.unusedVariables false
set_option linter.unusedSimpArgs false
theorem ret_i64 {a b : Int} (h : a = b) : Ending.returned (.int .i64 a) = .returned (.int .i64 b) := by rw [h]
def CheckOk (v : Nt) : Prop := ∀ (d : Nat) (w : World), v.In w → Fit v → d ≤ 100 → Calls Tryz.prog 31 #[ntA v, .int .i64 d] w fun x w' => x = .returned (.int .i64 (chkV d (toJ v))) ∧ Below w.heap.size w w'
theorem chk_arr (d : Nat) (l : Jl) : chkV d (.arr l) = if 4 < d then 20 else if 64 < l.length then 21 else chkL false d [] l := by rw [chkV]
theorem chk_obj (d : Nat) (l : Jl) : chkV d (.obj l) = if 4 < d then 20 else if 64 < l.length then 21 else chkL true d [] l := by rw [chkV]
theorem chkL_arr (d : Nat) (ns : List (List Int)) (v : Js) (l : Jl) : chkL false d ns (.cons [] v l) = if chkV (d + 1) v ≠ 0 then chkV (d + 1) v else chkL false d (ns ++ [[]]) l := by
  rw [chkL, if_neg (by simp), if_neg (by simp)]
theorem chkL_obj (d : Nat) (ns : List (List Int)) (n : List Int) (v : Js) (l : Jl) : chkL true d ns (.cons n v l) = if countP n < 0 then 4 else if n ∈ ns then 22 else if chkV (d + 1) v ≠ 0 then chkV (d + 1) v else chkL true d (ns ++ [n]) l := by
  rw [chkL]
  simp
set_option maxHeartbeats 1000000 in
/-- What is no list and no object. -/
theorem check_flat (k n : Int) (s : ByteArray) (nv : Value) (names : List ByteArray) (kv : Value) (kids : Nl) (h5 : k ≠ 5) (h6 : k ≠ 6) : CheckOk (.mk k n s nv names kv kids) := by
  intro d w hin hfit hd
  rw [Nt.In] at hin
  obtain ⟨⟨k0, k1⟩, ⟨n0, n1⟩, hs, _⟩ := hin
  rw [Fit] at hfit
  have hs3 := hfit.1
  clear hfit hs
  rw [toJ]
  show Calls _ _ #[.agg #[.int .u8 k, .int .i64 n, .string s, nv, kv], .int .i64 d] _ _
  by_cases h7 : 6 < k
  · rw [if_neg (by omega), if_neg (by omega), if_neg (by omega), if_neg (by omega), if_neg (by omega), if_neg h5, if_neg h6, chkV]
    have hd : decide (6 < k) = true := by simpa using h7
    go_enter Tryz.func31, Tryz.ntmps31
    go_wp2_with fail
    go_ret
    exact ⟨rfl, by go_grown⟩
  have : k = 0 ∨ k = 1 ∨ k = 2 ∨ k = 3 ∨ k = 4 := by omega
  rcases this with rfl | rfl | rfl | rfl | rfl
  · go_enter Tryz.func31, Tryz.ntmps31
    go_wp2_with fail
    go_ret
    exact ⟨by simp [chkV], by go_grown⟩
  · go_enter Tryz.func31, Tryz.ntmps31
    go_wp2_with fail
    go_ret
    exact ⟨by simp [chkV], by go_grown⟩
  · go_enter Tryz.func31, Tryz.ntmps31
    go_wp2_with fail
    go_ret
    exact ⟨by simp [chkV], by go_grown⟩
  · obtain ⟨R, hR⟩ : ∃ R, chkV d (.num n) = R := ⟨_, rfl⟩
    rw [if_neg (by omega), if_neg (by omega), if_neg (by omega), if_pos rfl, hR]
    rw [chkV] at hR
    by_cases c1 : 9007199254740991 < n
    · have : R = 11 := by rw [← hR, if_pos (.inl c1)]
      subst this
      have e1 : decide (9007199254740991 < n) = true := by simpa using c1
      clear hR
      go_enter Tryz.func31, Tryz.ntmps31
      go_wp2_with fail
      go_ret
      exact ⟨rfl, by go_grown⟩
    have e1 : decide (9007199254740991 < n) = false := by simpa using c1
    by_cases c2 : n < -9007199254740991
    · have : R = 11 := by rw [← hR, if_pos (.inr c2)]
      subst this
      have e2 : decide (n < -9007199254740991) = true := by simpa using c2
      clear hR
      go_enter Tryz.func31, Tryz.ntmps31
      go_wp2_with fail
      go_ret
      exact ⟨rfl, by go_grown⟩
    have e2 : decide (n < -9007199254740991) = false := by simpa using c2
    have : R = 0 := by rw [← hR, if_neg (by unfold maxI; omega)]
    subst this
    clear hR
    go_enter Tryz.func31, Tryz.ntmps31
    go_wp2_with fail
    go_ret
    exact ⟨rfl, by go_grown⟩
  · have HC := Lib.hid (fun W => rcount_any s W (by omega))
    obtain ⟨c, hc⟩ : ∃ c, countP (bI s) = c := ⟨_, rfl⟩
    obtain ⟨R, hR⟩ : ∃ R, chkV d (.str (bI s)) = R := ⟨_, rfl⟩
    rw [if_neg (by omega), if_neg (by omega), if_neg (by omega), if_neg (by omega), if_pos rfl, hR]
    rw [chkV, hc] at hR
    rw [hc] at HC
    have HR := Lib.hid hR
    clear hR hc
    have HX := Lib.hid (BoxAt.made w 4 n s nv kv 25)
    have HB : Below w.heap.size w (w.alloc (.cells #[.int .u8 4, .int .i64 n, .string s, nv, kv] 25)) := (Below.refl _ _).alloc (Nat.le_refl _) _
    have HB := Lib.hid HB
    go_enter Tryz.func31, Tryz.ntmps31
    go_wp2_with fail
    refine (HC.out _).mono ?_
    rintro x w1 ⟨rfl, hb⟩
    obtain ⟨b0, b1, b2, b3, b4⟩ := HX.out.later hb
    have HB1 := Lib.hid (HB.out.trans (hb.mono HB.out.size))
    clear hb
    by_cases hc : c < 0
    · have e : decide (c < 0) = true := by simpa using hc
      go_wp2_with fail
      go_ret
      exact ⟨ret_i64 (by rw [← HR.out, if_pos (by omega)]), HB1.out⟩
    · have e : decide (c < 0) = false := by simpa using hc
      go_wp2_with fail
      go_ret
      exact ⟨ret_i64 (by rw [← HR.out, if_neg (by omega)]), HB1.out⟩
end Go.Proofs.YtbkceneakdbdkaaGreatDoor
/- The document's check: lists and objects. -/
namespace Go.Proofs.YtbkceneakdbdkaaGreatDoor
open Go.RowKit
set_option maxRecDepth 20000
set_option linter.unusedVariables false
set_option linter.unusedSimpArgs false
theorem toL_step (ob : Bool) (names : List ByteArray) (kids : Nl) (i : Nat) (v : Nt) (hv : kids.at? i = some v) : toL ob names (kids.drop i) = .cons (if ob = true then bI (names.headD ByteArray.empty) else []) (toJ v) (toL ob names.tail (kids.drop (i + 1))) := by
  rw [Nl.drop_at kids i v hv, toL]
theorem drop_step {names : List ByteArray} {i : Nat} {t : ByteArray} (h : names[i]? = some t) : names.drop i = t :: names.drop (i + 1) := by
  obtain ⟨h1, h2⟩ := List.getElem?_eq_some_iff.1 h
  rw [List.drop_eq_getElem_cons h1, h2]
theorem FitL.at {w : World} : ∀ (l : Nl) (i : Nat) (v : Nt), FitL l → l.at? i = some v → Fit v
  | .nil, _, _, _, h => by cases h
  | .cons h t, 0, v, hf, e => by
    rw [FitL] at hf
    obtain rfl : h = v := by simpa [Nl.at?] using e
    exact hf.1
  | .cons h t, i + 1, v, hf, e => by
    rw [FitL] at hf
    exact FitL.at (w := w) t i v hf.2 e
set_option maxHeartbeats 1000000 in
theorem check_list (n : Int) (s : ByteArray) (nv : Value) (names : List ByteArray) (kv : Value) (kids : Nl) (HK : ∀ i v, kids.at? i = some v → CheckOk v) : CheckOk (.mk 5 n s nv names kv kids) := by
  intro d w hin hfit hd
  rw [Nt.In] at hin
  obtain ⟨_, ⟨n0, n1⟩, hs, ⟨na, ncap, rfl, nl, nm, hn⟩, a, cap, rfl, kl, km, hk⟩ := hin
  rw [Fit] at hfit
  obtain ⟨_, hlen, _, hnm, hfk⟩ := hfit
  have HK := Lib.hid HK
  have HN := Lib.hid hn
  have HI := Lib.hid hk
  have HF := Lib.hid hfk
  have HS := Lib.hid hnm
  obtain ⟨R, hR⟩ : ∃ R, chkV d (toJ (.mk 5 n s (.slice na names.length ncap) names (.slice a kids.len cap) kids)) = R := ⟨_, rfl⟩
  rw [hR]
  rw [toJ, if_neg (by omega), if_neg (by omega), if_neg (by omega), if_neg (by omega), if_neg (by omega), if_pos rfl] at hR
  rw [chk_arr, toL_len] at hR
  show Calls _ _ #[.agg #[.int .u8 5, .int .i64 n, .string s, .slice na names.length ncap, .slice a kids.len cap], .int .i64 d] _ _
  have hns : (names.length : Int) ≤ 9223372036854775807 := by rw [maxL] at *; omega
  have hks : (kids.len : Int) ≤ 9223372036854775807 := by rw [maxL] at *; omega
  clear hn hk hfk hnm
  by_cases c1 : 4 < d
  · have : R = 20 := by rw [← hR, if_pos c1]
    subst this
    clear hR
    have e1 : decide (4 < (d : Int)) = true := by simp; omega
    go_enter Tryz.func31, Tryz.ntmps31
    go_wp2_with fail
    go_ret
    exact ⟨rfl, by go_grown⟩
  rw [if_neg c1] at hR
  have e1 : decide (4 < (d : Int)) = false := by simp; omega
  by_cases c2 : 64 < kids.len
  · have : R = 21 := by rw [← hR, if_pos c2]
    subst this
    clear hR
    have e2 : decide (64 < (kids.len : Int)) = true := by simp; omega
    go_enter Tryz.func31, Tryz.ntmps31
    go_wp2_with fail
    go_ret
    exact ⟨rfl, by go_grown⟩
  rw [if_neg c2] at hR
  have e2 : decide (64 < (kids.len : Int)) = false := by simp; omega
  have HR := Lib.hid hR
  have hd4 : d ≤ 4 := by omega
  clear hR c1 c2
  have hwd : IntKind.i64.wrap ((d : Int) + 1) = ((d + 1 : Nat) : Int) := by rw [IntKind.wrap_i64] <;> omega
  have HX := Lib.hid (BoxAt.made w 5 n s (.slice na names.length ncap) (.slice a kids.len cap) 25)
  go_enter Tryz.func31, Tryz.ntmps31
  go_wp2_with fail
  go_loopw [5] (fun z wr => ∃ (i : Nat) (ns : List (List Int)), i ≤ kids.len ∧ z = .int .i64 i ∧ Hid (chkL false d ns (toL false [] (kids.drop i)) = R) ∧ BoxAt wr w.heap.size 5 n s (.slice na names.length ncap) (.slice a kids.len cap) ∧ Below w.heap.size w wr) (fun z _ => kids.len - (intOf z).toNat)
  case atStart => exact ⟨0, [], Nat.zero_le _, rfl, Lib.hid (by rw [Nl.drop_zero]; exact HR.out), HX.out, (Below.refl _ _).alloc (Nat.le_refl _) _⟩
  case round =>
    obtain ⟨i, ns, hi, rfl, HW, hbx, hbw⟩ := hrel
    by_cases hlt : i < kids.len
    · have hi2 : (i : Int) < (kids.len : Int) := by omega
      obtain ⟨v, hv⟩ := Nl.lt_at kids i hlt
      obtain ⟨⟨g, off, rfl, hg, hc⟩, hin⟩ := Nl.in_at kids 0 i v HI.out hv
      rw [Nat.zero_add] at hc
      have HC := HK.out i v hv (d + 1)
      have HD : Hid (chkL false d ns (toL false [] (kids.drop i)) = if chkV (d + 1) (toJ v) ≠ 0 then chkV (d + 1) (toJ v) else chkL false d (ns ++ [[]]) (toL false [] (kids.drop (i + 1)))) := Lib.hid (by
        rw [toL_step false [] kids i v hv, if_neg (by simp), chkL_arr]
        rfl)
      have hfv := FitL.at (w := w) kids i v HF.out hv
      have HC := fun W (hb : Below w.heap.size w W) => HC W (hin.below hb) hfv (by omega)
      obtain ⟨y, hy⟩ : ∃ y, chkV (d + 1) (toJ v) = y := ⟨_, rfl⟩
      rw [hy] at HC HD
      obtain ⟨k', n', s', nv', names', kv', kids'⟩ := v
      have e0 := (hbw.cell hg).trans (hc 0 (by omega))
      have e1 := (hbw.cell hg).trans (hc 1 (by omega))
      have e2 := (hbw.cell hg).trans (hc 2 (by omega))
      have e3 := (hbw.cell hg).trans (hc 3 (by omega))
      have e4 := (hbw.cell hg).trans (hc 4 (by omega))
      simp only [ntCells, Nat.add_zero, List.getElem?_cons_zero, List.getElem?_cons_succ] at e0 e1 e2 e3 e4
      unfold ntA ntCells at HC
      have HC := Lib.hid HC
      have HBX := Lib.hid hbx
      have HBW := Lib.hid hbw
      obtain ⟨b0, b1, b2, b3, b4⟩ := hbx
      clear hc hin hv hy hbw hfv
      go_wp2_with fail
      go_loop [6] (fun z => z = .int .i64 0) (fun _ => 0)
      case atStart => rfl
      case round =>
        subst hrel
        by_cases hz : 0 < i
        · have d0 : decide (0 < (i : Int)) = true := by simp; omega
          go_wp2_with fail
          refine (HC.out _ HBW.out).mono ?_
          rintro e w1 ⟨rfl, hb⟩
          have hbx1 := HBX.out.later hb
          have hbw1 := HBW.out.trans (hb.mono HBW.out.size)
          have HX1 := Lib.hid hbx1
          have HW1 := Lib.hid hbw1
          clear b0 b1 b2 b3 b4 e0 e1 e2 e3 e4 hb hbw1
          obtain ⟨b0, b1, b2, b3, b4⟩ := hbx1
          by_cases hy : y = 0
          · have hd : (y != 0) = false := by simpa using hy
            have HYZ := Lib.hid hy
            clear hy
            go_wp2_with fail
            go_roundw
            case rel => exact ⟨i + 1, ns ++ [[]], by omega, by go_num, Lib.hid (by rw [← HW.out, HD.out, if_neg (by rw [HYZ.out]; simp)]), HX1.out, HW1.out⟩
            case measure => simp [intOf]; omega
          · have hd : (y != 0) = true := by simpa using hy
            go_wp2_with fail
            go_ret
            exact ⟨ret_i64 (by rw [← HW.out, HD.out, if_pos hy]), HW1.out⟩
        · have d0 : decide (0 < (i : Int)) = false := by simp; omega
          go_wp2_with fail
          refine (HC.out _ HBW.out).mono ?_
          rintro e w1 ⟨rfl, hb⟩
          have hbx1 := HBX.out.later hb
          have hbw1 := HBW.out.trans (hb.mono HBW.out.size)
          have HX1 := Lib.hid hbx1
          have HW1 := Lib.hid hbw1
          clear b0 b1 b2 b3 b4 e0 e1 e2 e3 e4 hb hbw1
          obtain ⟨b0, b1, b2, b3, b4⟩ := hbx1
          by_cases hy : y = 0
          · have hd : (y != 0) = false := by simpa using hy
            have HYZ := Lib.hid hy
            clear hy
            go_wp2_with fail
            go_roundw
            case rel => exact ⟨i + 1, ns ++ [[]], by omega, by go_num, Lib.hid (by rw [← HW.out, HD.out, if_neg (by rw [HYZ.out]; simp)]), HX1.out, HW1.out⟩
            case measure => simp [intOf]; omega
          · have hd : (y != 0) = true := by simpa using hy
            go_wp2_with fail
            go_ret
            exact ⟨ret_i64 (by rw [← HW.out, HD.out, if_pos hy]), HW1.out⟩
    · obtain rfl : i = kids.len := by omega
      have hx : R = 0 := by have := HW.out; rw [Nl.drop_len, toL, chkL] at this; exact this.symm
      obtain ⟨b0, b1, b2, b3, b4⟩ := hbx
      have HBW := Lib.hid hbw
      clear hbw
      go_wp2_with fail
      go_ret
      exact ⟨by rw [hx]; rfl, HBW.out⟩
end Go.Proofs.YtbkceneakdbdkaaGreatDoor
/- The document's check: objects. -/
namespace Go.Proofs.YtbkceneakdbdkaaGreatDoor
open Go.RowKit
set_option maxRecDepth 20000
set_option linter.unusedVariables false
set_option linter.unusedSimpArgs false
set_option maxHeartbeats 2000000 in
theorem check_obj (n : Int) (s : ByteArray) (nv : Value) (names : List ByteArray) (kv : Value) (kids : Nl) (HK : ∀ i v, kids.at? i = some v → CheckOk v) : CheckOk (.mk 6 n s nv names kv kids) := by
  intro d w hin hfit hd
  rw [Nt.In] at hin
  obtain ⟨_, ⟨n0, n1⟩, hs, ⟨na, ncap, rfl, nl, nm, hn⟩, a, cap, rfl, kl, km, hk⟩ := hin
  rw [Fit] at hfit
  obtain ⟨_, hlen, _, hnm, hfk⟩ := hfit
  have hln : kids.len ≤ names.length := by have := hlen rfl; omega
  clear hlen
  have HK := Lib.hid HK
  have HN := Lib.hid hn
  have HI := Lib.hid hk
  have HF := Lib.hid hfk
  have HS := Lib.hid hnm
  obtain ⟨R, hR⟩ : ∃ R, chkV d (toJ (.mk 6 n s (.slice na names.length ncap) names (.slice a kids.len cap) kids)) = R := ⟨_, rfl⟩
  rw [hR]
  rw [toJ, if_neg (by omega), if_neg (by omega), if_neg (by omega), if_neg (by omega), if_neg (by omega), if_neg (by omega), if_pos rfl] at hR
  rw [chk_obj, toL_len] at hR
  show Calls _ _ #[.agg #[.int .u8 6, .int .i64 n, .string s, .slice na names.length ncap, .slice a kids.len cap], .int .i64 d] _ _
  have hns : (names.length : Int) ≤ 9223372036854775807 := by rw [maxL] at *; omega
  have hks : (kids.len : Int) ≤ 9223372036854775807 := by rw [maxL] at *; omega
  clear hn hk hfk hnm
  by_cases c1 : 4 < d
  · have : R = 20 := by rw [← hR, if_pos c1]
    subst this
    clear hR
    have e1 : decide (4 < (d : Int)) = true := by simp; omega
    go_enter Tryz.func31, Tryz.ntmps31
    go_wp2_with fail
    go_ret
    exact ⟨rfl, by go_grown⟩
  rw [if_neg c1] at hR
  have e1 : decide (4 < (d : Int)) = false := by simp; omega
  by_cases c2 : 64 < kids.len
  · have : R = 21 := by rw [← hR, if_pos c2]
    subst this
    clear hR
    have e2 : decide (64 < (kids.len : Int)) = true := by simp; omega
    go_enter Tryz.func31, Tryz.ntmps31
    go_wp2_with fail
    go_ret
    exact ⟨rfl, by go_grown⟩
  rw [if_neg c2] at hR
  have e2 : decide (64 < (kids.len : Int)) = false := by simp; omega
  have HR := Lib.hid hR
  have hd4 : d ≤ 4 := by omega
  clear hR c1 c2
  have hwd : IntKind.i64.wrap ((d : Int) + 1) = ((d + 1 : Nat) : Int) := by rw [IntKind.wrap_i64] <;> omega
  have HX := Lib.hid (BoxAt.made w 6 n s (.slice na names.length ncap) (.slice a kids.len cap) 25)
  go_enter Tryz.func31, Tryz.ntmps31
  go_wp2_with fail
  go_loopw [5] (fun z wr => ∃ (i : Nat), i ≤ kids.len ∧ z = .int .i64 i ∧ Hid (chkL true d ((names.take i).map bI) (toL true (names.drop i) (kids.drop i)) = R) ∧ BoxAt wr w.heap.size 6 n s (.slice na names.length ncap) (.slice a kids.len cap) ∧ Below w.heap.size w wr) (fun z _ => kids.len - (intOf z).toNat)
  case atStart => exact ⟨0, Nat.zero_le _, rfl, Lib.hid (by rw [Nl.drop_zero]; exact HR.out), HX.out, (Below.refl _ _).alloc (Nat.le_refl _) _⟩
  case round =>
    obtain ⟨i, hi, rfl, HW, hbx, hbw⟩ := hrel
    by_cases hlt : i < kids.len
    · have hi2 : (i : Int) < (kids.len : Int) := by omega
      have hi3 : (i : Int) < (names.length : Int) := by omega
      obtain ⟨v, hv⟩ := Nl.lt_at kids i hlt
      obtain ⟨t, ht⟩ : ∃ t, names[i]? = some t := ⟨_, List.getElem?_eq_getElem (by omega)⟩
      obtain ⟨⟨g, off, rfl, hg, hc⟩, hin⟩ := Nl.in_at kids 0 i v HI.out hv
      obtain ⟨gn, on, rfl, hgn, hcn, _⟩ := HN.out i t ht
      rw [Nat.zero_add] at hc
      have HCT := Lib.hid (fun W => rcount_any t W (by have := HS.out t (List.mem_of_getElem? ht); omega))
      have HC := HK.out i v hv (d + 1)
      have HD : Hid (chkL true d ((names.take i).map bI) (toL true (names.drop i) (kids.drop i)) = if countP (bI t) < 0 then 4 else if bI t ∈ (names.take i).map bI then 22 else if chkV (d + 1) (toJ v) ≠ 0 then chkV (d + 1) (toJ v) else chkL true d ((names.take (i + 1)).map bI) (toL true (names.drop (i + 1)) (kids.drop (i + 1)))) := Lib.hid (by
        rw [drop_step ht, toL_step true _ kids i v hv, if_pos rfl, chkL_obj, List.take_add_one, ht, List.map_append]
        rfl)
      have hfv := FitL.at (w := w) kids i v HF.out hv
      have HC := fun W (hb : Below w.heap.size w W) => HC W (hin.below hb) hfv (by omega)
      obtain ⟨y, hy⟩ : ∃ y, chkV (d + 1) (toJ v) = y := ⟨_, rfl⟩
      rw [hy] at HC HD
      obtain ⟨c, hcc⟩ : ∃ c, countP (bI t) = c := ⟨_, rfl⟩
      rw [hcc] at HCT HD
      obtain ⟨k', n', s', nv', names', kv', kids'⟩ := v
      have e0 := hc 0 (by omega)
      have e1 := hc 1 (by omega)
      have e2 := hc 2 (by omega)
      have e3 := hc 3 (by omega)
      have e4 := hc 4 (by omega)
      simp only [ntCells, Nat.add_zero, List.getElem?_cons_zero, List.getElem?_cons_succ] at e0 e1 e2 e3 e4
      have HE0 := Lib.hid e0
      have HE1 := Lib.hid e1
      have HE2 := Lib.hid e2
      have HE3 := Lib.hid e3
      have HE4 := Lib.hid e4
      have HCN := Lib.hid hcn
      have HT := Lib.hid ht
      unfold ntA ntCells at HC
      have HC := Lib.hid HC
      have HBX := Lib.hid hbx
      have HBW := Lib.hid hbw
      have hcn := (hbw.cell hgn).trans hcn
      obtain ⟨b0, b1, b2, b3, b4⟩ := hbx
      clear hc hin hv hy hbw hfv e0 e1 e2 e3 e4 hcc ht
      go_wp2_with fail
      refine (HCT.out _).mono ?_
      rintro e w1 ⟨rfl, hb⟩
      have hbx1 := HBX.out.later hb
      have hbw1 := HBW.out.trans (hb.mono HBW.out.size)
      have HX1 := Lib.hid hbx1
      have HW1 := Lib.hid hbw1
      clear b0 b1 b2 b3 b4 hcn hb hbw1
      obtain ⟨b0, b1, b2, b3, b4⟩ := hbx1
      by_cases hc0 : c < 0
      · have dc : decide (c < 0) = true := by simpa using hc0
        go_wp2_with fail
        go_ret
        exact ⟨ret_i64 (by rw [← HW.out, HD.out, if_pos (by omega)]), HW1.out⟩
      have dc : decide (c < 0) = false := by simpa using hc0
      have HD : Hid (chkL true d ((names.take i).map bI) (toL true (names.drop i) (kids.drop i)) = if bI t ∈ (names.take i).map bI then 22 else if y ≠ 0 then y else chkL true d ((names.take (i + 1)).map bI) (toL true (names.drop (i + 1)) (kids.drop (i + 1)))) := Lib.hid (by
        have := HD.out
        rwa [if_neg (by omega)] at this)
      clear b0 b1 b2 b3 b4
      go_wp2_with fail
      go_loopw [6] (fun z wr => ∃ j : Nat, j ≤ i ∧ z = .int .i64 j ∧ Hid (∀ m x, m < j → names[m]? = some x → x ≠ t) ∧ BoxAt wr w.heap.size 6 n s (.slice (some ⟨gn, on, none⟩) names.length ncap) (.slice (some ⟨g, off, none⟩) kids.len cap) ∧ Below w.heap.size w wr) (fun z _ => i - (intOf z).toNat)
      case atStart => exact ⟨0, Nat.zero_le _, rfl, Lib.hid fun m x h _ => absurd h (Nat.not_lt_zero _), HX1.out, HW1.out⟩
      case round =>
        obtain ⟨j, hj, rfl, HJ, hbx, hbw⟩ := hrel
        have HBX := Lib.hid hbx
        have HBW := Lib.hid hbw
        by_cases hz : j < i
        · have d0 : decide ((j : Int) < (i : Int)) = true := by simp; omega
          have hj3 : (j : Int) < (names.length : Int) := by omega
          obtain ⟨x, hx⟩ : ∃ x, names[j]? = some x := ⟨_, List.getElem?_eq_getElem (by omega)⟩
          obtain ⟨g2, o2, ha, hg2, hcx, _⟩ := HN.out j x hx
          obtain ⟨rfl, rfl⟩ : gn = g2 ∧ on = o2 := by simpa using ha
          have hcx := (hbw.cell hg2).trans hcx
          have hcn := (hbw.cell hgn).trans HCN.out
          obtain ⟨b0, b1, b2, b3, b4⟩ := hbx
          have HXX := Lib.hid hx
          clear hbw hx
          have HBD : ∀ q, Hid (Below w.heap.size w (wr.drewN q)) := fun q => Lib.hid (HBW.out.trans ⟨rfl, rfl, rfl, Nat.le_refl _, fun _ _ => rfl⟩)
          by_cases hxt : x = t
          · subst hxt
            have hq := str_yes (rfl : x = x)
            go_wp2_with fail
            go_quiet (fail)
            go_wp2_with fail
            go_ret
            refine ⟨ret_i64 ?_, (HBD _).out⟩
            rw [← HW.out, HD.out, if_pos]
            exact List.mem_map.2 ⟨x, List.mem_of_getElem? (i := j) (by rw [List.getElem?_take_of_lt hz]; exact HXX.out), rfl⟩
          · have hq := str_no hxt
            go_wp2_with fail
            go_quiet (fail)
            go_wp2_with fail
            go_roundw
            case rel =>
              refine ⟨j + 1, by omega, by go_num, Lib.hid fun m x' hm hx' => ?_, HBX.out, (HBD _).out⟩
              rcases Nat.lt_or_ge m j with e | e
              · exact HJ.out m x' e hx'
              · obtain rfl : m = j := by omega
                rw [HXX.out] at hx'
                obtain rfl : x = x' := by simpa using hx'
                exact hxt
            case measure => simp [intOf]; omega
        · have d0 : decide ((j : Int) < (i : Int)) = false := by simp; omega
          have hnot : Hid (bI t ∉ (names.take i).map bI) := Lib.hid (by
            intro hm
            obtain ⟨x, hx, hxt⟩ := List.mem_map.1 hm
            obtain ⟨m, hm⟩ := List.getElem?_of_mem hx
            have hml := (List.getElem?_eq_some_iff.1 hm).1
            rw [List.length_take] at hml
            rw [List.getElem?_take_of_lt (by omega)] at hm
            exact HJ.out m x (by omega) hm (bI_inj hxt))
          have e0 := (hbw.cell hg).trans HE0.out
          have e1 := (hbw.cell hg).trans HE1.out
          have e2 := (hbw.cell hg).trans HE2.out
          have e3 := (hbw.cell hg).trans HE3.out
          have e4 := (hbw.cell hg).trans HE4.out
          obtain ⟨b0, b1, b2, b3, b4⟩ := hbx
          clear hbw
          go_wp2_with fail
          refine (HC.out _ HBW.out).mono ?_
          rintro e w2 ⟨rfl, hb⟩
          have hbx1 := HBX.out.later hb
          have hbw1 := HBW.out.trans (hb.mono HBW.out.size)
          have HX2 := Lib.hid hbx1
          have HW2 := Lib.hid hbw1
          clear b0 b1 b2 b3 b4 e0 e1 e2 e3 e4 hb hbw1
          obtain ⟨b0, b1, b2, b3, b4⟩ := hbx1
          by_cases hy : y = 0
          · have hd : (y != 0) = false := by simpa using hy
            have HYZ := Lib.hid hy
            clear hy
            go_wp2_with fail
            go_roundw
            case rel => exact ⟨i + 1, by omega, by go_num, Lib.hid (by rw [← HW.out, HD.out, if_neg hnot.out, if_neg (by rw [HYZ.out]; simp)]), HX2.out, HW2.out⟩
            case measure => simp [intOf]; omega
          · have hd : (y != 0) = true := by simpa using hy
            go_wp2_with fail
            go_ret
            exact ⟨ret_i64 (by rw [← HW.out, HD.out, if_neg hnot.out, if_pos hy]), HW2.out⟩
    · obtain rfl : i = kids.len := by omega
      have hx : R = 0 := by have := HW.out; rw [Nl.drop_len, toL, chkL] at this; exact this.symm
      obtain ⟨b0, b1, b2, b3, b4⟩ := hbx
      have HBW := Lib.hid hbw
      clear hbw
      go_wp2_with fail
      go_ret
      exact ⟨by rw [hx]; rfl, HBW.out⟩
mutual
theorem check_any : ∀ v : Nt, CheckOk v
  | .mk k n s nv names kv kids => by
    by_cases h5 : k = 5
    · subst h5
      exact check_list n s nv names kv kids (check_kids kids)
    by_cases h6 : k = 6
    · subst h6
      exact check_obj n s nv names kv kids (check_kids kids)
    exact check_flat k n s nv names kv kids h5 h6
theorem check_kids : ∀ (l : Nl) (i : Nat) (v : Nt), l.at? i = some v → CheckOk v
  | .nil, _, _, h => by cases h
  | .cons h t, 0, v, e => by
    obtain rfl : h = v := by simpa [Nl.at?] using e
    exact check_any h
  | .cons h t, i + 1, v, e => check_kids t i v e
end
end Go.Proofs.YtbkceneakdbdkaaGreatDoor
