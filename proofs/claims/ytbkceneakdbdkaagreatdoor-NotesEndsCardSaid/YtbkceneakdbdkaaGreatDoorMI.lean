/- Several texts, one behind the other: Nh, Ni, Nj. -/
import Derived.Test.YtbkceneakdbdkaaGreatDoorMH
import Derived.Test.YtbkceneakdbdkaaGreatDoorMD
/- The document's json. -/
namespace Go.Proofs.YtbkceneakdbdkaaGreatDoor
open Go.RowKit
set_option maxRecDepth 20000
set_option linter.unusedVariables false
set_option linter.unusedSimpArgs false
def JsonOk (v : Nt) : Prop := ∀ (d : Nat) (w : World), v.In w → Fit v → chkV d (toJ v) = 0 → (printV (toJ v)).length ≤ 1000000 → Calls Tryz.prog 26 #[ntA v] w fun x w' => x = .returned (.string (str (printV (toJ v)))) ∧ Below w.heap.size w w'
theorem ret_s {a b : ByteArray} (h : a = b) : Ending.returned (.string a) = .returned (.string b) := by rw [h]
theorem quoteS_of {l : List Int} (h : 0 ≤ countP l) : (quoteP l).1 = quoteS l ∧ (quoteP l).2 = 0 := by
  unfold quoteP
  rw [if_neg (by omega)]
  exact ⟨rfl, rfl⟩
set_option maxHeartbeats 1000000 in
theorem json_flat (k n : Int) (s : ByteArray) (nv : Value) (names : List ByteArray) (kv : Value) (kids : Nl) (h5 : k ≠ 5) (h6 : k ≠ 6) : JsonOk (.mk k n s nv names kv kids) := by
  intro d w hin hfit hck hlen
  rw [Nt.In] at hin
  obtain ⟨⟨k0, k1⟩, ⟨n0, n1⟩, _⟩ := hin
  rw [Fit] at hfit
  have hs3 := hfit.1
  clear hfit
  rw [toJ] at hck hlen ⊢
  show Calls _ _ #[.agg #[.int .u8 k, .int .i64 n, .string s, nv, kv]] _ _
  by_cases h7 : 6 < k
  · rw [if_neg (by omega), if_neg (by omega), if_neg (by omega), if_neg (by omega), if_neg (by omega), if_neg h5, if_neg h6, chkV] at hck
    cases hck
  have : k = 0 ∨ k = 1 ∨ k = 2 ∨ k = 3 ∨ k = 4 := by omega
  rcases this with rfl | rfl | rfl | rfl | rfl
  · clear hck hlen
    go_enter Tryz.func26, Tryz.ntmps26
    go_wp2_with fail
    go_ret
    exact ⟨ret_s (by simp [printV]; rfl), by go_grown⟩
  · clear hck hlen
    go_enter Tryz.func26, Tryz.ntmps26
    go_wp2_with fail
    go_ret
    exact ⟨ret_s (by simp [printV]; rfl), by go_grown⟩
  · clear hck hlen
    go_enter Tryz.func26, Tryz.ntmps26
    go_wp2_with fail
    go_ret
    exact ⟨ret_s (by simp [printV]; rfl), by go_grown⟩
  · rw [if_neg (by omega), if_neg (by omega), if_neg (by omega), if_pos rfl] at hck hlen ⊢
    rw [chkV] at hck
    by_cases c : maxI < n ∨ n < -maxI
    · rw [if_pos c] at hck; cases hck
    unfold maxI at c
    rw [printV]
    have HD := Lib.hid (fun W => digits_any n W (by omega) (by omega))
    have HX := Lib.hid (BoxAt.made w 3 n s nv kv 25)
    have HB : Below w.heap.size w (w.alloc (.cells #[.int .u8 3, .int .i64 n, .string s, nv, kv] 25)) := (Below.refl _ _).alloc (Nat.le_refl _) _
    have HB := Lib.hid HB
    clear hck hlen c
    go_enter Tryz.func26, Tryz.ntmps26
    go_wp2_with fail
    refine (HD.out _).mono ?_
    rintro x w1 ⟨rfl, hb⟩
    have HB1 := Lib.hid (HB.out.trans (hb.mono HB.out.size))
    clear hb
    go_wp2_with fail
    go_ret
    exact ⟨rfl, HB1.out⟩
  · rw [if_neg (by omega), if_neg (by omega), if_neg (by omega), if_neg (by omega), if_pos rfl] at hck hlen ⊢
    rw [chkV] at hck
    have hc : 0 ≤ countP (bI s) := by
      by_cases e : countP (bI s) < 0
      · rw [if_pos e] at hck; cases hck
      · omega
    have HQ := Lib.hid (fun W => rquote_any s W (by omega))
    rw [(quoteS_of hc).1, (quoteS_of hc).2] at HQ
    rw [printV]
    have HX := Lib.hid (BoxAt.made w 4 n s nv kv 25)
    have HB : Below w.heap.size w (w.alloc (.cells #[.int .u8 4, .int .i64 n, .string s, nv, kv] 25)) := (Below.refl _ _).alloc (Nat.le_refl _) _
    have HB := Lib.hid HB
    clear hck hlen hc
    go_enter Tryz.func26, Tryz.ntmps26
    go_wp2_with fail
    refine (HQ.out _).mono ?_
    rintro x w1 ⟨rfl, hb⟩
    have HB1 := Lib.hid (HB.out.trans (hb.mono HB.out.size))
    clear hb
    go_wp2_with fail
    go_ret
    exact ⟨rfl, HB1.out⟩
end Go.Proofs.YtbkceneakdbdkaaGreatDoor
/- The document's json: lists and objects. -/
namespace Go.Proofs.YtbkceneakdbdkaaGreatDoor
open Go.RowKit
set_option maxRecDepth 20000
set_option linter.unusedVariables false
set_option linter.unusedSimpArgs false
/-- What is still to be laid of the items, behind so many. -/
def restB (ob : Bool) (names : List ByteArray) (kids : Nl) (i : Nat) : List Int := if i = 0 then bodyP ob (toL ob (names.drop i) (kids.drop i)) else tailP ob (toL ob (names.drop i) (kids.drop i))
def commaB (i : Nat) : List Int := if i = 0 then [] else [44]
theorem restB_step (ob : Bool) (names : List ByteArray) (kids : Nl) (i : Nat) (v : Nt) (hv : kids.at? i = some v) :
    restB ob names kids i = commaB i ++ (nameB ob (if ob = true then bI ((names.drop i).headD ByteArray.empty) else []) ++ (printV (toJ v) ++ restB ob names kids (i + 1))) := by
  unfold restB commaB
  rw [toL_step ob _ kids i v hv, if_neg (show i + 1 ≠ 0 by omega), List.tail_drop]
  split
  · rw [body_cons]; simp
  · rw [tail_cons, body_cons]; simp
theorem restB_end (ob : Bool) (names : List ByteArray) (kids : Nl) : restB ob names kids kids.len = [] := by
  unfold restB
  rw [Nl.drop_len, toL, bodyP, tailP]
  split <;> rfl
theorem len_app {a b c : List Int} (h : a ++ b = c) : a.length ≤ c.length ∧ b.length ≤ c.length := by rw [← h, List.length_append]; omega
set_option maxHeartbeats 2000000 in
theorem json_list (n : Int) (s : ByteArray) (nv : Value) (names : List ByteArray) (kv : Value) (kids : Nl) (HK : ∀ i v, kids.at? i = some v → JsonOk v) : JsonOk (.mk 5 n s nv names kv kids) := by
  intro d w hin hfit hck hlen
  rw [Nt.In] at hin
  obtain ⟨_, ⟨n0, n1⟩, hs, ⟨na, ncap, rfl, nl, nm, hn⟩, a, cap, rfl, kl, km, hk⟩ := hin
  rw [Fit] at hfit
  obtain ⟨_, hl0, _, hnm, hfk⟩ := hfit
  clear hl0
  have HK := Lib.hid HK
  have HN := Lib.hid hn
  have HI := Lib.hid hk
  have HF := Lib.hid hfk
  have HS := Lib.hid hnm
  rw [toJ, if_neg (by omega), if_neg (by omega), if_neg (by omega), if_neg (by omega), if_neg (by omega), if_pos rfl] at hck hlen ⊢
  rw [chk_arr] at hck
  by_cases c1 : 4 < d
  · rw [if_pos c1] at hck; cases hck
  rw [if_neg c1] at hck
  by_cases c2 : 64 < (toL false ([] : List ByteArray) kids).length
  · rw [if_pos c2] at hck; cases hck
  rw [if_neg c2] at hck
  rw [printV] at hlen ⊢
  have hB0 : restB false ([] : List ByteArray) kids 0 = bodyP false (toL false ([] : List ByteArray) kids) := by unfold restB; rw [if_pos rfl, Nl.drop_zero]; rfl
  obtain ⟨B, hB⟩ : ∃ B, bodyP false (toL false ([] : List ByteArray) kids) = B := ⟨_, rfl⟩
  rw [hB] at hlen hB0 ⊢
  have hbl : B.length ≤ 1000000 := by simp at hlen; omega
  have HCK := Lib.hid hck
  have HB0 := Lib.hid hB0
  show Calls _ _ #[.agg #[.int .u8 5, .int .i64 n, .string s, .slice na names.length ncap, .slice a kids.len cap]] _ _
  have hns : (names.length : Int) ≤ 9223372036854775807 := by rw [maxL] at *; omega
  have hks : (kids.len : Int) ≤ 9223372036854775807 := by rw [maxL] at *; omega
  have hBL := Lib.hid hbl
  clear hn hk hfk hnm hck hlen c1 c2 hB hB0 hbl
  have HX := Lib.hid (BoxAt.made w 5 n s (.slice na names.length ncap) (.slice a kids.len cap) 25)
  go_enter Tryz.func26, Tryz.ntmps26
  go_wp2_with fail
  go_loopw [5, 6] (fun l z wr => ∃ (i : Nat) (t : ByteArray), i ≤ kids.len ∧ z = .int .i64 i ∧ l = .string t ∧ t.size ≤ 1000000 ∧ Hid (∃ P ns, t = str P ∧ P ++ restB false ([] : List ByteArray) kids i = B ∧ chkL false d ns (toL false (([] : List ByteArray).drop i) (kids.drop i)) = 0) ∧ BoxAt wr w.heap.size 5 n s (.slice na names.length ncap) (.slice a kids.len cap) ∧ Below w.heap.size w wr) (fun _ z _ => kids.len - (intOf z).toNat)
  case atStart => exact ⟨0, _, Nat.zero_le _, rfl, rfl, by decide, Lib.hid ⟨[], [], rfl, by rw [List.nil_append]; exact HB0.out, by rw [Nl.drop_zero]; exact HCK.out⟩, HX.out, (Below.refl _ _).alloc (Nat.le_refl _) _⟩
  case round =>
    obtain ⟨i, t, hi, rfl, rfl, ht, HW, hbx, hbw⟩ := hrel
    by_cases hlt : i < kids.len
    · have hi2 : (i : Int) < (kids.len : Int) := by omega
      obtain ⟨v, hv⟩ := Nl.lt_at kids i hlt
      obtain ⟨⟨g, off, rfl, hg, hc⟩, hin⟩ := Nl.in_at kids 0 i v HI.out hv
      rw [Nat.zero_add] at hc
      obtain ⟨P, ns, hP, hPB, hPC⟩ := HW.out
      rw [toL_step false _ kids i v hv] at hPC
      obtain ⟨q1, q2, q3⟩ := chk_cons hPC
      rw [restB_step false _ kids i v hv] at hPB
      rw [List.tail_drop] at q3
      rw [if_neg (by simp)] at hPB q3
      have hnb : nameB false [] = [] := by rw [nameB, if_neg (by simp)]
      rw [hnb, List.nil_append] at hPB
      have hlens := congrArg List.length hPB
      simp only [List.length_append, List.length_cons, List.length_nil] at hlens
      have hbl := hBL.out
      have HC := HK.out i v hv (d + 1)
      have hfv := FitL.at (w := w) kids i v HF.out hv
      have HC := fun W (hb : Below w.heap.size w W) => HC W (hin.below hb) hfv q2 (by omega)
      obtain ⟨J, hJ⟩ : ∃ J, printV (toJ v) = J := ⟨_, rfl⟩
      rw [hJ] at HC hPB hlens
      have HP := Lib.hid hP
      have HPB := Lib.hid hPB
      have HQ3 := Lib.hid q3
      have sj : (str J).size ≤ 1000000 := by rw [str_size]; omega
      have hsz : P.length + (commaB i).length +  J.length ≤ 1000000 := by omega
      have HSZ := Lib.hid hsz
      obtain ⟨k', n', s', nv', names', kv', kids'⟩ := v
      have e0 := hc 0 (by omega)
      have e1 := hc 1 (by omega)
      have e2 := hc 2 (by omega)
      have e3 := hc 3 (by omega)
      have e4 := hc 4 (by omega)
      simp only [ntCells, Nat.add_zero, List.getElem?_cons_zero, List.getElem?_cons_succ] at e0 e1 e2 e3 e4
      have HE := Lib.hid (And.intro e0 (And.intro e1 (And.intro e2 (And.intro e3 e4))))
      unfold ntA ntCells at HC
      have HC := Lib.hid HC
      have HBX := Lib.hid hbx
      have HBW := Lib.hid hbw
      obtain ⟨b0, b1, b2, b3, b4⟩ := hbx
      clear hc hin hv hJ hP hPB hPC q2 q3 hlens hbl hfv hsz HW e0 e1 e2 e3 e4 hnb q1
      by_cases hz : i = 0
      · have HZ : Hid (commaB i = []) := Lib.hid (by rw [hz]; rfl)
        have hz1 : decide (0 < (i : Int)) = false := by simp; omega
        have hz2 : decide (0 < i) = false := by simp; omega
        have HZZ := Lib.hid hz
        clear hz
        obtain ⟨e0, e1, e2, e3, e4⟩ := HE.out
        have e0 := (hbw.cell hg).trans e0
        have e1 := (hbw.cell hg).trans e1
        have e2 := (hbw.cell hg).trans e2
        have e3 := (hbw.cell hg).trans e3
        have e4 := (hbw.cell hg).trans e4
        clear hbw
        go_wp2_with fail
        refine (HC.out _ HBW.out).mono ?_
        rintro x w2 ⟨rfl, hb⟩
        have HX2 := Lib.hid (HBX.out.later hb)
        have HW2 := Lib.hid (HBW.out.trans (hb.mono HBW.out.size))
        clear b0 b1 b2 b3 b4 e0 e1 e2 e3 e4 hb
        have hT : t ++ str J = str (P ++ commaB i ++ J) := by
          rw [HP.out, HZ.out]
          simp only [show ({ data := #[44] } : ByteArray) = str [44] from rfl, show ({ data := #[58] } : ByteArray) = str [58] from rfl, str_append, List.append_nil, List.append_assoc]
        have HT := Lib.hid hT
        clear hT
        go_wp2_with fail
        go_roundw
        case rel => exact ⟨i + 1, _, by omega, by go_num, rfl, by rw [HT.out, str_size]; have := HSZ.out; simp only [List.length_append, List.length_cons, List.length_nil]; omega, Lib.hid ⟨P ++ commaB i ++ J, _, HT.out, by rw [← HPB.out]; simp only [List.append_assoc], HQ3.out⟩, HX2.out, HW2.out⟩
        case measure => simp [intOf]; omega
      · have HZ : Hid (commaB i = [44]) := Lib.hid (by unfold commaB; rw [if_neg hz])
        have hz1 : decide (0 < (i : Int)) = true := by simp; omega
        have hz2 : decide (0 < i) = true := by simp; omega
        have HZZ := Lib.hid hz
        clear hz
        obtain ⟨e0, e1, e2, e3, e4⟩ := HE.out
        have e0 := (hbw.cell hg).trans e0
        have e1 := (hbw.cell hg).trans e1
        have e2 := (hbw.cell hg).trans e2
        have e3 := (hbw.cell hg).trans e3
        have e4 := (hbw.cell hg).trans e4
        clear hbw
        go_wp2_with fail
        refine (HC.out _ HBW.out).mono ?_
        rintro x w2 ⟨rfl, hb⟩
        have HX2 := Lib.hid (HBX.out.later hb)
        have HW2 := Lib.hid (HBW.out.trans (hb.mono HBW.out.size))
        clear b0 b1 b2 b3 b4 e0 e1 e2 e3 e4 hb
        have hT : t ++ { data := #[44] } ++ str J = str (P ++ commaB i ++ J) := by
          rw [HP.out, HZ.out]
          simp only [show ({ data := #[44] } : ByteArray) = str [44] from rfl, show ({ data := #[58] } : ByteArray) = str [58] from rfl, str_append, List.append_nil, List.append_assoc]
        have HT := Lib.hid hT
        clear hT
        go_wp2_with fail
        go_roundw
        case rel => exact ⟨i + 1, _, by omega, by go_num, rfl, by rw [HT.out, str_size]; have := HSZ.out; simp only [List.length_append, List.length_cons, List.length_nil]; omega, Lib.hid ⟨P ++ commaB i ++ J, _, HT.out, by rw [← HPB.out]; simp only [List.append_assoc], HQ3.out⟩, HX2.out, HW2.out⟩
        case measure => simp [intOf]; omega
    · obtain rfl : i = kids.len := by omega
      have hx : t = str B := by
        obtain ⟨P, ns, hP, hPB, _⟩ := HW.out
        rw [restB_end, List.append_nil] at hPB
        rw [hP, hPB]
      have HXX := Lib.hid hx
      clear hx
      obtain ⟨b0, b1, b2, b3, b4⟩ := hbx
      have HBW := Lib.hid hbw
      clear hbw
      go_wp2_with fail
      go_ret
      exact ⟨ret_s (by rw [HXX.out, show ({ data := #[91] } : ByteArray) = str [91] from rfl, show ({ data := #[93] } : ByteArray) = str [93] from rfl, str_append, str_append]; simp), HBW.out⟩
set_option maxHeartbeats 2000000 in
theorem json_obj (n : Int) (s : ByteArray) (nv : Value) (names : List ByteArray) (kv : Value) (kids : Nl) (HK : ∀ i v, kids.at? i = some v → JsonOk v) : JsonOk (.mk 6 n s nv names kv kids) := by
  intro d w hin hfit hck hlen
  rw [Nt.In] at hin
  obtain ⟨_, ⟨n0, n1⟩, hs, ⟨na, ncap, rfl, nl, nm, hn⟩, a, cap, rfl, kl, km, hk⟩ := hin
  rw [Fit] at hfit
  obtain ⟨_, hl0, _, hnm, hfk⟩ := hfit
  have hln : kids.len ≤ names.length := by have := hl0 rfl; omega
  clear hl0
  have HK := Lib.hid HK
  have HN := Lib.hid hn
  have HI := Lib.hid hk
  have HF := Lib.hid hfk
  have HS := Lib.hid hnm
  rw [toJ, if_neg (by omega), if_neg (by omega), if_neg (by omega), if_neg (by omega), if_neg (by omega), if_neg (by omega), if_pos rfl] at hck hlen ⊢
  rw [chk_obj] at hck
  by_cases c1 : 4 < d
  · rw [if_pos c1] at hck; cases hck
  rw [if_neg c1] at hck
  by_cases c2 : 64 < (toL true names kids).length
  · rw [if_pos c2] at hck; cases hck
  rw [if_neg c2] at hck
  rw [printV] at hlen ⊢
  have hB0 : restB true names kids 0 = bodyP true (toL true names kids) := by unfold restB; rw [if_pos rfl, Nl.drop_zero]; rfl
  obtain ⟨B, hB⟩ : ∃ B, bodyP true (toL true names kids) = B := ⟨_, rfl⟩
  rw [hB] at hlen hB0 ⊢
  have hbl : B.length ≤ 1000000 := by simp at hlen; omega
  have HCK := Lib.hid hck
  have HB0 := Lib.hid hB0
  show Calls _ _ #[.agg #[.int .u8 6, .int .i64 n, .string s, .slice na names.length ncap, .slice a kids.len cap]] _ _
  have hns : (names.length : Int) ≤ 9223372036854775807 := by rw [maxL] at *; omega
  have hks : (kids.len : Int) ≤ 9223372036854775807 := by rw [maxL] at *; omega
  have hBL := Lib.hid hbl
  clear hn hk hfk hnm hck hlen c1 c2 hB hB0 hbl
  have HX := Lib.hid (BoxAt.made w 6 n s (.slice na names.length ncap) (.slice a kids.len cap) 25)
  go_enter Tryz.func26, Tryz.ntmps26
  go_wp2_with fail
  go_loopw [5, 6] (fun l z wr => ∃ (i : Nat) (t : ByteArray), i ≤ kids.len ∧ z = .int .i64 i ∧ l = .string t ∧ t.size ≤ 1000000 ∧ Hid (∃ P ns, t = str P ∧ P ++ restB true names kids i = B ∧ chkL true d ns (toL true (names.drop i) (kids.drop i)) = 0) ∧ BoxAt wr w.heap.size 6 n s (.slice na names.length ncap) (.slice a kids.len cap) ∧ Below w.heap.size w wr) (fun _ z _ => kids.len - (intOf z).toNat)
  case atStart => exact ⟨0, _, Nat.zero_le _, rfl, rfl, by decide, Lib.hid ⟨[], [], rfl, by rw [List.nil_append]; exact HB0.out, by rw [Nl.drop_zero]; exact HCK.out⟩, HX.out, (Below.refl _ _).alloc (Nat.le_refl _) _⟩
  case round =>
    obtain ⟨i, t, hi, rfl, rfl, ht, HW, hbx, hbw⟩ := hrel
    by_cases hlt : i < kids.len
    · have hi2 : (i : Int) < (kids.len : Int) := by omega
      obtain ⟨v, hv⟩ := Nl.lt_at kids i hlt
      obtain ⟨⟨g, off, rfl, hg, hc⟩, hin⟩ := Nl.in_at kids 0 i v HI.out hv
      have hi3 : (i : Int) < (names.length : Int) := by omega
      obtain ⟨u, hu⟩ : ∃ u, names[i]? = some u := ⟨_, List.getElem?_eq_getElem (by omega)⟩
      obtain ⟨gn, on, rfl, hgn, hcn, _⟩ := HN.out i u hu
      rw [Nat.zero_add] at hc
      obtain ⟨P, ns, hP, hPB, hPC⟩ := HW.out
      rw [toL_step true _ kids i v hv] at hPC
      obtain ⟨q1, q2, q3⟩ := chk_cons hPC
      rw [restB_step true _ kids i v hv] at hPB
      rw [List.tail_drop] at q3
      rw [drop_step hu] at q1 hPB q3
      rw [if_pos rfl, List.headD_cons] at q1 hPB q3
      have q1 := q1 rfl
      have HQ := Lib.hid (fun W => rquote_any u W (by have := HS.out u (List.mem_of_getElem? hu); omega))
      rw [(quoteS_of q1.1).1, (quoteS_of q1.1).2] at HQ
      have hnb : nameB true (bI u) = quoteS (bI u) ++ [58] := by rw [nameB, if_pos rfl]
      rw [hnb] at hPB
      have hlens := congrArg List.length hPB
      simp only [List.length_append, List.length_cons, List.length_nil] at hlens
      have hbl := hBL.out
      have HC := HK.out i v hv (d + 1)
      have hfv := FitL.at (w := w) kids i v HF.out hv
      have HC := fun W (hb : Below w.heap.size w W) => HC W (hin.below hb) hfv q2 (by omega)
      obtain ⟨J, hJ⟩ : ∃ J, printV (toJ v) = J := ⟨_, rfl⟩
      rw [hJ] at HC hPB hlens
      have HP := Lib.hid hP
      have HPB := Lib.hid hPB
      have HQ3 := Lib.hid q3
      have sj : (str J).size ≤ 1000000 := by rw [str_size]; omega
      have sq : (str (quoteS (bI u))).size ≤ 1000000 := by rw [str_size]; omega
      have hQ : ∃ Q, str (quoteS (bI u)) = Q := ⟨_, rfl⟩
      obtain ⟨Q, hQ⟩ := hQ
      rw [hQ] at HQ sq
      have HQQ := Lib.hid hQ
      have hsz : P.length + (commaB i).length + (quoteS (bI u)).length + 1 + J.length ≤ 1000000 := by omega
      have HSZ := Lib.hid hsz
      obtain ⟨k', n', s', nv', names', kv', kids'⟩ := v
      have e0 := hc 0 (by omega)
      have e1 := hc 1 (by omega)
      have e2 := hc 2 (by omega)
      have e3 := hc 3 (by omega)
      have e4 := hc 4 (by omega)
      simp only [ntCells, Nat.add_zero, List.getElem?_cons_zero, List.getElem?_cons_succ] at e0 e1 e2 e3 e4
      have HE := Lib.hid (And.intro e0 (And.intro e1 (And.intro e2 (And.intro e3 e4))))
      unfold ntA ntCells at HC
      have HC := Lib.hid HC
      have HBX := Lib.hid hbx
      have HBW := Lib.hid hbw
      obtain ⟨b0, b1, b2, b3, b4⟩ := hbx
      have hcn := (hbw.cell hgn).trans hcn
      clear hc hin hv hJ hP hPB hPC q2 q3 hlens hbl hfv hsz HW e0 e1 e2 e3 e4 hnb hu q1 hQ
      by_cases hz : i = 0
      · have HZ : Hid (commaB i = []) := Lib.hid (by rw [hz]; rfl)
        have hz1 : decide (0 < (i : Int)) = false := by simp; omega
        have hz2 : decide (0 < i) = false := by simp; omega
        have HZZ := Lib.hid hz
        clear hz
        clear hbw
        go_wp2_with fail
        refine (HQ.out _).mono ?_
        rintro x w1 ⟨rfl, hb⟩
        have hbx1 := HBX.out.later hb
        have hbw1 := HBW.out.trans (hb.mono HBW.out.size)
        have HX1 := Lib.hid hbx1
        have HW1 := Lib.hid hbw1
        clear b0 b1 b2 b3 b4 hcn hb
        obtain ⟨b0, b1, b2, b3, b4⟩ := hbx1
        obtain ⟨e0, e1, e2, e3, e4⟩ := HE.out
        have e0 := (hbw1.cell hg).trans e0
        have e1 := (hbw1.cell hg).trans e1
        have e2 := (hbw1.cell hg).trans e2
        have e3 := (hbw1.cell hg).trans e3
        have e4 := (hbw1.cell hg).trans e4
        clear hbw1
        go_wp2_with fail
        refine (HC.out _ HW1.out).mono ?_
        rintro x w2 ⟨rfl, hb⟩
        have HX2 := Lib.hid (HX1.out.later hb)
        have HW2 := Lib.hid (HW1.out.trans (hb.mono HW1.out.size))
        clear b0 b1 b2 b3 b4 e0 e1 e2 e3 e4 hb
        have hT : t ++ Q ++ { data := #[58] } ++ str J = str (P ++ commaB i ++ (quoteS (bI u) ++ [58]) ++ J) := by
          rw [HP.out, HZ.out, ← HQQ.out]
          simp only [show ({ data := #[44] } : ByteArray) = str [44] from rfl, show ({ data := #[58] } : ByteArray) = str [58] from rfl, str_append, List.append_nil, List.append_assoc]
        have HT := Lib.hid hT
        clear hT
        go_wp2_with fail
        go_roundw
        case rel => exact ⟨i + 1, _, by omega, by go_num, rfl, by rw [HT.out, str_size]; have := HSZ.out; simp only [List.length_append, List.length_cons, List.length_nil]; omega, Lib.hid ⟨P ++ commaB i ++ (quoteS (bI u) ++ [58]) ++ J, _, HT.out, by rw [← HPB.out]; simp only [List.append_assoc], HQ3.out⟩, HX2.out, HW2.out⟩
        case measure => simp [intOf]; omega
      · have HZ : Hid (commaB i = [44]) := Lib.hid (by unfold commaB; rw [if_neg hz])
        have hz1 : decide (0 < (i : Int)) = true := by simp; omega
        have hz2 : decide (0 < i) = true := by simp; omega
        have HZZ := Lib.hid hz
        clear hz
        clear hbw
        go_wp2_with fail
        refine (HQ.out _).mono ?_
        rintro x w1 ⟨rfl, hb⟩
        have hbx1 := HBX.out.later hb
        have hbw1 := HBW.out.trans (hb.mono HBW.out.size)
        have HX1 := Lib.hid hbx1
        have HW1 := Lib.hid hbw1
        clear b0 b1 b2 b3 b4 hcn hb
        obtain ⟨b0, b1, b2, b3, b4⟩ := hbx1
        obtain ⟨e0, e1, e2, e3, e4⟩ := HE.out
        have e0 := (hbw1.cell hg).trans e0
        have e1 := (hbw1.cell hg).trans e1
        have e2 := (hbw1.cell hg).trans e2
        have e3 := (hbw1.cell hg).trans e3
        have e4 := (hbw1.cell hg).trans e4
        clear hbw1
        go_wp2_with fail
        refine (HC.out _ HW1.out).mono ?_
        rintro x w2 ⟨rfl, hb⟩
        have HX2 := Lib.hid (HX1.out.later hb)
        have HW2 := Lib.hid (HW1.out.trans (hb.mono HW1.out.size))
        clear b0 b1 b2 b3 b4 e0 e1 e2 e3 e4 hb
        have hT : t ++ { data := #[44] } ++ Q ++ { data := #[58] } ++ str J = str (P ++ commaB i ++ (quoteS (bI u) ++ [58]) ++ J) := by
          rw [HP.out, HZ.out, ← HQQ.out]
          simp only [show ({ data := #[44] } : ByteArray) = str [44] from rfl, show ({ data := #[58] } : ByteArray) = str [58] from rfl, str_append, List.append_nil, List.append_assoc]
        have HT := Lib.hid hT
        clear hT
        go_wp2_with fail
        go_roundw
        case rel => exact ⟨i + 1, _, by omega, by go_num, rfl, by rw [HT.out, str_size]; have := HSZ.out; simp only [List.length_append, List.length_cons, List.length_nil]; omega, Lib.hid ⟨P ++ commaB i ++ (quoteS (bI u) ++ [58]) ++ J, _, HT.out, by rw [← HPB.out]; simp only [List.append_assoc], HQ3.out⟩, HX2.out, HW2.out⟩
        case measure => simp [intOf]; omega
    · obtain rfl : i = kids.len := by omega
      have hx : t = str B := by
        obtain ⟨P, ns, hP, hPB, _⟩ := HW.out
        rw [restB_end, List.append_nil] at hPB
        rw [hP, hPB]
      have HXX := Lib.hid hx
      clear hx
      obtain ⟨b0, b1, b2, b3, b4⟩ := hbx
      have HBW := Lib.hid hbw
      clear hbw
      go_wp2_with fail
      go_ret
      exact ⟨ret_s (by rw [HXX.out, show ({ data := #[123] } : ByteArray) = str [123] from rfl, show ({ data := #[125] } : ByteArray) = str [125] from rfl, str_append, str_append]; simp), HBW.out⟩
mutual
theorem json_any : ∀ v : Nt, JsonOk v
  | .mk k n s nv names kv kids => by
    by_cases h5 : k = 5
    · subst h5
      exact json_list n s nv names kv kids (json_kids kids)
    by_cases h6 : k = 6
    · subst h6
      exact json_obj n s nv names kv kids (json_kids kids)
    exact json_flat k n s nv names kv kids h5 h6
theorem json_kids : ∀ (l : Nl) (i : Nat) (v : Nt), l.at? i = some v → JsonOk v
  | .nil, _, _, h => by cases h
  | .cons h t, 0, v, e => by
    obtain rfl : h = v := by simpa [Nl.at?] using e
    exact json_any h
  | .cons h t, i + 1, v, e => json_kids t i v e
end
end Go.Proofs.YtbkceneakdbdkaaGreatDoor
/- How long JSON may be; the document's Check and Put. -/
namespace Go.Proofs.YtbkceneakdbdkaaGreatDoor
open Go.RowKit
set_option maxRecDepth 20000
set_option linter.unusedVariables false
set_option linter.unusedSimpArgs false
theorem quoteS_len (l : List Int) : (quoteS l).length ≤ 6 * l.length + 2 := by
  unfold quoteS
  have := quoteB_len l
  simp
  omega
theorem wg_of {left k n : Int} {s : ByteArray} {nv kv : Value} {names : List ByteArray} {kids : Nl} (h : 0 ≤ wgV left (.mk k n s nv names kv kids)) :
    1 ≤ left ∧ s.size ≤ 300 ∧ (∀ x ∈ names, x.size ≤ 300) ∧ wgV left (.mk k n s nv names kv kids) = wgL (left - 1) kids := by
  rw [wgV] at h ⊢
  by_cases h1 : left < 1 ∨ 300 < s.size ∨ (k = 6 ∧ names.length ≠ kids.len) ∨ n < -4611686018427387904
  · rw [if_pos h1] at h; omega
  rw [if_neg h1] at h ⊢
  by_cases h2 : ∃ x ∈ names, 300 < x.size
  · rw [if_pos h2] at h; omega
  rw [if_neg h2]
  exact ⟨by omega, by omega, fun x hx => Nat.le_of_not_lt fun e => h2 ⟨x, hx, e⟩, rfl⟩
mutual
theorem len_V (d : Nat) (left : Int) : ∀ v : Nt, 0 ≤ wgV left v → chkV d (toJ v) = 0 → ((printV (toJ v)).length : Int) + 1900 ≤ 4000 * (left - wgV left v)
  | .mk k n s nv names kv kids, h, hc => by
    obtain ⟨a1, a2, a3, a4⟩ := wg_of h
    have hle := wgL_le (left - 1) (by omega) kids
    rw [a4] at h ⊢
    have hl : ∀ (ob : Bool) (nm : List ByteArray), (∀ x ∈ nm, x.size ≤ 300) → chkL ob d [] (toL ob nm kids) = 0 → ((bodyP ob (toL ob nm kids)).length : Int) ≤ 4000 * (left - 1 - wgL (left - 1) kids) := by
      intro ob nm hnm hck
      have := len_L d (left - 1) ob kids nm [] h hnm hck
      cases kids with
      | nil => rw [toL, bodyP, wgL]; simp
      | cons v l =>
        rw [toL] at this ⊢
        rw [tail_cons, List.length_cons] at this
        omega
    rw [toJ] at hc ⊢
    by_cases k0 : k = 0
    · rw [if_pos k0, printV]; simp; omega
    rw [if_neg k0] at hc ⊢
    by_cases k1 : k = 1
    · rw [if_pos k1, printV]; simp; omega
    rw [if_neg k1] at hc ⊢
    by_cases k2 : k = 2
    · rw [if_pos k2, printV]; simp; omega
    rw [if_neg k2] at hc ⊢
    by_cases k3 : k = 3
    · rw [if_pos k3] at hc ⊢
      rw [chkV] at hc
      by_cases c : maxI < n ∨ n < -maxI
      · rw [if_pos c] at hc; cases hc
      unfold maxI at c
      rw [printV]
      have := digI_len (n := n) (by omega) (by omega)
      omega
    rw [if_neg k3] at hc ⊢
    by_cases k4 : k = 4
    · rw [if_pos k4, printV]
      have := quoteS_len (bI s)
      rw [bI_len] at this
      omega
    rw [if_neg k4] at hc ⊢
    by_cases k5 : k = 5
    · rw [if_pos k5] at hc ⊢
      rw [chk_arr] at hc
      by_cases c1 : 4 < d
      · rw [if_pos c1] at hc; cases hc
      rw [if_neg c1] at hc
      by_cases c2 : 64 < (toL false [] kids).length
      · rw [if_pos c2] at hc; cases hc
      rw [if_neg c2] at hc
      have := hl false [] (by simp) hc
      rw [printV]
      simp
      omega
    rw [if_neg k5] at hc ⊢
    by_cases k6 : k = 6
    · rw [if_pos k6] at hc ⊢
      rw [chk_obj] at hc
      by_cases c1 : 4 < d
      · rw [if_pos c1] at hc; cases hc
      rw [if_neg c1] at hc
      by_cases c2 : 64 < (toL true names kids).length
      · rw [if_pos c2] at hc; cases hc
      rw [if_neg c2] at hc
      have := hl true names a3 hc
      rw [printV]
      simp
      omega
    rw [if_neg k6, chkV] at hc
    cases hc
theorem len_L (d : Nat) (left : Int) (ob : Bool) : ∀ (l : Nl) (nm : List ByteArray) (ns : List (List Int)), 0 ≤ wgL left l → (∀ x ∈ nm, x.size ≤ 300) → chkL ob d ns (toL ob nm l) = 0 → ((tailP ob (toL ob nm l)).length : Int) ≤ 4000 * (left - wgL left l)
  | .nil, nm, ns, h, hn, hc => by rw [toL, tail_nil, wgL]; simp
  | .cons v t, nm, ns, h, hn, hc => by
    rw [toL] at hc ⊢
    rw [wgL] at h ⊢
    obtain ⟨c1, c2, c3⟩ := chk_cons hc
    by_cases h1 : wgV left v < 0
    · rw [if_pos h1] at h; omega
    rw [if_neg h1] at h ⊢
    have hv := len_V (d + 1) left v (by omega) c2
    have ht := len_L d (wgV left v) ob t nm.tail _ h (fun x hx => hn x (List.mem_of_mem_tail hx)) c3
    rw [tail_cons, body_cons]
    have hnb : (nameB ob (if ob = true then bI (nm.headD ByteArray.empty) else [])).length ≤ 1803 := by
      cases ob with
      | false => rw [nameB, if_neg (by simp)]; simp
      | true =>
        rw [nameB, if_pos rfl, if_pos rfl, List.length_append, List.length_singleton]
        have := quoteS_len (bI (nm.headD ByteArray.empty))
        rw [bI_len] at this
        have hs : (nm.headD ByteArray.empty).size ≤ 300 := by
          cases nm with
          | nil => simp
          | cons a l => exact hn a (.head _)
        omega
    simp only [List.length_cons, List.length_append]
    omega
end
theorem len_light {v : Nt} (h : 0 ≤ wgV 200 v) (hc : chkV 1 (toJ v) = 0) : (printV (toJ v)).length ≤ 1000000 := by
  have := len_V 1 200 v h hc
  omega
set_option maxHeartbeats 1000000 in
theorem rcheck_any (v : Nt) (w : World) (hin : v.In w) (hf : Fit v) : Calls Tryz.prog 15 #[ntA v] w fun x w' => x = .returned (.int .i64 (chkV 1 (toJ v))) ∧ Below w.heap.size w w' := by
  have hal : ∀ T : TypeId, Below w.heap.size w (w.alloc (.cells (ntCells v).toArray T)) := fun T => (Below.refl _ _).alloc (Nat.le_refl _) _
  have HC := Lib.hid (fun T => check_any v 1 (w.alloc (.cells (ntCells v).toArray T)) (hin.below (hal T)) hf (by omega))
  have HB := Lib.hid hal
  clear hal
  obtain ⟨k, n, s, nv, names, kv, kids⟩ := v
  obtain ⟨y, hy⟩ : ∃ y, chkV 1 (toJ (.mk k n s nv names kv kids)) = y := ⟨_, rfl⟩
  rw [hy] at HC ⊢
  clear hy hin
  unfold ntA at HC ⊢
  simp only [ntCells] at HC HB ⊢
  go_enter Tryz.func15, Tryz.ntmps15
  go_wp2_with fail
  refine (HC.out _).mono ?_
  rintro e w1 ⟨rfl, hb⟩
  go_wp2_with fail
  go_ret
  exact ⟨rfl, (HB.out _).trans (hb.mono (HB.out _).size)⟩
theorem put_of (v : Js) : putV v = if chkV 1 v ≠ 0 then ([], chkV 1 v) else if 4096 < (printV v).length then ([], 5) else (printV v, 0) := rfl
set_option maxHeartbeats 1000000 in
theorem rput_any (v : Nt) (w : World) (hin : v.In w) (hl : 0 ≤ wgV 200 v) : Calls Tryz.prog 10 #[ntA v] w fun x w' => x = .returned (.tuple #[.string (str (putV (toJ v)).1), .int .i64 (putV (toJ v)).2]) ∧ Below w.heap.size w w' := by
  have hf := fit_of 200 v hl
  have hal : ∀ T : TypeId, Below w.heap.size w (w.alloc (.cells (ntCells v).toArray T)) := fun T => (Below.refl _ _).alloc (Nat.le_refl _) _
  have HC := Lib.hid (fun T => rcheck_any v (w.alloc (.cells (ntCells v).toArray T)) (hin.below (hal T)) hf)
  have HJ := Lib.hid (fun W (hb : Below w.heap.size w W) hc => json_any v 1 W (hin.below hb) hf hc (len_light hl hc))
  have HL := Lib.hid (len_light hl)
  have HB := Lib.hid hal
  clear hal
  obtain ⟨k, n, s, nv, names, kv, kids⟩ := v
  obtain ⟨y, hy⟩ : ∃ y, toJ (.mk k n s nv names kv kids) = y := ⟨_, rfl⟩
  rw [hy] at HC HJ HL ⊢
  rw [put_of]
  have HX := Lib.hid (BoxAt.made w k n s nv kv 25)
  clear hy hin hl hf
  unfold ntA at HC HJ ⊢
  simp only [ntCells] at HC HJ HB ⊢
  by_cases hc : chkV 1 y = 0
  · rw [hc] at HC
    rw [if_neg (by rw [hc]; simp)]
    have HJ := Lib.hid (fun W hb => HJ.out W hb hc)
    have hlen := HL.out hc
    obtain ⟨J, hJ⟩ : ∃ J, printV y = J := ⟨_, rfl⟩
    rw [hJ] at HJ hlen ⊢
    have hs : (str J).size ≤ 1000000 := by rw [str_size]; exact hlen
    have hsz := str_size J
    have HSZ := Lib.hid hsz
    clear hsz hc hJ HL
    by_cases h4 : 4096 < J.length
    · have hd : decide (4096 < ((str J).size : Int)) = true := by rw [HSZ.out]; simp; omega
      rw [if_pos h4]
      clear h4
      go_enter Tryz.func10, Tryz.ntmps10
      go_wp2_with fail
      refine (HC.out _).mono ?_
      rintro e w1 ⟨rfl, hb⟩
      obtain ⟨b0, b1, b2, b3, b4⟩ := HX.out.later hb
      have HB1 := Lib.hid ((HB.out _).trans (hb.mono (HB.out _).size))
      clear hb
      go_wp2_with fail
      refine (HJ.out _ HB1.out).mono ?_
      rintro e w2 ⟨rfl, hb⟩
      have HB2 := Lib.hid (HB1.out.trans (hb.mono HB1.out.size))
      clear hb b0 b1 b2 b3 b4
      go_wp2_with fail
      refine bodyPost_ret (v := .tuple #[.string { data := #[] }, .int .i64 5]) (by simp [results, Tryz.results10, go_sem]) rfl ⟨rfl, HB2.out⟩
    · have hd : decide (4096 < ((str J).size : Int)) = false := by rw [HSZ.out]; simp; omega
      rw [if_neg h4]
      clear h4
      go_enter Tryz.func10, Tryz.ntmps10
      go_wp2_with fail
      refine (HC.out _).mono ?_
      rintro e w1 ⟨rfl, hb⟩
      obtain ⟨b0, b1, b2, b3, b4⟩ := HX.out.later hb
      have HB1 := Lib.hid ((HB.out _).trans (hb.mono (HB.out _).size))
      clear hb
      go_wp2_with fail
      refine (HJ.out _ HB1.out).mono ?_
      rintro e w2 ⟨rfl, hb⟩
      have HB2 := Lib.hid (HB1.out.trans (hb.mono HB1.out.size))
      clear hb b0 b1 b2 b3 b4
      go_wp2_with fail
      refine bodyPost_ret (v := .tuple #[.string (str J), .int .i64 0]) (by simp [results, Tryz.results10, go_sem]) rfl ⟨rfl, HB2.out⟩
  · rw [if_pos hc]
    have hd : (chkV 1 y != 0) = true := by simpa using hc
    obtain ⟨c, hcc⟩ : ∃ c, chkV 1 y = c := ⟨_, rfl⟩
    rw [hcc] at hd HC ⊢
    clear hc hcc HJ HL
    go_enter Tryz.func10, Tryz.ntmps10
    go_wp2_with fail
    refine (HC.out _).mono ?_
    rintro e w1 ⟨rfl, hb⟩
    have HB1 := Lib.hid ((HB.out _).trans (hb.mono (HB.out _).size))
    clear hb
    go_wp2_with fail
    refine bodyPost_ret (v := .tuple #[.string { data := #[] }, .int .i64 c]) (by simp [results, Tryz.results10, go_sem]) rfl ⟨rfl, HB1.out⟩
end Go.Proofs.YtbkceneakdbdkaaGreatDoor
