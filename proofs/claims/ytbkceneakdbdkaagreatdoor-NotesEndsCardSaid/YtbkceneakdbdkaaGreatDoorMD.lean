/- Several texts, one behind the other: Jh, Ji, Jj. -/
import Derived.Test.YtbkceneakdbdkaaGreatDoorMC
/- The document's Count, mark and Quote. -/
namespace Go.Proofs.YtbkceneakdbdkaaGreatDoor
open Go.RowKit
set_option maxRecDepth 20000
set_option linter.unusedVariables false
set_option linter.unusedSimpArgs false
theorem count_fuel (f : Nat) (l : List Int) (h : l.length ≤ f) : countF f l = countP l := by
  by_cases hp : 0 ≤ countP l
  · obtain ⟨n, h1, h2⟩ := count_of hp
    rw [h2, val_count f l n h h1]
  · have h1 := count_no (l := l) (by omega)
    by_cases hf : 0 ≤ countF f l
    · obtain ⟨n, h2, h3⟩ := count_val f l hf
      rw [count_is h2] at h1
      omega
    · have := countF_ge f l
      omega
theorem count_nil : countP [] = 0 := rfl
theorem count_step {l : List Int} (hl : l ≠ []) : countP l = if runeP l = [] then -1 else if countP (l.drop (runeP l).length) < 0 then -1 else countP (l.drop (runeP l).length) + 1 := by
  cases l with
  | nil => exact absurd rfl hl
  | cons b t =>
    have e : countP (b :: t) = countF (t.length + 1) (b :: t) := rfl
    rw [e, countF, if_neg hl]
    by_cases hr : runeP (b :: t) = []
    · rw [if_pos hr, if_pos hr]
    · rw [if_neg hr, if_neg hr, count_fuel t.length _ (by have := List.length_pos_iff.2 hr; rw [List.length_drop, List.length_cons]; omega)]
/-- A count that goes on. -/
def addC (n : Nat) (c : Int) : Int := if c < 0 then -1 else n + c
theorem emp_yes {s : ByteArray} (h : s.size = 0) : (s.toList == []) = true := by
  have : s = ByteArray.empty := by
    apply ByteArray.ext
    apply Array.eq_empty_of_size_eq_zero
    exact h
  rw [this]; simp
theorem emp_no {s : ByteArray} (h : s.size ≠ 0) : (s.toList == []) = false := by
  rw [ByteArray.toList_eq, beq_eq_false_iff_ne]
  intro e
  exact h (by have := congrArg List.length e; simpa using this)
theorem ext_tail (s : ByteArray) (k : Nat) (hk : k ≤ s.size) : bI (s.extract k s.size) = (bI s).drop k := by
  rw [bI_extract _ _ _ hk, List.take_of_length_le (by rw [List.length_drop, bI_len]; omega)]
theorem rune_size (s : ByteArray) : (str (runeP (bI s))).size = (runeP (bI s)).length := str_size _
def sizeV : Value → Nat
  | .string s => s.size
  | _ => 0
set_option maxHeartbeats 2000000 in
theorem rcount_any (s : ByteArray) (w : World) (hs : s.size ≤ 1000000) : Calls Tryz.prog 54 #[.string s] w fun e w' => e = .returned (.int .i64 (countP (bI s))) ∧ Below w.heap.size w w' := by
  obtain ⟨T, hT⟩ : ∃ T, countP (bI s) = T := ⟨_, rfl⟩
  rw [hT]
  have H0 : Hid (T = addC 0 (countP (bI s))) := Lib.hid (by
    have h2 : -1 ≤ countP (bI s) := countF_ge (bI s).length (bI s)
    unfold addC
    rw [← hT]
    split <;> omega)
  clear hT
  go_enter Tryz.func54, Tryz.ntmps54
  go_wp2_with fail
  go_loopw [0, 3] (fun v i wr => ∃ (m : ByteArray) (n : Nat), v = .string m ∧ i = .int .i64 n ∧ n + m.size ≤ 1000000 ∧ Hid (T = addC n (countP (bI m))) ∧ Hid (Below w.heap.size w wr)) (fun v _ _ => sizeV v)
  case atStart => exact ⟨s, 0, rfl, rfl, by omega, H0, Lib.hid (Below.refl _ _)⟩
  case round =>
    obtain ⟨m, n, rfl, rfl, hmn, HT, HB⟩ := hrel
    by_cases hz : m.size = 0
    · have hm : bI m = [] := List.eq_nil_of_length_eq_zero (by rw [bI_len]; exact hz)
      have HE : Hid ((n : Int) = T) := Lib.hid (by have := HT.out; rw [hm, count_nil] at this; unfold addC at this; rw [if_neg (by omega)] at this; omega)
      have hz1 : (m.size : Int) = 0 := by omega
      clear HT hm
      go_wp2_with fail
      go_ret
      exact ⟨congrArg (fun x => Ending.returned (Value.int .i64 x)) HE.out, HB.out⟩
    · have hne : bI m ≠ [] := by intro e; have := bI_len m; rw [e] at this; simp at this; omega
      have hz2 : (0 : Int) < (m.size : Int) := by omega
      have HR := Lib.hid (rrune_any m)
      have hst := count_step hne
      obtain ⟨r, hr⟩ : ∃ r, runeP (bI m) = r := ⟨_, rfl⟩
      have hrl := (rune_len (bI m)).1
      have hrs := rune_size m
      rw [hr] at hst HR hrl hrs
      rw [bI_len] at hrl
      by_cases hr0 : r = []
      · subst hr0
        rw [if_pos rfl] at hst
        have HE : Hid (T = -1) := Lib.hid (by rw [HT.out, hst]; rfl)
        have hem : ((str []).toList == []) = true := emp_yes rfl
        clear HT hst hr hrs hrl
        go_wp2_with fail
        refine (HR.out _ (by omega)).mono ?_
        rintro e w1 ⟨rfl, hb1⟩
        have HB1 := Lib.hid (HB.out.trans (hb1.mono HB.out.size))
        clear hb1
        go_wp2_with fail
        go_ret
        exact ⟨congrArg (fun x => Ending.returned (Value.int .i64 x)) HE.out.symm, HB1.out⟩
      · rw [if_neg hr0] at hst
        have hrp := List.length_pos_iff.2 hr0
        have hem : ((str r).toList == []) = false := emp_no (by rw [hrs]; omega)
        have htl := ext_tail m r.length hrl
        have HE : Hid (T = addC (n + 1) (countP (bI (m.extract r.length m.size)))) := Lib.hid (by
          rw [HT.out, hst, htl]
          unfold addC
          by_cases hc : countP (List.drop r.length (bI m)) < 0
          · rw [if_pos hc, if_pos (by omega), if_pos hc]
          · rw [if_neg hc, if_neg (by omega), if_neg hc]; omega)
        have hsz : (m.extract r.length m.size).size = m.size - r.length := by rw [ByteArray.size_extract]; omega
        have HSZ := Lib.hid hsz
        have HRS := Lib.hid hrs
        have hk1 : ((str r).size : Int) ≤ (m.size : Int) := by rw [hrs]; omega
        clear HT hst hr htl hsz
        go_wp2_with fail
        refine (HR.out _ (by omega)).mono ?_
        rintro e w1 ⟨rfl, hb1⟩
        have HB1 := Lib.hid (HB.out.trans (hb1.mono HB.out.size))
        clear hb1
        go_wp2_with fail
        go_roundw
        case rel => exact ⟨m.extract r.length m.size, n + 1, by first | rfl | rw [HRS.out], by go_num, by rw [HSZ.out]; omega, HE, HB1⟩
        case measure => simp only [sizeV]; first | (rw [HSZ.out]; omega) | (rw [HRS.out, HSZ.out]; omega)
end Go.Proofs.YtbkceneakdbdkaaGreatDoor
/- The document's mark and Quote. -/
namespace Go.Proofs.YtbkceneakdbdkaaGreatDoor
open Go.RowKit
set_option maxRecDepth 20000
set_option linter.unusedVariables false
set_option linter.unusedSimpArgs false
theorem Below.drewNs {w W : World} (h : Below w.heap.size w W) (n : Nat) : Below w.heap.size w (W.drewN n) := h.trans (show Below w.heap.size W (W.drewN n) from ⟨rfl, rfl, rfl, Nat.le_refl _, fun _ _ => rfl⟩)
theorem rmark_34 (w : World) : Calls Tryz.prog 72 #[.int .u8 34] w fun e w' => e = .returned (.string (str (markP 34))) ∧ Below w.heap.size w w' := by
  have hr : str (markP 34) = { data := #[92, 34] } := by decide
  rw [hr]
  clear hr
  go_enter Tryz.func72, Tryz.ntmps72
  go_wp2_with fail
  refine wp_loop_rounds 8 ?_
  rw [rounds_succ]
  go_wp2_with fail
  go_ret
  exact ⟨rfl, Below.refl _ _⟩
theorem rmark_92 (w : World) : Calls Tryz.prog 72 #[.int .u8 92] w fun e w' => e = .returned (.string (str (markP 92))) ∧ Below w.heap.size w w' := by
  have hr : str (markP 92) = { data := #[92, 92] } := by decide
  rw [hr]
  clear hr
  go_enter Tryz.func72, Tryz.ntmps72
  go_wp2_with fail
  refine wp_loop_rounds 8 ?_
  rw [rounds_succ]
  go_wp2_with fail
  rw [rounds_succ]
  go_wp2_with fail
  go_ret
  exact ⟨rfl, Below.refl _ _⟩
theorem rmark_8 (w : World) : Calls Tryz.prog 72 #[.int .u8 8] w fun e w' => e = .returned (.string (str (markP 8))) ∧ Below w.heap.size w w' := by
  have hr : str (markP 8) = { data := #[92, 98] } := by decide
  rw [hr]
  clear hr
  go_enter Tryz.func72, Tryz.ntmps72
  go_wp2_with fail
  refine wp_loop_rounds 8 ?_
  rw [rounds_succ]
  go_wp2_with fail
  rw [rounds_succ]
  go_wp2_with fail
  rw [rounds_succ]
  go_wp2_with fail
  go_ret
  exact ⟨rfl, Below.refl _ _⟩
theorem rmark_9 (w : World) : Calls Tryz.prog 72 #[.int .u8 9] w fun e w' => e = .returned (.string (str (markP 9))) ∧ Below w.heap.size w w' := by
  have hr : str (markP 9) = { data := #[92, 116] } := by decide
  rw [hr]
  clear hr
  go_enter Tryz.func72, Tryz.ntmps72
  go_wp2_with fail
  refine wp_loop_rounds 8 ?_
  rw [rounds_succ]
  go_wp2_with fail
  rw [rounds_succ]
  go_wp2_with fail
  rw [rounds_succ]
  go_wp2_with fail
  rw [rounds_succ]
  go_wp2_with fail
  go_ret
  exact ⟨rfl, Below.refl _ _⟩
theorem rmark_10 (w : World) : Calls Tryz.prog 72 #[.int .u8 10] w fun e w' => e = .returned (.string (str (markP 10))) ∧ Below w.heap.size w w' := by
  have hr : str (markP 10) = { data := #[92, 110] } := by decide
  rw [hr]
  clear hr
  go_enter Tryz.func72, Tryz.ntmps72
  go_wp2_with fail
  refine wp_loop_rounds 8 ?_
  rw [rounds_succ]
  go_wp2_with fail
  rw [rounds_succ]
  go_wp2_with fail
  rw [rounds_succ]
  go_wp2_with fail
  rw [rounds_succ]
  go_wp2_with fail
  rw [rounds_succ]
  go_wp2_with fail
  go_ret
  exact ⟨rfl, Below.refl _ _⟩
theorem rmark_12 (w : World) : Calls Tryz.prog 72 #[.int .u8 12] w fun e w' => e = .returned (.string (str (markP 12))) ∧ Below w.heap.size w w' := by
  have hr : str (markP 12) = { data := #[92, 102] } := by decide
  rw [hr]
  clear hr
  go_enter Tryz.func72, Tryz.ntmps72
  go_wp2_with fail
  refine wp_loop_rounds 8 ?_
  rw [rounds_succ]
  go_wp2_with fail
  rw [rounds_succ]
  go_wp2_with fail
  rw [rounds_succ]
  go_wp2_with fail
  rw [rounds_succ]
  go_wp2_with fail
  rw [rounds_succ]
  go_wp2_with fail
  rw [rounds_succ]
  go_wp2_with fail
  go_ret
  exact ⟨rfl, Below.refl _ _⟩
theorem rmark_13 (w : World) : Calls Tryz.prog 72 #[.int .u8 13] w fun e w' => e = .returned (.string (str (markP 13))) ∧ Below w.heap.size w w' := by
  have hr : str (markP 13) = { data := #[92, 114] } := by decide
  rw [hr]
  clear hr
  go_enter Tryz.func72, Tryz.ntmps72
  go_wp2_with fail
  refine wp_loop_rounds 8 ?_
  rw [rounds_succ]
  go_wp2_with fail
  rw [rounds_succ]
  go_wp2_with fail
  rw [rounds_succ]
  go_wp2_with fail
  rw [rounds_succ]
  go_wp2_with fail
  rw [rounds_succ]
  go_wp2_with fail
  rw [rounds_succ]
  go_wp2_with fail
  rw [rounds_succ]
  go_wp2_with fail
  go_ret
  exact ⟨rfl, Below.refl _ _⟩
theorem mark_low : ∀ k : Nat, k < 32 → markP (k : Int) ≠ [(k : Int)] → markP (k : Int) = [92, 117, 48, 48, hexP ((k : Int) / 16), hexP ((k : Int) % 16)] ∨ k = 8 ∨ k = 9 ∨ k = 10 ∨ k = 12 ∨ k = 13 := by decide
def hexT : ByteArray := { data := #[48, 49, 50, 51, 52, 53, 54, 55, 56, 57, 97, 98, 99, 100, 101, 102] }
theorem hex_ext : ∀ d : Nat, d < 16 → hexT.extract d (d + 1) = str [hexP (d : Int)] := by decide
theorem mark_is {c : Int} (h0 : 0 ≤ c) (h : c < 32) (h8 : c ≠ 8) (h9 : c ≠ 9) (h10 : c ≠ 10) (h12 : c ≠ 12) (h13 : c ≠ 13) : markP c = [92, 117, 48, 48, hexP (c / 16), hexP (c % 16)] := by
  unfold markP
  rw [if_neg (by omega), if_neg (by omega), if_neg h8, if_neg h9, if_neg h10, if_neg h12, if_neg h13, if_pos h]
theorem mark_self {c : Int} (h : 32 ≤ c) (h1 : c ≠ 34) (h2 : c ≠ 92) : markP c = [c] := by
  unfold markP
  rw [if_neg h1, if_neg h2, if_neg (by omega), if_neg (by omega), if_neg (by omega), if_neg (by omega), if_neg (by omega), if_neg (by omega)]
set_option maxHeartbeats 2000000 in
theorem rmark_low (c : Int) (w : World) (h0 : 0 ≤ c) (h1 : c < 32) (n34 : (34 == c) = false) (n92 : (92 == c) = false) (n8 : (8 == c) = false) (n9 : (9 == c) = false) (n10 : (10 == c) = false) (n12 : (12 == c) = false) (n13 : (13 == c) = false) (hx : str (markP c) = { data := #[92, 117, 48, 48] } ++ hexT.extract (c / 16).toNat (c / 16 + 1).toNat ++ hexT.extract (c % 16).toNat (c % 16 + 1).toNat) : Calls Tryz.prog 72 #[.int .u8 c] w fun e w' => e = .returned (.string (str (markP c))) ∧ Below w.heap.size w w' := by
  have d1 : decide (c < 32) = true := decide_eq_true h1
  have w1 : IntKind.u8.wrap (c / 16 + 1) = c / 16 + 1 := by rw [IntKind.wrap_u8]; omega
  have w2 : IntKind.u8.wrap (c % 16 + 1) = c % 16 + 1 := by rw [IntKind.wrap_u8]; omega
  have b1 : 0 ≤ c / 16 := by omega
  have b2 : c / 16 ≤ c / 16 + 1 := by omega
  have b3 : c / 16 + 1 ≤ 16 := by omega
  have b4 : 0 ≤ c % 16 := by omega
  have b5 : c % 16 ≤ c % 16 + 1 := by omega
  have b6 : c % 16 + 1 ≤ 16 := by omega
  rw [hx]
  clear hx
  unfold hexT
  have k0 : ((({ data := #[34, 92, 8, 9, 10, 12, 13] } : ByteArray)[0]'(by decide)).toNat : Int) = 34 := rfl
  have k1 : ((({ data := #[34, 92, 8, 9, 10, 12, 13] } : ByteArray)[1]'(by decide)).toNat : Int) = 92 := rfl
  have k2 : ((({ data := #[34, 92, 8, 9, 10, 12, 13] } : ByteArray)[2]'(by decide)).toNat : Int) = 8 := rfl
  have k3 : ((({ data := #[34, 92, 8, 9, 10, 12, 13] } : ByteArray)[3]'(by decide)).toNat : Int) = 9 := rfl
  have k4 : ((({ data := #[34, 92, 8, 9, 10, 12, 13] } : ByteArray)[4]'(by decide)).toNat : Int) = 10 := rfl
  have k5 : ((({ data := #[34, 92, 8, 9, 10, 12, 13] } : ByteArray)[5]'(by decide)).toNat : Int) = 12 := rfl
  have k6 : ((({ data := #[34, 92, 8, 9, 10, 12, 13] } : ByteArray)[6]'(by decide)).toNat : Int) = 13 := rfl
  go_enter Tryz.func72, Tryz.ntmps72
  go_wp2_with fail
  refine wp_loop_rounds 8 ?_
  rw [rounds_succ]
  go_wp2_with fail
  rw [rounds_succ]
  go_wp2_with fail
  rw [rounds_succ]
  go_wp2_with fail
  rw [rounds_succ]
  go_wp2_with fail
  rw [rounds_succ]
  go_wp2_with fail
  rw [rounds_succ]
  go_wp2_with fail
  rw [rounds_succ]
  go_wp2_with fail
  rw [rounds_succ]
  go_wp2_with fail
  go_quiet (fail)
  go_wp2_with fail
  go_ret
  exact ⟨rfl, Below.drewNs (Below.refl _ _) _⟩
set_option maxHeartbeats 2000000 in
theorem rmark_self (c : Int) (w : World) (h0 : 32 ≤ c) (h1 : c < 128) (n34 : (34 == c) = false) (n92 : (92 == c) = false) (n8 : (8 == c) = false) (n9 : (9 == c) = false) (n10 : (10 == c) = false) (n12 : (12 == c) = false) (n13 : (13 == c) = false) : Calls Tryz.prog 72 #[.int .u8 c] w fun e w' => e = .returned (.string (str [c])) ∧ Below w.heap.size w w' := by
  have d1 : decide (c < 32) = false := decide_eq_false (by omega)
  have hx := run_built w [c] 5 (by simp)
  simp only [List.map_cons, List.map_nil, List.length_cons, List.length_nil, Nat.zero_add] at hx
  have k0 : ((({ data := #[34, 92, 8, 9, 10, 12, 13] } : ByteArray)[0]'(by decide)).toNat : Int) = 34 := rfl
  have k1 : ((({ data := #[34, 92, 8, 9, 10, 12, 13] } : ByteArray)[1]'(by decide)).toNat : Int) = 92 := rfl
  have k2 : ((({ data := #[34, 92, 8, 9, 10, 12, 13] } : ByteArray)[2]'(by decide)).toNat : Int) = 8 := rfl
  have k3 : ((({ data := #[34, 92, 8, 9, 10, 12, 13] } : ByteArray)[3]'(by decide)).toNat : Int) = 9 := rfl
  have k4 : ((({ data := #[34, 92, 8, 9, 10, 12, 13] } : ByteArray)[4]'(by decide)).toNat : Int) = 10 := rfl
  have k5 : ((({ data := #[34, 92, 8, 9, 10, 12, 13] } : ByteArray)[5]'(by decide)).toNat : Int) = 12 := rfl
  have k6 : ((({ data := #[34, 92, 8, 9, 10, 12, 13] } : ByteArray)[6]'(by decide)).toNat : Int) = 13 := rfl
  go_enter Tryz.func72, Tryz.ntmps72
  go_wp2_with fail
  refine wp_loop_rounds 8 ?_
  rw [rounds_succ]
  go_wp2_with fail
  rw [rounds_succ]
  go_wp2_with fail
  rw [rounds_succ]
  go_wp2_with fail
  rw [rounds_succ]
  go_wp2_with fail
  rw [rounds_succ]
  go_wp2_with fail
  rw [rounds_succ]
  go_wp2_with fail
  rw [rounds_succ]
  go_wp2_with fail
  rw [rounds_succ]
  go_wp2_with fail
  go_ret
  exact ⟨rfl, by go_grown⟩
theorem rmark_any (c : Int) (w : World) (h0 : 0 ≤ c) (h1 : c < 128) : Calls Tryz.prog 72 #[.int .u8 c] w fun e w' => e = .returned (.string (str (markP c))) ∧ Below w.heap.size w w' := by
  by_cases c34 : c = 34
  · rw [c34]; exact rmark_34 w
  by_cases c92 : c = 92
  · rw [c92]; exact rmark_92 w
  by_cases c8 : c = 8
  · rw [c8]; exact rmark_8 w
  by_cases c9 : c = 9
  · rw [c9]; exact rmark_9 w
  by_cases c10 : c = 10
  · rw [c10]; exact rmark_10 w
  by_cases c12 : c = 12
  · rw [c12]; exact rmark_12 w
  by_cases c13 : c = 13
  · rw [c13]; exact rmark_13 w
  have n34 : ((34 : Int) == c) = false := by simpa using fun e => c34 e.symm
  have n92 : ((92 : Int) == c) = false := by simpa using fun e => c92 e.symm
  have n8 : ((8 : Int) == c) = false := by simpa using fun e => c8 e.symm
  have n9 : ((9 : Int) == c) = false := by simpa using fun e => c9 e.symm
  have n10 : ((10 : Int) == c) = false := by simpa using fun e => c10 e.symm
  have n12 : ((12 : Int) == c) = false := by simpa using fun e => c12 e.symm
  have n13 : ((13 : Int) == c) = false := by simpa using fun e => c13 e.symm
  by_cases h2 : c < 32
  · refine rmark_low c w h0 h2 n34 n92 n8 n9 n10 n12 n13 ?_
    have e1 := hex_ext (c / 16).toNat (by omega)
    have e2 := hex_ext (c % 16).toNat (by omega)
    rw [show ((c / 16).toNat : Int) = c / 16 by omega] at e1
    rw [show ((c % 16).toNat : Int) = c % 16 by omega] at e2
    rw [show (c / 16 + 1).toNat = (c / 16).toNat + 1 by omega, show (c % 16 + 1).toNat = (c % 16).toNat + 1 by omega, e1, e2, mark_is h0 h2 c8 c9 c10 c12 c13]
    rw [show ({ data := #[92, 117, 48, 48] } : ByteArray) = str [92, 117, 48, 48] by decide, str_append, str_append]
    rfl
  · rw [mark_self (by omega) c34 c92]
    exact rmark_self c w (by omega) h1 n34 n92 n8 n9 n10 n12 n13
end Go.Proofs.YtbkceneakdbdkaaGreatDoor
/- The document's Quote. -/
namespace Go.Proofs.YtbkceneakdbdkaaGreatDoor
open Go.RowKit
set_option maxRecDepth 20000
set_option linter.unusedVariables false
set_option linter.unusedSimpArgs false
/-- The text that is laid so far. -/
theorem quote_take (l : List Int) (k : Nat) (b : Int) (h : l[k]? = some b) : quoteB (l.take (k + 1)) = quoteB (l.take k) ++ byteQ b := by
  rw [List.take_add_one, h, quoteB_append]
  show _ ++ (byteQ b ++ []) = _
  rw [List.append_nil]
theorem byteQ_len (b : Int) : (byteQ b).length ≤ 6 := by
  unfold byteQ markP
  repeat' split
  all_goals simp
theorem quoteB_len : ∀ l : List Int, (quoteB l).length ≤ 6 * l.length
  | [] => by simp [quoteB]
  | b :: l => by
    have h1 := byteQ_len b
    have h2 := quoteB_len l
    have e : quoteB (b :: l) = byteQ b ++ quoteB l := rfl
    rw [e, List.length_append, List.length_cons]
    omega
def intOf' : Value → Int
  | .int _ n => n
  | _ => 0
theorem bI_get (s : ByteArray) (k : Nat) (h : k < s.size) : (bI s)[k]? = some ((s[k]'h).toNat : Int) := by
  have h1 := bI_split s k h
  have hk : k < (bI s).length := by rw [bI_len]; exact h
  rw [List.drop_eq_getElem_cons hk] at h1
  injection h1 with h2 _
  rw [List.getElem?_eq_getElem hk, h2]
theorem ext_one (s : ByteArray) (k : Nat) (h : k < s.size) : s.extract k (k + 1) = str [((s[k]'h).toNat : Int)] := by
  apply bI_inj
  have hb := (s[k]'h).toNat_lt
  rw [bI_str _ (by intro b hb; simp at hb; omega), bI_extract _ _ _ (Nat.le_succ _), bI_split s k h, show k + 1 - k = 0 + 1 by omega, List.take_succ_cons, List.take_zero]
set_option maxHeartbeats 2000000 in
theorem rquote_any (s : ByteArray) (w : World) (hs : s.size ≤ 10000) : Calls Tryz.prog 45 #[.string s] w fun e w' => e = .returned (.tuple #[.string (str (quoteP (bI s)).1), .int .i64 (quoteP (bI s)).2]) ∧ Below w.heap.size w w' := by
  have HC := Lib.hid (rcount_any s w (by omega))
  by_cases hc : countP (bI s) < 0
  · have hq : quoteP (bI s) = ([], 4) := by unfold quoteP; rw [if_pos hc]
    rw [hq]
    have d1 : decide (countP (bI s) < 0) = true := decide_eq_true hc
    have h0 : str [] = { data := #[] } := rfl
    rw [h0]
    generalize countP (bI s) = c at *
    clear hc hq h0
    go_enter Tryz.func45, Tryz.ntmps45
    go_wp2_with fail
    refine HC.out.mono ?_
    rintro e w1 ⟨rfl, hb1⟩
    go_wp2_with fail
    refine bodyPost_ret (v := .tuple #[.string { data := #[] }, .int .i64 4]) (by simp [results, Tryz.results45, go_sem]) rfl ⟨rfl, hb1⟩
  · have hq : quoteP (bI s) = (34 :: quoteB (bI s) ++ [34], 0) := by unfold quoteP; rw [if_neg hc]
    rw [hq]
    have d1 : decide (countP (bI s) < 0) = false := decide_eq_false hc
    generalize countP (bI s) = c at *
    have HB0 : Hid (∀ b ∈ bI s, 0 ≤ b ∧ b < 256) := Lib.hid (bI_byte s)
    have HGET := Lib.hid (bI_get s)
    have HONE := Lib.hid (ext_one s)
    have HQL := Lib.hid (fun k => quoteB_len ((bI s).take k))
    have HLN := Lib.hid (bI_len s)
    obtain ⟨R, hR⟩ : ∃ R, str (34 :: quoteB (bI s) ++ [34]) = R := ⟨_, rfl⟩
    rw [hR]
    have HR := Lib.hid hR
    clear hc hq hR
    go_enter Tryz.func45, Tryz.ntmps45
    go_wp2_with fail
    refine HC.out.mono ?_
    rintro e w1 ⟨rfl, hb1⟩
    have HB1 := Lib.hid hb1
    clear hb1
    go_wp2_with fail
    go_loopw [4, 5] (fun v i wr => ∃ (k : Nat) (t : ByteArray), k ≤ s.size ∧ v = .string t ∧ i = .int .i64 k ∧ t.size ≤ 6 * k + 1 ∧ Hid (t = str (34 :: quoteB ((bI s).take k))) ∧ Hid (Below w.heap.size w wr)) (fun _ i _ => s.size - (intOf' i).toNat)
    case atStart => exact ⟨0, _, Nat.zero_le _, rfl, rfl, by decide, Lib.hid (by rw [List.take_zero]; rfl), HB1⟩
    case round =>
      obtain ⟨k, t, hk, rfl, rfl, hts, HT, HB⟩ := hrel
      by_cases hlt : k < s.size
      · have hi2 : (k : Int) < (s.size : Int) := by omega
        obtain ⟨b, hb⟩ : ∃ b, ((s[k]'hlt).toNat : Int) = b := ⟨_, rfl⟩
        have hget := HGET.out k hlt
        have hone := HONE.out k hlt
        rw [hb] at hget hone
        have hb2 := HB0.out b (List.mem_of_getElem? hget)
        have hqt := quote_take _ _ _ hget
        by_cases hlow : b < 128
        · have d2 : decide (b < 128) = true := decide_eq_true hlow
          have HM := Lib.hid (fun W => rmark_any b W hb2.1 hlow)
          have hbq : byteQ b = markP b := by unfold byteQ; rw [if_pos hlow]
          have hN : t ++ str (markP b) = str (34 :: quoteB ((bI s).take (k + 1))) := by rw [HT.out, str_append, hqt, hbq]; rfl
          have hml : (str (markP b)).size ≤ 6 := by rw [str_size, ← hbq]; exact byteQ_len b
          have HN := Lib.hid hN
          have hsz : (t ++ str (markP b)).size ≤ 6 * (k + 1) + 1 := by rw [ByteArray.size_append]; omega
          have HSZ := Lib.hid hsz
          clear hget hone hqt hbq hN hsz HT
          go_wp2_with fail
          refine (HM.out _).mono ?_
          rintro e w2 ⟨rfl, hb3⟩
          have HB2 := Lib.hid (HB.out.trans (hb3.mono HB.out.size))
          clear hb3
          go_wp2_with fail
          go_roundw
          case rel => exact ⟨k + 1, _, by omega, rfl, by first | rfl | go_num | (push_cast; rfl), HSZ.out, HN, HB2⟩
          case measure => simp [intOf']; omega
        · have d2 : decide (b < 128) = false := decide_eq_false hlow
          have hbq : byteQ b = [b] := by unfold byteQ; rw [if_neg hlow]
          have hN : t ++ s.extract k (k + 1) = str (34 :: quoteB ((bI s).take (k + 1))) := by rw [HT.out, hone, str_append, hqt, hbq]; rfl
          have hxs : (s.extract k (k + 1)).size = 1 := by rw [ByteArray.size_extract]; omega
          have HN := Lib.hid hN
          have hsz : (t ++ s.extract k (k + 1)).size ≤ 6 * (k + 1) + 1 := by rw [ByteArray.size_append]; omega
          have HSZ := Lib.hid hsz
          clear hget hone hqt hbq hN hsz HT
          go_wp2_with fail
          go_roundw
          case rel => exact ⟨k + 1, _, by omega, rfl, by first | rfl | go_num | (push_cast; rfl), HSZ.out, HN, HB⟩
          case measure => simp [intOf']; omega
      · obtain rfl : k = s.size := by omega
        have hT := HT.out
        rw [List.take_of_length_le (by rw [HLN.out]; omega)] at hT
        have HF : Hid (t ++ { data := #[34] } = R) := Lib.hid (by rw [hT, ← HR.out, show ({ data := #[34] } : ByteArray) = str [34] from rfl, str_append])
        clear hT HT
        go_wp2_with fail
        refine bodyPost_ret (v := .tuple #[.string (t ++ { data := #[34] }), .int .i64 0]) (by simp [results, Tryz.results45, go_sem]) rfl ⟨by rw [HF.out], HB.out⟩
end Go.Proofs.YtbkceneakdbdkaaGreatDoor
