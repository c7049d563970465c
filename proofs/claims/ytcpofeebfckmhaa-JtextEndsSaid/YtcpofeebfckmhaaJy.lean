/- The program's putRune: what stands for a rune in quotes. -/
import Derived.Test.YtcpofeebfckmhaaJu
namespace Go.Proofs.Ytcpofeebfckmhaa
open Go.RowKit
set_option maxRecDepth 20000
set_option linter.unusedVariables false
set_option linter.unusedSimpArgs false
def PutEnd (B : Nat) (out : List Int) (c : Int) (W : World) (e : Ending) (W' : World) : Prop := e = .returned (.tuple #[]) ∧ Bd B (out ++ quoteB (encC c)) W' ∧ Below B W W' ∧ OK B W W'
theorem enc_low {c : Int} (h0 : 0 ≤ c) (h1 : c < 128) : encC c = [c] := by
  rcases encC_ways c with h | ⟨_, _, h⟩ | ⟨h, _⟩ | ⟨h, _⟩ | ⟨h, _⟩
  · have := (encC_nil c).1 h; omega
  · exact h
  all_goals omega
theorem quote_low {c : Int} (h0 : 0 ≤ c) (h1 : c < 128) : quoteB (encC c) = markP c := by
  rw [enc_low h0 h1]
  unfold quoteB
  rw [List.flatMap_cons, List.flatMap_nil, List.append_nil]
  unfold byteQ
  rw [if_pos h1]
theorem quote_high {c : Int} (h : 128 ≤ c) : quoteB (encC c) = encC c := quoteB_high _ (encC_high c h)
theorem letter_mark {c : Int} (h : letterP c ≠ 0) : 0 ≤ c ∧ c < 128 ∧ markP c = [92, letterP c] ∧ encC (letterP c) = [letterP c] := by
  unfold letterP markP at *
  split at h
  · subst c; decide
  split at h
  · subst c; decide
  split at h
  · subst c; decide
  split at h
  · subst c; decide
  split at h
  · subst c; decide
  split at h
  · subst c; decide
  split at h
  · subst c; decide
  · exact absurd rfl h
theorem letter_no {c : Int} (h : letterP c = 0) : markP c = if c < 32 then [92, 117, 48, 48, hexP (c / 16), hexP (c % 16)] else [c] := by
  unfold letterP at h
  unfold markP
  split at h
  · omega
  split at h
  · omega
  split at h
  · omega
  split at h
  · omega
  split at h
  · omega
  split at h
  · omega
  split at h
  · omega
  rename_i a b c' d e f g
  rw [if_neg a, if_neg b, if_neg c', if_neg d, if_neg e, if_neg f, if_neg g]
set_option maxHeartbeats 4000000 in
theorem put_mark (B : Nat) (out : List Int) (c : Int) (W : World) (h : Bd B out W) (hc : letterP c ≠ 0) (hl : out.length ≤ 900000) : Calls Try.prog 16 #[bp B, .int .i32 c] W (PutEnd B out c W) := by
  obtain ⟨h0, h1, h2, h3⟩ := letter_mark hc
  have HQ : Hid (out ++ quoteB (encC c) = (out ++ [92]) ++ encC (letterP c)) := Lib.hid (by rw [quote_low h0 h1, h2, h3, List.append_assoc]; rfl)
  have HL := Lib.hid (fun W => letter_any c W)
  have HB := Lib.hid (fun W1 (hb : Bd B out W1) => wb_any B out 92 W1 hb (by omega))
  have HR := Lib.hid (fun W1 (hb : Bd B (out ++ [92]) W1) => wr_any B (out ++ [92]) (letterP c) W1 hb (by rw [h3]; simp) (by rw [List.length_append]; simp; omega))
  have H0 := Lib.hid h
  have HW := Lib.hid h.lt
  unfold PutEnd
  rw [HQ.out]
  generalize letterP c = x at *
  clear HQ h0 h1 h2 h3 h hl
  go_enter Try.func16, Try.ntmps16
  go_wp2_with fail
  refine (HL.out _).mono ?_
  rintro e w1 ⟨rfl, hb1⟩
  have H1 := Lib.hid (H0.out.kept hb1)
  have HB1 := Lib.hid (hb1.mono (Nat.le_of_lt HW.out))
  have HO1 : Hid (OK B W w1) := Lib.hid (fun k o hk _ _ => by rw [hb1.block k (Array.getElem?_eq_some_iff.1 hk).1]; exact hk)
  clear hb1
  go_wp2_with fail
  refine (HB.out _ H1.out).mono ?_
  rintro e w2 ⟨rfl, g1, g2, g3⟩
  have H2 := Lib.hid g1
  have HB2 := Lib.hid (HB1.out.trans g2)
  have HO2 := Lib.hid (HO1.out.trans g3)
  clear g1 g2 g3
  go_wp2_with fail
  refine (HR.out _ H2.out).mono ?_
  rintro e w3 ⟨rfl, g1, g2, g3⟩
  have H3 := Lib.hid g1
  have HB3 := Lib.hid (HB2.out.trans g2)
  have HO3 := Lib.hid (HO2.out.trans g3)
  clear g1 g2 g3
  go_wp2_with fail
  refine bodyPost_ret (v := .tuple #[]) (by simp [results, Try.results16, go_sem]) rfl ⟨rfl, H3.out, HB3.out, HO3.out⟩
set_option maxHeartbeats 4000000 in
theorem put_self (B : Nat) (out : List Int) (c : Int) (W : World) (h : Bd B out W) (hn : encC c ≠ []) (hc : letterP c = 0) (h32 : 32 ≤ c) (hl : out.length ≤ 900000) : Calls Try.prog 16 #[bp B, .int .i32 c] W (PutEnd B out c W) := by
  have HQ : Hid (quoteB (encC c) = encC c) := Lib.hid (by
    by_cases h1 : c < 128
    · rw [quote_low (by omega) h1, letter_no hc, if_neg (by omega), enc_low (by omega) h1]
    · exact quote_high (by omega))
  have HL := Lib.hid (fun W => letter_any c W)
  rw [hc] at HL
  have HR := Lib.hid (fun W1 (hb : Bd B out W1) => wr_any B out c W1 hb hn (by omega))
  have H0 := Lib.hid h
  have HW := Lib.hid h.lt
  unfold PutEnd
  rw [HQ.out]
  have hlt : ¬ c < 32 := by omega
  clear HQ h hl hn hc h32
  go_enter Try.func16, Try.ntmps16
  go_wp2_with fail
  refine (HL.out _).mono ?_
  rintro e w1 ⟨rfl, hb1⟩
  have H1 := Lib.hid (H0.out.kept hb1)
  have HB1 := Lib.hid (hb1.mono (Nat.le_of_lt HW.out))
  have HO1 : Hid (OK B W w1) := Lib.hid (fun k o hk _ _ => by rw [hb1.block k (Array.getElem?_eq_some_iff.1 hk).1]; exact hk)
  clear hb1
  go_wp2_with fail
  refine (HR.out _ H1.out).mono ?_
  rintro e w3 ⟨rfl, g1, g2, g3⟩
  have H3 := Lib.hid g1
  have HB3 := Lib.hid (HB1.out.trans g2)
  have HO3 := Lib.hid (HO1.out.trans g3)
  clear g1 g2 g3
  go_wp2_with fail
  refine bodyPost_end (v := .tuple #[]) (by simp [results, Try.results16, go_sem]) rfl ⟨rfl, H3.out, HB3.out, HO3.out⟩
theorem hex_get (c : Int) (h0 : 0 ≤ c) (h : c.toNat < ({ data := #[48, 49, 50, 51, 52, 53, 54, 55, 56, 57, 97, 98, 99, 100, 101, 102] } : ByteArray).size) : ((({ data := #[48, 49, 50, 51, 52, 53, 54, 55, 56, 57, 97, 98, 99, 100, 101, 102] } : ByteArray)[c.toNat]'h).toNat : Int) = hexP c := by
  have h1 : c.toNat < 16 := h
  have h2 : c = 0 ∨ c = 1 ∨ c = 2 ∨ c = 3 ∨ c = 4 ∨ c = 5 ∨ c = 6 ∨ c = 7 ∨ c = 8 ∨ c = 9 ∨ c = 10 ∨ c = 11 ∨ c = 12 ∨ c = 13 ∨ c = 14 ∨ c = 15 := by omega
  rcases h2 with rfl | rfl | rfl | rfl | rfl | rfl | rfl | rfl | rfl | rfl | rfl | rfl | rfl | rfl | rfl | rfl <;> rfl
set_option maxHeartbeats 4000000 in
theorem put_hex (B : Nat) (out : List Int) (c : Int) (W : World) (h : Bd B out W) (hc : letterP c = 0) (h0 : 0 ≤ c) (h32 : c < 32) (hl : out.length ≤ 900000) : Calls Try.prog 16 #[bp B, .int .i32 c] W (PutEnd B out c W) := by
  have HQ : Hid (out ++ quoteB (encC c) = ((out ++ bI { data := #[92, 117, 48, 48] }) ++ [hexP (c / 16)]) ++ [hexP (c % 16)]) := Lib.hid (by
    rw [quote_low h0 (by omega), letter_no hc, if_pos h32, List.append_assoc, List.append_assoc]; rfl)
  have HL := Lib.hid (fun W => letter_any c W)
  rw [hc] at HL
  have HS := Lib.hid (fun W1 (hb : Bd B out W1) => ws_any B out { data := #[92, 117, 48, 48] } W1 hb (by omega) (by decide))
  have e4 : (bI { data := #[92, 117, 48, 48] }).length = 4 := rfl
  have HP := Lib.hid (fun W1 (hb : Bd B (out ++ bI { data := #[92, 117, 48, 48] }) W1) => wb_any B (out ++ bI { data := #[92, 117, 48, 48] }) (hexP (c / 16)) W1 hb (by rw [List.length_append, e4]; omega))
  have HR := Lib.hid (fun W1 (hb : Bd B ((out ++ bI { data := #[92, 117, 48, 48] }) ++ [hexP (c / 16)]) W1) => wb_any B ((out ++ bI { data := #[92, 117, 48, 48] }) ++ [hexP (c / 16)]) (hexP (c % 16)) W1 hb (by rw [List.length_append, List.length_append, e4]; simp; omega))
  have H0 := Lib.hid h
  have HW := Lib.hid h.lt
  unfold PutEnd
  rw [HQ.out]
  clear HQ h hl e4 hc
  generalize bI { data := #[92, 117, 48, 48] } = y at *
  go_enter Try.func16, Try.ntmps16
  go_wp2_with fail
  refine (HL.out _).mono ?_
  rintro e w1 ⟨rfl, hb1⟩
  have H1 := Lib.hid (H0.out.kept hb1)
  have HB1 := Lib.hid (hb1.mono (Nat.le_of_lt HW.out))
  have HO1 : Hid (OK B W w1) := Lib.hid (fun k o hk _ _ => by rw [hb1.block k (Array.getElem?_eq_some_iff.1 hk).1]; exact hk)
  clear hb1
  go_wp2_with fail
  refine (HS.out _ H1.out).mono ?_
  rintro e w2 ⟨rfl, g1, g2, g3⟩
  have H2 := Lib.hid g1
  have HB2 := Lib.hid (HB1.out.trans g2)
  have HO2 := Lib.hid (HO1.out.trans g3)
  clear g1 g2 g3
  go_wp2_with fail
  have e1 := hex_get (c / 16) (by omega)
  simp only [e1]
  refine (HP.out _ H2.out).mono ?_
  rintro e w3 ⟨rfl, g1, g2, g3⟩
  have H3 := Lib.hid g1
  have HB3 := Lib.hid (HB2.out.trans g2)
  have HO3 := Lib.hid (HO2.out.trans g3)
  clear g1 g2 g3 e1
  have a15 := i32_and15 c h0 (by omega)
  have a16 : 0 ≤ c % 16 ∧ c % 16 < 16 := by omega
  go_wp2_with fail
  have e1 := hex_get (c % 16) (by omega)
  simp only [e1]
  refine (HR.out _ H3.out).mono ?_
  rintro e w4 ⟨rfl, g1, g2, g3⟩
  have H4 := Lib.hid g1
  have HB4 := Lib.hid (HB3.out.trans g2)
  have HO4 := Lib.hid (HO3.out.trans g3)
  clear g1 g2 g3 e1
  go_wp2_with fail
  refine bodyPost_ret (v := .tuple #[]) (by simp [results, Try.results16, go_sem]) rfl ⟨rfl, H4.out, HB4.out, HO4.out⟩
theorem put_any (B : Nat) (out : List Int) (c : Int) (W : World) (h : Bd B out W) (hn : encC c ≠ []) (hl : out.length ≤ 900000) : Calls Try.prog 16 #[bp B, .int .i32 c] W (PutEnd B out c W) := by
  have h0 := enc_pos hn
  by_cases hc : letterP c = 0
  · by_cases h32 : c < 32
    · exact put_hex B out c W h hc h0.1 h32 hl
    · exact put_self B out c W h hn hc (by omega) hl
  · exact put_mark B out c W h hc hl
end Go.Proofs.Ytcpofeebfckmhaa
