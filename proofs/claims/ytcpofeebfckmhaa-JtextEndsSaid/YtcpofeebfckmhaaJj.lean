/- The document's Quote. -/
import Derived.Test.YtcpofeebfckmhaaJi
namespace Go.Proofs.Ytcpofeebfckmhaa
open Go.RowKit
set_option maxRecDepth 20000
set_option linter.unusedVariables false
set_option linter.unusedSimpArgs false
/-- The text that is laid so far. -/
theorem quote_take (l : List Int) (k : Nat) (b : Int) (h : l[k]? = some b) : quoteB (l.take (k + 1)) = quoteB (l.take k) ++ byteQ b := by
  rw [List.take_add_one, h, quoteB_append]
  show _ ++ (byteQ b ++ []) = _
  rw [List.append_nil]
theorem byteQ_len (b : Int) : (byteQ b).length ≤ 6 := by
  unfold byteQ markP
  repeat' split
  all_goals simp
theorem quoteB_len : ∀ l : List Int, (quoteB l).length ≤ 6 * l.length
  | [] => by simp [quoteB]
  | b :: l => by
    have h1 := byteQ_len b
    have h2 := quoteB_len l
    have e : quoteB (b :: l) = byteQ b ++ quoteB l := rfl
    rw [e, List.length_append, List.length_cons]
    omega
def intOf' : Value → Int
  | .int _ n => n
  | _ => 0
theorem bI_get (s : ByteArray) (k : Nat) (h : k < s.size) : (bI s)[k]? = some ((s[k]'h).toNat : Int) := by
  have h1 := bI_split s k h
  have hk : k < (bI s).length := by rw [bI_len]; exact h
  rw [List.drop_eq_getElem_cons hk] at h1
  injection h1 with h2 _
  rw [List.getElem?_eq_getElem hk, h2]
theorem ext_one (s : ByteArray) (k : Nat) (h : k < s.size) : s.extract k (k + 1) = str [((s[k]'h).toNat : Int)] := by
  apply bI_inj
  have hb := (s[k]'h).toNat_lt
  rw [bI_str _ (by intro b hb; simp at hb; omega), bI_extract _ _ _ (Nat.le_succ _), bI_split s k h, show k + 1 - k = 0 + 1 by omega, List.take_succ_cons, List.take_zero]
set_option maxHeartbeats 2000000 in
theorem rquote_any (s : ByteArray) (w : World) (hs : s.size ≤ 10000) : Calls Try.prog 8 #[.string s] w fun e w' => e = .returned (.tuple #[.string (str (quoteP (bI s)).1), .int .i64 (quoteP (bI s)).2]) ∧ Below w.heap.size w w' := by
  have HC := Lib.hid (rcount_any s w (by omega))
  by_cases hc : countP (bI s) < 0
  · have hq : quoteP (bI s) = ([], 4) := by unfold quoteP; rw [if_pos hc]
    rw [hq]
    have d1 : decide (countP (bI s) < 0) = true := decide_eq_true hc
    have h0 : str [] = { data := #[] } := rfl
    rw [h0]
    generalize countP (bI s) = c at *
    clear hc hq h0
    go_enter Try.func8, Try.ntmps8
    go_wp2_with fail
    refine HC.out.mono ?_
    rintro e w1 ⟨rfl, hb1⟩
    go_wp2_with fail
    refine bodyPost_ret (v := .tuple #[.string { data := #[] }, .int .i64 4]) (by simp [results, Try.results8, go_sem]) rfl ⟨rfl, hb1⟩
  · have hq : quoteP (bI s) = (34 :: quoteB (bI s) ++ [34], 0) := by unfold quoteP; rw [if_neg hc]
    rw [hq]
    have d1 : decide (countP (bI s) < 0) = false := decide_eq_false hc
    generalize countP (bI s) = c at *
    have HB0 : Hid (∀ b ∈ bI s, 0 ≤ b ∧ b < 256) := Lib.hid (bI_byte s)
    have HGET := Lib.hid (bI_get s)
    have HONE := Lib.hid (ext_one s)
    have HQL := Lib.hid (fun k => quoteB_len ((bI s).take k))
    have HLN := Lib.hid (bI_len s)
    obtain ⟨R, hR⟩ : ∃ R, str (34 :: quoteB (bI s) ++ [34]) = R := ⟨_, rfl⟩
    rw [hR]
    have HR := Lib.hid hR
    clear hc hq hR
    go_enter Try.func8, Try.ntmps8
    go_wp2_with fail
    refine HC.out.mono ?_
    rintro e w1 ⟨rfl, hb1⟩
    have HB1 := Lib.hid hb1
    clear hb1
    go_wp2_with fail
    go_loopw [4, 5] (fun v i wr => ∃ (k : Nat) (t : ByteArray), k ≤ s.size ∧ v = .string t ∧ i = .int .i64 k ∧ t.size ≤ 6 * k + 1 ∧ Hid (t = str (34 :: quoteB ((bI s).take k))) ∧ Hid (Below w.heap.size w wr)) (fun _ i _ => s.size - (intOf' i).toNat)
    case atStart => exact ⟨0, _, Nat.zero_le _, rfl, rfl, by decide, Lib.hid (by rw [List.take_zero]; rfl), HB1⟩
    case round =>
      obtain ⟨k, t, hk, rfl, rfl, hts, HT, HB⟩ := hrel
      by_cases hlt : k < s.size
      · have hi2 : (k : Int) < (s.size : Int) := by omega
        obtain ⟨b, hb⟩ : ∃ b, ((s[k]'hlt).toNat : Int) = b := ⟨_, rfl⟩
        have hget := HGET.out k hlt
        have hone := HONE.out k hlt
        rw [hb] at hget hone
        have hb2 := HB0.out b (List.mem_of_getElem? hget)
        have hqt := quote_take _ _ _ hget
        by_cases hlow : b < 128
        · have d2 : decide (b < 128) = true := decide_eq_true hlow
          have HM := Lib.hid (fun W => rmark_any b W hb2.1 hlow)
          have hbq : byteQ b = markP b := by unfold byteQ; rw [if_pos hlow]
          have hN : t ++ str (markP b) = str (34 :: quoteB ((bI s).take (k + 1))) := by rw [HT.out, str_append, hqt, hbq]; rfl
          have hml : (str (markP b)).size ≤ 6 := by rw [str_size, ← hbq]; exact byteQ_len b
          have HN := Lib.hid hN
          have hsz : (t ++ str (markP b)).size ≤ 6 * (k + 1) + 1 := by rw [ByteArray.size_append]; omega
          have HSZ := Lib.hid hsz
          clear hget hone hqt hbq hN hsz HT
          go_wp2_with fail
          refine (HM.out _).mono ?_
          rintro e w2 ⟨rfl, hb3⟩
          have HB2 := Lib.hid (HB.out.trans (hb3.mono HB.out.size))
          clear hb3
          go_wp2_with fail
          go_roundw
          case rel => exact ⟨k + 1, _, by omega, rfl, by first | rfl | go_num | (push_cast; rfl), HSZ.out, HN, HB2⟩
          case measure => simp [intOf']; omega
        · have d2 : decide (b < 128) = false := decide_eq_false hlow
          have hbq : byteQ b = [b] := by unfold byteQ; rw [if_neg hlow]
          have hN : t ++ s.extract k (k + 1) = str (34 :: quoteB ((bI s).take (k + 1))) := by rw [HT.out, hone, str_append, hqt, hbq]; rfl
          have hxs : (s.extract k (k + 1)).size = 1 := by rw [ByteArray.size_extract]; omega
          have HN := Lib.hid hN
          have hsz : (t ++ s.extract k (k + 1)).size ≤ 6 * (k + 1) + 1 := by rw [ByteArray.size_append]; omega
          have HSZ := Lib.hid hsz
          clear hget hone hqt hbq hN hsz HT
          go_wp2_with fail
          go_roundw
          case rel => exact ⟨k + 1, _, by omega, rfl, by first | rfl | go_num | (push_cast; rfl), HSZ.out, HN, HB⟩
          case measure => simp [intOf']; omega
      · obtain rfl : k = s.size := by omega
        have hT := HT.out
        rw [List.take_of_length_le (by rw [HLN.out]; omega)] at hT
        have HF : Hid (t ++ { data := #[34] } = R) := Lib.hid (by rw [hT, ← HR.out, show ({ data := #[34] } : ByteArray) = str [34] from rfl, str_append])
        clear hT HT
        go_wp2_with fail
        refine bodyPost_ret (v := .tuple #[.string (t ++ { data := #[34] }), .int .i64 0]) (by simp [results, Try.results8, go_sem]) rfl ⟨by rw [HF.out], HB.out⟩
end Go.Proofs.Ytcpofeebfckmhaa
