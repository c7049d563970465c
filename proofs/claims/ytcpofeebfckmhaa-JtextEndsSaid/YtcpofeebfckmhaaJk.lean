/- The program's takeRunes, Take, Unquote. -/
import Derived.Test.YtcpofeebfckmhaaJv
import Derived.Test.YtcpofeebfckmhaaJx
import Derived.Test.YtcpofeebfckmhaaJz
import Derived.LoopTactic
namespace Go.Proofs.Ytcpofeebfckmhaa
open Go.RowKit
set_option maxRecDepth 20000
set_option linter.unusedVariables false
set_option linter.unusedSimpArgs false
structure TInv (s : ByteArray) (R : List Int × Nat × Int) (p : Nat) (out : List Int) : Prop where
  le : p ≤ s.size
  run : R = takeG s.size ((bI s).drop p) p out
  len : out.length ≤ 4 * p
  byte : ∀ b ∈ out, 0 ≤ b ∧ b < 256
theorem TInv.plain {s : ByteArray} {R : List Int × Nat × Int} {p k : Nat} {out : List Int} (h : TInv s R p out) (hk : Adv ((bI s).drop p) k) : TInv s R (p + k) (out ++ ((bI s).drop p).take k) := by
  have h1 := hk.1
  have hp := h.le
  rw [List.length_drop, bI_len] at h1
  refine ⟨by omega, ?_, ?_, ?_⟩
  · rw [h.run, hk.2 _ _ _ (by rw [List.length_drop, bI_len]; omega), List.drop_drop]
  · have := h.len
    rw [List.length_append, List.length_take, List.length_drop, bI_len]
    omega
  · intro b hb
    rcases List.mem_append.1 hb with hb | hb
    · exact h.byte b hb
    · exact bI_byte s b (List.mem_of_mem_drop (List.mem_of_mem_take hb))
theorem TInv.short {s : ByteArray} {R : List Int × Nat × Int} {p : Nat} {out : List Int} (h : TInv s R p out) (hs : stepP ((bI s).drop p) = .short) : R = ([], s.size, 3) := by
  have hp := h.le
  have e : p + ((bI s).drop p).length = s.size := by rw [List.length_drop, bI_len]; omega
  rw [h.run]
  cases hf : s.size with
  | zero => rw [takeG, ← hf, e]
  | succ f =>
    rw [takeG_step, hs]
    show ([], p + _, 3) = _
    rw [e, hf]
theorem TInv.pos {s : ByteArray} {R : List Int × Nat × Int} {p : Nat} {out : List Int} (h : TInv s R p out) (hp : p < s.size) : ∃ f, s.size = f + 1 ∧ R = match stepP ((bI s).drop p) with
    | .short => ([], p + ((bI s).drop p).length, 3)
    | .form => ([], p, 4)
    | .fin => (out, p + 1, 0)
    | .piece t n => takeG f (((bI s).drop p).drop n) (p + n) (out ++ t) := by
  obtain ⟨f, hf⟩ : ∃ f, s.size = f + 1 := ⟨s.size - 1, by omega⟩
  refine ⟨f, hf, ?_⟩
  have := h.run
  rw [hf, takeG_step] at this
  exact this
theorem TInv.form {s : ByteArray} {R : List Int × Nat × Int} {p : Nat} {out : List Int} (h : TInv s R p out) (hp : p < s.size) (hs : stepP ((bI s).drop p) = .form) : R = ([], p, 4) := by
  obtain ⟨f, _, hr⟩ := h.pos hp
  rw [hs] at hr; exact hr
theorem TInv.fin {s : ByteArray} {R : List Int × Nat × Int} {p : Nat} {out : List Int} (h : TInv s R p out) (hp : p < s.size) (hs : stepP ((bI s).drop p) = .fin) : R = (out, p + 1, 0) := by
  obtain ⟨f, _, hr⟩ := h.pos hp
  rw [hs] at hr; exact hr
theorem TInv.piece {s : ByteArray} {R : List Int × Nat × Int} {p n : Nat} {c : Int} {out : List Int} (h : TInv s R p out) (hp : p < s.size) (hs : stepP ((bI s).drop p) = .piece (encC c) n) (h1 : 1 ≤ n) (h2 : n ≤ ((bI s).drop p).length) : TInv s R (p + n) (out ++ encC c) := by
  obtain ⟨f, hf, hr⟩ := h.pos hp
  rw [hs] at hr
  rw [List.length_drop, bI_len] at h2
  refine ⟨by omega, ?_, ?_, ?_⟩
  · rw [hr]
    show takeG f (((bI s).drop p).drop n) _ _ = _
    rw [List.drop_drop, takeG_fuel f s.size _ _ _ (by rw [List.length_drop, bI_len]; omega) (by rw [List.length_drop, bI_len]; omega)]
  · have := h.len
    have := encC_len c
    rw [List.length_append]; omega
  · intro b hb
    rcases List.mem_append.1 hb with hb | hb
    · exact h.byte b hb
    · exact encC_byte c b hb
theorem at_split (s : ByteArray) (p : Nat) (h : p < s.size) : (bI s).drop p = ((s[p]'h).toNat : Int) :: (bI s).drop (p + 1) := by
  have h1 := bI_get s p h
  have hk : p < (bI s).length := by rw [bI_len]; exact h
  rw [List.drop_eq_getElem_cons hk]
  rw [List.getElem?_eq_getElem hk] at h1
  injection h1 with h2
  rw [h2]
def TakeEnd (R : List Int × Nat × Int) (w : World) (e : Ending) (w' : World) : Prop := e = .returned (.tuple #[.string (str R.1), .int .i64 (R.2.1 : Nat), .int .i64 R.2.2]) ∧ Below w.heap.size w w'
def addNat : Value → Nat
  | .int _ n => n.toNat
  | _ => 0
set_option maxHeartbeats 8000000 in
theorem runes_any (s : ByteArray) (p0 : Nat) (w : World) (hp0 : p0 ≤ s.size) (hs : s.size ≤ 10000) : Calls Try.prog 20 #[.string s, .int .i64 p0] w (TakeEnd (takeG s.size ((bI s).drop p0) p0 []) w) := by
  have H0 : Hid (TInv s (takeG s.size ((bI s).drop p0) p0 []) p0 []) := Lib.hid ⟨hp0, rfl, by simp, by simp⟩
  generalize takeG s.size ((bI s).drop p0) p0 [] = R at *
  have e0 : str [] = { data := #[] } := rfl
  have HD0 := Lib.hid (Bd.fresh w)
  have HB0 : Hid (Below w.heap.size w (w.alloc (.cells #[.pointer none, .slice none 0 0] 37))) := Lib.hid ((Below.refl _ w).alloc (Nat.le_refl _) _)
  unfold TakeEnd
  clear hp0
  go_enter Try.func20, Try.ntmps20
  go_wp2_with fail
  go_loopw [1] (fun i wr => ∃ (p : Nat) (out : List Int), i = .int .i64 p ∧ Hid (TInv s R p out) ∧ Hid (Bd w.heap.size out wr) ∧ Hid (Below w.heap.size w wr)) (fun i _ => s.size - addNat i)
  case atStart => exact ⟨p0, [], rfl, H0, HD0, HB0⟩
  case round =>
    obtain ⟨p, out, rfl, HI, HD, HB⟩ := hrel
    have hle := HI.out.le
    have hps : (p : Int) ≤ (s.size : Int) := by omega
    have hln := HI.out.len
    have HPL := Lib.hid (fun W => plain_any (s.extract p s.size) W (by rw [ByteArray.size_extract]; omega))
    unfold PlainEnd at HPL
    rw [bI_from s p hle] at HPL
    have HLN := Lib.hid (show out.length ≤ 4 * p ∧ p ≤ s.size from ⟨hln, hle⟩)
    clear hln hle
    go_wp2_with fail
    refine (HPL.out _).mono ?_
    rintro e w1 ⟨⟨k, rfl, hk1, hk2, hk3⟩, hb1⟩
    obtain ⟨q, hq⟩ : ∃ q, p + k = q := ⟨_, rfl⟩
    have hq2 : (p : Int) + (k : Int) = (q : Int) := by omega
    have hle := HLN.out.2
    have hqs : q ≤ s.size := by rw [ByteArray.size_extract] at hk1; omega
    have hpq : (p : Int) ≤ (q : Int) := by omega
    have hqi : (q : Int) ≤ (s.size : Int) := by omega
    have hbe : bI (s.extract p q) = ((bI s).drop p).take k := by rw [bI_extract _ _ _ (by omega), show q - p = k by omega]
    have HI1 : Hid (TInv s R q (out ++ bI (s.extract p q))) := Lib.hid (by rw [hbe, ← hq]; exact HI.out.plain hk2)
    have HNP : Hid (¬ Pl ((bI s).drop q)) := Lib.hid (by rw [← hq, ← List.drop_drop]; exact hk3)
    have HD1 := Lib.hid (HD.out.kept hb1)
    have HB1 := Lib.hid (HB.out.trans (hb1.mono HB.out.size))
    have HWS := Lib.hid (fun W (hb : Bd w.heap.size out W) => ws_any w.heap.size out (s.extract p q) W hb (by have := HLN.out.1; omega) (by rw [ByteArray.size_extract]; omega))
    have wq : IntKind.i64.wrap (q : Int) = (q : Int) := by rw [IntKind.wrap_i64]; omega
    have HPQ : Hid (p ≤ q) := Lib.hid (by omega)
    generalize out ++ bI (s.extract p q) = out1 at *
    clear hq hk1 hk2 hk3 hb1 hbe hle hpq
    go_wp2_with fail
    refine (HWS.out _ HD1.out).mono ?_
    rintro e w2 ⟨rfl, g1, g2, g3⟩
    have HD2 := Lib.hid g1
    have HB2 := Lib.hid (HB1.out.trans g2)
    clear g1 g2 g3
    by_cases hend : q = s.size
    · have HR : Hid (R = ([], q, 3)) := Lib.hid (by rw [hend]; exact HI1.out.short (by rw [List.drop_of_length_le (by rw [bI_len]; omega)]; rfl))
      have hend2 : (q : Int) = (s.size : Int) := by omega
      have hend3 : ((q : Int) == (s.size : Int)) = true := by simpa using hend2
      clear hend hend2
      go_wp2_with fail
      refine bodyPost_ret (v := .tuple #[.string { data := #[] }, .int .i64 q, .int .i64 3]) (by simp [results, Try.results20, go_sem]) rfl ⟨by rw [HR.out, e0], HB2.out⟩
    have hlt : q < s.size := by omega
    have hlt2 : (q : Int) < (s.size : Int) := by omega
    have hend3 : ((q : Int) == (s.size : Int)) = false := by
      rw [beq_eq_false_iff_ne]; omega
    have hsp := at_split s q hlt
    have hbl := (s[q]'hlt).toNat_lt
    obtain ⟨b, hbv⟩ : ∃ b : Int, ((s[q]'hlt).toNat : Int) = b := ⟨_, rfl⟩
    rw [hbv] at hsp
    clear hend
    by_cases h34 : b = 34
    · have HR : Hid (R = (out1, q + 1, 0)) := Lib.hid (HI1.out.fin hlt (by rw [hsp, h34]; exact step_34 _))
      have HST := Lib.hid (fun W (hb : Bd w.heap.size out1 W) => st_any w.heap.size out1 W hb HI1.out.byte)
      have w1q : IntKind.i64.wrap ((q : Int) + 1) = (q : Int) + 1 := by rw [IntKind.wrap_i64]; omega
      subst h34
      clear hsp hbl
      go_wp2_with fail
      refine (HST.out _ HD2.out).mono ?_
      rintro e w3 ⟨rfl, g2⟩
      have HB3 := Lib.hid (HB2.out.trans g2)
      clear g2
      go_wp2_with fail
      refine bodyPost_ret (v := .tuple #[.string (str out1), .int .i64 ((q : Int) + 1), .int .i64 0]) (by simp [results, Try.results20, go_sem]) rfl ⟨by rw [HR.out]; rfl, HB3.out⟩
    have b34 : (b == 34) = false := by rw [beq_eq_false_iff_ne]; exact h34
    by_cases h92 : b = 92
    · subst h92
      have hst : stepP ((bI s).drop q) = escP ((bI s).drop q) := by rw [hsp]; exact step_esc _
      have hfr := bI_from s q (Nat.le_of_lt hlt)
      have HMK := Lib.hid (fun W => mark_any (s.extract q s.size) W (by rw [ByteArray.size_extract]; omega) (by rw [ByteArray.size_extract]; omega) (by rw [hfr, hsp]; rfl))
      unfold MarkEnd at HMK
      rw [hfr] at HMK
      have HST := Lib.hid hst
      have HLEN : Hid (((bI s).drop q).length = s.size - q) := Lib.hid (by rw [List.length_drop, bI_len])
      have HLT := Lib.hid hlt
      clear hsp hbl hfr hst
      go_wp2_with fail
      refine (HMK.out _).mono ?_
      rintro e w3 ⟨⟨c, n, er, rfl, hok⟩, hb3⟩
      have HB3 := Lib.hid (HB2.out.trans (hb3.mono HB2.out.size))
      have HD3 := Lib.hid (HD2.out.kept hb3)
      clear hb3
      rcases hok with ⟨rfl, h1⟩ | ⟨rfl, h1⟩ | ⟨rfl, h1, h2, h3, h4⟩
      · have HR : Hid (R = ([], s.size, 3)) := Lib.hid (HI1.out.short (by rw [HST.out]; exact h1))
        clear h1
        go_wp2_with fail
        refine bodyPost_ret (v := .tuple #[.string { data := #[] }, .int .i64 s.size, .int .i64 3]) (by simp [results, Try.results20, go_sem]) rfl ⟨by rw [HR.out, e0], HB3.out⟩
      · have HR : Hid (R = ([], q, 4)) := Lib.hid (HI1.out.form HLT.out (by rw [HST.out]; exact h1))
        clear h1
        go_wp2_with fail
        refine bodyPost_ret (v := .tuple #[.string { data := #[] }, .int .i64 q, .int .i64 4]) (by simp [results, Try.results20, go_sem]) rfl ⟨by rw [HR.out, e0], HB3.out⟩
      · have HI2 := Lib.hid (HI1.out.piece HLT.out (by rw [HST.out]; exact h1) h3 h4)
        have HL1 : Hid (out1.length ≤ 900000) := Lib.hid (by have := HI1.out.len; omega)
        have HWR := Lib.hid (fun W (hb : Bd w.heap.size out1 W) => wr_any w.heap.size out1 c W hb h2 (by have := HL1.out; omega))
        have hn : n ≤ s.size - q := by rw [← HLEN.out]; exact h4
        have wn : IntKind.i64.wrap ((q : Int) + (n : Int)) = (q : Int) + (n : Int) := by rw [IntKind.wrap_i64]; omega
        have HN := Lib.hid (show 1 ≤ n ∧ n ≤ s.size - q from ⟨h3, hn⟩)
        clear h1 h2 h3 h4 hn
        go_wp2_with fail
        refine (HWR.out _ HD3.out).mono ?_
        rintro e w4 ⟨rfl, g1, g2, g3⟩
        have HD4 := Lib.hid g1
        have HB4 := Lib.hid (HB3.out.trans g2)
        clear g1 g2 g3
        go_wp2_with fail
        refine ⟨⟨q + n, _, by go_num, HI2, HD4, HB4⟩, ?_⟩
        have := HN.out
        have := HPQ.out
        have := HLT.out
        simp only [addNat]
        omega
    · have HR : Hid (R = ([], q, 4)) := Lib.hid (HI1.out.form hlt (step_not HNP.out (by rw [hsp]; simp) (by rw [hsp]; exact h34) (by rw [hsp]; exact h92)))
      have b92 : (b == 92) = false := by rw [beq_eq_false_iff_ne]; exact h92
      clear hsp hbl
      go_wp2_with fail
      refine bodyPost_ret (v := .tuple #[.string { data := #[] }, .int .i64 q, .int .i64 4]) (by simp [results, Try.results20, go_sem]) rfl ⟨by rw [HR.out, e0], HB2.out⟩
theorem takeP_at (l : List Int) (p : Nat) (hp : p < l.length) (h : l.getD p 0 = 34) : takeP l p = takeG l.length (l.drop (p + 1)) (p + 1) [] := by
  unfold takeP
  rw [if_neg (by omega), if_neg (by omega), if_neg (by rw [Int.toNat_natCast]; exact fun hq => hq h)]
  rw [Int.toNat_natCast]
set_option maxHeartbeats 2000000 in
theorem jtake_any (s : ByteArray) (p : Nat) (w : World) (hp : p ≤ s.size) (hs : s.size ≤ 10000) : Calls Try.prog 12 #[.string s, .int .i64 p] w fun e w' => e = .returned (.tuple #[.string (str (takeP (bI s) p).1), .int .i64 ((takeP (bI s) p).2.1 : Nat), .int .i64 (takeP (bI s) p).2.2]) ∧ Below w.heap.size w w' := by
  have e0 : str [] = { data := #[] } := rfl
  have hl := bI_len s
  have n0 : ¬ (p : Int) < 0 := by omega
  by_cases he : p = s.size
  · have HR : Hid (takeP (bI s) p = ([], p, 3)) := Lib.hid (by
      unfold takeP
      rw [if_neg (by omega), if_pos (by omega), Int.toNat_natCast])
    rw [HR.out, e0]
    have q1 : (p : Int) ≤ (s.size : Int) := by omega
    have q2 : ((p : Int) == (s.size : Int)) = true := by simpa using (show (p : Int) = s.size by omega)
    clear HR hl he hp
    go_enter Try.func12, Try.ntmps12
    go_wp2_with fail
    refine bodyPost_ret (v := .tuple #[.string { data := #[] }, .int .i64 p, .int .i64 3]) (by simp [results, Try.results12, go_sem]) rfl ⟨rfl, by go_grown⟩
  have hlt : p < s.size := by omega
  have hsp := at_split s p hlt
  have hgd : (bI s).getD p 0 = ((s[p]'hlt).toNat : Int) := by
    rw [List.getD_eq_getElem?_getD, bI_get s p hlt]; rfl
  have hbl := (s[p]'hlt).toNat_lt
  obtain ⟨b, hbv⟩ : ∃ b : Int, ((s[p]'hlt).toNat : Int) = b := ⟨_, rfl⟩
  rw [hbv] at hgd
  have q1 : (p : Int) < (s.size : Int) := by omega
  have q2 : ((p : Int) == (s.size : Int)) = false := by rw [beq_eq_false_iff_ne]; omega
  by_cases h34 : b = 34
  · have HR : Hid (takeP (bI s) p = takeG s.size ((bI s).drop (p + 1)) (p + 1) []) := Lib.hid (by
      rw [takeP_at _ _ (by omega) (by rw [hgd, h34]), hl])
    have HK := Lib.hid (fun W => runes_any s (p + 1) W (by omega) hs)
    unfold TakeEnd at HK
    rw [HR.out]
    generalize takeG s.size ((bI s).drop (p + 1)) (p + 1) [] = R at *
    have w1 : IntKind.i64.wrap ((p : Int) + 1) = ((p + 1 : Nat) : Int) := by rw [IntKind.wrap_i64]; omega
    subst h34
    clear HR hsp hbl hgd hl he
    go_enter Try.func12, Try.ntmps12
    go_wp2_with fail
    refine (HK.out _).mono ?_
    rintro e w1 ⟨rfl, hb1⟩
    go_wp2_with fail
    refine bodyPost_ret (v := .tuple #[.string (str R.1), .int .i64 (R.2.1 : Nat), .int .i64 R.2.2]) (by simp [results, Try.results12, go_sem]) rfl ⟨rfl, hb1⟩
  · have HR : Hid (takeP (bI s) p = ([], p, 4)) := Lib.hid (by
      unfold takeP
      rw [if_neg (by omega), if_neg (by omega), Int.toNat_natCast, if_pos (by rw [hgd]; exact h34)])
    rw [HR.out, e0]
    have b34 : (b == 34) = false := by rw [beq_eq_false_iff_ne]; exact h34
    clear HR hsp hbl hgd hl he
    go_enter Try.func12, Try.ntmps12
    go_wp2_with fail
    refine bodyPost_ret (v := .tuple #[.string { data := #[] }, .int .i64 p, .int .i64 4]) (by simp [results, Try.results12, go_sem]) rfl ⟨rfl, by go_grown⟩
theorem take_le (l : List Int) : (takeP l 0).2.1 ≤ l.length := by
  by_cases h : (takeP l 0).2.2 = 0
  · exact (take_good l h).2.2.1
  · exact (take_bad l h).2.1
set_option maxHeartbeats 2000000 in
theorem junq_any (s : ByteArray) (w : World) (hs : s.size ≤ 10000) : Calls Try.prog 13 #[.string s] w fun e w' => e = .returned (.tuple #[.string (str (unqP (bI s)).1), .int .i64 (unqP (bI s)).2]) ∧ Below w.heap.size w w' := by
  have e0 : str [] = { data := #[] } := rfl
  have HK := Lib.hid (fun W => jtake_any s 0 W (Nat.zero_le _) hs)
  have hle := take_le (bI s)
  have hl := bI_len s
  have hu : unqP (bI s) = if (takeP (bI s) 0).2.2 ≠ 0 then ([], (takeP (bI s) 0).2.2) else if (takeP (bI s) 0).2.1 < (bI s).length then ([], 4) else ((takeP (bI s) 0).1, 0) := rfl
  rw [show ((0 : Nat) : Int) = 0 from rfl] at HK
  rw [hl] at hu hle
  generalize takeP (bI s) 0 = R at *
  by_cases hb : R.2.2 = 0
  · rw [if_neg (by omega)] at hu
    rw [hb] at HK
    by_cases hn : R.2.1 < s.size
    · rw [if_pos hn] at hu
      rw [hu, e0]
      have q1 : ((R.2.1 : Int) == (s.size : Int)) = false := by rw [beq_eq_false_iff_ne]; omega
      have q2 : ¬ (R.2.1 : Int) = (s.size : Int) := by omega
      clear hu hle hl hn
      go_enter Try.func13, Try.ntmps13
      go_wp2_with fail
      refine (HK.out _).mono ?_
      rintro e w1 ⟨rfl, hb1⟩
      go_wp2_with fail
      refine bodyPost_ret (v := .tuple #[.string { data := #[] }, .int .i64 4]) (by simp [results, Try.results13, go_sem]) rfl ⟨rfl, hb1⟩
    · rw [if_neg hn] at hu
      rw [hu]
      have q2 : (R.2.1 : Int) = (s.size : Int) := by omega
      have q1 : ((R.2.1 : Int) == (s.size : Int)) = true := by simpa using q2
      clear hu hle hl hn
      go_enter Try.func13, Try.ntmps13
      go_wp2_with fail
      refine (HK.out _).mono ?_
      rintro e w1 ⟨rfl, hb1⟩
      go_wp2_with fail
      refine bodyPost_ret (v := .tuple #[.string (str R.1), .int .i64 0]) (by simp [results, Try.results13, go_sem]) rfl ⟨rfl, hb1⟩
  · rw [if_pos hb] at hu
    rw [hu, e0]
    have q1 : (R.2.2 == 0) = false := by rw [beq_eq_false_iff_ne]; exact hb
    clear hu hle hl
    go_enter Try.func13, Try.ntmps13
    go_wp2_with fail
    refine (HK.out _).mono ?_
    rintro e w1 ⟨rfl, hb1⟩
    go_wp2_with fail
    refine bodyPost_ret (v := .tuple #[.string { data := #[] }, .int .i64 R.2.2]) (by simp [results, Try.results13, go_sem]) rfl ⟨rfl, hb1⟩
end Go.Proofs.Ytcpofeebfckmhaa
