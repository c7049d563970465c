/- Plain: the program's own steps (what stands for itself, a mark, its digits) against what is told of bytes. -/
import Derived.Test.YtcpofeebfckmhaaJp
import Derived.Test.YtcpofeebfckmhaaJd
import Derived.Lib.Strings
namespace Go.Proofs.Ytcpofeebfckmhaa
open Go.RowKit
set_option maxRecDepth 20000
set_option linter.unusedVariables false
set_option linter.unusedSimpArgs false
theorem toNat_inj {a b : UInt8} (h : (a.toNat : Int) = (b.toNat : Int)) : a = b := UInt8.toNat_inj.1 (by omega)
theorem map_pre (p l : List UInt8) : p.isPrefixOf l = true ↔ ∃ t, l.map (fun c => (c.toNat : Int)) = p.map (fun c => (c.toNat : Int)) ++ t := by
  rw [List.isPrefixOf_iff_prefix]
  constructor
  · rintro ⟨t, rfl⟩
    exact ⟨t.map (fun c => (c.toNat : Int)), by rw [List.map_append]⟩
  · rintro ⟨t, h⟩
    have e := congrArg (List.take p.length) h
    rw [List.take_left' (by rw [List.length_map]), ← List.map_take] at e
    refine ⟨l.drop p.length, ?_⟩
    have e2 : l.take p.length = p := List.map_inj_right (f := fun c : UInt8 => (c.toNat : Int)) (fun x y h => toNat_inj h) |>.1 e
    conv => lhs; arg 1; rw [← e2]
    exact List.take_append_drop _ _
theorem bI_from (s : ByteArray) (i : Nat) (h : i ≤ s.size) : bI (s.extract i s.size) = (bI s).drop i := by
  rw [bI_extract s i s.size h]
  exact List.take_of_length_le (by rw [List.length_drop, bI_len]; omega)
theorem enc_pos {c : Int} (h : encC c ≠ []) : 0 ≤ c ∧ c ≤ 1114111 := by
  have := mt (encC_nil c).2 h
  omega
theorem enc_lost : encC 65533 = [239, 191, 189] := by decide
theorem lost_iff (s : ByteArray) (i : Nat) (hi : i < s.size) : (((Utf8.decode s i).1 : Int) = 65533 ∧ Lib.hasPrefix (s.extract i s.size).data.toList [239, 191, 189] = false) ↔ runeP ((bI s).drop i) = [] := by
  have hp : ∀ t, Lib.hasPrefix (s.extract i s.size).data.toList [239, 191, 189] = true → (bI s).drop i = [239, 191, 189] ++ t ∨ ∃ t, (bI s).drop i = [239, 191, 189] ++ t := by
    intro t h
    obtain ⟨t, h⟩ := (map_pre _ _).1 h
    refine Or.inr ⟨t, ?_⟩
    have e := bI_from s i (by omega)
    unfold bI at e
    rw [h] at e
    exact e.symm
  constructor
  · rintro ⟨h1, h2⟩
    rcases decode_rune s i hi with ⟨h, _⟩ | ⟨c, hc, hn, hd⟩
    · exact h
    · rw [hd] at h1
      have h3 := enc_pos (c := c) (by rw [hc]; exact hn)
      have h4 : c = 65533 := by dsimp only at h1; omega
      rw [h4, enc_lost] at hc
      obtain ⟨c', t, e1, e2⟩ := rune_is _ hn
      have h5 : Lib.hasPrefix (s.extract i s.size).data.toList [239, 191, 189] = true := by
        refine (map_pre _ _).2 ⟨t, ?_⟩
        have e := bI_from s i (by omega)
        unfold bI at e
        rw [e]
        unfold bI at e2 hc
        rw [← hc] at e2
        exact e2
      rw [h5] at h2
      cases h2
  · intro h
    rcases decode_rune s i hi with ⟨_, h1⟩ | ⟨c, hc, hn, hd⟩
    · rw [h1]
      refine ⟨rfl, ?_⟩
      cases hq : Lib.hasPrefix (s.extract i s.size).data.toList [239, 191, 189] with
      | false => rfl
      | true =>
        have : ∃ t, (bI s).drop i = [239, 191, 189] ++ t := by rcases hp [] hq with h | h; exact ⟨_, h⟩; exact h
        obtain ⟨t, ht⟩ := this
        have := rune_of 65533 t (by rw [enc_lost]; simp)
        rw [enc_lost, ← ht, h] at this
        cases this
    · exact absurd h hn
/-! ### What stands for itself -/
def Pl (l : List Int) : Prop := runeP l ≠ [] ∧ 32 ≤ l.headD 0 ∧ l.headD 0 ≠ 34 ∧ l.headD 0 ≠ 92
theorem step_pl {l : List Int} (h : Pl l) : stepP l = .piece (runeP l) (runeP l).length := by
  cases l with
  | nil => exact absurd rfl h.1
  | cons b t =>
    obtain ⟨h1, h2, h3, h4⟩ := h
    simp only [List.headD_cons] at h2 h3 h4
    rw [stepP, if_neg h3, if_neg h4, if_neg]
    rintro (h | h)
    · exact h1 h
    · omega
theorem step_not {l : List Int} (h : ¬ Pl l) (hl : l ≠ []) (h3 : l.headD 0 ≠ 34) (h4 : l.headD 0 ≠ 92) : stepP l = .form := by
  cases l with
  | nil => exact absurd rfl hl
  | cons b t =>
    simp only [List.headD_cons] at h3 h4
    rw [stepP, if_neg h3, if_neg h4, if_pos]
    refine Classical.byContradiction fun hq => h ⟨fun e => hq (Or.inl e), ?_, h3, h4⟩
    simp only [List.headD_cons]
    exact Int.not_lt.1 fun e => hq (Or.inr e)
def Adv (l : List Int) (k : Nat) : Prop := k ≤ l.length ∧ ∀ f p out, l.length ≤ f → takeG f l p out = takeG f (l.drop k) (p + k) (out ++ l.take k)
theorem adv_zero (l : List Int) : Adv l 0 := ⟨Nat.zero_le _, fun f p out _ => by rw [List.drop_zero, List.take_zero, List.append_nil, Nat.add_zero]⟩
theorem adv_step {l : List Int} {k : Nat} (h : Adv l k) (hp : Pl (l.drop k)) : Adv l (k + (runeP (l.drop k)).length) := by
  obtain ⟨h1, h2⟩ := h
  have h3 := (rune_len (l.drop k)).1
  have h5 : 1 ≤ (runeP (l.drop k)).length := List.length_pos_iff.2 hp.1
  rw [List.length_drop] at h3
  refine ⟨by omega, fun f p out hf => ?_⟩
  rw [h2 f p out hf]
  obtain ⟨g, rfl⟩ : ∃ g, f = g + 1 := ⟨f - 1, by omega⟩
  rw [takeG_step, step_pl hp]
  show takeG g ((l.drop k).drop _) _ _ = _
  rw [List.drop_drop, takeG_fuel g (g + 1) _ _ _ (by rw [List.length_drop]; omega) (by rw [List.length_drop]; omega), List.take_add, rune_take _ hp.1, List.append_assoc, Nat.add_assoc]
theorem pl_rune {l : List Int} {c : Int} (h : encC c = runeP l) (h0 : runeP l ≠ []) : Pl l ↔ (32 ≤ c ∧ c ≠ 34 ∧ c ≠ 92) := by
  obtain ⟨c', t, e1, e2⟩ := rune_is l h0
  have hh : ∃ b t', l = b :: t' ∧ ((c < 128 ∧ b = c) ∨ (128 ≤ c ∧ 128 ≤ b)) := by
    cases hl : runeP l with
    | nil => exact absurd hl h0
    | cons b u =>
      rw [hl] at e2
      refine ⟨b, u ++ t, e2, ?_⟩
      have hc0 := enc_pos (c := c) (by rw [h]; exact h0)
      by_cases hc : c < 128
      · left
        rcases encC_ways c with h' | ⟨_, _, h'⟩ | ⟨_, _, h'⟩ | ⟨_, _, _, h'⟩ | ⟨_, _, h'⟩
        · rw [h'] at h; exact absurd h.symm h0
        · rw [h', hl] at h; injection h with ha hb; exact ⟨hc, ha.symm⟩
        all_goals omega
      · right
        refine ⟨by omega, encC_high c (by omega) b ?_⟩
        rw [h, hl]; exact List.mem_cons_self
  obtain ⟨b, t', rfl, hb⟩ := hh
  unfold Pl
  rw [List.headD_cons]
  constructor
  · rintro ⟨_, h2, h3, h4⟩
    omega
  · rintro ⟨h2, h3, h4⟩
    exact ⟨h0, by omega, by omega, by omega⟩
/-- A round over a text: what it tells, and what it says of the bytes there. -/
theorem pl_iff (s : ByteArray) (i : Nat) (hi : i < s.size) : Pl ((bI s).drop i) ↔ ¬ (((Utf8.decode s i).1 : Int) < 32 ∨ ((Utf8.decode s i).1 : Int) = 34 ∨ ((Utf8.decode s i).1 : Int) = 92 ∨ runeP ((bI s).drop i) = []) := by
  rcases decode_rune s i hi with ⟨h, h1⟩ | ⟨c, hc, hn, hd⟩
  · constructor
    · rintro ⟨h2, _⟩; exact absurd h h2
    · intro h2; exact absurd (Or.inr (Or.inr (Or.inr h))) h2
  · rw [pl_rune hc hn, hd]
    have h3 := enc_pos (c := c) (by rw [hc]; exact hn)
    dsimp only
    constructor
    · rintro ⟨h4, h5, h6⟩ (h | h | h | h)
      · omega
      · omega
      · omega
      · exact hn h
    · intro h
      refine ⟨Int.not_lt.1 fun e => h (Or.inl (by omega)), fun e => h (Or.inr (Or.inl (by omega))), fun e => h (Or.inr (Or.inr (Or.inl (by omega))))⟩
theorem width_rune (s : ByteArray) (i : Nat) (hi : i < s.size) (h : runeP ((bI s).drop i) ≠ []) : (Utf8.decode s i).2 = (runeP ((bI s).drop i)).length ∧ encC (Utf8.decode s i).1 = runeP ((bI s).drop i) := by
  rcases decode_rune s i hi with ⟨h1, _⟩ | ⟨c, hc, hn, hd⟩
  · exact absurd h1 h
  · have h3 := enc_pos (c := c) (by rw [hc]; exact hn)
    rw [hd]
    refine ⟨rfl, ?_⟩
    dsimp only
    rw [Int.toNat_of_nonneg h3.1]
    exact hc
theorem dec_bd (s : ByteArray) (i : Nat) (hi : i < s.size) : (Utf8.decode s i).1 ≤ 1114111 ∧ 1 ≤ (Utf8.decode s i).2 ∧ i + (Utf8.decode s i).2 ≤ s.size := by
  rcases decode_rune s i hi with ⟨_, h1⟩ | ⟨c, hc, hn, hd⟩
  · rw [h1]; exact ⟨by decide, by decide, by dsimp only; omega⟩
  · have h3 := enc_pos (c := c) (by rw [hc]; exact hn)
    have h4 := (rune_len ((bI s).drop i)).1
    rw [List.length_drop, bI_len] at h4
    have h5 : 1 ≤ (runeP ((bI s).drop i)).length := List.length_pos_iff.2 hn
    rw [hd]
    exact ⟨by dsimp only; omega, h5, by dsimp only; omega⟩
/-! ### A mark's digits -/
theorem four_pre (t : List Int) : fourP (92 :: 117 :: t) = fourG 4 2 0 t := by
  have h0 : ¬ badF 0 92 := by decide
  have h1 : ¬ badF 1 117 := by decide
  unfold fourP
  rw [fourG, if_neg h0, fourG, if_neg h1]
  rfl
theorem four_short (l : List Int) (h : l = [] ∨ l = [92]) : fourP l = (0, 3) := by
  rcases h with rfl | rfl <;> rfl
theorem four_not (l : List Int) (h0 : ¬ (∃ t, l = 92 :: 117 :: t)) (h1 : ¬ (l = [] ∨ l = [92])) : fourP l = (0, 4) := by
  unfold fourP
  cases l with
  | nil => exact absurd (Or.inl rfl) h1
  | cons a t =>
    rw [fourG]
    by_cases ha : a = 92
    · subst ha
      rw [if_neg (by decide)]
      cases t with
      | nil => exact absurd (Or.inr rfl) h1
      | cons b u =>
        rw [fourG]
        rw [if_pos (show badF (0 + 1) b from Or.inr (Or.inl ⟨rfl, fun hb => h0 ⟨u, by rw [hb]⟩⟩))]
    · rw [if_pos (show badF 0 a from Or.inl ⟨rfl, ha⟩)]
theorem four_bad (f i : Nat) (c b : Int) (t : List Int) (hi : 1 < i) (h : digP b < 0) : fourG (f + 1) i c (b :: t) = (0, 4) := by
  rw [fourG, if_pos (show badF i b from Or.inr (Or.inr ⟨hi, h⟩))]
theorem four_dig (f i : Nat) (c b : Int) (t : List Int) (hi : 1 < i) (h : ¬ digP b < 0) : fourG (f + 1) i c (b :: t) = fourG f (i + 1) (16 * c + digP b) t := by
  rw [fourG, if_neg, if_pos hi]
  rintro (⟨h1, _⟩ | ⟨h1, _⟩ | ⟨_, h1⟩)
  · omega
  · omega
  · exact h h1
/-- The rune that a round tells counts what the byte there counts. -/
theorem dig_round (s : ByteArray) (i : Nat) (hi : i < s.size) : ∃ b, (bI s).drop i = b :: (bI s).drop (i + 1) ∧ digP (Utf8.decode s i).1 = digP b ∧ (¬ digP b < 0 → (Utf8.decode s i).2 = 1) := by
  have hl : i < (bI s).length := by rw [bI_len]; exact hi
  refine ⟨(bI s)[i], List.drop_eq_getElem_cons hl, ?_⟩
  have hd := List.drop_eq_getElem_cons hl
  generalize (bI s)[i] = b at hd ⊢
  have hhi : ∀ x : Int, 128 ≤ x → digP x = -1 := by
    intro x hx
    unfold digP
    rw [if_neg (by omega), if_neg (by omega), if_neg (by omega)]
  have hb0 : 0 ≤ b := by
    have := bI_byte s b (List.mem_of_mem_drop (i := i) (by rw [hd]; exact List.mem_cons_self))
    exact this.1
  by_cases hb : b < 128
  · have he : encC b = [b] := by
      rcases encC_ways b with h | ⟨_, _, h⟩ | ⟨h, _⟩ | ⟨h, _⟩ | ⟨h, _⟩
      · have := (encC_nil b).1 h; omega
      · exact h
      all_goals omega
    have hx := decode_of s i b ((bI s).drop (i + 1)) (by rw [he]; simp) (by rw [he, hd]; rfl)
    rw [hx, he]
    dsimp only
    rw [Int.toNat_of_nonneg hb0]
    exact ⟨rfl, fun _ => rfl⟩
  · rw [hhi b (by omega)]
    refine ⟨hhi _ ?_, fun h => absurd (by decide) h⟩
    rcases decode_rune s i hi with ⟨_, h1⟩ | ⟨c, hc, hn, hdd⟩
    · rw [h1]; decide
    · rw [hdd]
      dsimp only
      have h3 := enc_pos (c := c) (by rw [hc]; exact hn)
      rw [Int.toNat_of_nonneg h3.1]
      refine Int.not_lt.1 fun hlt => ?_
      have he : encC c = [c] := by
        rcases encC_ways c with h | ⟨_, _, h⟩ | ⟨h, _⟩ | ⟨h, _⟩ | ⟨h, _⟩
        · rw [h] at hc; exact absurd hc.symm hn
        · exact h
        all_goals omega
      obtain ⟨c', t, e1, e2⟩ := rune_is _ hn
      rw [← hc, he, hd] at e2
      injection e2 with e3 e4
      omega
/-! ### A mark -/
/-- What is told of the mark with which bytes begin: its rune, how many bytes it has, what is wrong. -/
def MarkOk (l : List Int) (c : Int) (n : Nat) (e : Int) : Prop :=
  (e = 3 ∧ escP l = .short) ∨ (e = 4 ∧ escP l = .form) ∨ (e = 0 ∧ escP l = .piece (encC c) n ∧ encC c ≠ [] ∧ 1 ≤ n ∧ n ≤ l.length)
theorem mark_of {b : Int} {t : List Int} {c : Int} {n : Nat} (h : escP (92 :: b :: t) = .piece (encC c) n) : MarkOk (92 :: b :: t) c n 0 := by
  have hp := piece_esc b t _ _ h
  exact Or.inr (Or.inr ⟨rfl, h, hp.ne, hp.one, hp.len⟩)
theorem two_nz {b x : Int} (h : twoP b = some x) : x ≠ 0 := by
  unfold twoP at h
  repeat' split at h
  all_goals first | (injection h with h; omega) | cases h
theorem badE_3 : badE 3 = .short := rfl
theorem badE_4 : badE 4 = .form := rfl
end Go.Proofs.Ytcpofeebfckmhaa
