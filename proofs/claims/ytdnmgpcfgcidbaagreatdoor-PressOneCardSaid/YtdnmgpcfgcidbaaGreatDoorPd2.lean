/- dJq dJr dPy dJh dJs dJw dJz dNq dJd dLb dLc dLe dLf dJt dJu. -/
import Derived.Lib.Hide
import Derived.IntWalk
import Derived.WalkKit
import Derived.Outline
import Derived.WalkSpells
import Derived.WalkLawsBesides
import Derived.RegionTactic
import Derived.Handy
import Derived.ProofKit
import Derived.BigQuiet
import Derived.LoopTactic
import Derived.Deep.RegionWith
import Derived.Deep.DeepCutAuto
import Derived.Deep.CutRange
import Derived.Laws.BytesString
import Derived.Laws.IdiomStrings
import Derived.Test.YtdnmgpcfgcidbaaGreatDoorRows
import Derived.Deep.RegionHeld3
import Derived.LoopN
import Derived.Laws.RangeAny
import Derived.Lib.Strings
import Derived.Test.YtdnmgpcfgcidbaaGreatDoorPb4
import Derived.Test.YtdnmgpcfgcidbaaGreatDoorPd1
import Derived.Lib.OthersKept
import Derived.Test.YtdnmgpcfgcidbaaGreatDoorRs
import Derived.Test.YtdnmgpcfgcidbaaGreatDoorPb1
import Derived.Deep.Slices
import Derived.Laws.BitsLemmas
import Derived.Test.YtdnmgpcfgcidbaaGreatDoorRt
import Derived.Laws.OwnMore
import Derived.Laws.AppendOwn
import Derived.Laws.AppendOwnNone
import Derived.OwnWalk
import Derived.Lib.AppendZeros
import Derived.Lib.AppendIntMem
namespace Go.Proofs.YtdnmgpcfgcidbaaGreatDoor
set_option linter.unusedVariables false
set_option linter.unusedSimpArgs false
open Go.RowKit
set_option maxRecDepth 20000
theorem toNat_inj {a b : UInt8} (h : (a.toNat : Int) = (b.toNat : Int)) : a = b := UInt8.toNat_inj.1 (by omega)
theorem map_pre (p l : List UInt8) : p.isPrefixOf l = true ↔ ∃ t, l.map (fun c => (c.toNat : Int)) = p.map (fun c => (c.toNat : Int)) ++ t := by
  rw [List.isPrefixOf_iff_prefix]
  constructor
  · rintro ⟨t, rfl⟩
    exact ⟨t.map (fun c => (c.toNat : Int)), by rw [List.map_append]⟩
  · rintro ⟨t, h⟩
    have e := congrArg (List.take p.length) h
    rw [List.take_left' (by rw [List.length_map]), ← List.map_take] at e
    refine ⟨l.drop p.length, ?_⟩
    have e2 : l.take p.length = p := List.map_inj_right (f := fun c : UInt8 => (c.toNat : Int)) (fun x y h => toNat_inj h) |>.1 e
    conv => lhs; arg 1; rw [← e2]
    exact List.take_append_drop _ _
theorem bI_from (s : ByteArray) (i : Nat) (h : i ≤ s.size) : bI (s.extract i s.size) = (bI s).drop i := by
  rw [bI_extract s i s.size h]
  exact List.take_of_length_le (by rw [List.length_drop, bI_len]; omega)
theorem enc_pos {c : Int} (h : encC c ≠ []) : 0 ≤ c ∧ c ≤ 1114111 := by
  have := mt (encC_nil c).2 h
  omega
theorem enc_lost : encC 65533 = [239, 191, 189] := by decide
theorem lost_iff (s : ByteArray) (i : Nat) (hi : i < s.size) : (((Utf8.decode s i).1 : Int) = 65533 ∧ Lib.hasPrefix (s.extract i s.size).data.toList [239, 191, 189] = false) ↔ runeP ((bI s).drop i) = [] := by
  have hp : ∀ t, Lib.hasPrefix (s.extract i s.size).data.toList [239, 191, 189] = true → (bI s).drop i = [239, 191, 189] ++ t ∨ ∃ t, (bI s).drop i = [239, 191, 189] ++ t := by
    intro t h
    obtain ⟨t, h⟩ := (map_pre _ _).1 h
    refine Or.inr ⟨t, ?_⟩
    have e := bI_from s i (by omega)
    unfold bI at e
    rw [h] at e
    exact e.symm
  constructor
  · rintro ⟨h1, h2⟩
    rcases decode_rune s i hi with ⟨h, _⟩ | ⟨c, hc, hn, hd⟩
    · exact h
    · rw [hd] at h1
      have h3 := enc_pos (c := c) (by rw [hc]; exact hn)
      have h4 : c = 65533 := by dsimp only at h1; omega
      rw [h4, enc_lost] at hc
      obtain ⟨c', t, e1, e2⟩ := rune_is _ hn
      have h5 : Lib.hasPrefix (s.extract i s.size).data.toList [239, 191, 189] = true := by
        refine (map_pre _ _).2 ⟨t, ?_⟩
        have e := bI_from s i (by omega)
        unfold bI at e
        rw [e]
        unfold bI at e2 hc
        rw [← hc] at e2
        exact e2
      rw [h5] at h2
      cases h2
  · intro h
    rcases decode_rune s i hi with ⟨_, h1⟩ | ⟨c, hc, hn, hd⟩
    · rw [h1]
      refine ⟨rfl, ?_⟩
      cases hq : Lib.hasPrefix (s.extract i s.size).data.toList [239, 191, 189] with
      | false => rfl
      | true =>
        have : ∃ t, (bI s).drop i = [239, 191, 189] ++ t := by rcases hp [] hq with h | h; exact ⟨_, h⟩; exact h
        obtain ⟨t, ht⟩ := this
        have := rune_of 65533 t (by rw [enc_lost]; simp)
        rw [enc_lost, ← ht, h] at this
        cases this
    · exact absurd h hn
def PlDd (l : List Int) : Prop := runeP l ≠ [] ∧ 32 ≤ l.headD 0 ∧ l.headD 0 ≠ 34 ∧ l.headD 0 ≠ 92
theorem step_pl {l : List Int} (h : PlDd l) : stepP l = .piece (runeP l) (runeP l).length := by
  cases l with
  | nil => exact absurd rfl h.1
  | cons b t =>
    obtain ⟨h1, h2, h3, h4⟩ := h
    simp only [List.headD_cons] at h2 h3 h4
    rw [stepP, if_neg h3, if_neg h4, if_neg]
    rintro (h | h)
    · exact h1 h
    · omega
theorem step_not {l : List Int} (h : ¬ PlDd l) (hl : l ≠ []) (h3 : l.headD 0 ≠ 34) (h4 : l.headD 0 ≠ 92) : stepP l = .form := by
  cases l with
  | nil => exact absurd rfl hl
  | cons b t =>
    simp only [List.headD_cons] at h3 h4
    rw [stepP, if_neg h3, if_neg h4, if_pos]
    refine Classical.byContradiction fun hq => h ⟨fun e => hq (Or.inl e), ?_, h3, h4⟩
    simp only [List.headD_cons]
    exact Int.not_lt.1 fun e => hq (Or.inr e)
def Adv (l : List Int) (k : Nat) : Prop := k ≤ l.length ∧ ∀ f p out, l.length ≤ f → takeG f l p out = takeG f (l.drop k) (p + k) (out ++ l.take k)
theorem adv_zero (l : List Int) : Adv l 0 := ⟨Nat.zero_le _, fun f p out _ => by rw [List.drop_zero, List.take_zero, List.append_nil, Nat.add_zero]⟩
theorem adv_step {l : List Int} {k : Nat} (h : Adv l k) (hp : PlDd (l.drop k)) : Adv l (k + (runeP (l.drop k)).length) := by
  obtain ⟨h1, h2⟩ := h
  have h3 := (rune_len (l.drop k)).1
  have h5 : 1 ≤ (runeP (l.drop k)).length := List.length_pos_iff.2 hp.1
  rw [List.length_drop] at h3
  refine ⟨by omega, fun f p out hf => ?_⟩
  rw [h2 f p out hf]
  obtain ⟨g, rfl⟩ : ∃ g, f = g + 1 := ⟨f - 1, by omega⟩
  rw [takeG_step, step_pl hp]
  show takeG g ((l.drop k).drop _) _ _ = _
  rw [List.drop_drop, takeG_fuel g (g + 1) _ _ _ (by rw [List.length_drop]; omega) (by rw [List.length_drop]; omega), List.take_add, rune_take _ hp.1, List.append_assoc, Nat.add_assoc]
theorem pl_rune {l : List Int} {c : Int} (h : encC c = runeP l) (h0 : runeP l ≠ []) : PlDd l ↔ (32 ≤ c ∧ c ≠ 34 ∧ c ≠ 92) := by
  obtain ⟨c', t, e1, e2⟩ := rune_is l h0
  have hh : ∃ b t', l = b :: t' ∧ ((c < 128 ∧ b = c) ∨ (128 ≤ c ∧ 128 ≤ b)) := by
    cases hl : runeP l with
    | nil => exact absurd hl h0
    | cons b u =>
      rw [hl] at e2
      refine ⟨b, u ++ t, e2, ?_⟩
      have hc0 := enc_pos (c := c) (by rw [h]; exact h0)
      by_cases hc : c < 128
      · left
        rcases encC_ways c with h' | ⟨_, _, h'⟩ | ⟨_, _, h'⟩ | ⟨_, _, _, h'⟩ | ⟨_, _, h'⟩
        · rw [h'] at h; exact absurd h.symm h0
        · rw [h', hl] at h; injection h with ha hb; exact ⟨hc, ha.symm⟩
        all_goals omega
      · right
        refine ⟨by omega, encC_high c (by omega) b ?_⟩
        rw [h, hl]; exact List.mem_cons_self
  obtain ⟨b, t', rfl, hb⟩ := hh
  unfold PlDd
  rw [List.headD_cons]
  constructor
  · rintro ⟨_, h2, h3, h4⟩
    omega
  · rintro ⟨h2, h3, h4⟩
    exact ⟨h0, by omega, by omega, by omega⟩
theorem pl_iff (s : ByteArray) (i : Nat) (hi : i < s.size) : PlDd ((bI s).drop i) ↔ ¬ (((Utf8.decode s i).1 : Int) < 32 ∨ ((Utf8.decode s i).1 : Int) = 34 ∨ ((Utf8.decode s i).1 : Int) = 92 ∨ runeP ((bI s).drop i) = []) := by
  rcases decode_rune s i hi with ⟨h, h1⟩ | ⟨c, hc, hn, hd⟩
  · constructor
    · rintro ⟨h2, _⟩; exact absurd h h2
    · intro h2; exact absurd (Or.inr (Or.inr (Or.inr h))) h2
  · rw [pl_rune hc hn, hd]
    have h3 := enc_pos (c := c) (by rw [hc]; exact hn)
    dsimp only
    constructor
    · rintro ⟨h4, h5, h6⟩ (h | h | h | h)
      · omega
      · omega
      · omega
      · exact hn h
    · intro h
      refine ⟨Int.not_lt.1 fun e => h (Or.inl (by omega)), fun e => h (Or.inr (Or.inl (by omega))), fun e => h (Or.inr (Or.inr (Or.inl (by omega))))⟩
theorem width_rune (s : ByteArray) (i : Nat) (hi : i < s.size) (h : runeP ((bI s).drop i) ≠ []) : (Utf8.decode s i).2 = (runeP ((bI s).drop i)).length ∧ encC (Utf8.decode s i).1 = runeP ((bI s).drop i) := by
  rcases decode_rune s i hi with ⟨h1, _⟩ | ⟨c, hc, hn, hd⟩
  · exact absurd h1 h
  · have h3 := enc_pos (c := c) (by rw [hc]; exact hn)
    rw [hd]
    refine ⟨rfl, ?_⟩
    dsimp only
    rw [Int.toNat_of_nonneg h3.1]
    exact hc
theorem dec_bd (s : ByteArray) (i : Nat) (hi : i < s.size) : (Utf8.decode s i).1 ≤ 1114111 ∧ 1 ≤ (Utf8.decode s i).2 ∧ i + (Utf8.decode s i).2 ≤ s.size := by
  rcases decode_rune s i hi with ⟨_, h1⟩ | ⟨c, hc, hn, hd⟩
  · rw [h1]; exact ⟨by decide, by decide, by dsimp only; omega⟩
  · have h3 := enc_pos (c := c) (by rw [hc]; exact hn)
    have h4 := (rune_len ((bI s).drop i)).1
    rw [List.length_drop, bI_len] at h4
    have h5 : 1 ≤ (runeP ((bI s).drop i)).length := List.length_pos_iff.2 hn
    rw [hd]
    exact ⟨by dsimp only; omega, h5, by dsimp only; omega⟩
theorem four_pre (t : List Int) : fourP (92 :: 117 :: t) = fourG 4 2 0 t := by
  have h0 : ¬ badF 0 92 := by decide
  have h1 : ¬ badF 1 117 := by decide
  unfold fourP
  rw [fourG, if_neg h0, fourG, if_neg h1]
  rfl
theorem four_short (l : List Int) (h : l = [] ∨ l = [92]) : fourP l = (0, 3) := by
  rcases h with rfl | rfl <;> rfl
theorem four_not (l : List Int) (h0 : ¬ (∃ t, l = 92 :: 117 :: t)) (h1 : ¬ (l = [] ∨ l = [92])) : fourP l = (0, 4) := by
  unfold fourP
  cases l with
  | nil => exact absurd (Or.inl rfl) h1
  | cons a t =>
    rw [fourG]
    by_cases ha : a = 92
    · subst ha
      rw [if_neg (by decide)]
      cases t with
      | nil => exact absurd (Or.inr rfl) h1
      | cons b u =>
        rw [fourG]
        rw [if_pos (show badF (0 + 1) b from Or.inr (Or.inl ⟨rfl, fun hb => h0 ⟨u, by rw [hb]⟩⟩))]
    · rw [if_pos (show badF 0 a from Or.inl ⟨rfl, ha⟩)]
theorem four_bad (f i : Nat) (c b : Int) (t : List Int) (hi : 1 < i) (h : digP b < 0) : fourG (f + 1) i c (b :: t) = (0, 4) := by
  rw [fourG, if_pos (show badF i b from Or.inr (Or.inr ⟨hi, h⟩))]
theorem four_dig (f i : Nat) (c b : Int) (t : List Int) (hi : 1 < i) (h : ¬ digP b < 0) : fourG (f + 1) i c (b :: t) = fourG f (i + 1) (16 * c + digP b) t := by
  rw [fourG, if_neg, if_pos hi]
  rintro (⟨h1, _⟩ | ⟨h1, _⟩ | ⟨_, h1⟩)
  · omega
  · omega
  · exact h h1
theorem dig_round (s : ByteArray) (i : Nat) (hi : i < s.size) : ∃ b, (bI s).drop i = b :: (bI s).drop (i + 1) ∧ digP (Utf8.decode s i).1 = digP b ∧ (¬ digP b < 0 → (Utf8.decode s i).2 = 1) := by
  have hl : i < (bI s).length := by rw [bI_len]; exact hi
  refine ⟨(bI s)[i], List.drop_eq_getElem_cons hl, ?_⟩
  have hd := List.drop_eq_getElem_cons hl
  generalize (bI s)[i] = b at hd ⊢
  have hhi : ∀ x : Int, 128 ≤ x → digP x = -1 := by
    intro x hx
    unfold digP
    rw [if_neg (by omega), if_neg (by omega), if_neg (by omega)]
  have hb0 : 0 ≤ b := by
    have := bI_byte s b (List.mem_of_mem_drop (i := i) (by rw [hd]; exact List.mem_cons_self))
    exact this.1
  by_cases hb : b < 128
  · have he : encC b = [b] := by
      rcases encC_ways b with h | ⟨_, _, h⟩ | ⟨h, _⟩ | ⟨h, _⟩ | ⟨h, _⟩
      · have := (encC_nil b).1 h; omega
      · exact h
      all_goals omega
    have hx := decode_of s i b ((bI s).drop (i + 1)) (by rw [he]; simp) (by rw [he, hd]; rfl)
    rw [hx, he]
    dsimp only
    rw [Int.toNat_of_nonneg hb0]
    exact ⟨rfl, fun _ => rfl⟩
  · rw [hhi b (by omega)]
    refine ⟨hhi _ ?_, fun h => absurd (by decide) h⟩
    rcases decode_rune s i hi with ⟨_, h1⟩ | ⟨c, hc, hn, hdd⟩
    · rw [h1]; decide
    · rw [hdd]
      dsimp only
      have h3 := enc_pos (c := c) (by rw [hc]; exact hn)
      rw [Int.toNat_of_nonneg h3.1]
      refine Int.not_lt.1 fun hlt => ?_
      have he : encC c = [c] := by
        rcases encC_ways c with h | ⟨_, _, h⟩ | ⟨h, _⟩ | ⟨h, _⟩ | ⟨h, _⟩
        · rw [h] at hc; exact absurd hc.symm hn
        · exact h
        all_goals omega
      obtain ⟨c', t, e1, e2⟩ := rune_is _ hn
      rw [← hc, he, hd] at e2
      injection e2 with e3 e4
      omega
def MarkOk (l : List Int) (c : Int) (n : Nat) (e : Int) : Prop :=
  (e = 3 ∧ escP l = .short) ∨ (e = 4 ∧ escP l = .form) ∨ (e = 0 ∧ escP l = .piece (encC c) n ∧ encC c ≠ [] ∧ 1 ≤ n ∧ n ≤ l.length)
theorem mark_of {b : Int} {t : List Int} {c : Int} {n : Nat} (h : escP (92 :: b :: t) = .piece (encC c) n) : MarkOk (92 :: b :: t) c n 0 := by
  have hp := piece_esc b t _ _ h
  exact Or.inr (Or.inr ⟨rfl, h, hp.ne, hp.one, hp.len⟩)
abbrev bp (B : Nat) : Value := .pointer (some ⟨B, 0, none⟩)
abbrev OK (B : Nat) (W W' : World) : Prop := Lib.OthersKept 5 (some B) W W'
def Bd (B : Nat) (out : List Int) (W : World) : Prop := Lib.IsBuilderF 175 5 B B (out.map (Value.int .u8)) W
theorem Bd.lt {B : Nat} {out : List Int} {W : World} (h : Bd B out W) : B < W.heap.size := by
  rcases h with h | h <;> exact h.lt
theorem Bd.fresh (w : World) : Bd w.heap.size [] (w.alloc (.cells #[.pointer none, .slice none 0 0] 175)) := Lib.IsBuilderF.of (Lib.fresh_isBuilder 175 5 w)
theorem Bd.alloc {B : Nat} {out : List Int} {W : World} (h : Bd B out W) (o : Obj) : Bd B out (W.alloc o) := Lib.IsBuilderF.alloc h o
theorem Bd.kept {B : Nat} {out : List Int} {W W' : World} (h : Bd B out W) (hb : Below W.heap.size W W') : Bd B out W' := by
  have hk : ∀ k o, W.heap[k]? = some o → W'.heap[k]? = some o := fun k o hk => by rw [hb.block k (Array.getElem?_eq_some_iff.1 hk).1]; exact hk
  have one : ∀ p, Lib.BuilderAtF 175 5 B B p (out.map (Value.int .u8)) W → Lib.BuilderAtF 175 5 B B p (out.map (Value.int .u8)) W' := by
    rintro p ⟨hB, v, hc, ⟨ho1, ho2⟩, hne⟩
    refine ⟨hB, v, hk _ _ hc, ⟨ho1, ?_⟩, hne⟩
    rcases ho2 with h | ⟨g, cap, cur, fz, h1, h2, h3, h4⟩
    · exact Or.inl h
    · exact Or.inr ⟨g, cap, cur, fz, h1, h2, hk _ _ h3, h4⟩
  exact h.elim (fun x => Or.inl (one _ x)) (fun x => Or.inr (one _ x))
theorem ws_any (B : Nat) (out : List Int) (s : ByteArray) (W : World) (h : Bd B out W) (hl : out.length ≤ 1000000) (hs : s.size ≤ 1000000) : Calls Tryz.prog 86 #[bp B, .string s] W fun e W' => e = .returned (.tuple #[.int .i64 s.size, .nilIface]) ∧ Bd B (out ++ bI s) W' ∧ Below B W W' ∧ OK B W W' := by
  refine (Any.Builder_WriteString_k bwL bwLX B B _ s W h (by rw [List.length_map]; omega) (Nat.le_of_lt h.lt)).mono ?_
  rintro e W' ⟨he, h1, h2, h3⟩
  have e2 : (bI s).map (Value.int .u8) = Lib.strCells s := by unfold bI Lib.strCells; rw [List.map_map]; rfl
  exact ⟨he, by unfold Bd; rw [List.map_append, e2]; exact Or.inr h1, h2, h3⟩
theorem rune_cells (c : Int) (h : encC c ≠ []) : Lib.runeCells c = (encC c).map (Value.int .u8) := by
  unfold Lib.runeCells
  congr 1
  unfold Lib.encodeRuneZ encC
  have h1 := mt (encC_nil c).2 h
  rw [if_neg h1]
  by_cases a : c < 128
  · rw [if_pos a, if_pos (by omega)]
  rw [if_neg a, if_neg (by omega)]
  by_cases b : c < 2048
  · rw [if_pos b, if_pos (by omega)]
  rw [if_neg b, if_neg (by omega)]
  by_cases d : c < 65536
  · rw [if_pos d, if_pos (by omega)]
  rw [if_neg d, if_neg (by omega), if_pos (by omega)]
theorem wr_any (B : Nat) (out : List Int) (c : Int) (W : World) (h : Bd B out W) (hc : encC c ≠ []) (hl : out.length ≤ 1000000) : Calls Tryz.prog 234 #[bp B, .int .i32 c] W fun e W' => e = .returned (.tuple #[.int .i64 (encC c).length, .nilIface]) ∧ Bd B (out ++ encC c) W' ∧ Below B W W' ∧ OK B W W' := by
  have h1 := enc_pos hc
  refine (Any.Builder_WriteRune_k brL brLX B B _ c (by omega) (by omega) W h (by rw [List.length_map]; omega) (Nat.le_of_lt h.lt)).mono ?_
  rintro e W' ⟨he, h1, h2, h3⟩
  rw [rune_cells c hc] at he h1
  rw [List.length_map] at he
  exact ⟨he, by unfold Bd; rw [List.map_append]; exact Or.inr h1, h2, h3⟩
theorem st_any (B : Nat) (out : List Int) (W : World) (h : Bd B out W) (hb : ∀ b ∈ out, 0 ≤ b ∧ b < 256) : Calls Tryz.prog 87 #[bp B] W fun e W' => e = .returned (.string (str out)) ∧ Below B W W' := by
  have e2 : out.map (Value.int .u8) = Lib.byteCells (str out).data.toList := by
    unfold Lib.byteCells
    rw [str_list, List.map_map]
    apply List.map_congr_left
    intro b hm
    have := hb b hm
    simp only [Function.comp, UInt8.toNat_ofNat']
    congr 1
    omega
  have h' : Lib.IsBuilderF 175 5 B B (Lib.byteCells (str out).data.toList) W := by rw [← e2]; exact h
  refine (Any.Builder_String_any_k bsL bsLX B B _ W h' (Nat.le_of_lt h.lt)).mono ?_
  rintro e W' ⟨he, _, h2, _⟩
  exact ⟨he, h2⟩
theorem hp_any (s p : ByteArray) (w : World) : Calls Tryz.prog 208 #[.string s, .string p] w fun e w' => e = .returned (.bool (Lib.hasPrefix s.data.toList p.data.toList)) ∧ w' = w := Any.strings_HasPrefix hpL s p w
theorem cp_any (s p : ByteArray) (w : World) : Calls Tryz.prog 272 #[.string s, .string p] w fun e w' => e = .returned (.tuple #[.string ⟨(Lib.trimPrefix s.data.toList p.data.toList).toArray⟩, .bool (Lib.hasPrefix s.data.toList p.data.toList)]) ∧ w' = w := Any.strings_CutPrefix cpL s p w
end Go.Proofs.YtdnmgpcfgcidbaaGreatDoor
namespace Go.Proofs.YtdnmgpcfgcidbaaGreatDoor
set_option linter.unusedVariables false
set_option linter.unusedSimpArgs false
open Go.RowKit
set_option maxRecDepth 20000
set_option maxHeartbeats 4000000
theorem OK.obj {B : Nat} {W W' : World} (h : OK B W W') {k : Nat} {cs : Array Value} {T : TypeId} {fz : Nat × Nat} (hk : W.heap[k]? = some (.cells cs T fz)) (hB : k ≠ B) (hT : T ≠ 5) : W'.heap[k]? = some (.cells cs T fz) :=
  h k _ hk (fun e => hB (by injection e)) (fun c f e => hT (by injection e))
end Go.Proofs.YtdnmgpcfgcidbaaGreatDoor
namespace Go.Proofs.YtdnmgpcfgcidbaaGreatDoor
set_option linter.unusedVariables false
set_option linter.unusedSimpArgs false
open Go.RowKit
set_option maxRecDepth 20000
theorem count_fuel (f : Nat) (l : List Int) (h : l.length ≤ f) : countF f l = countP l := by
  by_cases hp : 0 ≤ countP l
  · obtain ⟨n, h1, h2⟩ := count_of hp
    rw [h2, val_count f l n h h1]
  · have h1 := count_no (l := l) (by omega)
    by_cases hf : 0 ≤ countF f l
    · obtain ⟨n, h2, h3⟩ := count_val f l hf
      rw [count_is h2] at h1
      omega
    · have := countF_ge f l
      omega
theorem count_nil : countP [] = 0 := rfl
theorem count_step {l : List Int} (hl : l ≠ []) : countP l = if runeP l = [] then -1 else if countP (l.drop (runeP l).length) < 0 then -1 else countP (l.drop (runeP l).length) + 1 := by
  cases l with
  | nil => exact absurd rfl hl
  | cons b t =>
    have e : countP (b :: t) = countF (t.length + 1) (b :: t) := rfl
    rw [e, countF, if_neg hl]
    by_cases hr : runeP (b :: t) = []
    · rw [if_pos hr, if_pos hr]
    · rw [if_neg hr, if_neg hr, count_fuel t.length _ (by have := List.length_pos_iff.2 hr; rw [List.length_drop, List.length_cons]; omega)]
def addC (n : Nat) (c : Int) : Int := if c < 0 then -1 else n + c
def lostB (s : ByteArray) (r : Int) : Bool := decide (r = 65533) && !(Lib.hasPrefix s.data.toList [239, 191, 189])
set_option maxHeartbeats 1000000 in
theorem islost_any (s : ByteArray) (r : Int) (w : World) : Calls Tryz.prog 251 #[.string s, .int .i32 r] w fun e w' => e = .returned (.bool (lostB s r)) ∧ Below w.heap.size w w' := by
  by_cases hr : r = 65533
  · have e : lostB s r = !(Lib.hasPrefix s.data.toList [239, 191, 189]) := by unfold lostB; rw [decide_eq_true hr, Bool.true_and]
    rw [e]
    subst hr
    have H := Lib.hid (fun W => hp_any s { data := #[239, 191, 189] } W)
    go_enter Tryz.func251, Tryz.ntmps251
    go_wp2_with fail
    refine (H.out _).mono ?_
    rintro e w' ⟨rfl, rfl⟩
    go_wp2_with fail
    go_ret
    exact ⟨rfl, by go_grown⟩
  · have e : lostB s r = false := by unfold lostB; rw [decide_eq_false hr, Bool.false_and]
    rw [e]
    go_enter Tryz.func251, Tryz.ntmps251
    go_wp2_with fail
    go_ret
    exact ⟨rfl, by go_grown⟩
def twoR (b : Int) : Int := if b = 34 then 34 else if b = 92 then 92 else if b = 47 then 47 else if b = 98 then 8 else if b = 102 then 12 else if b = 110 then 10 else if b = 114 then 13 else if b = 116 then 9 else 0
theorem two_r (b : Int) : twoP b = if twoR b = 0 then none else some (twoR b) := by
  unfold twoP twoR
  repeat' split
  all_goals first | rfl | omega
set_option maxHeartbeats 2000000 in
theorem two_any (c : Int) (w : World) : Calls Tryz.prog 252 #[.int .i32 c] w fun e w' => e = .returned (.int .i32 (twoR c)) ∧ Below w.heap.size w w' := by
  go_enter Tryz.func252, Tryz.ntmps252
  unfold twoR
  by_cases h1 : c = 34
  · subst h1; go_wp2_with fail; go_ret; exact ⟨rfl, by go_grown⟩
  by_cases h2 : c = 92
  · subst h2; go_wp2_with fail; go_ret; exact ⟨rfl, by go_grown⟩
  by_cases h3 : c = 47
  · subst h3; go_wp2_with fail; go_ret; exact ⟨rfl, by go_grown⟩
  by_cases h4 : c = 98
  · subst h4; go_wp2_with fail; go_ret; exact ⟨rfl, by go_grown⟩
  by_cases h5 : c = 102
  · subst h5; go_wp2_with fail; go_ret; exact ⟨rfl, by go_grown⟩
  by_cases h6 : c = 110
  · subst h6; go_wp2_with fail; go_ret; exact ⟨rfl, by go_grown⟩
  by_cases h7 : c = 114
  · subst h7; go_wp2_with fail; go_ret; exact ⟨rfl, by go_grown⟩
  by_cases h8 : c = 116
  · subst h8; go_wp2_with fail; go_ret; exact ⟨rfl, by go_grown⟩
  rw [if_neg h1, if_neg h2, if_neg h3, if_neg h4, if_neg h5, if_neg h6, if_neg h7, if_neg h8]
  go_wp2_with fail; go_ret; exact ⟨rfl, by go_grown⟩
set_option maxHeartbeats 2000000 in
theorem digit_any (c : Int) (w : World) (h0 : -1000 ≤ c) (hm : c ≤ 2000000) : Calls Tryz.prog 273 #[.int .i32 c] w fun e w' => e = .returned (.int .i32 (digP c)) ∧ Below w.heap.size w w' := by
  go_enter Tryz.func273, Tryz.ntmps273
  unfold digP
  by_cases h1 : 48 ≤ c ∧ c ≤ 57
  · obtain ⟨a, b⟩ := h1
    have wr : IntKind.i32.wrap (c - 48) = c - 48 := by rw [IntKind.wrap_i32]; omega
    rw [if_pos ⟨a, b⟩]; go_wp2_with fail; go_ret; exact ⟨rfl, by go_grown⟩
  by_cases h2 : 97 ≤ c ∧ c ≤ 102
  · obtain ⟨a, b⟩ := h2
    have g1 : ¬ c ≤ 57 := by omega
    have g0 : (48 : Int) ≤ c := by omega
    have wr : IntKind.i32.wrap (c - 97) = c - 97 := by rw [IntKind.wrap_i32]; omega
    have wr2 : IntKind.i32.wrap (c - 97 + 10) = c - 87 := by rw [IntKind.wrap_i32]; omega
    rw [if_neg h1, if_pos ⟨a, b⟩]; clear h1; go_wp2_with fail; go_ret; exact ⟨rfl, by go_grown⟩
  by_cases h3 : 65 ≤ c ∧ c ≤ 70
  · obtain ⟨a, b⟩ := h3
    have g1 : ¬ c ≤ 57 := by omega
    have g0 : (48 : Int) ≤ c := by omega
    have g2 : ¬ (97 : Int) ≤ c := by omega
    have wr : IntKind.i32.wrap (c - 65) = c - 65 := by rw [IntKind.wrap_i32]; omega
    have wr2 : IntKind.i32.wrap (c - 65 + 10) = c - 55 := by rw [IntKind.wrap_i32]; omega
    rw [if_neg h1, if_neg h2, if_pos ⟨a, b⟩]; clear h1 h2; go_wp2_with fail; go_ret; exact ⟨rfl, by go_grown⟩
  rw [if_neg h1, if_neg h2, if_neg h3]
  by_cases a1 : c < 48
  · have q1 : ¬ (48 : Int) ≤ c := by omega
    have q2 : ¬ (97 : Int) ≤ c := by omega
    have q3 : ¬ (65 : Int) ≤ c := by omega
    clear h1 h2 h3
    go_wp2_with fail; go_ret; exact ⟨rfl, by go_grown⟩
  have q1 : (48 : Int) ≤ c := by omega
  have q2 : ¬ c ≤ (57 : Int) := by omega
  by_cases a2 : c < 65
  · have q3 : ¬ (97 : Int) ≤ c := by omega
    have q4 : ¬ (65 : Int) ≤ c := by omega
    clear h1 h2 h3
    go_wp2_with fail; go_ret; exact ⟨rfl, by go_grown⟩
  have q5 : (65 : Int) ≤ c := by omega
  have q6 : ¬ c ≤ (70 : Int) := by omega
  by_cases a3 : c < 97
  · have q3 : ¬ (97 : Int) ≤ c := by omega
    clear h1 h2 h3
    go_wp2_with fail; go_ret; exact ⟨rfl, by go_grown⟩
  have q7 : (97 : Int) ≤ c := by omega
  have q8 : ¬ c ≤ (102 : Int) := by omega
  clear h1 h2 h3
  go_wp2_with fail; go_ret; exact ⟨rfl, by go_grown⟩
theorem lost_round (s : ByteArray) (i : Nat) (hi : i < s.size) : lostB (s.extract i s.size) (Utf8.decode s i).1 = decide (runeP ((bI s).drop i) = []) := by
  have h := lost_iff s i hi
  unfold lostB
  by_cases hl : runeP ((bI s).drop i) = []
  · obtain ⟨h1, h2⟩ := h.2 hl
    rw [h1, h2, decide_eq_true hl]; rfl
  · rw [decide_eq_false hl]
    cases hd : decide (((Utf8.decode s i).1 : Int) = 65533) with
    | false => rfl
    | true =>
      cases hp : Lib.hasPrefix (s.extract i s.size).data.toList [239, 191, 189] with
      | true => rfl
      | false => exact absurd (h.1 ⟨of_decide_eq_true hd, hp⟩) hl
theorem count_fin (s : ByteArray) (n : Nat) (T : Int) (k : Nat) (hk : ¬ k < s.size) (h : T = addC n (countP ((bI s).drop k))) : T = n := by
  rw [List.drop_of_length_le (by rw [bI_len]; omega), count_nil] at h
  rw [h]; unfold addC; rw [if_neg (by omega)]; omega
theorem drop_ne (s : ByteArray) (k : Nat) (hk : k < s.size) : (bI s).drop k ≠ [] := by
  intro e
  have := congrArg List.length e
  rw [List.length_drop, bI_len] at this
  simp at this
  omega
theorem count_bad (s : ByteArray) (n : Nat) (T : Int) (k : Nat) (hk : k < s.size) (hl : runeP ((bI s).drop k) = []) (h : T = addC n (countP ((bI s).drop k))) : T = -1 := by
  rw [count_step (drop_ne s k hk), if_pos hl] at h
  rw [h]; rfl
theorem count_go (s : ByteArray) (n : Nat) (T : Int) (k : Nat) (hk : k < s.size) (hl : runeP ((bI s).drop k) ≠ []) (h : T = addC n (countP ((bI s).drop k))) : T = addC (n + 1) (countP ((bI s).drop (k + (Utf8.decode s k).2))) := by
  rw [count_step (drop_ne s k hk), if_neg hl, List.drop_drop, ← (width_rune s k hk hl).1] at h
  rw [h]
  unfold addC
  by_cases hc : countP ((bI s).drop (k + (Utf8.decode s k).2)) < 0
  · rw [if_pos hc, if_pos (by omega), if_pos hc]
  · rw [if_neg hc, if_neg (by omega), if_neg hc]; omega
set_option maxHeartbeats 4000000 in
theorem jcount_any (s : ByteArray) (w : World) (hs : s.size ≤ 100000) : Calls Tryz.prog 280 #[.string s] w fun e w' => e = .returned (.int .i64 (countP (bI s))) ∧ Below w.heap.size w w' := by
  obtain ⟨T, hT⟩ : ∃ T, countP (bI s) = T := ⟨_, rfl⟩
  rw [hT]
  have H0 : Hid (T = addC 0 (countP ((bI s).drop 0))) := Lib.hid (by
    have h2 : -1 ≤ countP (bI s) := countF_ge (bI s).length (bI s)
    unfold addC
    rw [List.drop_zero, ← hT]
    split <;> omega)
  clear hT
  go_enter Tryz.func280, Tryz.ntmps280
  go_wp2_with fail
  go_loopw [3] (fun i wr => ∃ (k n : Nat), i = .int .i64 n ∧ n ≤ k ∧ Hid (T = addC n (countP ((bI s).drop k))) ∧ Hid (wr.heap[w.heap.size]? = some (.stringIter s k)) ∧ Hid (Below w.heap.size w wr)) (fun _ wr => s.size - wr.iterPos w.heap.size)
  case atStart => exact ⟨0, 0, rfl, Nat.le_refl _, H0, Lib.hid (World.iter_heap _ _ _), Lib.hid ((Below.refl _ _).alloc (Nat.le_refl _) _)⟩
  case round =>
    obtain ⟨k, n, rfl, hnk, HT, HIT, HB⟩ := hrel
    by_cases hp : k < s.size
    · have hnx := fun ty => Lib.run_next_any_at (P := Tryz.prog) wr w.heap.size s k ty HIT.out hp
      have hbd := dec_bd s k hp
      have HL := Lib.hid (fun W => islost_any (s.extract k s.size) (Utf8.decode s k).1 W)
      rw [lost_round s k hp] at HL
      have HW := Lib.hid (Lib.iterAt_heap wr w.heap.size s k (k + (Utf8.decode s k).2) HIT.out)
      have HB2 := Lib.hid (Lib.below_iterAt HB.out (k := w.heap.size) (Nat.le_refl _) s (k + (Utf8.decode s k).2))
      have hk1 : (k : Int) ≤ (s.size : Int) := by omega
      by_cases hl : runeP ((bI s).drop k) = []
      · have HF := Lib.hid (count_bad s n T k hp hl HT.out)
        rw [decide_eq_true hl] at HL
        generalize Utf8.decode s k = d at *
        clear hbd hl
        go_wp2_with fail
        refine (HL.out _).mono ?_
        rintro e w2 ⟨rfl, hb2⟩
        have HB3 := Lib.hid (HB2.out.trans (hb2.mono HB2.out.size))
        clear hb2
        go_wp2_with fail
        refine bodyPost_ret (v := .int .i64 (-1)) (by simp [results, Tryz.results280, go_sem]) rfl ⟨by rw [HF.out], HB3.out⟩
      · have HF := Lib.hid (count_go s n T k hp hl HT.out)
        rw [decide_eq_false hl] at HL
        generalize Utf8.decode s k = d at *
        have HD := Lib.hid hbd
        clear hbd hl
        go_wp2_with fail
        refine (HL.out _).mono ?_
        rintro e w2 ⟨rfl, hb2⟩
        have HB3 := Lib.hid (HB2.out.trans (hb2.mono HB2.out.size))
        have HW2 : Hid (w2.heap[w.heap.size]? = some (.stringIter s (k + d.2))) := Lib.hid (by rw [hb2.block _ (Array.getElem?_eq_some_iff.1 HW.out).1]; exact HW.out)
        clear hb2
        go_wp2_with fail
        go_roundw
        case rel => exact ⟨k + d.2, n + 1, by go_num, by have := HD.out; omega, HF, HW2, HB3⟩
        case measure =>
          have := HD.out
          simp only [World.iterPos, HW2.out, HIT.out]
          omega
    · have hnx := fun ty => Lib.run_next_end_at (P := Tryz.prog) wr w.heap.size s k ty HIT.out hp
      have HF := Lib.hid (count_fin s n T k hp HT.out)
      go_wp2_with fail
      go_ret
      exact ⟨by rw [HF.out]; rfl, HB.out⟩
theorem jvalid_any (s : ByteArray) (w : World) (hs : s.size ≤ 100000) : Calls Tryz.prog 265 #[.string s] w fun e w' => e = .returned (.bool (decide (0 ≤ countP (bI s)))) ∧ Below w.heap.size w w' := by
  have HC := Lib.hid (jcount_any s w hs)
  generalize countP (bI s) = c at *
  go_enter Tryz.func265, Tryz.ntmps265
  go_wp2_with fail
  refine HC.out.mono ?_
  rintro e w2 ⟨rfl, hb2⟩
  go_wp2_with fail
  go_ret
  exact ⟨rfl, hb2⟩
structure QInv (s : ByteArray) (k : Nat) (out : List Int) : Prop where
  le : k ≤ s.size
  cnt : countP (bI s) < 0 ↔ countP ((bI s).drop k) < 0
  out_ : out = 34 :: quoteB ((bI s).take k)
theorem QInv.zero (s : ByteArray) : QInv s 0 ([] ++ [34]) := ⟨Nat.zero_le _, by rw [List.drop_zero], by rw [List.take_zero]; rfl⟩
theorem QInv.len {s : ByteArray} {k : Nat} {out : List Int} (h : QInv s k out) : out.length ≤ 6 * s.size + 1 := by
  have h1 := quoteB_len ((bI s).take k)
  have h2 : ((bI s).take k).length ≤ s.size := by rw [List.length_take, bI_len]; omega
  rw [h.out_, List.length_cons]
  omega
theorem QInv.bad {s : ByteArray} {k : Nat} {out : List Int} (h : QInv s k out) (hk : k < s.size) (hl : runeP ((bI s).drop k) = []) : quoteP (bI s) = ([], 4) := by
  have h1 : countP (bI s) < 0 := h.cnt.2 (by rw [count_step (drop_ne s k hk), if_pos hl]; decide)
  unfold quoteP
  rw [if_pos h1]
theorem QInv.fin {s : ByteArray} {k : Nat} {out : List Int} (h : QInv s k out) (hk : ¬ k < s.size) : quoteP (bI s) = (out ++ [34], 0) := by
  have e : k = s.size := by have := h.le; omega
  have h1 : ¬ countP (bI s) < 0 := by
    rw [h.cnt, List.drop_of_length_le (by rw [bI_len]; omega), count_nil]
    decide
  unfold quoteP
  rw [if_neg h1, h.out_, List.take_of_length_le (by rw [bI_len]; omega)]
theorem QInv.byte {s : ByteArray} {k : Nat} {out : List Int} (h : QInv s k out) (hk : ¬ k < s.size) : ∀ b ∈ out ++ [34], 0 ≤ b ∧ b < 256 := by
  have hq := h.fin hk
  have hc : ¬ countP (bI s) < 0 := by
    intro hc
    unfold quoteP at hq
    rw [if_pos hc] at hq
    injection hq with h1 h2
    cases h2
  obtain ⟨n, hv, _⟩ := count_of (l := bI s) (by omega)
  have e : k = s.size := by have := h.le; omega
  have ht : (bI s).take k = bI s := List.take_of_length_le (by rw [bI_len]; omega)
  intro b hb
  rw [h.out_, ht] at hb
  rcases List.mem_append.1 hb with hb | hb
  · rcases List.mem_cons.1 hb with rfl | hb
    · decide
    · have := quoteB_byte hv b hb; omega
  · rw [List.mem_singleton] at hb; subst hb; decide
def plainT : TypeDesc → Bool
  | .interface _ => false
  | _ => true
theorem assert_nil (X T : TypeId) (d : TypeDesc) (z : Value) (hu : Tryz.prog.underlying T = some d) (hd : plainT d = true) (hz : (Tryz.prog.info? T).map (·.zero) = some (some z)) (w : World) :
    (Instr.typeAssert .nilIface X T true).run Tryz.prog w = .ok (.tuple #[z, .bool false]) w := by
  obtain ⟨i, hi, hiz⟩ : ∃ i, Tryz.prog.info? T = some i ∧ i.zero = some z := by
    cases h : Tryz.prog.info? T with
    | none => simp [h] at hz
    | some i => exact ⟨i, rfl, by simpa [h] using hz⟩
  unfold Instr.typeAssert
  rw [Sem.run_bind, run_underlying hu w]
  cases d <;> simp_all [plainT, zeroValue, typeInfo]
theorem assert_no (X T t : TypeId) (v : Value) (d : TypeDesc) (z : Value) (hu : Tryz.prog.underlying T = some d) (hd : plainT d = true) (hz : (Tryz.prog.info? T).map (·.zero) = some (some z)) (ht : t ≠ T) (w : World) :
    (Instr.typeAssert (.iface t v) X T true).run Tryz.prog w = .ok (.tuple #[z, .bool false]) w := by
  obtain ⟨i, hi, hiz⟩ : ∃ i, Tryz.prog.info? T = some i ∧ i.zero = some z := by
    cases h : Tryz.prog.info? T with
    | none => simp [h] at hz
    | some i => exact ⟨i, rfl, by simpa [h] using hz⟩
  unfold Instr.typeAssert
  rw [Sem.run_bind, run_underlying hu w]
  cases d <;> simp_all [plainT, zeroValue, typeInfo]
theorem assert_yes (X T : TypeId) (v : Value) (d : TypeDesc) (hu : Tryz.prog.underlying T = some d) (hd : plainT d = true) (w : World) :
    (Instr.typeAssert (.iface T v) X T true).run Tryz.prog w = .ok (.tuple #[v, .bool true]) w := by
  unfold Instr.typeAssert
  rw [Sem.run_bind, run_underlying hu w]
  cases d <;> simp_all [plainT]
theorem zBool : (Tryz.prog.info? 4).map (·.zero) = some (some (.bool false)) := by kernel_rfl
theorem zInt : (Tryz.prog.info? 3).map (·.zero) = some (some (.int .i64 0)) := by kernel_rfl
theorem zStr : (Tryz.prog.info? 9).map (·.zero) = some (some (.string { data := #[] })) := by kernel_rfl
theorem zLst : (Tryz.prog.info? 310).map (·.zero) = some (some (.slice none 0 0)) := by kernel_rfl
theorem zPrs : (Tryz.prog.info? 96).map (·.zero) = some (some (.slice none 0 0)) := by kernel_rfl
end Go.Proofs.YtdnmgpcfgcidbaaGreatDoor
namespace Go.Proofs.YtdnmgpcfgcidbaaGreatDoor
set_option linter.unusedVariables false
set_option linter.unusedSimpArgs false
set_option maxRecDepth 20000
theorem takeP_in (l : List Int) (p : Nat) (t : List Int) (h : l.drop p = 34 :: t) (hp : p < l.length) : takeP l p = takeG l.length t (p + 1) [] := by
  unfold takeP
  have h1 : l.getD p 0 = 34 := by
    rw [List.getD_eq_getElem?_getD, List.getElem?_eq_getElem hp]
    rw [List.drop_eq_getElem_cons hp] at h
    injection h
  have h2 : l.drop (p + 1) = t := by
    rw [List.drop_eq_getElem_cons hp] at h
    injection h
  rw [if_neg (by omega), if_neg (by omega), Int.toNat_natCast, if_neg (by rw [h1]; simp), h2]
theorem takeP_zero (l : List Int) : takeP l 0 = match l with
    | [] => ([], 0, 3)
    | b :: t => if b = 34 then takeG (t.length + 1) t 1 [] else ([], 0, 4) := by
  cases l with
  | nil => rfl
  | cons b t =>
    by_cases h : b = 34
    · subst h
      have := takeP_in (34 :: t) 0 t rfl (by simp)
      rw [show ((0 : Nat) : Int) = 0 from rfl] at this
      rw [this]
      simp
    · unfold takeP
      rw [if_neg (by simp; omega), if_neg (by simp; omega)]
      simp [h]
theorem take_badDd (l : List Int) (h : (takeP l 0).2.2 ≠ 0) : (takeP l 0).1 = [] ∧ (takeP l 0).2.1 ≤ l.length ∧ ((takeP l 0).2.2 = 3 → (takeP l 0).2.1 = l.length) := by
  rw [takeP_zero] at h ⊢
  cases l with
  | nil => exact ⟨rfl, Nat.le_refl _, fun _ => rfl⟩
  | cons b t =>
    simp only at h ⊢
    by_cases hb : b = 34
    · rw [if_pos hb] at h ⊢
      obtain ⟨a, c, d⟩ := takeG_bad _ t 1 [] (by omega) h
      refine ⟨a, by rw [List.length_cons]; omega, fun e => ?_⟩
      have := d e
      rw [List.length_cons]
      omega
    · rw [if_neg hb]
      exact ⟨rfl, Nat.zero_le _, fun e => by cases e⟩
theorem take_good (l : List Int) (h : (takeP l 0).2.2 = 0) : (∃ k, Val (takeP l 0).1 k) ∧ 2 ≤ (takeP l 0).2.1 ∧ (takeP l 0).2.1 ≤ l.length ∧ (∀ x, takeP (l.take (takeP l 0).2.1 ++ x) 0 = takeP l 0) ∧
    ∀ j, j < (takeP l 0).2.1 → (takeP (l.take j) 0).1 = [] ∧ ((takeP (l.take j) 0).2.2 = 3 ∧ (takeP (l.take j) 0).2.1 = j ∨ (takeP (l.take j) 0).2.2 = 4) := by
  have hz := takeP_zero l
  cases l with
  | nil => rw [hz] at h; cases h
  | cons b t =>
    simp only at hz
    by_cases hb : b = 34
    · rw [if_pos hb] at hz
      subst hb
      rw [hz] at h ⊢
      obtain ⟨n, u, k, e1, e2, e3, e4, e5, e6⟩ := takeG_good _ t 1 [] (by omega) h
      rw [e1]
      simp only [List.nil_append] at e5 ⊢
      refine ⟨⟨k, e4⟩, by omega, by rw [List.length_cons]; omega, fun x => ?_, fun j hj => ?_⟩
      · rw [show 1 + n = n + 1 by omega, List.take_succ_cons, List.cons_append, takeP_zero]
        simp only
        rw [if_pos trivial, e5 x _ (by omega)]
        congr 2
        omega
      · cases j with
        | zero => rw [List.take_zero, takeP_zero]; exact ⟨rfl, .inl ⟨rfl, rfl⟩⟩
        | succ j =>
          rw [List.take_succ_cons, takeP_zero]
          simp only
          rw [if_pos trivial]
          have := e6 j ((t.take j).length + 1) (by omega) (by omega)
          rw [show 1 + j = j + 1 by omega] at this
          exact this
    · rw [if_neg hb] at hz
      rw [hz] at h
      cases h
theorem isD_iff (b : Int) : isD b = true ↔ 48 ≤ b ∧ b ≤ 57 := by simp [isD]
theorem valD_nn (a : List Int) (h : ∀ b ∈ a, isD b = true) : 0 ≤ valD a := by
  suffices H : ∀ (a : List Int) (n : Int), 0 ≤ n → (∀ b ∈ a, isD b = true) → 0 ≤ a.foldl (fun n c => 10 * n + (c - 48)) n from H a 0 (Int.le_refl 0) h
  intro a
  induction a with
  | nil => intro n hn _; exact hn
  | cons c a ih =>
    intro n hn h
    rw [List.foldl_cons]
    have := (isD_iff c).1 (h c (.head _))
    exact ih _ (by omega) (fun b hb => h b (.tail _ hb))
theorem spanN_le : ∀ l : List Int, spanN l ≤ l.length
  | [] => Nat.le_refl _
  | b :: t => by
    rw [spanN, List.length_cons]
    have := spanN_le t
    split <;> omega
theorem blankN_le : ∀ l : List Int, blankN l ≤ l.length
  | [] => Nat.le_refl _
  | b :: t => by
    rw [blankN, List.length_cons]
    have := blankN_le t
    split <;> omega
theorem numP_good (l : List Int) (h : (numP l).2.2 = 0) : ∃ n, (numP l).1 = .num n ∧ n ≤ maxI ∧ -maxI ≤ n ∧ (numP l).2.1 = spanN l ∧ 1 ≤ spanN l := by
  unfold numP at h ⊢
  by_cases hb : badD (l.take (spanN l))
  · rw [if_pos hb] at h; cases h
  rw [if_neg hb] at h ⊢
  by_cases hm : maxI < valD (unsgn (l.take (spanN l)))
  · rw [if_pos hm] at h; cases h
  rw [if_neg hm]
  have ha : (unsgn (l.take (spanN l))).all isD = true := by
    by_cases ha : (unsgn (l.take (spanN l))).all isD = true
    · exact ha
    · exact absurd (.inr (.inr ha)) hb
  have h0 := valD_nn _ (List.all_eq_true.1 ha)
  refine ⟨_, rfl, ?_, ?_, rfl, ?_⟩
  · split <;> simp only [maxI] at hm ⊢ <;> omega
  · split <;> simp only [maxI] at hm ⊢ <;> omega
  · rcases Nat.eq_zero_or_pos (spanN l) with e | e
    · refine absurd (.inl ?_) hb
      rw [e]
      rfl
    · exact e
theorem numP_le (l : List Int) : (numP l).2.1 ≤ l.length := by
  unfold numP
  split
  · exact Nat.zero_le _
  split
  · exact Nat.zero_le _
  · exact spanN_le l
theorem textP_is (l : List Int) : textP l = takeP l 0 := by rw [takeP_zero]; cases l <;> rfl
theorem textP_le (l : List Int) : (textP l).2.1 ≤ l.length := by
  rw [textP_is]
  by_cases h : (takeP l 0).2.2 = 0
  · exact (take_good l h).2.2.1
  · exact (take_badDd l h).2.1
theorem textP_one (l : List Int) (h : (textP l).2.2 = 0) : 2 ≤ (textP l).2.1 ∧ 0 ≤ countP (textP l).1 := by
  rw [textP_is] at h ⊢
  obtain ⟨⟨k, hv⟩, h2, _⟩ := take_good l h
  exact ⟨h2, by rw [count_is hv]; omega⟩
theorem wordG_le : ∀ (w l : List Int) (i : Nat), (wordG w l i).1 ≤ i + l.length ∧ ((wordG w l i).2 = 0 → (wordG w l i).1 = i + w.length)
  | [], l, i => ⟨Nat.le_add_right _ _, fun _ => rfl⟩
  | _ :: _, [], i => ⟨Nat.le_add_right _ _, fun h => by cases h⟩
  | c :: w, b :: t, i => by
    rw [wordG]
    split
    · obtain ⟨a, d⟩ := wordG_le w t (i + 1)
      exact ⟨by rw [List.length_cons]; omega, fun h => by rw [d h, List.length_cons]; omega⟩
    · exact ⟨Nat.zero_le _, fun h => by cases h⟩
theorem wordP_le (w : List Int) (v : Js) (l : List Int) (hw : 1 ≤ w.length) : (wordP w v l).2.1 ≤ l.length ∧ ((wordP w v l).2.2 = 0 → 1 ≤ (wordP w v l).2.1 ∧ (wordP w v l).1 = v) := by
  obtain ⟨a, d⟩ := wordG_le w l 0
  unfold wordP
  split
  · rename_i h
    exact ⟨by simpa using a, fun _ => ⟨by rw [d h]; omega, rfl⟩⟩
  · rename_i h
    exact ⟨by simpa using a, fun h' => absurd h' h⟩
theorem pairP_le (ob : Bool) (names : List (List Int)) (l : List Int) : (pairP ob names l).2.1 ≤ l.length := by
  unfold pairP
  by_cases ho : ob = false
  · rw [if_pos ho]; exact Nat.zero_le _
  rw [if_neg ho]
  have hl := textP_le l
  rcases ht : textP l with ⟨name, n, e⟩
  rw [ht] at hl
  simp only at hl ⊢
  have hb := blankN_le (l.drop n)
  have hb2 := blankN_le (l.drop (n + blankN (l.drop n) + 1))
  rw [List.length_drop] at hb hb2
  split
  · exact hl
  split
  · exact Nat.zero_le _
  split
  · simp only; omega
  rename_i h3
  have h3 : n + blankN (l.drop n) < l.length := by
    have := mt List.drop_eq_nil_iff.2 h3
    omega
  split <;> simp only <;> omega
def restP (f d : Nat) (ob : Bool) (fin : Int) (names : List (List Int)) (k : Nat) (l name : List Int) (v : Js) (m : Nat) : Jl × Nat × Int :=
  if l.drop m = [] then (.nil, m, 3) else if head0 (l.drop m) = fin then (.cons name v .nil, m + 1, 0) else if head0 (l.drop m) ≠ 44 then (.nil, m, 4) else
  if (itemsP f d ob fin (names ++ [name]) (k + 1) (l.drop (m + 1 + blankN (l.drop (m + 1))))).2.2 ≠ 0 then
    (.nil, m + 1 + blankN (l.drop (m + 1)) + (itemsP f d ob fin (names ++ [name]) (k + 1) (l.drop (m + 1 + blankN (l.drop (m + 1))))).2.1, (itemsP f d ob fin (names ++ [name]) (k + 1) (l.drop (m + 1 + blankN (l.drop (m + 1))))).2.2)
  else (.cons name v (itemsP f d ob fin (names ++ [name]) (k + 1) (l.drop (m + 1 + blankN (l.drop (m + 1))))).1, m + 1 + blankN (l.drop (m + 1)) + (itemsP f d ob fin (names ++ [name]) (k + 1) (l.drop (m + 1 + blankN (l.drop (m + 1))))).2.1, 0)
theorem itemsP_step (f d : Nat) (ob : Bool) (fin : Int) (names : List (List Int)) (k : Nat) (l : List Int) : itemsP (f + 1) d ob fin names k l =
    if l ≠ [] ∧ 64 ≤ k then (.nil, 0, 21) else if (pairP ob names l).2.2 ≠ 0 then (.nil, (pairP ob names l).2.1, (pairP ob names l).2.2) else
    if (valueP f (d + 1) (l.drop (pairP ob names l).2.1)).2.2 ≠ 0 then (.nil, (pairP ob names l).2.1 + (valueP f (d + 1) (l.drop (pairP ob names l).2.1)).2.1, (valueP f (d + 1) (l.drop (pairP ob names l).2.1)).2.2)
    else restP f d ob fin names k l (pairP ob names l).1 (valueP f (d + 1) (l.drop (pairP ob names l).2.1)).1 ((pairP ob names l).2.1 + (valueP f (d + 1) (l.drop (pairP ob names l).2.1)).2.1 + blankN (l.drop ((pairP ob names l).2.1 + (valueP f (d + 1) (l.drop (pairP ob names l).2.1)).2.1))) := by
  rw [itemsP]
  rfl
theorem valueP_box (f d : Nat) (b : Int) (t : List Int) (h : b = 91 ∨ b = 123) : valueP (f + 1) d (b :: t) =
    if 4 < d then (.nul, 0, 20) else if head0 (t.drop (blankN t)) = b + 2 then (if b = 91 then .arr .nil else .obj .nil, blankN t + 2, 0)
      else if (itemsP f d (decide (b = 123)) (b + 2) [] 0 (t.drop (blankN t))).2.2 ≠ 0 then (.nul, blankN t + 1 + (itemsP f d (decide (b = 123)) (b + 2) [] 0 (t.drop (blankN t))).2.1, (itemsP f d (decide (b = 123)) (b + 2) [] 0 (t.drop (blankN t))).2.2)
      else (if b = 91 then .arr (itemsP f d (decide (b = 123)) (b + 2) [] 0 (t.drop (blankN t))).1 else .obj (itemsP f d (decide (b = 123)) (b + 2) [] 0 (t.drop (blankN t))).1, blankN t + 1 + (itemsP f d (decide (b = 123)) (b + 2) [] 0 (t.drop (blankN t))).2.1, 0) := by
  rw [valueP, if_neg (by omega), if_neg (by omega), if_neg (by omega), if_neg (by omega), if_pos h]
def flatPDd (l : List Int) : Js × Nat × Int :=
  match l with
  | [] => (.nul, 0, 3)
  | b :: t =>
    if b = 110 then wordP [110, 117, 108, 108] .nul (b :: t)
    else if b = 102 then wordP [102, 97, 108, 115, 101] (.bool false) (b :: t)
    else if b = 116 then wordP [116, 114, 117, 101] (.bool true) (b :: t)
    else if b = 34 then (if (textP (b :: t)).2.2 = 0 then (.str (textP (b :: t)).1, (textP (b :: t)).2.1, 0) else (.nul, (textP (b :: t)).2.1, (textP (b :: t)).2.2))
    else if b = 45 ∨ isD b = true then numP (b :: t)
    else (.nul, 0, 4)
theorem valueP_flat (f d : Nat) (l : List Int) (h : head0 l ≠ 91 ∧ head0 l ≠ 123) : valueP (f + 1) d l = flatPDd l := by
  cases l with
  | nil => rfl
  | cons b t =>
    have h1 : ¬ (b = 91 ∨ b = 123) := by rintro (e | e); exact h.1 e; exact h.2 e
    rw [valueP, flatPDd]
    repeat' split
    all_goals first | rfl | exact absurd ‹b = 91 ∨ b = 123› h1
theorem flatP_le (l : List Int) : (flatPDd l).2.1 ≤ l.length ∧ ((flatPDd l).2.2 = 0 → 1 ≤ (flatPDd l).2.1) := by
  cases l with
  | nil => exact ⟨Nat.le_refl _, fun h => by cases h⟩
  | cons b t =>
    rw [flatPDd]
    by_cases h1 : b = 110
    · rw [if_pos h1]
      obtain ⟨a, c⟩ := wordP_le [110, 117, 108, 108] .nul (b :: t) (by simp)
      exact ⟨a, fun h => (c h).1⟩
    rw [if_neg h1]
    by_cases h2 : b = 102
    · rw [if_pos h2]
      obtain ⟨a, c⟩ := wordP_le [102, 97, 108, 115, 101] (.bool false) (b :: t) (by simp)
      exact ⟨a, fun h => (c h).1⟩
    rw [if_neg h2]
    by_cases h3 : b = 116
    · rw [if_pos h3]
      obtain ⟨a, c⟩ := wordP_le [116, 114, 117, 101] (.bool true) (b :: t) (by simp)
      exact ⟨a, fun h => (c h).1⟩
    rw [if_neg h3]
    by_cases h4 : b = 34
    · rw [if_pos h4]
      have ht := textP_le (b :: t)
      have ho := textP_one (b :: t)
      split
      · rename_i h; exact ⟨ht, fun _ => by have := ho h; simp only; omega⟩
      · rename_i h; exact ⟨ht, fun h' => absurd h' h⟩
    rw [if_neg h4]
    by_cases h5 : b = 45 ∨ isD b = true
    · rw [if_pos h5]
      refine ⟨numP_le _, fun h => ?_⟩
      obtain ⟨n, e1, e2, e3, e4, e5⟩ := numP_good _ h
      omega
    rw [if_neg h5]
    exact ⟨Nat.zero_le _, fun h => by cases h⟩
def InV (r : Js × Nat × Int) (n : Nat) : Prop := r.2.1 ≤ n ∧ (r.2.2 = 0 → 1 ≤ r.2.1)
def InL (r : Jl × Nat × Int) (n : Nat) : Prop := r.2.1 ≤ n ∧ (r.2.2 = 0 → 1 ≤ r.2.1)
theorem drop_pos {l : List Int} {m : Nat} (h : l.drop m ≠ []) : m < l.length := by
  have := mt List.drop_eq_nil_iff.2 h
  omega
theorem head0_len {l : List Int} {b : Int} (h : head0 l = b) (hb : b ≠ -1) : 1 ≤ l.length := by
  cases l with
  | nil => exact absurd h.symm hb
  | cons c t => simp
theorem within (f : Nat) : (∀ d l, InV (valueP f d l) l.length) ∧ ∀ d ob fin names k l, InL (itemsP f d ob fin names k l) l.length := by
  induction f with
  | zero => exact ⟨fun d l => ⟨by rw [valueP]; exact Nat.le_refl _, fun h => by rw [valueP] at h; cases h⟩, fun d ob fin names k l => ⟨by rw [itemsP]; exact Nat.le_refl _, fun h => by rw [itemsP] at h; cases h⟩⟩
  | succ f ih =>
    refine ⟨fun d l => ?_, fun d ob fin names k l => ?_⟩
    · by_cases h : head0 l = 91 ∨ head0 l = 123
      · cases l with
        | nil => rcases h with h | h <;> cases h
        | cons b t =>
          have h : b = 91 ∨ b = 123 := h
          rw [valueP_box f d b t h]
          have hb := blankN_le t
          have hi := ih.2 d (decide (b = 123)) (b + 2) [] 0 (t.drop (blankN t))
          unfold InL at hi
          rw [List.length_drop] at hi
          unfold InV
          rw [List.length_cons]
          split
          · exact ⟨Nat.zero_le _, fun h => by cases h⟩
          split
          · rename_i h2
            have := head0_len h2 (by omega)
            rw [List.length_drop] at this
            exact ⟨by simp only; omega, fun _ => by simp only; omega⟩
          split
          · rename_i h3; exact ⟨by simp only; omega, fun h' => absurd h' h3⟩
          · exact ⟨by simp only; omega, fun _ => by simp only; omega⟩
      · rw [valueP_flat f d l ⟨fun e => h (.inl e), fun e => h (.inr e)⟩]
        exact flatP_le l
    · rw [itemsP_step]
      have hp := pairP_le ob names l
      generalize pairP ob names l = P at hp ⊢
      have hv := ih.1 (d + 1) (l.drop P.2.1)
      generalize valueP f (d + 1) (l.drop P.2.1) = V at hv ⊢
      unfold InV at hv
      rw [List.length_drop] at hv
      have hm := blankN_le (l.drop (P.2.1 + V.2.1))
      rw [List.length_drop] at hm
      have hm : P.2.1 + V.2.1 + blankN (l.drop (P.2.1 + V.2.1)) ≤ l.length := by omega
      generalize P.2.1 + V.2.1 + blankN (l.drop (P.2.1 + V.2.1)) = m at hm ⊢
      unfold InL
      split
      · exact ⟨Nat.zero_le _, fun h => by cases h⟩
      split
      · rename_i h; exact ⟨hp, fun h' => absurd h' h⟩
      split
      · rename_i h; exact ⟨by simp only; omega, fun h' => absurd h' h⟩
      unfold restP
      split
      · exact ⟨hm, fun h => by cases h⟩
      rename_i h4
      have h4 := drop_pos h4
      split
      · exact ⟨by simp only; omega, fun _ => by simp only; omega⟩
      split
      · exact ⟨hm, fun h => by cases h⟩
      have hq := blankN_le (l.drop (m + 1))
      rw [List.length_drop] at hq
      have hq : m + 1 + blankN (l.drop (m + 1)) ≤ l.length := by omega
      have hq1 : 1 ≤ m + 1 + blankN (l.drop (m + 1)) := by omega
      generalize m + 1 + blankN (l.drop (m + 1)) = q at hq hq1 ⊢
      have hi := ih.2 d ob fin (names ++ [P.1]) (k + 1) (l.drop q)
      unfold InL at hi
      rw [List.length_drop] at hi
      split
      · rename_i h; exact ⟨by simp only; omega, fun h' => absurd h' h⟩
      · exact ⟨by simp only; omega, fun _ => by simp only; omega⟩
theorem enough (f : Nat) : (∀ g d l, 2 * l.length + 1 ≤ f → 2 * l.length + 1 ≤ g → valueP f d l = valueP g d l) ∧ ∀ g d ob fin names k l, 2 * l.length + 2 ≤ f → 2 * l.length + 2 ≤ g → itemsP f d ob fin names k l = itemsP g d ob fin names k l := by
  induction f with
  | zero => exact ⟨fun g d l h => by omega, fun g d ob fin names k l h => by omega⟩
  | succ f ih =>
    refine ⟨fun g d l hf hg => ?_, fun g d ob fin names k l hf hg => ?_⟩
    · cases g with
      | zero => omega
      | succ g =>
        by_cases h : head0 l = 91 ∨ head0 l = 123
        · cases l with
          | nil => rcases h with h | h <;> cases h
          | cons b t =>
            have h : b = 91 ∨ b = 123 := h
            rw [List.length_cons] at hf hg
            rw [valueP_box f d b t h, valueP_box g d b t h, ih.2 g d _ _ _ _ _ (by rw [List.length_drop]; omega) (by rw [List.length_drop]; omega)]
        · have h : head0 l ≠ 91 ∧ head0 l ≠ 123 := ⟨fun e => h (.inl e), fun e => h (.inr e)⟩
          rw [valueP_flat f d l h, valueP_flat g d l h]
    · cases g with
      | zero => omega
      | succ g =>
        rw [itemsP_step, itemsP_step, ih.1 g (d + 1) _ (by rw [List.length_drop]; omega) (by rw [List.length_drop]; omega)]
        unfold restP
        by_cases hl : l.length = 0
        · obtain rfl : l = [] := List.eq_nil_of_length_eq_zero hl
          simp only [List.drop_nil, if_true]
        · rw [ih.2 g d _ _ _ _ _ (by rw [List.length_drop]; omega) (by rw [List.length_drop]; omega)]
def Free (v : Js) (x : List Int) : Prop := ∀ n, v = .num n → isN (head0 x) = false
theorem takeV_long (s : List Int) (h : 4096 < s.length) : takeV s = (.nul, 0, 5) := by rw [takeV, if_pos h]
def BoxV (v : Js) : Prop := (∃ l, v = .arr l) ∨ ∃ l, v = .obj l
theorem BoxV.free {v : Js} (h : BoxV v) (x : List Int) : Free v x := by
  rintro n rfl
  rcases h with ⟨l, e⟩ | ⟨l, e⟩ <;> cases e
end Go.Proofs.YtdnmgpcfgcidbaaGreatDoor
namespace Go.Proofs.YtdnmgpcfgcidbaaGreatDoor
set_option linter.unusedVariables false
set_option linter.unusedSimpArgs false
open Go.RowKit
set_option maxRecDepth 20000
def rest2 (s : ByteArray) : ByteArray := ⟨(s.data.toList.drop 2).toArray⟩
theorem rest2_bI (s : ByteArray) : bI (rest2 s) = (bI s).drop 2 := by
  unfold bI rest2
  rw [List.map_drop]
theorem trim_yes (s : ByteArray) (h : Lib.hasPrefix s.data.toList [92, 117] = true) : (⟨(Lib.trimPrefix s.data.toList [92, 117]).toArray⟩ : ByteArray) = rest2 s := by
  unfold Lib.trimPrefix rest2; rw [if_pos h]; rfl
theorem pre_yes (s : ByteArray) (h : Lib.hasPrefix s.data.toList [92, 117] = true) : bI s = 92 :: 117 :: bI (rest2 s) := by
  obtain ⟨t, ht⟩ := (map_pre _ _).1 h
  rw [rest2_bI]
  unfold bI
  rw [ht]; rfl
theorem pre_no (s : ByteArray) (h : Lib.hasPrefix s.data.toList [92, 117] = false) : ¬ ∃ t, bI s = 92 :: 117 :: t := by
  rintro ⟨t, ht⟩
  have : Lib.hasPrefix s.data.toList [92, 117] = true := (map_pre _ _).2 ⟨t, ht⟩
  rw [this] at h; cases h
theorem of_yes (s : ByteArray) (h0 : Lib.hasPrefix s.data.toList [92, 117] = false) (h : Lib.hasPrefix [92, 117] s.data.toList = true) : bI s = [] ∨ bI s = [92] := by
  obtain ⟨t, ht⟩ := (map_pre _ _).1 h
  have e : [(92 : Int), 117] = bI s ++ t := ht
  have n := pre_no s h0
  cases hb : bI s with
  | nil => exact Or.inl rfl
  | cons a u =>
    rw [hb] at e
    injection e with e1 e2
    cases u with
    | nil => right; rw [← e1]
    | cons b v =>
      injection e2 with e3 e4
      exact absurd ⟨v, by rw [hb, ← e1, ← e3]⟩ n
theorem of_no (s : ByteArray) (h : Lib.hasPrefix [92, 117] s.data.toList = false) : ¬ (bI s = [] ∨ bI s = [92]) := by
  intro hq
  have : Lib.hasPrefix [92, 117] s.data.toList = true := by
    rcases hq with hq | hq
    · exact (map_pre _ _).2 ⟨[92, 117], by show _ = bI s ++ _; rw [hq]; rfl⟩
    · exact (map_pre _ _).2 ⟨[117], by show _ = bI s ++ _; rw [hq]; rfl⟩
  rw [this] at h; cases h
def unitV (s : ByteArray) : Value := .tuple #[.int .i32 (fourP (bI s)).1, .int .i64 (fourP (bI s)).2]
set_option maxHeartbeats 2000000 in
theorem unit_no (s : ByteArray) (w : World) (h0 : Lib.hasPrefix s.data.toList [92, 117] = false) : Calls Tryz.prog 253 #[.string s] w fun e w' => e = .returned (unitV s) ∧ Below w.heap.size w w' := by
  have H := Lib.hid (fun W => cp_any s { data := #[92, 117] } W)
  have H2 := Lib.hid (fun W => hp_any { data := #[92, 117] } s W)
  rw [show ({ data := #[92, 117] } : ByteArray).data.toList = [92, 117] from rfl] at H H2
  rw [h0] at H
  unfold unitV
  cases h1 : Lib.hasPrefix [92, 117] s.data.toList with
  | true =>
    rw [h1] at H2
    have hv := four_short _ (of_yes s h0 h1)
    rw [hv]
    clear hv h0 h1
    go_enter Tryz.func253, Tryz.ntmps253
    go_wp2_with fail
    refine (H.out _).mono ?_
    rintro e w' ⟨rfl, rfl⟩
    go_wp2_with fail
    refine (H2.out _).mono ?_
    rintro e w' ⟨rfl, rfl⟩
    go_wp2_with fail
    refine bodyPost_ret (v := .tuple #[.int .i32 0, .int .i64 3]) (by simp [results, Tryz.results253, go_sem]) rfl ⟨rfl, by go_grown⟩
  | false =>
    rw [h1] at H2
    have hv := four_not _ (pre_no s h0) (of_no s h1)
    rw [hv]
    clear hv h0 h1
    go_enter Tryz.func253, Tryz.ntmps253
    go_wp2_with fail
    refine (H.out _).mono ?_
    rintro e w' ⟨rfl, rfl⟩
    go_wp2_with fail
    refine (H2.out _).mono ?_
    rintro e w' ⟨rfl, rfl⟩
    go_wp2_with fail
    refine bodyPost_ret (v := .tuple #[.int .i32 0, .int .i64 4]) (by simp [results, Tryz.results253, go_sem]) rfl ⟨rfl, by go_grown⟩
theorem i32_or4 (x y : Int) (hx₀ : 0 ≤ x) (hx : x % 16 = 0) (hx₁ : x < 2147483648) (h₀ : 0 ≤ y) (h₁ : y < 16) : bits .or .i32 x y = x + y :=
  bits_join .i32 31 (by decide) wraps_i32 4 x y hx₀ hx hx₁ h₀ h₁ (by omega)
def UInv (t : ByteArray) (F : Int × Int) (k : Nat) (c : Int) : Prop := k ≤ t.size ∧ t.size ≤ 4 ∧ F = fourG (4 - k) (2 + k) c ((bI t).drop k) ∧ 0 ≤ c ∧ c < 16 ^ k
def min4 (r : ByteArray) : Nat := if r.size < 4 then r.size else 4
theorem uinv_zero (r : ByteArray) : UInv (r.extract 0 (min4 r)) (fourG 4 2 0 (bI r)) 0 0 ∧ (r.extract 0 (min4 r)).size = min4 r := by
  have hm : min4 r ≤ r.size ∧ min4 r ≤ 4 := by unfold min4; split <;> omega
  have hs : (r.extract 0 (min4 r)).size = min4 r := by rw [ByteArray.size_extract]; omega
  refine ⟨⟨Nat.zero_le _, by rw [hs]; exact hm.2, ?_, by decide, by decide⟩, hs⟩
  rw [bI_extract _ _ _ (Nat.zero_le _), List.drop_zero, List.drop_zero]
  by_cases h : r.size < 4
  · unfold min4
    rw [if_pos h, List.take_of_length_le (by rw [bI_len]; omega)]
  · unfold min4
    rw [if_neg h]
    have := four_more 4 2 0 (bI r) [] (by rw [bI_len]; omega)
    rw [List.append_nil] at this
    exact this.symm
theorem uinv_bad {t : ByteArray} {F : Int × Int} {k : Nat} {c : Int} (h : UInv t F k c) (hk : k < t.size) (hd : digP (Utf8.decode t k).1 < 0) : F = (0, 4) := by
  obtain ⟨h1, h2, h3, h4, h5⟩ := h
  obtain ⟨b, e1, e2, e3⟩ := dig_round t k hk
  rw [h3, e1, show 4 - k = (3 - k) + 1 by omega]
  exact four_bad _ _ _ _ _ (by omega) (by rw [← e2]; exact hd)
theorem uinv_step {t : ByteArray} {F : Int × Int} {k : Nat} {c : Int} (h : UInv t F k c) (hk : k < t.size) (hd : ¬ digP (Utf8.decode t k).1 < 0) : (Utf8.decode t k).2 = 1 ∧ UInv t F (k + 1) (16 * c + digP (Utf8.decode t k).1) ∧ c < 4096 := by
  obtain ⟨h1, h2, h3, h4, h5⟩ := h
  obtain ⟨b, e1, e2, e3⟩ := dig_round t k hk
  rw [e2] at hd ⊢
  have hb := dig_lt b
  refine ⟨e3 hd, ⟨by omega, h2, ?_, by omega, ?_⟩, ?_⟩
  · rw [h3, e1, show 4 - k = (3 - k) + 1 by omega, four_dig _ _ _ _ _ (by omega) hd, show 4 - (k + 1) = 3 - k by omega, show 2 + (k + 1) = 2 + k + 1 by omega]
  · rw [Int.pow_succ]; omega
  · rcases (by omega : k = 0 ∨ k = 1 ∨ k = 2 ∨ k = 3) with rfl | rfl | rfl | rfl
    all_goals (simp only [Int.reducePow] at h5; omega)
theorem uinv_end {t : ByteArray} {F : Int × Int} {k : Nat} {c : Int} (h : UInv t F k c) (hk : ¬ k < t.size) : (t.size < 4 → F = (0, 3)) ∧ (¬ t.size < 4 → F = (c, 0)) := by
  obtain ⟨h1, h2, h3, h4, h5⟩ := h
  have e : (bI t).drop k = [] := List.drop_of_length_le (by rw [bI_len]; omega)
  rw [e] at h3
  constructor
  · intro h
    rw [h3, show 4 - k = (3 - k) + 1 by omega]; rfl
  · intro h
    rw [h3, show 4 - k = 0 by omega]; rfl
set_option maxHeartbeats 4000000 in
theorem unit_yes (s : ByteArray) (w : World) (hs : s.size ≤ 100000) (h0 : Lib.hasPrefix s.data.toList [92, 117] = true) : Calls Tryz.prog 253 #[.string s] w fun e w' => e = .returned (unitV s) ∧ Below w.heap.size w w' := by
  have H := Lib.hid (fun W => cp_any s { data := #[92, 117] } W)
  rw [show ({ data := #[92, 117] } : ByteArray).data.toList = [92, 117] from rfl, h0, trim_yes s h0] at H
  have HF : Hid (fourP (bI s) = fourG 4 2 0 (bI (rest2 s))) := Lib.hid (by rw [pre_yes s h0, four_pre])
  have hrs : (rest2 s).size ≤ 100000 := by
    have := congrArg List.length (rest2_bI s)
    rw [List.length_drop, bI_len, bI_len] at this
    omega
  unfold unitV
  rw [HF.out]
  clear HF h0 hs
  generalize rest2 s = r at *
  obtain ⟨hu, hsz⟩ := uinv_zero r
  obtain ⟨F, hF⟩ : ∃ F, fourG 4 2 0 (bI r) = F := ⟨_, rfl⟩
  rw [hF] at hu ⊢
  clear hF
  have hm : min (4 : Int) ((r.size : Nat) : Int) = (min4 r : Int) := by unfold min4; split <;> omega
  have HM : Hid (min4 r ≤ r.size ∧ min4 r ≤ 4 ∧ (min4 r < 4 ↔ r.size < 4)) := Lib.hid (by unfold min4; split <;> omega)
  generalize min4 r = m at *
  have HU := Lib.hid hu
  have HSZ := Lib.hid hsz
  clear hu hsz
  have hm1 := HM.out.1
  go_enter Tryz.func253, Tryz.ntmps253
  go_wp2_with fail
  refine (H.out _).mono ?_
  rintro e w' ⟨rfl, rfl⟩
  go_wp2_with fail
  have T0 : (m : Int).toNat = m := rfl
  go_loopw [6] (fun i wr => ∃ (k : Nat) (c : Int), i = .int .i32 c ∧ Hid (UInv (r.extract 0 m) F k c) ∧ Hid (wr.heap[w'.heap.size]? = some (.stringIter (r.extract 0 m) k)) ∧ Hid (Below w'.heap.size w' wr)) (fun _ wr => (r.extract 0 m).size - wr.iterPos w'.heap.size)
  case atStart => exact ⟨0, 0, rfl, HU, Lib.hid (World.iter_heap _ _ _), Lib.hid ((Below.refl _ _).alloc (Nat.le_refl _) _)⟩
  case round =>
    obtain ⟨k, c, rfl, HI, HIT, HB⟩ := hrel
    have HSZ2 := HSZ
    generalize r.extract 0 m = t at *
    by_cases hp : k < t.size
    · have hnx := fun ty => Lib.run_next_any_at (P := Tryz.prog) wr w'.heap.size t k ty HIT.out hp
      have hbd := dec_bd t k hp
      have HD := Lib.hid (fun W => digit_any (Utf8.decode t k).1 W (by omega) (by omega))
      have HW := Lib.hid (Lib.iterAt_heap wr w'.heap.size t k (k + (Utf8.decode t k).2) HIT.out)
      have HB2 := Lib.hid (Lib.below_iterAt HB.out (k := w'.heap.size) (Nat.le_refl _) t (k + (Utf8.decode t k).2))
      by_cases hd : digP (Utf8.decode t k).1 < 0
      · have hF := uinv_bad HI.out hp hd
        generalize Utf8.decode t k = d at *
        have HF := Lib.hid hF
        clear hbd hF
        go_wp2_with fail
        refine (HD.out _).mono ?_
        rintro e w2 ⟨rfl, hb2⟩
        have HB3 := Lib.hid (HB2.out.trans (hb2.mono HB2.out.size))
        clear hb2
        go_wp2_with fail
        refine bodyPost_ret (v := .tuple #[.int .i32 0, .int .i64 4]) (by simp [results, Tryz.results253, go_sem]) rfl ⟨by rw [HF.out], HB3.out⟩
      · obtain ⟨hw1, hI2, hc4⟩ := uinv_step HI.out hp hd
        have hc0 := HI.out.2.2.2.1
        have hdl := dig_lt (Utf8.decode t k).1
        generalize hg : digP (Utf8.decode t k).1 = g at *
        have hs4 : IntKind.i32.wrap (c * 16) = c * 16 := by rw [IntKind.wrap_i32]; omega
        have ho := i32_or4 (c * 16) g (by omega) (by omega) (by omega) (by omega) (by omega)
        have HI2 := Lib.hid (show UInv t F (k + 1) (c * 16 + g) by rw [Int.mul_comm c 16]; exact hI2)
        generalize Utf8.decode t k = d at *
        have HW1 := Lib.hid hw1
        clear hbd hdl hg hI2 hc4 hc0 hw1
        go_wp2_with fail
        refine (HD.out _).mono ?_
        rintro e w2 ⟨rfl, hb2⟩
        have HB3 := Lib.hid (HB2.out.trans (hb2.mono HB2.out.size))
        have HW2 : Hid (w2.heap[w'.heap.size]? = some (.stringIter t (k + d.2))) := Lib.hid (by rw [hb2.block _ (Array.getElem?_eq_some_iff.1 HW.out).1]; exact HW.out)
        clear hb2
        go_wp2_with fail
        go_roundw
        case rel => exact ⟨k + 1, c * 16 + g, rfl, HI2, by rw [← HW1.out]; exact HW2, HB3⟩
        case measure =>
          simp only [World.iterPos, HW2.out, HIT.out, HW1.out]
          omega
    · have hnx := fun ty => Lib.run_next_end_at (P := Tryz.prog) wr w'.heap.size t k ty HIT.out hp
      have he := uinv_end HI.out hp
      rw [HSZ.out] at he
      by_cases h4 : m < 4
      · have h4' : r.size < 4 := HM.out.2.2.1 h4
        have HF := Lib.hid (he.1 h4)
        have h5 : ((r.size : Nat) : Int) < 4 := by omega
        clear he h4 h4'
        go_wp2_with fail
        refine bodyPost_ret (v := .tuple #[.int .i32 0, .int .i64 3]) (by simp [results, Tryz.results253, go_sem]) rfl ⟨by rw [HF.out], HB.out⟩
      · have h4' : ¬ r.size < 4 := fun h => h4 (HM.out.2.2.2 h)
        have HF := Lib.hid (he.2 h4)
        have h5 : ¬ ((r.size : Nat) : Int) < 4 := by omega
        clear he h4 h4'
        go_wp2_with fail
        refine bodyPost_ret (v := .tuple #[.int .i32 c, .int .i64 0]) (by simp [results, Tryz.results253, go_sem]) rfl ⟨by rw [HF.out], HB.out⟩
theorem unit_any (s : ByteArray) (w : World) (hs : s.size ≤ 100000) : Calls Tryz.prog 253 #[.string s] w fun e w' => e = .returned (unitV s) ∧ Below w.heap.size w w' := by
  cases h : Lib.hasPrefix s.data.toList [92, 117] with
  | true => exact unit_yes s w hs h
  | false => exact unit_no s w h
end Go.Proofs.YtdnmgpcfgcidbaaGreatDoor
