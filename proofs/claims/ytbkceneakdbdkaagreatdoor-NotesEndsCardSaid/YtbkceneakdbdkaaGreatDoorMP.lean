/- Several texts, one behind the other: Pp, Pq, Ps, Pl, Pm. -/
import Derived.Test.YtbkceneakdbdkaaGreatDoorMO
import Derived.Test.YtbkceneakdbdkaaGreatDoorMF
import Derived.Test.YtbkceneakdbdkaaGreatDoorRt
import Derived.Test.YtbkceneakdbdkaaGreatDoorMB
import Derived.Test.YtbkceneakdbdkaaGreatDoorMG
import Derived.Deep.RegionHeld3
/- Plain: what the library's functions tell of bytes, in our own words. -/
namespace Go.Proofs.YtbkceneakdbdkaaGreatDoor
open Go.RowKit
set_option maxRecDepth 20000
set_option linter.unusedVariables false
set_option linter.unusedSimpArgs false
def uI (l : List UInt8) : List Int := l.map (fun c => (c.toNat : Int))
theorem bI_arr (l : List UInt8) : bI ⟨l.toArray⟩ = uI l := by unfold bI uI; simp
theorem bI_u (s : ByteArray) : bI s = uI s.data.toList := rfl
theorem u8_all (f g : UInt8 → Bool) (h : ∀ n, n < 256 → f (UInt8.ofNat n) = g (UInt8.ofNat n)) (c : UInt8) : f c = g c := by
  have := h c.toNat c.toNat_lt
  rwa [UInt8.ofNat_toNat] at this
theorem span_drop (f : List Int → Nat) (p : Int → Bool) (q : UInt8 → Bool) (h0 : f [] = 0) (h1 : ∀ b t, f (b :: t) = if p b then f t + 1 else 0) (hq : ∀ c : UInt8, q c = p (c.toNat : Int)) :
    ∀ l : List UInt8, (l.dropWhile q).length + f (uI l) = l.length
  | [] => by simp [uI, h0]
  | c :: t => by
    have ih := span_drop f p q h0 h1 hq t
    unfold uI at ih ⊢
    rw [List.map_cons, h1, ← hq, List.dropWhile_cons]
    cases q c
    · simp
    · simp only [if_true, List.length_cons]; omega
theorem blank_drop (l : List UInt8) : (Lib.trimLeftS l [32, 9, 10, 13]).length + blankN (uI l) = l.length :=
  span_drop blankN isB _ rfl (fun b t => by rw [blankN]) (u8_all _ (fun c => isB (c.toNat : Int)) (by decide +kernel)) l
theorem numer_drop (l : List UInt8) : (Lib.trimLeftS l [48, 49, 50, 51, 52, 53, 54, 55, 56, 57, 43, 45, 46, 101, 69]).length + spanN (uI l) = l.length :=
  span_drop spanN isN _ rfl (fun b t => by rw [spanN]) (u8_all _ (fun c => isN (c.toNat : Int)) (by decide +kernel)) l
theorem dig_u (c : UInt8) : ([48, 49, 50, 51, 52, 53, 54, 55, 56, 57] : List UInt8).contains c = isD (c.toNat : Int) :=
  u8_all (fun c => ([48, 49, 50, 51, 52, 53, 54, 55, 56, 57] : List UInt8).contains c) (fun c => isD (c.toNat : Int)) (by decide +kernel) c
theorem dropWhile_nil (q : UInt8 → Bool) : ∀ l : List UInt8, l.dropWhile q = [] ↔ l.all q = true
  | [] => by simp
  | c :: t => by
    rw [List.dropWhile_cons, List.all_cons]
    cases h : q c
    · simp
    · simp [dropWhile_nil q t]
theorem trim_dig (l : List UInt8) : (Lib.trimS l [48, 49, 50, 51, 52, 53, 54, 55, 56, 57] = []) ↔ (uI l).all isD = true := by
  unfold Lib.trimS Lib.trimLeftS Lib.trimRightS
  rw [dropWhile_nil]
  have hall : ∀ m : List UInt8, (uI m).all isD = m.all (fun c => ([48, 49, 50, 51, 52, 53, 54, 55, 56, 57] : List UInt8).contains c) := by
    intro m
    unfold uI
    rw [List.all_map]
    congr 1
    funext c
    exact (dig_u c).symm
  rw [hall]
  constructor
  · intro h
    have h1 := fun x (hx : x ∈ (l.reverse.dropWhile (fun c => ([48, 49, 50, 51, 52, 53, 54, 55, 56, 57] : List UInt8).contains c)).reverse) => List.all_eq_true.1 h x hx
    cases hd : l.reverse.dropWhile (fun c => ([48, 49, 50, 51, 52, 53, 54, 55, 56, 57] : List UInt8).contains c) with
    | nil =>
      have := (dropWhile_nil _ _).1 hd
      rw [List.all_eq_true] at this ⊢
      exact fun x hx => this x (List.mem_reverse.2 hx)
    | cons c t =>
      have hc := h1 c (by rw [hd]; simp)
      have := List.head?_dropWhile_not (fun c => ([48, 49, 50, 51, 52, 53, 54, 55, 56, 57] : List UInt8).contains c) l.reverse
      rw [hd] at this
      simp only [List.head?_cons] at this
      rw [hc] at this
      cases this
  · intro h
    rw [List.all_eq_true] at h ⊢
    intro x hx
    exact h x (List.mem_reverse.1 ((List.dropWhile_sublist _).subset (List.mem_reverse.1 hx)))
/-! ### Numbers -/
theorem dec_dig : ∀ (n u : Nat), u < n → uI (Lib.decDigits u) = digN u
  | 0, u, h => absurd h (Nat.not_lt_zero _)
  | n + 1, u, h => by
    rw [Lib.decDigits, digN]
    by_cases h10 : u < 10
    · rw [dif_pos h10, dif_pos h10]
      unfold uI
      rw [List.map_cons, List.map_nil, UInt8.toNat_ofNat_of_lt' (by show _ < 256; omega)]
      simp
    · rw [dif_neg h10, dif_neg h10]
      have ih := dec_dig n (u / 10) (by omega)
      unfold uI at ih ⊢
      rw [List.map_append, ih, List.map_cons, List.map_nil, UInt8.toNat_ofNat_of_lt' (by have := Nat.mod_lt u (show 0 < 10 by omega); show _ < 256; omega)]
      simp
theorem ito_dig (n : Int) : uI (Lib.itoa n) = digI n := by
  unfold Lib.itoa digI
  by_cases h : n < 0
  · rw [if_pos h, if_pos h, show (-n).toNat = n.natAbs by omega]
    have := dec_dig (n.natAbs + 1) n.natAbs (by omega)
    unfold uI at this ⊢
    rw [List.map_cons, this]; rfl
  · rw [if_neg h, if_neg h]
    exact dec_dig (n.toNat + 1) n.toNat (by omega)
theorem fold_ge : ∀ (l : List Int) (a b : Int), (∀ c ∈ l, 48 ≤ c) → 0 ≤ b → b ≤ a → b ≤ l.foldl (fun n c => 10 * n + (c - 48)) a
  | [], a, b, _, _, h => h
  | c :: t, a, b, hl, h0, h => by
    rw [List.foldl_cons]
    have := hl c (List.mem_cons_self ..)
    exact fold_ge t _ b (fun x hx => hl x (List.mem_cons_of_mem _ hx)) h0 (by omega)
theorem parse_dig : ∀ (l : List UInt8) (acc : Nat), (uI l).all isD = true →
    (∃ u, Lib.parseUint10 acc l = .ok u ∧ (uI l).foldl (fun n c => 10 * n + (c - 48)) (acc : Int) = u) ∨ Lib.parseUint10 acc l = .range ∧ 18446744073709551616 ≤ (uI l).foldl (fun n c => 10 * n + (c - 48)) (acc : Int)
  | [], acc, _ => .inl ⟨acc, rfl, rfl⟩
  | c :: t, acc, h => by
    have hc : uI (c :: t) = (c.toNat : Int) :: uI t := rfl
    rw [hc, List.all_cons, Bool.and_eq_true] at h
    obtain ⟨h1, h2⟩ := h
    have hd : 48 ≤ c.toNat ∧ c.toNat ≤ 57 := by
      unfold isD at h1
      simp only [Bool.and_eq_true, decide_eq_true_eq] at h1
      omega
    have h48 : ∀ x ∈ uI t, 48 ≤ x := by
      intro x hx
      have := List.all_eq_true.1 h2 x hx
      unfold isD at this
      simp only [Bool.and_eq_true, decide_eq_true_eq] at this
      exact this.1
    rw [hc, List.foldl_cons, Lib.parseUint10, if_pos hd]
    by_cases g1 : 1844674407370955162 ≤ acc
    · rw [if_pos g1]
      exact .inr ⟨rfl, fold_ge _ _ _ h48 (by omega) (by omega)⟩
    rw [if_neg g1]
    by_cases g2 : 18446744073709551616 ≤ acc * 10 + (c.toNat - 48)
    · rw [if_pos g2]
      exact .inr ⟨rfl, fold_ge _ _ _ h48 (by omega) (by omega)⟩
    rw [if_neg g2]
    have hcast : ((acc * 10 + (c.toNat - 48) : Nat) : Int) = 10 * (acc : Int) + ((c.toNat : Int) - 48) := by omega
    have := parse_dig t (acc * 10 + (c.toNat - 48)) h2
    rw [hcast] at this
    exact this
/-- How Atoi ends where digits are a whole number's. -/
theorem ato_dig (l : List UInt8) (h : ¬ badD (uI l)) : (∃ v, Lib.atoiAll l = .ok v ∧ v = (if isNeg (uI l) then - valD (unsgn (uI l)) else valD (unsgn (uI l)))) ∨ Lib.atoiAll l = .range ∧ maxI < valD (unsgn (uI l)) := by
  unfold badD at h
  have h1 : ¬ unsgn (uI l) = [] := fun e => h (.inl e)
  have h3 : (unsgn (uI l)).all isD = true := Decidable.byContradiction fun e => h (.inr (.inr e))
  cases l with
  | nil => exact absurd rfl h1
  | cons c t =>
    have hc : uI (c :: t) = (c.toNat : Int) :: uI t := rfl
    rw [hc] at h1 h3 ⊢
    by_cases hm : (c.toNat : Int) = 45
    · have hc45 : c = 45 := UInt8.toNat_inj.1 (by simpa using (show c.toNat = 45 by omega))
      rw [unsgn, if_pos hm] at h1 h3 ⊢
      have hn : isNeg ((c.toNat : Int) :: uI t) = true := by unfold isNeg; rw [hm]; rfl
      rw [hn, if_pos rfl, hc45, Lib.atoiAll_minus]
      have ht : ¬ t = [] := fun e => h1 (by rw [e]; rfl)
      unfold Lib.parseMag
      rw [if_neg ht]
      rcases parse_dig t 0 h3 with ⟨u, e1, e2⟩ | ⟨e1, e2⟩
      · rw [e1, Lib.signed]
        have e2 : valD (uI t) = u := e2
        by_cases g : 9223372036854775808 < u
        · rw [if_pos g]; exact .inr ⟨rfl, by unfold maxI; omega⟩
        · rw [if_neg g]; exact .inl ⟨_, rfl, by rw [e2]⟩
      · rw [e1, Lib.signed]
        have e2 : 18446744073709551616 ≤ valD (uI t) := e2
        exact .inr ⟨rfl, by unfold maxI; omega⟩
    · rw [unsgn, if_neg hm] at h1 h3 ⊢
      have hn : isNeg ((c.toNat : Int) :: uI t) = false := by unfold isNeg; simpa using hm
      rw [hn]
      have hd : isD (c.toNat : Int) = true := by rw [List.all_cons, Bool.and_eq_true] at h3; exact h3.1
      have hd : 48 ≤ c.toNat ∧ c.toNat ≤ 57 := by
        unfold isD at hd
        simp only [Bool.and_eq_true, decide_eq_true_eq] at hd
        omega
      rw [Lib.atoiAll_plain c t (by omega) (by omega)]
      unfold Lib.parseMag
      rw [if_neg (by simp)]
      rcases parse_dig (c :: t) 0 h3 with ⟨u, e1, e2⟩ | ⟨e1, e2⟩
      · rw [e1, Lib.signless]
        have e2 : valD ((c.toNat : Int) :: uI t) = u := e2
        by_cases g : 9223372036854775808 ≤ u
        · rw [if_pos g]; exact .inr ⟨rfl, by unfold maxI; omega⟩
        · rw [if_neg g]; exact .inl ⟨_, rfl, by rw [e2]; simp⟩
      · rw [e1, Lib.signless]
        have e2 : 18446744073709551616 ≤ valD ((c.toNat : Int) :: uI t) := e2
        exact .inr ⟨rfl, by unfold maxI; omega⟩
/-! ### Prefixes -/
theorem word_pre : ∀ (w l : List Int) (i : Nat), wordG w l i = if w <+: l then (i + w.length, 0) else if l <+: w then (i + l.length, 3) else (0, 4)
  | [], l, i => by rw [wordG, if_pos (List.nil_prefix)]; simp
  | c :: w, [], i => by rw [wordG, if_neg (by simp), if_pos (List.nil_prefix)]; simp
  | c :: w, b :: t, i => by
    rw [wordG]
    by_cases h : b = c
    · subst h
      rw [if_pos rfl, word_pre w t (i + 1)]
      simp only [List.cons_prefix_cons, true_and, List.length_cons]
      simp only [show i + 1 + w.length = i + (w.length + 1) by omega, show i + 1 + t.length = i + (t.length + 1) by omega]
    · rw [if_neg h, if_neg (by rw [List.cons_prefix_cons]; exact fun e => h e.1.symm), if_neg (by rw [List.cons_prefix_cons]; exact fun e => h e.1)]
theorem pre_u (p l : List UInt8) : Lib.hasPrefix l p = decide (uI p <+: uI l) := by
  have : Lib.hasPrefix l p = p.isPrefixOf l := rfl
  rw [this]
  have h := map_pre p l
  rw [Bool.eq_iff_iff, h, decide_eq_true_iff]
  exact ⟨fun ⟨t, e⟩ => ⟨t, e.symm⟩, fun ⟨t, e⟩ => ⟨t, e.symm⟩⟩
theorem idx_u : ∀ (l : List UInt8) (c : Int), 0 ≤ c → c < 256 → (Lib.indexByte l c.toNat.toUInt8 < 0 ↔ c ∉ uI l) ∧ -1 ≤ Lib.indexByte l c.toNat.toUInt8
  | [], c, h0, h1 => by simp [Lib.indexByte, uI]
  | b :: l, c, h0, h1 => by
    have ih := idx_u l c h0 h1
    have hc : uI (b :: l) = (b.toNat : Int) :: uI l := rfl
    rw [hc, List.mem_cons, Lib.indexByte]
    have he : (b == c.toNat.toUInt8) = decide (c = (b.toNat : Int)) := by
      rw [Bool.eq_iff_iff, beq_iff_eq, decide_eq_true_iff]
      constructor
      · rintro rfl
        have : c.toNat < 256 := by omega
        show c = ((UInt8.ofNat c.toNat).toNat : Int)
        rw [UInt8.toNat_ofNat_of_lt' (by show _ < 256; omega)]; omega
      · rintro rfl
        simp [Nat.toUInt8]
    rw [he]
    by_cases hb : c = (b.toNat : Int)
    · rw [decide_eq_true hb]; simp [hb]
    · rw [decide_eq_false hb]
      simp only [Bool.false_eq_true, if_false, hb, false_or]
      by_cases g : Lib.indexByte l c.toNat.toUInt8 = -1
      · rw [g]; simp only [beq_self_eq_true, if_true]
        exact ⟨⟨fun _ => (ih.1.1 (by omega)), fun _ => by omega⟩, by omega⟩
      · have g2 : (Lib.indexByte l c.toNat.toUInt8 == -1) = false := by rw [beq_eq_false_iff_ne]; exact g
        rw [g2]
        simp only [Bool.false_eq_true, if_false]
        exact ⟨⟨fun h => by omega, fun h => absurd (ih.1.2 h) (by omega)⟩, by omega⟩
/-- The digits behind a minus. -/
theorem trim_min (l : List UInt8) : uI (Lib.trimPrefix l [45]) = unsgn (uI l) := by
  unfold Lib.trimPrefix
  cases l with
  | nil => rfl
  | cons c t =>
    have hp : Lib.hasPrefix (c :: t) [45] = decide ((c.toNat : Int) = 45) := by
      rw [pre_u, Bool.eq_iff_iff, decide_eq_true_iff, decide_eq_true_iff]
      show [(45 : Int)] <+: (c.toNat : Int) :: uI t ↔ _
      rw [List.cons_prefix_cons]
      exact ⟨fun h => h.1.symm, fun h => ⟨h.symm, List.nil_prefix⟩⟩
    have hc : uI (c :: t) = (c.toNat : Int) :: uI t := rfl
    rw [hp, hc, unsgn]
    by_cases h : (c.toNat : Int) = 45
    · rw [decide_eq_true h, if_pos h]; rfl
    · rw [decide_eq_false h, if_neg h]; rfl
theorem takeG_shift : ∀ (f : Nat) (l : List Int) (p q : Nat) (out : List Int), takeG f l (p + q) out = ((takeG f l p out).1, (takeG f l p out).2.1 + q, (takeG f l p out).2.2)
  | 0, l, p, q, out => by simp [takeG]; omega
  | f + 1, l, p, q, out => by
    rw [takeG_step, takeG_step]
    cases stepP l with
    | short => simp; omega
    | form => simp
    | fin => simp; omega
    | piece t n =>
      simp only
      rw [show p + q + n = p + n + q by omega]
      exact takeG_shift f _ _ q _
theorem takeP_drop (l : List Int) (p : Nat) (hp : p ≤ l.length) : takeP l p = ((textP (l.drop p)).1, p + (textP (l.drop p)).2.1, (textP (l.drop p)).2.2) := by
  unfold takeP
  rw [if_neg (by omega)]
  by_cases he : (p : Int) = l.length
  · rw [if_pos he, List.drop_of_length_le (by omega)]
    simp [textP]
  · rw [if_neg he, Int.toNat_natCast]
    have hlt : p < l.length := by omega
    have hd : l.drop p = l.getD p 0 :: l.drop (p + 1) := by
      rw [List.getD_eq_getElem?_getD, List.getElem?_eq_getElem hlt, Option.getD_some, List.drop_eq_getElem_cons hlt]
    rw [hd, textP]
    by_cases h : l.getD p 0 = 34
    · rw [if_neg (by rw [h]; simp), if_pos h, show p + 1 = 1 + p by omega, takeG_shift l.length _ 1 p []]
      have := takeG_fuel l.length ((l.drop (1 + p)).length + 1) (l.drop (1 + p)) 1 [] (by rw [List.length_drop]; omega) (by omega)
      rw [this, Nat.add_comm p]
    · rw [if_pos h, if_neg h]; simp
end Go.Proofs.YtbkceneakdbdkaaGreatDoor
/- The program's past, takeWord, isWhole, takeNumber, and what they lean on. -/
namespace Go.Proofs.YtbkceneakdbdkaaGreatDoor
open Go.RowKit
set_option maxRecDepth 20000
set_option linter.unusedVariables false
set_option linter.unusedSimpArgs false
set_option maxHeartbeats 2000000
theorem h116l : (Tryz.prog.info? (tlL_ren.t 116)).map (fun i => (i.zero, i.size)) = some (some (.agg (Array.replicate 256 (.bool false))), 256) := by kernel_rfl
theorem h116r : (Tryz.prog.info? (trL_ren.t 116)).map (fun i => (i.zero, i.size)) = some (some (.agg (Array.replicate 256 (.bool false))), 256) := by kernel_rfl
theorem tl_blank (s : ByteArray) (w : World) : Calls Tryz.prog 63 #[.string s, .string { data := #[32, 9, 10, 13] }] w fun e w' => (∃ r : ByteArray, e = .returned (.string r) ∧ r.size + blankN (bI s) = s.size) ∧ Below w.heap.size w w' := by
  refine (Any.strings_TrimLeft_laid tlL h116l s ⟨#[32, 9, 10, 13]⟩ w (by decide) (ascii_of_all (by decide))).mono ?_
  rintro e w' ⟨rfl, hb⟩
  refine ⟨⟨_, rfl, ?_⟩, hb⟩
  have := blank_drop s.data.toList
  rw [Array.length_toList] at this
  rw [bI_u]
  show (List.toArray _).size + _ = s.data.size
  rw [List.size_toArray]
  exact this
theorem tl_numer (s : ByteArray) (w : World) : Calls Tryz.prog 63 #[.string s, .string { data := #[48, 49, 50, 51, 52, 53, 54, 55, 56, 57, 43, 45, 46, 101, 69] }] w fun e w' => (∃ r : ByteArray, e = .returned (.string r) ∧ r.size + spanN (bI s) = s.size) ∧ Below w.heap.size w w' := by
  refine (Any.strings_TrimLeft_laid tlL h116l s ⟨#[48, 49, 50, 51, 52, 53, 54, 55, 56, 57, 43, 45, 46, 101, 69]⟩ w (by decide) (ascii_of_all (by decide))).mono ?_
  rintro e w' ⟨rfl, hb⟩
  refine ⟨⟨_, rfl, ?_⟩, hb⟩
  have := numer_drop s.data.toList
  rw [Array.length_toList] at this
  rw [bI_u]
  show (List.toArray _).size + _ = s.data.size
  rw [List.size_toArray]
  exact this
theorem tr_dig (s : ByteArray) (w : World) (hs : s.size ≤ 100000) : Calls Tryz.prog 98 #[.string s, .string { data := #[48, 49, 50, 51, 52, 53, 54, 55, 56, 57] }] w fun e w' => (∃ r : ByteArray, e = .returned (.string r) ∧ (r = { data := #[] } ↔ (bI s).all isD = true)) ∧ Below w.heap.size w w' := by
  refine (Any.strings_Trim_laid trL h116r s ⟨#[48, 49, 50, 51, 52, 53, 54, 55, 56, 57]⟩ w (by omega) (by decide) (ascii_of_all (by decide))).mono ?_
  rintro e w' ⟨rfl, hb⟩
  refine ⟨⟨_, rfl, ?_⟩, hb⟩
  rw [bI_u, ← trim_dig]
  constructor
  · intro h
    have := congrArg (fun b : ByteArray => b.data.toList) h
    simpa using this
  · intro h
    have h' : Lib.trimS s.data.toList (ByteArray.mk #[48, 49, 50, 51, 52, 53, 54, 55, 56, 57]).data.toList = [] := h
    rw [h']
theorem tp_min (s : ByteArray) (w : World) : Calls Tryz.prog 97 #[.string s, .string { data := #[45] }] w fun e w' => (∃ r : ByteArray, e = .returned (.string r) ∧ bI r = unsgn (bI s)) ∧ w' = w := by
  refine (Any.strings_TrimPrefix tpL s ⟨#[45]⟩ w).mono ?_
  rintro e w' ⟨rfl, hb⟩
  exact ⟨⟨_, rfl, by rw [bI_arr]; exact trim_min s.data.toList⟩, hb⟩
theorem pre_any (s p : ByteArray) (w : World) : Calls Tryz.prog 36 #[.string s, .string p] w fun e w' => e = .returned (.bool (decide (bI p <+: bI s))) ∧ w' = w := by
  have := hp_any s p w
  rw [pre_u] at this
  exact this
theorem ib_any (s : ByteArray) (c : Int) (w : World) (h0 : 0 ≤ c) (h1 : c < 256) : Calls Tryz.prog 96 #[.string s, .int .u8 c] w fun e w' => (∃ r : Int, e = .returned (.int .i64 r) ∧ (r < 0 ↔ c ∉ bI s)) ∧ w' = w := by
  refine (Any.strings_IndexByte ibL s c w).mono ?_
  rintro e w' ⟨rfl, hb⟩
  exact ⟨⟨_, rfl, (idx_u s.data.toList c h0 h1).1⟩, hb⟩
theorem past_any (s : ByteArray) (p : Nat) (w : World) (hp : p ≤ s.size) (hs : s.size ≤ 10000) : Calls Tryz.prog 34 #[.string s, .int .i64 p] w fun e w' => e = .returned (.int .i64 ((p + blankN ((bI s).drop p) : Nat) : Int)) ∧ Below w.heap.size w w' := by
  have HT := Lib.hid (fun W => tl_blank (s.extract p s.size) W)
  have hbe : bI (s.extract p s.size) = (bI s).drop p := by
    rw [bI_extract _ _ _ hp, List.take_of_length_le (by rw [List.length_drop, bI_len]; exact Nat.le_refl _)]
  have hsz : (s.extract p s.size).size = s.size - p := by rw [ByteArray.size_extract]; omega
  rw [hbe, hsz] at HT
  have n1 : (p : Int) ≤ (s.size : Int) := by omega
  clear hbe hsz
  go_enter Tryz.func34, Tryz.ntmps34
  go_wp2_with fail
  refine (HT.out _).mono ?_
  rintro e w1 ⟨⟨r, rfl, hr⟩, hb⟩
  have hw : IntKind.i64.wrap ((s.size : Int) - (r.size : Int)) = ((p + blankN ((bI s).drop p) : Nat) : Int) := by rw [IntKind.wrap_i64] <;> omega
  clear hr
  go_wp2_with fail
  go_ret
  exact ⟨rfl, hb⟩
theorem bI_sl (s : ByteArray) (p : Nat) (hp : p ≤ s.size) : bI (s.extract p s.size) = (bI s).drop p := by
  rw [bI_extract _ _ _ hp, List.take_of_length_le (by rw [List.length_drop, bI_len]; exact Nat.le_refl _)]
theorem sl_size (s : ByteArray) (p : Nat) (hp : p ≤ s.size) : (s.extract p s.size).size = s.size - p := by rw [ByteArray.size_extract]; omega
theorem ret_tn {a b : Int} {c d : Int} (h : a = b) (g : c = d) : Ending.returned (.tuple #[.int .i64 a, .int .i64 c]) = .returned (.tuple #[.int .i64 b, .int .i64 d]) := by rw [h, g]
theorem word_any (s word : ByteArray) (p : Nat) (w : World) (hp : p ≤ s.size) (hs : s.size ≤ 10000) (hw : word.size ≤ 100) : Calls Tryz.prog 58 #[.string s, .int .i64 p, .string word] w fun e w' => e = .returned (.tuple #[.int .i64 ((p + (wordG (bI word) ((bI s).drop p) 0).1 : Nat) : Int), .int .i64 (wordG (bI word) ((bI s).drop p) 0).2]) ∧ Below w.heap.size w w' := by
  have H1 := Lib.hid (fun W => pre_any (s.extract p s.size) word W)
  have H2 := Lib.hid (fun W => pre_any word (s.extract p s.size) W)
  rw [bI_sl s p hp] at H1 H2
  have HG := Lib.hid (word_pre (bI word) ((bI s).drop p) 0)
  have n1 : (p : Int) ≤ (s.size : Int) := by omega
  have hl : ((bI s).drop p).length = s.size - p := by rw [List.length_drop, bI_len]
  have hwl := bI_len word
  by_cases c1 : bI word <+: (bI s).drop p
  · rw [decide_eq_true c1] at H1
    have HR : Hid (wordG (bI word) ((bI s).drop p) 0 = (word.size, 0)) := Lib.hid (by rw [HG.out, if_pos c1, hwl]; simp)
    rw [HR.out]
    have hw2 : IntKind.i64.wrap ((p : Int) + (word.size : Int)) = ((p + word.size : Nat) : Int) := by rw [IntKind.wrap_i64] <;> omega
    clear HG HR hl hwl c1 H2
    go_enter Tryz.func58, Tryz.ntmps58
    go_wp2_with fail
    refine (H1.out _).mono ?_
    rintro e w1 ⟨rfl, rfl⟩
    go_wp2_with fail
    refine bodyPost_ret (v := .tuple #[.int .i64 ((p + word.size : Nat) : Int), .int .i64 0]) (by simp [results, Tryz.results58, go_sem]) rfl ⟨rfl, by go_grown⟩
  rw [decide_eq_false c1] at H1
  by_cases c2 : (bI s).drop p <+: bI word
  · rw [decide_eq_true c2] at H2
    have HR : Hid (wordG (bI word) ((bI s).drop p) 0 = (s.size - p, 3)) := Lib.hid (by rw [HG.out, if_neg c1, if_pos c2, hl]; simp)
    rw [HR.out]
    have hps : ((p + (s.size - p) : Nat) : Int) = (s.size : Int) := by omega
    clear HG HR hl hwl c1 c2
    go_enter Tryz.func58, Tryz.ntmps58
    go_wp2_with fail
    refine (H1.out _).mono ?_
    rintro e w1 ⟨rfl, rfl⟩
    go_wp2_with fail
    refine (H2.out _).mono ?_
    rintro e w1 ⟨rfl, rfl⟩
    go_wp2_with fail
    refine bodyPost_ret (v := .tuple #[.int .i64 (s.size : Int), .int .i64 3]) (by simp [results, Tryz.results58, go_sem]) rfl ⟨ret_tn hps.symm rfl, by go_grown⟩
  · rw [decide_eq_false c2] at H2
    have HR : Hid (wordG (bI word) ((bI s).drop p) 0 = (0, 4)) := Lib.hid (by rw [HG.out, if_neg c1, if_neg c2])
    rw [HR.out]
    clear HG HR hl hwl c1 c2
    go_enter Tryz.func58, Tryz.ntmps58
    go_wp2_with fail
    refine (H1.out _).mono ?_
    rintro e w1 ⟨rfl, rfl⟩
    go_wp2_with fail
    refine (H2.out _).mono ?_
    rintro e w1 ⟨rfl, rfl⟩
    go_wp2_with fail
    refine bodyPost_ret (v := .tuple #[.int .i64 (p : Int), .int .i64 4]) (by simp [results, Tryz.results58, go_sem]) rfl ⟨rfl, by go_grown⟩
/-! ### Whole numbers -/
theorem s_eq (s : ByteArray) (l : List UInt8) : ((s.toList == (⟨l.toArray⟩ : ByteArray).toList) = true) ↔ bI s = uI l := by
  constructor
  · intro h
    by_cases e : s = ⟨l.toArray⟩
    · rw [e, bI_arr]
    · rw [str_no e] at h; cases h
  · intro h
    exact str_yes (bI_inj (h.trans (bI_arr l).symm))
theorem emp_eq (l : List UInt8) : l.isEmpty = (l == []) := by cases l <;> rfl
theorem whole_any (s : ByteArray) (w : World) (hs : s.size ≤ 10000) : Calls Tryz.prog 81 #[.string s] w fun e w' => e = .returned (.bool (decide (¬ badD (bI s)))) ∧ Below w.heap.size w w' := by
  have HM := Lib.hid (fun W => tp_min s W)
  obtain ⟨Q, hQ⟩ : ∃ Q, Q = decide (¬ badD (bI s)) := ⟨_, rfl⟩
  rw [← hQ]
  have HQ := Lib.hid hQ
  clear hQ
  have e48 : ({ data := #[48] } : ByteArray).toList = [48] := by decide +kernel
  have e00 : ({ data := #[] } : ByteArray).toList = [] := by decide +kernel
  go_enter Tryz.func81, Tryz.ntmps81
  go_wp2_with fail
  refine (HM.out _).mono ?_
  rintro e w1 ⟨⟨r, rfl, hr⟩, rfl⟩
  have hrl : (unsgn (bI s)).length ≤ s.size := by
    rw [← bI_len s]
    cases bI s with
    | nil => simp [unsgn]
    | cons b t => rw [unsgn]; split <;> simp
  have hrs : r.size ≤ 10000 := by rw [← bI_len, hr]; omega
  have H0 := Lib.hid (fun W => pre_any r { data := #[48] } W)
  have HD := Lib.hid (fun W => tr_dig r W (by omega))
  have h48 : bI { data := #[48] } = [48] := rfl
  rw [h48] at H0
  rw [hr] at H0 HD
  by_cases c0 : [48] <+: unsgn (bI s)
  · rw [decide_eq_true c0] at H0
    have hq : (s.toList == [48]) = Q := by
      rw [HQ.out, ← e48, Bool.eq_iff_iff, decide_eq_true_iff]
      have := s_eq s [48]
      refine this.trans ?_
      show bI s = [48] ↔ _
      obtain ⟨t, ht⟩ := c0
      unfold badD
      rw [← ht]
      constructor
      · intro e
        rw [e] at ht ⊢
        have : t = [] := by simpa [unsgn] using ht
        subst this
        simp [isNeg, isD]
      · intro e
        have h1 : ¬ (1 < ([48] ++ t).length ∨ isNeg (bI s) = true) := fun x => e (.inr (.inl ⟨rfl, x⟩))
        have ht0 : t = [] := List.eq_nil_of_length_eq_zero (by simp at h1; have := h1.1; rw [this]; rfl)
        subst ht0
        have hn : isNeg (bI s) = false := by simpa using fun x => h1 (.inr x)
        cases hb : bI s with
        | nil => rw [hb] at ht; simp [unsgn] at ht
        | cons b u =>
          rw [hb] at ht hn
          have hb45 : b ≠ 45 := by intro x; rw [x] at hn; simp [isNeg] at hn
          rw [unsgn, if_neg hb45] at ht
          simpa using ht.symm
    have HQ := Lib.hid hq
    clear hq c0 hr hrl hrs
    go_wp2_with fail
    refine (H0.out _).mono ?_
    rintro e w2 ⟨rfl, rfl⟩
    go_wp2_with fail
    go_ret
    exact ⟨by rw [← HQ.out]; rfl, by go_grown⟩
  · rw [decide_eq_false c0] at H0
    have hnil : (r.toList == ({ data := #[] } : ByteArray).toList) = decide (unsgn (bI s) = []) := by
      rw [Bool.eq_iff_iff, decide_eq_true_iff, s_eq r []]
      show bI r = [] ↔ _
      rw [hr]
    have hbad : badD (bI s) ↔ (unsgn (bI s) = [] ∨ ¬ (unsgn (bI s)).all isD = true) := by
      unfold badD
      constructor
      · rintro (h | h | h)
        · exact .inl h
        · exfalso
          apply c0
          cases hu : unsgn (bI s) with
          | nil => rw [hu] at h; simp at h
          | cons b t => rw [hu] at h; simp at h; rw [h.1]; exact ⟨t, rfl⟩
        · exact .inr h
      · rintro (h | h)
        · exact .inl h
        · exact .inr (.inr h)
    by_cases c1 : unsgn (bI s) = []
    · rw [decide_eq_true c1] at hnil
      have hR : Q = false := by rw [HQ.out, decide_eq_false_iff_not]; exact fun h => h (hbad.2 (.inl c1))
      subst hR
      have hne : r.toList.isEmpty = true := by rw [emp_eq, ← e00, hnil]
      clear hbad c0 c1 hr hrl hrs
      go_wp2_with fail
      refine (H0.out _).mono ?_
      rintro e w2 ⟨rfl, rfl⟩
      go_wp2_with fail
      go_ret
      exact ⟨rfl, by go_grown⟩
    · rw [decide_eq_false c1] at hnil
      have hne : r.toList.isEmpty = false := by rw [emp_eq, ← e00, hnil]
      have hR : Q = decide ((unsgn (bI s)).all isD = true) := by
        rw [HQ.out, Bool.eq_iff_iff, decide_eq_true_iff, decide_eq_true_iff, hbad]
        constructor
        · intro h; exact Decidable.byContradiction fun x => h (.inr x)
        · rintro h (x | x)
          · exact c1 x
          · exact x h
      have HRQ := Lib.hid hR
      clear hR
      clear hbad c0 c1 hr hrl hrs
      go_wp2_with fail
      refine (H0.out _).mono ?_
      rintro e w2 ⟨rfl, rfl⟩
      go_wp2_with fail
      refine (HD.out _).mono ?_
      rintro e w3 ⟨⟨u, rfl, hu⟩, hb⟩
      have hq : u.toList.isEmpty = Q := by
        rw [HRQ.out, emp_eq, ← e00]
        by_cases e : u = { data := #[] }
        · rw [str_yes e]; rw [decide_eq_true (hu.1 e)]
        · rw [str_no e]; rw [decide_eq_false (fun x => e (hu.2 x))]
      clear hu
      go_wp2_with fail
      go_ret
      exact ⟨rfl, hb⟩
theorem span_zero (l : List Int) (h : isN (head0 l) = false) : spanN l = 0 := by
  cases l with
  | nil => rfl
  | cons b t => rw [spanN]; unfold head0 at h; simp at h; rw [h]; rfl
theorem span_le : ∀ l : List Int, spanN l ≤ l.length
  | [] => Nat.le_refl _
  | b :: t => by rw [spanN]; split <;> simp; exact span_le t
def NumE (R : Js × Nat × Int) (p : Nat) (w : World) (e : Ending) (w' : World) : Prop :=
  ∃ x, e = .returned (.tuple #[x, .int .i64 ((p + R.2.1 : Nat) : Int), .int .i64 R.2.2]) ∧ (∀ S W, AnyAt S W R.1 x) ∧ Below w.heap.size w w'
theorem ato_any (s : ByteArray) (w : World) (hs : s.size ≤ 10000) (hbad : ¬ badD (bI s)) (hq : QTab w) : Calls Tryz.prog 82 #[.string s] w fun e w' => (∃ v err, e = .returned (.tuple #[.int .i64 v, err]) ∧ (err = .nilIface ∧ v = (if isNeg (bI s) then - valD (unsgn (bI s)) else valD (unsgn (bI s))) ∨ (∃ t y, err = .iface t y) ∧ maxI < valD (unsgn (bI s)))) ∧ Below w.heap.size w w' := by
  rcases ato_dig s.data.toList hbad with ⟨v, h1, h2⟩ | ⟨h1, h2⟩
  · refine (Any.strconv_Atoi_ok atoL s (by omega) v h1 w).mono ?_
    rintro e w' ⟨rfl, hw⟩
    refine ⟨⟨v, _, rfl, .inl ⟨rfl, h2⟩⟩, ?_⟩
    rcases hw with rfl | ⟨t, rfl⟩
    · exact Below.refl _ _
    · exact Joins.below_bytesWorld _ _ _ _ (Nat.le_refl _)
  · obtain ⟨_, ev, hev, hevf⟩ := hq
    refine (Any.strconv_Atoi_range atoL s (by omega) h1 ev w hev hevf).mono ?_
    rintro e w' ⟨N, rfl, _, _, hb⟩
    exact ⟨⟨_, _, rfl, .inr ⟨⟨_, _, rfl⟩, h2⟩⟩, hb⟩
theorem val_nn (l : List Int) (h : ¬ badD l) : 0 ≤ valD (unsgn l) := by
  refine fold_ge (unsgn l) 0 0 (fun c hc => ?_) (Int.le_refl _) (Int.le_refl _)
  have h3 : (unsgn l).all isD = true := Decidable.byContradiction fun e => h (.inr (.inr e))
  have := List.all_eq_true.1 h3 c hc
  unfold isD at this
  simp only [Bool.and_eq_true, decide_eq_true_eq] at this
  exact this.1
theorem number_any (s : ByteArray) (p : Nat) (w : World) (hp : p ≤ s.size) (hs : s.size ≤ 10000) (hq : QTab w) : Calls Tryz.prog 62 #[.string s, .int .i64 p] w (NumE (numP ((bI s).drop p)) p w) := by
  obtain ⟨n, hn⟩ : ∃ n, spanN ((bI s).drop p) = n := ⟨_, rfl⟩
  have hnl := span_le ((bI s).drop p)
  rw [hn, List.length_drop, bI_len] at hnl
  have H1 := Lib.hid (fun W => tl_numer (s.extract p s.size) W)
  rw [bI_sl s p hp, hn, sl_size s p hp] at H1
  have HW := Lib.hid (fun W => whole_any (s.extract p (p + n)) W (by rw [ByteArray.size_extract]; omega))
  have HA := Lib.hid (fun W => ato_any (s.extract p (p + n)) W (by rw [ByteArray.size_extract]; omega))
  have hbe : bI (s.extract p (p + n)) = ((bI s).drop p).take n := by rw [bI_extract _ _ _ (by omega), show p + n - p = n by omega]
  rw [hbe] at HW HA
  obtain ⟨T, hT⟩ : ∃ T, ((bI s).drop p).take n = T := ⟨_, rfl⟩
  have hR : numP ((bI s).drop p) = if badD T then (.nul, 0, 4) else if maxI < valD (unsgn T) then (.nul, 0, 11)
      else (.num (if isNeg T then - valD (unsgn T) else valD (unsgn T)), n, 0) := by
    rw [numP, hn, hT]
  rw [hT] at HW HA
  have n1 : (p : Int) ≤ (s.size : Int) := by omega
  have n2 : ((p + n : Nat) : Int) ≤ (s.size : Int) := by omega
  have n3 : (p : Int) ≤ ((p + n : Nat) : Int) := by omega
  have HQ := Lib.hid hq
  unfold NumE
  clear hn hbe hT hq
  by_cases hb0 : badD T
  · rw [if_pos hb0] at hR
    rw [hR]
    rw [decide_eq_false (fun h => h hb0)] at HW
    clear hb0 hR HA
    go_enter Tryz.func62, Tryz.ntmps62
    go_wp2_with fail
    refine (H1.out _).mono ?_
    rintro e w1 ⟨⟨r, rfl, hr⟩, hb1⟩
    have hw : IntKind.i64.wrap ((s.size : Int) - (r.size : Int)) = ((p + n : Nat) : Int) := by rw [IntKind.wrap_i64] <;> omega
    clear hr
    go_wp2_with fail
    refine (HW.out _).mono ?_
    rintro e w2 ⟨rfl, hb2⟩
    go_wp2_with fail
    refine bodyPost_ret (v := .tuple #[.nilIface, .int .i64 p, .int .i64 4]) (by simp [results, Tryz.results62, go_sem]) rfl ⟨.nilIface, rfl, fun S W => by rw [AnyAt], hb1.trans (hb2.mono hb1.size)⟩
  · rw [if_neg hb0] at hR
    rw [decide_eq_true hb0] at HW
    have hvn := val_nn T hb0
    have HA := Lib.hid (fun W => HA.out W hb0)
    have hwall : ∀ R : Js × Nat × Int, numP ((bI s).drop p) = R → (∀ w2 : World, Below w.heap.size w w2 → QTab w2) := fun _ _ w2 hb => HQ.out.below hb
    clear hwall hb0
    obtain ⟨R, hRR⟩ : ∃ R, numP ((bI s).drop p) = R := ⟨_, rfl⟩
    rw [hRR] at hR ⊢
    have HRR := Lib.hid hR
    clear hRR hR
    go_enter Tryz.func62, Tryz.ntmps62
    go_wp2_with fail
    refine (H1.out _).mono ?_
    rintro e w1 ⟨⟨r, rfl, hr⟩, hb1⟩
    have hw : IntKind.i64.wrap ((s.size : Int) - (r.size : Int)) = ((p + n : Nat) : Int) := by rw [IntKind.wrap_i64] <;> omega
    clear hr
    go_wp2_with fail
    refine (HW.out _).mono ?_
    rintro e w2 ⟨rfl, hb2⟩
    have HB2 := Lib.hid (hb1.trans (hb2.mono hb1.size))
    clear hb1 hb2
    go_wp2_with fail
    refine (HA.out _ (HQ.out.below HB2.out)).mono ?_
    rintro e w3 ⟨⟨v, err, rfl, hv⟩, hb3⟩
    have HB3 := Lib.hid (HB2.out.trans (hb3.mono HB2.out.size))
    clear hb3
    have HC := Lib.hid (fun W => pcheck_any aB (.num v) (.iface 3 (.int .i64 v)) W (by rw [AnyAt]))
    rcases hv with ⟨rfl, hv⟩ | ⟨⟨t, y, rfl⟩, hv⟩
    · by_cases hov : maxI < valD (unsgn T)
      · have hck : chkV 1 (.num v) = 11 := by
          rw [chkV, if_pos]
          rw [hv]
          split <;> omega
        rw [hck] at HC
        have hR : R = (.nul, 0, 11) := by rw [HRR.out, if_pos hov]
        subst hR
        clear hck hv hov
        go_wp2_with fail
        refine (HC.out _).mono ?_
        rintro e w4 ⟨rfl, hb4⟩
        go_wp2_with fail
        refine bodyPost_ret (v := .tuple #[.nilIface, .int .i64 p, .int .i64 11]) (by simp [results, Tryz.results62, go_sem]) rfl ⟨.nilIface, rfl, fun S W => by rw [AnyAt], HB3.out.trans (hb4.mono HB3.out.size)⟩
      · have hck : chkV 1 (.num v) = 0 := by
          rw [chkV, if_neg]
          rw [hv]
          split <;> omega
        rw [hck] at HC
        have hR : R = (.num v, n, 0) := by rw [HRR.out, if_neg hov, hv]
        subst hR
        clear hck hv hov
        go_wp2_with fail
        refine (HC.out _).mono ?_
        rintro e w4 ⟨rfl, hb4⟩
        go_wp2_with fail
        refine bodyPost_ret (v := .tuple #[.iface 3 (.int .i64 v), .int .i64 ((p + n : Nat) : Int), .int .i64 0]) (by simp [results, Tryz.results62, go_sem]) rfl ⟨_, rfl, fun S W => by rw [AnyAt], HB3.out.trans (hb4.mono HB3.out.size)⟩
    · have hR : R = (.nul, 0, 11) := by rw [HRR.out, if_pos hv]
      subst hR
      clear hv
      go_wp2_with fail
      refine bodyPost_ret (v := .tuple #[.nilIface, .int .i64 p, .int .i64 11]) (by simp [results, Tryz.results62, go_sem]) rfl ⟨.nilIface, rfl, fun S W => by rw [AnyAt], HB3.out⟩
end Go.Proofs.YtbkceneakdbdkaaGreatDoor
/- The program's takeSign. -/
namespace Go.Proofs.YtbkceneakdbdkaaGreatDoor
open Go.RowKit
set_option maxRecDepth 20000
set_option linter.unusedVariables false
set_option linter.unusedSimpArgs false
set_option maxHeartbeats 2000000
/-- One of some signs, and the blanks around it. -/
def signP (sg l : List Int) : Int × Nat × Int := match l.drop (blankN l) with
  | [] => (0, blankN l, 3)
  | b :: t => if b ∈ sg then (b, blankN l + 1 + blankN t, 0) else (0, blankN l, 4)
theorem blank_le : ∀ l : List Int, blankN l ≤ l.length
  | [] => Nat.le_refl _
  | b :: t => by rw [blankN]; split <;> simp; exact blank_le t
def SignE (R : Int × Nat × Int) (p : Nat) (w : World) (e : Ending) (w' : World) : Prop :=
  e = .returned (.tuple #[.int .u8 R.1, .int .i64 ((p + R.2.1 : Nat) : Int), .int .i64 R.2.2]) ∧ Below w.heap.size w w'
theorem sign_any (s sg : ByteArray) (p : Nat) (w : World) (hp : p ≤ s.size) (hs : s.size ≤ 10000) : Calls Tryz.prog 80 #[.string s, .int .i64 p, .string sg] w (SignE (signP (bI sg) ((bI s).drop p)) p w) := by
  have HP := Lib.hid (fun W => past_any s p W hp hs)
  obtain ⟨m, hm⟩ : ∃ m, blankN ((bI s).drop p) = m := ⟨_, rfl⟩
  have hml := blank_le ((bI s).drop p)
  rw [hm, List.length_drop, bI_len] at hml
  rw [hm] at HP
  obtain ⟨q, hq⟩ : ∃ q, p + m = q := ⟨_, rfl⟩
  have hR : signP (bI sg) ((bI s).drop p) = match (bI s).drop q with
      | [] => (0, m, 3)
      | b :: t => if b ∈ bI sg then (b, m + 1 + blankN t, 0) else (0, m, 4) := by
    unfold signP
    rw [hm, List.drop_drop, hq]
  rw [hq] at HP
  have hl := bI_len s
  obtain ⟨R, hRR⟩ : ∃ R, signP (bI sg) ((bI s).drop p) = R := ⟨_, rfl⟩
  rw [hRR] at hR ⊢
  unfold SignE
  clear hm hRR
  have HMQ := Lib.hid hq
  by_cases he : q = s.size
  · have hR : R = (0, m, 3) := by rw [hR, List.drop_of_length_le (by omega)]
    subst hR
    have q2 : ((q : Int) == (s.size : Int)) = true := by simpa using (show (q : Int) = s.size by omega)
    clear hl hml hq he
    go_enter Tryz.func80, Tryz.ntmps80
    go_wp2_with fail
    refine (HP.out _).mono ?_
    rintro e w1 ⟨rfl, hb1⟩
    go_wp2_with fail
    refine bodyPost_ret (v := .tuple #[.int .u8 0, .int .i64 (q : Int), .int .i64 3]) (by simp [results, Tryz.results80, go_sem]) rfl ⟨by rw [← HMQ.out], hb1⟩
  have hlt : q < s.size := by omega
  have q2 : ((q : Int) == (s.size : Int)) = false := by rw [beq_eq_false_iff_ne]; omega
  have q3 : (q : Int) < (s.size : Int) := by omega
  have hsp := at_split s q hlt
  have hbl := (s[q]'hlt).toNat_lt
  obtain ⟨b, hbv⟩ : ∃ b : Int, ((s[q]'hlt).toNat : Int) = b := ⟨_, rfl⟩
  rw [hbv] at hsp
  rw [hsp] at hR
  have HI := Lib.hid (fun W => ib_any sg b W (by omega) (by omega))
  have HP2 := Lib.hid (fun W => past_any s (q + 1) W (by omega) hs)
  obtain ⟨z, hz⟩ : ∃ z, q + 1 + blankN ((bI s).drop (q + 1)) = z := ⟨_, rfl⟩
  rw [hz] at HP2
  obtain ⟨y, hy⟩ : ∃ y, q + 1 = y := ⟨_, rfl⟩
  have hw1 : IntKind.i64.wrap ((q : Int) + 1) = (y : Int) := by rw [IntKind.wrap_i64] <;> omega
  rw [hy] at HP2
  by_cases hin : b ∈ bI sg
  · have hR : R = (b, m + 1 + blankN ((bI s).drop (q + 1)), 0) := by rw [hR]; simp only [if_pos hin]
    subst hR
    have HZ := Lib.hid (show p + (m + 1 + blankN ((bI s).drop (q + 1))) = z by omega)
    clear hl hsp hz hq hy hml
    go_enter Tryz.func80, Tryz.ntmps80
    go_wp2_with fail
    refine (HP.out _).mono ?_
    rintro e w1 ⟨rfl, hb1⟩
    have HB1 := Lib.hid hb1
    clear hb1
    go_wp2_with fail
    refine (HI.out _).mono ?_
    rintro e w2 ⟨⟨r, rfl, hr⟩, rfl⟩
    have hr0 : ¬ r < 0 := fun x => hr.1 x hin
    have HB2 := HB1
    clear hr
    go_upto_region 6 with fail
    refine wp_region_held_drew (S := fun w' => Below w.heap.size w w') (by kernel_rfl) (HB2.out.drew) (fun hH0 => ?_)
    refine takeH (i := 0) (d := 24) (v := ?_) rfl rfl (by kernel_rfl) (by kernel_rfl) (by kernel_rfl) (fun _ _ _ h => h) (Or.inl ⟨by rfl, ?y0⟩) hH0 ?_
    case y0 => intro w hSw; go_simp; try with_reducible rfl
    try simp only [Act.put, List.setIfInBounds_toArray, List.set_cons_zero, List.set_cons_succ]
    refine takeH (i := 1) (d := 25) (v := ?_) rfl rfl (by kernel_rfl) (by kernel_rfl) (by kernel_rfl) (fun _ _ _ h => h) (Or.inl ⟨by rfl, ?y1⟩) hH0 ?_
    case y1 => intro w hSw; go_simp; try with_reducible rfl
    try simp only [Act.put, List.setIfInBounds_toArray, List.set_cons_zero, List.set_cons_succ]
    refine takeH (i := 2) (d := 26) (v := ?_) rfl rfl (by kernel_rfl) (by kernel_rfl) (by kernel_rfl) (fun _ _ _ h => h) (Or.inl ⟨by rfl, ?y2⟩) hH0 ?_
    case y2 => intro w hSw; go_simp; try with_reducible rfl
    try simp only [Act.put, List.setIfInBounds_toArray, List.set_cons_zero, List.set_cons_succ]
    refine takeH (i := 3) (d := 27) (v := ?_) rfl rfl (by kernel_rfl) (by kernel_rfl) (by kernel_rfl) (fun _ _ _ h => h) (Or.inl ⟨by rfl, ?y3⟩) hH0 ?_
    case y3 => intro w hSw; go_simp; try with_reducible rfl
    try simp only [Act.put, List.setIfInBounds_toArray, List.set_cons_zero, List.set_cons_succ]
    refine takeH (i := 4) (d := 28) (v := ?_) rfl rfl (by kernel_rfl) (by kernel_rfl) (by kernel_rfl) (fun _ _ _ h => h) (Or.inl ⟨by rfl, ?y4⟩) hH0 ?_
    case y4 => intro w hSw; go_simp; try with_reducible rfl
    try simp only [Act.put, List.setIfInBounds_toArray, List.set_cons_zero, List.set_cons_succ]
    refine takeH (i := 5) (d := 29) (v := ?_) rfl rfl (by kernel_rfl) (by kernel_rfl) (by kernel_rfl) (fun _ _ _ h => h) (Or.inl ⟨by rfl, ?y5⟩) hH0 ?_
    case y5 => intro w hSw; go_simp; try with_reducible rfl
    try simp only [Act.put, List.setIfInBounds_toArray, List.set_cons_zero, List.set_cons_succ]
    refine wpAnyH_ready (rs := [6]) (by kernel_rfl) (by simp) ?_
    refine AllReadyH.cons rfl (fun K hK => ?_) AllReadyH.nil
    go_simp
    refine (HP2.out _).mono ?_
    rintro e w' ⟨rfl, hb⟩
    go_wp2_with fail
    refine hK.out _ _ (hH0.trans (hb.mono hH0.size)) (fun hH1 => ?_)
    clear hK K hb hH0
    try simp only [Act.put, List.setIfInBounds_toArray, List.set_cons_zero, List.set_cons_succ]
    refine takeH (i := 7) (d := 6) (v := ?_) rfl rfl (by kernel_rfl) (by kernel_rfl) (by kernel_rfl) (fun _ _ _ h => h) (Or.inl ⟨by rfl, ?y7⟩) hH1 ?_
    case y7 => intro w hSw; go_simp; try with_reducible rfl
    try simp only [Act.put, List.setIfInBounds_toArray, List.set_cons_zero, List.set_cons_succ]
    refine takeH (i := 8) (d := 7) (v := ?_) rfl rfl (by kernel_rfl) (by kernel_rfl) (by kernel_rfl) (fun _ _ _ h => h) (Or.inl ⟨by rfl, ?y8⟩) hH1 ?_
    case y8 => intro w hSw; go_simp; try with_reducible rfl
    try simp only [Act.put, List.setIfInBounds_toArray, List.set_cons_zero, List.set_cons_succ]
    refine takeH (i := 9) (d := 8) (v := ?_) rfl rfl (by kernel_rfl) (by kernel_rfl) (by kernel_rfl) (fun _ _ _ h => h) (Or.inl ⟨by rfl, ?y9⟩) hH1 ?_
    case y9 => intro w hSw; go_simp; try with_reducible rfl
    try simp only [Act.put, List.setIfInBounds_toArray, List.set_cons_zero, List.set_cons_succ]
    refine wpAnyH_done (by kernel_rfl) ?_ _
    go_wp2_with fail
    refine bodyPost_ret (v := .tuple #[.int .u8 b, .int .i64 (z : Int), .int .i64 0]) (by simp [results, Tryz.results80, go_sem]) rfl ⟨by rw [HZ.out], hH1⟩
  · have hR : R = (0, m, 4) := by rw [hR]; simp only [if_neg hin]
    subst hR
    clear hl hsp hz hq hy hml
    go_enter Tryz.func80, Tryz.ntmps80
    go_wp2_with fail
    refine (HP.out _).mono ?_
    rintro e w1 ⟨rfl, hb1⟩
    go_wp2_with fail
    refine (HI.out _).mono ?_
    rintro e w2 ⟨⟨r, rfl, hr⟩, rfl⟩
    have hr0 : r < 0 := hr.2 hin
    clear hr
    go_wp2_with fail
    refine bodyPost_ret (v := .tuple #[.int .u8 0, .int .i64 (q : Int), .int .i64 4]) (by simp [results, Tryz.results80, go_sem]) rfl ⟨by rw [← HMQ.out], hb1⟩
end Go.Proofs.YtbkceneakdbdkaaGreatDoor
/- Rows of a call's own that grow: of values, of pairs. What stands in a box beside. -/
namespace Go.Proofs.YtbkceneakdbdkaaGreatDoor
open Go.RowKit
set_option maxRecDepth 20000
set_option linter.unusedVariables false
set_option linter.unusedSimpArgs false
abbrev Its := List (List Int × Js)
def japp : Its → Jl → Jl
  | [], l => l
  | (n, v) :: t, l => .cons n v (japp t l)
theorem japp_more : ∀ (vs : Its) (n : List Int) (v : Js) (l : Jl), japp (vs ++ [(n, v)]) l = japp vs (.cons n v l)
  | [], n, v, l => rfl
  | (m, u) :: t, n, v, l => by rw [List.cons_append, japp, japp_more t n v l, japp]
theorem japp_at : ∀ (vs : Its) (j : Nat) (n : List Int) (v : Js), (japp vs .nil).at? j = some (n, v) → vs[j]? = some (n, v)
  | [], j, n, v, h => by cases h
  | (m, u) :: t, 0, n, v, h => by simpa [japp, Jl.at?] using h
  | (m, u) :: t, j + 1, n, v, h => by simpa using japp_at t j n v h
theorem japp_len : ∀ vs : Its, (japp vs .nil).length = vs.length
  | [] => rfl
  | (m, u) :: t => by rw [japp, Jl.length, japp_len t]; rfl
theorem japp_names : ∀ vs : Its, (japp vs .nil).names = vs.map (·.1)
  | [] => rfl
  | (m, u) :: t => by rw [japp, Jl.names, japp_names t]; rfl
def szI (pr : Bool) : Nat := if pr then 2 else 1
def tyI (pr : Bool) : TypeId := if pr then 56 else 20
def slI (pr : Bool) : TypeId := if pr then 58 else 57
/-- The cells of an item. -/
def ItemOk (pr : Bool) (S : Nat → Prop) (w : World) (p : List Int × Js) (cs : List Value) : Prop :=
  ∃ x, AnyAt S w p.2 x ∧ if pr = true then ∃ t : ByteArray, cs = [.string t, x] ∧ bI t = p.1 ∧ p.1.length ≤ 5000 else cs = [x]
theorem ItemOk.len {pr : Bool} {S : Nat → Prop} {w : World} {p : List Int × Js} {cs : List Value} (h : ItemOk pr S w p cs) : cs.length = szI pr := by
  obtain ⟨x, _, h⟩ := h
  cases pr
  · simp at h; rw [h]; rfl
  · simp at h; obtain ⟨t, rfl, _⟩ := h; rfl
theorem ItemOk.one {pr : Bool} {S : Nat → Prop} {w : World} {p : List Int × Js} {cs : List Value} (h : ItemOk pr S w p cs) : ∀ u ∈ cs, u.oneCell' = true := by
  obtain ⟨x, hx, h⟩ := h
  have := any_one hx
  cases pr
  · simp at h; subst h; intro u hu; obtain rfl : u = x := by simpa using hu
    exact this
  · simp at h; obtain ⟨t, rfl, _⟩ := h; intro u hu
    rcases (by simpa using hu : u = .string t ∨ u = x) with rfl | rfl
    · rfl
    · exact this
theorem ItemOk.keep {pr : Bool} {S S' : Nat → Prop} {w w' : World} {p : List Int × Js} {cs : List Value} (hS : ∀ b, S b → b < w.heap.size → S' b) (hs : w.heap.size ≤ w'.heap.size) (hk : ∀ b, S b → b < w.heap.size → w'.heap[b]? = w.heap[b]?) (h : ItemOk pr S w p cs) : ItemOk pr S' w' p cs := by
  obtain ⟨x, hx, h⟩ := h
  exact ⟨x, AnyAt.keep hS hs hk _ _ hx, h⟩
/-- A row of the call's own, of so many items; what they lead to lies in X, and not in the row. -/
def GrowG (pr : Bool) (B : Nat) (X : Nat → Prop) (vs : Its) (l : Value) (w : World) : Prop :=
  ∃ xs : List Value, w.ownsRow B (tyI pr) (szI pr) l vs.length xs ∧ ∀ j p, vs[j]? = some p → ItemOk pr (fun b => X b ∧ l.ownBlock ≠ some b) w p ((xs.drop (j * szI pr)).take (szI pr))
theorem grow_nil (pr : Bool) (B : Nat) (X : Nat → Prop) (w : World) : GrowG pr B X [] (.slice none 0 0) w := ⟨[], World.ownsRow_nil _ _ _ _, fun j p h => by simp at h⟩
theorem grow_lt {pr : Bool} {B : Nat} {X : Nat → Prop} {vs : Its} {l : Value} {w : World} (h : GrowG pr B X vs l w) : ∀ b, l.ownBlock = some b → B ≤ b ∧ b < w.heap.size := by
  obtain ⟨xs, h1, _⟩ := h
  exact World.ownsRow.lt h1
/-- It stays, where its row and what it leads to stay. -/
theorem grow_keep {pr : Bool} {B : Nat} {X : Nat → Prop} {vs : Its} {l : Value} {w w' : World} (h : GrowG pr B X vs l w) (hs : w.heap.size ≤ w'.heap.size) (hr : ∀ b, l.ownBlock = some b → w'.heap[b]? = w.heap[b]?) (hk : ∀ b, X b → l.ownBlock ≠ some b → b < w.heap.size → w'.heap[b]? = w.heap[b]?) : GrowG pr B X vs l w' := by
  obtain ⟨xs, h1, h2⟩ := h
  refine ⟨xs, ?_, fun j p hp => (h2 j p hp).keep (fun _ e _ => e) hs (fun b hb hlt => hk b hb.1 hb.2 hlt)⟩
  obtain ⟨g1, g2⟩ := h1
  refine ⟨g1, ?_⟩
  rcases g2 with g2 | ⟨g, cap, cur, hv, hg, hh, r⟩
  · exact .inl g2
  · refine .inr ⟨g, cap, cur, hv, hg, ?_, r⟩
    rw [hr g (by rw [hv]; rfl)]; exact hh
theorem grow_below {pr : Bool} {B : Nat} {X : Nat → Prop} {vs : Its} {l : Value} {w w' : World} (h : GrowG pr B X vs l w) (hb : Below w.heap.size w w') : GrowG pr B X vs l w' :=
  grow_keep h hb.size (fun b e => hb.block b (grow_lt h b e).2) (fun b _ _ hlt => hb.block b hlt)
/-- One more. -/
theorem grow_more {pr : Bool} {B : Nat} {X : Nat → Prop} {vs : Its} {l : Value} {w : World} {p : List Int × Js} {cs : List Value} (ty : TypeId) (h : GrowG pr B X vs l w) (hi : vs.length ≤ 1000000) (h0 : B ≤ w.heap.size)
    (hx : ItemOk pr (fun b => X b ∧ l.ownBlock ≠ some b) w p cs) : ∃ v' w', (Builtin.append_ #[slI pr, slI pr] ty #[l, .slice (some ⟨w.heap.size, 0, none⟩) 1 1]).run Tryz.prog (w.alloc (.cells cs.toArray (tyI pr))) = .ok v' w' ∧ GrowG pr B X (vs ++ [p]) v' w' ∧
      (w.alloc (.cells cs.toArray (tyI pr))).grownBy w' l.ownBlock ∧ (v'.ownBlock = l.ownBlock ∨ ∃ g, v'.ownBlock = some g ∧ w.heap.size ≤ g) := by
  obtain ⟨xs, h1, h2⟩ := h
  have hlt := World.ownsRow.lt h1
  have hxl : xs.length = vs.length * szI pr := h1.1
  have hcl := hx.len
  have hcell : ∀ j u, cs[j]? = some u → (w.alloc (.cells cs.toArray (tyI pr))).cell? ((⟨w.heap.size, 0, none⟩ : Addr).add j) = some u := by
    intro j u hu
    rw [Go.WideShapes.add_plain, World.cell?_alloc_mark]
    simpa using hu
  obtain ⟨v', w', hr, g1, g2, g3⟩ : ∃ v' w', (Builtin.append_ #[slI pr, slI pr] ty #[l, .slice (some ⟨w.heap.size, 0, none⟩) 1 1]).run Tryz.prog (w.alloc (.cells cs.toArray (tyI pr))) = .ok v' w' ∧ w'.ownsRow B (tyI pr) (szI pr) v' (vs.length + 1) (xs ++ cs) ∧ (w.alloc (.cells cs.toArray (tyI pr))).grownBy w' l.ownBlock ∧ (v'.ownBlock = l.ownBlock ∨ ∃ g, v'.ownBlock = some g ∧ (w.alloc (.cells cs.toArray (tyI pr))).heap.size ≤ g) := by
    cases pr
    · exact rappend_run 1 16 (w.alloc (.cells cs.toArray 20)) B 57 20 ty _ Tryz.underlying57 infoAny rfl (by omega) (by omega) l vs.length xs (h1.alloc _) ⟨w.heap.size, 0, none⟩ 1 1 cs (by rw [hcl]; rfl) hcell hx.one (by omega) (by omega) (by simp; omega)
    · exact rappend_run 2 32 (w.alloc (.cells cs.toArray 56)) B 58 56 ty (.agg #[.string { data := #[] }, .nilIface]) Tryz.underlying58 (by kernel_rfl) rfl (by omega) (by omega) l vs.length xs (h1.alloc _) ⟨w.heap.size, 0, none⟩ 1 1 cs (by rw [hcl]; rfl) hcell hx.one (by omega) (by omega) (by simp; omega)
  have hsz : (w.alloc (.cells cs.toArray (tyI pr))).heap.size = w.heap.size + 1 := by simp
  have hS : ∀ b, (X b ∧ l.ownBlock ≠ some b) → b < w.heap.size → X b ∧ v'.ownBlock ≠ some b := by
    intro b hb hlt
    refine ⟨hb.1, ?_⟩
    rcases g3 with e | ⟨g, e, hg⟩
    · rw [e]; exact hb.2
    · rw [e]
      intro e'
      obtain rfl : g = b := by simpa using e'
      omega
  have hk : ∀ b, (X b ∧ l.ownBlock ≠ some b) → b < w.heap.size → w'.heap[b]? = w.heap[b]? := fun b hb hlt =>
    (g2.block b (by omega) (fun e => hb.2 e.symm)).trans (heap_old17 hlt)
  have hs : w.heap.size ≤ w'.heap.size := by have := g2.size; omega
  refine ⟨v', w', hr, ⟨xs ++ cs, by rw [List.length_append]; exact g1, fun j q hq => ?_⟩, g2, ?_⟩
  · by_cases hj : j < vs.length
    · rw [List.getElem?_append_left hj] at hq
      have hmul : (j + 1) * szI pr ≤ vs.length * szI pr := Nat.mul_le_mul_right _ hj
      rw [Nat.add_mul, Nat.one_mul] at hmul
      rw [List.drop_append_of_le_length (by omega), List.take_append_of_le_length (by rw [List.length_drop]; omega)]
      exact (h2 j q hq).keep hS hs hk
    · have hjl := (List.getElem?_eq_some_iff.1 hq).1
      rw [List.length_append, List.length_singleton] at hjl
      obtain rfl : j = vs.length := by omega
      rw [List.getElem?_append_right (by omega), Nat.sub_self] at hq
      obtain rfl : p = q := by simpa using hq
      rw [← hxl, List.drop_left, List.take_of_length_le (by omega)]
      exact hx.keep hS hs hk
  · rcases g3 with e | ⟨g, e, hg⟩
    · exact .inl e
    · exact .inr ⟨g, e, by omega⟩
/-- The row told by its places. -/
theorem grow_form {pr : Bool} {B : Nat} {X : Nat → Prop} {vs : Its} {l : Value} {w : World} (h : GrowG pr B X vs l w) : ∃ a cap, l = .slice a vs.length cap ∧ vs.length ≤ cap ∧ cap ≤ maxLen ∧
    ∀ k p, vs[k]? = some p → ∃ g cs, a = some ⟨g, 0, none⟩ ∧ B ≤ g ∧ g < w.heap.size ∧ (∀ j u, cs[j]? = some u → w.cell? ⟨g, k * szI pr + j, none⟩ = some u) ∧ ItemOk pr X w p cs := by
  obtain ⟨xs, h1, h2⟩ := h
  have hlt := World.ownsRow.lt h1
  have h1' := h1
  have hxl : xs.length = vs.length * szI pr := h1.1
  rcases h1.2 with ⟨rfl, hn⟩ | ⟨g, cap, cur, rfl, hg, hh, hle, hm, _⟩
  · refine ⟨none, 0, by rw [hn], by omega, by omega, fun k p hk => ?_⟩
    have := (List.getElem?_eq_some_iff.1 hk).1
    omega
  · refine ⟨some ⟨g, 0, none⟩, cap, rfl, hle, hm, fun k p hk => ?_⟩
    have hkl := (List.getElem?_eq_some_iff.1 hk).1
    refine ⟨g, (xs.drop (k * szI pr)).take (szI pr), rfl, (hlt g rfl).1, (hlt g rfl).2, fun j u hu => ?_, (h2 k p hk).keep (fun _ e _ => e.1) (Nat.le_refl _) (fun _ _ _ => rfl)⟩
    have hj := (List.getElem?_eq_some_iff.1 hu).1
    rw [List.length_take] at hj
    rw [List.getElem?_take_of_lt (by omega), List.getElem?_drop] at hu
    have := World.ownsRow.cells h1' rfl (k * szI pr + j) u hu
    rw [Go.WideShapes.add_plain, Nat.zero_add] at this
    exact this
theorem grow_rowA {B : Nat} {X : Nat → Prop} {vs : Its} {l : Value} {w : World} (h : GrowG false B X vs l w) (hX : ∀ b, B ≤ b → b < w.heap.size → l.ownBlock = some b → X b) : AnyAt X w (.arr (japp vs .nil)) (.iface 57 l) := by
  obtain ⟨a, cap, rfl, h1, h2, h3⟩ := grow_form h
  rw [AnyAt, japp_len]
  refine ⟨a, cap, rfl, h1, h2, RowA.of _ _ fun k n v hk => ?_⟩
  obtain ⟨g, cs, rfl, hg, hlt, hc, x, hx, hcs⟩ := h3 k (n, v) (japp_at vs k n v hk)
  simp only [Bool.false_eq_true, if_false] at hcs
  subst hcs
  refine ⟨g, 0, x, rfl, hX g hg hlt rfl, hlt, ?_, hx⟩
  have := hc 0 x rfl
  simpa [szI] using this
theorem grow_rowP {B : Nat} {X : Nat → Prop} {vs : Its} {l : Value} {w : World} (h : GrowG true B X vs l w) (hX : ∀ b, B ≤ b → b < w.heap.size → l.ownBlock = some b → X b) : AnyAt X w (.obj (japp vs .nil)) (.iface 58 l) := by
  obtain ⟨a, cap, rfl, h1, h2, h3⟩ := grow_form h
  rw [AnyAt, japp_len]
  refine ⟨a, cap, rfl, h1, h2, RowP.of _ _ fun k n v hk => ?_⟩
  obtain ⟨g, cs, rfl, hg, hlt, hc, x, hx, hcs⟩ := h3 k (n, v) (japp_at vs k n v hk)
  simp only [if_true] at hcs
  obtain ⟨t, rfl, ht, hn⟩ := hcs
  refine ⟨g, 0, x, t, rfl, hX g hg hlt rfl, hlt, ?_, ht, hn, ?_, hx⟩
  · have := hc 0 _ rfl
    simpa [szI] using this
  · have := hc 1 _ rfl
    simpa [szI] using this
end Go.Proofs.YtbkceneakdbdkaaGreatDoor
/- One item or pair, taken and kept: plain, and what the closures leave. -/
namespace Go.Proofs.YtbkceneakdbdkaaGreatDoor
open Go.RowKit
set_option maxRecDepth 20000
set_option linter.unusedVariables false
set_option linter.unusedSimpArgs false
set_option maxHeartbeats 2000000
/-! ### A text is no longer than its bytes -/
theorem esc_len (l t : List Int) (n : Nat) (h : escP l = .piece t n) : t.length ≤ n := by
  match l, h with
  | [], h => cases h
  | [a], h => cases h
  | a :: b :: r, h =>
    rw [esc_of] at h
    cases h2 : twoP b with
    | some x => rw [h2] at h; simp only [St.piece.injEq] at h; rw [← h.1, ← h.2]; simp
    | none =>
      rw [h2] at h
      simp only at h
      split at h
      · unfold badE at h; split at h <;> cases h
      split at h
      · simp only [St.piece.injEq] at h; rw [← h.1, ← h.2]; have := encC_len (fourP (a :: b :: r)).1; omega
      split at h
      · cases h
      split at h
      · unfold badE at h; split at h <;> cases h
      split at h
      · cases h
      · simp only [St.piece.injEq] at h; rw [← h.1, ← h.2]; have := encC_len (65536 + 1024 * ((fourP (a :: b :: r)).1 - 55296) + (fourP ((a :: b :: r).drop 6)).1 - 56320); omega
theorem piece_len (l t : List Int) (n : Nat) (h : stepP l = .piece t n) : t.length ≤ n := by
  cases l with
  | nil => cases h
  | cons b s =>
    rw [stepP] at h
    split at h
    · cases h
    split at h
    · exact esc_len _ _ _ h
    split at h
    · cases h
    · simp only [St.piece.injEq] at h; rw [← h.1, ← h.2]; exact Nat.le_refl _
theorem takeG_len : ∀ (f : Nat) (l : List Int) (p : Nat) (out : List Int), (takeG f l p out).1.length ≤ out.length + l.length
  | 0, l, p, out => by simp [takeG]
  | f + 1, l, p, out => by
    rw [takeG_step]
    cases hs : stepP l with
    | short => simp
    | form => simp
    | fin => simp
    | piece t n =>
      have h1 := piece_len l t n hs
      have h2 := (step_piece l t n hs).len
      have := takeG_len f (l.drop n) (p + n) (out ++ t)
      simp only
      rw [List.length_append, List.length_drop] at this
      omega
theorem textP_len (l : List Int) : (textP l).1.length ≤ l.length := by
  cases l with
  | nil => simp [textP]
  | cons b t =>
    rw [textP]
    split
    · have := takeG_len (t.length + 1) t 1 []; simp at this ⊢; omega
    · simp
/-! ### One item -/
def BEq (l : List Int) (n k : Nat) : Prop := n ≤ k ∧ k ≤ l.length ∧ k + blankN (l.drop k) = n + blankN (l.drop n)
theorem BEq.same {l : List Int} {n : Nat} (h : n ≤ l.length) : BEq l n n := ⟨Nat.le_refl _, h, rfl⟩
def oneP (g d : Nat) (ob : Bool) (names : List (List Int)) (l : List Int) : (List Int × Js) × Nat × Int :=
  if (pairP ob names l).2.2 ≠ 0 then (([], .nul), (pairP ob names l).2.1, (pairP ob names l).2.2) else
  (((pairP ob names l).1, (valueP g (d + 1) (l.drop (pairP ob names l).2.1)).1), (pairP ob names l).2.1 + (valueP g (d + 1) (l.drop (pairP ob names l).2.1)).2.1, (valueP g (d + 1) (l.drop (pairP ob names l).2.1)).2.2)
theorem items_one17 (f d : Nat) (ob : Bool) (fin : Int) (names : List (List Int)) (k : Nat) (l : List Int) : itemsP (f + 1) d ob fin names k l =
    if l ≠ [] ∧ 64 ≤ k then (.nil, 0, 21) else if (oneP f d ob names l).2.2 ≠ 0 then (.nil, (oneP f d ob names l).2.1, (oneP f d ob names l).2.2)
    else restP f d ob fin names k l (oneP f d ob names l).1.1 (oneP f d ob names l).1.2 ((oneP f d ob names l).2.1 + blankN (l.drop (oneP f d ob names l).2.1)) := by
  rw [itemsP_step]
  unfold oneP
  by_cases h1 : l ≠ [] ∧ 64 ≤ k
  · rw [if_pos h1, if_pos h1]
  rw [if_neg h1, if_neg h1]
  by_cases h2 : (pairP ob names l).2.2 ≠ 0
  · rw [if_pos h2, if_pos h2, if_pos h2]
  · rw [if_neg h2, if_neg h2]
/-- What a value's taking answers. -/
def TkE (R : Js × Nat × Int) (l : List Int) (p : Nat) (w : World) (e : Ending) (w' : World) : Prop :=
  (∃ x v k, e = .returned (.tuple #[x, .int .i64 ((p + k : Nat) : Int), .int .i64 R.2.2]) ∧ AnyAt (fun b => w.heap.size ≤ b) w' v x ∧ (R.2.2 = 0 → v = R.1 ∧ BEq l R.2.1 k) ∧ (R.2.2 ≠ 0 → k = R.2.1)) ∧ Below w.heap.size w w'
def TkOk (g : Nat) : Prop := ∀ (d : Nat) (s : ByteArray) (p : Nat) (w : World), p ≤ s.size → s.size ≤ 5000 → 2 * (s.size - p) + 1 ≤ g → d ≤ 5 → QTab w →
  Calls Tryz.prog 33 #[.string s, .int .i64 p, .int .i64 d] w (TkE (valueP g d ((bI s).drop p)) ((bI s).drop p) p w)
/-- The same of one text, from a place on, at any fuel that is enough. -/
def TkAt (g : Nat) (s : ByteArray) (q : Nat) : Prop := ∀ (d p : Nat) (w : World), q ≤ p → p ≤ s.size → d ≤ 5 → QTab w →
  Calls Tryz.prog 33 #[.string s, .int .i64 p, .int .i64 d] w (TkE (valueP g d ((bI s).drop p)) ((bI s).drop p) p w)
theorem TkOk.at {g0 g : Nat} (h : TkOk g0) {s : ByteArray} {q : Nat} (hs : s.size ≤ 5000) (h0 : 2 * (s.size - q) + 1 ≤ g0) (h1 : 2 * (s.size - q) + 1 ≤ g) : TkAt g s q := by
  intro d p w hqp hp hd ht
  have hl : ((bI s).drop p).length = s.size - p := by rw [List.length_drop, bI_len]
  rw [(enough g).1 g0 d ((bI s).drop p) (by rw [hl]; omega) (by rw [hl]; omega)]
  exact h d s p w hp hs (by omega) hd ht
def OneE (R : (List Int × Js) × Nat × Int) (l : List Int) (q : Nat) (I : Its → World → Prop) (vs : Its) (e : Ending) (W' : World) : Prop :=
  ∃ vs' k, e = .returned (.tuple #[.int .i64 ((q + k : Nat) : Int), .int .i64 R.2.2]) ∧ I vs' W' ∧ (R.2.2 = 0 → vs' = vs ++ [R.1] ∧ BEq l R.2.1 k) ∧ (R.2.2 ≠ 0 → k = R.2.1)
/-! ### The boxes -/
/-- The boxes of a list's taking: the text, the depth, the list; w0 is the world at its beginning. -/
structure Ls (pr : Bool) (bs bd B bl : Nat) (s : ByteArray) (d : Nat) (w0 : World) (vs : Its) (W : World) : Prop where
  ex : ∃ l, W.cell? ⟨bl, 0, none⟩ = some l ∧ GrowG pr B (fun b => B ≤ b ∧ b ≠ bl) vs l W ∧ l.ownBlock ≠ some bl
  free : W.frozen? ⟨bl, 0, none⟩ = false
  cs : W.cell? ⟨bs, 0, none⟩ = some (.string s)
  cd : W.cell? ⟨bd, 0, none⟩ = some (.int .i64 d)
  ord : w0.heap.size ≤ bs ∧ bs < B ∧ w0.heap.size ≤ bd ∧ bd < B ∧ B ≤ bl ∧ bl < W.heap.size
  bel : Below w0.heap.size w0 W
theorem Ls.below {pr : Bool} {bs bd B bl : Nat} {s : ByteArray} {d : Nat} {w0 : World} {vs : Its} {W W' : World} (h : Ls pr bs bd B bl s d w0 vs W) (hb : Below W.heap.size W W') : Ls pr bs bd B bl s d w0 vs W' := by
  obtain ⟨⟨l, h1, h2, h3⟩, hf, hs, hd, ⟨o1, o2, o3, o4, o5, o6⟩, hbl⟩ := h
  refine ⟨⟨l, (hb.cell (p := ⟨bl, 0, none⟩) o6).trans h1, grow_below h2 hb, h3⟩, (World.frozen?_of_block (a := ⟨bl, 0, none⟩) (hb.block bl o6)).trans hf, (hb.cell (p := ⟨bs, 0, none⟩) (by show bs < _; omega)).trans hs, (hb.cell (p := ⟨bd, 0, none⟩) (by show bd < _; omega)).trans hd, ⟨o1, o2, o3, o4, o5, Nat.lt_of_lt_of_le o6 hb.size⟩, hbl.trans (hb.mono hbl.size)⟩
theorem Ls.more {pr : Bool} {bs bd B bl : Nat} {s : ByteArray} {d : Nat} {w0 : World} {vs : Its} {W : World} (h : Ls pr bs bd B bl s d w0 vs W) (hv : vs.length ≤ 1000000) :
    ∃ l, W.cell? ⟨bl, 0, none⟩ = some l ∧ (∀ b, l.ownBlock = some b → b < W.heap.size) ∧ ∀ (W1 : World) (m : Nat) (p : List Int × Js) (cs : List Value), Below W.heap.size W W1 → W.heap.size ≤ m → ItemOk pr (fun b => m ≤ b) W1 p cs →
      ∃ v' W2, (Builtin.append_ #[slI pr, slI pr] (slI pr) #[l, .slice (some ⟨W1.heap.size, 0, none⟩) 1 1]).run Tryz.prog (W1.alloc (.cells cs.toArray (tyI pr))) = .ok v' W2 ∧ W2.cell? ⟨bl, 0, none⟩ = some l ∧ W2.frozen? ⟨bl, 0, none⟩ = false ∧
        Ls pr bs bd B bl s d w0 (vs ++ [p]) (W2.setCell ⟨bl, 0, none⟩ v') := by
  obtain ⟨l, h1, h2, h3⟩ := h.ex
  refine ⟨l, h1, fun b e => (grow_lt h2 b e).2, fun W1 m p cs hb hm hx => ?_⟩
  have hord := h.ord
  obtain ⟨⟨l', h1', h2', h3'⟩, hf, hs, hd, ⟨o1, o2, o3, o4, o5, o6⟩, hbl⟩ := h.below hb
  have hll : l = l' := by
    have := (hb.cell (p := ⟨bl, 0, none⟩) hord.2.2.2.2.2).trans h1
    rw [h1'] at this
    exact (Option.some.inj this).symm
  subst hll
  obtain ⟨v', W2, hr, g1, g2, g3⟩ := grow_more (slI pr) h2' hv (by omega) (hx.keep (S' := fun b => (B ≤ b ∧ b ≠ bl) ∧ l.ownBlock ≠ some b) (fun b e _ => ⟨⟨by omega, by have := hord.2.2.2.2.2; omega⟩, fun x => by have := (grow_lt h2 b x).2; omega⟩) (Nat.le_refl _) (fun _ _ _ => rfl))
  have hsz : (W1.alloc (.cells cs.toArray (tyI pr))).heap.size = W1.heap.size + 1 := by simp
  have hB := fun b e => (grow_lt h2' b e).1
  have k1 : ∀ k, k < W1.heap.size → l.ownBlock ≠ some k → W2.heap[k]? = W1.heap[k]? := fun k hk hne => (g2.block k (by omega) (fun e => hne e.symm)).trans (heap_old17 hk)
  have hs2 := g2.size
  have c0 : W2.cell? ⟨bl, 0, none⟩ = some l := (World.cell?_of_block (a := ⟨bl, 0, none⟩) (k1 bl o6 h3)).trans h1'
  have c1 : W2.frozen? ⟨bl, 0, none⟩ = false := (World.frozen?_of_block (a := ⟨bl, 0, none⟩) (k1 bl o6 h3)).trans hf
  have hset : ∀ k, k ≠ bl → (W2.setCell ⟨bl, 0, none⟩ v').heap[k]? = W2.heap[k]? := fun k hk => Below.heap_setCell _ _ _ k hk
  have hsz2 : (W2.setCell ⟨bl, 0, none⟩ v').heap.size = W2.heap.size := by simp [World.size_setCell]
  have hvb : v'.ownBlock ≠ some bl := by
    rcases g3 with e | ⟨g, e, hg⟩
    · rw [e]; exact h3
    · rw [e]; intro e2; injection e2 with e2; omega
  refine ⟨v', W2, hr, c0, c1, ⟨⟨v', World.cell?_setCell_same _ _ _ c0, ?_, hvb⟩, ?_, ?_, ?_, ⟨o1, o2, o3, o4, o5, by omega⟩, ?_⟩⟩
  · exact grow_keep g1 (by omega) (fun b e => hset b (fun x => hvb (by rw [e, x]))) (fun b hb _ _ => hset b hb.2)
  · rw [World.frozen?_setCell]; exact c1
  · exact (World.cell?_of_block (a := ⟨bs, 0, none⟩) ((hset bs (by omega)).trans (k1 bs (by omega) (fun e => by have := hB bs e; omega)))).trans hs
  · exact (World.cell?_of_block (a := ⟨bd, 0, none⟩) ((hset bd (by omega)).trans (k1 bd (by omega) (fun e => by have := hB bd e; omega)))).trans hd
  · have hb1 : Below w0.heap.size w0 W2 := Below.grown (hbl.alloc (by omega) _) g2 (by omega) (fun k e => by have := hB k e; omega)
    exact hb1.setCell (p := ⟨bl, 0, none⟩) (by show w0.heap.size ≤ bl; omega) _
end Go.Proofs.YtbkceneakdbdkaaGreatDoor
