/- Plain: Split and Join; what was split is joined again; a tile is found in the root and its leaf as in the row. -/
import Derived.Test.YtbkodaijigcebaaUa
namespace Go.Proofs.Ytbkodaijigcebaa
set_option maxRecDepth 20000
set_option linter.unusedVariables false
set_option linter.unusedSimpArgs false
def noB : ByteArray := ByteArray.mk #[]
/-- Whether pieces fit. -/
def fitN (budget : Int) (ps : List (List En)) : Bool := decide (∀ p ∈ ps, (textI p).length ≤ 65536) && decide (sizD (rootsN 0 ps) ≤ budget)
/-- The first of f sizes, from n on, of which the pieces fit. -/
def goS (l : List En) (budget : Int) : Nat → Nat → Option Nat
  | 0, _ => none
  | f + 1, n => if fitN budget (cutN n l) then some n else goS l budget f (2 * n)
structure Sp where
  root : List En
  text : ByteArray
  size : Int
  err : Int
def splitN (l : List En) (budget : Int) : Sp :=
  if budget < 1 ∨ 16257 < budget then ⟨[], noB, 0, 2⟩ else if rowN l ≠ 0 then ⟨[], noB, 0, rowN l⟩ else if leavesN l ≠ [] then ⟨[], noB, 0, 14⟩ else
  if sizD l ≤ budget then ⟨l, noB, 0, 0⟩ else match goS l budget 13 1 with
  | some n => ⟨rootsN 0 (cutN n l), str (textsI (cutN n l)), n, 0⟩
  | none => ⟨[], noB, 0, 15⟩
/-- What a pointer tells. -/
def pieceN (e : En) (d : ByteArray) : List En × Int :=
  if (d.size : Int) < e.off + e.ln then ([], 8) else
  if (decD (d.extract e.off.toNat (e.off + e.ln).toNat).data.toList).2.2 ≠ 0 then ([], (decD (d.extract e.off.toNat (e.off + e.ln).toNat).data.toList).2.2) else
  if leavesN (decD (d.extract e.off.toNat (e.off + e.ln).toNat).data.toList).1 ≠ [] then ([], 20) else
  if (decD (d.extract e.off.toNat (e.off + e.ln).toNat).data.toList).1 = [] ∨ (gS (decD (d.extract e.off.toNat (e.off + e.ln).toNat).data.toList).1 0).id ≠ e.id then ([], 10) else ((decD (d.extract e.off.toNat (e.off + e.ln).toNat).data.toList).1, 0)
def goJ : List En → ByteArray → List En → List En × Int
  | [], _, out => (out, 0)
  | e :: l, d, out => if 0 < e.rn then goJ l d (out ++ [e]) else if (pieceN e d).2 ≠ 0 then ([], (pieceN e d).2) else goJ l d (out ++ (pieceN e d).1)
def joinN (root : List En) (d : ByteArray) : List En × Int :=
  if rowN root ≠ 0 then ([], rowN root) else if (goJ root d []).2 ≠ 0 then ([], (goJ root d []).2) else
  if rowN (goJ root d []).1 ≠ 0 then ([], rowN (goJ root d []).1) else ((goJ root d []).1, 0)
/-! ### Split's answer -/
theorem goS_some (l : List En) (budget : Int) : ∀ (f n m : Nat), 1 ≤ n → goS l budget f n = some m → 1 ≤ m ∧ fitN budget (cutN m l) = true
  | f + 1, n, m, hn, h => by
    rw [goS] at h
    split at h
    · rename_i hf
      cases h
      exact ⟨hn, hf⟩
    · exact goS_some l budget f (2 * n) m (by omega) h
/-- The two ways in which a row is split. -/
theorem split_ok {l : List En} {budget : Int} (h : (splitN l budget).err = 0) : 1 ≤ budget ∧ budget ≤ 16257 ∧ rowN l = 0 ∧ leavesN l = [] ∧
    ((sizD l ≤ budget ∧ splitN l budget = ⟨l, noB, 0, 0⟩) ∨ (¬ sizD l ≤ budget ∧ ∃ n, 1 ≤ n ∧ fitN budget (cutN n l) = true ∧ splitN l budget = ⟨rootsN 0 (cutN n l), str (textsI (cutN n l)), n, 0⟩)) := by
  unfold splitN at h ⊢
  by_cases h1 : budget < 1 ∨ 16257 < budget
  · rw [if_pos h1] at h; cases h
  rw [if_neg h1] at h ⊢
  by_cases h2 : rowN l ≠ 0
  · rw [if_pos h2] at h; exact absurd h h2
  rw [if_neg h2] at h ⊢
  by_cases h3 : leavesN l ≠ []
  · rw [if_pos h3] at h; cases h
  rw [if_neg h3] at h ⊢
  refine ⟨by omega, by omega, Classical.not_not.1 h2, Classical.not_not.1 h3, ?_⟩
  by_cases h4 : sizD l ≤ budget
  · rw [if_pos h4]; exact .inl ⟨h4, rfl⟩
  rw [if_neg h4] at h ⊢
  right
  refine ⟨h4, ?_⟩
  cases hg : goS l budget 13 1 with
  | none => rw [hg] at h; cases h
  | some n =>
    obtain ⟨g1, g2⟩ := goS_some l budget 13 1 n (by omega) hg
    exact ⟨n, g1, g2, rfl⟩
theorem split_bad {l : List En} {budget : Int} (h : (splitN l budget).err ≠ 0) : (splitN l budget).root = [] ∧ (splitN l budget).text = noB ∧ (splitN l budget).size = 0 := by
  unfold splitN at h ⊢
  by_cases h1 : budget < 1 ∨ 16257 < budget
  · rw [if_pos h1]; exact ⟨rfl, rfl, rfl⟩
  rw [if_neg h1] at h ⊢
  by_cases h2 : rowN l ≠ 0
  · rw [if_pos h2]; exact ⟨rfl, rfl, rfl⟩
  rw [if_neg h2] at h ⊢
  by_cases h3 : leavesN l ≠ []
  · rw [if_pos h3]; exact ⟨rfl, rfl, rfl⟩
  rw [if_neg h3] at h ⊢
  by_cases h4 : sizD l ≤ budget
  · rw [if_pos h4] at h; exact absurd rfl h
  rw [if_neg h4] at h ⊢
  cases hg : goS l budget 13 1 with
  | none => exact ⟨rfl, rfl, rfl⟩
  | some n => rw [hg] at h; exact absurd rfl h
/-! ### Joined again -/
theorem rowN_of {l : List En} {p : Int} (h : rowG p l = 0) (hp : -1 ≤ p) (hl : l.length ≤ 4096) : rowN l = 0 := by
  unfold rowN
  rw [if_neg (by omega)]
  exact rowG_from _ _ _ h hp
/-- A part of a row is a row. -/
theorem row_part {a m b : List En} (hm : ∀ e ∈ a ++ m ++ b, MayN e) (h : rowN (a ++ m ++ b) = 0) : rowN m = 0 := by
  have h1 := row_take h (a ++ m).length
  rw [List.take_left'  rfl] at h1
  have h2 := row_drop (fun e he => hm e (by simp at he ⊢; rcases he with he | he; exact .inl he; exact .inr (.inl he))) h1 a.length
  rwa [List.drop_left' rfl] at h2
theorem leaves_part {a m b : List En} (h : leavesN (a ++ m ++ b) = []) : leavesN m = [] := by
  unfold leavesN at h ⊢
  rw [List.filter_append, List.filter_append] at h
  simp only [List.append_eq_nil_iff] at h
  exact h.1.2
theorem str_mid (a b c : List Int) : (str (a ++ b ++ c)).extract a.length (a.length + b.length) = str b := by
  apply ByteArray.ext
  apply Array.ext'
  rw [ByteArray.data_extract, Array.toList_extract, str_list, str_list]
  simp [List.extract_eq_take_drop]
theorem str_bytes (p : List En) : (str (textI p)).data.toList = textD p := by rw [str_list, textD_cols]; rfl
/-- A pointer of the root tells its piece. -/
theorem piece_root {m : List En} (pre post : List Int) (hm : ∀ e ∈ m, MayN e) (hr : rowN m = 0) (hl : leavesN m = []) (hn : m ≠ []) (ht : (textI m).length ≤ 65536) :
    pieceN ⟨(gS m 0).id, pre.length, (textI m).length, 0⟩ (str (pre ++ textI m ++ post)) = (m, 0) := by
  have hx : (str (pre ++ textI m ++ post)).extract ((pre.length : Int)).toNat ((pre.length : Int) + ((textI m).length : Int)).toNat = str (textI m) := by
    rw [Int.toNat_natCast, show ((pre.length : Int) + ((textI m).length : Int)).toNat = pre.length + (textI m).length by omega]
    exact str_mid pre (textI m) post
  have hd : decD (textD m) = (m, (textD m).length, 0) := decD_text m hm hr (by rw [← textI_len]; exact ht)
  unfold pieceN
  simp only
  rw [if_neg (by rw [str_size]; simp only [List.length_append]; omega), hx, str_bytes, hd]
  simp only
  rw [if_neg (by simp), if_neg (by simpa using hl), if_neg (by intro h; rcases h with h | h; exact hn h; exact h rfl)]
theorem goJ_root : ∀ (ps : List (List En)) (pre : List Int) (out : List En), (∀ p ∈ ps, (∀ e ∈ p, MayN e) ∧ rowN p = 0 ∧ leavesN p = [] ∧ p ≠ [] ∧ (textI p).length ≤ 65536) →
    goJ (rootsN pre.length ps) (str (pre ++ textsI ps)) out = (out ++ ps.flatten, 0)
  | [], pre, out, _ => by simp [rootsN, goJ]
  | p :: ps, pre, out, h => by
    obtain ⟨h1, h2, h3, h4, h5⟩ := h p (by simp)
    have hp := piece_root pre (textsI ps) h1 h2 h3 h4 h5
    have ih := goJ_root ps (pre ++ textI p) (out ++ p) (fun q hq => h q (by simp [hq]))
    rw [textsI_cons, ← List.append_assoc, rootsN, goJ, if_neg (by simp), hp]
    rw [List.length_append] at ih
    simp only [ne_eq, not_true_eq_false, if_false]
    rw [ih, List.flatten_cons, List.append_assoc]
theorem goJ_plain : ∀ (l : List En) (d : ByteArray) (out : List En), leavesN l = [] → (∀ e ∈ l, 0 ≤ e.rn) → goJ l d out = (out ++ l, 0)
  | [], d, out, _, _ => by simp [goJ]
  | e :: l, d, out, h, hm => by
    unfold leavesN at h
    rw [List.filter_eq_nil_iff] at h
    have h1 := h e (by simp)
    have h2 := hm e (by simp)
    simp only [decide_eq_true_eq] at h1
    rw [goJ, if_pos (by omega), goJ_plain l d _ (by unfold leavesN; rw [List.filter_eq_nil_iff]; exact fun x hx => h x (by simp [hx])) (fun x hx => hm x (by simp [hx]))]
    simp
/-- What each piece of a row is. -/
theorem cut_good {l : List En} (n : Nat) (hn : 1 ≤ n) (hm : ∀ e ∈ l, MayN e) (hr : rowN l = 0) (hl : leavesN l = []) : ∀ p ∈ cutN n l, (∀ e ∈ p, MayN e) ∧ rowN p = 0 ∧ leavesN p = [] ∧ p ≠ [] := by
  intro p hp
  obtain ⟨P1, P2, he⟩ := List.append_of_mem hp
  have hf := cut_flat n hn l
  rw [he, List.flatten_append, List.flatten_cons, ← List.append_assoc] at hf
  have hm' : ∀ e ∈ P1.flatten ++ p ++ P2.flatten, MayN e := by rw [hf]; exact hm
  exact ⟨fun e h => hm' e (by simp [h]), row_part hm' (by rw [hf]; exact hr), leaves_part (a := P1.flatten) (b := P2.flatten) (by rw [hf]; exact hl), (cut_mem n hn l p hp).1⟩
theorem join_split {l : List En} {budget : Int} (hm : ∀ e ∈ l, MayN e) (hl : l.length ≤ 5000) (h : (splitN l budget).err = 0) : joinN (splitN l budget).root (splitN l budget).text = (l, 0) := by
  obtain ⟨_, _, h1, h2, h3⟩ := split_ok h
  rcases h3 with ⟨_, h3⟩ | ⟨_, n, hn, hf, h3⟩
  · rw [h3]
    unfold joinN
    rw [if_neg (by simpa using h1), goJ_plain l _ _ h2 (fun e he => (hm e he).2.2.2.1)]
    simp [h1]
  · rw [h3]
    have hrow := roots_rowN n hn hm h1 hl
    unfold fitN at hf
    rw [Bool.and_eq_true] at hf
    have hsz := of_decide_eq_true hf.1
    have hg := goJ_root (cutN n l) [] [] (fun p hp => by
      obtain ⟨a, b, c, d⟩ := cut_good n hn hm h1 h2 p hp
      exact ⟨a, b, c, d, hsz p hp⟩)
    rw [List.nil_append, List.nil_append, cut_flat n hn, List.length_nil] at hg
    unfold joinN
    simp only
    rw [if_neg (by simpa using hrow), hg]
    simp [h1]
/-! ### Found again -/
theorem gS_mid (a m b : List En) (k : Nat) (h : k < m.length) : gS (a ++ m ++ b) (a.length + k) = gS m k := by
  unfold gS
  rw [List.getD_eq_getElem?_getD, List.getD_eq_getElem?_getD, List.getElem?_append_left (by rw [List.length_append]; omega), List.getElem?_append_right (by omega), show a.length + k - a.length = k by omega]
theorem find_mid {a m b : List En} (hm : ∀ e ∈ a ++ m ++ b, MayN e) (h : rowN (a ++ m ++ b) = 0) (q : Int) (h0 : m ≠ []) (h1 : (gS m 0).id ≤ q) (h2 : b ≠ [] → q < (gS b 0).id) : findN (a ++ m ++ b) q = findN m q := by
  have hmm : ∀ e ∈ m, MayN e := fun e he => hm e (by simp [he])
  have hr := row_part hm h
  obtain ⟨p1, p2, p3⟩ := place_spec hmm hr q
  have hpos : 0 < m.length := List.length_pos_iff.2 h0
  have hp0 : 0 ≤ placeN m q := by
    have := (p3 0 hpos).1 h1
    omega
  have hpl : placeN (a ++ m ++ b) q = a.length + placeN m q := by
    refine place_unique hm h q _ (by omega) (by rw [List.length_append, List.length_append]; omega) (fun i hi => ?_)
    rcases Nat.lt_or_ge i a.length with hlt | hge
    · constructor
      · intro _; omega
      · intro _
        have := row_le hm h (show i ≤ a.length + 0 by omega) (by rw [List.length_append, List.length_append]; omega)
        rw [gS_mid a m b 0 hpos] at this
        omega
    · rcases Nat.lt_or_ge i (a.length + m.length) with hlt2 | hge2
      · have e : i = a.length + (i - a.length) := by omega
        rw [e, gS_mid a m b (i - a.length) (by omega), p3 (i - a.length) (by omega)]
        omega
      · have hb : b ≠ [] := by
          rintro rfl
          rw [List.length_append, List.length_append, List.length_nil] at hi
          omega
        have hbp : 0 < b.length := List.length_pos_iff.2 hb
        have e0 : gS (a ++ m ++ b) (a ++ m).length = gS b 0 := by
          unfold gS
          rw [List.getD_eq_getElem?_getD, List.getD_eq_getElem?_getD, List.getElem?_append_right (Nat.le_refl _), Nat.sub_self]
        have := row_le hm h (show (a ++ m).length ≤ i by rw [List.length_append]; exact hge2) hi
        rw [e0] at this
        have := h2 hb
        constructor
        · intro _; omega
        · intro _; omega
  unfold findN
  rw [hpl, show ((a.length : Int) + placeN m q).toNat = a.length + (placeN m q).toNat by omega, gS_mid a m b _ (by omega), if_neg (show ¬ (a.length : Int) + placeN m q < 0 by omega), if_neg (show ¬ placeN m q < 0 by omega)]
theorem gS_append_right (a b : List En) : b ≠ [] → gS (a ++ b) a.length = gS b 0 := fun _ => by
  unfold gS
  rw [List.getD_eq_getElem?_getD, List.getD_eq_getElem?_getD, List.getElem?_append_right (Nat.le_refl _), Nat.sub_self]
theorem find_none_of {l : List En} (hm : ∀ e ∈ l, MayN e) (h : rowN l = 0) (q : Int) (h0 : l ≠ [] → q < (gS l 0).id) : findN l q = (zeroE, false) := by
  have hp : placeN l q = -1 := by
    by_cases hl : l = []
    · subst hl; rfl
    have hpos : 0 < l.length := List.length_pos_iff.2 hl
    refine place_unique hm h q (-1) (by omega) (by omega) (fun i hi => ?_)
    have := row_le hm h (Nat.zero_le i) hi
    have := h0 hl
    constructor
    · intro _; omega
    · intro _; omega
  unfold findN
  rw [hp]
  rfl
/-- Found in the root, and in the leaf, as in the row. -/
theorem find_root {l : List En} (n : Nat) (hn : 1 ≤ n) (hm : ∀ e ∈ l, MayN e) (hr : rowN l = 0) (hlen : l.length ≤ 5000) (hb : ∀ p ∈ cutN n l, (textI p).length ≤ 65536) (q : Int) :
    ((findN (rootsN 0 (cutN n l)) q).2 = false ∧ (findN l q).2 = false) ∨
    ∃ P1 m P2, cutN n l = P1 ++ m :: P2 ∧ findN (rootsN 0 (cutN n l)) q = (⟨(gS m 0).id, (textsI P1).length, (textI m).length, 0⟩, true) ∧ findN l q = findN m q := by
  have hf := cut_flat n hn l
  have hrow := roots_rowN n hn hm hr hlen
  have hbd := textsI_bd (cutN n l)
  rw [hf] at hbd
  have hcl := cut_len n hn l
  have hmay := roots_may (o := 0) (ps := cutN n l) (by rw [hf]; exact hm) (fun p hp => (cut_mem n hn l p hp).1) (fun p hp => Nat.le_trans (hb p hp) (by omega)) (by omega)
  obtain ⟨p1, p2, p3⟩ := place_spec hmay hrow q
  have hne := fun p hp => (cut_mem n hn l p hp).1
  rw [rootsN_len] at p2 p3
  by_cases h0 : placeN (rootsN 0 (cutN n l)) q < 0
  · left
    refine ⟨by unfold findN; rw [if_pos h0], ?_⟩
    rw [find_none_of hm hr q (fun hl => ?_)]
    rw [cutN_step n hn l hl] at p3
    have := mt (p3 0 (by simp)).1 (by rw [cutN_step n hn l hl] at h0; omega)
    have e : gS (rootsN 0 (l.take n :: cutN n (l.drop n))) 0 = ⟨(gS (l.take n) 0).id, (0 : Nat), (textI (l.take n)).length, 0⟩ := rfl
    rw [e, gS_take l n 0 (by omega)] at this
    simp only at this
    omega
  · right
    obtain ⟨j, hj⟩ : ∃ j : Nat, placeN (rootsN 0 (cutN n l)) q = j := ⟨(placeN (rootsN 0 (cutN n l)) q).toNat, by omega⟩
    rw [hj] at p1 p2 p3 h0
    have hjl : j < (cutN n l).length := by omega
    have hsp : cutN n l = (cutN n l).take j ++ (cutN n l)[j] :: (cutN n l).drop (j + 1) := by rw [← List.drop_eq_getElem_cons hjl, List.take_append_drop]
    have hP1 : ((cutN n l).take j).length = j := by rw [List.length_take]; omega
    generalize (cutN n l).take j = P1 at *
    generalize (cutN n l)[j] = m at *
    generalize (cutN n l).drop (j + 1) = P2 at *
    rw [hsp] at hf hj p3 hne hmay hrow ⊢
    rw [List.flatten_append, List.flatten_cons, ← List.append_assoc] at hf
    have hm0 : m ≠ [] := hne m (by simp)
    have hR : rootsN 0 (P1 ++ m :: P2) = rootsN 0 P1 ++ (⟨(gS m 0).id, (textsI P1).length, (textI m).length, 0⟩ :: rootsN ((textsI P1).length + (textI m).length) P2) := by
      rw [rootsN_append, Nat.zero_add, rootsN]
    have hgj : gS (rootsN 0 (P1 ++ m :: P2)) j = ⟨(gS m 0).id, (textsI P1).length, (textI m).length, 0⟩ := by
      have := gS_append_right (rootsN 0 P1) (⟨(gS m 0).id, (textsI P1).length, (textI m).length, 0⟩ :: rootsN ((textsI P1).length + (textI m).length) P2) (by simp)
      rw [rootsN_len, hP1, ← hR] at this
      exact this
    have hle : (gS m 0).id ≤ q := by
      have := (p3 j (by simp; omega)).2 (by omega)
      rw [hgj] at this
      exact this
    have hgt : P2.flatten ≠ [] → q < (gS P2.flatten 0).id := by
      intro hq
      cases P2 with
      | nil => exact absurd rfl hq
      | cons m2 P2 =>
        have h2 : m2 ≠ [] := hne m2 (by simp)
        have hnle := mt (p3 (j + 1) (by simp; omega)).1 (by omega)
        have hg2 : gS (rootsN 0 (P1 ++ m :: m2 :: P2)) (j + 1) = ⟨(gS m2 0).id, ((textsI P1).length + (textI m).length : Nat), (textI m2).length, 0⟩ := by
          have := gS_append_right (rootsN 0 P1 ++ [⟨(gS m 0).id, (textsI P1).length, (textI m).length, 0⟩]) (rootsN ((textsI P1).length + (textI m).length) (m2 :: P2)) (by simp [rootsN])
          rw [List.append_assoc, List.singleton_append, ← hR, List.length_append, rootsN_len, hP1, List.length_singleton] at this
          exact this
        rw [hg2] at hnle
        have e : gS (m2 :: P2).flatten 0 = gS m2 0 := by
          cases m2 with
          | nil => exact absurd rfl h2
          | cons x m2 => rfl
        rw [e]
        simp only at hnle
        omega
    refine ⟨P1, m, P2, rfl, ?_, ?_⟩
    · unfold findN
      rw [hj, if_neg (by omega), Int.toNat_natCast, hgj]
      simp
    · rw [← hf]
      exact find_mid (by rw [hf]; exact hm) (by rw [hf]; exact hr) q hm0 hle hgt
end Go.Proofs.Ytbkodaijigcebaa
