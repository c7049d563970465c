/- Several texts, one behind the other: La, Lb, Lc, Ld, Le, Lf. -/
import Derived.Test.YtbkceneakdbdkaaGreatDoorMA
/- Plain: values as JSON writes them, laid and taken. No Go in sight. -/
namespace Go.Proofs.YtbkceneakdbdkaaGreatDoor
set_option maxRecDepth 20000
set_option linter.unusedVariables false
set_option linter.unusedSimpArgs false
/-! ### Values -/
mutual
inductive Js
  | nul
  | bool (b : Bool)
  | num (n : Int)
  | str (s : List Int)
  | arr (l : Jl)
  | obj (l : Jl)
  | bad
inductive Jl
  | nil
  | cons (name : List Int) (v : Js) (l : Jl)
end
def Jl.length : Jl → Nat
  | .nil => 0
  | .cons _ _ l => l.length + 1
/-! ### Laid -/
def digN (n : Nat) : List Int := if h : n < 10 then [48 + (n : Int)] else digN (n / 10) ++ [48 + ((n % 10 : Nat) : Int)]
termination_by n
decreasing_by omega
def digI (n : Int) : List Int := if n < 0 then 45 :: digN (-n).toNat else digN n.toNat
def quoteS (s : List Int) : List Int := 34 :: quoteB s ++ [34]
mutual
def printV : Js → List Int
  | .nul => [110, 117, 108, 108]
  | .bool false => [102, 97, 108, 115, 101]
  | .bool true => [116, 114, 117, 101]
  | .num n => digI n
  | .str s => quoteS s
  | .arr l => 91 :: bodyP false l ++ [93]
  | .obj l => 123 :: bodyP true l ++ [125]
  | .bad => []
def bodyP (ob : Bool) : Jl → List Int
  | .nil => []
  | .cons n v l => (if ob then quoteS n ++ [58] else []) ++ printV v ++ tailP ob l
def tailP (ob : Bool) : Jl → List Int
  | .nil => []
  | .cons n v l => 44 :: ((if ob then quoteS n ++ [58] else []) ++ printV v ++ tailP ob l)
end
/-! ### Whether a value may be -/
def maxI : Int := 9007199254740991
mutual
def chkV (d : Nat) : Js → Int
  | .nul => 0
  | .bool _ => 0
  | .num n => if maxI < n ∨ n < -maxI then 11 else 0
  | .str s => if countP s < 0 then 4 else 0
  | .arr l => if 4 < d then 20 else if 64 < l.length then 21 else chkL false d [] l
  | .obj l => if 4 < d then 20 else if 64 < l.length then 21 else chkL true d [] l
  | .bad => 14
def chkL (ob : Bool) (d : Nat) (names : List (List Int)) : Jl → Int
  | .nil => 0
  | .cons n v l => if ob = true ∧ countP n < 0 then 4 else if ob = true ∧ n ∈ names then 22 else if chkV (d + 1) v ≠ 0 then chkV (d + 1) v else chkL ob d (names ++ [n]) l
end
/-! ### Taken -/
def isB (b : Int) : Bool := b == 32 || b == 9 || b == 10 || b == 13
def blankN : List Int → Nat
  | [] => 0
  | b :: t => if isB b then blankN t + 1 else 0
def isN (b : Int) : Bool := (48 ≤ b && b ≤ 57) || b == 43 || b == 45 || b == 46 || b == 101 || b == 69
def spanN : List Int → Nat
  | [] => 0
  | b :: t => if isN b then spanN t + 1 else 0
def isD (b : Int) : Bool := 48 ≤ b && b ≤ 57
def valD (l : List Int) : Int := l.foldl (fun n c => 10 * n + (c - 48)) 0
/-- The digits behind a minus. -/
def unsgn : List Int → List Int
  | [] => []
  | b :: t => if b = 45 then t else b :: t
def isNeg : List Int → Bool
  | [] => false
  | b :: _ => b == 45
/-- Whether digits are none of a whole number's. -/
def badD (t : List Int) : Prop := unsgn t = [] ∨ (unsgn t).head? = some 48 ∧ (1 < (unsgn t).length ∨ isNeg t = true) ∨ ¬ (unsgn t).all isD = true
instance (t : List Int) : Decidable (badD t) := by unfold badD; infer_instance
def numP (l : List Int) : Js × Nat × Int :=
  if badD (l.take (spanN l)) then (.nul, 0, 4) else if maxI < valD (unsgn (l.take (spanN l))) then (.nul, 0, 11)
  else (.num (if isNeg (l.take (spanN l)) then - valD (unsgn (l.take (spanN l))) else valD (unsgn (l.take (spanN l)))), spanN l, 0)
/-- How far a word goes: so many bytes, and the error. -/
def wordG : List Int → List Int → Nat → Nat × Int
  | [], _, i => (i, 0)
  | _ :: _, [], i => (i, 3)
  | c :: w, b :: t, i => if b = c then wordG w t (i + 1) else (0, 4)
def wordP (w : List Int) (v : Js) (l : List Int) : Js × Nat × Int := if (wordG w l 0).2 = 0 then (v, (wordG w l 0).1, 0) else (.nul, (wordG w l 0).1, (wordG w l 0).2)
/-- A text in quotes at the beginning. -/
def textP : List Int → List Int × Nat × Int
  | [] => ([], 0, 3)
  | b :: t => if b = 34 then takeG (t.length + 1) t 1 [] else ([], 0, 4)
def head0 (l : List Int) : Int := l.headD (-1)
mutual
def valueP : Nat → Nat → List Int → Js × Nat × Int
  | 0, _, l => (.nul, l.length, 3)
  | _ + 1, _, [] => (.nul, 0, 3)
  | f + 1, d, b :: t =>
    if b = 110 then wordP [110, 117, 108, 108] .nul (b :: t)
    else if b = 102 then wordP [102, 97, 108, 115, 101] (.bool false) (b :: t)
    else if b = 116 then wordP [116, 114, 117, 101] (.bool true) (b :: t)
    else if b = 34 then (if (textP (b :: t)).2.2 = 0 then (.str (textP (b :: t)).1, (textP (b :: t)).2.1, 0) else (.nul, (textP (b :: t)).2.1, (textP (b :: t)).2.2))
    else if b = 91 ∨ b = 123 then
      (if 4 < d then (.nul, 0, 20) else if head0 (t.drop (blankN t)) = b + 2 then (if b = 91 then .arr .nil else .obj .nil, blankN t + 2, 0)
      else if (itemsP f d (decide (b = 123)) (b + 2) [] 0 (t.drop (blankN t))).2.2 ≠ 0 then (.nul, blankN t + 1 + (itemsP f d (decide (b = 123)) (b + 2) [] 0 (t.drop (blankN t))).2.1, (itemsP f d (decide (b = 123)) (b + 2) [] 0 (t.drop (blankN t))).2.2)
      else (if b = 91 then .arr (itemsP f d (decide (b = 123)) (b + 2) [] 0 (t.drop (blankN t))).1 else .obj (itemsP f d (decide (b = 123)) (b + 2) [] 0 (t.drop (blankN t))).1, blankN t + 1 + (itemsP f d (decide (b = 123)) (b + 2) [] 0 (t.drop (blankN t))).2.1, 0))
    else if b = 45 ∨ isD b = true then numP (b :: t)
    else (.nul, 0, 4)
def itemsP : Nat → Nat → Bool → Int → List (List Int) → Nat → List Int → Jl × Nat × Int
  | 0, _, _, _, _, _, l => (.nil, l.length, 3)
  | f + 1, d, ob, fin, names, k, l =>
    if l ≠ [] ∧ 64 ≤ k then (.nil, 0, 21)
    else match pairP ob names l with
    | (name, at_, e) => if e ≠ 0 then (.nil, at_, e) else
      match valueP f (d + 1) (l.drop at_) with
      | (v, n, e2) => if e2 ≠ 0 then (.nil, at_ + n, e2) else
        (let m := at_ + n + blankN (l.drop (at_ + n))
        if l.drop m = [] then (.nil, m, 3) else if head0 (l.drop m) = fin then (.cons name v .nil, m + 1, 0) else if head0 (l.drop m) ≠ 44 then (.nil, m, 4) else
        (let q := m + 1 + blankN (l.drop (m + 1))
        match itemsP f d ob fin (names ++ [name]) (k + 1) (l.drop q) with
        | (r, j, e3) => if e3 ≠ 0 then (.nil, q + j, e3) else (.cons name v r, q + j, 0)))
/-- A name, and how far it is to its value. -/
def pairP (ob : Bool) (names : List (List Int)) (l : List Int) : List Int × Nat × Int :=
  if ob = false then ([], 0, 0) else
  match textP l with
  | (name, n, e) => if e ≠ 0 then ([], n, e) else if name ∈ names then ([], 0, 22) else
    (let m := n + blankN (l.drop n)
    if l.drop m = [] then ([], m, 3) else if head0 (l.drop m) ≠ 58 then ([], m, 4) else (name, m + 1 + blankN (l.drop (m + 1)), 0))
end
def fuelV (l : List Int) : Nat := 2 * l.length + 1
def takeV (s : List Int) : Js × Nat × Int :=
  if 4096 < s.length then (.nul, 0, 5) else
  match valueP (fuelV s) 1 (s.drop (blankN s)) with
  | (v, n, e) => if e ≠ 0 then (.nul, blankN s + n, e) else
    (let m := blankN s + n + blankN (s.drop (blankN s + n))
    if m < s.length then (.nul, m, 4) else (v, m, 0))
def putV (v : Js) : List Int × Int := if chkV 1 v ≠ 0 then ([], chkV 1 v) else if 4096 < (printV v).length then ([], 5) else (printV v, 0)
end Go.Proofs.YtbkceneakdbdkaaGreatDoor
/- Plain: whole numbers, laid and taken. -/
namespace Go.Proofs.YtbkceneakdbdkaaGreatDoor
set_option maxRecDepth 20000
set_option linter.unusedVariables false
set_option linter.unusedSimpArgs false
theorem digN_lt {n : Nat} (h : n < 10) : digN n = [48 + (n : Int)] := by rw [digN, dif_pos h]
theorem digN_ge {n : Nat} (h : ¬ n < 10) : digN n = digN (n / 10) ++ [48 + ((n % 10 : Nat) : Int)] := by rw [digN, dif_neg h]
theorem isD_iff (b : Int) : isD b = true ↔ 48 ≤ b ∧ b ≤ 57 := by simp [isD]
theorem digN_all (n : Nat) : ∀ b ∈ digN n, isD b = true := by
  induction n using Nat.strongRecOn with
  | ind n ih =>
    intro b hb
    by_cases h : n < 10
    · rw [digN_lt h] at hb
      rw [isD_iff]
      simp at hb
      omega
    · rw [digN_ge h] at hb
      rcases List.mem_append.1 hb with hb | hb
      · exact ih _ (by omega) b hb
      · rw [isD_iff]
        simp at hb
        omega
theorem digN_ne (n : Nat) : digN n ≠ [] := by
  by_cases h : n < 10
  · rw [digN_lt h]; simp
  · rw [digN_ge h]; simp
theorem digN_head (n : Nat) : 0 < n → (digN n).head? ≠ some 48 := by
  induction n using Nat.strongRecOn with
  | ind n ih =>
    intro hn
    by_cases h : n < 10
    · rw [digN_lt h]
      simp
      omega
    · rw [digN_ge h, List.head?_append]
      have := ih (n / 10) (by omega) (by omega)
      cases hd : (digN (n / 10)).head? with
      | none => exact absurd (List.head?_eq_none_iff.1 hd) (digN_ne _)
      | some b => rw [hd] at this; simpa using this
theorem digN_one {n : Nat} (h : 1 < (digN n).length) : 0 < n := by
  rcases Nat.eq_zero_or_pos n with rfl | h'
  · rw [digN_lt (by omega)] at h; simp at h
  · exact h'
theorem valD_snoc (a : List Int) (c : Int) : valD (a ++ [c]) = 10 * valD a + (c - 48) := by
  unfold valD
  rw [List.foldl_append]
  rfl
theorem valD_digN (n : Nat) : valD (digN n) = n := by
  induction n using Nat.strongRecOn with
  | ind n ih =>
    by_cases h : n < 10
    · rw [digN_lt h, show ([48 + (n : Int)]) = [] ++ [48 + (n : Int)] from rfl, valD_snoc]
      simp [valD]
      omega
    · rw [digN_ge h, valD_snoc, ih _ (by omega)]
      omega
theorem valD_nn (a : List Int) (h : ∀ b ∈ a, isD b = true) : 0 ≤ valD a := by
  suffices H : ∀ (a : List Int) (n : Int), 0 ≤ n → (∀ b ∈ a, isD b = true) → 0 ≤ a.foldl (fun n c => 10 * n + (c - 48)) n from H a 0 (Int.le_refl 0) h
  intro a
  induction a with
  | nil => intro n hn _; exact hn
  | cons c a ih =>
    intro n hn h
    rw [List.foldl_cons]
    have := (isD_iff c).1 (h c (.head _))
    exact ih _ (by omega) (fun b hb => h b (.tail _ hb))
theorem valD_pre (a b : List Int) (h : ∀ x ∈ a ++ b, isD x = true) : valD a ≤ valD (a ++ b) := by
  suffices H : ∀ (b : List Int) (n : Int), 0 ≤ n → (∀ x ∈ b, isD x = true) → n ≤ b.foldl (fun n c => 10 * n + (c - 48)) n by
    have := H b (valD a) (valD_nn a fun x hx => h x (List.mem_append_left _ hx)) (fun x hx => h x (List.mem_append_right _ hx))
    unfold valD at this ⊢
    rw [List.foldl_append]
    exact this
  intro b
  induction b with
  | nil => intro n _ _; exact Int.le_refl n
  | cons c b ih =>
    intro n hn h
    rw [List.foldl_cons]
    have := (isD_iff c).1 (h c (.head _))
    have := ih (10 * n + (c - 48)) (by omega) (fun b hb => h b (.tail _ hb))
    omega
theorem isN_dig {b : Int} (h : isD b = true) : isN b = true := by
  unfold isN
  have := (isD_iff b).1 h
  simp [this]
theorem spanN_all : ∀ (a x : List Int), (∀ b ∈ a, isN b = true) → isN (head0 x) = false → spanN (a ++ x) = a.length
  | [], [], _, _ => rfl
  | [], c :: x, _, h => by
    rw [List.nil_append, spanN, show isN c = false from h]
    rfl
  | b :: a, x, h, hx => by
    rw [List.cons_append, spanN, h b (.head _), if_pos rfl, spanN_all a x (fun c hc => h c (.tail _ hc)) hx]
    rfl
theorem spanN_le : ∀ l : List Int, spanN l ≤ l.length
  | [] => Nat.le_refl _
  | b :: t => by
    rw [spanN, List.length_cons]
    have := spanN_le t
    split <;> omega
theorem blankN_le : ∀ l : List Int, blankN l ≤ l.length
  | [] => Nat.le_refl _
  | b :: t => by
    rw [blankN, List.length_cons]
    have := blankN_le t
    split <;> omega
theorem blankN_zero {l : List Int} (h : isB (head0 l) = false) : blankN l = 0 := by
  cases l with
  | nil => rfl
  | cons b t => rw [blankN, show isB b = false from h]; rfl
theorem blankN_all : ∀ (a l : List Int), (∀ b ∈ a, isB b = true) → blankN (a ++ l) = a.length + blankN l
  | [], l, _ => by rw [List.nil_append, List.length_nil, Nat.zero_add]
  | b :: a, l, h => by
    rw [List.cons_append, blankN, h b (.head _), if_pos rfl, blankN_all a l (fun c hc => h c (.tail _ hc)), List.length_cons]
    omega
theorem digI_neg {n : Int} (h : n < 0) : digI n = 45 :: digN (-n).toNat := by rw [digI, if_pos h]
theorem digI_pos {n : Int} (h : ¬ n < 0) : digI n = digN n.toNat := by rw [digI, if_neg h]
theorem digI_isN (n : Int) : ∀ b ∈ digI n, isN b = true := by
  intro b hb
  by_cases h : n < 0
  · rw [digI_neg h] at hb
    rcases List.mem_cons.1 hb with rfl | hb
    · rfl
    · exact isN_dig (digN_all _ b hb)
  · rw [digI_pos h] at hb
    exact isN_dig (digN_all _ b hb)
theorem digI_cons (n : Int) : ∃ b t, digI n = b :: t ∧ (b = 45 ∨ isD b = true) := by
  by_cases h : n < 0
  · exact ⟨_, _, digI_neg h, .inl rfl⟩
  · rw [digI_pos h]
    cases hd : digN n.toNat with
    | nil => exact absurd hd (digN_ne _)
    | cons b t => exact ⟨b, t, rfl, .inr (digN_all n.toNat b (by rw [hd]; exact .head _))⟩
/-- Digits alone. -/
theorem unsgn_dig {a : List Int} (h : ∀ b ∈ a, isD b = true) : unsgn a = a ∧ isNeg a = false := by
  cases a with
  | nil => exact ⟨rfl, rfl⟩
  | cons b t =>
    have := (isD_iff b).1 (h b (.head _))
    exact ⟨by rw [unsgn, if_neg (by omega)], by rw [isNeg]; simp; omega⟩
theorem all_of {a : List Int} (h : ∀ b ∈ a, isD b = true) : a.all isD = true := List.all_eq_true.2 h
/-- A whole number's digits are taken off again. -/
theorem numP_print {n : Int} (h1 : n ≤ maxI) (h2 : -maxI ≤ n) (x : List Int) (hx : isN (head0 x) = false) : numP (digI n ++ x) = (.num n, (digI n).length, 0) := by
  have hs := spanN_all (digI n) x (digI_isN n) hx
  unfold numP
  rw [hs, List.take_left]
  by_cases h : n < 0
  · have hd := digN_all (-n).toNat
    have hu : unsgn (digI n) = digN (-n).toNat := by rw [digI_neg h]; rfl
    have hn : isNeg (digI n) = true := by rw [digI_neg h]; rfl
    rw [if_neg (by
      unfold badD
      rw [hu]
      rintro (e | e | e)
      · exact digN_ne _ e
      · exact digN_head _ (by omega) e.1
      · exact e (all_of hd)), hu, valD_digN, if_neg (by omega), hn, if_pos rfl]
    congr 2
    omega
  · have hd := digN_all n.toNat
    obtain ⟨hu, hn⟩ := unsgn_dig hd
    rw [digI_pos h]
    rw [if_neg (by
      unfold badD
      rw [hu, hn]
      rintro (e | e | e)
      · exact digN_ne _ e
      · rcases e.2 with f | f
        · exact digN_head _ (digN_one f) e.1
        · cases f
      · exact e (all_of hd)), hu, valD_digN, if_neg (by omega), hn, if_neg (by simp)]
    congr 2
    omega
/-- A cut number is one, or none. -/
theorem numP_cut {n : Int} (h1 : n ≤ maxI) (h2 : -maxI ≤ n) (k : Nat) (hk : k ≤ (digI n).length) :
    (numP ((digI n).take k)).2.2 = 4 ∨ (numP ((digI n).take k)).2.2 = 0 ∧ (numP ((digI n).take k)).2.1 = k := by
  have hs := spanN_all ((digI n).take k) [] (fun b hb => digI_isN n b (List.mem_of_mem_take hb)) rfl
  rw [List.append_nil] at hs
  unfold numP
  rw [hs, List.take_length]
  by_cases hb : badD ((digI n).take k)
  · rw [if_pos hb]; exact .inl rfl
  · rw [if_neg hb]
    have hm : ¬ maxI < valD (unsgn ((digI n).take k)) := by
      by_cases h : n < 0
      · rw [digI_neg h]
        cases k with
        | zero => simp [unsgn, valD, maxI]
        | succ k =>
          rw [List.take_succ_cons, unsgn, if_pos rfl]
          have := valD_pre ((digN (-n).toNat).take k) ((digN (-n).toNat).drop k) (by rw [List.take_append_drop]; exact digN_all _)
          rw [List.take_append_drop, valD_digN] at this
          omega
      · rw [digI_pos h, (unsgn_dig fun b hb => digN_all n.toNat b (List.mem_of_mem_take hb)).1]
        have := valD_pre ((digN n.toNat).take k) ((digN n.toNat).drop k) (by rw [List.take_append_drop]; exact digN_all _)
        rw [List.take_append_drop, valD_digN] at this
        omega
    rw [if_neg hm]
    refine .inr ⟨rfl, ?_⟩
    simp only
    rw [List.length_take]
    omega
/-- What a number is taken of. -/
theorem numP_good (l : List Int) (h : (numP l).2.2 = 0) : ∃ n, (numP l).1 = .num n ∧ n ≤ maxI ∧ -maxI ≤ n ∧ (numP l).2.1 = spanN l ∧ 1 ≤ spanN l := by
  unfold numP at h ⊢
  by_cases hb : badD (l.take (spanN l))
  · rw [if_pos hb] at h; cases h
  rw [if_neg hb] at h ⊢
  by_cases hm : maxI < valD (unsgn (l.take (spanN l)))
  · rw [if_pos hm] at h; cases h
  rw [if_neg hm]
  have ha : (unsgn (l.take (spanN l))).all isD = true := by
    by_cases ha : (unsgn (l.take (spanN l))).all isD = true
    · exact ha
    · exact absurd (.inr (.inr ha)) hb
  have h0 := valD_nn _ (List.all_eq_true.1 ha)
  refine ⟨_, rfl, ?_, ?_, rfl, ?_⟩
  · split <;> simp only [maxI] at hm ⊢ <;> omega
  · split <;> simp only [maxI] at hm ⊢ <;> omega
  · rcases Nat.eq_zero_or_pos (spanN l) with e | e
    · refine absurd (.inl ?_) hb
      rw [e]
      rfl
    · exact e
theorem numP_le (l : List Int) : (numP l).2.1 ≤ l.length := by
  unfold numP
  split
  · exact Nat.zero_le _
  split
  · exact Nat.zero_le _
  · exact spanN_le l
end Go.Proofs.YtbkceneakdbdkaaGreatDoor
/- Plain: what is taken of bytes: within them, with fuel enough just one answer, and a value that may be laid. -/
namespace Go.Proofs.YtbkceneakdbdkaaGreatDoor
set_option maxRecDepth 20000
set_option linter.unusedVariables false
set_option linter.unusedSimpArgs false
/-! ### Parts -/
theorem textP_is (l : List Int) : textP l = takeP l 0 := by rw [takeP_zero]; cases l <;> rfl
theorem textP_le (l : List Int) : (textP l).2.1 ≤ l.length := by
  rw [textP_is]
  by_cases h : (takeP l 0).2.2 = 0
  · exact (take_good l h).2.2.1
  · exact (take_bad l h).2.1
theorem textP_one (l : List Int) (h : (textP l).2.2 = 0) : 2 ≤ (textP l).2.1 ∧ 0 ≤ countP (textP l).1 := by
  rw [textP_is] at h ⊢
  obtain ⟨⟨k, hv⟩, h2, _⟩ := take_good l h
  exact ⟨h2, by rw [count_is hv]; omega⟩
theorem wordG_le : ∀ (w l : List Int) (i : Nat), (wordG w l i).1 ≤ i + l.length ∧ ((wordG w l i).2 = 0 → (wordG w l i).1 = i + w.length)
  | [], l, i => ⟨Nat.le_add_right _ _, fun _ => rfl⟩
  | _ :: _, [], i => ⟨Nat.le_add_right _ _, fun h => by cases h⟩
  | c :: w, b :: t, i => by
    rw [wordG]
    split
    · obtain ⟨a, d⟩ := wordG_le w t (i + 1)
      exact ⟨by rw [List.length_cons]; omega, fun h => by rw [d h, List.length_cons]; omega⟩
    · exact ⟨Nat.zero_le _, fun h => by cases h⟩
theorem wordP_le (w : List Int) (v : Js) (l : List Int) (hw : 1 ≤ w.length) : (wordP w v l).2.1 ≤ l.length ∧ ((wordP w v l).2.2 = 0 → 1 ≤ (wordP w v l).2.1 ∧ (wordP w v l).1 = v) := by
  obtain ⟨a, d⟩ := wordG_le w l 0
  unfold wordP
  split
  · rename_i h
    exact ⟨by simpa using a, fun _ => ⟨by rw [d h]; omega, rfl⟩⟩
  · rename_i h
    exact ⟨by simpa using a, fun h' => absurd h' h⟩
theorem pairP_le (ob : Bool) (names : List (List Int)) (l : List Int) : (pairP ob names l).2.1 ≤ l.length := by
  unfold pairP
  by_cases ho : ob = false
  · rw [if_pos ho]; exact Nat.zero_le _
  rw [if_neg ho]
  have hl := textP_le l
  rcases ht : textP l with ⟨name, n, e⟩
  rw [ht] at hl
  simp only at hl ⊢
  have hb := blankN_le (l.drop n)
  have hb2 := blankN_le (l.drop (n + blankN (l.drop n) + 1))
  rw [List.length_drop] at hb hb2
  split
  · exact hl
  split
  · exact Nat.zero_le _
  split
  · simp only; omega
  rename_i h3
  have h3 : n + blankN (l.drop n) < l.length := by
    have := mt List.drop_eq_nil_iff.2 h3
    omega
  split <;> simp only <;> omega
theorem pairP_good (ob : Bool) (names : List (List Int)) (l : List Int) (h : (pairP ob names l).2.2 = 0) :
    (ob = false → (pairP ob names l).1 = [] ∧ (pairP ob names l).2.1 = 0) ∧ (ob = true → 0 ≤ countP (pairP ob names l).1 ∧ (pairP ob names l).1 ∉ names ∧ 3 ≤ (pairP ob names l).2.1) := by
  unfold pairP at h ⊢
  by_cases ho : ob = false
  · rw [if_pos ho]; exact ⟨fun _ => ⟨rfl, rfl⟩, fun h => by rw [ho] at h; cases h⟩
  rw [if_neg ho] at h ⊢
  refine ⟨fun h => absurd h ho, fun _ => ?_⟩
  have ht1 := textP_one l
  rcases ht : textP l with ⟨name, n, e⟩
  rw [ht] at ht1 h
  simp only at ht1 h ⊢
  by_cases he : e ≠ 0
  · rw [if_pos he] at h; exact absurd h he
  rw [if_neg he] at h ⊢
  obtain ⟨t1, t2⟩ := ht1 (by omega)
  by_cases hn : name ∈ names
  · rw [if_pos hn] at h; cases h
  rw [if_neg hn] at h ⊢
  by_cases h3 : l.drop (n + blankN (l.drop n)) = []
  · rw [if_pos h3] at h; cases h
  rw [if_neg h3] at h ⊢
  by_cases h4 : head0 (l.drop (n + blankN (l.drop n))) ≠ 58
  · rw [if_pos h4] at h; cases h
  rw [if_neg h4]
  exact ⟨t2, hn, by simp only; omega⟩
/-! ### One round of items -/
/-- What comes behind an item that was taken. -/
def restP (f d : Nat) (ob : Bool) (fin : Int) (names : List (List Int)) (k : Nat) (l name : List Int) (v : Js) (m : Nat) : Jl × Nat × Int :=
  if l.drop m = [] then (.nil, m, 3) else if head0 (l.drop m) = fin then (.cons name v .nil, m + 1, 0) else if head0 (l.drop m) ≠ 44 then (.nil, m, 4) else
  if (itemsP f d ob fin (names ++ [name]) (k + 1) (l.drop (m + 1 + blankN (l.drop (m + 1))))).2.2 ≠ 0 then
    (.nil, m + 1 + blankN (l.drop (m + 1)) + (itemsP f d ob fin (names ++ [name]) (k + 1) (l.drop (m + 1 + blankN (l.drop (m + 1))))).2.1, (itemsP f d ob fin (names ++ [name]) (k + 1) (l.drop (m + 1 + blankN (l.drop (m + 1))))).2.2)
  else (.cons name v (itemsP f d ob fin (names ++ [name]) (k + 1) (l.drop (m + 1 + blankN (l.drop (m + 1))))).1, m + 1 + blankN (l.drop (m + 1)) + (itemsP f d ob fin (names ++ [name]) (k + 1) (l.drop (m + 1 + blankN (l.drop (m + 1))))).2.1, 0)
theorem itemsP_step (f d : Nat) (ob : Bool) (fin : Int) (names : List (List Int)) (k : Nat) (l : List Int) : itemsP (f + 1) d ob fin names k l =
    if l ≠ [] ∧ 64 ≤ k then (.nil, 0, 21) else if (pairP ob names l).2.2 ≠ 0 then (.nil, (pairP ob names l).2.1, (pairP ob names l).2.2) else
    if (valueP f (d + 1) (l.drop (pairP ob names l).2.1)).2.2 ≠ 0 then (.nil, (pairP ob names l).2.1 + (valueP f (d + 1) (l.drop (pairP ob names l).2.1)).2.1, (valueP f (d + 1) (l.drop (pairP ob names l).2.1)).2.2)
    else restP f d ob fin names k l (pairP ob names l).1 (valueP f (d + 1) (l.drop (pairP ob names l).2.1)).1 ((pairP ob names l).2.1 + (valueP f (d + 1) (l.drop (pairP ob names l).2.1)).2.1 + blankN (l.drop ((pairP ob names l).2.1 + (valueP f (d + 1) (l.drop (pairP ob names l).2.1)).2.1))) := by
  rw [itemsP]
  rfl
/-- A value's arms. -/
theorem valueP_box (f d : Nat) (b : Int) (t : List Int) (h : b = 91 ∨ b = 123) : valueP (f + 1) d (b :: t) =
    if 4 < d then (.nul, 0, 20) else if head0 (t.drop (blankN t)) = b + 2 then (if b = 91 then .arr .nil else .obj .nil, blankN t + 2, 0)
      else if (itemsP f d (decide (b = 123)) (b + 2) [] 0 (t.drop (blankN t))).2.2 ≠ 0 then (.nul, blankN t + 1 + (itemsP f d (decide (b = 123)) (b + 2) [] 0 (t.drop (blankN t))).2.1, (itemsP f d (decide (b = 123)) (b + 2) [] 0 (t.drop (blankN t))).2.2)
      else (if b = 91 then .arr (itemsP f d (decide (b = 123)) (b + 2) [] 0 (t.drop (blankN t))).1 else .obj (itemsP f d (decide (b = 123)) (b + 2) [] 0 (t.drop (blankN t))).1, blankN t + 1 + (itemsP f d (decide (b = 123)) (b + 2) [] 0 (t.drop (blankN t))).2.1, 0) := by
  rw [valueP, if_neg (by omega), if_neg (by omega), if_neg (by omega), if_neg (by omega), if_pos h]
/-- What is no list and no object. -/
def flatP (l : List Int) : Js × Nat × Int :=
  match l with
  | [] => (.nul, 0, 3)
  | b :: t =>
    if b = 110 then wordP [110, 117, 108, 108] .nul (b :: t)
    else if b = 102 then wordP [102, 97, 108, 115, 101] (.bool false) (b :: t)
    else if b = 116 then wordP [116, 114, 117, 101] (.bool true) (b :: t)
    else if b = 34 then (if (textP (b :: t)).2.2 = 0 then (.str (textP (b :: t)).1, (textP (b :: t)).2.1, 0) else (.nul, (textP (b :: t)).2.1, (textP (b :: t)).2.2))
    else if b = 45 ∨ isD b = true then numP (b :: t)
    else (.nul, 0, 4)
theorem valueP_flat (f d : Nat) (l : List Int) (h : head0 l ≠ 91 ∧ head0 l ≠ 123) : valueP (f + 1) d l = flatP l := by
  cases l with
  | nil => rfl
  | cons b t =>
    have h1 : ¬ (b = 91 ∨ b = 123) := by rintro (e | e); exact h.1 e; exact h.2 e
    rw [valueP, flatP]
    repeat' split
    all_goals first | rfl | exact absurd ‹b = 91 ∨ b = 123› h1
theorem flatP_le (l : List Int) : (flatP l).2.1 ≤ l.length ∧ ((flatP l).2.2 = 0 → 1 ≤ (flatP l).2.1) := by
  cases l with
  | nil => exact ⟨Nat.le_refl _, fun h => by cases h⟩
  | cons b t =>
    rw [flatP]
    by_cases h1 : b = 110
    · rw [if_pos h1]
      obtain ⟨a, c⟩ := wordP_le [110, 117, 108, 108] .nul (b :: t) (by simp)
      exact ⟨a, fun h => (c h).1⟩
    rw [if_neg h1]
    by_cases h2 : b = 102
    · rw [if_pos h2]
      obtain ⟨a, c⟩ := wordP_le [102, 97, 108, 115, 101] (.bool false) (b :: t) (by simp)
      exact ⟨a, fun h => (c h).1⟩
    rw [if_neg h2]
    by_cases h3 : b = 116
    · rw [if_pos h3]
      obtain ⟨a, c⟩ := wordP_le [116, 114, 117, 101] (.bool true) (b :: t) (by simp)
      exact ⟨a, fun h => (c h).1⟩
    rw [if_neg h3]
    by_cases h4 : b = 34
    · rw [if_pos h4]
      have ht := textP_le (b :: t)
      have ho := textP_one (b :: t)
      split
      · rename_i h; exact ⟨ht, fun _ => by have := ho h; simp only; omega⟩
      · rename_i h; exact ⟨ht, fun h' => absurd h' h⟩
    rw [if_neg h4]
    by_cases h5 : b = 45 ∨ isD b = true
    · rw [if_pos h5]
      refine ⟨numP_le _, fun h => ?_⟩
      obtain ⟨n, e1, e2, e3, e4, e5⟩ := numP_good _ h
      omega
    rw [if_neg h5]
    exact ⟨Nat.zero_le _, fun h => by cases h⟩
/-! ### Within the bytes -/
def InV (r : Js × Nat × Int) (n : Nat) : Prop := r.2.1 ≤ n ∧ (r.2.2 = 0 → 1 ≤ r.2.1)
def InL (r : Jl × Nat × Int) (n : Nat) : Prop := r.2.1 ≤ n ∧ (r.2.2 = 0 → 1 ≤ r.2.1)
theorem drop_pos {l : List Int} {m : Nat} (h : l.drop m ≠ []) : m < l.length := by
  have := mt List.drop_eq_nil_iff.2 h
  omega
theorem head0_len {l : List Int} {b : Int} (h : head0 l = b) (hb : b ≠ -1) : 1 ≤ l.length := by
  cases l with
  | nil => exact absurd h.symm hb
  | cons c t => simp
theorem within (f : Nat) : (∀ d l, InV (valueP f d l) l.length) ∧ ∀ d ob fin names k l, InL (itemsP f d ob fin names k l) l.length := by
  induction f with
  | zero => exact ⟨fun d l => ⟨by rw [valueP]; exact Nat.le_refl _, fun h => by rw [valueP] at h; cases h⟩, fun d ob fin names k l => ⟨by rw [itemsP]; exact Nat.le_refl _, fun h => by rw [itemsP] at h; cases h⟩⟩
  | succ f ih =>
    refine ⟨fun d l => ?_, fun d ob fin names k l => ?_⟩
    · by_cases h : head0 l = 91 ∨ head0 l = 123
      · cases l with
        | nil => rcases h with h | h <;> cases h
        | cons b t =>
          have h : b = 91 ∨ b = 123 := h
          rw [valueP_box f d b t h]
          have hb := blankN_le t
          have hi := ih.2 d (decide (b = 123)) (b + 2) [] 0 (t.drop (blankN t))
          unfold InL at hi
          rw [List.length_drop] at hi
          unfold InV
          rw [List.length_cons]
          split
          · exact ⟨Nat.zero_le _, fun h => by cases h⟩
          split
          · rename_i h2
            have := head0_len h2 (by omega)
            rw [List.length_drop] at this
            exact ⟨by simp only; omega, fun _ => by simp only; omega⟩
          split
          · rename_i h3; exact ⟨by simp only; omega, fun h' => absurd h' h3⟩
          · exact ⟨by simp only; omega, fun _ => by simp only; omega⟩
      · rw [valueP_flat f d l ⟨fun e => h (.inl e), fun e => h (.inr e)⟩]
        exact flatP_le l
    · rw [itemsP_step]
      have hp := pairP_le ob names l
      generalize pairP ob names l = P at hp ⊢
      have hv := ih.1 (d + 1) (l.drop P.2.1)
      generalize valueP f (d + 1) (l.drop P.2.1) = V at hv ⊢
      unfold InV at hv
      rw [List.length_drop] at hv
      have hm := blankN_le (l.drop (P.2.1 + V.2.1))
      rw [List.length_drop] at hm
      have hm : P.2.1 + V.2.1 + blankN (l.drop (P.2.1 + V.2.1)) ≤ l.length := by omega
      generalize P.2.1 + V.2.1 + blankN (l.drop (P.2.1 + V.2.1)) = m at hm ⊢
      unfold InL
      split
      · exact ⟨Nat.zero_le _, fun h => by cases h⟩
      split
      · rename_i h; exact ⟨hp, fun h' => absurd h' h⟩
      split
      · rename_i h; exact ⟨by simp only; omega, fun h' => absurd h' h⟩
      unfold restP
      split
      · exact ⟨hm, fun h => by cases h⟩
      rename_i h4
      have h4 := drop_pos h4
      split
      · exact ⟨by simp only; omega, fun _ => by simp only; omega⟩
      split
      · exact ⟨hm, fun h => by cases h⟩
      have hq := blankN_le (l.drop (m + 1))
      rw [List.length_drop] at hq
      have hq : m + 1 + blankN (l.drop (m + 1)) ≤ l.length := by omega
      have hq1 : 1 ≤ m + 1 + blankN (l.drop (m + 1)) := by omega
      generalize m + 1 + blankN (l.drop (m + 1)) = q at hq hq1 ⊢
      have hi := ih.2 d ob fin (names ++ [P.1]) (k + 1) (l.drop q)
      unfold InL at hi
      rw [List.length_drop] at hi
      split
      · rename_i h; exact ⟨by simp only; omega, fun h' => absurd h' h⟩
      · exact ⟨by simp only; omega, fun _ => by simp only; omega⟩
/-! ### With fuel enough just one answer -/
theorem enough (f : Nat) : (∀ g d l, 2 * l.length + 1 ≤ f → 2 * l.length + 1 ≤ g → valueP f d l = valueP g d l) ∧ ∀ g d ob fin names k l, 2 * l.length + 2 ≤ f → 2 * l.length + 2 ≤ g → itemsP f d ob fin names k l = itemsP g d ob fin names k l := by
  induction f with
  | zero => exact ⟨fun g d l h => by omega, fun g d ob fin names k l h => by omega⟩
  | succ f ih =>
    refine ⟨fun g d l hf hg => ?_, fun g d ob fin names k l hf hg => ?_⟩
    · cases g with
      | zero => omega
      | succ g =>
        by_cases h : head0 l = 91 ∨ head0 l = 123
        · cases l with
          | nil => rcases h with h | h <;> cases h
          | cons b t =>
            have h : b = 91 ∨ b = 123 := h
            rw [List.length_cons] at hf hg
            rw [valueP_box f d b t h, valueP_box g d b t h, ih.2 g d _ _ _ _ _ (by rw [List.length_drop]; omega) (by rw [List.length_drop]; omega)]
        · have h : head0 l ≠ 91 ∧ head0 l ≠ 123 := ⟨fun e => h (.inl e), fun e => h (.inr e)⟩
          rw [valueP_flat f d l h, valueP_flat g d l h]
    · cases g with
      | zero => omega
      | succ g =>
        rw [itemsP_step, itemsP_step, ih.1 g (d + 1) _ (by rw [List.length_drop]; omega) (by rw [List.length_drop]; omega)]
        unfold restP
        by_cases hl : l.length = 0
        · obtain rfl : l = [] := List.eq_nil_of_length_eq_zero hl
          simp only [List.drop_nil, if_true]
        · rw [ih.2 g d _ _ _ _ _ (by rw [List.length_drop]; omega) (by rw [List.length_drop]; omega)]
end Go.Proofs.YtbkceneakdbdkaaGreatDoor
/- Plain: what was taken may be laid. -/
namespace Go.Proofs.YtbkceneakdbdkaaGreatDoor
set_option maxRecDepth 20000
set_option linter.unusedVariables false
set_option linter.unusedSimpArgs false
mutual
/-- A list's items have no names. -/
def bareV : Js → Prop
  | .arr l => bareL false l
  | .obj l => bareL true l
  | _ => True
def bareL (ob : Bool) : Jl → Prop
  | .nil => True
  | .cons n v l => (ob = false → n = []) ∧ bareV v ∧ bareL ob l
end
def MayV (d : Nat) (v : Js) : Prop := chkV d v = 0 ∧ bareV v
def MayL (ob : Bool) (d : Nat) (names : List (List Int)) (l : Jl) : Prop := chkL ob d names l = 0 ∧ bareL ob l
theorem flatP_may (d : Nat) (l : List Int) (h : (flatP l).2.2 = 0) : MayV d (flatP l).1 := by
  cases l with
  | nil => cases h
  | cons b t =>
    rw [flatP] at h ⊢
    by_cases h1 : b = 110
    · rw [if_pos h1] at h ⊢
      rw [((wordP_le _ _ (b :: t) (by simp)).2 h).2]
      exact ⟨by rw [chkV], by simp only [bareV]⟩
    rw [if_neg h1] at h ⊢
    by_cases h2 : b = 102
    · rw [if_pos h2] at h ⊢
      rw [((wordP_le _ _ (b :: t) (by simp)).2 h).2]
      exact ⟨by rw [chkV], by simp only [bareV]⟩
    rw [if_neg h2] at h ⊢
    by_cases h3 : b = 116
    · rw [if_pos h3] at h ⊢
      rw [((wordP_le _ _ (b :: t) (by simp)).2 h).2]
      exact ⟨by rw [chkV], by simp only [bareV]⟩
    rw [if_neg h3] at h ⊢
    by_cases h4 : b = 34
    · rw [if_pos h4] at h ⊢
      by_cases h6 : (textP (b :: t)).2.2 = 0
      · rw [if_pos h6]
        have := (textP_one _ h6).2
        exact ⟨by rw [chkV, if_neg (by omega)], by simp only [bareV]⟩
      · rw [if_neg h6] at h
        exact absurd h h6
    rw [if_neg h4] at h ⊢
    by_cases h5 : b = 45 ∨ isD b = true
    · rw [if_pos h5] at h ⊢
      obtain ⟨n, e1, e2, e3, e4, e5⟩ := numP_good _ h
      rw [e1]
      exact ⟨by rw [chkV, if_neg (by omega)], by simp only [bareV]⟩
    rw [if_neg h5] at h
    cases h
theorem taken (f : Nat) : (∀ d l, (valueP f d l).2.2 = 0 → MayV d (valueP f d l).1) ∧
    ∀ d ob fin names k l, (itemsP f d ob fin names k l).2.2 = 0 → MayL ob d names (itemsP f d ob fin names k l).1 ∧ k + (itemsP f d ob fin names k l).1.length ≤ 64 := by
  induction f with
  | zero => exact ⟨fun d l h => (by rw [valueP] at h; cases h), fun d ob fin names k l h => (by rw [itemsP] at h; cases h)⟩
  | succ f ih =>
    refine ⟨fun d l h => ?_, fun d ob fin names k l h => ?_⟩
    · by_cases hb : head0 l = 91 ∨ head0 l = 123
      · cases l with
        | nil => rcases hb with h | h <;> cases h
        | cons b t =>
          have hb : b = 91 ∨ b = 123 := hb
          rw [valueP_box f d b t hb] at h ⊢
          by_cases h1 : 4 < d
          · rw [if_pos h1] at h; cases h
          rw [if_neg h1] at h ⊢
          by_cases h2 : head0 (t.drop (blankN t)) = b + 2
          · rw [if_pos h2]
            simp only
            split
            · exact ⟨by rw [chkV, if_neg h1, if_neg (by simp [Jl.length]), chkL], by rw [bareV, bareL]; trivial⟩
            · exact ⟨by rw [chkV, if_neg h1, if_neg (by simp [Jl.length]), chkL], by rw [bareV, bareL]; trivial⟩
          rw [if_neg h2] at h ⊢
          by_cases h3 : (itemsP f d (decide (b = 123)) (b + 2) [] 0 (t.drop (blankN t))).2.2 ≠ 0
          · rw [if_pos h3] at h; exact absurd h h3
          rw [if_neg h3]
          obtain ⟨⟨m1, m2⟩, m3⟩ := ih.2 d (decide (b = 123)) (b + 2) [] 0 (t.drop (blankN t)) (by omega)
          simp only
          split
          · rename_i h4
            rw [show decide (b = 123) = false by simp; omega] at m1 m2 m3 ⊢
            exact ⟨by rw [chkV, if_neg h1, if_neg (by omega), m1], by rw [bareV]; exact m2⟩
          · rename_i h4
            rw [show decide (b = 123) = true by simp; omega] at m1 m2 m3 ⊢
            exact ⟨by rw [chkV, if_neg h1, if_neg (by omega), m1], by rw [bareV]; exact m2⟩
      · have hb : head0 l ≠ 91 ∧ head0 l ≠ 123 := ⟨fun e => hb (.inl e), fun e => hb (.inr e)⟩
        rw [valueP_flat f d l hb] at h ⊢
        exact flatP_may d l h
    · rw [itemsP_step] at h ⊢
      by_cases h1 : l ≠ [] ∧ 64 ≤ k
      · rw [if_pos h1] at h; cases h
      rw [if_neg h1] at h ⊢
      have hp := pairP_good ob names l
      have hp0 := pairP_le ob names l
      generalize pairP ob names l = P at hp hp0 h ⊢
      by_cases h2 : P.2.2 ≠ 0
      · rw [if_pos h2] at h; exact absurd h h2
      rw [if_neg h2] at h ⊢
      have hv := ih.1 (d + 1) (l.drop P.2.1)
      have hvl := (within f).1 (d + 1) (l.drop P.2.1)
      generalize valueP f (d + 1) (l.drop P.2.1) = V at hv hvl h ⊢
      by_cases h3 : V.2.2 ≠ 0
      · rw [if_pos h3] at h; exact absurd h h3
      rw [if_neg h3] at h ⊢
      obtain ⟨p1, p2⟩ := hp (by omega)
      obtain ⟨v1, v2⟩ := hv (by omega)
      obtain ⟨w1, w2⟩ := hvl
      have w2 := w2 (by omega)
      rw [List.length_drop] at w1
      have hk : k + 1 ≤ 64 := by
        rcases Nat.lt_or_ge k 64 with e | e
        · omega
        · refine absurd ⟨?_, e⟩ h1
          rintro rfl
          rw [List.length_nil] at w1
          omega
      have hc : ∀ x, chkL ob d names (.cons P.1 V.1 x) = chkL ob d (names ++ [P.1]) x := by
        intro x
        rw [chkL, if_neg (fun e => by have := (p2 e.1).1; omega), if_neg (fun e => (p2 e.1).2.1 e.2), v1, if_neg (by simp)]
      have hbr : ∀ x, bareL ob x → bareL ob (.cons P.1 V.1 x) := by
        intro x hx
        rw [bareL]
        exact ⟨fun e => (p1 e).1, v2, hx⟩
      generalize P.2.1 + V.2.1 + blankN (l.drop (P.2.1 + V.2.1)) = m at h ⊢
      unfold restP at h ⊢
      by_cases h4 : l.drop m = []
      · rw [if_pos h4] at h; cases h
      rw [if_neg h4] at h ⊢
      by_cases h5 : head0 (l.drop m) = fin
      · rw [if_pos h5]
        exact ⟨⟨by rw [hc, chkL], hbr _ (by rw [bareL]; trivial)⟩, by simp only [Jl.length]; omega⟩
      rw [if_neg h5] at h ⊢
      by_cases h6 : head0 (l.drop m) ≠ 44
      · rw [if_pos h6] at h; cases h
      rw [if_neg h6] at h ⊢
      have hi := ih.2 d ob fin (names ++ [P.1]) (k + 1) (l.drop (m + 1 + blankN (l.drop (m + 1))))
      generalize itemsP f d ob fin (names ++ [P.1]) (k + 1) (l.drop (m + 1 + blankN (l.drop (m + 1)))) = I at hi h ⊢
      by_cases h7 : I.2.2 ≠ 0
      · rw [if_pos h7] at h; exact absurd h h7
      rw [if_neg h7]
      obtain ⟨⟨i1, i2⟩, i3⟩ := hi (by omega)
      exact ⟨⟨by rw [hc, i1], hbr _ i2⟩, by simp only [Jl.length]; omega⟩
end Go.Proofs.YtbkceneakdbdkaaGreatDoor
/- Plain: a value that is laid is taken again. -/
namespace Go.Proofs.YtbkceneakdbdkaaGreatDoor
set_option maxRecDepth 20000
set_option linter.unusedVariables false
set_option linter.unusedSimpArgs false
/-! ### How JSON begins -/
theorem head0_app (a x : List Int) (h : a ≠ []) : head0 (a ++ x) = head0 a := by
  cases a with
  | nil => exact absurd rfl h
  | cons b t => rfl
theorem print_head (d : Nat) (v : Js) (h : chkV d v = 0) : printV v ≠ [] ∧ isB (head0 (printV v)) = false ∧ head0 (printV v) ≠ 93 ∧ head0 (printV v) ≠ 125 := by
  cases v with
  | nul => rw [printV]; exact ⟨by simp, by rfl, by decide, by decide⟩
  | bool b => cases b <;> (rw [printV]; exact ⟨by simp, by rfl, by decide, by decide⟩)
  | num n =>
    rw [printV]
    obtain ⟨b, t, e, hb⟩ := digI_cons n
    rw [e]
    refine ⟨by simp, ?_, ?_, ?_⟩
    · show isB b = false
      rcases hb with rfl | hb
      · rfl
      · have := (isD_iff b).1 hb
        unfold isB
        simp
        omega
    · show b ≠ 93
      rcases hb with rfl | hb
      · decide
      · have := (isD_iff b).1 hb; omega
    · show b ≠ 125
      rcases hb with rfl | hb
      · decide
      · have := (isD_iff b).1 hb; omega
  | str s => rw [printV, quoteS]; exact ⟨by simp, by rfl, by simp [head0], by simp [head0]⟩
  | arr l => rw [printV]; exact ⟨by simp, by rfl, by simp [head0], by simp [head0]⟩
  | obj l => rw [printV]; exact ⟨by simp, by rfl, by simp [head0], by simp [head0]⟩
  | bad => rw [chkV] at h; cases h
def nameB (ob : Bool) (n : List Int) : List Int := if ob then quoteS n ++ [58] else []
theorem body_cons (ob : Bool) (n : List Int) (v : Js) (l : Jl) : bodyP ob (.cons n v l) = nameB ob n ++ printV v ++ tailP ob l := by rw [bodyP]; rfl
theorem tail_cons (ob : Bool) (n : List Int) (v : Js) (l : Jl) : tailP ob (.cons n v l) = 44 :: bodyP ob (.cons n v l) := by rw [tailP, bodyP]
theorem tail_nil (ob : Bool) : tailP ob .nil = [] := by rw [tailP]
theorem body_head (ob : Bool) (d : Nat) (n : List Int) (v : Js) (l : Jl) (h : chkV (d + 1) v = 0) : bodyP ob (.cons n v l) ≠ [] ∧ isB (head0 (bodyP ob (.cons n v l))) = false ∧ head0 (bodyP ob (.cons n v l)) ≠ 93 ∧ head0 (bodyP ob (.cons n v l)) ≠ 125 := by
  rw [body_cons]
  obtain ⟨a, b, c, e⟩ := print_head (d + 1) v h
  cases ob with
  | false =>
    rw [nameB, if_neg (by simp), List.nil_append]
    refine ⟨by simp [a], ?_⟩
    rw [head0_app _ _ a]
    exact ⟨b, c, e⟩
  | true =>
    rw [nameB, if_pos rfl, quoteS]
    exact ⟨by simp, by rfl, by simp [head0], by simp [head0]⟩
theorem chk_cons {ob : Bool} {d : Nat} {names : List (List Int)} {n : List Int} {v : Js} {l : Jl} (h : chkL ob d names (.cons n v l) = 0) :
    (ob = true → 0 ≤ countP n ∧ n ∉ names) ∧ chkV (d + 1) v = 0 ∧ chkL ob d (names ++ [n]) l = 0 := by
  rw [chkL] at h
  by_cases h1 : ob = true ∧ countP n < 0
  · rw [if_pos h1] at h; cases h
  rw [if_neg h1] at h
  by_cases h2 : ob = true ∧ n ∈ names
  · rw [if_pos h2] at h; cases h
  rw [if_neg h2] at h
  by_cases h3 : chkV (d + 1) v ≠ 0
  · rw [if_pos h3] at h; exact absurd h h3
  rw [if_neg h3] at h
  refine ⟨fun e => ⟨?_, fun e' => h2 ⟨e, e'⟩⟩, by omega, h⟩
  exact Int.not_lt.1 fun e' => h1 ⟨e, e'⟩
/-! ### Texts and names -/
theorem textP_print {s : List Int} (h : 0 ≤ countP s) (x : List Int) : textP (quoteS s ++ x) = (s, (quoteS s).length, 0) := by
  obtain ⟨n, hv, _⟩ := count_of h
  have := take_quote hv [] x
  rw [List.nil_append, List.length_nil] at this
  rw [textP_is]
  have e : takeP (quoteS s ++ x) 0 = _ := this
  rw [e, Nat.zero_add]
  rfl
theorem pairP_print {ob : Bool} {names : List (List Int)} {n : List Int} (h : ob = true → 0 ≤ countP n ∧ n ∉ names) (hn : ob = false → n = []) (x : List Int) (hx : isB (head0 x) = false) :
    pairP ob names (nameB ob n ++ x) = (n, (nameB ob n).length, 0) := by
  cases ob with
  | false => rw [pairP, if_pos rfl, hn rfl, nameB, if_neg (by simp)]; rfl
  | true =>
    obtain ⟨h1, h2⟩ := h rfl
    rw [pairP, if_neg (by simp), nameB, if_pos rfl, List.append_assoc, textP_print h1]
    simp only
    rw [if_neg (by simp), if_neg h2, List.drop_left, show blankN ([58] ++ x) = 0 from blankN_zero rfl, Nat.add_zero, List.drop_left, if_neg (by simp), if_neg (by simp [head0])]
    have : (quoteS n ++ ([58] ++ x)).drop ((quoteS n).length + 1) = x := by
      rw [← List.drop_drop, List.drop_left]
      rfl
    rw [this, blankN_zero hx, Nat.add_zero, List.length_append]
    rfl
theorem word_same : ∀ (w x : List Int) (i : Nat), wordG w (w ++ x) i = (i + w.length, 0)
  | [], x, i => rfl
  | c :: w, x, i => by
    rw [List.cons_append, wordG, if_pos rfl, word_same w x (i + 1), List.length_cons]
    congr 1
    omega
theorem wordP_same (w : List Int) (v : Js) (x : List Int) : wordP w v (w ++ x) = (v, w.length, 0) := by
  unfold wordP
  rw [word_same, if_pos rfl, Nat.zero_add]
/-- Whether other bytes may stand behind a value. -/
def Free (v : Js) (x : List Int) : Prop := ∀ n, v = .num n → isN (head0 x) = false
theorem flatP_print (d : Nat) (v : Js) (h : chkV d v = 0) (hl : (∀ l, v ≠ .arr l) ∧ ∀ l, v ≠ .obj l) (x : List Int) (hx : Free v x) : flatP (printV v ++ x) = (v, (printV v).length, 0) ∧ head0 (printV v ++ x) ≠ 91 ∧ head0 (printV v ++ x) ≠ 123 := by
  cases v with
  | nul =>
    rw [printV]
    exact ⟨wordP_same [110, 117, 108, 108] .nul x, by simp [head0], by simp [head0]⟩
  | bool b =>
    cases b <;> rw [printV]
    · exact ⟨wordP_same [102, 97, 108, 115, 101] (.bool false) x, by simp [head0], by simp [head0]⟩
    · exact ⟨wordP_same [116, 114, 117, 101] (.bool true) x, by simp [head0], by simp [head0]⟩
  | num n =>
    rw [printV]
    rw [chkV] at h
    by_cases hm : maxI < n ∨ n < -maxI
    · rw [if_pos hm] at h; cases h
    have hp := numP_print (n := n) (by omega) (by omega) x (hx n rfl)
    obtain ⟨b, t, e, hb⟩ := digI_cons n
    rw [e, List.cons_append] at hp ⊢
    have hb2 : b = 45 ∨ 48 ≤ b ∧ b ≤ 57 := by rcases hb with e | e; exact .inl e; exact .inr ((isD_iff b).1 e)
    refine ⟨?_, by show b ≠ 91; omega, by show b ≠ 123; omega⟩
    rw [flatP]
    rw [if_neg (by omega), if_neg (by omega), if_neg (by omega), if_neg (by omega), if_pos hb, hp]
  | str s =>
    rw [printV]
    rw [chkV] at h
    have hc : 0 ≤ countP s := by
      by_cases e : countP s < 0
      · rw [if_pos e] at h; cases h
      · omega
    have ht := textP_print hc x
    refine ⟨?_, by simp [quoteS, head0], by simp [quoteS, head0]⟩
    have hq : quoteS s ++ x = 34 :: (quoteB s ++ [34] ++ x) := by simp [quoteS]
    rw [hq] at ht ⊢
    rw [flatP]
    rw [if_neg (by decide), if_neg (by decide), if_neg (by decide), if_pos rfl, ht, if_pos rfl]
  | arr l => exact absurd rfl (hl.1 l)
  | obj l => exact absurd rfl (hl.2 l)
  | bad => rw [chkV] at h; cases h
/-! ### Back -/
theorem drop_add_left (a b : List Int) (n : Nat) : (a ++ b).drop (a.length + n) = b.drop n := by rw [← List.drop_drop, List.drop_left]
/-- An item of those, and what comes behind. -/
theorem items_one (f d : Nat) (ob : Bool) (fin : Int) (names : List (List Int)) (k : Nat) (n : List Int) (v : Js) (y : List Int) (hk : k < 64) (hc : ob = true → 0 ≤ countP n ∧ n ∉ names) (hn : ob = false → n = [])
    (hv : chkV (d + 1) v = 0) (hy : isB (head0 y) = false) (hvv : valueP f (d + 1) (printV v ++ y) = (v, (printV v).length, 0)) :
    itemsP (f + 1) d ob fin names k (nameB ob n ++ (printV v ++ y)) = restP f d ob fin names k (nameB ob n ++ (printV v ++ y)) n v ((nameB ob n).length + (printV v).length) := by
  obtain ⟨p1, p2, p3, p4⟩ := print_head (d + 1) v hv
  rw [itemsP_step, if_neg (by omega), pairP_print hc hn _ (by rw [head0_app _ _ p1]; exact p2)]
  simp only
  rw [if_neg (by simp), List.drop_left, hvv]
  simp only
  rw [if_neg (by simp), drop_add_left, List.drop_left, blankN_zero hy, Nat.add_zero]
theorem rest_fin (f d : Nat) (ob : Bool) (fin : Int) (names : List (List Int)) (k : Nat) (a n : List Int) (v : Js) (x : List Int) : restP f d ob fin names k (a ++ fin :: x) n v a.length = (.cons n v .nil, a.length + 1, 0) := by
  unfold restP
  rw [List.drop_left, if_neg (by simp), if_pos (show head0 (fin :: x) = fin from rfl)]
mutual
theorem backV : ∀ (v : Js) (f d : Nat) (x : List Int), MayV d v → Free v x → 2 * (printV v ++ x).length + 1 ≤ f → valueP f d (printV v ++ x) = (v, (printV v).length, 0)
  | .arr l, f, d, x, h, _, hf => by
    cases f with
    | zero => omega
    | succ f =>
      obtain ⟨h1, h2⟩ := h
      rw [chkV] at h1
      rw [bareV] at h2
      by_cases e1 : 4 < d
      · rw [if_pos e1] at h1; cases h1
      rw [if_neg e1] at h1
      by_cases e2 : 64 < l.length
      · rw [if_pos e2] at h1; cases h1
      rw [if_neg e2] at h1
      have ep : printV (.arr l) ++ x = 91 :: (bodyP false l ++ 93 :: x) := by rw [printV]; simp
      have el : (printV (.arr l)).length = (bodyP false l).length + 2 := by rw [printV]; simp
      rw [ep] at hf ⊢
      rw [el, valueP_box _ _ _ _ (.inl rfl), if_neg e1]
      cases l with
      | nil =>
        have eb : bodyP false .nil = [] := by rw [bodyP]
        rw [eb, List.nil_append, show blankN (93 :: x) = 0 from blankN_zero rfl, List.drop_zero, if_pos (show head0 (93 :: x) = 91 + 2 from rfl)]
        simp
      | cons n v l =>
        obtain ⟨c1, c2, c3⟩ := chk_cons h1
        obtain ⟨b1, b2, b3, b4⟩ := body_head false d n v l c2
        have hh : head0 (bodyP false (.cons n v l) ++ 93 :: x) = head0 (bodyP false (.cons n v l)) := head0_app _ _ b1
        rw [blankN_zero (by rw [hh]; exact b2), List.drop_zero, if_neg (by rw [hh]; exact b3)]
        have hi := backL (.cons n v l) f d false 93 [] 0 x ⟨h1, h2⟩ (by simp) (.inl rfl) (by simp only [Jl.length] at e2 ⊢; omega) (by rw [List.length_cons] at hf; omega)
        rw [show (91 : Int) + 2 = 93 from rfl, show decide ((91 : Int) = 123) = false from rfl, hi]
        simp
        omega
  | .obj l, f, d, x, h, _, hf => by
    cases f with
    | zero => omega
    | succ f =>
      obtain ⟨h1, h2⟩ := h
      rw [chkV] at h1
      rw [bareV] at h2
      by_cases e1 : 4 < d
      · rw [if_pos e1] at h1; cases h1
      rw [if_neg e1] at h1
      by_cases e2 : 64 < l.length
      · rw [if_pos e2] at h1; cases h1
      rw [if_neg e2] at h1
      have ep : printV (.obj l) ++ x = 123 :: (bodyP true l ++ 125 :: x) := by rw [printV]; simp
      have el : (printV (.obj l)).length = (bodyP true l).length + 2 := by rw [printV]; simp
      rw [ep] at hf ⊢
      rw [el, valueP_box _ _ _ _ (.inr rfl), if_neg e1]
      cases l with
      | nil =>
        have eb : bodyP true .nil = [] := by rw [bodyP]
        rw [eb, List.nil_append, show blankN (125 :: x) = 0 from blankN_zero rfl, List.drop_zero, if_pos (show head0 (125 :: x) = 123 + 2 from rfl)]
        simp
      | cons n v l =>
        obtain ⟨c1, c2, c3⟩ := chk_cons h1
        obtain ⟨b1, b2, b3, b4⟩ := body_head true d n v l c2
        have hh : head0 (bodyP true (.cons n v l) ++ 125 :: x) = head0 (bodyP true (.cons n v l)) := head0_app _ _ b1
        rw [blankN_zero (by rw [hh]; exact b2), List.drop_zero, if_neg (by rw [hh]; exact b4)]
        have hi := backL (.cons n v l) f d true 125 [] 0 x ⟨h1, h2⟩ (by simp) (.inr rfl) (by simp only [Jl.length] at e2 ⊢; omega) (by rw [List.length_cons] at hf; omega)
        rw [show (123 : Int) + 2 = 125 from rfl, show decide ((123 : Int) = 123) = true from rfl, hi]
        simp
        omega
  | .nul, f, d, x, h, hx, hf => by
    cases f with
    | zero => omega
    | succ f =>
      obtain ⟨a, b, c⟩ := flatP_print d .nul h.1 ⟨by simp, by simp⟩ x hx
      rw [valueP_flat f d _ ⟨b, c⟩, a]
  | .bool b, f, d, x, h, hx, hf => by
    cases f with
    | zero => omega
    | succ f =>
      obtain ⟨a, b, c⟩ := flatP_print d (.bool b) h.1 ⟨by simp, by simp⟩ x hx
      rw [valueP_flat f d _ ⟨b, c⟩, a]
  | .num n, f, d, x, h, hx, hf => by
    cases f with
    | zero => omega
    | succ f =>
      obtain ⟨a, b, c⟩ := flatP_print d (.num n) h.1 ⟨by simp, by simp⟩ x hx
      rw [valueP_flat f d _ ⟨b, c⟩, a]
  | .str s, f, d, x, h, hx, hf => by
    cases f with
    | zero => omega
    | succ f =>
      obtain ⟨a, b, c⟩ := flatP_print d (.str s) h.1 ⟨by simp, by simp⟩ x hx
      rw [valueP_flat f d _ ⟨b, c⟩, a]
  | .bad, f, d, x, h, _, hf => by
    have := h.1
    rw [chkV] at this
    cases this
theorem backL : ∀ (l : Jl) (f d : Nat) (ob : Bool) (fin : Int) (names : List (List Int)) (k : Nat) (x : List Int), MayL ob d names l → l ≠ .nil → (fin = 93 ∨ fin = 125) → k + l.length ≤ 64 → 2 * (bodyP ob l ++ fin :: x).length + 2 ≤ f →
    itemsP f d ob fin names k (bodyP ob l ++ fin :: x) = (l, (bodyP ob l).length + 1, 0)
  | .nil, f, d, ob, fin, names, k, x, _, hn, _, _, _ => absurd rfl hn
  | .cons n v l, f, d, ob, fin, names, k, x, h, _, hfin, hk, hf => by
    cases f with
    | zero => omega
    | succ f =>
      obtain ⟨h1, h2⟩ := h
      obtain ⟨c1, c2, c3⟩ := chk_cons h1
      rw [bareL] at h2
      obtain ⟨g1, g2, g3⟩ := h2
      obtain ⟨p1, p2, p3, p4⟩ := print_head (d + 1) v c2
      have e : bodyP ob (.cons n v l) ++ fin :: x = nameB ob n ++ (printV v ++ (tailP ob l ++ fin :: x)) := by rw [body_cons]; simp
      rw [e] at hf ⊢
      simp only [List.length_append, List.length_cons] at hf
      simp only [Jl.length] at hk
      have hy : isB (head0 (tailP ob l ++ fin :: x)) = false ∧ isN (head0 (tailP ob l ++ fin :: x)) = false := by
        cases l with
        | nil => rw [tail_nil, List.nil_append]; rcases hfin with rfl | rfl <;> exact ⟨rfl, rfl⟩
        | cons n' v' l' => rw [tail_cons]; exact ⟨rfl, rfl⟩
      have hv := backV v f (d + 1) (tailP ob l ++ fin :: x) ⟨c2, g2⟩ (fun _ _ => hy.2) (by simp only [List.length_append, List.length_cons]; omega)
      rw [items_one f d ob fin names k n v _ (by omega) c1 g1 c2 hy.1 hv]
      cases l with
      | nil =>
        rw [tail_nil, List.nil_append, ← List.append_assoc, ← List.length_append, rest_fin, body_cons, tail_nil, List.append_nil]
      | cons n' v' l' =>
        obtain ⟨c1', c2', c3'⟩ := chk_cons c3
        obtain ⟨b1, b2, b3, b4⟩ := body_head ob d n' v' l' c2'
        have hi := backL (.cons n' v' l') f d ob fin (names ++ [n]) (k + 1) x ⟨c3, g3⟩ (by simp) hfin (by omega) (by
          rw [tail_cons] at hf
          simp only [List.length_append, List.length_cons] at hf ⊢
          omega)
        rw [tail_cons, ← List.append_assoc, ← List.length_append]
        have hd : ∀ j, (nameB ob n ++ printV v ++ (44 :: bodyP ob (.cons n' v' l') ++ fin :: x)).drop ((nameB ob n ++ printV v).length + 1 + j) = (bodyP ob (.cons n' v' l') ++ fin :: x).drop j := by
          intro j
          rw [Nat.add_assoc, drop_add_left, Nat.add_comm 1 j]
          rfl
        have hd0 := hd 0
        rw [Nat.add_zero, List.drop_zero] at hd0
        unfold restP
        rw [List.drop_left, if_neg (by simp), if_neg (by rcases hfin with rfl | rfl <;> simp [head0]), if_neg (by simp [head0]), hd0, blankN_zero (by rw [head0_app _ _ b1]; exact b2), hd 0, List.drop_zero, hi]
        simp only
        rw [if_neg (by simp), body_cons ob n v, tail_cons]
        simp only [List.length_append, List.length_cons]
        congr 2
        omega
end
end Go.Proofs.YtbkceneakdbdkaaGreatDoor
/- Plain: JSON that is cut; what the laws ask of Take. -/
namespace Go.Proofs.YtbkceneakdbdkaaGreatDoor
set_option maxRecDepth 20000
set_option linter.unusedVariables false
set_option linter.unusedSimpArgs false
/-- Too short, at the end; or of no form. -/
def CutE (k : Nat) (n : Nat) (e : Int) : Prop := e = 3 ∧ n = k ∨ e = 4
theorem textP_cut {s : List Int} (h : 0 ≤ countP s) (k : Nat) (hk : k < (quoteS s).length) : CutE k (textP ((quoteS s).take k)).2.1 (textP ((quoteS s).take k)).2.2 := by
  have ht := textP_print h []
  rw [List.append_nil, textP_is] at ht
  have hg := (take_good (quoteS s) (by rw [ht])).2.2.2.2 k (by rw [ht]; exact hk)
  rw [textP_is]
  exact hg.2
theorem pairP_cut {names : List (List Int)} {n : List Int} (h : 0 ≤ countP n ∧ n ∉ names) (k : Nat) (hk : k < (nameB true n).length) :
    CutE k (pairP true names ((nameB true n).take k)).2.1 (pairP true names ((nameB true n).take k)).2.2 := by
  rw [nameB, if_pos rfl] at hk ⊢
  rw [List.length_append, List.length_singleton] at hk
  have hp : (quoteS n ++ [58]).take k = (quoteS n).take k := List.take_append_of_le_length (by omega)
  rw [hp, pairP, if_neg (by simp)]
  rcases Nat.lt_or_ge k (quoteS n).length with e | e
  · have hc := textP_cut h.1 k e
    rcases ht : textP ((quoteS n).take k) with ⟨a, b, c⟩
    rw [ht] at hc
    simp only at hc ⊢
    rw [if_pos (by rcases hc with ⟨e, _⟩ | e <;> omega)]
    exact hc
  · obtain rfl : k = (quoteS n).length := by omega
    have ht := textP_print h.1 []
    rw [List.append_nil] at ht
    rw [List.take_length, ht]
    simp only
    rw [if_neg (by simp), if_neg h.2, List.drop_length, show blankN [] = 0 from rfl, Nat.add_zero, List.drop_length, if_pos rfl]
    exact .inl ⟨rfl, rfl⟩
theorem word_cut : ∀ (w : List Int) (k i : Nat), k < w.length → wordG w (w.take k) i = (i + k, 3)
  | [], k, i, h => by cases h
  | c :: w, 0, i, _ => rfl
  | c :: w, k + 1, i, h => by
    rw [List.take_succ_cons, wordG, if_pos rfl, word_cut w k (i + 1) (by simpa using h)]
    congr 1
    omega
theorem wordP_cut (w : List Int) (v : Js) (k : Nat) (hk : k < w.length) : CutE k (wordP w v (w.take k)).2.1 (wordP w v (w.take k)).2.2 := by
  unfold wordP
  rw [word_cut w k 0 hk, if_neg (by simp)]
  exact .inl ⟨rfl, Nat.zero_add _⟩
theorem flatP_cut (d : Nat) (v : Js) (h : chkV d v = 0) (hl : (∀ l, v ≠ .arr l) ∧ ∀ l, v ≠ .obj l) (k : Nat) (hk : k < (printV v).length) :
    (CutE k (flatP ((printV v).take k)).2.1 (flatP ((printV v).take k)).2.2 ∨ (∃ n, v = .num n) ∧ (flatP ((printV v).take k)).2.2 = 0 ∧ (flatP ((printV v).take k)).2.1 = k) ∧ head0 ((printV v).take k) ≠ 91 ∧ head0 ((printV v).take k) ≠ 123 := by
  cases k with
  | zero => rw [List.take_zero]; exact ⟨.inl (.inl ⟨rfl, rfl⟩), by decide, by decide⟩
  | succ k =>
    cases v with
    | nul =>
      rw [printV] at hk ⊢
      exact ⟨.inl (wordP_cut [110, 117, 108, 108] .nul (k + 1) hk), by simp [head0], by simp [head0]⟩
    | bool b =>
      cases b <;> rw [printV] at hk ⊢
      · exact ⟨.inl (wordP_cut [102, 97, 108, 115, 101] (.bool false) (k + 1) hk), by simp [head0], by simp [head0]⟩
      · exact ⟨.inl (wordP_cut [116, 114, 117, 101] (.bool true) (k + 1) hk), by simp [head0], by simp [head0]⟩
    | num n =>
      rw [printV] at hk ⊢
      rw [chkV] at h
      by_cases hm : maxI < n ∨ n < -maxI
      · rw [if_pos hm] at h; cases h
      have hp := numP_cut (n := n) (by omega) (by omega) (k + 1) (by omega)
      obtain ⟨b, t, e, hb⟩ := digI_cons n
      rw [e, List.take_succ_cons] at hp ⊢
      have hb2 : b = 45 ∨ 48 ≤ b ∧ b ≤ 57 := by rcases hb with e | e; exact .inl e; exact .inr ((isD_iff b).1 e)
      refine ⟨?_, by show b ≠ 91; omega, by show b ≠ 123; omega⟩
      rw [flatP, if_neg (by omega), if_neg (by omega), if_neg (by omega), if_neg (by omega), if_pos hb]
      rcases hp with hp | ⟨hp, hp2⟩
      · exact .inl (.inr hp)
      · exact .inr ⟨⟨n, rfl⟩, hp, hp2⟩
    | str s =>
      rw [printV] at hk ⊢
      rw [chkV] at h
      have hc : 0 ≤ countP s := by
        by_cases e : countP s < 0
        · rw [if_pos e] at h; cases h
        · omega
      have ht := textP_cut hc (k + 1) hk
      have hq : quoteS s = 34 :: (quoteB s ++ [34]) := by simp [quoteS]
      rw [hq, List.take_succ_cons] at ht ⊢
      refine ⟨.inl ?_, by simp [head0], by simp [head0]⟩
      rw [flatP, if_neg (by decide), if_neg (by decide), if_neg (by decide), if_pos rfl, if_neg (by rcases ht with ⟨e, _⟩ | e <;> omega)]
      exact ht
    | arr l => exact absurd rfl (hl.1 l)
    | obj l => exact absurd rfl (hl.2 l)
    | bad => rw [chkV] at h; cases h
theorem items_nil (f d : Nat) (ob : Bool) (fin : Int) (names : List (List Int)) (k : Nat) (hf : 2 ≤ f) : CutE 0 (itemsP f d ob fin names k []).2.1 (itemsP f d ob fin names k []).2.2 := by
  obtain ⟨f, rfl⟩ : ∃ g, f = g + 2 := ⟨f - 2, by omega⟩
  rw [itemsP_step, if_neg (by simp)]
  cases ob with
  | true => exact .inl ⟨rfl, rfl⟩
  | false => exact .inl ⟨rfl, rfl⟩
theorem head0_take (a : List Int) (k : Nat) : head0 (a.take k) = -1 ∨ head0 (a.take k) = head0 a := by
  cases k with
  | zero => rw [List.take_zero]; exact .inl rfl
  | succ k => cases a with
    | nil => exact .inl rfl
    | cons b t => exact .inr rfl
theorem isB_take {a : List Int} (k : Nat) (h : isB (head0 a) = false) : isB (head0 (a.take k)) = false := by
  rcases head0_take a k with e | e <;> rw [e]
  · rfl
  · exact h
/-- A list or an object of some that is cut. -/
theorem box_cut (f d : Nat) (b : Int) (t : List Int) (k : Nat) (hb : b = 91 ∨ b = 123) (hd : ¬ 4 < d) (h0 : isB (head0 t) = false) (h1 : head0 t ≠ b + 2) (hi : CutE k (itemsP f d (decide (b = 123)) (b + 2) [] 0 t).2.1 (itemsP f d (decide (b = 123)) (b + 2) [] 0 t).2.2) :
    CutE (k + 1) (valueP (f + 1) d (b :: t)).2.1 (valueP (f + 1) d (b :: t)).2.2 := by
  rw [valueP_box f d b t hb, if_neg hd, blankN_zero h0, List.drop_zero, if_neg h1, if_pos (by rcases hi with ⟨e, _⟩ | e <;> omega)]
  rcases hi with ⟨e, e'⟩ | e
  · exact .inl ⟨e, by simp only; omega⟩
  · exact .inr e
mutual
theorem cutV : ∀ (v : Js) (f d k : Nat), MayV d v → k < (printV v).length → 2 * k + 1 ≤ f →
    CutE k (valueP f d ((printV v).take k)).2.1 (valueP f d ((printV v).take k)).2.2 ∨ (∃ n, v = .num n) ∧ (valueP f d ((printV v).take k)).2.2 = 0 ∧ (valueP f d ((printV v).take k)).2.1 = k
  | .arr l, f, d, k, h, hk, hf => by
    cases f with
    | zero => omega
    | succ f =>
      obtain ⟨h1, h2⟩ := h
      rw [chkV] at h1
      rw [bareV] at h2
      by_cases e1 : 4 < d
      · rw [if_pos e1] at h1; cases h1
      rw [if_neg e1] at h1
      by_cases e2 : 64 < l.length
      · rw [if_pos e2] at h1; cases h1
      rw [if_neg e2] at h1
      have ep : printV (.arr l) = 91 :: (bodyP false l ++ [93]) := by rw [printV]; simp
      rw [ep] at hk ⊢
      rw [List.length_cons] at hk
      refine .inl ?_
      cases k with
      | zero => rw [List.take_zero, valueP_flat f d _ ⟨by decide, by decide⟩]; exact .inl ⟨rfl, rfl⟩
      | succ k =>
        rw [List.take_succ_cons]
        cases l with
        | nil =>
          have eb : bodyP false .nil = [] := by rw [bodyP]
          rw [eb] at hk ⊢
          obtain rfl : k = 0 := by simp at hk; omega
          rw [List.take_zero]
          exact box_cut f d 91 [] 0 (.inl rfl) e1 rfl (by decide) (items_nil f d _ _ _ _ (by omega))
        | cons n v l =>
          obtain ⟨c1, c2, c3⟩ := chk_cons h1
          obtain ⟨b1, b2, b3, b4⟩ := body_head false d n v l c2
          have hh : head0 (bodyP false (.cons n v l) ++ [93]) = head0 (bodyP false (.cons n v l)) := head0_app _ _ b1
          refine box_cut f d 91 _ k (.inl rfl) e1 (isB_take k (by rw [hh]; exact b2)) ?_ (cutL (.cons n v l) f d false 93 [] 0 k ⟨h1, h2⟩ (by simp) (.inl rfl) (by simp only [Jl.length] at e2 ⊢; omega) (by omega) (by omega))
          rcases head0_take (bodyP false (.cons n v l) ++ [93]) k with e | e <;> rw [e]
          · decide
          · rw [hh]; exact b3
  | .obj l, f, d, k, h, hk, hf => by
    cases f with
    | zero => omega
    | succ f =>
      obtain ⟨h1, h2⟩ := h
      rw [chkV] at h1
      rw [bareV] at h2
      by_cases e1 : 4 < d
      · rw [if_pos e1] at h1; cases h1
      rw [if_neg e1] at h1
      by_cases e2 : 64 < l.length
      · rw [if_pos e2] at h1; cases h1
      rw [if_neg e2] at h1
      have ep : printV (.obj l) = 123 :: (bodyP true l ++ [125]) := by rw [printV]; simp
      rw [ep] at hk ⊢
      rw [List.length_cons] at hk
      refine .inl ?_
      cases k with
      | zero => rw [List.take_zero, valueP_flat f d _ ⟨by decide, by decide⟩]; exact .inl ⟨rfl, rfl⟩
      | succ k =>
        rw [List.take_succ_cons]
        cases l with
        | nil =>
          have eb : bodyP true .nil = [] := by rw [bodyP]
          rw [eb] at hk ⊢
          obtain rfl : k = 0 := by simp at hk; omega
          rw [List.take_zero]
          exact box_cut f d 123 [] 0 (.inr rfl) e1 rfl (by decide) (items_nil f d _ _ _ _ (by omega))
        | cons n v l =>
          obtain ⟨c1, c2, c3⟩ := chk_cons h1
          obtain ⟨b1, b2, b3, b4⟩ := body_head true d n v l c2
          have hh : head0 (bodyP true (.cons n v l) ++ [125]) = head0 (bodyP true (.cons n v l)) := head0_app _ _ b1
          refine box_cut f d 123 _ k (.inr rfl) e1 (isB_take k (by rw [hh]; exact b2)) ?_ (cutL (.cons n v l) f d true 125 [] 0 k ⟨h1, h2⟩ (by simp) (.inr rfl) (by simp only [Jl.length] at e2 ⊢; omega) (by omega) (by omega))
          rcases head0_take (bodyP true (.cons n v l) ++ [125]) k with e | e <;> rw [e]
          · decide
          · rw [hh]; exact b4
  | .nul, f, d, k, h, hk, hf => by
    cases f with
    | zero => omega
    | succ f =>
      obtain ⟨a, b, c⟩ := flatP_cut d .nul h.1 ⟨by simp, by simp⟩ k hk
      rw [valueP_flat f d _ ⟨b, c⟩]
      exact a
  | .bool b, f, d, k, h, hk, hf => by
    cases f with
    | zero => omega
    | succ f =>
      obtain ⟨a, b, c⟩ := flatP_cut d (.bool b) h.1 ⟨by simp, by simp⟩ k hk
      rw [valueP_flat f d _ ⟨b, c⟩]
      exact a
  | .num n, f, d, k, h, hk, hf => by
    cases f with
    | zero => omega
    | succ f =>
      obtain ⟨a, b, c⟩ := flatP_cut d (.num n) h.1 ⟨by simp, by simp⟩ k hk
      rw [valueP_flat f d _ ⟨b, c⟩]
      exact a
  | .str s, f, d, k, h, hk, hf => by
    cases f with
    | zero => omega
    | succ f =>
      obtain ⟨a, b, c⟩ := flatP_cut d (.str s) h.1 ⟨by simp, by simp⟩ k hk
      rw [valueP_flat f d _ ⟨b, c⟩]
      exact a
  | .bad, f, d, k, h, hk, hf => by
    have := h.1
    rw [chkV] at this
    cases this
theorem cutL : ∀ (l : Jl) (f d : Nat) (ob : Bool) (fin : Int) (names : List (List Int)) (j k : Nat), MayL ob d names l → l ≠ .nil → (fin = 93 ∨ fin = 125) → j + l.length ≤ 64 → k < (bodyP ob l ++ [fin]).length → 2 * k + 2 ≤ f →
    CutE k (itemsP f d ob fin names j ((bodyP ob l ++ [fin]).take k)).2.1 (itemsP f d ob fin names j ((bodyP ob l ++ [fin]).take k)).2.2
  | .nil, f, d, ob, fin, names, j, k, _, hn, _, _, _, _ => absurd rfl hn
  | .cons n v l, f, d, ob, fin, names, j, k, h, _, hfin, hj, hk, hf => by
    cases f with
    | zero => omega
    | succ f =>
      obtain ⟨h1, h2⟩ := h
      obtain ⟨c1, c2, c3⟩ := chk_cons h1
      rw [bareL] at h2
      obtain ⟨g1, g2, g3⟩ := h2
      obtain ⟨p1, p2, p3, p4⟩ := print_head (d + 1) v c2
      have e : bodyP ob (.cons n v l) ++ [fin] = nameB ob n ++ (printV v ++ (tailP ob l ++ [fin])) := by rw [body_cons]; simp
      rw [e] at hk ⊢
      simp only [List.length_append, List.length_cons, List.length_nil] at hk
      simp only [Jl.length] at hj
      rcases Nat.lt_or_ge k (nameB ob n).length with ek | ek
      · -- within the name
        have ho : ob = true := by
          cases ob with
          | true => rfl
          | false => rw [nameB, if_neg (by simp)] at ek; cases ek
        subst ho
        rw [List.take_append_of_le_length (by omega), itemsP_step, if_neg (by omega)]
        have hc := pairP_cut (c1 rfl) k ek
        rw [if_pos (by rcases hc with ⟨e, _⟩ | e <;> omega)]
        exact hc
      obtain ⟨k1, rfl⟩ : ∃ k1, k = (nameB ob n).length + k1 := ⟨k - (nameB ob n).length, by omega⟩
      rw [List.take_length_add_append]
      rcases Nat.lt_or_ge k1 (printV v).length with ek1 | ek1
      · -- within the value
        rw [List.take_append_of_le_length (by omega), itemsP_step, if_neg (by omega), pairP_print c1 g1 _ (isB_take k1 p2)]
        simp only
        rw [if_neg (by simp), List.drop_left]
        have hv := cutV v f (d + 1) k1 ⟨c2, g2⟩ ek1 (by omega)
        rcases hv with hv | ⟨_, hv, hv2⟩
        · rw [if_pos (by rcases hv with ⟨e, _⟩ | e <;> omega)]
          rcases hv with ⟨e, e'⟩ | e
          · exact .inl ⟨e, by simp only; omega⟩
          · exact .inr e
        · rw [if_neg (by omega), hv2]
          have hl : (nameB ob n ++ (printV v).take k1).length = (nameB ob n).length + k1 := by rw [List.length_append, List.length_take]; omega
          rw [← hl, List.drop_length, show blankN [] = 0 from rfl]
          simp only [Nat.add_zero]
          rw [restP, List.drop_length, if_pos rfl]
          exact .inl ⟨rfl, rfl⟩
      obtain ⟨k2, rfl⟩ : ∃ k2, k1 = (printV v).length + k2 := ⟨k1 - (printV v).length, by omega⟩
      rw [List.take_length_add_append]
      have hy : isB (head0 ((tailP ob l ++ [fin]).take k2)) = false ∧ isN (head0 ((tailP ob l ++ [fin]).take k2)) = false := by
        rcases head0_take (tailP ob l ++ [fin]) k2 with e | e <;> rw [e]
        · exact ⟨rfl, rfl⟩
        cases l with
        | nil => rw [tail_nil, List.nil_append]; rcases hfin with rfl | rfl <;> exact ⟨rfl, rfl⟩
        | cons n' v' l' => rw [tail_cons]; exact ⟨rfl, rfl⟩
      have hv := backV v f (d + 1) ((tailP ob l ++ [fin]).take k2) ⟨c2, g2⟩ (fun _ _ => hy.2) (by rw [List.length_append, List.length_take]; omega)
      rw [items_one f d ob fin names j n v _ (by omega) c1 g1 c2 hy.1 hv, ← List.append_assoc, ← List.length_append, ← Nat.add_assoc, ← List.length_append]
      generalize hA : nameB ob n ++ printV v = A
      cases k2 with
      | zero =>
        rw [List.take_zero, List.append_nil, Nat.add_zero, restP, List.drop_length, if_pos rfl]
        exact .inl ⟨rfl, rfl⟩
      | succ k3 =>
        cases l with
        | nil => rw [tail_nil] at hk; simp at hk
        | cons n' v' l' =>
          obtain ⟨c1', c2', c3'⟩ := chk_cons c3
          obtain ⟨b1, b2, b3, b4⟩ := body_head ob d n' v' l' c2'
          have hi := cutL (.cons n' v' l') f d ob fin (names ++ [n]) (j + 1) k3 ⟨c3, g3⟩ (by simp) hfin (by omega) (by
            rw [tail_cons] at hk
            simp only [List.length_append, List.length_cons, List.length_nil] at hk ⊢
            omega) (by omega)
          rw [tail_cons, List.cons_append, List.take_succ_cons]
          have hd : (A ++ 44 :: (bodyP ob (.cons n' v' l') ++ [fin]).take k3).drop (A.length + 1) = (bodyP ob (.cons n' v' l') ++ [fin]).take k3 := by rw [drop_add_left]; rfl
          unfold restP
          rw [List.drop_left, if_neg (by simp), if_neg (by rcases hfin with rfl | rfl <;> simp [head0]), if_neg (by simp [head0]), hd, blankN_zero (isB_take k3 (by rw [head0_app _ _ b1]; exact b2)), Nat.add_zero, hd, if_pos (by rcases hi with ⟨e, _⟩ | e <;> omega)]
          rcases hi with ⟨e, e'⟩ | e
          · exact .inl ⟨e, by simp only; omega⟩
          · exact .inr e
end
/-! ### What the laws ask -/
theorem takeV_long (s : List Int) (h : 4096 < s.length) : takeV s = (.nul, 0, 5) := by rw [takeV, if_pos h]
theorem takeV_blanks (s : List Int) (h : ¬ 4096 < s.length) (hs : ∀ b ∈ s, isB b = true) : takeV s = (.nul, s.length, 3) := by
  have hb := blankN_all s [] hs
  rw [List.append_nil, show blankN [] = 0 from rfl, Nat.add_zero] at hb
  rw [takeV, if_neg h, hb, List.drop_length, fuelV, valueP_flat _ _ _ ⟨by decide, by decide⟩]
  simp [flatP]
theorem takeV_may (s : List Int) (h : (takeV s).2.2 = 0) : MayV 1 (takeV s).1 := by
  unfold takeV at h ⊢
  by_cases h1 : 4096 < s.length
  · rw [if_pos h1] at h; cases h
  rw [if_neg h1] at h ⊢
  have ht := (taken (fuelV s)).1 1 (s.drop (blankN s))
  rcases hv : valueP (fuelV s) 1 (s.drop (blankN s)) with ⟨v, n, e⟩
  rw [hv] at ht h
  simp only at ht h ⊢
  by_cases he : e ≠ 0
  · rw [if_pos he] at h; exact absurd h he
  rw [if_neg he] at h ⊢
  split
  · rename_i h2; rw [if_pos h2] at h; cases h
  · exact ht (by omega)
/-- With blanks around. -/
theorem takeV_print {v : Js} (h : MayV 1 v) (a z : List Int) (ha : ∀ b ∈ a, isB b = true) (hz : ∀ b ∈ z, isB b = true) (hl : ¬ 4096 < (a ++ (printV v ++ z)).length) : takeV (a ++ (printV v ++ z)) = (v, (a ++ (printV v ++ z)).length, 0) := by
  obtain ⟨p1, p2, p3, p4⟩ := print_head 1 v h.1
  have hb : blankN (a ++ (printV v ++ z)) = a.length := by rw [blankN_all a _ ha, blankN_zero (by rw [head0_app _ _ p1]; exact p2), Nat.add_zero]
  have hbz : blankN z = z.length := by have := blankN_all z [] hz; rw [List.append_nil] at this; rw [this]; rfl
  have hf : Free v z := by
    intro n _
    cases z with
    | nil => rfl
    | cons b t =>
      have := hz b (.head _)
      show isN b = false
      simp [isB] at this
      rcases this with ((rfl | rfl) | rfl) | rfl <;> rfl
  have hv := backV v (fuelV (a ++ (printV v ++ z))) 1 z h hf (by rw [fuelV]; simp only [List.length_append]; omega)
  rw [takeV, if_neg hl, hb, List.drop_left, hv]
  simp only
  rw [if_neg (by simp), drop_add_left, List.drop_left, hbz, if_neg (by simp only [List.length_append]; omega)]
  congr 2
  simp only [List.length_append]
  omega
theorem takeV_same {v : Js} (h : MayV 1 v) (hl : ¬ 4096 < (printV v).length) : takeV (printV v) = (v, (printV v).length, 0) := by
  have := takeV_print h [] [] (by simp) (by simp) (by simpa using hl)
  simpa using this
def BoxV (v : Js) : Prop := (∃ l, v = .arr l) ∨ ∃ l, v = .obj l
theorem BoxV.free {v : Js} (h : BoxV v) (x : List Int) : Free v x := by
  rintro n rfl
  rcases h with ⟨l, e⟩ | ⟨l, e⟩ <;> cases e
theorem takeV_more {v : Js} (h : MayV 1 v) (hb : BoxV v) (b : Int) (hn : isB b = false) (hl : (printV v).length < 4096) : takeV (printV v ++ [b]) = (.nul, (printV v).length, 4) := by
  obtain ⟨p1, p2, p3, p4⟩ := print_head 1 v h.1
  have h0 : blankN (printV v ++ [b]) = 0 := blankN_zero (by rw [head0_app _ _ p1]; exact p2)
  have hv := backV v (fuelV (printV v ++ [b])) 1 [b] h (hb.free _) (Nat.le_refl _)
  rw [takeV, if_neg (by simp; omega), h0, List.drop_zero, hv]
  simp only
  rw [if_neg (by simp), Nat.zero_add, List.drop_left, show blankN [b] = 0 from blankN_zero hn, Nat.add_zero, if_pos (by simp)]
theorem takeV_cut {v : Js} (h : MayV 1 v) (hb : BoxV v) (hl : (printV v).length ≤ 4096) (k : Nat) (hk : k < (printV v).length) : CutE k (takeV ((printV v).take k)).2.1 (takeV ((printV v).take k)).2.2 := by
  obtain ⟨p1, p2, p3, p4⟩ := print_head 1 v h.1
  have h0 : blankN ((printV v).take k) = 0 := blankN_zero (isB_take k p2)
  have hlen : ((printV v).take k).length = k := by rw [List.length_take]; omega
  rw [takeV, if_neg (by omega), h0, List.drop_zero]
  have hc := cutV v (fuelV ((printV v).take k)) 1 k h hk (by rw [fuelV, hlen]; omega)
  have hc : CutE k (valueP (fuelV ((printV v).take k)) 1 ((printV v).take k)).2.1 (valueP (fuelV ((printV v).take k)) 1 ((printV v).take k)).2.2 := by
    rcases hc with hc | ⟨⟨n, rfl⟩, _⟩
    · exact hc
    · rcases hb with ⟨l, e⟩ | ⟨l, e⟩ <;> cases e
  rcases hv : valueP (fuelV ((printV v).take k)) 1 ((printV v).take k) with ⟨w, n, e⟩
  rw [hv] at hc
  simp only at hc ⊢
  rw [if_pos (by rcases hc with ⟨e, _⟩ | e <;> omega), Nat.zero_add]
  exact hc
theorem print_len (v : Js) (d : Nat) (h : chkV d v = 0) : 0 < (printV v).length := List.length_pos_iff.2 (print_head d v h).1
end Go.Proofs.YtbkceneakdbdkaaGreatDoor
