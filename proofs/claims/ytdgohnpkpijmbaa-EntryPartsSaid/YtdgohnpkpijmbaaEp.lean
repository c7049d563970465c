/- Plain: entries of a directory, rows of them; how many unlike pairs a list has. No Go in sight. -/
import Derived.Lib.Hide
namespace Go.Proofs.Ytdgohnpkpijmbaa
set_option linter.unusedVariables false
set_option linter.unusedSimpArgs false
/-! ### How many unlike members a list has -/
section
variable {α : Type} [DecidableEq α]
def ded : List α → List α
  | [] => []
  | p :: r => if p ∈ r then ded r else p :: ded r
theorem mem_ded (x : α) (l : List α) : x ∈ ded l ↔ x ∈ l := by
  induction l with
  | nil => exact Iff.rfl
  | cons p r ih =>
    unfold ded
    split
    · rename_i hp
      rw [ih, List.mem_cons]
      exact ⟨.inr, fun h => h.elim (fun h => h ▸ hp) id⟩
    · rw [List.mem_cons, List.mem_cons, ih]
theorem nodup_ded (l : List α) : (ded l).Nodup := by
  induction l with
  | nil => exact List.nodup_nil
  | cons p r ih =>
    unfold ded
    split
    · exact ih
    · rename_i hp
      exact List.nodup_cons.2 ⟨fun h => hp ((mem_ded p r).1 h), ih⟩
theorem nodup_len {a b : List α} (ha : a.Nodup) (hs : ∀ x ∈ a, x ∈ b) : a.length ≤ b.length := by
  induction a generalizing b with
  | nil => simp
  | cons p r ih =>
    obtain ⟨h1, h2⟩ := List.nodup_cons.1 ha
    have hp : p ∈ b := hs p (List.mem_cons_self ..)
    have := ih (b := b.erase p) h2 (fun x hx => (List.mem_erase_of_ne (fun (e : x = p) => h1 (e ▸ hx))).2 (hs x (List.mem_cons_of_mem _ hx)))
    rw [List.length_erase_of_mem hp] at this
    have h0 : 0 < b.length := List.length_pos_of_mem hp
    rw [List.length_cons]
    omega
/-- How many unlike members. -/
def unl (l : List α) : Nat := (ded l).length
theorem unl_le {a b : List α} (h : ∀ x ∈ a, x ∈ b) : unl a ≤ unl b := nodup_len (nodup_ded a) (fun x hx => (mem_ded x b).2 (h x ((mem_ded x a).1 hx)))
theorem unl_eq {a b : List α} (h : ∀ x, x ∈ a ↔ x ∈ b) : unl a = unl b := Nat.le_antisymm (unl_le fun x hx => (h x).1 hx) (unl_le fun x hx => (h x).2 hx)
theorem unl_nil : unl ([] : List α) = 0 := rfl
theorem unl_cons (p : α) (r : List α) : unl (p :: r) = if p ∈ r then unl r else unl r + 1 := by
  unfold unl
  rw [ded]
  split <;> simp
theorem unl_snoc (l : List α) (p : α) : unl (l ++ [p]) = if p ∈ l then unl l else unl l + 1 := by
  rw [← unl_cons]
  exact unl_eq (fun x => by simp only [List.mem_append, List.mem_cons, List.not_mem_nil, or_false]; exact or_comm)
theorem unl_nodup {l : List α} (h : l.Nodup) : unl l = l.length := by
  refine Nat.le_antisymm (nodup_len (nodup_ded l) fun x hx => (mem_ded x l).1 hx) (nodup_len h fun x hx => (mem_ded x l).2 hx)
theorem unl_append_le (a b : List α) : unl (a ++ b) ≤ unl a + unl b := by
  induction a with
  | nil => simp [unl_nil]
  | cons p r ih =>
    rw [List.cons_append, unl_cons, unl_cons]
    by_cases h : p ∈ r
    · rw [if_pos (List.mem_append_left _ h), if_pos h]; exact ih
    · rw [if_neg h]
      split <;> omega
theorem unl_parts (a b : List α) : unl (a ++ b) ≤ unl a + unl b ∧ unl a ≤ unl (a ++ b) ∧ unl b ≤ unl (a ++ b) ∧ unl (a ++ b ++ a) = unl (a ++ b) :=
  ⟨unl_append_le a b, unl_le fun x hx => List.mem_append_left _ hx, unl_le fun x hx => List.mem_append_right _ hx, unl_eq fun x => by
    simp only [List.mem_append]
    exact ⟨fun h => h.elim id .inl, .inl⟩⟩
theorem unl_len (l : List α) : unl l ≤ l.length := nodup_len (nodup_ded l) fun x hx => (mem_ded x l).1 hx
end
/-! ### Entries -/
/-- An entry: its ID, where its bytes begin, how many they are, its Run. -/
structure En where
  id : Int
  off : Int
  ln : Int
  rn : Int
deriving DecidableEq
def zeroE : En := ⟨0, 0, 0, 0⟩
theorem En.eq_iff (a b : En) : a = b ↔ (a.id = b.id ∧ a.off = b.off ∧ a.ln = b.ln ∧ a.rn = b.rn) := by
  cases a; cases b; simp
/-- What fits an entry's fields. -/
def MayN (e : En) : Prop := (0 ≤ e.id ∧ e.id ≤ 18446744073709551615) ∧ (0 ≤ e.off ∧ e.off ≤ 18446744073709551615) ∧ (0 ≤ e.ln ∧ e.ln ≤ 4294967295) ∧ (0 ≤ e.rn ∧ e.rn ≤ 4294967295)
/-- How many tiles there are. -/
def cnN : Int := 6004799503160661
def wdN (e : En) : Int := if e.rn = 0 then 1 else e.rn
def ckN (e : En) : Int :=
  if e.ln = 0 then 2 else
  if cnN ≤ e.id ∨ cnN < e.id + wdN e then 8 else
  if 1099511627776 < e.off ∨ 1099511627776 < e.off + e.ln then 8 else 0
def laN (e : En) : Int := if ckN e = 0 then e.id + wdN e - 1 else 0
def hasN (e : En) (d : Int) : Bool := decide (ckN e = 0) && (decide (0 < e.rn) && (decide (e.id ≤ d) && decide (d ≤ laN e)))
theorem wd_pos (e : En) (h : 0 ≤ e.rn) : 1 ≤ wdN e := by unfold wdN; split <;> omega
/-- What an entry that may be is. -/
theorem ck_ok (e : En) (h : ckN e = 0) : e.ln ≠ 0 ∧ e.id + wdN e ≤ 6004799503160661 ∧ e.id < 6004799503160661 ∧ e.off + e.ln ≤ 1099511627776 ∧ e.off ≤ 1099511627776 := by
  unfold ckN cnN at h
  split at h
  · omega
  split at h
  · omega
  split at h
  · omega
  omega
theorem la_ge (e : En) (hm : MayN e) (h : ckN e = 0) : e.id ≤ laN e ∧ laN e ≤ 6004799503160660 := by
  have := wd_pos e hm.2.2.2.1
  have := ck_ok e h
  unfold laN
  rw [if_pos h]
  omega
/-! ### Rows -/
/-- The first error of a row, behind an entry whose last identifier is p (-1: there is none). -/
def rowG : Int → List En → Int
  | _, [] => 0
  | p, e :: l => if ckN e ≠ 0 then ckN e else if e.id ≤ p then 10 else rowG (laN e) l
def rowN (l : List En) : Int := if 4096 < l.length then 21 else rowG (-1) l
/-- The row of a longer one, step by step. -/
theorem rowG_append (p : Int) (a b : List En) (h : rowG p a = 0) : rowG p (a ++ b) = rowG (a.foldl (fun _ e => laN e) p) b := by
  induction a generalizing p with
  | nil => rfl
  | cons e l ih =>
    rw [rowG] at h
    rw [List.cons_append, rowG]
    split at h
    · contradiction
    · rename_i hc
      rw [if_neg hc]
      split at h
      · omega
      · rename_i ho
        rw [if_neg ho]
        exact ih (laN e) h
theorem rowG_left (p : Int) (a b : List En) (h : rowG p (a ++ b) = 0) : rowG p a = 0 := by
  induction a generalizing p with
  | nil => rfl
  | cons e l ih =>
    rw [List.cons_append, rowG] at h
    rw [rowG]
    split at h
    · contradiction
    · rename_i hc
      rw [if_neg hc]
      split at h
      · omega
      · rename_i ho
        rw [if_neg ho]
        exact ih (laN e) h
theorem rowG_from (p q : Int) (l : List En) (h : rowG p l = 0) (hq : q ≤ p) : rowG q l = 0 := by
  cases l with
  | nil => rfl
  | cons e l =>
    rw [rowG] at h ⊢
    split at h
    · contradiction
    · rename_i hc
      rw [if_neg hc]
      split at h
      · omega
      · rename_i ho
        rw [if_neg (by omega)]
        exact h
/-- In a row that may be each entry may be, and begins above what is ahead. -/
theorem rowG_cons (p : Int) (e : En) (l : List En) (h : rowG p (e :: l) = 0) : ckN e = 0 ∧ p < e.id ∧ rowG (laN e) l = 0 := by
  rw [rowG] at h
  split at h
  · contradiction
  · rename_i hc
    split at h
    · omega
    · rename_i ho
      exact ⟨Classical.not_not.1 hc, by omega, h⟩
/-- All that a row tells of lies above p. -/
theorem rowG_above (p : Int) (l : List En) (hm : ∀ e ∈ l, MayN e) (h : rowG p l = 0) (e : En) (he : e ∈ l) : p < e.id ∧ ckN e = 0 := by
  induction l generalizing p with
  | nil => simp at he
  | cons f l ih =>
    obtain ⟨h1, h2, h3⟩ := rowG_cons p f l h
    rcases List.mem_cons.1 he with rfl | he
    · exact ⟨h2, h1⟩
    · have := ih (laN f) (fun x hx => hm x (List.mem_cons_of_mem _ hx)) h3 he
      have hl := la_ge f (hm f (List.mem_cons_self ..)) h1
      exact ⟨by omega, this.2⟩
/-- How many entries tell of an identifier. -/
def tellN (l : List En) (d : Int) : Nat := (l.filter fun e => hasN e d).length
theorem has_iff (e : En) (d : Int) : hasN e d = true ↔ ckN e = 0 ∧ 0 < e.rn ∧ e.id ≤ d ∧ d ≤ laN e := by simp [hasN]
/-- No identifier is told of twice. -/
theorem tell_once (p : Int) (l : List En) (d : Int) (hm : ∀ e ∈ l, MayN e) (h : rowG p l = 0) : tellN l d ≤ 1 := by
  induction l generalizing p with
  | nil => simp [tellN]
  | cons f l ih =>
    obtain ⟨h1, h2, h3⟩ := rowG_cons p f l h
    have hm' : ∀ x ∈ l, MayN x := fun x hx => hm x (List.mem_cons_of_mem _ hx)
    have := ih (laN f) hm' h3
    unfold tellN at this ⊢
    rw [List.filter_cons]
    split
    · rename_i hf
      have hf' := (has_iff f d).1 hf
      have hn : (l.filter fun e => hasN e d) = [] := by
        rw [List.filter_eq_nil_iff]
        intro e he hh
        have := rowG_above (laN f) l hm' h3 e he
        have := (has_iff e d).1 hh
        omega
      rw [hn]; simp
    · exact this
/-! ### Sums -/
def cntN (l : List En) : Int := (l.map fun e => if ckN e = 0 then e.rn else 0).sum
theorem cntN_append (a b : List En) : cntN (a ++ b) = cntN a + cntN b := by simp [cntN]
theorem cntN_snoc (l : List En) (e : En) : cntN (l ++ [e]) = cntN l + (if ckN e = 0 then e.rn else 0) := by simp [cntN]
theorem cntN_bd (l : List En) (hm : ∀ e ∈ l, MayN e) : 0 ≤ cntN l ∧ cntN l ≤ 4294967295 * l.length := by
  induction l with
  | nil => simp [cntN]
  | cons e l ih =>
    have h1 := ih (fun x hx => hm x (List.mem_cons_of_mem _ hx))
    have h2 := (hm e (List.mem_cons_self ..)).2.2.2
    have : cntN (e :: l) = (if ckN e = 0 then e.rn else 0) + cntN l := by simp [cntN]
    rw [this, List.length_cons]
    split <;> omega
def enN (l : List En) : Int := l.foldl (fun n e => if ckN e = 0 then max n (e.off + e.ln) else n) 0
theorem enN_snoc (l : List En) (e : En) : enN (l ++ [e]) = if ckN e = 0 then max (enN l) (e.off + e.ln) else enN l := by simp [enN]
theorem enN_from (l : List En) (n m : Int) : l.foldl (fun n e => if ckN e = 0 then max n (e.off + e.ln) else n) (max n m) = max n (l.foldl (fun n e => if ckN e = 0 then max n (e.off + e.ln) else n) m) := by
  induction l generalizing m with
  | nil => rfl
  | cons e l ih =>
    rw [List.foldl_cons, List.foldl_cons]
    split
    · rw [Int.max_assoc]; exact ih _
    · exact ih _
theorem enN_nonneg (l : List En) : 0 ≤ enN l := by
  have h : ∀ (l : List En) (n : Int), 0 ≤ n → 0 ≤ l.foldl (fun n e => if ckN e = 0 then max n (e.off + e.ln) else n) n := by
    intro l
    induction l with
    | nil => intro n h; exact h
    | cons e l ih =>
      intro n h
      rw [List.foldl_cons]
      split
      · exact ih _ (by omega)
      · exact ih _ h
  exact h l 0 (Int.le_refl _)
theorem enN_append (a b : List En) : enN (a ++ b) = max (enN a) (enN b) := by
  have h := enN_from b (enN a) 0
  rw [Int.max_eq_left (enN_nonneg a)] at h
  unfold enN at h ⊢
  rw [List.foldl_append]
  exact h
/-- The pairs of those that may be and are no pointers. -/
def pairN (l : List En) : List (Int × Int) := (l.filter fun e => decide (ckN e = 0) && decide (0 < e.rn)).map fun e => (e.off, e.ln)
def conN (l : List En) : Nat := unl (pairN l)
theorem pairN_append (a b : List En) : pairN (a ++ b) = pairN a ++ pairN b := by simp [pairN]
theorem pairN_snoc (l : List En) (e : En) : pairN (l ++ [e]) = pairN l ++ (if ckN e = 0 ∧ 0 < e.rn then [(e.off, e.ln)] else []) := by
  rw [pairN_append]
  congr 1
  by_cases h : ckN e = 0 ∧ 0 < e.rn
  · rw [if_pos h]; simp [pairN, h.1, h.2]
  · rw [if_neg h]
    simp only [pairN, List.filter_cons, List.filter_nil]
    rw [if_neg (by simpa using h)]
    rfl
theorem conN_snoc (l : List En) (e : En) : conN (l ++ [e]) = if ckN e = 0 ∧ 0 < e.rn ∧ (e.off, e.ln) ∉ pairN l then conN l + 1 else conN l := by
  unfold conN
  rw [pairN_snoc]
  by_cases h : ckN e = 0 ∧ 0 < e.rn
  · rw [if_pos h, unl_snoc]
    by_cases h2 : (e.off, e.ln) ∈ pairN l
    · rw [if_pos h2, if_neg (fun h3 => h3.2.2 h2)]
    · rw [if_neg h2, if_pos ⟨h.1, h.2, h2⟩]
  · rw [if_neg h, if_neg (fun h3 => h ⟨h3.1, h3.2.1⟩), List.append_nil]
theorem con_parts (a b : List En) : conN (a ++ b) ≤ conN a + conN b ∧ conN a ≤ conN (a ++ b) ∧ conN b ≤ conN (a ++ b) ∧ conN (a ++ b ++ a) = conN (a ++ b) := by
  unfold conN
  simp only [pairN_append]
  exact unl_parts _ _
theorem mem_pairN (l : List En) (q : Int × Int) : q ∈ pairN l ↔ ∃ e ∈ l, ckN e = 0 ∧ 0 < e.rn ∧ e.off = q.1 ∧ e.ln = q.2 := by
  simp only [pairN, List.mem_map, List.mem_filter, Bool.and_eq_true, decide_eq_true_eq]
  constructor
  · rintro ⟨e, ⟨h1, h2, h3⟩, rfl⟩
    exact ⟨e, h1, h2, h3, rfl, rfl⟩
  · rintro ⟨e, h1, h2, h3, h4, h5⟩
    exact ⟨e, ⟨h1, h2, h3⟩, Prod.ext h4 h5⟩
end Go.Proofs.Ytdgohnpkpijmbaa
