/- Plain words of a pool, no Go: contents one behind the other, where one stands, what adding one makes. -/
import Derived.WalkKit
import Derived.Lib.Hide
namespace Go.Proofs.Ytmmjdlpoiibhaaa
def totF : List ByteArray → Nat
  | [] => 0
  | t :: l => t.size + totF l
def catF : List ByteArray → ByteArray
  | [] => ByteArray.empty
  | t :: l => t ++ catF l
def findF (s : ByteArray) : List ByteArray → Nat → Option Nat
  | [], _ => none
  | t :: l, n => if t = s then some n else findF s l (n + t.size)
def getG (a b : Int) : List ByteArray → Nat → Option ByteArray
  | [], _ => none
  | t :: l, n => if (n : Int) = a ∧ (t.size : Int) = b then some t else getG a b l (n + t.size)
def offV (o : Option Nat) : Nat := o.getD 0
def lenV (o : Option Nat) (s : ByteArray) : Nat := if o.isSome then s.size else 0
def eV (l : List ByteArray) (s : ByteArray) : Nat := if s.size = 0 then 2 else if 65536 < s.size then 5 else if (findF s l 0).isSome then 0 else if 2048 ≤ l.length then 7 else 0
def isNew (l : List ByteArray) (s : ByteArray) : Bool := decide (eV l s = 0) && (findF s l 0).isNone
def newL (l : List ByteArray) (s : ByteArray) : List ByteArray := if isNew l s then l ++ [s] else l
def offA (l : List ByteArray) (s : ByteArray) : Nat := if isNew l s then totF l else if eV l s = 0 then offV (findF s l 0) else 0
def lenA (l : List ByteArray) (s : ByteArray) : Nat := if eV l s = 0 then s.size else 0
/-- What a pool's contents are: each is there once, none is empty or too long, there are not too many. -/
structure GoodP (l : List ByteArray) : Prop where
  pos : ∀ t ∈ l, 0 < t.size
  short : ∀ t ∈ l, t.size ≤ 65536
  once : l.Nodup
  few : l.length ≤ 2048
theorem goodP_nil : GoodP [] := ⟨by simp, by simp, by simp, by simp⟩
theorem totF_append (a b : List ByteArray) : totF (a ++ b) = totF a + totF b := by
  induction a with
  | nil => simp [totF]
  | cons t l ih => rw [List.cons_append, totF, totF, ih]; omega
theorem totF_one (s : ByteArray) : totF [s] = s.size := by simp [totF]
theorem totF_take (l : List ByteArray) (k : Nat) : totF (l.take k) ≤ totF l := by
  have h := totF_append (l.take k) (l.drop k)
  rw [List.take_append_drop] at h
  omega
theorem totF_step (l : List ByteArray) (k : Nat) (t : ByteArray) (h : l[k]? = some t) : totF (l.take (k + 1)) = totF (l.take k) + t.size := by
  rw [List.take_add_one, h, totF_append]
  simp [totF]
theorem totF_bound (l : List ByteArray) (M : Nat) (h : ∀ t ∈ l, t.size ≤ M) : totF l ≤ l.length * M := by
  induction l with
  | nil => simp [totF]
  | cons t l ih =>
    have h1 := h t (by simp)
    have h2 := ih (fun x hx => h x (by simp [hx]))
    rw [totF, List.length_cons, Nat.succ_mul]
    omega
theorem GoodP.tot {l : List ByteArray} (h : GoodP l) : totF l ≤ 134217728 := by
  have h1 := totF_bound l 65536 h.short
  have h2 := h.few
  omega
theorem mem_tot (l : List ByteArray) (t : ByteArray) (h : t ∈ l) : t.size ≤ totF l := by
  induction l with
  | nil => simp at h
  | cons x l ih =>
    rw [totF]
    rcases List.mem_cons.1 h with rfl | h
    · omega
    · have := ih h; omega
theorem cat_append (a b : List ByteArray) : catF (a ++ b) = catF a ++ catF b := by
  induction a with
  | nil => simp [catF]
  | cons t l ih => rw [List.cons_append, catF, catF, ih, ByteArray.append_assoc]
theorem catF_one (s : ByteArray) : catF [s] = s := by simp [catF]
theorem catF_step (l : List ByteArray) (k : Nat) (t : ByteArray) (h : l[k]? = some t) : catF (l.take (k + 1)) = catF (l.take k) ++ t := by
  rw [List.take_add_one, h, cat_append]
  simp [catF]
theorem catF_size (l : List ByteArray) : (catF l).size = totF l := by
  induction l with
  | nil => simp [catF, totF]
  | cons t l ih => rw [catF, totF, ByteArray.size_append, ih]
theorem drop_at {α : Type} (l : List α) (k : Nat) (t : α) (h : l[k]? = some t) : l.drop k = t :: l.drop (k + 1) := by
  obtain ⟨hk, rfl⟩ := List.getElem?_eq_some_iff.1 h
  exact List.drop_eq_getElem_cons hk
theorem findF_mem (s : ByteArray) (l : List ByteArray) : ∀ n, (findF s l n).isSome = true ↔ s ∈ l := by
  induction l with
  | nil => simp [findF]
  | cons t l ih =>
    intro n
    rw [findF]
    by_cases h : t = s
    · simp [h]
    · rw [if_neg h, ih]
      simp [h, Ne.symm h]
theorem findF_none (s : ByteArray) (l : List ByteArray) (n : Nat) : findF s l n = none ↔ s ∉ l := by
  rw [← findF_mem s l n]
  cases findF s l n <;> simp
theorem findF_append (s : ByteArray) (a b : List ByteArray) : ∀ n, findF s (a ++ b) n = match findF s a n with | some k => some k | none => findF s b (n + totF a) := by
  induction a with
  | nil => intro n; simp [findF, totF]
  | cons t l ih =>
    intro n
    rw [List.cons_append, findF, findF]
    by_cases h : t = s
    · simp [h]
    · rw [if_neg h, if_neg h, ih, totF]
      rw [Nat.add_assoc]
theorem findF_le (s : ByteArray) (l : List ByteArray) : ∀ n k, findF s l n = some k → n ≤ k ∧ k + s.size ≤ n + totF l := by
  induction l with
  | nil => intro n k h; simp [findF] at h
  | cons t l ih =>
    intro n k h
    rw [findF] at h
    rw [totF]
    by_cases e : t = s
    · rw [if_pos e] at h; injection h with h; subst e; omega
    · rw [if_neg e] at h; have := ih _ _ h; omega
/-- Where the k-th content stands that is not there before. -/
theorem findF_at (l : List ByteArray) (k : Nat) (t : ByteArray) (h : l[k]? = some t) (hn : l.Nodup) (n : Nat) : findF t l n = some (n + totF (l.take k)) := by
  have e : l = l.take k ++ t :: l.drop (k + 1) := by rw [← drop_at l k t h, List.take_append_drop]
  have hnot : t ∉ l.take k := by
    rw [e] at hn
    intro hm
    exact (List.nodup_append.1 hn).2.2 t hm t (by simp) rfl
  conv => lhs; rw [e]
  rw [findF_append, (findF_none t _ n).2 hnot]
  simp [findF]
theorem eV_iff (l : List ByteArray) (s : ByteArray) : eV l s = 0 ↔ 0 < s.size ∧ s.size ≤ 65536 ∧ (s ∈ l ∨ l.length < 2048) := by
  unfold eV
  have := findF_mem s l 0
  by_cases h1 : s.size = 0
  · simp [h1]
  · rw [if_neg h1]
    by_cases h2 : 65536 < s.size
    · rw [if_pos h2]; simp; omega
    · rw [if_neg h2]
      by_cases h3 : (findF s l 0).isSome = true
      · rw [if_pos h3]; simp only [true_iff]; exact ⟨by omega, by omega, .inl (this.1 h3)⟩
      · rw [if_neg h3]
        have h4 : s ∉ l := fun h => h3 (this.2 h)
        by_cases h5 : 2048 ≤ l.length
        · rw [if_pos h5]; simp [h4]; omega
        · rw [if_neg h5]; simp; omega
theorem isNew_iff (l : List ByteArray) (s : ByteArray) : isNew l s = true ↔ 0 < s.size ∧ s.size ≤ 65536 ∧ s ∉ l ∧ l.length < 2048 := by
  unfold isNew
  rw [Bool.and_eq_true, decide_eq_true_eq, eV_iff, Option.isNone_iff_eq_none, findF_none]
  constructor
  · rintro ⟨⟨h1, h2, h3⟩, h4⟩; exact ⟨h1, h2, h4, h3.resolve_left h4⟩
  · rintro ⟨h1, h2, h3, h4⟩; exact ⟨⟨h1, h2, .inr h4⟩, h3⟩
theorem GoodP.add {l : List ByteArray} (h : GoodP l) (s : ByteArray) : GoodP (newL l s) := by
  unfold newL
  split
  · rename_i hn
    obtain ⟨h1, h2, h3, h4⟩ := (isNew_iff l s).1 hn
    refine ⟨?_, ?_, ?_, by simp; omega⟩
    · intro t ht; rcases List.mem_append.1 ht with ht | ht
      · exact h.pos t ht
      · rw [List.mem_singleton.1 ht]; exact h1
    · intro t ht; rcases List.mem_append.1 ht with ht | ht
      · exact h.short t ht
      · rw [List.mem_singleton.1 ht]; exact h2
    · rw [List.nodup_append]
      refine ⟨h.once, by simp, fun a ha b hb => ?_⟩
      rw [List.mem_singleton.1 hb]
      intro e
      exact h3 (e ▸ ha)
  · exact h
theorem newL_len (l : List ByteArray) (s : ByteArray) : l.length ≤ (newL l s).length ∧ (newL l s).length ≤ l.length + 1 := by
  unfold newL; split <;> simp
theorem newL_tot (l : List ByteArray) (s : ByteArray) : totF (newL l s) ≤ totF l + s.size := by
  unfold newL; split
  · rw [totF_append, totF_one]; omega
  · omega
/-- All contents added, one after another. -/
def addsF (l : List ByteArray) (m : List ByteArray) : List ByteArray := m.foldl newL l
theorem GoodP.adds {l : List ByteArray} (h : GoodP l) (m : List ByteArray) : GoodP (addsF l m) := by
  induction m generalizing l with
  | nil => exact h
  | cons s m ih => exact ih (h.add s)
theorem addsF_step (l m : List ByteArray) (k : Nat) (t : ByteArray) (h : m[k]? = some t) : addsF l (m.take (k + 1)) = newL (addsF l (m.take k)) t := by
  unfold addsF
  rw [List.take_add_one, h, List.foldl_append]
  rfl
theorem addsF_len (l m : List ByteArray) : l.length ≤ (addsF l m).length ∧ (addsF l m).length ≤ l.length + m.length := by
  induction m generalizing l with
  | nil => simp [addsF]
  | cons s m ih =>
    have h1 := newL_len l s
    have h2 := ih (newL l s)
    rw [List.length_cons]
    show l.length ≤ (addsF (newL l s) m).length ∧ (addsF (newL l s) m).length ≤ _
    omega
theorem addsF_tot (l m : List ByteArray) : totF (addsF l m) ≤ totF l + totF m := by
  induction m generalizing l with
  | nil => simp [addsF, totF]
  | cons s m ih =>
    have h1 := newL_tot l s
    have h2 := ih (newL l s)
    rw [totF]
    show totF (addsF (newL l s) m) ≤ _
    omega
theorem newL_pre (l : List ByteArray) (s : ByteArray) : ∃ r, newL l s = l ++ r := by
  unfold newL; split
  · exact ⟨[s], rfl⟩
  · exact ⟨[], by simp⟩
theorem addsF_pre (l m : List ByteArray) : ∃ r, addsF l m = l ++ r := by
  induction m generalizing l with
  | nil => exact ⟨[], by simp [addsF]⟩
  | cons s m ih =>
    obtain ⟨r, hr⟩ := newL_pre l s
    obtain ⟨q, hq⟩ := ih (newL l s)
    exact ⟨r ++ q, by show addsF (newL l s) m = _; rw [hq, hr, List.append_assoc]⟩
theorem newL_mem (l : List ByteArray) (s : ByteArray) (h0 : 0 < s.size) (h1 : s.size ≤ 65536) (h2 : l.length < 2048) : s ∈ newL l s := by
  unfold newL
  by_cases h : isNew l s = true
  · rw [if_pos h]; simp
  · rw [if_neg h]
    rw [isNew_iff] at h
    apply Classical.byContradiction
    intro hn
    exact h ⟨h0, h1, hn, h2⟩
end Go.Proofs.Ytmmjdlpoiibhaaa
