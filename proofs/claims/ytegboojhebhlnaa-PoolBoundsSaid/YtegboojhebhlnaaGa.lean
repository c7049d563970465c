/- Plain words of the landed pool, no Go: contents with their places, a bucket's contents, a sought text in its bucket. -/
import Derived.Test.YtegboojhebhlnaaFa
import Derived.Test.YtegboojhebhlnaaKa
namespace Go.Proofs.Ytegboojhebhlnaa
abbrev Kt := Nat × ByteArray
def plc : List ByteArray → Nat → List Kt
  | [], _ => []
  | t :: l, n => (n, t) :: plc l (n + t.size)
def bkt (s : ByteArray) : Int := bktF (sumF fSt s.data.toList) 2048
theorem bkt_range (s : ByteArray) : 0 ≤ bkt s ∧ bkt s < 2048 := by
  unfold bkt bktF
  rw [if_neg (by omega)]
  omega
def grp (k : Int) (l : List Kt) : List Kt := l.filter (fun t => decide (bkt t.2 = k))
theorem plc_len (l : List ByteArray) : ∀ n, (plc l n).length = l.length := by
  induction l with
  | nil => intro n; rfl
  | cons t l ih => intro n; simp [plc, ih]
theorem plc_append (a b : List ByteArray) : ∀ n, plc (a ++ b) n = plc a n ++ plc b (n + totF a) := by
  induction a with
  | nil => intro n; simp [plc, totF]
  | cons t l ih => intro n; simp [plc, ih, totF, Nat.add_assoc]
theorem plc_snoc (l : List ByteArray) (s : ByteArray) : plc (l ++ [s]) 0 = plc l 0 ++ [(totF l, s)] := by
  rw [plc_append]; simp [plc]
theorem plc_at (l : List ByteArray) : ∀ (n k : Nat) (t : ByteArray), l[k]? = some t → (plc l n)[k]? = some (n + totF (l.take k), t) := by
  induction l with
  | nil => intro n k t h; simp at h
  | cons x l ih =>
    intro n k t h
    cases k with
    | zero => simp at h; subst h; simp [plc, totF]
    | succ k => rw [plc, List.getElem?_cons_succ, ih _ k t (by simpa using h)]; simp [totF, Nat.add_assoc]
theorem plc_mem (l : List ByteArray) : ∀ (n : Nat) (t : Kt), t ∈ plc l n → t.2 ∈ l ∧ n ≤ t.1 ∧ t.1 + t.2.size ≤ n + totF l := by
  induction l with
  | nil => intro n t h; simp [plc] at h
  | cons x l ih =>
    intro n t h
    rw [plc] at h
    rw [totF]
    rcases List.mem_cons.1 h with rfl | h
    · exact ⟨by simp, Nat.le_refl _, by show n + x.size ≤ n + (x.size + totF l); omega⟩
    · have := ih _ t h
      exact ⟨List.mem_cons_of_mem _ this.1, by omega, by omega⟩
theorem grp_mem (k : Int) (l : List Kt) (t : Kt) (h : t ∈ grp k l) : t ∈ l ∧ bkt t.2 = k := by
  unfold grp at h
  rw [List.mem_filter] at h
  exact ⟨h.1, by simpa using h.2⟩
theorem grp_append (k : Int) (a b : List Kt) : grp k (a ++ b) = grp k a ++ grp k b := by simp [grp]
theorem grp_nil (k : Int) : grp k [] = [] := rfl
theorem grp_one (k : Int) (t : Kt) : grp k [t] = if bkt t.2 = k then [t] else [] := by
  unfold grp
  by_cases h : bkt t.2 = k <;> simp [h]
theorem grp_len (k : Int) (l : List Kt) : (grp k l).length ≤ l.length := List.length_filter_le _ _
/-- A sought text is looked for in its own bucket alone. -/
theorem find_grp (s : ByteArray) (l : List ByteArray) : ∀ n, ((grp (bkt s) (plc l n)).find? (fun t => decide (t.2 = s))).map (·.1) = findF s l n := by
  induction l with
  | nil => intro n; rfl
  | cons t l ih =>
    intro n
    rw [plc, findF]
    by_cases h : t = s
    · subst h
      rw [if_pos rfl]
      simp [grp]
    · rw [if_neg h, ← ih]
      unfold grp
      by_cases hb : bkt t = bkt s
      · rw [List.filter_cons_of_pos (by simpa using hb), List.find?_cons_of_neg (by simpa using h)]
      · rw [List.filter_cons_of_neg (by simpa using hb)]
theorem find_first (p : Kt → Bool) (l : List Kt) (i : Nat) (t : Kt) (hi : l[i]? = some t) (hp : p t = true) (hn : ∀ x ∈ l.take i, p x = false) : l.find? p = some t := by
  have e : l = l.take i ++ t :: l.drop (i + 1) := by rw [← drop_at l i t hi, List.take_append_drop]
  rw [e, List.find?_append]
  have h0 : (l.take i).find? p = none := by rw [List.find?_eq_none]; intro x hx; rw [hn x hx]; simp
  rw [h0]
  simp [hp]
theorem find_no (p : Kt → Bool) (l : List Kt) (hn : ∀ x ∈ l, p x = false) : l.find? p = none := by
  rw [List.find?_eq_none]; intro x hx; rw [hn x hx]; simp
/-- The place at which a text is sought: behind how many contents that begin ahead of it. -/
def loG (a : Int) : List ByteArray → Nat → Nat
  | [], _ => 0
  | t :: l, n => if (n : Int) < a then loG a l (n + t.size) + 1 else 0
theorem loG_le (a : Int) (l : List ByteArray) : ∀ n, loG a l n ≤ l.length := by
  induction l with
  | nil => intro n; exact Nat.le_refl _
  | cons t l ih =>
    intro n
    rw [loG]
    split
    · have := ih (n + t.size); simp; omega
    · simp
theorem loG_spec (a : Int) (l : List ByteArray) : ∀ n k, k < l.length → (((n + totF (l.take k) : Nat) : Int) < a ↔ k < loG a l n) := by
  induction l with
  | nil => intro n k h; simp at h
  | cons t l ih =>
    intro n k h
    rw [loG]
    cases k with
    | zero =>
      simp only [List.take_zero, totF, Nat.add_zero]
      split
      · rename_i hh; exact ⟨fun _ => by omega, fun _ => hh⟩
      · rename_i hh; exact ⟨fun g => absurd g hh, fun g => by omega⟩
    | succ k =>
      have := ih (n + t.size) k (by simpa using h)
      rw [List.take_succ_cons, totF, ← Nat.add_assoc]
      split
      · rw [this]; omega
      · rename_i hh
        constructor
        · intro g; exfalso; omega
        · intro g; omega
theorem getG_none (a b : Int) (l : List ByteArray) : ∀ n : Nat, a < n → getG a b l n = none := by
  induction l with
  | nil => intro n h; rfl
  | cons t l ih =>
    intro n h
    rw [getG, if_neg (by omega), ih _ (by omega)]
/-- What stands at a place: it hangs on the one content that the halving comes to. -/
theorem getG_lo (a b : Int) (l : List ByteArray) (hp : ∀ t ∈ l, 0 < t.size) : ∀ n : Nat, getG a b l n = match l[loG a l n]? with
    | some t => if ((n + totF (l.take (loG a l n)) : Nat) : Int) = a ∧ (t.size : Int) = b then some t else none
    | none => none := by
  induction l with
  | nil => intro n; rfl
  | cons t l ih =>
    intro n
    rw [getG, loG]
    by_cases h : (n : Int) < a
    · rw [if_pos h, if_neg (by omega), ih (fun x hx => hp x (by simp [hx])), List.getElem?_cons_succ, List.take_succ_cons, totF, ← Nat.add_assoc]
    · rw [if_neg h]
      simp only [List.getElem?_cons_zero, List.take_zero, totF, Nat.add_zero]
      by_cases e : (n : Int) = a ∧ (t.size : Int) = b
      · rw [if_pos e, if_pos e]
      · rw [if_neg e, if_neg e]
        have := hp t (by simp)
        exact getG_none a b l _ (by omega)
end Go.Proofs.Ytegboojhebhlnaa
