/- Plain facts of the places that adding texts one after another tells. -/
import Derived.Test.YtegboojhebhlnaaKa
namespace Go.Proofs.Ytegboojhebhlnaa
theorem newL_none (l : List ByteArray) (s : ByteArray) (h : isNew l s = false) : newL l s = l := by unfold newL; rw [h]; rfl
theorem newL_some (l : List ByteArray) (s : ByteArray) (h : isNew l s = true) : newL l s = l ++ [s] := by unfold newL; rw [h]; rfl
theorem newL_count (l : List ByteArray) (s : ByteArray) : (newL l s).length = l.length + (if isNew l s then 1 else 0) ∧ totF (newL l s) = totF l + (if isNew l s then s.size else 0) := by
  cases h : isNew l s with
  | true => rw [newL_some l s h, totF_append, totF_one]; simp
  | false => rw [newL_none l s h]; simp
/-- Where a text that was taken stands. -/
theorem newL_find (l : List ByteArray) (s : ByteArray) (h0 : 0 < s.size) (h1 : s.size ≤ 65536) (h2 : l.length < 2048) : findF s (newL l s) 0 = some (offA l s) ∧ lenA l s = s.size := by
  have he : eV l s = 0 := (eV_iff l s).2 ⟨h0, h1, .inr h2⟩
  refine ⟨?_, by unfold lenA; rw [if_pos he]⟩
  cases h : isNew l s with
  | true =>
    have hn := ((isNew_iff l s).1 h).2.2.1
    rw [newL_some l s h, findF_append, (findF_none s l 0).2 hn]
    unfold offA
    rw [if_pos h]
    simp [findF]
  | false =>
    rw [newL_none l s h]
    unfold offA
    rw [h, if_neg (by simp), if_pos he]
    cases hf : findF s l 0 with
    | some n => rfl
    | none =>
      have : isNew l s = true := (isNew_iff l s).2 ⟨h0, h1, (findF_none s l 0).1 hf, h2⟩
      rw [h] at this; cases this
theorem find_pre (s : ByteArray) (l r : List ByteArray) (n k : Nat) (h : findF s l n = some k) : findF s (l ++ r) n = some k := by
  rw [findF_append, h]
/-- The place that the k-th text is told. -/
def plA (m : List ByteArray) (k : Nat) : Nat × Nat := match m[k]? with
  | some t => (offA (addsF [] (m.take k)) t, lenA (addsF [] (m.take k)) t)
  | none => (0, 0)
theorem plA_at (m : List ByteArray) (k : Nat) (t : ByteArray) (h : m[k]? = some t) : plA m k = (offA (addsF [] (m.take k)) t, lenA (addsF [] (m.take k)) t) := by
  unfold plA; rw [h]
theorem addsF_append (l a b : List ByteArray) : addsF l (a ++ b) = addsF (addsF l a) b := by
  unfold addsF; rw [List.foldl_append]
theorem adds_split (m : List ByteArray) (k : Nat) : ∃ r, addsF [] m = addsF [] (m.take k) ++ r := by
  have h := addsF_append [] (m.take k) (m.drop k)
  rw [List.take_append_drop] at h
  obtain ⟨r, hr⟩ := addsF_pre (addsF [] (m.take k)) (m.drop k)
  exact ⟨r, h.trans hr⟩
theorem plA_find (m : List ByteArray) (k : Nat) (t : ByteArray) (h : m[k]? = some t) (h0 : 0 < t.size) (h1 : t.size ≤ 65536) (hm : m.length ≤ 2000) : findF t (addsF [] m) 0 = some (plA m k).1 ∧ (plA m k).2 = t.size := by
  have hl := (addsF_len [] (m.take k)).2
  rw [List.length_take, List.length_nil] at hl
  obtain ⟨f1, f2⟩ := newL_find (addsF [] (m.take k)) t h0 h1 (by omega)
  rw [plA_at m k t h]
  refine ⟨?_, f2⟩
  obtain ⟨r, hr⟩ := adds_split m (k + 1)
  rw [hr, addsF_step [] m k t h]
  exact find_pre _ _ _ _ _ f1
theorem plA_empty (m : List ByteArray) (k : Nat) (t : ByteArray) (h : m[k]? = some t) (h0 : t.size = 0) : plA m k = (0, 0) := by
  rw [plA_at m k t h]
  have he : eV (addsF [] (m.take k)) t = 2 := by unfold eV; rw [if_pos h0]
  have hn : isNew (addsF [] (m.take k)) t = false := by unfold isNew; rw [he]; rfl
  unfold offA lenA
  rw [hn, he]
  rfl
/-- What stands where a text was found is that text. -/
theorem get_found (l : List ByteArray) (hp : ∀ t ∈ l, 0 < t.size) (s : ByteArray) : ∀ n k, findF s l n = some k → getG (k : Int) (s.size : Int) l n = some s := by
  induction l with
  | nil => intro n k h; simp [findF] at h
  | cons t l ih =>
    intro n k h
    rw [findF] at h
    rw [getG]
    by_cases e : t = s
    · rw [if_pos e] at h; injection h with h; subst e; subst h; rw [if_pos ⟨rfl, rfl⟩]
    · rw [if_neg e] at h
      have := (findF_le s l _ _ h).1
      have h0 := hp t (by simp)
      rw [if_neg (fun h' => by have := h'.1; omega)]
      exact ih (fun x hx => hp x (by simp [hx])) _ _ h
theorem get_empty (l : List ByteArray) (hp : ∀ t ∈ l, 0 < t.size) (a : Int) : ∀ n, getG a 0 l n = none := by
  induction l with
  | nil => intro n; rfl
  | cons t l ih =>
    intro n
    rw [getG, if_neg (fun h => by have := hp t (by simp); have := h.2; omega)]
    exact ih (fun x hx => hp x (by simp [hx])) _
/-- The text of all has it there. -/
theorem cat_found (l : List ByteArray) (s : ByteArray) : ∀ n k, findF s l n = some k → (catF l).extract (k - n) (k - n + s.size) = s := by
  induction l with
  | nil => intro n k h; simp [findF] at h
  | cons t l ih =>
    intro n k h
    rw [findF] at h
    rw [catF]
    by_cases e : t = s
    · rw [if_pos e] at h; injection h with h; subst e; subst h
      rw [Nat.sub_self, Nat.zero_add]
      apply ByteArray.ext
      simp
    · rw [if_neg e] at h
      have hle := (findF_le s l _ _ h).1
      have h2 := ih _ _ h
      rw [show k - n = t.size + (k - (n + t.size)) by omega]
      conv => rhs; rw [← h2]
      apply ByteArray.ext
      simp [Nat.add_assoc]
theorem plA_same (m : List ByteArray) (i k : Nat) (s t : ByteArray) (hi : m[i]? = some s) (hk : m[k]? = some t) (h0 : 0 < s.size) (hs : s.size ≤ 65536) (ht : t.size ≤ 65536) (hm : m.length ≤ 2000) : plA m k = plA m i ↔ t = s := by
  obtain ⟨f1, f2⟩ := plA_find m i s hi h0 hs hm
  constructor
  · intro e
    by_cases h1 : t.size = 0
    · rw [plA_empty m k t hk h1] at e
      rw [← e] at f2
      simp at f2
      omega
    · obtain ⟨g1, g2⟩ := plA_find m k t hk (by omega) ht hm
      have hp := (goodP_nil.adds m).pos
      have a1 := get_found _ hp s 0 _ f1
      have a2 := get_found _ hp t 0 _ g1
      rw [e] at a2 g2
      rw [← g2, f2] at a2
      rw [a1] at a2
      injection a2 with a2
      exact a2.symm
  · rintro rfl
    obtain ⟨g1, g2⟩ := plA_find m k t hk h0 ht hm
    rw [f1] at g1
    injection g1 with g1
    exact Prod.ext g1.symm (g2.trans f2.symm)
def plL (m : List ByteArray) (n : Nat) : List (Nat × Nat) := (List.range n).map (plA m)
theorem plL_len (m : List ByteArray) (n : Nat) : (plL m n).length = n := by simp [plL]
theorem plL_succ (m : List ByteArray) (n : Nat) : plL m (n + 1) = plL m n ++ [plA m n] := by
  unfold plL; rw [List.range_succ, List.map_append]; rfl
theorem plL_at (m : List ByteArray) (n k : Nat) (h : k < n) : (plL m n)[k]? = some (plA m k) := by
  unfold plL; rw [List.getElem?_map, List.getElem?_range h]; rfl
theorem adds_split' (l m : List ByteArray) (k : Nat) : ∃ r, addsF l m = addsF l (m.take k) ++ r := by
  have h := addsF_append l (m.take k) (m.drop k)
  rw [List.take_append_drop] at h
  obtain ⟨r, hr⟩ := addsF_pre (addsF l (m.take k)) (m.drop k)
  exact ⟨r, h.trans hr⟩
theorem adds_found (l m : List ByteArray) (k : Nat) (t : ByteArray) (h : m[k]? = some t) (h0 : 0 < t.size) (h1 : t.size ≤ 65536) (hl : l.length + m.length ≤ 2000) : ∃ n, findF t (addsF l m) 0 = some n := by
  have hk := (addsF_len l (m.take k)).2
  rw [List.length_take] at hk
  obtain ⟨r, hr⟩ := adds_split' l m (k + 1)
  rw [addsF_step l m k t h] at hr
  have hm : t ∈ addsF l m := by
    rw [hr]
    exact List.mem_append_left _ (newL_mem _ t h0 h1 (by omega))
  have := (findF_mem t (addsF l m) 0).2 hm
  cases hf : findF t (addsF l m) 0 with
  | none => rw [hf] at this; cases this
  | some n => exact ⟨n, rfl⟩
theorem adds_same (l m : List ByteArray) (t : ByteArray) (n : Nat) (h : findF t l 0 = some n) : findF t (addsF l m) 0 = some n := by
  obtain ⟨r, hr⟩ := addsF_pre l m
  rw [hr]
  exact find_pre _ _ _ _ _ h
theorem find_empty (l : List ByteArray) (hp : ∀ t ∈ l, 0 < t.size) (t : ByteArray) (h : t.size = 0) : findF t l 0 = none := by
  rw [findF_none]
  intro hm
  have := hp t hm
  omega
theorem cat_pre (l m : List ByteArray) : (catF l).size ≤ (catF (addsF l m)).size ∧ (catF (addsF l m)).extract 0 (catF l).size = catF l := by
  obtain ⟨r, hr⟩ := addsF_pre l m
  rw [hr, cat_append]
  refine ⟨by rw [ByteArray.size_append]; omega, ?_⟩
  apply ByteArray.ext
  simp
end Go.Proofs.Ytegboojhebhlnaa
