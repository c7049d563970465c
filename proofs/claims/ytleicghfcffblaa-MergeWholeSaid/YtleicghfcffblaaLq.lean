/- Plain words of a chart: what putting leaves is a chart; a chart is told by its members; what is made of a chart's own items, in whatever order, is the chart. -/
import Derived.Test.YtleicghfcffblaaMB
namespace Go.Proofs.Ytleicghfcffblaa
theorem mem_low {id : Nat} {l : List It} {t : It} (h : t ∈ lowI id l) : t.1 < id := by
  unfold lowI at h
  induction l with
  | nil => simp at h
  | cons x l ih =>
    rw [List.takeWhile_cons] at h
    split at h
    · rename_i hx
      rcases List.mem_cons.1 h with rfl | h
      · simpa using hx
      · exact ih h
    · simp at h
theorem mem_lh (id : Nat) (l : List It) (t : It) : t ∈ l ↔ t ∈ lowI id l ∨ t ∈ highI id l := by
  conv => lhs; rw [← low_high id l]
  exact List.mem_append
theorem high_ge {id : Nat} {l : List It} (hr : Rise l) : ∀ t ∈ highI id l, id ≤ t.1 := by
  unfold highI
  induction l with
  | nil => intro t h; simp at h
  | cons x l ih =>
    intro t h
    rw [List.dropWhile_cons] at h
    split at h
    · exact ih (List.pairwise_cons.1 hr).2 t h
    · rename_i hx
      rcases List.mem_cons.1 h with rfl | h
      · simpa using hx
      · have := (List.pairwise_cons.1 hr).1 t h
        have hx' : ¬ x.1 < id := by simpa using hx
        omega
theorem del_rise {id : Nat} {l : List It} (hr : Rise l) : Rise (delI id l) := List.Pairwise.sublist List.filter_sublist hr
theorem mem_del (id : Nat) (l : List It) (t : It) : t ∈ delI id l ↔ t ∈ l ∧ t.1 ≠ id := by
  unfold delI
  rw [List.mem_filter]
  simp
theorem mem_put (id : Nat) (s : ByteArray) (l : List It) (t : It) : t ∈ putI id s l ↔ t = (id, s) ∨ (t ∈ l ∧ t.1 ≠ id) := by
  unfold putI
  rw [List.mem_append, List.mem_cons, ← mem_del, mem_lh id (delI id l) t]
  constructor
  · rintro (h | h | h)
    · exact .inr (.inl h)
    · exact .inl h
    · exact .inr (.inr h)
  · rintro (h | h | h)
    · exact .inr (.inl h)
    · exact .inl h
    · exact .inr (.inr h)
theorem put_rise (id : Nat) (s : ByteArray) {l : List It} (hr : Rise l) : Rise (putI id s l) := by
  have hd := del_rise (id := id) hr
  have hsplit := low_high id (delI id l)
  have hp : Rise (lowI id (delI id l) ++ highI id (delI id l)) := by rw [hsplit]; exact hd
  unfold Rise at hp
  rw [List.pairwise_append] at hp
  unfold Rise putI
  rw [List.pairwise_append, List.pairwise_cons]
  refine ⟨hp.1, ⟨fun t ht => ?_, hp.2.1⟩, fun a ha b hb => ?_⟩
  · have h1 := high_ge hd t ht
    have h2 : t ∈ delI id l := (mem_lh id _ t).2 (.inr ht)
    have h3 := (mem_del id l t).1 h2
    show id < t.1
    omega
  · rcases List.mem_cons.1 hb with rfl | hb
    · exact mem_low ha
    · exact hp.2.2 a ha b hb
theorem del_len_lt {id : Nat} {l : List It} {t : It} (h : t ∈ l) (ht : t.1 = id) : (delI id l).length + 1 ≤ l.length := by
  induction l with
  | nil => simp at h
  | cons x l ih =>
    have hle := delI_len id l
    unfold delI at hle ih ⊢
    by_cases hx : x.1 = id
    · rw [List.filter_cons_of_neg (by simpa using hx), List.length_cons]
      omega
    · rw [List.filter_cons_of_pos (by simpa using hx), List.length_cons, List.length_cons]
      rcases List.mem_cons.1 h with rfl | h
      · exact absurd ht hx
      · have := ih h; omega
theorem put_len (id : Nat) (s : ByteArray) (l : List It) : (putI id s l).length = (delI id l).length + 1 := by
  have h1 := congrArg List.length (low_high id (delI id l))
  rw [List.length_append] at h1
  unfold putI
  rw [List.length_append, List.length_cons]
  omega
theorem getI_some (id : Nat) (l : List It) : (getI id l).isSome = true ↔ ∃ t ∈ l, t.1 = id := by
  have h := getI_none id l
  cases hg : getI id l with
  | none =>
    rw [hg] at h
    constructor
    · intro hh; cases hh
    · rintro ⟨t, ht, e⟩
      exact absurd e ((h.1 rfl) t ht)
  | some s =>
    refine ⟨fun _ => ?_, fun _ => rfl⟩
    rcases Classical.em (∃ t ∈ l, t.1 = id) with h2 | h2
    · exact h2
    · exfalso
      have : getI id l = none := (getI_none id l).2 (fun t ht e => h2 ⟨t, ht, e⟩)
      rw [this] at hg
      cases hg
theorem good_del {id : Nat} {l : List It} (h : GoodC l) : GoodC (delI id l) :=
  ⟨del_rise h.rise, fun t ht => h.low t ((mem_del id l t).1 ht).1, fun t ht => h.pos t ((mem_del id l t).1 ht).1, fun t ht => h.short t ((mem_del id l t).1 ht).1, Nat.le_trans (delI_len id l) h.few⟩
theorem good_put {id : Nat} {s : ByteArray} {l : List It} (h : GoodC l) : GoodC (putL l id s) := by
  unfold putL
  split
  · rename_i he
    unfold putE at he
    by_cases h1 : 6004799503160661 ≤ id
    · rw [if_pos h1] at he; cases he
    rw [if_neg h1] at he
    by_cases h2 : s.size = 0
    · rw [if_pos h2] at he; cases he
    rw [if_neg h2] at he
    by_cases h3 : 65536 < s.size
    · rw [if_pos h3] at he; cases he
    rw [if_neg h3] at he
    refine ⟨put_rise id s h.rise, fun t ht => ?_, fun t ht => ?_, fun t ht => ?_, ?_⟩
    · rcases (mem_put id s l t).1 ht with rfl | h4
      · show id < _; omega
      · exact h.low t h4.1
    · rcases (mem_put id s l t).1 ht with rfl | h4
      · show 0 < s.size; omega
      · exact h.pos t h4.1
    · rcases (mem_put id s l t).1 ht with rfl | h4
      · show s.size ≤ _; omega
      · exact h.short t h4.1
    · rw [put_len]
      have hf := h.few
      cases hg : getI id l with
      | none =>
        rw [hg] at he
        have h5 : ¬ 2048 ≤ l.length := by
          intro h6
          rw [if_pos (by simp [h6])] at he
          cases he
        have := delI_len id l
        omega
      | some x =>
        obtain ⟨t, ht, e⟩ := (getI_some id l).1 (by rw [hg]; rfl)
        have := del_len_lt ht e
        omega
  · exact h
/-- Two rising lists of the same members are one. -/
theorem rise_ext : ∀ {a b : List It}, Rise a → Rise b → (∀ t, t ∈ a ↔ t ∈ b) → a = b
  | [], [], _, _, _ => rfl
  | [], y :: b, _, _, h => by have := (h y).2 (by simp); simp at this
  | x :: a, [], _, _, h => by have := (h x).1 (by simp); simp at this
  | x :: a, y :: b, ha, hb, h => by
    have hx := List.pairwise_cons.1 ha
    have hy := List.pairwise_cons.1 hb
    have hxy : x = y := by
      rcases List.mem_cons.1 ((h x).1 (by simp)) with e | e
      · exact e
      · rcases List.mem_cons.1 ((h y).2 (by simp)) with e2 | e2
        · exact e2.symm
        · have h1 := hy.1 x e
          have h2 := hx.1 y e2
          omega
    subst hxy
    have : a = b := rise_ext hx.2 hy.2 (fun t => by
      constructor
      · intro ht
        rcases List.mem_cons.1 ((h t).1 (List.mem_cons_of_mem _ ht)) with e | e
        · subst e; have := hx.1 t ht; omega
        · exact e
      · intro ht
        rcases List.mem_cons.1 ((h t).2 (List.mem_cons_of_mem _ ht)) with e | e
        · subst e; have := hy.1 t ht; omega
        · exact e)
    rw [this]
/-- One item each of a chart's, once each, may be put whatever came ahead. -/
theorem ofR_all (all : List It) (hg : GoodC all) : ∀ (rest seen acc : List It), (seen ++ rest).Nodup → (∀ t ∈ seen ++ rest, t ∈ all) → Rise acc → (∀ t, t ∈ acc ↔ t ∈ seen) → acc.length = seen.length → seen.length + rest.length ≤ 2048 → ∃ r, ofR seen acc rest = (r, 0) ∧ Rise r ∧ ∀ t, t ∈ r ↔ t ∈ seen ++ rest
  | [], seen, acc, _, _, hr, hm, _, _ => ⟨acc, rfl, hr, fun t => by rw [List.append_nil]; exact hm t⟩
  | t :: rest, seen, acc, hn, hin, hr, hm, hl, h2 => by
    have hta : t ∈ all := hin t (by simp)
    have huniq : ∀ u ∈ all, u.1 = t.1 → u = t := by
      intro u hu e
      have hp := hg.rise
      unfold Rise at hp
      rcases List.mem_iff_getElem.1 hu with ⟨i, hi, rfl⟩
      rcases List.mem_iff_getElem.1 hta with ⟨j, hj, rfl⟩
      rw [List.pairwise_iff_getElem] at hp
      rcases Nat.lt_trichotomy i j with h | h | h
      · have := hp i j hi hj h; omega
      · subst h; rfl
      · have := hp j i hj hi h; omega
    have hnot : t ∉ seen := by
      intro h
      rw [List.nodup_append] at hn
      exact hn.2.2 t h t (by simp) rfl
    have hnone : ∀ l : List It, (∀ u ∈ l, u ∈ all) → t ∉ l → getI t.1 l = none := fun l hl hn => (getI_none t.1 l).2 (fun u hu e => hn (huniq u (hl u hu) e ▸ hu))
    have hs : getI t.1 seen = none := hnone seen (fun u hu => hin u (by simp [hu])) hnot
    have ha : getI t.1 acc = none := hnone acc (fun u hu => hin u (by simp [(hm u).1 hu])) (fun h => hnot ((hm t).1 h))
    have hacc : acc.length ≤ 2047 := by rw [hl]; simp at h2; omega
    have he : putE acc t.1 t.2 = 0 := by
      unfold putE
      rw [if_neg (by have := hg.low t hta; omega), if_neg (by have := hg.pos t hta; omega), if_neg (by have := hg.short t hta; omega), if_neg]
      simp; omega
    rw [ofR, hs, he]
    have hdel : delI t.1 acc = acc := by
      unfold delI
      rw [List.filter_eq_self]
      intro u hu
      have := (getI_none t.1 acc).1 ha u hu
      simpa using this
    have hm' : ∀ u, u ∈ putI t.1 t.2 acc ↔ u ∈ seen ++ [t] := by
      intro u
      rw [mem_put, List.mem_append, List.mem_singleton]
      constructor
      · rintro (h | ⟨h, _⟩)
        · exact .inr h
        · exact .inl ((hm u).1 h)
      · rintro (h | h)
        · exact .inr ⟨(hm u).2 h, (getI_none t.1 seen).1 hs u h⟩
        · exact .inl h
    have hl' : (putI t.1 t.2 acc).length = (seen ++ [t]).length := by rw [put_len, hdel, hl]; simp
    have e : seen ++ t :: rest = (seen ++ [t]) ++ rest := by simp
    obtain ⟨r, h1, h3, h4⟩ := ofR_all all hg rest (seen ++ [t]) (putI t.1 t.2 acc) (e ▸ hn) (e ▸ hin) (put_rise _ _ hr) hm' hl' (by simp at h2 ⊢; omega)
    refine ⟨r, ?_, h3, fun u => by rw [e]; exact h4 u⟩
    simpa using h1
theorem of_perm (all m : List It) (hg : GoodC all) (hp : m.Perm all) : ofI m = (all, 0) := by
  have hnd : all.Nodup := List.Pairwise.imp (fun {a b} h e => by subst e; omega) hg.rise
  obtain ⟨r, h1, h2, h3⟩ := ofR_all all hg m [] [] (by simpa using hp.nodup_iff.2 hnd) (fun t ht => by simpa using hp.mem_iff.1 (by simpa using ht)) List.Pairwise.nil (by simp) rfl (by have := hg.few; have := hp.length_eq; simp; omega)
  have : r = all := rise_ext h2 hg.rise (fun t => by rw [h3 t]; simpa using hp.mem_iff)
  unfold ofI
  rw [h1, this]
theorem rot_perm (l : List It) (k : Nat) : (l.drop k ++ l.take k).Perm l := by
  have := List.perm_append_comm (l₁ := l.drop k) (l₂ := l.take k)
  rw [List.take_append_drop] at this
  exact this
theorem get_at {l : List It} (hr : Rise l) (k : Nat) (t : It) (h : l[k]? = some t) : getI t.1 l = some t.2 := by
  induction l generalizing k with
  | nil => simp at h
  | cons x l ih =>
    rw [getI]
    cases k with
    | zero => simp at h; subst h; simp
    | succ k =>
      have hm : t ∈ l := List.mem_of_getElem? (by simpa using h)
      have := (List.pairwise_cons.1 hr).1 t hm
      rw [if_neg (by omega)]
      exact ih (List.pairwise_cons.1 hr).2 k (by simpa using h)
theorem rise_at {l : List It} (hr : Rise l) (k : Nat) (s t : It) (hs : l[k]? = some s) (ht : l[k + 1]? = some t) : s.1 < t.1 := by
  obtain ⟨h1, rfl⟩ := List.getElem?_eq_some_iff.1 hs
  obtain ⟨h2, rfl⟩ := List.getElem?_eq_some_iff.1 ht
  unfold Rise at hr
  rw [List.pairwise_iff_getElem] at hr
  exact hr k (k + 1) h1 h2 (by omega)
end Go.Proofs.Ytleicghfcffblaa
