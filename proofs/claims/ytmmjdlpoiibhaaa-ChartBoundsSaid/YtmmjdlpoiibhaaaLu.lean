/- Plain words for ChartBounds. -/
import Derived.Test.YtmmjdlpoiibhaaaLq
namespace Go.Proofs.Ytmmjdlpoiibhaaa
def kT : ByteArray := { data := #[116] }
def bl (n : Nat) : List It := (List.range n).map (fun i => (3 * i, kT))
theorem bl_len (n : Nat) : (bl n).length = n := by simp [bl]
theorem bl_succ (n : Nat) : bl (n + 1) = bl n ++ [(3 * n, kT)] := by simp [bl, List.range_succ]
theorem mem_bl (n : Nat) (t : It) : t ∈ bl n ↔ ∃ i, i < n ∧ t = (3 * i, kT) := by
  unfold bl
  rw [List.mem_map]
  constructor
  · rintro ⟨i, hi, rfl⟩; exact ⟨i, List.mem_range.1 hi, rfl⟩
  · rintro ⟨i, hi, rfl⟩; exact ⟨i, List.mem_range.2 hi, rfl⟩
theorem bl_rise (n : Nat) : Rise (bl n) := by
  induction n with
  | zero => simp [bl, Rise]
  | succ n ih =>
    rw [bl_succ]
    unfold Rise
    rw [List.pairwise_append]
    refine ⟨ih, by simp, fun a ha b hb => ?_⟩
    obtain ⟨i, hi, rfl⟩ := (mem_bl n a).1 ha
    rw [List.mem_singleton] at hb
    subst hb
    show 3 * i < 3 * n
    omega
theorem kT_size : kT.size = 1 := rfl
theorem bl_good : GoodC (bl 2048) := by
  refine ⟨bl_rise _, fun t ht => ?_, fun t ht => ?_, fun t ht => ?_, by rw [bl_len]; omega⟩
  · obtain ⟨i, hi, rfl⟩ := (mem_bl _ t).1 ht; show 3 * i < _; omega
  · obtain ⟨i, hi, rfl⟩ := (mem_bl _ t).1 ht; show 0 < kT.size; rw [kT_size]; omega
  · obtain ⟨i, hi, rfl⟩ := (mem_bl _ t).1 ht; show kT.size ≤ _; rw [kT_size]; omega
theorem bl_of : ofI (bl 2048) = (bl 2048, 0) := of_perm _ _ bl_good (List.Perm.refl _)
theorem bl_no (b : Nat) : getI (3 * b + 1) (bl 2048) = none := by
  rw [getI_none]
  intro t ht
  obtain ⟨i, hi, rfl⟩ := (mem_bl _ t).1 ht
  show 3 * i ≠ _
  omega
theorem bl_full (b : Nat) (hb : b < 65536) (s : ByteArray) (h0 : 0 < s.size) (h1 : s.size ≤ 65536) : putE (bl 2048) (3 * b + 1) s = 7 := by
  unfold putE
  rw [if_neg (by omega), if_neg (by omega), if_neg (by omega), bl_no b, bl_len]
  rfl
theorem bl_yes (b : Nat) : getI (3 * (b % 2048)) (bl 2048) = some kT := by
  have hlt : b % 2048 < 2048 := Nat.mod_lt _ (by omega)
  have h := get_at (bl_rise 2048) (b % 2048) (3 * (b % 2048), kT) (by unfold bl; rw [List.getElem?_map, List.getElem?_range hlt]; rfl)
  exact h
theorem bl_put (b : Nat) (s : ByteArray) (h0 : 0 < s.size) (h1 : s.size ≤ 65536) : putE (bl 2048) (3 * (b % 2048)) s = 0 := by
  have hlt : b % 2048 < 2048 := Nat.mod_lt _ (by omega)
  unfold putE
  rw [if_neg (by omega), if_neg (by omega), if_neg (by omega), bl_yes b]
  rfl
theorem put_bytes (id : Nat) (s : ByteArray) (l : List It) : bytesI (putI id s l) = bytesI (delI id l) + s.size := by
  have h := congrArg bytesI (low_high id (delI id l))
  rw [bytesI_append] at h
  unfold putI
  rw [bytesI_append, bytesI]
  show bytesI (lowI id (delI id l)) + (s.size + bytesI (highI id (delI id l))) = _
  omega
theorem ones {l : List It} (h : ∀ t ∈ l, t.2.size = 1) : bytesI l = l.length := by
  induction l with
  | nil => rfl
  | cons t l ih =>
    rw [bytesI, ih (fun x hx => h x (by simp [hx])), h t (by simp), List.length_cons]
    omega
theorem del_one {id : Nat} {l : List It} (hr : Rise l) {t : It} (h : t ∈ l) (ht : t.1 = id) : (delI id l).length + 1 = l.length := by
  induction l with
  | nil => simp at h
  | cons x l ih =>
    have hx := List.pairwise_cons.1 hr
    unfold delI at ih ⊢
    by_cases e : x.1 = id
    · rw [List.filter_cons_of_neg (by simpa using e), List.length_cons]
      have : l.filter (fun t => decide (t.1 ≠ id)) = l := by
        rw [List.filter_eq_self]
        intro u hu
        have := hx.1 u hu
        simp; omega
      rw [this]
    · rw [List.filter_cons_of_pos (by simpa using e), List.length_cons, List.length_cons]
      rcases List.mem_cons.1 h with rfl | h
      · exact absurd ht e
      · rw [ih hx.2 h]
theorem bl_same (b : Nat) (s : ByteArray) (h0 : 0 < s.size) (h1 : s.size ≤ 65536) : (putL (bl 2048) (3 * (b % 2048)) s).length = 2048 ∧ bytesI (putL (bl 2048) (3 * (b % 2048)) s) = 2047 + s.size := by
  have hlt : b % 2048 < 2048 := Nat.mod_lt _ (by omega)
  have hm : ((3 * (b % 2048), kT) : It) ∈ bl 2048 := (mem_bl _ _).2 ⟨_, hlt, rfl⟩
  have hd := del_one (bl_rise 2048) hm rfl
  rw [bl_len] at hd
  unfold putL
  rw [if_pos (bl_put b s h0 h1), put_len, put_bytes, ones (fun t ht => by
    obtain ⟨i, _, rfl⟩ := (mem_bl _ t).1 ((mem_del _ _ t).1 ht).1
    exact kT_size)]
  simp only at hd
  omega
theorem one_put (id : Nat) (hid : id < 2048) (s : ByteArray) (h : s.size = 65536) : putE [] id s = 0 ∧ bytesI (putL [] id s) = 65536 := by
  have he : putE [] id s = 0 := by
    unfold putE
    rw [if_neg (by omega), if_neg (by omega), if_neg (by omega)]
    rfl
  refine ⟨he, ?_⟩
  unfold putL
  rw [if_pos he, put_bytes]
  simp [delI, bytesI, h]
theorem long_put (s : ByteArray) (h : s.size = 65537) : putE [] 0 s = 5 := by
  unfold putE
  rw [if_neg (by omega), if_neg (by omega), if_pos (by omega)]
end Go.Proofs.Ytmmjdlpoiibhaaa
