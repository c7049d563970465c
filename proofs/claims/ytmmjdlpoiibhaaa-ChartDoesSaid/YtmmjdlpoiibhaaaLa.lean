/- Plain words of a chart, no Go: tiles by rising identifiers. -/
import Derived.WalkKit
import Derived.Lib.Hide
namespace Go.Proofs.Ytmmjdlpoiibhaaa
abbrev It := Nat × ByteArray
def getI (id : Nat) : List It → Option ByteArray
  | [] => none
  | t :: l => if t.1 = id then some t.2 else getI id l
def delI (id : Nat) (l : List It) : List It := l.filter (fun t => decide (t.1 ≠ id))
def lowI (id : Nat) (l : List It) : List It := l.takeWhile (fun t => decide (t.1 < id))
def highI (id : Nat) (l : List It) : List It := l.dropWhile (fun t => decide (t.1 < id))
def putI (id : Nat) (s : ByteArray) (l : List It) : List It := lowI id (delI id l) ++ (id, s) :: highI id (delI id l)
def putE (l : List It) (id : Nat) (s : ByteArray) : Nat := if 6004799503160661 ≤ id then 8 else if s.size = 0 then 2 else if 65536 < s.size then 5 else if (getI id l).isNone && decide (2048 ≤ l.length) then 7 else 0
def putL (l : List It) (id : Nat) (s : ByteArray) : List It := if putE l id s = 0 then putI id s l else l
def bytesI : List It → Nat
  | [] => 0
  | t :: l => t.2.size + bytesI l
def ofR : List It → List It → List It → List It × Nat
  | _, acc, [] => (acc, 0)
  | seen, acc, t :: r => if (getI t.1 seen).isSome then ([], 22) else if putE acc t.1 t.2 ≠ 0 then ([], putE acc t.1 t.2) else ofR (seen ++ [t]) (putI t.1 t.2 acc) r
def ofI (l : List It) : List It × Nat := ofR [] [] l
def Rise (l : List It) : Prop := l.Pairwise (fun a b => a.1 < b.1)
/-- What a chart's tiles are. -/
structure GoodC (l : List It) : Prop where
  rise : Rise l
  low : ∀ t ∈ l, t.1 < 6004799503160661
  pos : ∀ t ∈ l, 0 < t.2.size
  short : ∀ t ∈ l, t.2.size ≤ 65536
  few : l.length ≤ 2048
theorem goodC_nil : GoodC [] := ⟨List.Pairwise.nil, by simp, by simp, by simp, by simp⟩
theorem bytesI_append (a b : List It) : bytesI (a ++ b) = bytesI a + bytesI b := by
  induction a with
  | nil => simp [bytesI]
  | cons t l ih => rw [List.cons_append, bytesI, bytesI, ih]; omega
theorem bytesI_take (l : List It) (k : Nat) : bytesI (l.take k) ≤ bytesI l := by
  have h := bytesI_append (l.take k) (l.drop k)
  rw [List.take_append_drop] at h
  omega
theorem bytesI_step (l : List It) (k : Nat) (t : It) (h : l[k]? = some t) : bytesI (l.take (k + 1)) = bytesI (l.take k) + t.2.size := by
  rw [List.take_add_one, h, bytesI_append]
  simp [bytesI]
theorem mem_bytes (l : List It) (t : It) (h : t ∈ l) : t.2.size ≤ bytesI l := by
  induction l with
  | nil => simp at h
  | cons x l ih =>
    rw [bytesI]
    rcases List.mem_cons.1 h with rfl | h
    · omega
    · have := ih h; omega
theorem idrop_at {α : Type} (l : List α) (k : Nat) (t : α) (h : l[k]? = some t) : l.drop k = t :: l.drop (k + 1) := by
  obtain ⟨hk, rfl⟩ := List.getElem?_eq_some_iff.1 h
  exact List.drop_eq_getElem_cons hk
theorem itake_at {α : Type} (l : List α) (k : Nat) (t : α) (h : l[k]? = some t) : l.take (k + 1) = l.take k ++ [t] := by
  rw [List.take_add_one, h]; rfl
theorem getI_none (id : Nat) (l : List It) : getI id l = none ↔ ∀ t ∈ l, t.1 ≠ id := by
  induction l with
  | nil => simp [getI]
  | cons t l ih =>
    rw [getI]
    by_cases h : t.1 = id
    · rw [if_pos h]; simp [h]
    · rw [if_neg h, ih]; simp [h]
theorem getI_append (id : Nat) (a b : List It) : getI id (a ++ b) = match getI id a with | some s => some s | none => getI id b := by
  induction a with
  | nil => rfl
  | cons t l ih =>
    rw [List.cons_append, getI, getI]
    by_cases h : t.1 = id
    · simp [h]
    · rw [if_neg h, if_neg h, ih]
theorem delI_step (id : Nat) (l : List It) (k : Nat) (t : It) (h : l[k]? = some t) : delI id (l.take (k + 1)) = if t.1 = id then delI id (l.take k) else delI id (l.take k) ++ [t] := by
  unfold delI
  rw [itake_at l k t h, List.filter_append]
  by_cases e : t.1 = id
  · rw [if_pos e]; simp [e]
  · rw [if_neg e]; simp [e]
theorem delI_len (id : Nat) (l : List It) : (delI id l).length ≤ l.length := List.length_filter_le _ _
theorem delI_bytes (id : Nat) (l : List It) : bytesI (delI id l) ≤ bytesI l := by
  unfold delI
  induction l with
  | nil => simp [bytesI]
  | cons t l ih =>
    rw [List.filter_cons]
    split
    · rw [bytesI, bytesI]; omega
    · rw [bytesI]; omega
theorem low_high (id : Nat) (l : List It) : lowI id l ++ highI id l = l := List.takeWhile_append_dropWhile
end Go.Proofs.Ytmmjdlpoiibhaaa
