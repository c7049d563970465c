/- Texts of bytes, and how a row of bytes becomes one; a row of the call is seen as bytes; what stays in later worlds. -/
import Derived.Test.YtpjgemjceikhfaaP2
import Derived.Test.YtpjgemjceikhfaaF
import Derived.Laws.BytesString
import Derived.Lib.SlBytesConst
import Derived.Laws.IdiomStrings
namespace Go.Proofs.Ytpjgemjceikhfaa
open Go.RowKit
set_option linter.unusedVariables false
/-- The text of some bytes. -/
def str (l : List Int) : ByteArray := l.foldl (fun r n => r.push (UInt8.ofNat n.toNat)) ByteArray.empty
theorem str_data (l : List Int) (r : ByteArray) : (l.foldl (fun r n => r.push (UInt8.ofNat n.toNat)) r).data.toList = r.data.toList ++ l.map (fun n => UInt8.ofNat n.toNat) := by
  induction l generalizing r with
  | nil => simp
  | cons n l ih => rw [List.foldl_cons, ih]; simp [ByteArray.push]
theorem str_list (l : List Int) : (str l).data.toList = l.map (fun n => UInt8.ofNat n.toNat) := by
  unfold str; rw [str_data]; simp
theorem str_size (l : List Int) : (str l).size = l.length := by
  have := congrArg List.length (str_list l)
  simpa using this
theorem run_str (w : World) (v : Value) (l : List Int) (h : BytesAt w v l) : (convert 22 9 v).run Try.prog w = .ok (.string (str l)) w := by
  obtain ⟨a, cap, rfl, h1, h2, hc⟩ := h
  rw [run_convert_bytes_string w 22 9 5 a l.length cap Try.underlying22 Try.underlying5 Try.underlying9]
  by_cases h0 : 0 < l.length
  · obtain ⟨x, rfl, hb, hx⟩ := hc h0
    refine run_bytesToString w x l.length cap l ?_
    have := run_loadCells_list (P := Try.prog) (w := w) x (l.map (Value.int .u8)) (by
      intro j v hj
      have hjl : j < l.length := by have := (List.getElem?_eq_some_iff.1 hj).1; simpa using this
      rw [hx j hjl]
      simpa [hjl] using hj)
    simpa using this
  · obtain rfl : l = [] := List.eq_nil_of_length_eq_zero (by omega)
    cases a with
    | none => rfl
    | some x =>
      have := run_loadCells_list (P := Try.prog) (w := w) x [] (by intro j v hj; simp at hj)
      exact run_bytesToString w x 0 cap [] (by simpa using this)
theorem Own.bytesAt {w : World} {B : Nat} {v : Value} {l : List Int} (h : Own w B v l) : BytesAt w v l := by
  have hlt := World.ownsRow.lt h
  have h' := h
  obtain ⟨hx, hv⟩ := h'
  rcases hv with ⟨rfl, hn⟩ | ⟨g, cap, cur, rfl, hB, hh, hle, hm, hcs, htk⟩
  · obtain rfl : l = [] := List.eq_nil_of_length_eq_zero hn
    exact ⟨none, 0, rfl, Nat.le_refl _, by simp, fun h => by simp at h⟩
  · refine ⟨_, cap, rfl, hle, hm, fun _ => ⟨_, rfl, (hlt g rfl).2, fun i hi => ?_⟩⟩
    have := World.ownsRow.cellAt h i (by omega)
    have e : (⟨g, 0, none⟩ : Addr).add i = ⟨g, i, none⟩ := by simp [Addr.add]; omega
    rw [e]
    simpa [hi] using this
theorem BytesAt.below {w w' : World} {v : Value} {l : List Int} (h : BytesAt w v l) (hb : Below w.heap.size w w') : BytesAt w' v l := by
  obtain ⟨a, cap, rfl, h1, h2, hc⟩ := h
  refine ⟨a, cap, rfl, h1, h2, fun h0 => ?_⟩
  obtain ⟨x, rfl, hx, hcell⟩ := hc h0
  refine ⟨x, rfl, Nat.lt_of_lt_of_le hx hb.size, fun i hi => ?_⟩
  rw [← hcell i hi]
  exact hb.cell (p := x.add i) (by rw [add_block]; exact hx)
theorem bytes_lit (w : World) (c : Int) : BytesAt (w.alloc (.cells #[.int .u8 c] 5 (1, 2))) (.slice (some ⟨w.heap.size, 0, none⟩) 1 1) [c] :=
  ⟨_, 1, rfl, Nat.le_refl _, by unfold maxLen; omega, fun _ => ⟨_, rfl, by simp, fun i hi => by
    have h0 : i = 0 := by simp at hi; exact hi
    subst h0
    rw [show (⟨w.heap.size, 0, none⟩ : Addr).add 0 = ⟨w.heap.size, 0, none⟩ from rfl, World.cell?_alloc_mark]; rfl⟩⟩
theorem bytesAt_cells {w : World} {x : Addr} {cap : Nat} {l : List Int} (h : BytesAt w (.slice (some x) l.length cap) l) : ∀ j u, (l.map (Value.int .u8))[j]? = some u → w.cell? (x.add j) = some u := by
  intro j u hj
  have hjl : j < l.length := by have := (List.getElem?_eq_some_iff.1 hj).1; simpa using this
  obtain ⟨a, c, he, _, _, hc⟩ := h
  obtain ⟨y, hy, _, hcell⟩ := hc (by omega)
  simp only [Value.slice.injEq] at he
  obtain ⟨h1, _, _⟩ := he
  rw [← h1] at hy
  obtain rfl := Option.some.inj hy
  rw [hcell j hjl]
  simpa [hjl] using hj
theorem cell_lt {w : World} {a : Addr} {v : Value} (h : w.cell? a = some v) : a.block < w.heap.size := by
  rcases Nat.lt_or_ge a.block w.heap.size with h' | h'
  · exact h'
  · simp [World.cell?, Array.getElem?_eq_none h'] at h
theorem cell_later {w w' : World} {a : Addr} {v : Value} (hb : Below w.heap.size w w') (h : w.cell? a = some v) : w'.cell? a = some v := (hb.cell (p := a) (cell_lt h)).trans h
theorem Own.below {w w' : World} {B : Nat} {v : Value} {l : List Int} (h : Own w B v l) (hb : Below w.heap.size w w') : Own w' B v l := by
  have hlt := World.ownsRow.lt h
  obtain ⟨h1, h2⟩ := h
  refine ⟨h1, ?_⟩
  rcases h2 with h2 | ⟨g, cap, cur, hv, hg, hh, r⟩
  · exact .inl h2
  · refine .inr ⟨g, cap, cur, hv, hg, ?_, r⟩
    rw [hb.block g (hlt g (by rw [hv]; rfl)).2]; exact hh
/-- The numbers l stand where the slice v leads. -/
def WordsAt (w : World) (v : Value) (l : List Int) : Prop :=
  ∃ a cap, v = .slice a l.length cap ∧ ∀ k, k < l.length → ∃ b off, a = some ⟨b, off, none⟩ ∧ b < w.heap.size ∧ w.cell? ⟨b, off + k, none⟩ = some (.int .u64 (l.getD k 0))
theorem WordsAt.below {w w' : World} {v : Value} {l : List Int} (h : WordsAt w v l) (hb : Below w.heap.size w w') : WordsAt w' v l := by
  obtain ⟨a, cap, rfl, hc⟩ := h
  refine ⟨a, cap, rfl, fun k hk => ?_⟩
  obtain ⟨b, off, ha, hx, hcell⟩ := hc k hk
  exact ⟨b, off, ha, Nat.lt_of_lt_of_le hx hb.size, cell_later hb hcell⟩
/-- Numbers that a u64 may be. -/
def Wide (l : List Int) : Prop := ∀ k, k < l.length → 0 ≤ l.getD k 0 ∧ l.getD k 0 ≤ 18446744073709551615
/-- The bytes of all of l, one behind the other. -/
def encs : List Int → List Int
  | [] => []
  | x :: t => enc x ++ encs t
theorem encs_snoc (l : List Int) (x : Int) : encs (l ++ [x]) = encs l ++ enc x := by
  induction l with
  | nil => simp [encs]
  | cons y t ih => simp [encs, ih]
theorem encs_len (l : List Int) : (encs l).length ≤ 10 * l.length := by
  induction l with
  | nil => simp [encs]
  | cons y t ih =>
    have := enc_len y
    simp only [encs, List.length_append, List.length_cons]; omega
theorem take_snoc (l : List Int) (k : Nat) (h : k < l.length) : l.take (k + 1) = l.take k ++ [l.getD k 0] := by
  rw [List.take_succ_eq_append_getElem h]; simp [h]
theorem encs_take (l : List Int) (k : Nat) (h : k < l.length) : encs (l.take (k + 1)) = encs (l.take k) ++ enc (l.getD k 0) := by
  rw [take_snoc l k h, encs_snoc]
theorem str_append (a b : List Int) : str a ++ str b = str (a ++ b) := by
  apply ByteArray.ext
  apply Array.ext'
  rw [ByteArray.data_append, Array.toList_append, str_list, str_list, str_list, List.map_append]
end Go.Proofs.Ytpjgemjceikhfaa
