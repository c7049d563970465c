/- The contract of 'awake', which every law of this layer ends in: it returns true, whatever the world, and what was there stays. -/
import Derived.Test.YtodjdeilaimjaaaP
import Derived.Test.YtodjdeilaimjaaaF
import Derived.Laws.BytesString
import Derived.Lib.SlBytesConst
import Derived.Laws.IdiomStrings
namespace Go.Proofs.Ytodjdeilaimjaaa
open Go.RowKit
set_option linter.unusedVariables false
/-- The text of some bytes. -/
def str (l : List Int) : ByteArray := l.foldl (fun r n => r.push (UInt8.ofNat n.toNat)) ByteArray.empty
theorem str_data (l : List Int) (r : ByteArray) : (l.foldl (fun r n => r.push (UInt8.ofNat n.toNat)) r).data.toList = r.data.toList ++ l.map (fun n => UInt8.ofNat n.toNat) := by
  induction l generalizing r with
  | nil => simp
  | cons n l ih => rw [List.foldl_cons, ih]; simp [ByteArray.push]
theorem str_list (l : List Int) : (str l).data.toList = l.map (fun n => UInt8.ofNat n.toNat) := by
  unfold str; rw [str_data]; simp
theorem str_size (l : List Int) : (str l).size = l.length := by
  have := congrArg List.length (str_list l)
  simpa using this
theorem run_str (w : World) (v : Value) (l : List Int) (h : BytesAt w v l) : (convert 49 9 v).run Try.prog w = .ok (.string (str l)) w := by
  obtain ⟨a, cap, rfl, h1, h2, hc⟩ := h
  rw [run_convert_bytes_string w 49 9 5 a l.length cap Try.underlying49 Try.underlying5 Try.underlying9]
  by_cases h0 : 0 < l.length
  · obtain ⟨x, rfl, hb, hx⟩ := hc h0
    refine run_bytesToString w x l.length cap l ?_
    have := run_loadCells_list (P := Try.prog) (w := w) x (l.map (Value.int .u8)) (by
      intro j v hj
      have hjl : j < l.length := by have := (List.getElem?_eq_some_iff.1 hj).1; simpa using this
      rw [hx j hjl]
      simpa [hjl] using hj)
    simpa using this
  · obtain rfl : l = [] := List.eq_nil_of_length_eq_zero (by omega)
    cases a with
    | none => rfl
    | some x =>
      have := run_loadCells_list (P := Try.prog) (w := w) x [] (by intro j v hj; simp at hj)
      exact run_bytesToString w x 0 cap [] (by simpa using this)
theorem Own.bytesAt {w : World} {B : Nat} {v : Value} {l : List Int} (h : Own w B v l) : BytesAt w v l := by
  have hlt := World.ownsRow.lt h
  have h' := h
  obtain ⟨hx, hv⟩ := h'
  rcases hv with ⟨rfl, hn⟩ | ⟨g, cap, cur, rfl, hB, hh, hle, hm, hcs, htk⟩
  · obtain rfl : l = [] := List.eq_nil_of_length_eq_zero hn
    exact ⟨none, 0, rfl, Nat.le_refl _, by simp, fun h => by simp at h⟩
  · refine ⟨_, cap, rfl, hle, hm, fun _ => ⟨_, rfl, (hlt g rfl).2, fun i hi => ?_⟩⟩
    have := World.ownsRow.cellAt h i (by omega)
    have e : (⟨g, 0, none⟩ : Addr).add i = ⟨g, i, none⟩ := by simp [Addr.add]; omega
    rw [e]
    simpa [hi] using this
theorem BytesAt.below {w w' : World} {v : Value} {l : List Int} (h : BytesAt w v l) (hb : Below w.heap.size w w') : BytesAt w' v l := by
  obtain ⟨a, cap, rfl, h1, h2, hc⟩ := h
  refine ⟨a, cap, rfl, h1, h2, fun h0 => ?_⟩
  obtain ⟨x, rfl, hx, hcell⟩ := hc h0
  refine ⟨x, rfl, Nat.lt_of_lt_of_le hx hb.size, fun i hi => ?_⟩
  rw [← hcell i hi]
  exact hb.cell (p := x.add i) (by rw [add_block]; exact hx)
theorem bytes_lit (w : World) (c : Int) : BytesAt (w.alloc (.cells #[.int .u8 c] 5 (1, 2))) (.slice (some ⟨w.heap.size, 0, none⟩) 1 1) [c] :=
  ⟨_, 1, rfl, Nat.le_refl _, by unfold maxLen; omega, fun _ => ⟨_, rfl, by simp, fun i hi => by
    have h0 : i = 0 := by simp at hi; exact hi
    subst h0
    rw [show (⟨w.heap.size, 0, none⟩ : Addr).add 0 = ⟨w.heap.size, 0, none⟩ from rfl, World.cell?_alloc_mark]; rfl⟩⟩
end Go.Proofs.Ytodjdeilaimjaaa
