/- Texts and their bytes; a slice of bytes that becomes a text. -/
import Derived.Test.YtcpofeebfckmhaaJd
import Derived.Test.YtcpofeebfckmhaaRows
import Derived.IntWalk
import Derived.WalkKit
import Derived.Outline
import Derived.WalkSpells
import Derived.WalkLawsBesides
import Derived.Lib.Hide
import Derived.RegionTactic
import Derived.Handy
import Derived.ProofKit
import Derived.BigQuiet
import Derived.LoopTactic
import Derived.Deep.RegionWith
import Derived.Deep.DeepCutAuto
import Derived.Deep.CutRange
import Derived.Laws.BytesString
import Derived.Laws.IdiomStrings
namespace Go.Proofs.Ytcpofeebfckmhaa
open Go.RowKit
set_option maxRecDepth 20000
set_option linter.unusedVariables false
set_option linter.unusedSimpArgs false
theorem add_block (x : Addr) (j : Nat) : (x.add j).block = x.block := by unfold Addr.add; split <;> rfl
/-- The bytes l stand where the slice v leads. -/
def BytesAt (w : World) (v : Value) (l : List Int) : Prop :=
  ∃ a cap, v = .slice a l.length cap ∧ l.length ≤ cap ∧ cap ≤ maxLen ∧ (0 < l.length → ∃ x : Addr, a = some x ∧ x.block < w.heap.size ∧ ∀ i, i < l.length → w.cell? (x.add i) = some (.int .u8 (l.getD i 0)))
/-- The text of some bytes. -/
def str (l : List Int) : ByteArray := l.foldl (fun r n => r.push (UInt8.ofNat n.toNat)) ByteArray.empty
theorem str_data (l : List Int) (r : ByteArray) : (l.foldl (fun r n => r.push (UInt8.ofNat n.toNat)) r).data.toList = r.data.toList ++ l.map (fun n => UInt8.ofNat n.toNat) := by
  induction l generalizing r with
  | nil => simp
  | cons n l ih => rw [List.foldl_cons, ih]; simp [ByteArray.push]
theorem str_list (l : List Int) : (str l).data.toList = l.map (fun n => UInt8.ofNat n.toNat) := by
  unfold str; rw [str_data]; simp
theorem str_size (l : List Int) : (str l).size = l.length := by
  have := congrArg List.length (str_list l)
  simpa using this
theorem str_append (a b : List Int) : str a ++ str b = str (a ++ b) := by
  apply ByteArray.ext
  apply Array.ext'
  rw [ByteArray.data_append, Array.toList_append, str_list, str_list, str_list, List.map_append]
theorem run_str (w : World) (v : Value) (l : List Int) (h : BytesAt w v l) : (convert 35 9 v).run Try.prog w = .ok (.string (str l)) w := by
  obtain ⟨a, cap, rfl, h1, h2, hc⟩ := h
  rw [run_convert_bytes_string w 35 9 5 a l.length cap Try.underlying35 Try.underlying5 Try.underlying9]
  by_cases h0 : 0 < l.length
  · obtain ⟨x, rfl, hb, hx⟩ := hc h0
    refine run_bytesToString w x l.length cap l ?_
    have := run_loadCells_list (P := Try.prog) (w := w) x (l.map (Value.int .u8)) (by
      intro j v hj
      have hjl : j < l.length := by have := (List.getElem?_eq_some_iff.1 hj).1; simpa using this
      rw [hx j hjl]
      simpa [hjl] using hj)
    simpa using this
  · obtain rfl : l = [] := List.eq_nil_of_length_eq_zero (by omega)
    cases a with
    | none => rfl
    | some x =>
      have := run_loadCells_list (P := Try.prog) (w := w) x [] (by intro j v hj; simp at hj)
      exact run_bytesToString w x 0 cap [] (by simpa using this)
/-- A text's bytes as numbers. -/
def bI (s : ByteArray) : List Int := s.data.toList.map (fun c => (c.toNat : Int))
theorem bI_append (a b : ByteArray) : bI (a ++ b) = bI a ++ bI b := by unfold bI; rw [ByteArray.data_append, Array.toList_append, List.map_append]
theorem bI_len (s : ByteArray) : (bI s).length = s.size := by unfold bI; rw [List.length_map, Array.length_toList]; rfl
theorem bI_byte (s : ByteArray) : ∀ b ∈ bI s, 0 ≤ b ∧ b < 256 := by
  intro b hb
  unfold bI at hb
  obtain ⟨c, _, rfl⟩ := List.mem_map.1 hb
  have := c.toNat_lt
  omega
theorem str_bI (s : ByteArray) : str (bI s) = s := by
  apply ByteArray.ext
  apply Array.ext'
  rw [str_list]
  unfold bI
  rw [List.map_map]
  conv => rhs; rw [← List.map_id s.data.toList]
  refine List.map_congr_left (fun c _ => ?_)
  simp
theorem bI_str (l : List Int) (h : ∀ b ∈ l, 0 ≤ b ∧ b < 256) : bI (str l) = l := by
  unfold bI
  rw [str_list, List.map_map]
  conv => rhs; rw [← List.map_id l]
  refine List.map_congr_left (fun c hc => ?_)
  have := h c hc
  simp
  omega
theorem bI_inj {s t : ByteArray} (h : bI s = bI t) : s = t := by rw [← str_bI s, h, str_bI]
theorem str_inj {a b : List Int} (ha : ∀ x ∈ a, 0 ≤ x ∧ x < 256) (hb : ∀ x ∈ b, 0 ≤ x ∧ x < 256) (h : str a = str b) : a = b := by rw [← bI_str a ha, h, bI_str b hb]
theorem bI_extract (s : ByteArray) (a b : Nat) (h : a ≤ b) : bI (s.extract a b) = ((bI s).drop a).take (b - a) := by
  unfold bI
  rw [ByteArray.data_extract, Array.toList_extract, List.extract_eq_take_drop, List.map_take, List.map_drop]
theorem bI_at (s : ByteArray) (i : Nat) (h : i < s.size) : (bI s)[i]? = some ((s.get! i).toNat : Int) := by
  unfold bI
  have h' : i < s.data.toList.length := h
  rw [List.getElem?_map, List.getElem?_eq_getElem h']
  simp [ByteArray.get!, h]
  trace_state
end Go.Proofs.Ytcpofeebfckmhaa
