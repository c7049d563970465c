/- The document's Sections. -/
import Derived.Test.YtkhlkjhfgfjadaaYa
import Derived.Handy
namespace Go.Proofs.Ytkhlkjhfgfjadaa
open Go.RowKit
set_option maxRecDepth 20000
set_option linter.unusedVariables false
set_option linter.unusedSimpArgs false
theorem heap_new15 (w : World) (o : Obj) : (w.alloc o).heap[w.heap.size]? = some o := by
  show (w.heap.push o)[w.heap.size]? = _
  simp
/-- A whole block. -/
def Box (w : World) (b : Nat) (arr : Array Value) : Prop := ∃ T, w.heap[b]? = some (.cells arr T (0, 0))
theorem box_new (w : World) (arr : Array Value) (T : TypeId) : Box (w.alloc (.cells arr T)) w.heap.size arr := ⟨T, heap_new15 w _⟩
theorem Box.lt {w : World} {b : Nat} {arr : Array Value} (h : Box w b arr) : b < w.heap.size := by obtain ⟨T, h⟩ := h; exact (Array.getElem?_eq_some_iff.1 h).1
theorem Box.below {w w' : World} {b : Nat} {arr : Array Value} (h : Box w b arr) (hb : Below w.heap.size w w') : Box w' b arr := by
  have hl := h.lt
  obtain ⟨T, h⟩ := h
  exact ⟨T, (hb.block b hl).trans h⟩
theorem Box.cell {w : World} {b : Nat} {arr : Array Value} (h : Box w b arr) (j : Nat) : w.cell? ⟨b, j, none⟩ = arr[j]? := by
  obtain ⟨T, h⟩ := h
  simp [World.cell?, h]
theorem Box.frz {w : World} {b : Nat} {arr : Array Value} (h : Box w b arr) (j : Nat) : w.frozen? ⟨b, j, none⟩ = false := by
  obtain ⟨T, h⟩ := h
  simp [World.frozen?, h]
theorem hset {w : World} {b : Nat} {arr : Array Value} {T : TypeId} (H : w.heap[b]? = some (.cells arr T (0, 0))) (j : Nat) (v : Value) : (w.setCell ⟨b, j, none⟩ v).heap[b]? = some (.cells (arr.setIfInBounds j v) T (0, 0)) := by
  simp [World.setCell, Array.getElem?_modify, H]
theorem hother {w : World} {b b' : Nat} {o : Obj} (H : w.heap[b]? = some o) (hn : b ≠ b') (j : Nat) (v : Value) : (w.setCell ⟨b', j, none⟩ v).heap[b]? = some o := (Below.heap_setCell _ _ _ _ (by simpa using hn)).trans H
theorem hrow {w : World} {b : Nat} {arr cs : Array Value} {T : TypeId} (H : w.heap[b]? = some (.cells arr T (0, 0))) (hs : arr.size = cs.size) : (w.setRow b cs).heap[b]? = some (.cells cs T (0, 0)) := by
  simp [World.setRow, Array.getElem?_modify, H]
def sArr (s : Sc) : Array Value := #[.int .u64 s.rf, .int .u64 s.rl, .int .u64 s.mf, .int .u64 s.ml, .int .u64 s.lf, .int .u64 s.ll, .int .u64 s.df, .int .u64 s.dl]
def SecEnd (P : Pl) (w : World) (e : Ending) (w' : World) : Prop := e = .returned (.tuple #[.agg (sArr P.sec), .int .u64 P.all, .int .i64 P.err]) ∧ Below w.heap.size w w'
set_option maxRecDepth 100000 in
set_option maxHeartbeats 4000000 in
theorem rsections_ok (a b c d : Int) (w : World) (ha : 0 ≤ a ∧ a ≤ 1099511627776) (hb : 0 ≤ b ∧ b ≤ 1099511627776) (hc : 0 ≤ c ∧ c ≤ 1099511627776) (hd : 0 ≤ d ∧ d ≤ 1099511627776) (hs : 127 + a + b + c + d ≤ 1099511627776) :
    Calls Try.prog 8 #[.agg #[.int .u64 a, .int .u64 b, .int .u64 c, .int .u64 d]] w (SecEnd ⟨⟨127, a, 127 + a, b, 127 + a + b, c, 127 + a + b + c, d⟩, 127 + a + b + c + d, 0⟩ w) := by
  unfold SecEnd sArr
  have h1 : ¬ (1099511627776 : Int) < a := by omega
  have h2 : ¬ (1099511627776 : Int) < b := by omega
  have h3 : ¬ (1099511627776 : Int) < c := by omega
  have h4 : ¬ (1099511627776 : Int) < d := by omega
  have h5 : ¬ (1099511627776 : Int) < 127 + a + b + c + d := by omega
  have w1 : IntKind.u64.wrap (127 + a) = 127 + a := by rw [IntKind.wrap_u64]; omega
  have w2 : IntKind.u64.wrap (127 + a + b) = 127 + a + b := by rw [IntKind.wrap_u64]; omega
  have w3 : IntKind.u64.wrap (127 + a + b + c) = 127 + a + b + c := by rw [IntKind.wrap_u64]; omega
  have w4 : IntKind.u64.wrap (127 + a + b + c + d) = 127 + a + b + c + d := by rw [IntKind.wrap_u64]; omega
  clear ha hb hc hd hs
  go_enter Try.func8, Try.ntmps8
  go_wp2_with fail
  refine wp_loop_rounds 5 ?_
  rw [rounds_succ]
  go_wp2_with fail
  rw [rounds_succ]
  go_wp2_with fail
  rw [rounds_succ]
  go_wp2_with fail
  rw [rounds_succ]
  go_wp2_with fail
  rw [rounds_succ]
  go_wp2_with fail
  refine bodyPost_ret (v := .tuple #[.agg #[.int .u64 127, .int .u64 a, .int .u64 (127 + a), .int .u64 b, .int .u64 (127 + a + b), .int .u64 c, .int .u64 (127 + a + b + c), .int .u64 d], .int .u64 (127 + a + b + c + d), .int .i64 0]) (by simp [results, Try.results8, go_sem]) rfl ⟨rfl, by go_grown⟩
set_option maxRecDepth 100000 in
set_option maxHeartbeats 4000000 in
theorem rsections_bad0 (a b c d : Int) (w : World) (hx : 1099511627776 < a) :
    Calls Try.prog 8 #[.agg #[.int .u64 a, .int .u64 b, .int .u64 c, .int .u64 d]] w (SecEnd ⟨zeroSc, 0, 8⟩ w) := by
  unfold SecEnd sArr zeroSc
  go_enter Try.func8, Try.ntmps8
  go_wp2_with fail
  refine wp_loop_rounds 5 ?_
  rw [rounds_succ]
  go_wp2_with fail
  refine bodyPost_ret (v := .tuple #[.agg #[.int .u64 0, .int .u64 0, .int .u64 0, .int .u64 0, .int .u64 0, .int .u64 0, .int .u64 0, .int .u64 0], .int .u64 0, .int .i64 8]) (by simp [results, Try.results8, go_sem]) rfl ⟨rfl, by go_grown⟩
set_option maxRecDepth 100000 in
set_option maxHeartbeats 4000000 in
theorem rsections_bad1 (a b c d : Int) (w : World) (ha : 0 ≤ a ∧ a ≤ 1099511627776) (hx : 1099511627776 < b) :
    Calls Try.prog 8 #[.agg #[.int .u64 a, .int .u64 b, .int .u64 c, .int .u64 d]] w (SecEnd ⟨zeroSc, 0, 8⟩ w) := by
  unfold SecEnd sArr zeroSc
  have h1 : ¬ (1099511627776 : Int) < a := by omega
  have w1 : IntKind.u64.wrap (127 + a) = 127 + a := by rw [IntKind.wrap_u64]; omega
  clear ha
  go_enter Try.func8, Try.ntmps8
  go_wp2_with fail
  refine wp_loop_rounds 5 ?_
  rw [rounds_succ]
  go_wp2_with fail
  rw [rounds_succ]
  go_wp2_with fail
  refine bodyPost_ret (v := .tuple #[.agg #[.int .u64 0, .int .u64 0, .int .u64 0, .int .u64 0, .int .u64 0, .int .u64 0, .int .u64 0, .int .u64 0], .int .u64 0, .int .i64 8]) (by simp [results, Try.results8, go_sem]) rfl ⟨rfl, by go_grown⟩
set_option maxRecDepth 100000 in
set_option maxHeartbeats 4000000 in
theorem rsections_bad2 (a b c d : Int) (w : World) (ha : 0 ≤ a ∧ a ≤ 1099511627776) (hb : 0 ≤ b ∧ b ≤ 1099511627776) (hx : 1099511627776 < c) :
    Calls Try.prog 8 #[.agg #[.int .u64 a, .int .u64 b, .int .u64 c, .int .u64 d]] w (SecEnd ⟨zeroSc, 0, 8⟩ w) := by
  unfold SecEnd sArr zeroSc
  have h1 : ¬ (1099511627776 : Int) < a := by omega
  have h2 : ¬ (1099511627776 : Int) < b := by omega
  have w1 : IntKind.u64.wrap (127 + a) = 127 + a := by rw [IntKind.wrap_u64]; omega
  have w2 : IntKind.u64.wrap (127 + a + b) = 127 + a + b := by rw [IntKind.wrap_u64]; omega
  clear ha hb
  go_enter Try.func8, Try.ntmps8
  go_wp2_with fail
  refine wp_loop_rounds 5 ?_
  rw [rounds_succ]
  go_wp2_with fail
  rw [rounds_succ]
  go_wp2_with fail
  rw [rounds_succ]
  go_wp2_with fail
  refine bodyPost_ret (v := .tuple #[.agg #[.int .u64 0, .int .u64 0, .int .u64 0, .int .u64 0, .int .u64 0, .int .u64 0, .int .u64 0, .int .u64 0], .int .u64 0, .int .i64 8]) (by simp [results, Try.results8, go_sem]) rfl ⟨rfl, by go_grown⟩
set_option maxRecDepth 100000 in
set_option maxHeartbeats 4000000 in
theorem rsections_bad3 (a b c d : Int) (w : World) (ha : 0 ≤ a ∧ a ≤ 1099511627776) (hb : 0 ≤ b ∧ b ≤ 1099511627776) (hc : 0 ≤ c ∧ c ≤ 1099511627776) (hx : 1099511627776 < d) :
    Calls Try.prog 8 #[.agg #[.int .u64 a, .int .u64 b, .int .u64 c, .int .u64 d]] w (SecEnd ⟨zeroSc, 0, 8⟩ w) := by
  unfold SecEnd sArr zeroSc
  have h1 : ¬ (1099511627776 : Int) < a := by omega
  have h2 : ¬ (1099511627776 : Int) < b := by omega
  have h3 : ¬ (1099511627776 : Int) < c := by omega
  have w1 : IntKind.u64.wrap (127 + a) = 127 + a := by rw [IntKind.wrap_u64]; omega
  have w2 : IntKind.u64.wrap (127 + a + b) = 127 + a + b := by rw [IntKind.wrap_u64]; omega
  have w3 : IntKind.u64.wrap (127 + a + b + c) = 127 + a + b + c := by rw [IntKind.wrap_u64]; omega
  clear ha hb hc
  go_enter Try.func8, Try.ntmps8
  go_wp2_with fail
  refine wp_loop_rounds 5 ?_
  rw [rounds_succ]
  go_wp2_with fail
  rw [rounds_succ]
  go_wp2_with fail
  rw [rounds_succ]
  go_wp2_with fail
  rw [rounds_succ]
  go_wp2_with fail
  refine bodyPost_ret (v := .tuple #[.agg #[.int .u64 0, .int .u64 0, .int .u64 0, .int .u64 0, .int .u64 0, .int .u64 0, .int .u64 0, .int .u64 0], .int .u64 0, .int .i64 8]) (by simp [results, Try.results8, go_sem]) rfl ⟨rfl, by go_grown⟩
set_option maxRecDepth 100000 in
set_option maxHeartbeats 4000000 in
theorem rsections_bad4 (a b c d : Int) (w : World) (ha : 0 ≤ a ∧ a ≤ 1099511627776) (hb : 0 ≤ b ∧ b ≤ 1099511627776) (hc : 0 ≤ c ∧ c ≤ 1099511627776) (hd : 0 ≤ d ∧ d ≤ 1099511627776) (hx : 1099511627776 < 127 + a + b + c + d) :
    Calls Try.prog 8 #[.agg #[.int .u64 a, .int .u64 b, .int .u64 c, .int .u64 d]] w (SecEnd ⟨zeroSc, 0, 8⟩ w) := by
  unfold SecEnd sArr zeroSc
  have h1 : ¬ (1099511627776 : Int) < a := by omega
  have h2 : ¬ (1099511627776 : Int) < b := by omega
  have h3 : ¬ (1099511627776 : Int) < c := by omega
  have h4 : ¬ (1099511627776 : Int) < d := by omega
  have w1 : IntKind.u64.wrap (127 + a) = 127 + a := by rw [IntKind.wrap_u64]; omega
  have w2 : IntKind.u64.wrap (127 + a + b) = 127 + a + b := by rw [IntKind.wrap_u64]; omega
  have w3 : IntKind.u64.wrap (127 + a + b + c) = 127 + a + b + c := by rw [IntKind.wrap_u64]; omega
  have w4 : IntKind.u64.wrap (127 + a + b + c + d) = 127 + a + b + c + d := by rw [IntKind.wrap_u64]; omega
  clear ha hb hc hd
  go_enter Try.func8, Try.ntmps8
  go_wp2_with fail
  refine wp_loop_rounds 5 ?_
  rw [rounds_succ]
  go_wp2_with fail
  rw [rounds_succ]
  go_wp2_with fail
  rw [rounds_succ]
  go_wp2_with fail
  rw [rounds_succ]
  go_wp2_with fail
  rw [rounds_succ]
  go_wp2_with fail
  refine bodyPost_ret (v := .tuple #[.agg #[.int .u64 0, .int .u64 0, .int .u64 0, .int .u64 0, .int .u64 0, .int .u64 0, .int .u64 0, .int .u64 0], .int .u64 0, .int .i64 8]) (by simp [results, Try.results8, go_sem]) rfl ⟨rfl, by go_grown⟩
theorem rsections_any (a b c d : Int) (w : World) (ha : 0 ≤ a) (hb : 0 ≤ b) (hc : 0 ≤ c) (hd : 0 ≤ d) : Calls Try.prog 8 #[.agg #[.int .u64 a, .int .u64 b, .int .u64 c, .int .u64 d]] w (SecEnd (secsN a b c d) w) := by
  unfold secsN
  by_cases h : tooBig a b c d
  · rw [if_pos h]
    unfold tooBig at h
    by_cases h1 : 1099511627776 < a
    · exact rsections_bad0 a b c d w h1
    by_cases h2 : 1099511627776 < b
    · exact rsections_bad1 a b c d w ⟨ha, by omega⟩ h2
    by_cases h3 : 1099511627776 < c
    · exact rsections_bad2 a b c d w ⟨ha, by omega⟩ ⟨hb, by omega⟩ h3
    by_cases h4 : 1099511627776 < d
    · exact rsections_bad3 a b c d w ⟨ha, by omega⟩ ⟨hb, by omega⟩ ⟨hc, by omega⟩ h4
    exact rsections_bad4 a b c d w ⟨ha, by omega⟩ ⟨hb, by omega⟩ ⟨hc, by omega⟩ ⟨hd, by omega⟩ (by omega)
  · rw [if_neg h]
    unfold tooBig at h
    exact rsections_ok a b c d w ⟨ha, by omega⟩ ⟨hb, by omega⟩ ⟨hc, by omega⟩ ⟨hd, by omega⟩ (by omega)
end Go.Proofs.Ytkhlkjhfgfjadaa
