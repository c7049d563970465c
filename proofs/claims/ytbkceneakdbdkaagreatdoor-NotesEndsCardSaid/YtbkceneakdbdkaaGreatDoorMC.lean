/- Several texts, one behind the other: Je, Jf, Jg. -/
import Derived.Test.YtbkceneakdbdkaaGreatDoorMA
import Derived.Test.YtbkceneakdbdkaaGreatDoorRows
import Derived.IntWalk
import Derived.WalkKit
import Derived.Outline
import Derived.WalkSpells
import Derived.WalkLawsBesides
import Derived.Lib.Hide
import Derived.RegionTactic
import Derived.Handy
import Derived.ProofKit
import Derived.BigQuiet
import Derived.LoopTactic
import Derived.Deep.RegionWith
import Derived.Deep.DeepCutAuto
import Derived.Deep.CutRange
import Derived.Laws.BytesString
import Derived.Laws.IdiomStrings
import Derived.Deep.RegionHeld3
import Derived.LoopN
/- Texts and their bytes; a slice of bytes that becomes a text. -/
namespace Go.Proofs.YtbkceneakdbdkaaGreatDoor
open Go.RowKit
set_option maxRecDepth 20000
set_option linter.unusedVariables false
set_option linter.unusedSimpArgs false
theorem add_block (x : Addr) (j : Nat) : (x.add j).block = x.block := by unfold Addr.add; split <;> rfl
/-- The bytes l stand where the slice v leads. -/
def BytesAt (w : World) (v : Value) (l : List Int) : Prop :=
  ∃ a cap, v = .slice a l.length cap ∧ l.length ≤ cap ∧ cap ≤ maxLen ∧ (0 < l.length → ∃ x : Addr, a = some x ∧ x.block < w.heap.size ∧ ∀ i, i < l.length → w.cell? (x.add i) = some (.int .u8 (l.getD i 0)))
/-- The text of some bytes. -/
def str (l : List Int) : ByteArray := l.foldl (fun r n => r.push (UInt8.ofNat n.toNat)) ByteArray.empty
theorem str_data (l : List Int) (r : ByteArray) : (l.foldl (fun r n => r.push (UInt8.ofNat n.toNat)) r).data.toList = r.data.toList ++ l.map (fun n => UInt8.ofNat n.toNat) := by
  induction l generalizing r with
  | nil => simp
  | cons n l ih => rw [List.foldl_cons, ih]; simp [ByteArray.push]
theorem str_list (l : List Int) : (str l).data.toList = l.map (fun n => UInt8.ofNat n.toNat) := by
  unfold str; rw [str_data]; simp
theorem str_size (l : List Int) : (str l).size = l.length := by
  have := congrArg List.length (str_list l)
  simpa using this
theorem str_append (a b : List Int) : str a ++ str b = str (a ++ b) := by
  apply ByteArray.ext
  apply Array.ext'
  rw [ByteArray.data_append, Array.toList_append, str_list, str_list, str_list, List.map_append]
theorem run_str (w : World) (v : Value) (l : List Int) (h : BytesAt w v l) : (convert 51 9 v).run Tryz.prog w = .ok (.string (str l)) w := by
  obtain ⟨a, cap, rfl, h1, h2, hc⟩ := h
  rw [run_convert_bytes_string w 51 9 5 a l.length cap Tryz.underlying51 Tryz.underlying5 Tryz.underlying9]
  by_cases h0 : 0 < l.length
  · obtain ⟨x, rfl, hb, hx⟩ := hc h0
    refine run_bytesToString w x l.length cap l ?_
    have := run_loadCells_list (P := Tryz.prog) (w := w) x (l.map (Value.int .u8)) (by
      intro j v hj
      have hjl : j < l.length := by have := (List.getElem?_eq_some_iff.1 hj).1; simpa using this
      rw [hx j hjl]
      simpa [hjl] using hj)
    simpa using this
  · obtain rfl : l = [] := List.eq_nil_of_length_eq_zero (by omega)
    cases a with
    | none => rfl
    | some x =>
      have := run_loadCells_list (P := Tryz.prog) (w := w) x [] (by intro j v hj; simp at hj)
      exact run_bytesToString w x 0 cap [] (by simpa using this)
/-- A text's bytes as numbers. -/
def bI (s : ByteArray) : List Int := s.data.toList.map (fun c => (c.toNat : Int))
theorem bI_append (a b : ByteArray) : bI (a ++ b) = bI a ++ bI b := by unfold bI; rw [ByteArray.data_append, Array.toList_append, List.map_append]
theorem bI_len (s : ByteArray) : (bI s).length = s.size := by unfold bI; rw [List.length_map, Array.length_toList]; rfl
theorem bI_byte (s : ByteArray) : ∀ b ∈ bI s, 0 ≤ b ∧ b < 256 := by
  intro b hb
  unfold bI at hb
  obtain ⟨c, _, rfl⟩ := List.mem_map.1 hb
  have := c.toNat_lt
  omega
theorem str_bI (s : ByteArray) : str (bI s) = s := by
  apply ByteArray.ext
  apply Array.ext'
  rw [str_list]
  unfold bI
  rw [List.map_map]
  conv => rhs; rw [← List.map_id s.data.toList]
  refine List.map_congr_left (fun c _ => ?_)
  simp
theorem bI_str (l : List Int) (h : ∀ b ∈ l, 0 ≤ b ∧ b < 256) : bI (str l) = l := by
  unfold bI
  rw [str_list, List.map_map]
  conv => rhs; rw [← List.map_id l]
  refine List.map_congr_left (fun c hc => ?_)
  have := h c hc
  simp
  omega
theorem bI_inj {s t : ByteArray} (h : bI s = bI t) : s = t := by rw [← str_bI s, h, str_bI]
theorem str_inj {a b : List Int} (ha : ∀ x ∈ a, 0 ≤ x ∧ x < 256) (hb : ∀ x ∈ b, 0 ≤ x ∧ x < 256) (h : str a = str b) : a = b := by rw [← bI_str a ha, h, bI_str b hb]
theorem bI_extract (s : ByteArray) (a b : Nat) (h : a ≤ b) : bI (s.extract a b) = ((bI s).drop a).take (b - a) := by
  unfold bI
  rw [ByteArray.data_extract, Array.toList_extract, List.extract_eq_take_drop, List.map_take, List.map_drop]
theorem bI_at (s : ByteArray) (i : Nat) (h : i < s.size) : (bI s)[i]? = some ((s.get! i).toNat : Int) := by
  unfold bI
  have h' : i < s.data.toList.length := h
  rw [List.getElem?_map, List.getElem?_eq_getElem h']
  simp [ByteArray.get!, h]
  trace_state
end Go.Proofs.YtbkceneakdbdkaaGreatDoor
/- The document's Bytes. -/
namespace Go.Proofs.YtbkceneakdbdkaaGreatDoor
open Go.RowKit
set_option maxRecDepth 20000
set_option linter.unusedVariables false
set_option linter.unusedSimpArgs false
theorem built_at (w : World) (cs : List Int) (T : TypeId) (hl : cs.length ≤ 1000) : BytesAt (w.alloc (.cells (cs.map (Value.int .u8)).toArray T)) (.slice (some ⟨w.heap.size, 0, none⟩) cs.length cs.length) cs := by
  refine ⟨_, _, rfl, Nat.le_refl _, by unfold maxLen; omega, fun h0 => ⟨_, rfl, by simp, fun i hi => ?_⟩⟩
  have e : (⟨w.heap.size, 0, none⟩ : Addr).add i = ⟨w.heap.size, i, none⟩ := by simp [Addr.add]; omega
  rw [e, World.cell?_alloc_mark]
  simp [hi]
/-- A literal of bytes becomes a text. -/
theorem run_built (w : World) (cs : List Int) (T : TypeId) (hl : cs.length ≤ 1000) : (convert 51 9 (.slice (some ⟨w.heap.size, 0, none⟩) cs.length cs.length)).run Tryz.prog (w.alloc (.cells (cs.map (Value.int .u8)).toArray T)) = .ok (.string (str cs)) (w.alloc (.cells (cs.map (Value.int .u8)).toArray T)) := run_str _ _ _ (built_at w cs T hl)
theorem enc_1 {c : Int} (h0 : 0 ≤ c) (h1 : c < 128) : encC c = [c] := by
  unfold encC; rw [if_neg (by omega), if_pos h1]
theorem enc_2 {c : Int} (h0 : 128 ≤ c) (h1 : c < 2048) : encC c = [192 + c / 64, 128 + c % 64] := by
  unfold encC; rw [if_neg (by omega), if_neg (by omega), if_pos h1]
theorem enc_3 {c : Int} (h0 : 2048 ≤ c) (h1 : c < 65536) (h2 : ¬ (55296 ≤ c ∧ c ≤ 57343)) : encC c = [224 + c / 4096, 128 + c / 64 % 64, 128 + c % 64] := by
  unfold encC; rw [if_neg (by omega), if_neg (by omega), if_neg (by omega), if_pos h1]
theorem enc_4 {c : Int} (h0 : 65536 ≤ c) (h1 : c ≤ 1114111) : encC c = [240 + c / 262144, 128 + c / 4096 % 64, 128 + c / 64 % 64, 128 + c % 64] := by
  unfold encC; rw [if_neg (by omega), if_neg (by omega), if_neg (by omega), if_neg (by omega)]
set_option maxHeartbeats 2000000 in
theorem rbytes_any (c : Int) (w : World) (hc : -9223372036854775808 ≤ c ∧ c ≤ 9223372036854775807) : Calls Tryz.prog 92 #[.int .i64 c] w fun e w' => e = .returned (.string (str (encC c))) ∧ Below w.heap.size w w' := by
  by_cases h0 : c < 0
  · rw [(encC_nil c).2 (.inl h0)]
    have d0 : decide (c < 0) = true := decide_eq_true h0
    go_enter Tryz.func92, Tryz.ntmps92
    go_wp2_with fail
    go_ret
    exact ⟨rfl, Below.refl _ _⟩
  have d0 : decide (c < 0) = false := decide_eq_false h0
  by_cases h1 : 1114111 < c
  · rw [(encC_nil c).2 (.inr (.inl h1))]
    have d1 : decide (1114111 < c) = true := decide_eq_true h1
    go_enter Tryz.func92, Tryz.ntmps92
    go_wp2_with fail
    go_ret
    exact ⟨rfl, Below.refl _ _⟩
  have d1 : decide (1114111 < c) = false := decide_eq_false h1
  by_cases h2 : 55296 ≤ c ∧ c ≤ 57343
  · rw [(encC_nil c).2 (.inr (.inr h2))]
    have d2 : decide (55296 ≤ c) = true := decide_eq_true h2.1
    have d3 : decide (c ≤ 57343) = true := decide_eq_true h2.2
    go_enter Tryz.func92, Tryz.ntmps92
    go_wp2_with fail
    go_ret
    exact ⟨rfl, Below.refl _ _⟩
  have hr : ∀ cs : List Int, cs.length ≤ 1000 → _ := fun cs h => run_built w cs 5 h
  by_cases h3 : c < 128
  · rw [enc_1 (by omega) h3]
    have d2 : decide (55296 ≤ c) = false := decide_eq_false (by omega)
    have w1 : IntKind.u8.wrap c = c := by rw [IntKind.wrap_u8]; omega
    have hx := hr [c] (by simp)
    simp only [List.map_cons, List.map_nil, List.length_cons, List.length_nil, Nat.zero_add] at hx
    clear hr
    go_enter Tryz.func92, Tryz.ntmps92
    go_wp2_with fail
    go_ret
    exact ⟨rfl, by go_grown⟩
  by_cases h4 : c < 2048
  · rw [enc_2 (by omega) h4]
    have d2 : decide (55296 ≤ c) = false := decide_eq_false (by omega)
    have w1 : IntKind.u8.wrap (192 + c / 64) = 192 + c / 64 := by rw [IntKind.wrap_u8]; omega
    have w2 : IntKind.u8.wrap (128 + c % 64) = 128 + c % 64 := by rw [IntKind.wrap_u8]; omega
    have hx := hr [192 + c / 64, 128 + c % 64] (by simp)
    simp only [List.map_cons, List.map_nil, List.length_cons, List.length_nil, Nat.zero_add] at hx
    clear hr
    go_enter Tryz.func92, Tryz.ntmps92
    go_wp2_with fail
    go_ret
    exact ⟨rfl, by go_grown⟩
  by_cases h5 : c < 65536
  · rw [enc_3 (by omega) h5 h2]
    have w1 : IntKind.u8.wrap (224 + c / 4096) = 224 + c / 4096 := by rw [IntKind.wrap_u8]; omega
    have w2 : IntKind.u8.wrap (128 + c / 64 % 64) = 128 + c / 64 % 64 := by rw [IntKind.wrap_u8]; omega
    have w3 : IntKind.u8.wrap (128 + c % 64) = 128 + c % 64 := by rw [IntKind.wrap_u8]; omega
    have hx := hr [224 + c / 4096, 128 + c / 64 % 64, 128 + c % 64] (by simp)
    simp only [List.map_cons, List.map_nil, List.length_cons, List.length_nil, Nat.zero_add] at hx
    clear hr
    by_cases h6 : 55296 ≤ c
    · have d2 : decide (55296 ≤ c) = true := decide_eq_true h6
      have d3 : decide (c ≤ 57343) = false := decide_eq_false (by omega)
      go_enter Tryz.func92, Tryz.ntmps92
      go_wp2_with fail
      go_ret
      exact ⟨rfl, by go_grown⟩
    · have d2 : decide (55296 ≤ c) = false := decide_eq_false h6
      go_enter Tryz.func92, Tryz.ntmps92
      go_wp2_with fail
      go_ret
      exact ⟨rfl, by go_grown⟩
  rw [enc_4 (by omega) (by omega)]
  have d2 : decide (55296 ≤ c) = true := decide_eq_true (by omega)
  have d3 : decide (c ≤ 57343) = false := decide_eq_false (by omega)
  have w1 : IntKind.u8.wrap (240 + c / 262144) = 240 + c / 262144 := by rw [IntKind.wrap_u8]; omega
  have w2 : IntKind.u8.wrap (128 + c / 4096 % 64) = 128 + c / 4096 % 64 := by rw [IntKind.wrap_u8]; omega
  have w3 : IntKind.u8.wrap (128 + c / 64 % 64) = 128 + c / 64 % 64 := by rw [IntKind.wrap_u8]; omega
  have w4 : IntKind.u8.wrap (128 + c % 64) = 128 + c % 64 := by rw [IntKind.wrap_u8]; omega
  have hx := hr [240 + c / 262144, 128 + c / 4096 % 64, 128 + c / 64 % 64, 128 + c % 64] (by simp)
  simp only [List.map_cons, List.map_nil, List.length_cons, List.length_nil, Nat.zero_add] at hx
  clear hr
  go_enter Tryz.func92, Tryz.ntmps92
  go_wp2_with fail
  go_ret
  exact ⟨rfl, by go_grown⟩
end Go.Proofs.YtbkceneakdbdkaaGreatDoor
/- The document's Rune. -/
namespace Go.Proofs.YtbkceneakdbdkaaGreatDoor
open Go.RowKit
set_option maxRecDepth 20000
set_option linter.unusedVariables false
set_option linter.unusedSimpArgs false
theorem keep_be {w w' w1 : World} (hb : Below w'.heap.size w' w1) (h : Below w.heap.size w w') : Below w.heap.size w w1 := h.trans (hb.mono h.size)
theorem str_yes {a b : ByteArray} (h : a = b) : (a.toList == b.toList) = true := by rw [h]; simp
theorem str_no {a b : ByteArray} (h : ¬ a = b) : (a.toList == b.toList) = false := by
  rw [ByteArray.toList_eq, ByteArray.toList_eq, beq_eq_false_iff_ne]
  intro e
  exact h (ByteArray.ext (Array.toList_inj.1 e))
theorem str_is {a : List Int} {s : ByteArray} {n : Nat} (ha : ∀ x ∈ a, 0 ≤ x ∧ x < 256) : str a = s.extract 0 n ↔ a = (bI s).take n := by
  have e : bI (s.extract 0 n) = (bI s).take n := by rw [bI_extract _ _ _ (Nat.zero_le _), List.drop_zero, Nat.sub_zero]
  constructor
  · intro h; rw [← e, ← h, bI_str a ha]
  · intro h; apply bI_inj; rw [bI_str a ha, e]; exact h
theorem test_yes {c : Int} {s : ByteArray} {n : Nat} (h : encC c = (bI s).take n) : ((str (encC c)).toList == (s.extract 0 n).toList) = true := str_yes ((str_is (encC_byte c)).2 h)
theorem test_no {c : Int} {s : ByteArray} {n : Nat} (h : ¬ encC c = (bI s).take n) : ((str (encC c)).toList == (s.extract 0 n).toList) = false := str_no (fun e => h ((str_is (encC_byte c)).1 e))
theorem ext_is {c : Int} {s : ByteArray} {n : Nat} (h : encC c = (bI s).take n) : s.extract 0 n = str (encC c) := ((str_is (encC_byte c)).2 h).symm
set_option maxHeartbeats 2000000 in
theorem rrune_yes1 (s : ByteArray) (w : World) (hs : s.size ≤ 1000000) (hl : 1 ≤ s.size) (b0 : Int) (e0 : ((s[0]'(by omega)).toNat : Int) = b0) (h0 : 0 ≤ b0 ∧ b0 < 256) (t1 : ((str (encC b0)).toList == (s.extract 0 1).toList) = true) :
    Calls Tryz.prog 75 #[.string s] w fun e w' => e = .returned (.string (s.extract 0 1)) ∧ Below w.heap.size w w' := by
  have HBY := Lib.hid (fun c w h => rbytes_any c w h)
  have HB : Hid (Below w.heap.size w w) := Lib.hid (Below.refl _ _)
  go_enter Tryz.func75, Tryz.ntmps75
  go_wp2_with fail
  refine wp_loop_rounds 5 ?_
  rw [rounds_succ]
  go_wp2_with fail
  refine wp_loop_rounds 1 ?_
  rw [rounds_succ]
  go_wp2_with fail
  have hk0 := Below.drew HB.out
  go_region_held3 (fun w' => Below w.heap.size w w') (first | exact hk0 | exact keep_be hk (by assumption)) (first | (go_at_call 92; refine (HBY.out b0 _ (by omega)).mono ?_; rintro e w' ⟨rfl, hk⟩))
  rename_i hHeld
  clear hk0 HB
  have HB := Lib.hid hHeld
  clear hHeld
  generalize w' = v1 at *
  go_wp2_with fail
  go_ret
  exact ⟨rfl, HB.out⟩
set_option maxHeartbeats 2000000 in
theorem rrune_yes2 (s : ByteArray) (w : World) (hs : s.size ≤ 1000000) (hl : 2 ≤ s.size) (b0 : Int) (e0 : ((s[0]'(by omega)).toNat : Int) = b0) (h0 : 0 ≤ b0 ∧ b0 < 256) (b1 : Int) (e1 : ((s[1]'(by omega)).toNat : Int) = b1) (h1 : 0 ≤ b1 ∧ b1 < 256) (t1 : ((str (encC b0)).toList == (s.extract 0 1).toList) = false) (t2 : ((str (encC (64 * (b0 % 32) + b1 % 64))).toList == (s.extract 0 2).toList) = true) :
    Calls Tryz.prog 75 #[.string s] w fun e w' => e = .returned (.string (s.extract 0 2)) ∧ Below w.heap.size w w' := by
  have HBY := Lib.hid (fun c w h => rbytes_any c w h)
  have HB : Hid (Below w.heap.size w w) := Lib.hid (Below.refl _ _)
  go_enter Tryz.func75, Tryz.ntmps75
  go_wp2_with fail
  refine wp_loop_rounds 5 ?_
  rw [rounds_succ]
  go_wp2_with fail
  refine wp_loop_rounds 1 ?_
  rw [rounds_succ]
  go_wp2_with fail
  have hk0 := Below.drew HB.out
  go_region_held3 (fun w' => Below w.heap.size w w') (first | exact hk0 | exact keep_be hk (by assumption)) (first | (go_at_call 92; refine (HBY.out b0 _ (by omega)).mono ?_; rintro e w' ⟨rfl, hk⟩))
  rename_i hHeld
  clear hk0 HB
  have HB := Lib.hid hHeld
  clear hHeld
  generalize w' = v1 at *
  go_wp2_with fail
  rw [rounds_succ]
  go_wp2_with fail
  refine wp_loop_rounds 2 ?_
  rw [rounds_succ]
  go_wp2_with fail
  rw [rounds_succ]
  go_wp2_with fail
  have hk0 := Below.drew HB.out
  go_region_held3 (fun w' => Below w.heap.size w w') (first | exact hk0 | exact keep_be hk (by assumption)) (first | (go_at_call 92; refine (HBY.out (64 * (b0 % 32) + b1 % 64) _ (by omega)).mono ?_; rintro e w' ⟨rfl, hk⟩))
  rename_i hHeld
  clear hk0 HB
  have HB := Lib.hid hHeld
  clear hHeld
  generalize w' = v2 at *
  go_wp2_with fail
  go_ret
  exact ⟨rfl, HB.out⟩
set_option maxHeartbeats 2000000 in
theorem rrune_yes3 (s : ByteArray) (w : World) (hs : s.size ≤ 1000000) (hl : 3 ≤ s.size) (b0 : Int) (e0 : ((s[0]'(by omega)).toNat : Int) = b0) (h0 : 0 ≤ b0 ∧ b0 < 256) (b1 : Int) (e1 : ((s[1]'(by omega)).toNat : Int) = b1) (h1 : 0 ≤ b1 ∧ b1 < 256) (b2 : Int) (e2 : ((s[2]'(by omega)).toNat : Int) = b2) (h2 : 0 ≤ b2 ∧ b2 < 256) (t1 : ((str (encC b0)).toList == (s.extract 0 1).toList) = false) (t2 : ((str (encC (64 * (b0 % 32) + b1 % 64))).toList == (s.extract 0 2).toList) = false) (t3 : ((str (encC (64 * (64 * (b0 % 16) + b1 % 64) + b2 % 64))).toList == (s.extract 0 3).toList) = true) :
    Calls Tryz.prog 75 #[.string s] w fun e w' => e = .returned (.string (s.extract 0 3)) ∧ Below w.heap.size w w' := by
  have HBY := Lib.hid (fun c w h => rbytes_any c w h)
  have HB : Hid (Below w.heap.size w w) := Lib.hid (Below.refl _ _)
  go_enter Tryz.func75, Tryz.ntmps75
  go_wp2_with fail
  refine wp_loop_rounds 5 ?_
  rw [rounds_succ]
  go_wp2_with fail
  refine wp_loop_rounds 1 ?_
  rw [rounds_succ]
  go_wp2_with fail
  have hk0 := Below.drew HB.out
  go_region_held3 (fun w' => Below w.heap.size w w') (first | exact hk0 | exact keep_be hk (by assumption)) (first | (go_at_call 92; refine (HBY.out b0 _ (by omega)).mono ?_; rintro e w' ⟨rfl, hk⟩))
  rename_i hHeld
  clear hk0 HB
  have HB := Lib.hid hHeld
  clear hHeld
  generalize w' = v1 at *
  go_wp2_with fail
  rw [rounds_succ]
  go_wp2_with fail
  refine wp_loop_rounds 2 ?_
  rw [rounds_succ]
  go_wp2_with fail
  rw [rounds_succ]
  go_wp2_with fail
  have hk0 := Below.drew HB.out
  go_region_held3 (fun w' => Below w.heap.size w w') (first | exact hk0 | exact keep_be hk (by assumption)) (first | (go_at_call 92; refine (HBY.out (64 * (b0 % 32) + b1 % 64) _ (by omega)).mono ?_; rintro e w' ⟨rfl, hk⟩))
  rename_i hHeld
  clear hk0 HB
  have HB := Lib.hid hHeld
  clear hHeld
  generalize w' = v2 at *
  go_wp2_with fail
  rw [rounds_succ]
  go_wp2_with fail
  refine wp_loop_rounds 3 ?_
  rw [rounds_succ]
  go_wp2_with fail
  rw [rounds_succ]
  go_wp2_with fail
  rw [rounds_succ]
  go_wp2_with fail
  have hk0 := Below.drew HB.out
  go_region_held3 (fun w' => Below w.heap.size w w') (first | exact hk0 | exact keep_be hk (by assumption)) (first | (go_at_call 92; refine (HBY.out (64 * (64 * (b0 % 16) + b1 % 64) + b2 % 64) _ (by omega)).mono ?_; rintro e w' ⟨rfl, hk⟩))
  rename_i hHeld
  clear hk0 HB
  have HB := Lib.hid hHeld
  clear hHeld
  generalize w' = v3 at *
  go_wp2_with fail
  go_ret
  exact ⟨rfl, HB.out⟩
set_option maxHeartbeats 2000000 in
theorem rrune_yes4 (s : ByteArray) (w : World) (hs : s.size ≤ 1000000) (hl : 4 ≤ s.size) (b0 : Int) (e0 : ((s[0]'(by omega)).toNat : Int) = b0) (h0 : 0 ≤ b0 ∧ b0 < 256) (b1 : Int) (e1 : ((s[1]'(by omega)).toNat : Int) = b1) (h1 : 0 ≤ b1 ∧ b1 < 256) (b2 : Int) (e2 : ((s[2]'(by omega)).toNat : Int) = b2) (h2 : 0 ≤ b2 ∧ b2 < 256) (b3 : Int) (e3 : ((s[3]'(by omega)).toNat : Int) = b3) (h3 : 0 ≤ b3 ∧ b3 < 256) (t1 : ((str (encC b0)).toList == (s.extract 0 1).toList) = false) (t2 : ((str (encC (64 * (b0 % 32) + b1 % 64))).toList == (s.extract 0 2).toList) = false) (t3 : ((str (encC (64 * (64 * (b0 % 16) + b1 % 64) + b2 % 64))).toList == (s.extract 0 3).toList) = false) (t4 : ((str (encC (64 * (64 * (64 * (b0 % 8) + b1 % 64) + b2 % 64) + b3 % 64))).toList == (s.extract 0 4).toList) = true) :
    Calls Tryz.prog 75 #[.string s] w fun e w' => e = .returned (.string (s.extract 0 4)) ∧ Below w.heap.size w w' := by
  have HBY := Lib.hid (fun c w h => rbytes_any c w h)
  have HB : Hid (Below w.heap.size w w) := Lib.hid (Below.refl _ _)
  go_enter Tryz.func75, Tryz.ntmps75
  go_wp2_with fail
  refine wp_loop_rounds 5 ?_
  rw [rounds_succ]
  go_wp2_with fail
  refine wp_loop_rounds 1 ?_
  rw [rounds_succ]
  go_wp2_with fail
  have hk0 := Below.drew HB.out
  go_region_held3 (fun w' => Below w.heap.size w w') (first | exact hk0 | exact keep_be hk (by assumption)) (first | (go_at_call 92; refine (HBY.out b0 _ (by omega)).mono ?_; rintro e w' ⟨rfl, hk⟩))
  rename_i hHeld
  clear hk0 HB
  have HB := Lib.hid hHeld
  clear hHeld
  generalize w' = v1 at *
  go_wp2_with fail
  rw [rounds_succ]
  go_wp2_with fail
  refine wp_loop_rounds 2 ?_
  rw [rounds_succ]
  go_wp2_with fail
  rw [rounds_succ]
  go_wp2_with fail
  have hk0 := Below.drew HB.out
  go_region_held3 (fun w' => Below w.heap.size w w') (first | exact hk0 | exact keep_be hk (by assumption)) (first | (go_at_call 92; refine (HBY.out (64 * (b0 % 32) + b1 % 64) _ (by omega)).mono ?_; rintro e w' ⟨rfl, hk⟩))
  rename_i hHeld
  clear hk0 HB
  have HB := Lib.hid hHeld
  clear hHeld
  generalize w' = v2 at *
  go_wp2_with fail
  rw [rounds_succ]
  go_wp2_with fail
  refine wp_loop_rounds 3 ?_
  rw [rounds_succ]
  go_wp2_with fail
  rw [rounds_succ]
  go_wp2_with fail
  rw [rounds_succ]
  go_wp2_with fail
  have hk0 := Below.drew HB.out
  go_region_held3 (fun w' => Below w.heap.size w w') (first | exact hk0 | exact keep_be hk (by assumption)) (first | (go_at_call 92; refine (HBY.out (64 * (64 * (b0 % 16) + b1 % 64) + b2 % 64) _ (by omega)).mono ?_; rintro e w' ⟨rfl, hk⟩))
  rename_i hHeld
  clear hk0 HB
  have HB := Lib.hid hHeld
  clear hHeld
  generalize w' = v3 at *
  go_wp2_with fail
  rw [rounds_succ]
  go_wp2_with fail
  refine wp_loop_rounds 4 ?_
  rw [rounds_succ]
  go_wp2_with fail
  rw [rounds_succ]
  go_wp2_with fail
  rw [rounds_succ]
  go_wp2_with fail
  rw [rounds_succ]
  go_wp2_with fail
  have hk0 := Below.drew HB.out
  go_region_held3 (fun w' => Below w.heap.size w w') (first | exact hk0 | exact keep_be hk (by assumption)) (first | (go_at_call 92; refine (HBY.out (64 * (64 * (64 * (b0 % 8) + b1 % 64) + b2 % 64) + b3 % 64) _ (by omega)).mono ?_; rintro e w' ⟨rfl, hk⟩))
  rename_i hHeld
  clear hk0 HB
  have HB := Lib.hid hHeld
  clear hHeld
  generalize w' = v4 at *
  go_wp2_with fail
  go_ret
  exact ⟨rfl, HB.out⟩
set_option maxHeartbeats 2000000 in
theorem rrune_end0 (s : ByteArray) (w : World) (hs : s.size ≤ 1000000) (hl : s.size = 0) :
    Calls Tryz.prog 75 #[.string s] w fun e w' => e = .returned (.string { data := #[] }) ∧ Below w.heap.size w w' := by
  have HBY := Lib.hid (fun c w h => rbytes_any c w h)
  have HB : Hid (Below w.heap.size w w) := Lib.hid (Below.refl _ _)
  go_enter Tryz.func75, Tryz.ntmps75
  go_wp2_with fail
  refine wp_loop_rounds 5 ?_
  rw [rounds_succ]
  go_wp2_with fail
  go_ret
  exact ⟨rfl, HB.out⟩
set_option maxHeartbeats 2000000 in
theorem rrune_end1 (s : ByteArray) (w : World) (hs : s.size ≤ 1000000) (hl : s.size = 1) (b0 : Int) (e0 : ((s[0]'(by omega)).toNat : Int) = b0) (h0 : 0 ≤ b0 ∧ b0 < 256) (t1 : ((str (encC b0)).toList == (s.extract 0 1).toList) = false) :
    Calls Tryz.prog 75 #[.string s] w fun e w' => e = .returned (.string { data := #[] }) ∧ Below w.heap.size w w' := by
  have HBY := Lib.hid (fun c w h => rbytes_any c w h)
  have HB : Hid (Below w.heap.size w w) := Lib.hid (Below.refl _ _)
  go_enter Tryz.func75, Tryz.ntmps75
  go_wp2_with fail
  refine wp_loop_rounds 5 ?_
  rw [rounds_succ]
  go_wp2_with fail
  refine wp_loop_rounds 1 ?_
  rw [rounds_succ]
  go_wp2_with fail
  have hk0 := Below.drew HB.out
  go_region_held3 (fun w' => Below w.heap.size w w') (first | exact hk0 | exact keep_be hk (by assumption)) (first | (go_at_call 92; refine (HBY.out b0 _ (by omega)).mono ?_; rintro e w' ⟨rfl, hk⟩))
  rename_i hHeld
  clear hk0 HB
  have HB := Lib.hid hHeld
  clear hHeld
  generalize w' = v1 at *
  go_wp2_with fail
  rw [rounds_succ]
  go_wp2_with fail
  go_ret
  exact ⟨rfl, HB.out⟩
set_option maxHeartbeats 2000000 in
theorem rrune_end2 (s : ByteArray) (w : World) (hs : s.size ≤ 1000000) (hl : s.size = 2) (b0 : Int) (e0 : ((s[0]'(by omega)).toNat : Int) = b0) (h0 : 0 ≤ b0 ∧ b0 < 256) (b1 : Int) (e1 : ((s[1]'(by omega)).toNat : Int) = b1) (h1 : 0 ≤ b1 ∧ b1 < 256) (t1 : ((str (encC b0)).toList == (s.extract 0 1).toList) = false) (t2 : ((str (encC (64 * (b0 % 32) + b1 % 64))).toList == (s.extract 0 2).toList) = false) :
    Calls Tryz.prog 75 #[.string s] w fun e w' => e = .returned (.string { data := #[] }) ∧ Below w.heap.size w w' := by
  have HBY := Lib.hid (fun c w h => rbytes_any c w h)
  have HB : Hid (Below w.heap.size w w) := Lib.hid (Below.refl _ _)
  go_enter Tryz.func75, Tryz.ntmps75
  go_wp2_with fail
  refine wp_loop_rounds 5 ?_
  rw [rounds_succ]
  go_wp2_with fail
  refine wp_loop_rounds 1 ?_
  rw [rounds_succ]
  go_wp2_with fail
  have hk0 := Below.drew HB.out
  go_region_held3 (fun w' => Below w.heap.size w w') (first | exact hk0 | exact keep_be hk (by assumption)) (first | (go_at_call 92; refine (HBY.out b0 _ (by omega)).mono ?_; rintro e w' ⟨rfl, hk⟩))
  rename_i hHeld
  clear hk0 HB
  have HB := Lib.hid hHeld
  clear hHeld
  generalize w' = v1 at *
  go_wp2_with fail
  rw [rounds_succ]
  go_wp2_with fail
  refine wp_loop_rounds 2 ?_
  rw [rounds_succ]
  go_wp2_with fail
  rw [rounds_succ]
  go_wp2_with fail
  have hk0 := Below.drew HB.out
  go_region_held3 (fun w' => Below w.heap.size w w') (first | exact hk0 | exact keep_be hk (by assumption)) (first | (go_at_call 92; refine (HBY.out (64 * (b0 % 32) + b1 % 64) _ (by omega)).mono ?_; rintro e w' ⟨rfl, hk⟩))
  rename_i hHeld
  clear hk0 HB
  have HB := Lib.hid hHeld
  clear hHeld
  generalize w' = v2 at *
  go_wp2_with fail
  rw [rounds_succ]
  go_wp2_with fail
  go_ret
  exact ⟨rfl, HB.out⟩
set_option maxHeartbeats 2000000 in
theorem rrune_end3 (s : ByteArray) (w : World) (hs : s.size ≤ 1000000) (hl : s.size = 3) (b0 : Int) (e0 : ((s[0]'(by omega)).toNat : Int) = b0) (h0 : 0 ≤ b0 ∧ b0 < 256) (b1 : Int) (e1 : ((s[1]'(by omega)).toNat : Int) = b1) (h1 : 0 ≤ b1 ∧ b1 < 256) (b2 : Int) (e2 : ((s[2]'(by omega)).toNat : Int) = b2) (h2 : 0 ≤ b2 ∧ b2 < 256) (t1 : ((str (encC b0)).toList == (s.extract 0 1).toList) = false) (t2 : ((str (encC (64 * (b0 % 32) + b1 % 64))).toList == (s.extract 0 2).toList) = false) (t3 : ((str (encC (64 * (64 * (b0 % 16) + b1 % 64) + b2 % 64))).toList == (s.extract 0 3).toList) = false) :
    Calls Tryz.prog 75 #[.string s] w fun e w' => e = .returned (.string { data := #[] }) ∧ Below w.heap.size w w' := by
  have HBY := Lib.hid (fun c w h => rbytes_any c w h)
  have HB : Hid (Below w.heap.size w w) := Lib.hid (Below.refl _ _)
  go_enter Tryz.func75, Tryz.ntmps75
  go_wp2_with fail
  refine wp_loop_rounds 5 ?_
  rw [rounds_succ]
  go_wp2_with fail
  refine wp_loop_rounds 1 ?_
  rw [rounds_succ]
  go_wp2_with fail
  have hk0 := Below.drew HB.out
  go_region_held3 (fun w' => Below w.heap.size w w') (first | exact hk0 | exact keep_be hk (by assumption)) (first | (go_at_call 92; refine (HBY.out b0 _ (by omega)).mono ?_; rintro e w' ⟨rfl, hk⟩))
  rename_i hHeld
  clear hk0 HB
  have HB := Lib.hid hHeld
  clear hHeld
  generalize w' = v1 at *
  go_wp2_with fail
  rw [rounds_succ]
  go_wp2_with fail
  refine wp_loop_rounds 2 ?_
  rw [rounds_succ]
  go_wp2_with fail
  rw [rounds_succ]
  go_wp2_with fail
  have hk0 := Below.drew HB.out
  go_region_held3 (fun w' => Below w.heap.size w w') (first | exact hk0 | exact keep_be hk (by assumption)) (first | (go_at_call 92; refine (HBY.out (64 * (b0 % 32) + b1 % 64) _ (by omega)).mono ?_; rintro e w' ⟨rfl, hk⟩))
  rename_i hHeld
  clear hk0 HB
  have HB := Lib.hid hHeld
  clear hHeld
  generalize w' = v2 at *
  go_wp2_with fail
  rw [rounds_succ]
  go_wp2_with fail
  refine wp_loop_rounds 3 ?_
  rw [rounds_succ]
  go_wp2_with fail
  rw [rounds_succ]
  go_wp2_with fail
  rw [rounds_succ]
  go_wp2_with fail
  have hk0 := Below.drew HB.out
  go_region_held3 (fun w' => Below w.heap.size w w') (first | exact hk0 | exact keep_be hk (by assumption)) (first | (go_at_call 92; refine (HBY.out (64 * (64 * (b0 % 16) + b1 % 64) + b2 % 64) _ (by omega)).mono ?_; rintro e w' ⟨rfl, hk⟩))
  rename_i hHeld
  clear hk0 HB
  have HB := Lib.hid hHeld
  clear hHeld
  generalize w' = v3 at *
  go_wp2_with fail
  rw [rounds_succ]
  go_wp2_with fail
  go_ret
  exact ⟨rfl, HB.out⟩
set_option maxHeartbeats 2000000 in
theorem rrune_none (s : ByteArray) (w : World) (hs : s.size ≤ 1000000) (hl : 4 ≤ s.size) (b0 : Int) (e0 : ((s[0]'(by omega)).toNat : Int) = b0) (h0 : 0 ≤ b0 ∧ b0 < 256) (b1 : Int) (e1 : ((s[1]'(by omega)).toNat : Int) = b1) (h1 : 0 ≤ b1 ∧ b1 < 256) (b2 : Int) (e2 : ((s[2]'(by omega)).toNat : Int) = b2) (h2 : 0 ≤ b2 ∧ b2 < 256) (b3 : Int) (e3 : ((s[3]'(by omega)).toNat : Int) = b3) (h3 : 0 ≤ b3 ∧ b3 < 256) (t1 : ((str (encC b0)).toList == (s.extract 0 1).toList) = false) (t2 : ((str (encC (64 * (b0 % 32) + b1 % 64))).toList == (s.extract 0 2).toList) = false) (t3 : ((str (encC (64 * (64 * (b0 % 16) + b1 % 64) + b2 % 64))).toList == (s.extract 0 3).toList) = false) (t4 : ((str (encC (64 * (64 * (64 * (b0 % 8) + b1 % 64) + b2 % 64) + b3 % 64))).toList == (s.extract 0 4).toList) = false) :
    Calls Tryz.prog 75 #[.string s] w fun e w' => e = .returned (.string { data := #[] }) ∧ Below w.heap.size w w' := by
  have HBY := Lib.hid (fun c w h => rbytes_any c w h)
  have HB : Hid (Below w.heap.size w w) := Lib.hid (Below.refl _ _)
  go_enter Tryz.func75, Tryz.ntmps75
  go_wp2_with fail
  refine wp_loop_rounds 5 ?_
  rw [rounds_succ]
  go_wp2_with fail
  refine wp_loop_rounds 1 ?_
  rw [rounds_succ]
  go_wp2_with fail
  have hk0 := Below.drew HB.out
  go_region_held3 (fun w' => Below w.heap.size w w') (first | exact hk0 | exact keep_be hk (by assumption)) (first | (go_at_call 92; refine (HBY.out b0 _ (by omega)).mono ?_; rintro e w' ⟨rfl, hk⟩))
  rename_i hHeld
  clear hk0 HB
  have HB := Lib.hid hHeld
  clear hHeld
  generalize w' = v1 at *
  go_wp2_with fail
  rw [rounds_succ]
  go_wp2_with fail
  refine wp_loop_rounds 2 ?_
  rw [rounds_succ]
  go_wp2_with fail
  rw [rounds_succ]
  go_wp2_with fail
  have hk0 := Below.drew HB.out
  go_region_held3 (fun w' => Below w.heap.size w w') (first | exact hk0 | exact keep_be hk (by assumption)) (first | (go_at_call 92; refine (HBY.out (64 * (b0 % 32) + b1 % 64) _ (by omega)).mono ?_; rintro e w' ⟨rfl, hk⟩))
  rename_i hHeld
  clear hk0 HB
  have HB := Lib.hid hHeld
  clear hHeld
  generalize w' = v2 at *
  go_wp2_with fail
  rw [rounds_succ]
  go_wp2_with fail
  refine wp_loop_rounds 3 ?_
  rw [rounds_succ]
  go_wp2_with fail
  rw [rounds_succ]
  go_wp2_with fail
  rw [rounds_succ]
  go_wp2_with fail
  have hk0 := Below.drew HB.out
  go_region_held3 (fun w' => Below w.heap.size w w') (first | exact hk0 | exact keep_be hk (by assumption)) (first | (go_at_call 92; refine (HBY.out (64 * (64 * (b0 % 16) + b1 % 64) + b2 % 64) _ (by omega)).mono ?_; rintro e w' ⟨rfl, hk⟩))
  rename_i hHeld
  clear hk0 HB
  have HB := Lib.hid hHeld
  clear hHeld
  generalize w' = v3 at *
  go_wp2_with fail
  rw [rounds_succ]
  go_wp2_with fail
  refine wp_loop_rounds 4 ?_
  rw [rounds_succ]
  go_wp2_with fail
  rw [rounds_succ]
  go_wp2_with fail
  rw [rounds_succ]
  go_wp2_with fail
  rw [rounds_succ]
  go_wp2_with fail
  have hk0 := Below.drew HB.out
  go_region_held3 (fun w' => Below w.heap.size w w') (first | exact hk0 | exact keep_be hk (by assumption)) (first | (go_at_call 92; refine (HBY.out (64 * (64 * (64 * (b0 % 8) + b1 % 64) + b2 % 64) + b3 % 64) _ (by omega)).mono ?_; rintro e w' ⟨rfl, hk⟩))
  rename_i hHeld
  clear hk0 HB
  have HB := Lib.hid hHeld
  clear hHeld
  generalize w' = v4 at *
  go_wp2_with fail
  rw [rounds_succ]
  go_wp2_with fail
  go_ret
  exact ⟨rfl, HB.out⟩
theorem bI_split (s : ByteArray) (k : Nat) (h : k < s.size) : (bI s).drop k = ((s[k]'h).toNat : Int) :: (bI s).drop (k + 1) := by
  have hk : k < (bI s).length := by rw [bI_len]; exact h
  rw [List.drop_eq_getElem_cons hk]
  congr 1
  simp [bI]
  rfl
theorem rrune_any (s : ByteArray) (w : World) (hs : s.size ≤ 1000000) : Calls Tryz.prog 75 #[.string s] w fun e w' => e = .returned (.string (str (runeP (bI s)))) ∧ Below w.heap.size w w' := by
  have hlen := bI_len s
  have hsp := bI_split s
  by_cases z0 : s.size = 0
  · have e0 : bI s = [] := List.eq_nil_of_length_eq_zero (by omega)
    rw [e0]
    exact rrune_end0 s w hs z0
  obtain ⟨b0, e0⟩ : ∃ b0, ((s[0]'(by omega)).toNat : Int) = b0 := ⟨_, rfl⟩
  have h0 : 0 ≤ b0 ∧ b0 < 256 := by have := (s[0]'(by omega)).toNat_lt; omega
  have l0 := hsp 0 (by omega)
  rw [List.drop_zero, e0] at l0
  by_cases t1 : encC b0 = (bI s).take 1
  · rw [show runeP (bI s) = encC b0 from ?_]
    · rw [← ext_is t1]
      exact rrune_yes1 s w hs (by omega) b0 e0 h0 (test_yes t1)
    · rw [l0] at t1 ⊢
      rw [List.take_succ_cons, List.take_zero] at t1
      rw [runeP, if_pos t1, t1]
  have f1 := test_no t1
  rw [l0, List.take_succ_cons, List.take_zero] at t1
  by_cases z1 : s.size = 1
  · have hd : (bI s).drop 1 = [] := List.eq_nil_of_length_eq_zero (by rw [List.length_drop]; omega)
    rw [l0, hd, runeP, if_neg t1, runeP2]
    exact rrune_end1 s w hs z1 b0 e0 h0 f1
  obtain ⟨b1, e1⟩ : ∃ b1, ((s[1]'(by omega)).toNat : Int) = b1 := ⟨_, rfl⟩
  have h1 : 0 ≤ b1 ∧ b1 < 256 := by have := (s[1]'(by omega)).toNat_lt; omega
  have l1 := hsp 1 (by omega)
  rw [e1] at l1
  by_cases t2 : encC (64 * (b0 % 32) + b1 % 64) = (bI s).take 2
  · rw [show runeP (bI s) = encC (64 * (b0 % 32) + b1 % 64) from ?_]
    · rw [← ext_is t2]
      exact rrune_yes2 s w hs (by omega) b0 e0 h0 b1 e1 h1 f1 (test_yes t2)
    · rw [l0, l1] at t2 ⊢
      rw [List.take_succ_cons, List.take_succ_cons, List.take_zero] at t2
      rw [runeP, if_neg t1, runeP2, if_pos t2, t2]
  have f2 := test_no t2
  rw [l0, l1, List.take_succ_cons, List.take_succ_cons, List.take_zero] at t2
  by_cases z2 : s.size = 2
  · have hd : (bI s).drop (1 + 1) = [] := List.eq_nil_of_length_eq_zero (by rw [List.length_drop]; omega)
    rw [l0, l1, hd, runeP, if_neg t1, runeP2, if_neg t2, runeP3]
    exact rrune_end2 s w hs z2 b0 e0 h0 b1 e1 h1 f1 f2
  obtain ⟨b2, e2⟩ : ∃ b2, ((s[2]'(by omega)).toNat : Int) = b2 := ⟨_, rfl⟩
  have h2 : 0 ≤ b2 ∧ b2 < 256 := by have := (s[2]'(by omega)).toNat_lt; omega
  have l2 := hsp 2 (by omega)
  rw [e2] at l2
  by_cases t3 : encC (64 * (64 * (b0 % 16) + b1 % 64) + b2 % 64) = (bI s).take 3
  · rw [show runeP (bI s) = encC (64 * (64 * (b0 % 16) + b1 % 64) + b2 % 64) from ?_]
    · rw [← ext_is t3]
      exact rrune_yes3 s w hs (by omega) b0 e0 h0 b1 e1 h1 b2 e2 h2 f1 f2 (test_yes t3)
    · rw [l0, l1, l2] at t3 ⊢
      rw [List.take_succ_cons, List.take_succ_cons, List.take_succ_cons, List.take_zero] at t3
      rw [runeP, if_neg t1, runeP2, if_neg t2, runeP3, if_pos t3, t3]
  have f3 := test_no t3
  rw [l0, l1, l2, List.take_succ_cons, List.take_succ_cons, List.take_succ_cons, List.take_zero] at t3
  by_cases z3 : s.size = 3
  · have hd : (bI s).drop (2 + 1) = [] := List.eq_nil_of_length_eq_zero (by rw [List.length_drop]; omega)
    rw [l0, l1, l2, hd, runeP, if_neg t1, runeP2, if_neg t2, runeP3, if_neg t3, runeP4]
    exact rrune_end3 s w hs z3 b0 e0 h0 b1 e1 h1 b2 e2 h2 f1 f2 f3
  obtain ⟨b3, e3⟩ : ∃ b3, ((s[3]'(by omega)).toNat : Int) = b3 := ⟨_, rfl⟩
  have h3 : 0 ≤ b3 ∧ b3 < 256 := by have := (s[3]'(by omega)).toNat_lt; omega
  have l3 := hsp 3 (by omega)
  rw [e3] at l3
  by_cases t4 : encC (64 * (64 * (64 * (b0 % 8) + b1 % 64) + b2 % 64) + b3 % 64) = (bI s).take 4
  · rw [show runeP (bI s) = encC (64 * (64 * (64 * (b0 % 8) + b1 % 64) + b2 % 64) + b3 % 64) from ?_]
    · rw [← ext_is t4]
      exact rrune_yes4 s w hs (by omega) b0 e0 h0 b1 e1 h1 b2 e2 h2 b3 e3 h3 f1 f2 f3 (test_yes t4)
    · rw [l0, l1, l2, l3] at t4 ⊢
      rw [List.take_succ_cons, List.take_succ_cons, List.take_succ_cons, List.take_succ_cons, List.take_zero] at t4
      rw [runeP, if_neg t1, runeP2, if_neg t2, runeP3, if_neg t3, runeP4, if_pos t4, t4]
  have f4 := test_no t4
  rw [l0, l1, l2, l3, List.take_succ_cons, List.take_succ_cons, List.take_succ_cons, List.take_succ_cons, List.take_zero] at t4
  rw [l0, l1, l2, l3, runeP, if_neg t1, runeP2, if_neg t2, runeP3, if_neg t3, runeP4, if_neg t4]
  exact rrune_none s w hs (by omega) b0 e0 h0 b1 e1 h1 b2 e2 h2 b3 e3 h3 f1 f2 f3 f4
end Go.Proofs.YtbkceneakdbdkaaGreatDoor
