/- The contract of little's Put: for any bytes, any number of bytes and any number, a new row of the call's own holds the bytes and behind them the lowest n bytes of the number; what was there stays. -/
import Derived.Test.YtodjdeilaimjaaaE
import Derived.Laws.CopyOwn
import Derived.Laws.MakeOwn
namespace Go.Proofs.Ytodjdeilaimjaaa
open Go.RowKit
set_option linter.unusedVariables false
theorem Try.info5 : (Try.prog.info? 5).map (fun i => (i.zero, i.size, i.bytes)) = some (some (.int .u8 0), 1, 1) := by kernel_rfl
/-- The lowest k bytes of x, the least one first. -/
def leB : Nat → Int → List Int
  | 0, _ => []
  | k + 1, x => x % 256 :: leB k (x / 256)
/-- x without its lowest k bytes. -/
def shr : Nat → Int → Int
  | 0, x => x
  | k + 1, x => shr k (x / 256)
theorem leB_len (k : Nat) (x : Int) : (leB k x).length = k := by
  induction k generalizing x with
  | zero => rfl
  | succ k ih => simp [leB, ih]
theorem shr_succ (k : Nat) (x : Int) : shr (k + 1) x = shr k x / 256 := by
  induction k generalizing x with
  | zero => rfl
  | succ k ih => exact ih (x / 256)
theorem leB_succ (k : Nat) (x : Int) : leB (k + 1) x = leB k x ++ [shr k x % 256] := by
  induction k generalizing x with
  | zero => rfl
  | succ k ih =>
    show x % 256 :: leB (k + 1) (x / 256) = x % 256 :: leB k (x / 256) ++ [shr k (x / 256) % 256]
    rw [ih]; rfl
theorem shr_bd (k : Nat) (x : Int) (h0 : 0 ≤ x) (h1 : x ≤ 18446744073709551615) : 0 ≤ shr k x ∧ shr k x ≤ 18446744073709551615 := by
  induction k generalizing x with
  | zero => exact ⟨h0, h1⟩
  | succ k ih => exact ih (x / 256) (by omega) (by omega)
theorem add_block (x : Addr) (j : Nat) : (x.add j).block = x.block := by unfold Addr.add; split <;> rfl
/-- The bytes l stand where the slice v leads. -/
def BytesAt (w : World) (v : Value) (l : List Int) : Prop :=
  ∃ a cap, v = .slice a l.length cap ∧ l.length ≤ cap ∧ cap ≤ maxLen ∧ (0 < l.length → ∃ x : Addr, a = some x ∧ x.block < w.heap.size ∧ ∀ i, i < l.length → w.cell? (x.add i) = some (.int .u8 (l.getD i 0)))
/-- A row of the call's own: from block B on, the bytes l. -/
def Own (w : World) (B : Nat) (v : Value) (l : List Int) : Prop := w.ownsRow B 5 1 v l.length (l.map (Value.int .u8))
theorem Own.snoc {w' : World} {B : Nat} {v' : Value} {l : List Int} {c : Int} (hs : w'.ownsRow B 5 1 v' (l.length + 1) (l.map (Value.int .u8) ++ [.int .u8 c])) : Own w' B v' (l ++ [c]) := by
  unfold Own
  rw [List.length_append, List.map_append]
  exact hs
theorem own_of_splice {w2 : World} {g m : Nat} {l : List Int} (h : w2.heap[g]? = some (.cells (splice (List.replicate (l.length + m) (Value.int .u8 0)) 0 (l.map (Value.int .u8))).toArray 5 (0, 0))) (hl : l.length + m ≤ maxLen) : Own w2 g (.slice (some ⟨g, 0, none⟩) l.length (l.length + m)) l := by
  refine ⟨by simp, .inr ⟨g, l.length + m, _, rfl, Nat.le_refl _, h, by omega, hl, ?_, ?_⟩⟩
  · rw [List.size_toArray, length_splice _ _ _ (by simp)]; simp
  · simp [splice]
def PutEnd (w : World) (l : List Int) (e : Ending) (w' : World) : Prop := ∃ v, e = .returned v ∧ Own w' w.heap.size v l ∧ Below w.heap.size w w'
theorem put_any (v : Value) (l : List Int) (n x : Int) (m : Nat) (w : World) (hb : BytesAt w v l) (hl : l.length ≤ 1000000) (hn : n = m ∧ 1 ≤ m ∧ m ≤ 8 ∨ m = 0 ∧ (n < 1 ∨ 8 < n)) (x0 : 0 ≤ x) (x1 : x ≤ 18446744073709551615) :
    Calls Try.prog 38 #[v, .int .i64 n, .int .u64 x] w (PutEnd w (l ++ leB m x)) := by
  obtain ⟨a, cap, rfl, hc1, hc2, hcell⟩ := hb
  obtain ⟨i0, hi, hz0, hz1, hz2⟩ := info_parts Try.info5
  have HM : ∀ (L : Nat) (W : World), L ≤ 1000000 → (Instr.makeSlice 49 (.int .i64 (L : Int)) (.int .i64 ((L : Int) + (m : Int)))).run Try.prog W = .ok (.slice (some ⟨W.heap.size, 0, none⟩) L (L + m)) (W.alloc (.cells (madeCells #[.int .u8 0] ((L + m) * 1)) 5)) := by
    intro L W hL
    have := run_make (P := Try.prog) W 49 5 i0 (.int .u8 0) Try.underlying49 hi hz0 .i64 .i64 (L : Int) ((L : Int) + (m : Int)) (by omega) (by omega) (by rw [hz2]; omega) (by omega)
    rw [this, hz1]
    simp only [Int.toNat_natCast]
    rw [show ((L : Int) + (m : Int)).toNat = L + m from by omega]
    rfl
  have hmk := HM l.length
  clear HM
  have hG : (w.alloc (.cells (madeCells #[.int .u8 0] (l.length + m)) 5)).heap[w.heap.size]? = some (.cells (List.replicate (l.length + m) (Value.int .u8 0)).toArray 5 (0, 0)) := by
    rw [heap_alloc_new]
    have := toList_madeCells_one (.int .u8 0) (l.length + m)
    rw [← this]
  have hpos : 0 < (l.map (Value.int .u8)).length → ∃ ad, a = some ad ∧ ∀ j u, (l.map (Value.int .u8))[j]? = some u → (w.alloc (.cells (madeCells #[.int .u8 0] (l.length + m)) 5)).cell? (ad.add j) = some u := by
    intro h
    obtain ⟨y, hy, hyb, hyc⟩ := hcell (by simpa using h)
    refine ⟨y, hy, fun j u hj => ?_⟩
    have hjl : j < l.length := by
      have := (List.getElem?_eq_some_iff.1 hj).1
      simpa using this
    have hu : u = .int .u8 (l.getD j 0) := by simpa [hjl] using hj.symm
    rw [hu, ← hyc j hjl]
    exact ((Below.refl w.heap.size w).alloc (Nat.le_refl _) _).cell (p := y.add j) (by rw [add_block]; exact hyb)
  have HG := Lib.hid hG; clear hG
  have HP := Lib.hid hpos; clear hpos
  clear hcell
  have hml : l.length + 8 ≤ maxLen := by unfold maxLen; omega
  rcases hn with ⟨rfl, hm1, hm8⟩ | ⟨rfl, hn⟩
  · go_enter Try.func38, Try.ntmps38
    go_wp2_with (first | (go_at_call 56; refine (isw_yes _ _ (by omega) (by omega)).mono ?_; rintro e w' ⟨rfl, rfl⟩) | (with_reducible refine wpList_copy_splice rfl (.tmp 18) (.tmp 19) 49 49 rfl 5 Try.underlying49 (by kernel_rfl) _ _ _ _ _ _ rfl rfl w.heap.size 0 (List.replicate (l.length + m) (Value.int .u8 0)) 5 HG.out (l.map (Value.int .u8)) (by simp) (fun h => ⟨rfl, HP.out h⟩) (by simp) (ints_oneCell _ _) w.heap.size w ((Below.refl _ _).alloc (Nat.le_refl _) _) (Nat.le_refl _) ?_; intro w2 HG2 HB2) | fail)
    have hO := own_of_splice HG2.out (by omega)
    clear HG2 HG HP hmk
    go_loopw [7, 2, 22] (fun v x' i wr => ∃ (k : Nat) (y : Int), k ≤ m ∧ i = .int .i64 k ∧ x' = .int .u64 y ∧ 0 ≤ y ∧ y ≤ 18446744073709551615 ∧ Hid (shr k x = y) ∧ Own wr w.heap.size v (l ++ leB k x) ∧ Below w.heap.size w wr) (fun _ _ i _ => m - (intOf i).toNat)
    case atStart => exact ⟨0, x, Nat.zero_le _, rfl, rfl, x0, x1, rfl, by simpa [leB] using hO, HB2⟩
    case round =>
      obtain ⟨k, y, hk, rfl, rfl, y0, y1, HY, hown, hbw⟩ := hrel
      have hlen : (l ++ leB k x).length = l.length + k := by rw [List.length_append, leB_len]
      have HL := Lib.hid hlen; clear hlen
      have hsz := hbw.size
      by_cases hlt : k < m
      · go_wp2_with (first | (at_builtin; refine wpList_append_own _ rfl _ _ 49 rfl w.heap.size 5 i0 (.int .u8 0) 1 1 Try.underlying49 hi hz0 hz1 hz2 rfl (by decide) _ _ _ rfl (World.ownsRow.alloc hown _) ⟨wr.heap.size, 0, none⟩ 1 1 [.int .u8 (y % 256)] rfl rfl ?c1 ?c2 ?c3 ?c4 ?c5 ?_) | fail)
        case c1 =>
          intro j u hj
          match j, hj with
          | 0, hj => simp at hj; subst hj; simp [Addr.add]
        case c2 => intro u hu; simp at hu; subst hu; rfl
        case c3 => rw [HL.out]; unfold maxLen; omega
        case c4 => rw [HL.out]; omega
        case c5 => rw [World.size_alloc]; omega
        intro v' w1 hown' hgrow _
        have hbel : Below w.heap.size w w1 := (hbw.alloc (by omega) _).grown hgrow (by rw [World.size_alloc]; omega) (fun g hg => (World.ownsRow.lt hown g hg).1)
        have hO' : Own w1 w.heap.size v' (l ++ leB (k + 1) x) := by
          rw [leB_succ, HY.out, ← List.append_assoc]
          exact Own.snoc (by simpa using hown')
        have HY' : Hid (shr (k + 1) x = y / 256) := by
          have := shr_succ k x
          rw [HY.out] at this
          exact Lib.hid this
        clear hown' hgrow hown hbw HY
        go_wp2
        go_roundw
        case rel => exact ⟨k + 1, y / 256, by omega, by go_num, rfl, by omega, by omega, HY', hO', hbel⟩
        case measure => simp [intOf]; omega
      · obtain rfl : k = m := by omega
        go_wp2
        go_ret
        exact ⟨_, rfl, hown, hbw⟩
  · simp only [Nat.add_zero] at HG HP
    have hmk0 : ∀ (W : World), (Instr.makeSlice 49 (.int .i64 (l.length : Int)) (.int .i64 (l.length : Int))).run Try.prog W = .ok (.slice (some ⟨W.heap.size, 0, none⟩) l.length l.length) (W.alloc (.cells (madeCells #[.int .u8 0] l.length) 5)) := by
      intro W
      have := hmk W hl
      simpa using this
    clear hmk
    go_enter Try.func38, Try.ntmps38
    go_wp2_with (first | (go_at_call 56; refine (isw_no _ _ (by omega)).mono ?_; rintro e w' ⟨rfl, rfl⟩) | (with_reducible refine wpList_copy_splice rfl (.tmp 18) (.tmp 19) 49 49 rfl 5 Try.underlying49 (by kernel_rfl) _ _ _ _ _ _ rfl rfl w.heap.size 0 (List.replicate l.length (Value.int .u8 0)) 5 HG.out (l.map (Value.int .u8)) (by simp) (fun h => ⟨rfl, HP.out h⟩) (by simp) (ints_oneCell _ _) w.heap.size w ((Below.refl _ _).alloc (Nat.le_refl _) _) (Nat.le_refl _) ?_; intro w2 HG2 HB2) | fail)
    have hO := own_of_splice (m := 0) HG2.out (by omega)
    clear HG2 HG HP hmk0
    refine wp_loop_rounds 1 ?_
    rw [rounds_succ]
    go_wp2
    go_ret
    exact ⟨_, rfl, by simpa [leB] using hO, HB2⟩
end Go.Proofs.Ytodjdeilaimjaaa
