/- Contracts of varint's lay and Put: behind any bytes stand those of the number, in a row of the call's own; what was there stays. -/
import Derived.Test.YtpjgemjceikhfaaSz
import Derived.Test.YtpjgemjceikhfaaF
import Derived.Laws.CopyOwn
import Derived.Laws.MakeOwn
namespace Go.Proofs.Ytpjgemjceikhfaa
open Go.RowKit
set_option linter.unusedVariables false
theorem Try.info5 : (Try.prog.info? 5).map (fun i => (i.zero, i.size, i.bytes)) = some (some (.int .u8 0), 1, 1) := by kernel_rfl
theorem add_block (x : Addr) (j : Nat) : (x.add j).block = x.block := by unfold Addr.add; split <;> rfl
/-- The bytes l stand where the slice v leads. -/
def BytesAt (w : World) (v : Value) (l : List Int) : Prop :=
  ∃ a cap, v = .slice a l.length cap ∧ l.length ≤ cap ∧ cap ≤ maxLen ∧ (0 < l.length → ∃ x : Addr, a = some x ∧ x.block < w.heap.size ∧ ∀ i, i < l.length → w.cell? (x.add i) = some (.int .u8 (l.getD i 0)))
/-- A row of the call's own: from block B on, the bytes l. -/
def Own (w : World) (B : Nat) (v : Value) (l : List Int) : Prop := w.ownsRow B 5 1 v l.length (l.map (Value.int .u8))
theorem Own.snoc {w' : World} {B : Nat} {v' : Value} {l : List Int} {c : Int} (hs : w'.ownsRow B 5 1 v' (l.length + 1) (l.map (Value.int .u8) ++ [.int .u8 c])) : Own w' B v' (l ++ [c]) := by
  unfold Own
  rw [List.length_append, List.map_append]
  exact hs
theorem own_of_splice {w2 : World} {g m : Nat} {l : List Int} (h : w2.heap[g]? = some (.cells (splice (List.replicate (l.length + m) (Value.int .u8 0)) 0 (l.map (Value.int .u8))).toArray 5 (0, 0))) (hl : l.length + m ≤ maxLen) : Own w2 g (.slice (some ⟨g, 0, none⟩) l.length (l.length + m)) l := by
  refine ⟨by simp, .inr ⟨g, l.length + m, _, rfl, Nat.le_refl _, h, by omega, hl, ?_, ?_⟩⟩
  · rw [List.size_toArray, length_splice _ _ _ (by simp)]; simp
  · simp [splice]
def PutEnd (w : World) (l : List Int) (e : Ending) (w' : World) : Prop := ∃ v, e = .returned v ∧ Own w' w.heap.size v l ∧ Below w.heap.size w w'
theorem or_more (y : Int) (y0 : 0 ≤ y) : bits BinOp.or IntKind.u8 (y % 256) 128 = y % 128 + 128 := by
  rw [u8_or _ _ (by omega) (by omega) (by omega) (by omega)]
  have h : (y % 256).toNat ||| (128 : Int).toNat = 128 + (y % 128).toNat := by
    have e : (y % 256).toNat = (if y % 256 < 128 then 0 else 128) ||| (y % 128).toNat := by
      split
      · rw [Nat.zero_or]; omega
      · rw [nat_join 7 _ _ (by omega) (by omega)]; omega
    rw [e, show (128 : Int).toNat = 128 from rfl]
    split
    · rw [Nat.zero_or, Nat.or_comm, nat_join 7 _ _ (by omega) (by omega)]
    · rw [Nat.or_comm, ← Nat.or_assoc, Nat.or_self, nat_join 7 _ _ (by omega) (by omega)]
  rw [h]; omega
def LayEnd (B : Nat) (w : World) (l : List Int) (e : Ending) (w' : World) : Prop := ∃ v, e = .returned v ∧ Own w' B v l ∧ Below B w w'
theorem lay_any (B : Nat) (v : Value) (l : List Int) (x : Int) (w : World) (ho : Own w B v l) (hB : B ≤ w.heap.size) (hl : l.length ≤ 1000000) (x0 : 0 ≤ x) (x1 : x ≤ 18446744073709551615) :
    Calls Try.prog 22 #[v, .int .u64 x] w (LayEnd B w (l ++ enc x)) := by
  obtain ⟨i0, hi, hz0, hz1, hz2⟩ := info_parts Try.info5
  go_enter Try.func22, Try.ntmps22
  go_wp2
  go_loopw [0, 1] (fun v x' wr => ∃ (pre : List Int) (y : Int), x' = .int .u64 y ∧ 0 ≤ y ∧ y ≤ 18446744073709551615 ∧ Hid (enc x = pre ++ enc y) ∧ Own wr B v (l ++ pre) ∧ Below B w wr) (fun _ x' _ => (intOf x').toNat)
  case atStart => exact ⟨[], x, rfl, x0, x1, rfl, by simpa using ho, Below.refl _ _⟩
  case round =>
    obtain ⟨pre, y, rfl, y0, y1, HY, hown, hbw⟩ := hrel
    have hlen : (l ++ pre).length ≤ l.length + 10 := by
      have := congrArg List.length HY.out
      have := enc_len x
      simp only [List.length_append] at *
      omega
    have hsz := hbw.size
    have hlm : (l ++ pre).length ≤ 1000010 := by omega
    clear hlen
    generalize hL : (l ++ pre) = L at *
    have HL := Lib.hid hL; clear hL
    by_cases hlt : 128 ≤ y
    · have hor := or_more y y0
      have HE : Hid (enc x = (pre ++ [y % 128 + 128]) ++ enc (y / 128)) := by
        have := HY.out
        rw [enc_ge y hlt y1] at this
        exact Lib.hid (by simpa using this)
      go_wp2_with (first | (at_builtin; refine wpList_append_own _ rfl _ _ 22 rfl B 5 i0 (.int .u8 0) 1 1 Try.underlying22 hi hz0 hz1 hz2 rfl (by decide) _ _ _ rfl (World.ownsRow.alloc hown _) ⟨wr.heap.size, 0, none⟩ 1 1 [.int .u8 (y % 128 + 128)] rfl rfl ?c1 ?c2 ?c3 ?c4 ?c5 ?_) | fail)
      case c1 =>
        intro j u hj
        match j, hj with
        | 0, hj => simp at hj; subst hj; simp [Addr.add]
      case c2 => intro u hu; simp at hu; subst hu; rfl
      case c3 => unfold maxLen; omega
      case c4 => omega
      case c5 => rw [World.size_alloc]; omega
      intro v' w1 hown' hgrow _
      have hbel : Below B w w1 := (hbw.alloc (by omega) _).grown hgrow (by rw [World.size_alloc]; omega) (fun g hg => (World.ownsRow.lt hown g hg).1)
      have hO' : Own w1 B v' (l ++ (pre ++ [y % 128 + 128])) := by
        rw [← List.append_assoc, HL.out]
        exact Own.snoc (by simpa using hown')
      clear hown' hgrow hown hbw HY hor
      go_wp2
      go_roundw
      case rel => exact ⟨_, y / 128, rfl, by omega, by omega, HE, hO', hbel⟩
      case measure => simp [intOf]; omega
    · have hmod : y % 256 = y := by omega
      have HE : Hid (enc x = pre ++ [y]) := by
        have := HY.out
        rw [enc_lt y (by omega)] at this
        exact Lib.hid this
      go_wp2_with (first | (at_builtin; refine wpList_append_own _ rfl _ _ 22 rfl B 5 i0 (.int .u8 0) 1 1 Try.underlying22 hi hz0 hz1 hz2 rfl (by decide) _ _ _ rfl (World.ownsRow.alloc hown _) ⟨wr.heap.size, 0, none⟩ 1 1 [.int .u8 y] rfl rfl ?c1 ?c2 ?c3 ?c4 ?c5 ?_) | fail)
      case c2 => rfl
      case c3 => unfold maxLen; omega
      case c4 => omega
      case c5 => omega
      intro v' w1 hown' hgrow _
      have hbel : Below B w w1 := (hbw.alloc (by omega) _).grown hgrow (by rw [World.size_alloc]; omega) (fun g hg => (World.ownsRow.lt hown g hg).1)
      have hO' : Own w1 B v' (l ++ enc x) := by
        rw [HE.out, ← List.append_assoc, HL.out]
        exact Own.snoc (by simpa using hown')
      clear hown' hgrow hown hbw HY
      go_wp2
      go_ret
      exact ⟨_, rfl, hO', hbel⟩
end Go.Proofs.Ytpjgemjceikhfaa
