/- Contracts of the document's own take, Num, Bytes, Rest and End, and of own and Back: they answer as the program's do, for every scan and every number. -/
import Derived.Test.YtgdekiimjlpmfaaF
namespace Go.Proofs.Ytgdekiimjlpmfaa
open Go.RowKit
set_option linter.unusedVariables false
theorem may_yes (t : ByteArray) (p q : Int) (w : World) (h0 : 0 ≤ p) (h1 : p ≤ t.size) : Calls Try.prog 36 #[.agg #[.string t, .int .i64 p, .int .i64 q]] w fun e w' => e = .returned (.bool true) ∧ Below w.heap.size w w' := by
  go_enter Try.func36, Try.ntmps36
  go_wp2
  go_ret
  exact ⟨rfl, (Below.refl _ _).alloc (Nat.le_refl _) _⟩
theorem may_no (t : ByteArray) (p q : Int) (w : World) (h : p < 0 ∨ t.size < p) : Calls Try.prog 36 #[.agg #[.string t, .int .i64 p, .int .i64 q]] w fun e w' => e = .returned (.bool false) ∧ Below w.heap.size w w' := by
  rcases h with h | h
  · go_enter Try.func36, Try.ntmps36
    go_wp2
    go_ret
    exact ⟨rfl, (Below.refl _ _).alloc (Nat.le_refl _) _⟩
  · have h0 : 0 ≤ p := by omega
    have h1 : decide (p ≤ (t.size : Int)) = false := by simp; omega
    go_enter Try.func36, Try.ntmps36
    go_wp2
    go_ret
    exact ⟨rfl, (Below.refl _ _).alloc (Nat.le_refl _) _⟩
def wrongV (b : Bool) : Int := if b then 2 else 0
def takeBad (t : ByteArray) (p q n : Int) (b : Bool) : Int := firstOf [q, placedV t p, wrongV b, leftV t p n]
theorem own_any (t : ByteArray) (p q : Int) (w : World) : Calls Try.prog 11 #[.agg #[.string t, .int .i64 p, .int .i64 q]] w fun e w' => e = .returned (.agg #[.string t, .int .i64 p, .int .i64 q]) ∧ Below w.heap.size w w' := by
  go_enter Try.func11, Try.ntmps11
  go_wp2
  refine bodyPost_ret (v := .agg #[.string t, .int .i64 p, .int .i64 q]) (by simp [results, Try.results11, go_sem]) rfl ⟨rfl, ?_⟩
  go_grown
theorem back_any (t : ByteArray) (p q : Int) (w : World) : Calls Try.prog 16 #[.agg #[.string t, .int .i64 p, .int .i64 q]] w fun e w' => e = .returned (.agg #[.string t, .int .i64 p, .int .i64 q]) ∧ Below w.heap.size w w' := by
  go_enter Try.func16, Try.ntmps16
  go_wp2
  refine bodyPost_ret (v := .agg #[.string t, .int .i64 p, .int .i64 q]) (by simp [results, Try.results16, go_sem]) rfl ⟨rfl, ?_⟩
  go_grown
def TakeNo (t : ByteArray) (p r : Int) (w : World) (e : Ending) (w' : World) : Prop := e = .returned (.tuple #[.string { data := #[] }, .agg #[.string t, .int .i64 p, .int .i64 r]]) ∧ Below w.heap.size w w'
theorem take_bad (t : ByteArray) (p q n : Int) (b : Bool) (w : World) (h : q ≠ 0) : Calls Try.prog 33 #[.agg #[.string t, .int .i64 p, .int .i64 q], .int .i64 n, .bool b] w (TakeNo t p q w) := by
  have hne : (q != 0) = true := by simp only [bne_iff_ne, ne_eq]; exact h
  clear h
  go_enter Try.func33, Try.ntmps33
  go_wp2_with fail
  go_region
  go_wp2
  refine bodyPost_ret (v := .tuple #[.string { data := #[] }, .agg #[.string t, .int .i64 p, .int .i64 q]]) (by simp [results, Try.results33, go_sem]) rfl ⟨rfl, ?_⟩
  go_grown
/-- Two blocks of three cells that the call laid read on behind a callee that only makes memory. -/
theorem kept2 {w w1 : World} {A B C D E F : Value} {T U : TypeId} (hb : Below ((w.alloc (.cells #[A, B, C] T)).alloc (.cells #[D, E, F] U)).heap.size ((w.alloc (.cells #[A, B, C] T)).alloc (.cells #[D, E, F] U)) w1) :
    w.heap.size + 2 ≤ w1.heap.size ∧ Below w.heap.size w w1 ∧
    w1.cell? ⟨w.heap.size, 0, none⟩ = some A ∧ w1.cell? ⟨w.heap.size, 1, none⟩ = some B ∧ w1.cell? ⟨w.heap.size, 2, none⟩ = some C ∧
    w1.cell? ⟨w.heap.size + 1, 0, none⟩ = some D ∧ w1.cell? ⟨w.heap.size + 1, 1, none⟩ = some E ∧ w1.cell? ⟨w.heap.size + 1, 2, none⟩ = some F ∧
    (∀ o, w1.frozen? ⟨w.heap.size, o, none⟩ = false) ∧ (∀ o, w1.frozen? ⟨w.heap.size + 1, o, none⟩ = false) := by
  have hz : ((w.alloc (.cells #[A, B, C] T)).alloc (.cells #[D, E, F] U)).heap.size = w.heap.size + 2 := by rw [World.size_alloc, World.size_alloc]
  have hs := hb.size
  rw [hz] at hs hb
  refine ⟨hs, Below.trans (by go_grown) (hb.mono (by omega)), ?_, ?_, ?_, ?_, ?_, ?_, ?_, ?_⟩
  · exact ((bcell hb).1 _ _ (by omega)).trans (by simp [go_sem])
  · exact ((bcell hb).1 _ _ (by omega)).trans (by simp [go_sem])
  · exact ((bcell hb).1 _ _ (by omega)).trans (by simp [go_sem])
  · exact ((bcell hb).1 _ _ (by omega)).trans (by simp [go_sem])
  · exact ((bcell hb).1 _ _ (by omega)).trans (by simp [go_sem])
  · exact ((bcell hb).1 _ _ (by omega)).trans (by simp [go_sem])
  · exact fun o => ((bcell hb).2 _ _ (by omega)).trans (by simp [go_sem])
  · exact fun o => ((bcell hb).2 _ _ (by omega)).trans (by simp [go_sem])
theorem take_place (t : ByteArray) (p n : Int) (b : Bool) (w : World) (h : p < 0 ∨ t.size < p) : Calls Try.prog 33 #[.agg #[.string t, .int .i64 p, .int .i64 0], .int .i64 n, .bool b] w (TakeNo t p 2 w) := by
  have H := Lib.hid h; clear h
  go_enter Try.func33, Try.ntmps33
  go_wp2_with fail
  refine (may_no t p 0 _ H.out).mono ?_
  rintro e w1 ⟨rfl, hb⟩
  obtain ⟨hz, hbw, c0, c1, c2, c3, c4, c5, f0, f1⟩ := kept2 hb
  clear hb
  go_wp2_with fail
  go_region
  go_wp2
  refine bodyPost_ret (v := .tuple #[.string { data := #[] }, .agg #[.string t, .int .i64 p, .int .i64 2]]) (by simp [results, Try.results33, go_sem, c3, c4, c5]) rfl ⟨rfl, ?_⟩
  go_grown
theorem take_wrong (t : ByteArray) (p n : Int) (w : World) (h0 : 0 ≤ p) (h1 : p ≤ t.size) : Calls Try.prog 33 #[.agg #[.string t, .int .i64 p, .int .i64 0], .int .i64 n, .bool true] w (TakeNo t p 2 w) := by
  go_enter Try.func33, Try.ntmps33
  go_wp2_with fail
  refine (may_yes t p 0 _ h0 h1).mono ?_
  rintro e w1 ⟨rfl, hb⟩
  obtain ⟨hz, hbw, c0, c1, c2, c3, c4, c5, f0, f1⟩ := kept2 hb
  clear hb
  go_wp2_with fail
  go_region
  go_wp2
  refine bodyPost_ret (v := .tuple #[.string { data := #[] }, .agg #[.string t, .int .i64 p, .int .i64 2]]) (by simp [results, Try.results33, go_sem, c3, c4, c5]) rfl ⟨rfl, ?_⟩
  go_grown
theorem take_short (t : ByteArray) (p n : Int) (w : World) (h0 : 0 ≤ p) (h1 : p ≤ t.size) (hm : t.size ≤ maxLen) (h : (t.size : Int) - p < n) : Calls Try.prog 33 #[.agg #[.string t, .int .i64 p, .int .i64 0], .int .i64 n, .bool false] w (TakeNo t p 3 w) := by
  unfold maxLen at hm
  go_enter Try.func33, Try.ntmps33
  go_wp2_with fail
  refine (may_yes t p 0 _ h0 h1).mono ?_
  rintro e w1 ⟨rfl, hb⟩
  obtain ⟨hz, hbw, c0, c1, c2, c3, c4, c5, f0, f1⟩ := kept2 hb
  clear hb
  go_wp2_with fail
  go_region
  go_wp2
  refine bodyPost_ret (v := .tuple #[.string { data := #[] }, .agg #[.string t, .int .i64 p, .int .i64 3]]) (by simp [results, Try.results33, go_sem, c3, c4, c5]) rfl ⟨rfl, ?_⟩
  go_grown
theorem take_yes (t : ByteArray) (p n : Int) (w : World) (h0 : 0 ≤ p) (n0 : 0 ≤ n) (hm : t.size ≤ maxLen) (h : p + n ≤ t.size) : Calls Try.prog 33 #[.agg #[.string t, .int .i64 p, .int .i64 0], .int .i64 n, .bool false] w
    fun e w' => e = .returned (.tuple #[.string (t.extract p.toNat (p + n).toNat), .agg #[.string t, .int .i64 (p + n), .int .i64 0]]) ∧ Below w.heap.size w w' := by
  unfold maxLen at hm
  have h1 : p ≤ t.size := by omega
  go_enter Try.func33, Try.ntmps33
  go_wp2_with fail
  refine (may_yes t p 0 _ h0 h1).mono ?_
  rintro e w1 ⟨rfl, hb⟩
  obtain ⟨hz, hbw, c0, c1, c2, c3, c4, c5, f0, f1⟩ := kept2 hb
  clear hb
  have hn : ¬ ((t.size : Int) - p < n) := by omega
  go_wp2_with fail
  go_region
  all_goals
    go_wp2
    refine bodyPost_ret (v := .tuple #[.string (t.extract p.toNat (p + n).toNat), .agg #[.string t, .int .i64 (p + n), .int .i64 0]]) (by simp [results, Try.results33, go_sem, c3, c4, c5]) rfl ⟨rfl, ?_⟩
    go_grown
end Go.Proofs.Ytgdekiimjlpmfaa
