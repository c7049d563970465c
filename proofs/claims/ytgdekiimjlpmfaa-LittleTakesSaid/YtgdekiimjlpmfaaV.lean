/- Contracts of the document's own Bytes, Rest and End in the program's own terms, for every scan and every number. -/
import Derived.Test.YtgdekiimjlpmfaaU
namespace Go.Proofs.Ytgdekiimjlpmfaa
open Go.RowKit
set_option linter.unusedVariables false
theorem rbytes_no (t : ByteArray) (p q n : Int) (w : World) (hm : t.size ≤ maxLen) (h : bytesBad t p q n ≠ 0) : Calls Try.prog 15 #[.agg #[.string t, .int .i64 p, .int .i64 q], .int .i64 n] w
    fun e w' => e = .returned (.tuple #[.string { data := #[] }, .agg #[.string t, .int .i64 p, .int .i64 (bytesBad t p q n)]]) ∧ Below w.heap.size w w' := by
  have key : ∀ b, (b = true ↔ n < 0) → ∀ W, Calls Try.prog 33 #[.agg #[.string t, .int .i64 p, .int .i64 q], .int .i64 n, .bool b] W (TakeNo t p (bytesBad t p q n) W) := by
    intro b hb W
    have := take_no t p q n b W hm (by rw [bytesBad_take t p q n b hb]; exact h)
    rwa [bytesBad_take t p q n b hb] at this
  have HK := Lib.hid key; clear key h hm
  rcases (by omega : n < 0 ∨ 0 ≤ n) with hn | hn
  all_goals
    go_enter Try.func15, Try.ntmps15
    go_wp2_with fail
    refine (HK.out _ (by simp; try omega) _).mono ?_
    rintro e w1 ⟨rfl, hb⟩
    obtain ⟨hz, hbw, c0, c1, c2, c3, c4, c5, f0, f1⟩ := kept2 hb
    clear hb
    obtain ⟨r, hr⟩ : ∃ r, bytesBad t p q n = r := ⟨_, rfl⟩
    have HR := Lib.hid hr
    rw [hr]
    clear hr
    go_wp2_with fail
    refine bodyPost_ret (v := .tuple #[.string { data := #[] }, .agg #[.string t, .int .i64 p, .int .i64 r]]) (by simp [results, Try.results15, go_sem, c3, c4, c5]) rfl ⟨by rw [HR.out], ?_⟩
    go_grown
theorem rbytes_yes (t : ByteArray) (p n : Int) (w : World) (hm : t.size ≤ maxLen) (p0 : 0 ≤ p) (n0 : 0 ≤ n) (hp : p + n ≤ t.size) : Calls Try.prog 15 #[.agg #[.string t, .int .i64 p, .int .i64 0], .int .i64 n] w
    fun e w' => e = .returned (.tuple #[.string (t.extract p.toNat (p + n).toNat), .agg #[.string t, .int .i64 (p + n), .int .i64 0]]) ∧ Below w.heap.size w w' := by
  have HK := Lib.hid (fun W => take_yes t p n W p0 (by omega) hm hp)
  have hw : decide (n < 0) = false := by simp; omega
  clear hm
  go_enter Try.func15, Try.ntmps15
  go_wp2_with fail
  refine (HK.out _).mono ?_
  rintro e w1 ⟨rfl, hb⟩
  obtain ⟨hz, hbw, c0, c1, c2, c3, c4, c5, f0, f1⟩ := kept2 hb
  clear hb
  obtain ⟨x, he⟩ : ∃ x, t.extract p.toNat (p + n).toNat = x := ⟨_, rfl⟩
  rw [he]
  have HE := Lib.hid he; clear he
  go_wp2_with fail
  refine bodyPost_ret (v := .tuple #[.string x, .agg #[.string t, .int .i64 (p + n), .int .i64 0]]) (by simp [results, Try.results15, go_sem, c3, c4, c5]) rfl ⟨by rw [HE.out], ?_⟩
  go_grown
/-- A block of three cells that the call laid reads on behind a callee that only makes memory. -/
theorem kept1 {w w1 : World} {A B C : Value} {T : TypeId} (hb : Below (w.alloc (.cells #[A, B, C] T)).heap.size (w.alloc (.cells #[A, B, C] T)) w1) :
    w.heap.size < w1.heap.size ∧ Below w.heap.size w w1 ∧
    w1.cell? ⟨w.heap.size, 0, none⟩ = some A ∧ w1.cell? ⟨w.heap.size, 1, none⟩ = some B ∧ w1.cell? ⟨w.heap.size, 2, none⟩ = some C := by
  have hz : (w.alloc (.cells #[A, B, C] T)).heap.size = w.heap.size + 1 := by rw [World.size_alloc]
  have hs := hb.size
  rw [hz] at hs hb
  refine ⟨by omega, Below.trans (by go_grown) (hb.mono (by omega)), ?_, ?_, ?_⟩
  · exact ((bcell hb).1 _ _ (by omega)).trans (by simp [go_sem])
  · exact ((bcell hb).1 _ _ (by omega)).trans (by simp [go_sem])
  · exact ((bcell hb).1 _ _ (by omega)).trans (by simp [go_sem])
theorem rrest_bad (t : ByteArray) (p q : Int) (w : World) (h : q ≠ 0) : Calls Try.prog 18 #[.agg #[.string t, .int .i64 p, .int .i64 q]] w
    fun e w' => e = .returned (.string { data := #[] }) ∧ Below w.heap.size w w' := by
  have hne : (q != 0) = true := by simp only [bne_iff_ne, ne_eq]; exact h
  clear h
  go_enter Try.func18, Try.ntmps18
  go_wp2_with fail
  go_ret
  exact ⟨rfl, by go_grown⟩
theorem rrest_place (t : ByteArray) (p : Int) (w : World) (h : p < 0 ∨ t.size < p) : Calls Try.prog 18 #[.agg #[.string t, .int .i64 p, .int .i64 0]] w
    fun e w' => e = .returned (.string { data := #[] }) ∧ Below w.heap.size w w' := by
  have H := Lib.hid h; clear h
  go_enter Try.func18, Try.ntmps18
  go_wp2_with fail
  refine (may_no t p 0 _ H.out).mono ?_
  rintro e w1 ⟨rfl, hb⟩
  obtain ⟨hz, hbw, c0, c1, c2⟩ := kept1 hb
  clear hb
  go_wp2_with fail
  go_ret
  exact ⟨rfl, hbw⟩
theorem rrest_yes (t : ByteArray) (p : Int) (w : World) (hm : t.size ≤ maxLen) (p0 : 0 ≤ p) (hp : p ≤ t.size) : Calls Try.prog 18 #[.agg #[.string t, .int .i64 p, .int .i64 0]] w
    fun e w' => e = .returned (.string (t.extract p.toNat t.size)) ∧ Below w.heap.size w w' := by
  unfold maxLen at hm
  go_enter Try.func18, Try.ntmps18
  go_wp2_with fail
  refine (may_yes t p 0 _ p0 hp).mono ?_
  rintro e w1 ⟨rfl, hb⟩
  obtain ⟨hz, hbw, c0, c1, c2⟩ := kept1 hb
  clear hb
  go_wp2_with fail
  go_ret
  exact ⟨rfl, hbw⟩
theorem rend_bad (t : ByteArray) (p q : Int) (w : World) (h : q ≠ 0) : Calls Try.prog 20 #[.agg #[.string t, .int .i64 p, .int .i64 q]] w
    fun e w' => e = .returned (.int .i64 q) ∧ Below w.heap.size w w' := by
  have hne : (q != 0) = true := by simp only [bne_iff_ne, ne_eq]; exact h
  clear h
  go_enter Try.func20, Try.ntmps20
  go_wp2_with fail
  go_ret
  exact ⟨rfl, by go_grown⟩
theorem rend_place (t : ByteArray) (p : Int) (w : World) (h : p < 0 ∨ t.size < p) : Calls Try.prog 20 #[.agg #[.string t, .int .i64 p, .int .i64 0]] w
    fun e w' => e = .returned (.int .i64 2) ∧ Below w.heap.size w w' := by
  have H := Lib.hid h; clear h
  go_enter Try.func20, Try.ntmps20
  go_wp2_with fail
  refine (may_no t p 0 _ H.out).mono ?_
  rintro e w1 ⟨rfl, hb⟩
  obtain ⟨hz, hbw, c0, c1, c2⟩ := kept1 hb
  clear hb
  go_wp2_with fail
  go_ret
  exact ⟨rfl, hbw⟩
theorem rend_ok (t : ByteArray) (p : Int) (w : World) (p0 : 0 ≤ p) (hp : p ≤ t.size) : Calls Try.prog 20 #[.agg #[.string t, .int .i64 p, .int .i64 0]] w
    fun e w' => e = .returned (.int .i64 (spentV t p)) ∧ Below w.heap.size w w' := by
  by_cases h : p < t.size
  · have H : Hid (spentV t p = 4) := if_pos h
    go_enter Try.func20, Try.ntmps20
    go_wp2_with fail
    refine (may_yes t p 0 _ p0 hp).mono ?_
    rintro e w1 ⟨rfl, hb⟩
    obtain ⟨hz, hbw, c0, c1, c2⟩ := kept1 hb
    clear hb
    go_wp2_with fail
    go_ret
    exact ⟨ret_int H.out.symm, hbw⟩
  · have H : Hid (spentV t p = 0) := if_neg h
    go_enter Try.func20, Try.ntmps20
    go_wp2_with fail
    refine (may_yes t p 0 _ p0 hp).mono ?_
    rintro e w1 ⟨rfl, hb⟩
    obtain ⟨hz, hbw, c0, c1, c2⟩ := kept1 hb
    clear hb
    go_wp2_with fail
    go_ret
    exact ⟨ret_int H.out.symm, hbw⟩
theorem rend_any (t : ByteArray) (p q : Int) (w : World) : Calls Try.prog 20 #[.agg #[.string t, .int .i64 p, .int .i64 q]] w
    fun e w' => e = .returned (.int .i64 (endV t p q)) ∧ Below w.heap.size w w' := by
  by_cases hq : q = 0
  · subst hq
    by_cases hp : 0 ≤ p ∧ p ≤ t.size
    · have e : endV t p 0 = spentV t p := by simp only [endV, firstOf, placed_zero t p hp.1 hp.2]; simp; intro h; exact h.symm
      rw [e]; exact rend_ok t p w hp.1 hp.2
    · have e : endV t p 0 = 2 := by
        have : placedV t p = 2 := if_neg hp
        simp [endV, firstOf, this]
      rw [e]; exact rend_place t p w (by omega)
  · have e : endV t p q = q := by simp [endV, firstOf, hq]
    rw [e]; exact rend_bad t p q w hq
end Go.Proofs.Ytgdekiimjlpmfaa
