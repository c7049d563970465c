/- Contracts of little's Bytes, Rest and End, for every scan and every number. -/
import Derived.Test.YtodjdeilaimjaaaE
namespace Go.Proofs.Ytodjdeilaimjaaa
open Go.RowKit
set_option linter.unusedVariables false
theorem ret_str {a b : ByteArray} (h : a = b) : Ending.returned (.string a) = .returned (.string b) := by rw [h]
theorem bytes_no (t : ByteArray) (p q n : Int) (w : World) (h : bytesBad t p q n ≠ 0) : Calls Try.prog 32 #[.agg #[.string t, .int .i64 p, .int .i64 q], .int .i64 n] w
    fun e w' => e = .returned (.tuple #[.string { data := #[] }, .agg #[.string t, .int .i64 p, .int .i64 (bytesBad t p q n)]]) ∧ Below w.heap.size w w' := by
  have hne : (bytesBad t p q n != 0) = true := by simp only [bne_iff_ne, ne_eq]; exact h
  clear h
  go_enter Try.func32, Try.ntmps32
  go_wp2_with fail
  refine (first_bytes _ _ (by simp) t p q n).mono ?_
  rintro e w1 ⟨rfl, hb⟩
  have hz : w.heap.size + 4 ≤ w1.heap.size := by have := hb.size; simp at this; omega
  have hbw : Below w.heap.size w w1 := Below.trans (by go_grown) (hb.mono (by omega))
  have c0 : w1.cell? ⟨w.heap.size, 0, none⟩ = some (.string t) := ((bcell hb).1 _ _ (by omega)).trans (by simp [go_sem])
  have c1 : w1.cell? ⟨w.heap.size, 1, none⟩ = some (.int .i64 p) := ((bcell hb).1 _ _ (by omega)).trans (by simp [go_sem])
  have c2 : w1.cell? ⟨w.heap.size, 2, none⟩ = some (.int .i64 q) := ((bcell hb).1 _ _ (by omega)).trans (by simp [go_sem])
  have c3 : w1.cell? ⟨w.heap.size + 1, 0, none⟩ = some (.string { data := #[] }) := ((bcell hb).1 _ _ (by omega)).trans (by simp [go_sem])
  have c4 : w1.cell? ⟨w.heap.size + 1, 1, none⟩ = some (.int .i64 0) := ((bcell hb).1 _ _ (by omega)).trans (by simp [go_sem])
  have c5 : w1.cell? ⟨w.heap.size + 1, 2, none⟩ = some (.int .i64 0) := ((bcell hb).1 _ _ (by omega)).trans (by simp [go_sem])
  have f0 : ∀ o, w1.frozen? ⟨w.heap.size, o, none⟩ = false := fun o => ((bcell hb).2 _ _ (by omega)).trans (by simp [go_sem])
  have f1 : ∀ o, w1.frozen? ⟨w.heap.size + 1, o, none⟩ = false := fun o => ((bcell hb).2 _ _ (by omega)).trans (by simp [go_sem])
  clear hb
  obtain ⟨r, hr⟩ : ∃ r, bytesBad t p q n = r := ⟨_, rfl⟩
  have HR := Lib.hid hr
  rw [hr] at hne ⊢
  clear hr
  go_wp2_with fail
  go_region
  go_wp2
  refine bodyPost_ret (v := .tuple #[.string { data := #[] }, .agg #[.string t, .int .i64 p, .int .i64 r]]) (by simp [results, Try.results32, go_sem, c3, c4, c5]) rfl ⟨by rw [HR.out], ?_⟩
  go_grown
theorem bytes_yes (t : ByteArray) (p n : Int) (w : World) (hm : t.size ≤ maxLen) (h : bytesBad t p 0 n = 0) (p0 : 0 ≤ p) (n0 : 0 ≤ n) (hp : p + n ≤ t.size) : Calls Try.prog 32 #[.agg #[.string t, .int .i64 p, .int .i64 0], .int .i64 n] w
    fun e w' => e = .returned (.tuple #[.string (t.extract p.toNat (p + n).toNat), .agg #[.string t, .int .i64 (p + n), .int .i64 0]]) ∧ Below w.heap.size w w' := by
  have H := Lib.hid h; clear h
  have HM := Lib.hid hm; clear hm
  go_enter Try.func32, Try.ntmps32
  go_wp2_with fail
  refine (first_bytes _ _ (by simp) t p 0 n).mono ?_
  rintro e w1 ⟨rfl, hb⟩
  have hz : w.heap.size + 4 ≤ w1.heap.size := by have := hb.size; simp at this; omega
  have hbw : Below w.heap.size w w1 := Below.trans (by go_grown) (hb.mono (by omega))
  have c0 : w1.cell? ⟨w.heap.size, 0, none⟩ = some (.string t) := ((bcell hb).1 _ _ (by omega)).trans (by simp [go_sem])
  have c1 : w1.cell? ⟨w.heap.size, 1, none⟩ = some (.int .i64 p) := ((bcell hb).1 _ _ (by omega)).trans (by simp [go_sem])
  have c2 : w1.cell? ⟨w.heap.size, 2, none⟩ = some (.int .i64 0) := ((bcell hb).1 _ _ (by omega)).trans (by simp [go_sem])
  have c3 : w1.cell? ⟨w.heap.size + 1, 0, none⟩ = some (.string { data := #[] }) := ((bcell hb).1 _ _ (by omega)).trans (by simp [go_sem])
  have c4 : w1.cell? ⟨w.heap.size + 1, 1, none⟩ = some (.int .i64 0) := ((bcell hb).1 _ _ (by omega)).trans (by simp [go_sem])
  have c5 : w1.cell? ⟨w.heap.size + 1, 2, none⟩ = some (.int .i64 0) := ((bcell hb).1 _ _ (by omega)).trans (by simp [go_sem])
  have f0 : ∀ o, w1.frozen? ⟨w.heap.size, o, none⟩ = false := fun o => ((bcell hb).2 _ _ (by omega)).trans (by simp [go_sem])
  have f1 : ∀ o, w1.frozen? ⟨w.heap.size + 1, o, none⟩ = false := fun o => ((bcell hb).2 _ _ (by omega)).trans (by simp [go_sem])
  clear hb
  rw [H.out]
  go_wp2_with fail
  refine (step_any t p 0 n _ (by omega) (by omega) (by omega) HM.out).mono ?_
  rintro e w2 ⟨rfl, hb⟩
  have hz2 : w1.heap.size ≤ w2.heap.size := by have := hb.size; rw [World.size_setCell] at this; exact this
  have hbw2 : Below w.heap.size w w2 := Below.trans (by go_grown) (hb.mono (by rw [World.size_setCell]; omega))
  have d3 : w2.cell? ⟨w.heap.size + 1, 0, none⟩ = some (.string { data := #[] }) := ((bcell hb).1 _ _ (by rw [World.size_setCell]; omega)).trans (by simp [go_sem, c3])
  have d4 : w2.cell? ⟨w.heap.size + 1, 1, none⟩ = some (.int .i64 0) := ((bcell hb).1 _ _ (by rw [World.size_setCell]; omega)).trans (by simp [go_sem, c4])
  have d5 : w2.cell? ⟨w.heap.size + 1, 2, none⟩ = some (.int .i64 0) := ((bcell hb).1 _ _ (by rw [World.size_setCell]; omega)).trans (by simp [go_sem, c5])
  have g1 : ∀ o, w2.frozen? ⟨w.heap.size + 1, o, none⟩ = false := fun o => ((bcell hb).2 _ _ (by rw [World.size_setCell]; omega)).trans (by simp [go_sem, f1])
  clear hb c0 c1 c2 c3 c4 c5 f0 f1 hbw
  obtain ⟨x, he⟩ : ∃ x, t.extract p.toNat (p + n).toNat = x := ⟨_, rfl⟩
  rw [he]
  have HE := Lib.hid he; clear he
  go_wp2_with fail
  refine bodyPost_ret (v := .tuple #[.string x, .agg #[.string t, .int .i64 (p + n), .int .i64 0]]) (by simp [results, Try.results32, go_sem, d3, d4, d5]) rfl ⟨by rw [HE.out], ?_⟩
  go_grown
end Go.Proofs.Ytodjdeilaimjaaa
