/- Contracts of varint's placed and first: what is wrong with a scan ahead of any number, and what a text begins with. -/
import Derived.Test.YtpjgemjceikhfaaW
namespace Go.Proofs.Ytpjgemjceikhfaa
open Go.RowKit
set_option linter.unusedVariables false
theorem bytesBad0 (t : ByteArray) (p q : Int) (hm : t.size ≤ maxLen) : bytesBad t p q 0 = restBad t p q := by
  unfold bytesBad restBad
  simp only [firstOf]
  by_cases h1 : q = 0
  · rw [if_pos h1, if_pos h1]
    by_cases h2 : placedV t p = 0
    · have h3 : 0 ≤ p ∧ p ≤ t.size := by
        unfold placedV at h2
        split at h2
        · assumption
        · cases h2
      have h4 : leftV t p 0 = 0 := by
        unfold leftV wrap64
        unfold maxLen at hm
        rw [if_neg (by omega)]
      rw [if_pos h2, if_pos h2, h4]
      simp [countedV]
    · rw [if_neg h2, if_neg h2]
  · rw [if_neg h1, if_neg h1]
theorem restBad_ok (t : ByteArray) (p q : Int) (h : restBad t p q = 0) : q = 0 ∧ 0 ≤ p ∧ p ≤ t.size := by
  unfold restBad at h
  simp only [firstOf] at h
  split at h
  · rename_i h1
    split at h
    · rename_i h2
      unfold placedV at h2
      split at h2
      · exact ⟨h1, by assumption⟩
      · cases h2
    · contradiction
  · contradiction
theorem vplaced_any (t : ByteArray) (p q : Int) (w : World) (hm : t.size ≤ maxLen) : Calls Try.prog 24 #[.agg #[.string t, .int .i64 p, .int .i64 q]] w
    fun e w' => e = .returned (.agg #[.string t, .int .i64 p, .int .i64 (restBad t p q)]) ∧ Below w.heap.size w w' := by
  have hb0 := bytesBad0 t p q hm
  obtain ⟨r, hr⟩ : ∃ r, restBad t p q = r := ⟨_, rfl⟩
  rw [hr] at hb0 ⊢
  by_cases h : r = 0
  · subst h
    obtain ⟨rfl, p0, p1⟩ := restBad_ok t p q hr
    have HM := Lib.hid hm; clear hm hr
    have H0 := Lib.hid hb0; clear hb0
    go_enter Try.func24, Try.ntmps24
    go_wp2_with fail
    refine (bytes_yes t p 0 _ HM.out H0.out p0 (by omega) (by omega)).mono ?_
    rintro e w1 ⟨rfl, hb⟩
    have hz : w.heap.size + 2 ≤ w1.heap.size := by have := hb.size; simp at this; omega
    have hbw : Below w.heap.size w w1 := Below.trans (by go_grown) (hb.mono (by simp; omega))
    have f0 : ∀ o, w1.frozen? ⟨w.heap.size, o, none⟩ = false := fun o => ((bcell hb).2 _ _ (by simp; omega)).trans (by simp [go_sem])
    have f1 : ∀ o, w1.frozen? ⟨w.heap.size + 1, o, none⟩ = false := fun o => ((bcell hb).2 _ _ (by simp)).trans (by simp [go_sem])
    have c0 : w1.cell? ⟨w.heap.size, 0, none⟩ = some (.string t) := ((bcell hb).1 _ _ (by simp; omega)).trans (by simp [go_sem])
    have c1 : w1.cell? ⟨w.heap.size, 1, none⟩ = some (.int .i64 p) := ((bcell hb).1 _ _ (by simp; omega)).trans (by simp [go_sem])
    have c2 : w1.cell? ⟨w.heap.size, 2, none⟩ = some (.int .i64 0) := ((bcell hb).1 _ _ (by simp; omega)).trans (by simp [go_sem])
    have c3 : w1.cell? ⟨w.heap.size + 1, 0, none⟩ = some (.string { data := #[] }) := ((bcell hb).1 _ _ (by simp)).trans (by simp [go_sem])
    have c4 : w1.cell? ⟨w.heap.size + 1, 1, none⟩ = some (.int .i64 0) := ((bcell hb).1 _ _ (by simp)).trans (by simp [go_sem])
    have c5 : w1.cell? ⟨w.heap.size + 1, 2, none⟩ = some (.int .i64 0) := ((bcell hb).1 _ _ (by simp)).trans (by simp [go_sem])
    clear hb
    have hp : p + 0 = p := by omega
    rw [hp]
    go_wp2_with fail
    refine bodyPost_ret (v := .agg #[.string t, .int .i64 p, .int .i64 0]) (by simp [results, Try.results24, go_sem, c3, c4, c5]) rfl ⟨rfl, ?_⟩
    go_grown
  · have hb1 := bytes_no t p q 0
    rw [hb0] at hb1
    have HB := Lib.hid (fun w => hb1 w h); clear hb1 hb0 hm h hr
    go_enter Try.func24, Try.ntmps24
    go_wp2_with fail
    refine (HB.out _).mono ?_
    rintro e w1 ⟨rfl, hb⟩
    have hz : w.heap.size + 2 ≤ w1.heap.size := by have := hb.size; simp at this; omega
    have hbw : Below w.heap.size w w1 := Below.trans (by go_grown) (hb.mono (by simp; omega))
    have f0 : ∀ o, w1.frozen? ⟨w.heap.size, o, none⟩ = false := fun o => ((bcell hb).2 _ _ (by simp; omega)).trans (by simp [go_sem])
    have f1 : ∀ o, w1.frozen? ⟨w.heap.size + 1, o, none⟩ = false := fun o => ((bcell hb).2 _ _ (by simp)).trans (by simp [go_sem])
    have c0 : w1.cell? ⟨w.heap.size, 0, none⟩ = some (.string t) := ((bcell hb).1 _ _ (by simp; omega)).trans (by simp [go_sem])
    have c1 : w1.cell? ⟨w.heap.size, 1, none⟩ = some (.int .i64 p) := ((bcell hb).1 _ _ (by simp; omega)).trans (by simp [go_sem])
    have c2 : w1.cell? ⟨w.heap.size, 2, none⟩ = some (.int .i64 q) := ((bcell hb).1 _ _ (by simp; omega)).trans (by simp [go_sem])
    have c3 : w1.cell? ⟨w.heap.size + 1, 0, none⟩ = some (.string { data := #[] }) := ((bcell hb).1 _ _ (by simp)).trans (by simp [go_sem])
    have c4 : w1.cell? ⟨w.heap.size + 1, 1, none⟩ = some (.int .i64 0) := ((bcell hb).1 _ _ (by simp)).trans (by simp [go_sem])
    have c5 : w1.cell? ⟨w.heap.size + 1, 2, none⟩ = some (.int .i64 0) := ((bcell hb).1 _ _ (by simp)).trans (by simp [go_sem])
    clear hb
    go_wp2_with fail
    refine bodyPost_ret (v := .agg #[.string t, .int .i64 p, .int .i64 r]) (by simp [results, Try.results24, go_sem, c3, c4, c5]) rfl ⟨rfl, ?_⟩
    go_grown
end Go.Proofs.Ytpjgemjceikhfaa
