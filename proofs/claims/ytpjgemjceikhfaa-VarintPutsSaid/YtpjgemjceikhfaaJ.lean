/- The contract of varint's Get, for every scan: the number and the scan behind it, or 0 and the scan with what is wrong. -/
import Derived.Test.YtpjgemjceikhfaaI
namespace Go.Proofs.Ytpjgemjceikhfaa
open Go.RowKit
set_option linter.unusedVariables false
/-- What is left of a text from p on. -/
def rst (t : ByteArray) (p : Int) : List UInt8 := t.data.toList.drop p.toNat
def getB (t : ByteArray) (p q : Int) : Int := if restBad t p q = 0 then errV (rst t p) else restBad t p q
def getX (t : ByteArray) (p q : Int) : Int := if getB t p q = 0 then valV (rst t p) else 0
def getP (t : ByteArray) (p q : Int) : Int := if getB t p q = 0 then p + cntV (rst t p) else p
theorem ext_rst (t : ByteArray) (p : Int) : (t.extract p.toNat t.size).data.toList = rst t p := by
  unfold rst
  rw [ByteArray.data_extract, Array.toList_extract, List.extract_eq_take_drop, List.take_of_length_le]
  simp
theorem rst_len (t : ByteArray) (p : Int) (p0 : 0 ≤ p) (p1 : p ≤ t.size) : ((rst t p).length : Int) = t.size - p := by
  unfold rst
  rw [List.length_drop]
  have : t.data.toList.length = t.size := by simp
  omega
theorem cnt_bd (t : ByteArray) (p : Int) (p0 : 0 ≤ p) (p1 : p ≤ t.size) (h : errV (rst t p) = 0) : 1 ≤ cntV (rst t p) ∧ p + cntV (rst t p) ≤ t.size ∧ cntV (rst t p) ≤ 10 := by
  have h1 := errV_ok _ h
  have h2 := rst_len t p p0 p1
  unfold cntV
  omega
/-- The results of Get lie where the call has made them. -/
def GetEnd (t : ByteArray) (x p q : Int) (w : World) (e : Ending) (w' : World) : Prop := e = .returned (.tuple #[.int .u64 x, .agg #[.string t, .int .i64 p, .int .i64 q]]) ∧ Below w.heap.size w w'
theorem get_1 (t : ByteArray) (p q r : Int) (w : World) (hm : t.size ≤ maxLen) (hr : restBad t p q = r) (h : r ≠ 0) : Calls Try.prog 14 #[.agg #[.string t, .int .i64 p, .int .i64 q]] w (GetEnd t 0 p r w) := by
  have HV := Lib.hid (fun W => hr ▸ vplaced_any t p q W hm)
  have hne : (r != 0) = true := by simp only [bne_iff_ne, ne_eq]; exact h
  clear hr h hm
  go_enter Try.func14, Try.ntmps14
  go_wp2_with fail
  refine (HV.out _).mono ?_
  rintro e w1 ⟨rfl, hb⟩
  have hz : w.heap.size + 2 ≤ w1.heap.size := by have := hb.size; simp at this; omega
  have hbw : Below w.heap.size w w1 := Below.trans (by go_grown) (hb.mono (by simp; omega))
  have f0 : ∀ o, w1.frozen? ⟨w.heap.size, o, none⟩ = false := fun o => ((bcell hb).2 _ _ (by simp; omega)).trans (by simp [go_sem])
  have f1 : ∀ o, w1.frozen? ⟨w.heap.size + 1, o, none⟩ = false := fun o => ((bcell hb).2 _ _ (by simp)).trans (by simp [go_sem])
  have c0 : w1.cell? ⟨w.heap.size, 0, none⟩ = some (.string t) := ((bcell hb).1 _ _ (by simp; omega)).trans (by simp [go_sem])
  have c1 : w1.cell? ⟨w.heap.size, 1, none⟩ = some (.int .i64 p) := ((bcell hb).1 _ _ (by simp; omega)).trans (by simp [go_sem])
  have c2 : w1.cell? ⟨w.heap.size, 2, none⟩ = some (.int .i64 q) := ((bcell hb).1 _ _ (by simp; omega)).trans (by simp [go_sem])
  have c3 : w1.cell? ⟨w.heap.size + 1, 0, none⟩ = some (.string { data := #[] }) := ((bcell hb).1 _ _ (by simp)).trans (by simp [go_sem])
  have c4 : w1.cell? ⟨w.heap.size + 1, 1, none⟩ = some (.int .i64 0) := ((bcell hb).1 _ _ (by simp)).trans (by simp [go_sem])
  have c5 : w1.cell? ⟨w.heap.size + 1, 2, none⟩ = some (.int .i64 0) := ((bcell hb).1 _ _ (by simp)).trans (by simp [go_sem])
  clear hb HV
  go_wp2_with fail
  go_region
  all_goals
    go_wp2
    refine bodyPost_ret (v := .tuple #[.int .u64 0, .agg #[.string t, .int .i64 p, .int .i64 r]]) (by simp [results, Try.results14, go_sem, c3, c4, c5]) rfl ⟨rfl, ?_⟩
    go_grown
theorem get_2 (t : ByteArray) (p q r : Int) (w : World) (hm : t.size ≤ maxLen) (h0 : restBad t p q = 0) (hr : errV (rst t p) = r) (h : r ≠ 0) : Calls Try.prog 14 #[.agg #[.string t, .int .i64 p, .int .i64 q]] w (GetEnd t 0 p r w) := by
  have HV := Lib.hid (fun W => h0 ▸ vplaced_any t p q W hm)
  obtain ⟨rfl, p0, p1⟩ := restBad_ok t p q h0
  have hne : (r != 0) = true := by simp only [bne_iff_ne, ne_eq]; exact h
  have hzz : (t.extract p.toNat t.size).size ≤ maxLen := by simp; omega
  have HF : Hid (∀ W, Calls Try.prog 25 #[.string (t.extract p.toNat t.size)] W fun e w' => e = .returned (.tuple #[.int .u64 0, .int .i64 0, .int .i64 r]) ∧ W = w') := by
    apply Lib.hid
    intro W
    have := vfirst_any (t.extract p.toNat t.size) W hzz
    rw [ext_rst, hr, (fst_no _ r hr h).1, (fst_no _ r hr h).2] at this
    exact this
  have HM := Lib.hid hm
  have H0 := Lib.hid h0
  clear hr h hm hzz h0
  go_enter Try.func14, Try.ntmps14
  go_wp2_with fail
  refine (HV.out _).mono ?_
  rintro e w1 ⟨rfl, hb⟩
  have hz : w.heap.size + 2 ≤ w1.heap.size := by have := hb.size; simp at this; omega
  have hbw : Below w.heap.size w w1 := Below.trans (by go_grown) (hb.mono (by simp; omega))
  have f0 : ∀ o, w1.frozen? ⟨w.heap.size, o, none⟩ = false := fun o => ((bcell hb).2 _ _ (by simp; omega)).trans (by simp [go_sem])
  have f1 : ∀ o, w1.frozen? ⟨w.heap.size + 1, o, none⟩ = false := fun o => ((bcell hb).2 _ _ (by simp)).trans (by simp [go_sem])
  have c0 : w1.cell? ⟨w.heap.size, 0, none⟩ = some (.string t) := ((bcell hb).1 _ _ (by simp; omega)).trans (by simp [go_sem])
  have c1 : w1.cell? ⟨w.heap.size, 1, none⟩ = some (.int .i64 p) := ((bcell hb).1 _ _ (by simp; omega)).trans (by simp [go_sem])
  have c2 : w1.cell? ⟨w.heap.size, 2, none⟩ = some (.int .i64 0) := ((bcell hb).1 _ _ (by simp; omega)).trans (by simp [go_sem])
  have c3 : w1.cell? ⟨w.heap.size + 1, 0, none⟩ = some (.string { data := #[] }) := ((bcell hb).1 _ _ (by simp)).trans (by simp [go_sem])
  have c4 : w1.cell? ⟨w.heap.size + 1, 1, none⟩ = some (.int .i64 0) := ((bcell hb).1 _ _ (by simp)).trans (by simp [go_sem])
  have c5 : w1.cell? ⟨w.heap.size + 1, 2, none⟩ = some (.int .i64 0) := ((bcell hb).1 _ _ (by simp)).trans (by simp [go_sem])
  clear hb HV
  go_wp2_with fail
  refine (rest_yes t p _ HM.out H0.out p0 p1).mono ?_
  rintro e w2 ⟨rfl, hb⟩
  have hz2 : w1.heap.size ≤ w2.heap.size := by have := hb.size; simp only [World.size_setCell] at this; exact this
  have hbw2 : Below w.heap.size w w2 := Below.trans (by go_grown) (hb.mono (by simp only [World.size_setCell]; omega))
  have g0 : ∀ o, w2.frozen? ⟨w.heap.size, o, none⟩ = false := fun o => ((bcell hb).2 _ _ (by simp only [World.size_setCell]; omega)).trans (by simp [go_sem, f0])
  have g1 : ∀ o, w2.frozen? ⟨w.heap.size + 1, o, none⟩ = false := fun o => ((bcell hb).2 _ _ (by simp only [World.size_setCell]; omega)).trans (by simp [go_sem, f1])
  have d0 : w2.cell? ⟨w.heap.size, 0, none⟩ = some (.string t) := ((bcell hb).1 _ _ (by simp only [World.size_setCell]; omega)).trans (by simp [go_sem, c0])
  have d1 : w2.cell? ⟨w.heap.size, 1, none⟩ = some (.int .i64 p) := ((bcell hb).1 _ _ (by simp only [World.size_setCell]; omega)).trans (by simp [go_sem, c1])
  have d2 : w2.cell? ⟨w.heap.size, 2, none⟩ = some (.int .i64 0) := ((bcell hb).1 _ _ (by simp only [World.size_setCell]; omega)).trans (by simp [go_sem, c2])
  have d3 : w2.cell? ⟨w.heap.size + 1, 0, none⟩ = some (.string { data := #[] }) := ((bcell hb).1 _ _ (by simp only [World.size_setCell]; omega)).trans (by simp [go_sem, c3])
  have d4 : w2.cell? ⟨w.heap.size + 1, 1, none⟩ = some (.int .i64 0) := ((bcell hb).1 _ _ (by simp only [World.size_setCell]; omega)).trans (by simp [go_sem, c4])
  have d5 : w2.cell? ⟨w.heap.size + 1, 2, none⟩ = some (.int .i64 0) := ((bcell hb).1 _ _ (by simp only [World.size_setCell]; omega)).trans (by simp [go_sem, c5])
  clear hb c0 c1 c2 c3 c4 c5 f0 f1 hbw
  go_wp2_with fail
  refine (HF.out _).mono ?_
  rintro e w3 ⟨rfl, rfl⟩
  clear HF
  go_wp2_with fail
  go_region
  all_goals
    go_wp2
    refine bodyPost_ret (v := .tuple #[.int .u64 0, .agg #[.string t, .int .i64 p, .int .i64 r]]) (by simp [results, Try.results14, go_sem, d3, d4, d5]) rfl ⟨rfl, ?_⟩
    go_grown
theorem get_3 (t : ByteArray) (p q x n : Int) (w : World) (hm : t.size ≤ maxLen) (h0 : restBad t p q = 0) (hr : errV (rst t p) = 0) (hx : valV (rst t p) = x) (hn : cntV (rst t p) = n) : Calls Try.prog 14 #[.agg #[.string t, .int .i64 p, .int .i64 q]] w (GetEnd t x (p + n) 0 w) := by
  have HV := Lib.hid (fun W => h0 ▸ vplaced_any t p q W hm)
  obtain ⟨rfl, p0, p1⟩ := restBad_ok t p q h0
  have hcb := cnt_bd t p p0 p1 hr
  rw [hn] at hcb
  have hzz : (t.extract p.toNat t.size).size ≤ maxLen := by simp; omega
  have HF : Hid (∀ W, Calls Try.prog 25 #[.string (t.extract p.toNat t.size)] W fun e w' => e = .returned (.tuple #[.int .u64 x, .int .i64 n, .int .i64 0]) ∧ W = w') := by
    apply Lib.hid
    intro W
    have := vfirst_any (t.extract p.toNat t.size) W hzz
    rw [ext_rst, hr, (fst_ok _ hr).1, (fst_ok _ hr).2, hx, hn] at this
    exact this
  have HM := Lib.hid hm
  have H0 := Lib.hid h0
  have hm63 := hm
  unfold maxLen at hm63
  clear hr hm hzz h0 hx hn
  obtain ⟨n0, n1, n2⟩ := hcb
  go_enter Try.func14, Try.ntmps14
  go_wp2_with fail
  refine (HV.out _).mono ?_
  rintro e w1 ⟨rfl, hb⟩
  have hz : w.heap.size + 2 ≤ w1.heap.size := by have := hb.size; simp at this; omega
  have hbw : Below w.heap.size w w1 := Below.trans (by go_grown) (hb.mono (by simp; omega))
  have f0 : ∀ o, w1.frozen? ⟨w.heap.size, o, none⟩ = false := fun o => ((bcell hb).2 _ _ (by simp; omega)).trans (by simp [go_sem])
  have f1 : ∀ o, w1.frozen? ⟨w.heap.size + 1, o, none⟩ = false := fun o => ((bcell hb).2 _ _ (by simp)).trans (by simp [go_sem])
  have c0 : w1.cell? ⟨w.heap.size, 0, none⟩ = some (.string t) := ((bcell hb).1 _ _ (by simp; omega)).trans (by simp [go_sem])
  have c1 : w1.cell? ⟨w.heap.size, 1, none⟩ = some (.int .i64 p) := ((bcell hb).1 _ _ (by simp; omega)).trans (by simp [go_sem])
  have c2 : w1.cell? ⟨w.heap.size, 2, none⟩ = some (.int .i64 0) := ((bcell hb).1 _ _ (by simp; omega)).trans (by simp [go_sem])
  have c3 : w1.cell? ⟨w.heap.size + 1, 0, none⟩ = some (.string { data := #[] }) := ((bcell hb).1 _ _ (by simp)).trans (by simp [go_sem])
  have c4 : w1.cell? ⟨w.heap.size + 1, 1, none⟩ = some (.int .i64 0) := ((bcell hb).1 _ _ (by simp)).trans (by simp [go_sem])
  have c5 : w1.cell? ⟨w.heap.size + 1, 2, none⟩ = some (.int .i64 0) := ((bcell hb).1 _ _ (by simp)).trans (by simp [go_sem])
  clear hb HV
  go_wp2_with fail
  refine (rest_yes t p _ HM.out H0.out p0 p1).mono ?_
  rintro e w2 ⟨rfl, hb⟩
  have hz2 : w1.heap.size ≤ w2.heap.size := by have := hb.size; simp only [World.size_setCell] at this; exact this
  have hbw2 : Below w.heap.size w w2 := Below.trans (by go_grown) (hb.mono (by simp only [World.size_setCell]; omega))
  have g0 : ∀ o, w2.frozen? ⟨w.heap.size, o, none⟩ = false := fun o => ((bcell hb).2 _ _ (by simp only [World.size_setCell]; omega)).trans (by simp [go_sem, f0])
  have g1 : ∀ o, w2.frozen? ⟨w.heap.size + 1, o, none⟩ = false := fun o => ((bcell hb).2 _ _ (by simp only [World.size_setCell]; omega)).trans (by simp [go_sem, f1])
  have d0 : w2.cell? ⟨w.heap.size, 0, none⟩ = some (.string t) := ((bcell hb).1 _ _ (by simp only [World.size_setCell]; omega)).trans (by simp [go_sem, c0])
  have d1 : w2.cell? ⟨w.heap.size, 1, none⟩ = some (.int .i64 p) := ((bcell hb).1 _ _ (by simp only [World.size_setCell]; omega)).trans (by simp [go_sem, c1])
  have d2 : w2.cell? ⟨w.heap.size, 2, none⟩ = some (.int .i64 0) := ((bcell hb).1 _ _ (by simp only [World.size_setCell]; omega)).trans (by simp [go_sem, c2])
  have d3 : w2.cell? ⟨w.heap.size + 1, 0, none⟩ = some (.string { data := #[] }) := ((bcell hb).1 _ _ (by simp only [World.size_setCell]; omega)).trans (by simp [go_sem, c3])
  have d4 : w2.cell? ⟨w.heap.size + 1, 1, none⟩ = some (.int .i64 0) := ((bcell hb).1 _ _ (by simp only [World.size_setCell]; omega)).trans (by simp [go_sem, c4])
  have d5 : w2.cell? ⟨w.heap.size + 1, 2, none⟩ = some (.int .i64 0) := ((bcell hb).1 _ _ (by simp only [World.size_setCell]; omega)).trans (by simp [go_sem, c5])
  clear hb c0 c1 c2 c3 c4 c5 f0 f1 hbw
  go_wp2_with fail
  refine (HF.out _).mono ?_
  rintro e w3 ⟨rfl, rfl⟩
  clear HF
  go_wp2_with fail
  go_region
  all_goals
    go_wp2
    refine bodyPost_ret (v := .tuple #[.int .u64 x, .agg #[.string t, .int .i64 (p + n), .int .i64 0]]) (by simp [results, Try.results14, go_sem, d3, d4, d5]) rfl ⟨rfl, ?_⟩
    go_grown
theorem get_any (t : ByteArray) (p q : Int) (w : World) (hm : t.size ≤ maxLen) : Calls Try.prog 14 #[.agg #[.string t, .int .i64 p, .int .i64 q]] w (GetEnd t (getX t p q) (getP t p q) (getB t p q) w) := by
  by_cases h0 : restBad t p q = 0
  · by_cases he : errV (rst t p) = 0
    · have hB : getB t p q = 0 := by unfold getB; rw [if_pos h0, he]
      have := get_3 t p q _ _ w hm h0 he rfl rfl
      unfold getX getP
      rw [hB, if_pos rfl, if_pos rfl]
      exact this
    · have hB : getB t p q = errV (rst t p) := by unfold getB; rw [if_pos h0]
      have := get_2 t p q _ w hm h0 rfl he
      unfold getX getP
      rw [hB, if_neg he, if_neg he]
      exact this
  · have hB : getB t p q = restBad t p q := by unfold getB; rw [if_neg h0]
    have := get_1 t p q _ w hm rfl h0
    unfold getX getP
    rw [hB, if_neg h0, if_neg h0]
    exact this
end Go.Proofs.Ytpjgemjceikhfaa
