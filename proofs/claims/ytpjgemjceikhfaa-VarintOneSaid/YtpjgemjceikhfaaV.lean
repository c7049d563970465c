/- The walk of VarintOne where the text has at most 100 bytes: it returns true, and what was there stays. -/
import Derived.Test.YtpjgemjceikhfaaY
import Derived.Deep.RegionHeld3
import Derived.Deep.DeepCutAuto
namespace Go.Proofs.Ytpjgemjceikhfaa
open Go.RowKit
set_option linter.unusedVariables false
theorem str_of (l : List UInt8) : (str (l.map (fun c => (c.toNat : Int)))).data.toList = l := by
  rw [str_list, List.map_map]
  conv => rhs; rw [← List.map_id l]
  apply List.map_congr_left
  intro c hc
  simp
theorem rst_zero (t : ByteArray) : rst t 0 = t.data.toList := by unfold rst; simp
theorem one_text (t : ByteArray) (h : errV (rst t 0) = 0) : str (enc (valV (rst t 0))) = t.extract 0 (cntV (rst t 0)).toNat := by
  apply ByteArray.ext
  apply Array.ext'
  rw [read_back _ h, str_of, rst_zero, ByteArray.data_extract, Array.toList_extract, List.extract_eq_take_drop]
  unfold cntV
  simp
theorem one_len (l : List UInt8) (h : errV l = 0) : ((enc (valV l)).length : Int) = cntV l := by
  have := (errV_ok l h).2.1
  rw [read_back l h, List.length_map, List.length_take]
  unfold cntV
  congr 1
  omega
theorem bytes_nil (w : World) : BytesAt w (.slice none 0 0) [] := ⟨none, 0, rfl, Nat.le_refl _, by simp, fun h => by simp at h⟩
theorem keep3 {w w' w1 : World} {a0 a1 a2 : Addr} {v0 v1 v2 : Value} (hb : Below w'.heap.size w' w1) (h : w'.cell? a0 = some v0 ∧ w'.cell? a1 = some v1 ∧ w'.cell? a2 = some v2 ∧ Below w.heap.size w w') :
    w1.cell? a0 = some v0 ∧ w1.cell? a1 = some v1 ∧ w1.cell? a2 = some v2 ∧ Below w.heap.size w w1 := by
  obtain ⟨h0, h1, h2, hu⟩ := h
  exact ⟨cell_later hb h0, cell_later hb h1, cell_later hb h2, hu.trans (hb.mono hu.size)⟩
theorem one_bad (t : ByteArray) (w : World) (hm : t.size ≤ maxLen) (h3 : t.size ≤ 100) (he : errV (rst t 0) ≠ 0) :
    Calls Try.prog 6 #[.string t] w fun e w' => e = .returned (.bool true) ∧ Below w.heap.size w w' := by
  have hd : decide (100 < (t.size : Int)) = false := by simp; omega
  have HG := Lib.hid (fun W => get_2 t 0 0 _ W hm (by unfold restBad placedV; rw [if_pos (by omega)]; rfl) rfl he)
  have hne : (errV (rst t 0) != 0) = true := by simp only [bne_iff_ne, ne_eq]; exact he
  generalize errV (rst t 0) = r at *
  clear he hm h3
  go_enter Try.func6, Try.ntmps6
  go_wp2_with fail
  refine (HG.out _).mono ?_
  rintro e w1 ⟨rfl, hb⟩
  clear HG
  go_wp2_with fail
  have hbw := hb.alloc hb.size (.cells #[.string t, .int .i64 0, .int .i64 r] 36)
  refine (awake_any _).mono ?_
  rintro e w2 ⟨rfl, hb2⟩
  have hb3 := hbw.trans (hb2.mono hbw.size)
  clear hb2 hbw hb
  go_wp2_with fail
  go_ret
  exact ⟨rfl, hb3⟩
set_option maxHeartbeats 1600000 in
theorem one_good (t : ByteArray) (w : World) (hm : t.size ≤ maxLen) (h3 : t.size ≤ 100) (he : errV (rst t 0) = 0) :
    Calls Try.prog 6 #[.string t] w fun e w' => e = .returned (.bool true) ∧ Below w.heap.size w w' := by
  have hd : decide (100 < (t.size : Int)) = false := by simp; omega
  have HG := fun W => get_3 t 0 0 _ _ W hm (by unfold restBad placedV; rw [if_pos (by omega)]; rfl) he rfl rfl
  have hcb := cnt_bd t 0 (by omega) (by omega) he
  have hvb := valV_bd _ he
  have hot := one_text t he
  have hol := one_len _ he
  generalize cntV (rst t 0) = c at *
  generalize valV (rst t 0) = x at *
  simp only [Int.zero_add] at HG hcb
  have HG := Lib.hid HG
  obtain ⟨c0, c1, c2⟩ := hcb
  have c3 : 0 ≤ c := by omega
  obtain ⟨x0, x1⟩ := hvb
  have HO := Lib.hid hot
  have HL := Lib.hid hol
  clear hot hol he
  go_enter Try.func6, Try.ntmps6
  go_wp2_with fail
  refine (HG.out _).mono ?_
  rintro e w1 ⟨rfl, hb⟩
  clear HG
  go_upto_region 4 with fail
  obtain ⟨W, hW⟩ : ∃ W, w1.alloc (.cells #[.string t, .int .i64 c, .int .i64 0] 36) = W := ⟨_, rfl⟩
  have b6 : Below w1.heap.size w1 W := by rw [← hW]; exact (Below.refl _ _).alloc (Nat.le_refl _) _
  have f0 : W.cell? ⟨w1.heap.size, 0, none⟩ = some (.string t) := by rw [← hW]; simp [go_sem]
  have f1 : W.cell? ⟨w1.heap.size, 1, none⟩ = some (.int .i64 c) := by rw [← hW]; simp [go_sem]
  have f2 : W.cell? ⟨w1.heap.size, 2, none⟩ = some (.int .i64 0) := by rw [← hW]; simp [go_sem]
  have hbW := hb.trans (b6.mono hb.size)
  rw [hW]
  clear hW b6 hb
  go_wp2_with fail
  have hbD : Below w.heap.size w W.drew := hbW.drew
  have f1D : W.drew.cell? ⟨w1.heap.size, 1, none⟩ = some (.int .i64 c) := f1
  go_region_with (first | (go_at_call 9; refine (put_any _ [] x _ (bytes_nil _) (by simp) x0 x1).mono ?_; rintro e w2 ⟨v, rfl, ho, hk⟩; have hs2 := run_str _ v _ ho.bytesAt; rw [List.nil_append, HO.out] at hs2; have f1E := cell_later hk f1D; have hbE := hbD.trans (hk.mono hbD.size); clear ho) | (go_at_call 11; refine (size_any x _ x0 x1).mono ?_; rw [HL.out]; rintro e w' ⟨rfl, rfl⟩) | (go_at_call 8; refine (awake_any _).mono ?_; rintro e w3 ⟨rfl, hk⟩; have hbF := hbE.trans (hk.mono hbE.size)))
  all_goals
    go_wp2_with fail
    go_ret
    exact ⟨rfl, hbF⟩
end Go.Proofs.Ytpjgemjceikhfaa
