/- The program's Encode. -/
import Derived.Test.YtgnghnekckhcdaaCe
import Derived.Test.YtgnghnekckhcdaaCf
import Derived.Test.YtgnghnekckhcdaaPc
import Derived.Test.YtgnghnekckhcdaaMH
namespace Go.Proofs.Ytgnghnekckhcdaa
open Go.RowKit Go.Shelf
set_option linter.unusedVariables false
set_option linter.unusedSimpArgs false
theorem encs_append (a b : List Int) : encs (a ++ b) = encs a ++ encs b := by
  induction a with
  | nil => rfl
  | cons x a ih => simp [encs, ih]
theorem encs_cols (l : List En) (c m : Nat) : encs ((List.range m).map (fun j => colN l c j)) = colsI l c m := by
  induction m with
  | zero => rfl
  | succ m ih => rw [List.range_succ, List.map_append, List.map_singleton, encs_snoc, ih, colsI]
theorem upW_add (val : Nat → Int) (a b : Nat) : upW val (a + b) = upW val a ++ (List.range b).map (fun j => val (a + j)) := by
  unfold upW
  rw [List.range_add, List.map_append, List.map_map]
  rfl
theorem encs_num (l : List En) (c : Nat) : encs (upW (numD l) (1 + (c + 1) * l.length)) = encs (upW (numD l) (1 + c * l.length)) ++ colsI l c l.length := by
  rw [show 1 + (c + 1) * l.length = (1 + c * l.length) + l.length from by rw [Nat.succ_mul]; omega, upW_add, encs_append, ← encs_cols]
  congr 2
  apply List.map_congr_left
  intro j hj
  exact numD_col l c j (List.mem_range.1 hj)
theorem encs_all (l : List En) : encs (upW (numD l) (1 + 4 * l.length)) = textI l := by
  rw [show 4 = 3 + 1 from rfl, encs_num, show 3 = 2 + 1 from rfl, encs_num, show 2 = 1 + 1 from rfl, encs_num, show (1 : Nat) + 1 * l.length = 1 + (0 + 1) * l.length from rfl, encs_num]
  rw [Nat.zero_mul]
  have h1 : encs (upW (numD l) (1 + 0)) = enc l.length := by
    show encs [numD l 0] = _
    rw [numD_zero]
    simp [encs]
  rw [h1]
  simp only [textI, List.append_assoc]
theorem num_wide (l : List En) (hm : MaysN l) (hl : l.length ≤ 5000) : Wide (upW (numD l) (1 + 4 * l.length)) := by
  intro k hk
  rw [upW_len] at hk
  have e : (upW (numD l) (1 + 4 * l.length)).getD k 0 = numD l k := by
    unfold upW
    rw [List.getD_eq_getElem?_getD, List.getElem?_map, List.getElem?_range hk]
    rfl
  rw [e]
  unfold numD
  by_cases h0 : k = 0
  · rw [if_pos h0]; omega
  · rw [if_neg h0]
    exact col_bd (by omega) (fun j hj => hm _ (gE_mem l j hj))
theorem pcoll_any {gf : Nat} {lb : Array Value} (val : Nat → Int) (N : Nat) (V : Nat → Prop) (w : World) (hN : N ≤ 90000) (eg : ∀ args w, (callFunc gf args).run Try.prog w = .ok (.enter gf args) w)
    (hseq : SeqD Try.prog gf lb (fun k => #[.int .u64 (val k)]) N (fun _ => False) V (fun _ _ => True) (fun _ => True) w) (hV : ∀ b, V b → b < w.heap.size) :
    Calls Try.prog 23 #[.func (.func gf) #[] lb] w fun x w' => ∃ v, x = .returned v ∧ OwnW w' w.heap.size v (upW val N) ∧ Below w.heap.size w w' := by
  have HA := Lib.hid (pappseq_any val N V w hN eg hseq hV)
  clear hseq hV
  go_enter Try.func23, Try.ntmps23
  go_wp2_with fail
  refine HA.out.mono ?_
  rintro x w1 ⟨v, rfl, h⟩
  go_wp2_with fail
  go_ret
  exact ⟨v, rfl, h⟩
set_option maxRecDepth 20000 in
set_option maxHeartbeats 1000000 in
theorem pencD_any (v : Value) (l : List En) (w : World) (hv : EnsAt w v l) (hm : MaysN l) (hl : l.length ≤ 5000) : Calls Try.prog 9 #[v] w fun x w' => x = .returned (.tuple #[.string (encT l), .int .i64 (encB l)]) ∧ Below w.heap.size w w' := by
  have HR := Lib.hid (prow_any v l w hv hm)
  have HV := Lib.hid hv
  have HM := Lib.hid hm
  obtain ⟨al, cap, rfl, hcap, hmx, _⟩ := hv
  by_cases h0 : rowN l = 0
  · have HE := Lib.hid (show encB l = (if 65536 < (textI l).length then 5 else 0) from by unfold encB; rw [if_pos h0])
    have HT := Lib.hid (show encT l = if encB l = 0 then str (textI l) else ByteArray.mk #[] from rfl)
    rw [h0] at HR
    have hlen : (textI l).length ≤ 200010 := by rw [textI_len]; have := textD_len l; omega
    by_cases h5 : 65536 < (textI l).length
    · have hd : decide (65536 < ((textI l).length : Int)) = true := by simp; omega
      have he : encB l = 5 := by rw [HE.out, if_pos h5]
      have ht : encT l = ByteArray.mk #[] := by rw [HT.out, if_neg (by rw [he]; decide)]
      rw [he, ht]
      clear h5 he ht h0 hcap hmx hm
      go_enter Try.func9, Try.ntmps9
      go_wp2_with fail
      refine HR.out.mono ?_
      rintro x w1 ⟨rfl, hb⟩
      have HB := Lib.hid hb
      clear hb
      go_wp2_with fail
      refine (pnum_any al l.length cap w1).mono ?_
      rintro x w2 ⟨rfl, hw2⟩
      have hb2 : Below w1.heap.size w1 w2 := by rw [hw2]; exact (Below.refl _ _).alloc (Nat.le_refl _) _
      have hs2 : w2.heap.size = w1.heap.size + 1 := by rw [hw2]; simp
      have hq2 : w2.cell? ⟨w1.heap.size, 0, none⟩ = some (.slice al l.length cap) := by rw [hw2]; simp
      have HV2 := HV.out.below (HB.out.trans (hb2.mono HB.out.size))
      have HB2 := Lib.hid (HB.out.trans (hb2.mono HB.out.size))
      have HC := Lib.hid (pcoll_any (numD l) (1 + 4 * l.length) (VN l (.slice al l.length cap) w1.heap.size) w2 (by omega) (enters_of Try.func49 (by kernel_rfl) rfl) (pnum1_seq _ l w1.heap.size w2 HM.out HV2 hq2) (by
        rintro b (rfl | ⟨hl, a, n, c, hv, rfl⟩)
        · omega
        · exact ens_lt HV2 hl hv))
      clear hw2 hb2 hs2 hq2 HV2 HB
      go_wp2_with fail
      refine HC.out.mono ?_
      rintro x w3 ⟨v3, rfl, ho, hb3⟩
      have HB3 := Lib.hid (HB2.out.trans (hb3.mono HB2.out.size))
      have HA := Lib.hid (allL_any v3 _ w3 ho.wordsAt (by rw [upW_len]; omega) (num_wide l HM.out hl))
      rw [encs_all] at HA
      clear HC HB2 ho hb3
      go_wp2_with fail
      refine HA.out.mono ?_
      rintro x w4 ⟨v4, rfl, ho, hb4⟩
      have HB4 := Lib.hid (HB3.out.trans (hb4.mono HB3.out.size))
      have hba := ho.bytesAt
      have hrs := run_str w4 v4 (textI l) hba
      obtain ⟨a4, cap4, rfl, _⟩ := hba
      clear HA HB3 ho hb4
      clear hrs
      go_wp2_with fail
      go_ret2
      exact ⟨rfl, HB4.out⟩
    · have hd : decide (65536 < ((textI l).length : Int)) = false := by simp; omega
      have he : encB l = 0 := by rw [HE.out, if_neg h5]
      have ht : encT l = str (textI l) := by rw [HT.out, if_pos he]
      rw [he, ht]
      clear h5 he ht h0 hcap hmx hm
      go_enter Try.func9, Try.ntmps9
      go_wp2_with fail
      refine HR.out.mono ?_
      rintro x w1 ⟨rfl, hb⟩
      have HB := Lib.hid hb
      clear hb
      go_wp2_with fail
      refine (pnum_any al l.length cap w1).mono ?_
      rintro x w2 ⟨rfl, hw2⟩
      have hb2 : Below w1.heap.size w1 w2 := by rw [hw2]; exact (Below.refl _ _).alloc (Nat.le_refl _) _
      have hs2 : w2.heap.size = w1.heap.size + 1 := by rw [hw2]; simp
      have hq2 : w2.cell? ⟨w1.heap.size, 0, none⟩ = some (.slice al l.length cap) := by rw [hw2]; simp
      have HV2 := HV.out.below (HB.out.trans (hb2.mono HB.out.size))
      have HB2 := Lib.hid (HB.out.trans (hb2.mono HB.out.size))
      have HC := Lib.hid (pcoll_any (numD l) (1 + 4 * l.length) (VN l (.slice al l.length cap) w1.heap.size) w2 (by omega) (enters_of Try.func49 (by kernel_rfl) rfl) (pnum1_seq _ l w1.heap.size w2 HM.out HV2 hq2) (by
        rintro b (rfl | ⟨hl, a, n, c, hv, rfl⟩)
        · omega
        · exact ens_lt HV2 hl hv))
      clear hw2 hb2 hs2 hq2 HV2 HB
      go_wp2_with fail
      refine HC.out.mono ?_
      rintro x w3 ⟨v3, rfl, ho, hb3⟩
      have HB3 := Lib.hid (HB2.out.trans (hb3.mono HB2.out.size))
      have HA := Lib.hid (allL_any v3 _ w3 ho.wordsAt (by rw [upW_len]; omega) (num_wide l HM.out hl))
      rw [encs_all] at HA
      clear HC HB2 ho hb3
      go_wp2_with fail
      refine HA.out.mono ?_
      rintro x w4 ⟨v4, rfl, ho, hb4⟩
      have HB4 := Lib.hid (HB3.out.trans (hb4.mono HB3.out.size))
      have hba := ho.bytesAt
      have hrs := run_str w4 v4 (textI l) hba
      obtain ⟨a4, cap4, rfl, _⟩ := hba
      clear HA HB3 ho hb4
      go_wp2_with fail
      go_ret2
      exact ⟨rfl, HB4.out⟩
  · have he : encB l = rowN l := by unfold encB; rw [if_neg h0]
    have ht : encT l = ByteArray.mk #[] := by unfold encT; rw [if_neg (by rw [he]; exact h0)]
    rw [he, ht]
    have hne : (rowN l == 0) = false := by simpa using h0
    generalize rowN l = r at *
    clear h0 he ht hcap hmx hm
    go_enter Try.func9, Try.ntmps9
    go_wp2_with fail
    refine HR.out.mono ?_
    rintro x w1 ⟨rfl, hb⟩
    go_wp2_with fail
    go_ret2
    exact ⟨rfl, hb⟩
end Go.Proofs.Ytgnghnekckhcdaa
