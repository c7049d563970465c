/- The walk of VarintBack where there are at most 100 numbers and 50 bytes ahead: it returns true, and what was there stays. -/
import Derived.Test.YtpjgemjceikhfaaY
import Derived.Deep.DeepCutAuto
namespace Go.Proofs.Ytpjgemjceikhfaa
open Go.RowKit
set_option linter.unusedVariables false
theorem rst_add (t : ByteArray) (p c : Int) (p0 : 0 ≤ p) (c0 : 0 ≤ c) : rst t (p + c) = (rst t p).drop c.toNat := by
  unfold rst
  rw [List.drop_drop]
  congr 1
  omega
theorem takeS_encs (t : ByteArray) (ls : List Int) (p : Int) (acc : List Int) (p0 : 0 ≤ p) (hr : rst t p = (encs ls).map ub) (hx : Wide ls) :
    takeS t ls.length p acc = (acc ++ ls, p + (encs ls).length, 0) ∧ takeS t (ls.length + 1) p acc = ([], p + (encs ls).length, 3) := by
  induction ls generalizing p acc with
  | nil =>
    refine ⟨by simp [takeS, encs], ?_⟩
    have e : errV (rst t p) = 3 := by rw [hr]; decide
    rw [takeS_no t _ p acc (by rw [e]; decide), e]
    simp [encs]
  | cons x ls ih =>
    have hx0 := hx 0 (by simp)
    simp only [List.getD_cons_zero] at hx0
    have hxs : Wide ls := fun k hk => by simpa using hx (k + 1) (by simpa using hk)
    have hr' : rst t p = (enc x).map ub ++ (encs ls).map ub := by rw [hr, encs, List.map_append]
    obtain ⟨e1, e2, e3⟩ := enc_read x hx0.1 hx0.2 ((encs ls).map ub)
    rw [← hr'] at e1 e2 e3
    have hn : rst t (p + cntV (rst t p)) = (encs ls).map ub := by
      rw [rst_add t p _ p0 (by omega), e2, hr']
      simp
    have hi := ih (p + cntV (rst t p)) (acc ++ [valV (rst t p)]) (by omega) hn hxs
    rw [List.length_cons, takeS_ok t _ p acc e1, takeS_ok t _ p acc e1, hi.1, hi.2, e2, e3]
    refine ⟨?_, ?_⟩
    · simp only [encs, List.length_append, Prod.mk.injEq, List.append_assoc, List.cons_append, List.nil_append, and_true, true_and]; omega
    · simp only [encs, List.length_append, Prod.mk.injEq, and_true, true_and]; omega
theorem text_rst (h : ByteArray) (ls : List Int) : rst (h ++ str (encs ls)) h.size = (encs ls).map ub ∧ (h ++ str (encs ls)).size = h.size + (encs ls).length := by
  refine ⟨?_, by rw [ByteArray.size_append, str_size]⟩
  unfold rst
  rw [ByteArray.data_append, Array.toList_append, str_list, Int.toNat_natCast]
  have : h.data.toList.length = h.size := by simp
  rw [← this, List.drop_left]
  rfl
theorem tk_back (h : ByteArray) (ls : List Int) (hl : ls.length ≤ 100) (hx : Wide ls) :
    (tkAll (h ++ str (encs ls)) h.size 0 ls.length = (ls, ((h ++ str (encs ls)).size : Int), 0)) ∧ (tkAll (h ++ str (encs ls)) h.size 0 (ls.length + 1) = ([], ((h ++ str (encs ls)).size : Int), 3)) := by
  obtain ⟨h1, h2⟩ := text_rst h ls
  have hb : restBad (h ++ str (encs ls)) h.size 0 = 0 := by
    unfold restBad placedV
    rw [if_pos (by rw [h2]; omega)]; rfl
  have hk := takeS_encs (h ++ str (encs ls)) ls h.size [] (by omega) h1 hx
  unfold tkAll
  rw [if_pos hb, if_pos hb, if_neg (by omega), if_neg (by omega)]
  rw [Int.toNat_natCast, show ((ls.length : Int) + 1).toNat = ls.length + 1 from by omega, hk.1, hk.2, h2]
  simp
theorem end_whole (t : ByteArray) : endV t t.size 0 = 0 := by
  unfold endV placedV spentV
  rw [if_pos (by omega), if_neg (by omega)]; rfl
set_option maxHeartbeats 1600000 in
theorem back_walk (a2 : Option Addr) (cap2 : Nat) (ls : List Int) (h : ByteArray) (w : World) (hw : WordsAt w (.slice a2 ls.length cap2) ls) (h4 : ls.length ≤ 100) (hx : Wide ls) (h5 : h.size ≤ 50) :
    Calls Try.prog 5 #[.slice a2 ls.length cap2, .string h] w fun e w' => e = .returned (.bool true) ∧ Below w.heap.size w w' := by
  have hd : decide (100 < (ls.length : Int)) = false := by simp; omega
  have hd2 : decide (50 < (h.size : Int)) = false := by simp; omega
  have hz := encs_len ls
  have hzs : (str (encs ls)).size ≤ 1000 := by rw [str_size]; omega
  have ht := tk_back h ls h4 hx
  have hts := (text_rst h ls).2
  have hSA : ∀ W v, BytesAt W v (encs ls) → Sem.run Try.prog (convert 22 9 v) W = .ok (.string (str (encs ls))) W := fun W v hb => run_str W v _ hb
  obtain ⟨SA, hsa⟩ : ∃ SA, str (encs ls) = SA := ⟨_, rfl⟩
  rw [hsa] at hzs ht hts hSA
  have htm : (h ++ SA).size ≤ maxLen := by rw [ByteArray.size_append]; unfold maxLen; omega
  obtain ⟨T, hT⟩ : ∃ T, h ++ SA = T := ⟨_, rfl⟩
  have HT := Lib.hid hT
  rw [hT] at ht hts htm
  have K1 : Hid (∀ W, Calls Try.prog 17 #[.agg #[.string T, .int .i64 h.size, .int .i64 0], .int .i64 ls.length] W (TakeEnd T ls T.size 0 W)) := Lib.hid (fun W => by
    have := take_any T h.size 0 ls.length W htm
    rwa [ht.1] at this)
  have K2 : Hid (∀ W, Calls Try.prog 17 #[.agg #[.string T, .int .i64 h.size, .int .i64 0], .int .i64 (ls.length + 1)] W (TakeEnd T [] T.size 3 W)) := Lib.hid (fun W => by
    have := take_any T h.size 0 (ls.length + 1) W htm
    rwa [ht.2] at this)
  have E1 : Hid (∀ W, Calls Try.prog 21 #[.agg #[.string T, .int .i64 T.size, .int .i64 0]] W fun e w' => e = .returned (.int .i64 0) ∧ Below W.heap.size W w') := Lib.hid (fun W => by
    have := end_any T T.size 0 W
    rwa [end_whole] at this)
  have HW := Lib.hid hw; have HX := Lib.hid hx; have HS := Lib.hid hSA
  clear hw hx hSA hsa ht hts hT htm hz
  go_enter Try.func5, Try.ntmps5
  go_wp2_with fail
  refine (all_any _ ls _ HW.out (by omega) HX.out).mono ?_
  rintro e w1 ⟨v1, rfl, ho1, hb1⟩
  have hs1 := HS.out w1 v1 ho1.bytesAt
  clear ho1
  go_upto_region 4 with fail
  rw [HT.out]
  obtain ⟨W, hW⟩ : ∃ W, w1.alloc (.cells #[.string T, .int .i64 h.size, .int .i64 0] 36) = W := ⟨_, rfl⟩
  have b1 : Below w1.heap.size w1 W := by rw [← hW]; exact (Below.refl _ _).alloc (Nat.le_refl _) _
  have s0 : W.cell? ⟨w1.heap.size, 0, none⟩ = some (.string T) := by rw [← hW]; simp [go_sem]
  have s1 : W.cell? ⟨w1.heap.size, 1, none⟩ = some (.int .i64 h.size) := by rw [← hW]; simp [go_sem]
  have s2 : W.cell? ⟨w1.heap.size, 2, none⟩ = some (.int .i64 0) := by rw [← hW]; simp [go_sem]
  have hbW := hb1.trans (b1.mono hb1.size)
  rw [hW]
  clear hW b1 hb1 hs1
  go_wp2_with fail
  refine (K1.out _).mono ?_
  rintro e w2 ⟨v2, rfl, ho2, hb2⟩
  have hw2 := ho2.wordsAt
  replace s0 := cell_later hb2 s0
  replace s1 := cell_later hb2 s1
  replace s2 := cell_later hb2 s2
  have hbw2 := hbW.trans (hb2.mono hbW.size)
  clear hb2 hbW ho2 K1
  go_upto_region 5 with fail
  obtain ⟨W1, hW1⟩ : ∃ W1, w2.alloc (.cells #[.string T, .int .i64 T.size, .int .i64 0] 36) = W1 := ⟨_, rfl⟩
  have b2 : Below w2.heap.size w2 W1 := by rw [← hW1]; exact (Below.refl _ _).alloc (Nat.le_refl _) _
  have t0 : W1.cell? ⟨w2.heap.size, 0, none⟩ = some (.string T) := by rw [← hW1]; simp [go_sem]
  have t1 : W1.cell? ⟨w2.heap.size, 1, none⟩ = some (.int .i64 T.size) := by rw [← hW1]; simp [go_sem]
  have t2 : W1.cell? ⟨w2.heap.size, 2, none⟩ = some (.int .i64 0) := by rw [← hW1]; simp [go_sem]
  replace s0 := cell_later b2 s0
  replace s1 := cell_later b2 s1
  replace s2 := cell_later b2 s2
  replace hw2 := hw2.below b2
  have hbW1 := hbw2.trans (b2.mono hbw2.size)
  have HW1 := Lib.hid (HW.out.below hbW1)
  rw [hW1]
  clear hW1 b2 hbw2
  go_wp2_with fail
  refine (same_yes _ _ ls _ HW1.out hw2 (by omega)).mono ?_
  rintro e w3 ⟨rfl, hb3⟩
  replace s0 := cell_later hb3 s0
  replace s1 := cell_later hb3 s1
  replace s2 := cell_later hb3 s2
  replace t0 := cell_later hb3 t0
  replace t1 := cell_later hb3 t1
  replace t2 := cell_later hb3 t2
  have hbw3 := hbW1.trans (hb3.mono hbW1.size)
  clear hb3 hbW1 HW1 hw2
  go_wp2_with fail
  refine (E1.out _).mono ?_
  rintro e w4 ⟨rfl, hb4⟩
  replace s0 := cell_later hb4 s0
  replace s1 := cell_later hb4 s1
  replace s2 := cell_later hb4 s2
  have hbw4 := hbw3.trans (hb4.mono hbw3.size)
  clear hb4 hbw3 t0 t1 t2 E1
  go_wp2_with fail
  refine (K2.out _).mono ?_
  rintro e w5 ⟨v5, rfl, ho5, hb5⟩
  obtain ⟨a5, cap5, rfl, _⟩ := ho5.wordsAt
  replace s0 := cell_later hb5 s0
  have hbw5 := hbw4.trans (hb5.mono hbw4.size)
  clear hb5 hbw4 ho5 K2 s1 s2
  go_upto_region 8 with fail
  obtain ⟨W2, hW2⟩ : ∃ W2, w5.alloc (.cells #[.string T, .int .i64 T.size, .int .i64 3] 36) = W2 := ⟨_, rfl⟩
  have b5 : Below w5.heap.size w5 W2 := by rw [← hW2]; exact (Below.refl _ _).alloc (Nat.le_refl _) _
  have u1 : W2.cell? ⟨w5.heap.size, 1, none⟩ = some (.int .i64 T.size) := by rw [← hW2]; simp [go_sem]
  have u2 : W2.cell? ⟨w5.heap.size, 2, none⟩ = some (.int .i64 3) := by rw [← hW2]; simp [go_sem]
  replace s0 := cell_later b5 s0
  have hbW2 := hbw5.trans (b5.mono hbw5.size)
  rw [hW2]
  clear hW2 b5 hbw5
  go_wp2_with fail
  refine (awake_any _).mono ?_
  rintro e w6 ⟨rfl, hb6⟩
  have hbw6 := hbW2.trans (hb6.mono hbW2.size)
  clear hb6 hbW2
  go_wp2_with fail
  go_ret
  exact ⟨rfl, hbw6⟩
end Go.Proofs.Ytpjgemjceikhfaa
