/- The walk of VarintGets where the text has at most 300 bytes: it returns true, and what was there stays. -/
import Derived.Test.YtpjgemjceikhfaaS3
import Derived.Test.YtpjgemjceikhfaaY
import Derived.Deep.RegionHeld3
import Derived.Deep.DeepCutAuto
namespace Go.Proofs.Ytpjgemjceikhfaa
open Go.RowKit
set_option linter.unusedVariables false
theorem keepS {w w' w1 : World} {a0 a1 a2 a3 a4 a5 a6 a7 a8 a9 a10 a11 : Addr} {v0 v1 v2 v3 v4 v5 v6 v7 v8 v9 v10 v11 : Value} {l1 l2 : Value} {l : List Int} (hb : Below w'.heap.size w' w1) (h : w'.cell? a0 = some v0 ∧ w'.cell? a1 = some v1 ∧ w'.cell? a2 = some v2 ∧ w'.cell? a3 = some v3 ∧ w'.cell? a4 = some v4 ∧ w'.cell? a5 = some v5 ∧ w'.cell? a6 = some v6 ∧ w'.cell? a7 = some v7 ∧ w'.cell? a8 = some v8 ∧ w'.cell? a9 = some v9 ∧ w'.cell? a10 = some v10 ∧ w'.cell? a11 = some v11 ∧ WordsAt w' l1 l ∧ WordsAt w' l2 l ∧ Below w.heap.size w w') :
    w1.cell? a0 = some v0 ∧ w1.cell? a1 = some v1 ∧ w1.cell? a2 = some v2 ∧ w1.cell? a3 = some v3 ∧ w1.cell? a4 = some v4 ∧ w1.cell? a5 = some v5 ∧ w1.cell? a6 = some v6 ∧ w1.cell? a7 = some v7 ∧ w1.cell? a8 = some v8 ∧ w1.cell? a9 = some v9 ∧ w1.cell? a10 = some v10 ∧ w1.cell? a11 = some v11 ∧ WordsAt w1 l1 l ∧ WordsAt w1 l2 l ∧ Below w.heap.size w w1 := by
  obtain ⟨h0, h1, h2, h3, h4, h5, h6, h7, h8, h9, h10, h11, hl1, hl2, hu⟩ := h
  exact ⟨cell_later hb h0, cell_later hb h1, cell_later hb h2, cell_later hb h3, cell_later hb h4, cell_later hb h5, cell_later hb h6, cell_later hb h7, cell_later hb h8, cell_later hb h9, cell_later hb h10, cell_later hb h11, hl1.below hb, hl2.below hb, hu.trans (hb.mono hu.size)⟩
theorem takeS_len (t : ByteArray) (n : Nat) (p : Int) (acc : List Int) : (takeS t n p acc).1.length ≤ acc.length + n := by
  induction n generalizing p acc with
  | zero => simp [takeS]
  | succ n ih =>
    rw [takeS]
    split
    · have := ih (p + cntV (rst t p)) (acc ++ [valV (rst t p)])
      simp only [List.length_append, List.length_cons, List.length_nil] at this
      omega
    · simp
theorem tk_len (t : ByteArray) (p q n : Int) : (tkAll t p q n).1.length ≤ 1000000 := by
  unfold tkAll
  split
  · split
    · simp
    · have := takeS_len t n.toNat p []
      simp only [List.length_nil] at this
      omega
  · simp
set_option maxHeartbeats 1600000 in
theorem gets_walk (t : ByteArray) (p q n : Int) (w : World) (hm : t.size ≤ maxLen) (h3 : t.size ≤ 300) :
    Calls Try.prog 4 #[.agg #[.string t, .int .i64 p, .int .i64 q], .int .i64 n] w fun e w' => e = .returned (.bool true) ∧ Below w.heap.size w w' := by
  have hd : decide (300 < (t.size : Int)) = false := by simp; omega
  have G1 := fun W => get_any t p q W hm
  have G2 := fun W => rget_any t p q W hm
  have T1 := fun W => take_any t p q n W hm
  have T2 := fun W => rtake_any t p q n W hm
  have hlen : (tkAll t p q n).1.length ≤ 1000000 := tk_len t p q n
  generalize getX t p q = X at *
  generalize getP t p q = P at *
  generalize getB t p q = Q at *
  generalize (tkAll t p q n).1 = l at *
  generalize (tkAll t p q n).2.1 = P' at *
  generalize (tkAll t p q n).2.2 = Q' at *
  replace G1 := Lib.hid G1; replace G2 := Lib.hid G2; replace T1 := Lib.hid T1; replace T2 := Lib.hid T2
  clear h3 hm
  go_enter Try.func4, Try.ntmps4
  go_wp2_with fail
  refine (own_any t p q _).mono ?_
  rintro e w1 ⟨rfl, hb⟩
  obtain ⟨z1, u1, b0, b1, b2⟩ := kept1 hb
  clear hb
  go_wp2_with fail
  refine (G1.out _).mono ?_
  rintro e w2 ⟨rfl, hb⟩
  have u2 := u1.trans (hb.mono u1.size)
  replace b0 := cell_later hb b0
  replace b1 := cell_later hb b1
  replace b2 := cell_later hb b2
  have z2 := hb.size
  clear hb
  have y2 : w.heap.size < w2.heap.size := by omega
  go_wp2_with fail
  refine (G2.out _).mono ?_
  rintro e w3 ⟨rfl, hb⟩
  obtain ⟨z3, v3, x0, x1, x2⟩ := kept1 hb
  have u3 := u2.trans (v3.mono u2.size)
  replace b0 := cell_later v3 b0
  replace b1 := cell_later v3 b1
  replace b2 := cell_later v3 b2
  clear hb v3
  have y3 : w.heap.size < w3.heap.size := by omega
  go_wp2_with fail
  refine (own_any t p q _).mono ?_
  rintro e w4 ⟨rfl, hb⟩
  obtain ⟨z4, v4, c0, c1, c2⟩ := kept1 hb
  have u4 := u3.trans (v4.mono u3.size)
  replace b0 := cell_later v4 b0
  replace b1 := cell_later v4 b1
  replace b2 := cell_later v4 b2
  replace x0 := cell_later v4 x0
  replace x1 := cell_later v4 x1
  replace x2 := cell_later v4 x2
  clear hb v4
  go_wp2_with fail
  refine (T1.out _).mono ?_
  rintro e w5 ⟨l1, rfl, ho1, hb⟩
  have hw1 := ho1.wordsAt
  have z5 := hb.size
  have u5 := u4.trans (hb.mono u4.size)
  replace b0 := cell_later hb b0
  replace b1 := cell_later hb b1
  replace b2 := cell_later hb b2
  replace x0 := cell_later hb x0
  replace x1 := cell_later hb x1
  replace x2 := cell_later hb x2
  replace c0 := cell_later hb c0
  replace c1 := cell_later hb c1
  replace c2 := cell_later hb c2
  clear hb ho1
  have y5 : w.heap.size < w5.heap.size := by omega
  go_wp2_with fail
  refine (T2.out _).mono ?_
  rintro e w6 ⟨l2, rfl, ho2, hb⟩
  have hw2 := ho2.wordsAt
  obtain ⟨z6, v6, d0, d1, d2⟩ := kept1 hb
  have u6 := u5.trans (v6.mono u5.size)
  replace hw1 := hw1.below v6
  replace x0 := cell_later v6 x0
  replace x1 := cell_later v6 x1
  replace x2 := cell_later v6 x2
  replace c0 := cell_later v6 c0
  replace c1 := cell_later v6 c1
  replace c2 := cell_later v6 c2
  clear hb v6 ho2 b0 b1 b2
  go_upto_region 7 with fail
  obtain ⟨W, hW⟩ : ∃ W, w6.alloc (.cells #[.string t, .int .i64 P', .int .i64 Q'] 33) = W := ⟨_, rfl⟩
  have v7 : Below w6.heap.size w6 W := by rw [← hW]; exact (Below.refl _ _).alloc (Nat.le_refl _) _
  have e0 : W.cell? ⟨w6.heap.size, 0, none⟩ = some (.string t) := by rw [← hW]; simp [go_sem]
  have e1 : W.cell? ⟨w6.heap.size, 1, none⟩ = some (.int .i64 P') := by rw [← hW]; simp [go_sem]
  have e2 : W.cell? ⟨w6.heap.size, 2, none⟩ = some (.int .i64 Q') := by rw [← hW]; simp [go_sem]
  replace x0 := cell_later v7 x0
  replace x1 := cell_later v7 x1
  replace x2 := cell_later v7 x2
  replace c0 := cell_later v7 c0
  replace c1 := cell_later v7 c1
  replace c2 := cell_later v7 c2
  replace d0 := cell_later v7 d0
  replace d1 := cell_later v7 d1
  replace d2 := cell_later v7 d2
  replace hw1 := hw1.below v7
  replace hw2 := hw2.below v7
  have u7 : Below w.heap.size w W := u6.trans (v7.mono u6.size)
  rw [hW]
  clear hW v7 u1 u2 u3 u4 u5 u6 z1 z2 z3 z4 z5 z6 y2 y3 y5 G1 G2 T1 T2
  have hdr : Below W.heap.size W W.drew := (Below.refl _ _).drew
  have hS0 : (fun w' => w'.cell? ⟨w2.heap.size, 0, none⟩ = some (.string t) ∧ w'.cell? ⟨w2.heap.size, 1, none⟩ = some (.int .i64 P) ∧ w'.cell? ⟨w2.heap.size, 2, none⟩ = some (.int .i64 Q) ∧ w'.cell? ⟨w3.heap.size, 0, none⟩ = some (.string t) ∧ w'.cell? ⟨w3.heap.size, 1, none⟩ = some (.int .i64 P) ∧ w'.cell? ⟨w3.heap.size, 2, none⟩ = some (.int .i64 Q) ∧ w'.cell? ⟨w5.heap.size, 0, none⟩ = some (.string t) ∧ w'.cell? ⟨w5.heap.size, 1, none⟩ = some (.int .i64 P') ∧ w'.cell? ⟨w5.heap.size, 2, none⟩ = some (.int .i64 Q') ∧ w'.cell? ⟨w6.heap.size, 0, none⟩ = some (.string t) ∧ w'.cell? ⟨w6.heap.size, 1, none⟩ = some (.int .i64 P') ∧ w'.cell? ⟨w6.heap.size, 2, none⟩ = some (.int .i64 Q') ∧ WordsAt w' l1 l ∧ WordsAt w' l2 l ∧ Below w.heap.size w w') W.drew := ⟨x0, x1, x2, c0, c1, c2, d0, d1, d2, e0, e1, e2, hw1.below hdr, hw2.below hdr, u7.drew⟩
  have HS0 := Lib.hid hS0; clear hS0 hdr
  have HLEN := Lib.hid hlen; clear hlen
  go_region_held3 (fun w' => w'.cell? ⟨w2.heap.size, 0, none⟩ = some (.string t) ∧ w'.cell? ⟨w2.heap.size, 1, none⟩ = some (.int .i64 P) ∧ w'.cell? ⟨w2.heap.size, 2, none⟩ = some (.int .i64 Q) ∧ w'.cell? ⟨w3.heap.size, 0, none⟩ = some (.string t) ∧ w'.cell? ⟨w3.heap.size, 1, none⟩ = some (.int .i64 P) ∧ w'.cell? ⟨w3.heap.size, 2, none⟩ = some (.int .i64 Q) ∧ w'.cell? ⟨w5.heap.size, 0, none⟩ = some (.string t) ∧ w'.cell? ⟨w5.heap.size, 1, none⟩ = some (.int .i64 P') ∧ w'.cell? ⟨w5.heap.size, 2, none⟩ = some (.int .i64 Q') ∧ w'.cell? ⟨w6.heap.size, 0, none⟩ = some (.string t) ∧ w'.cell? ⟨w6.heap.size, 1, none⟩ = some (.int .i64 P') ∧ w'.cell? ⟨w6.heap.size, 2, none⟩ = some (.int .i64 Q') ∧ WordsAt w' l1 l ∧ WordsAt w' l2 l ∧ Below w.heap.size w w') (first | exact keepS hk (by assumption) | exact HS0.out)
    (first | (go_at_call 19; refine (back_any _ _ _ _).mono ?_; rintro e w' ⟨rfl, hk⟩) | (go_at_call 20; refine (same_yes _ _ l _ (by go_split_ands; assumption) (by go_split_ands; assumption) HLEN.out).mono ?_; rintro e w' ⟨rfl, hk⟩) | (go_at_call 8; refine (awake_any _).mono ?_; rintro e w' ⟨rfl, hk⟩))
  go_wp2_with fail
  go_ret
  refine ⟨rfl, ?_⟩
  go_split_ands
  assumption
end Go.Proofs.Ytpjgemjceikhfaa
