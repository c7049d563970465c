/- The program's Sections: five ways. -/
import Derived.Test.YtkhlkjhfgfjadaaPa
namespace Go.Proofs.Ytkhlkjhfgfjadaa
open Go.RowKit
set_option maxRecDepth 100000
set_option linter.unusedVariables false
set_option linter.unusedSimpArgs false
set_option maxHeartbeats 4000000 in
theorem sec15_bad0 (a b c d : Int) (w : World)  (hx : 1099511627776 < 127 + a) :
    Calls Try.prog 7 #[.agg #[.int .u64 a, .int .u64 b, .int .u64 c, .int .u64 d]] w (SecEnd ⟨zeroSc, 0, 8⟩ w) := by
  unfold SecEnd sArr zeroSc
  have g0 : (1099511627649 : Int) < a := by omega
  clear  hx
  have i0 := fun W => (idx_n (.int .u64 a) (.int .u64 b) (.int .u64 c) (.int .u64 d) W).1
  have i1 := fun W => (idx_n (.int .u64 a) (.int .u64 b) (.int .u64 c) (.int .u64 d) W).2.1
  have i2 := fun W => (idx_n (.int .u64 a) (.int .u64 b) (.int .u64 c) (.int .u64 d) W).2.2.1
  have i3 := fun W => (idx_n (.int .u64 a) (.int .u64 b) (.int .u64 c) (.int .u64 d) W).2.2.2
  go_enter Try.func7, Try.ntmps7
  go_wp2_with fail
  refine wp_loop_rounds 5 ?_
  rw [rounds_succ]
  go_wp2_with fail
  refine bodyPost_ret (v := .tuple #[.agg #[.int .u64 0, .int .u64 0, .int .u64 0, .int .u64 0, .int .u64 0, .int .u64 0, .int .u64 0, .int .u64 0], .int .u64 0, .int .i64 8]) (by simp [results, Try.results7, go_sem]) rfl ⟨rfl, by go_grown⟩
set_option maxHeartbeats 4000000 in
theorem sec15_bad1 (a b c d : Int) (w : World) (ha : 0 ≤ a) (hs : 127 + a ≤ 1099511627776) (hx : 1099511627776 < 127 + a + b) :
    Calls Try.prog 7 #[.agg #[.int .u64 a, .int .u64 b, .int .u64 c, .int .u64 d]] w (SecEnd ⟨zeroSc, 0, 8⟩ w) := by
  unfold SecEnd sArr zeroSc
  have g0 : ¬ (1099511627649 : Int) < a := by omega
  have v1 : IntKind.u64.wrap (1099511627776 - (127 + a)) = 1099511627776 - (127 + a) := by rw [IntKind.wrap_u64]; omega
  have g1 : (1099511627776 - (127 + a) : Int) < b := by omega
  have w1 : IntKind.u64.wrap (127 + a) = 127 + a := by rw [IntKind.wrap_u64]; omega
  have HE0 := Lib.hid (fun W => end15_exact (127) a (127 + a) W w1)
  clear ha hs hx
  have i0 := fun W => (idx_n (.int .u64 a) (.int .u64 b) (.int .u64 c) (.int .u64 d) W).1
  have i1 := fun W => (idx_n (.int .u64 a) (.int .u64 b) (.int .u64 c) (.int .u64 d) W).2.1
  have i2 := fun W => (idx_n (.int .u64 a) (.int .u64 b) (.int .u64 c) (.int .u64 d) W).2.2.1
  have i3 := fun W => (idx_n (.int .u64 a) (.int .u64 b) (.int .u64 c) (.int .u64 d) W).2.2.2
  go_enter Try.func7, Try.ntmps7
  go_wp2_with fail
  refine wp_loop_rounds 5 ?_
  rw [rounds_succ]
  go_wp2_with fail
  refine (HE0.out _).mono ?_
  rintro e w' ⟨rfl, rfl⟩
  go_wp2_with fail
  rw [rounds_succ]
  go_wp2_with fail
  refine bodyPost_ret (v := .tuple #[.agg #[.int .u64 0, .int .u64 0, .int .u64 0, .int .u64 0, .int .u64 0, .int .u64 0, .int .u64 0, .int .u64 0], .int .u64 0, .int .i64 8]) (by simp [results, Try.results7, go_sem]) rfl ⟨rfl, by go_grown⟩
set_option maxHeartbeats 4000000 in
theorem sec15_bad2 (a b c d : Int) (w : World) (ha : 0 ≤ a) (hb : 0 ≤ b) (hs : 127 + a + b ≤ 1099511627776) (hx : 1099511627776 < 127 + a + b + c) :
    Calls Try.prog 7 #[.agg #[.int .u64 a, .int .u64 b, .int .u64 c, .int .u64 d]] w (SecEnd ⟨zeroSc, 0, 8⟩ w) := by
  unfold SecEnd sArr zeroSc
  have g0 : ¬ (1099511627649 : Int) < a := by omega
  have v1 : IntKind.u64.wrap (1099511627776 - (127 + a)) = 1099511627776 - (127 + a) := by rw [IntKind.wrap_u64]; omega
  have g1 : ¬ (1099511627776 - (127 + a) : Int) < b := by omega
  have v2 : IntKind.u64.wrap (1099511627776 - (127 + a + b)) = 1099511627776 - (127 + a + b) := by rw [IntKind.wrap_u64]; omega
  have g2 : (1099511627776 - (127 + a + b) : Int) < c := by omega
  have w1 : IntKind.u64.wrap (127 + a) = 127 + a := by rw [IntKind.wrap_u64]; omega
  have w2 : IntKind.u64.wrap (127 + a + b) = 127 + a + b := by rw [IntKind.wrap_u64]; omega
  have HE0 := Lib.hid (fun W => end15_exact (127) a (127 + a) W w1)
  have HE1 := Lib.hid (fun W => end15_exact (127 + a) b (127 + a + b) W w2)
  clear ha hb hs hx
  have i0 := fun W => (idx_n (.int .u64 a) (.int .u64 b) (.int .u64 c) (.int .u64 d) W).1
  have i1 := fun W => (idx_n (.int .u64 a) (.int .u64 b) (.int .u64 c) (.int .u64 d) W).2.1
  have i2 := fun W => (idx_n (.int .u64 a) (.int .u64 b) (.int .u64 c) (.int .u64 d) W).2.2.1
  have i3 := fun W => (idx_n (.int .u64 a) (.int .u64 b) (.int .u64 c) (.int .u64 d) W).2.2.2
  go_enter Try.func7, Try.ntmps7
  go_wp2_with fail
  refine wp_loop_rounds 5 ?_
  rw [rounds_succ]
  go_wp2_with fail
  refine (HE0.out _).mono ?_
  rintro e w' ⟨rfl, rfl⟩
  go_wp2_with fail
  rw [rounds_succ]
  go_wp2_with fail
  refine (HE1.out _).mono ?_
  rintro e w' ⟨rfl, rfl⟩
  go_wp2_with fail
  rw [rounds_succ]
  go_wp2_with fail
  refine bodyPost_ret (v := .tuple #[.agg #[.int .u64 0, .int .u64 0, .int .u64 0, .int .u64 0, .int .u64 0, .int .u64 0, .int .u64 0, .int .u64 0], .int .u64 0, .int .i64 8]) (by simp [results, Try.results7, go_sem]) rfl ⟨rfl, by go_grown⟩
set_option maxHeartbeats 4000000 in
theorem sec15_bad3 (a b c d : Int) (w : World) (ha : 0 ≤ a) (hb : 0 ≤ b) (hc : 0 ≤ c) (hs : 127 + a + b + c ≤ 1099511627776) (hx : 1099511627776 < 127 + a + b + c + d) :
    Calls Try.prog 7 #[.agg #[.int .u64 a, .int .u64 b, .int .u64 c, .int .u64 d]] w (SecEnd ⟨zeroSc, 0, 8⟩ w) := by
  unfold SecEnd sArr zeroSc
  have g0 : ¬ (1099511627649 : Int) < a := by omega
  have v1 : IntKind.u64.wrap (1099511627776 - (127 + a)) = 1099511627776 - (127 + a) := by rw [IntKind.wrap_u64]; omega
  have g1 : ¬ (1099511627776 - (127 + a) : Int) < b := by omega
  have v2 : IntKind.u64.wrap (1099511627776 - (127 + a + b)) = 1099511627776 - (127 + a + b) := by rw [IntKind.wrap_u64]; omega
  have g2 : ¬ (1099511627776 - (127 + a + b) : Int) < c := by omega
  have v3 : IntKind.u64.wrap (1099511627776 - (127 + a + b + c)) = 1099511627776 - (127 + a + b + c) := by rw [IntKind.wrap_u64]; omega
  have g3 : (1099511627776 - (127 + a + b + c) : Int) < d := by omega
  have w1 : IntKind.u64.wrap (127 + a) = 127 + a := by rw [IntKind.wrap_u64]; omega
  have w2 : IntKind.u64.wrap (127 + a + b) = 127 + a + b := by rw [IntKind.wrap_u64]; omega
  have w3 : IntKind.u64.wrap (127 + a + b + c) = 127 + a + b + c := by rw [IntKind.wrap_u64]; omega
  have HE0 := Lib.hid (fun W => end15_exact (127) a (127 + a) W w1)
  have HE1 := Lib.hid (fun W => end15_exact (127 + a) b (127 + a + b) W w2)
  have HE2 := Lib.hid (fun W => end15_exact (127 + a + b) c (127 + a + b + c) W w3)
  clear ha hb hc hs hx
  have i0 := fun W => (idx_n (.int .u64 a) (.int .u64 b) (.int .u64 c) (.int .u64 d) W).1
  have i1 := fun W => (idx_n (.int .u64 a) (.int .u64 b) (.int .u64 c) (.int .u64 d) W).2.1
  have i2 := fun W => (idx_n (.int .u64 a) (.int .u64 b) (.int .u64 c) (.int .u64 d) W).2.2.1
  have i3 := fun W => (idx_n (.int .u64 a) (.int .u64 b) (.int .u64 c) (.int .u64 d) W).2.2.2
  go_enter Try.func7, Try.ntmps7
  go_wp2_with fail
  refine wp_loop_rounds 5 ?_
  rw [rounds_succ]
  go_wp2_with fail
  refine (HE0.out _).mono ?_
  rintro e w' ⟨rfl, rfl⟩
  go_wp2_with fail
  rw [rounds_succ]
  go_wp2_with fail
  refine (HE1.out _).mono ?_
  rintro e w' ⟨rfl, rfl⟩
  go_wp2_with fail
  rw [rounds_succ]
  go_wp2_with fail
  refine (HE2.out _).mono ?_
  rintro e w' ⟨rfl, rfl⟩
  go_wp2_with fail
  rw [rounds_succ]
  go_wp2_with fail
  refine bodyPost_ret (v := .tuple #[.agg #[.int .u64 0, .int .u64 0, .int .u64 0, .int .u64 0, .int .u64 0, .int .u64 0, .int .u64 0, .int .u64 0], .int .u64 0, .int .i64 8]) (by simp [results, Try.results7, go_sem]) rfl ⟨rfl, by go_grown⟩
set_option maxHeartbeats 4000000 in
theorem sec15_ok (a b c d : Int) (w : World) (ha : 0 ≤ a) (hb : 0 ≤ b) (hc : 0 ≤ c) (hd : 0 ≤ d) (hs : 127 + a + b + c + d ≤ 1099511627776) :
    Calls Try.prog 7 #[.agg #[.int .u64 a, .int .u64 b, .int .u64 c, .int .u64 d]] w (SecEnd ⟨⟨127, a, 127 + a, b, 127 + a + b, c, 127 + a + b + c, d⟩, 127 + a + b + c + d, 0⟩ w) := by
  unfold SecEnd sArr
  have g0 : ¬ (1099511627649 : Int) < a := by omega
  have v1 : IntKind.u64.wrap (1099511627776 - (127 + a)) = 1099511627776 - (127 + a) := by rw [IntKind.wrap_u64]; omega
  have g1 : ¬ (1099511627776 - (127 + a) : Int) < b := by omega
  have v2 : IntKind.u64.wrap (1099511627776 - (127 + a + b)) = 1099511627776 - (127 + a + b) := by rw [IntKind.wrap_u64]; omega
  have g2 : ¬ (1099511627776 - (127 + a + b) : Int) < c := by omega
  have v3 : IntKind.u64.wrap (1099511627776 - (127 + a + b + c)) = 1099511627776 - (127 + a + b + c) := by rw [IntKind.wrap_u64]; omega
  have g3 : ¬ (1099511627776 - (127 + a + b + c) : Int) < d := by omega
  have w1 : IntKind.u64.wrap (127 + a) = 127 + a := by rw [IntKind.wrap_u64]; omega
  have w2 : IntKind.u64.wrap (127 + a + b) = 127 + a + b := by rw [IntKind.wrap_u64]; omega
  have w3 : IntKind.u64.wrap (127 + a + b + c) = 127 + a + b + c := by rw [IntKind.wrap_u64]; omega
  have w4 : IntKind.u64.wrap (127 + a + b + c + d) = 127 + a + b + c + d := by rw [IntKind.wrap_u64]; omega
  have HE0 := Lib.hid (fun W => end15_exact (127) a (127 + a) W w1)
  have HE1 := Lib.hid (fun W => end15_exact (127 + a) b (127 + a + b) W w2)
  have HE2 := Lib.hid (fun W => end15_exact (127 + a + b) c (127 + a + b + c) W w3)
  have HE3 := Lib.hid (fun W => end15_exact (127 + a + b + c) d (127 + a + b + c + d) W w4)
  clear ha hb hc hd hs
  have i0 := fun W => (idx_n (.int .u64 a) (.int .u64 b) (.int .u64 c) (.int .u64 d) W).1
  have i1 := fun W => (idx_n (.int .u64 a) (.int .u64 b) (.int .u64 c) (.int .u64 d) W).2.1
  have i2 := fun W => (idx_n (.int .u64 a) (.int .u64 b) (.int .u64 c) (.int .u64 d) W).2.2.1
  have i3 := fun W => (idx_n (.int .u64 a) (.int .u64 b) (.int .u64 c) (.int .u64 d) W).2.2.2
  go_enter Try.func7, Try.ntmps7
  go_wp2_with fail
  refine wp_loop_rounds 5 ?_
  rw [rounds_succ]
  go_wp2_with fail
  refine (HE0.out _).mono ?_
  rintro e w' ⟨rfl, rfl⟩
  go_wp2_with fail
  rw [rounds_succ]
  go_wp2_with fail
  refine (HE1.out _).mono ?_
  rintro e w' ⟨rfl, rfl⟩
  go_wp2_with fail
  rw [rounds_succ]
  go_wp2_with fail
  refine (HE2.out _).mono ?_
  rintro e w' ⟨rfl, rfl⟩
  go_wp2_with fail
  rw [rounds_succ]
  go_wp2_with fail
  refine (HE3.out _).mono ?_
  rintro e w' ⟨rfl, rfl⟩
  go_wp2_with fail
  rw [rounds_succ]
  go_wp2_with fail
  refine bodyPost_ret (v := .tuple #[.agg #[.int .u64 127, .int .u64 a, .int .u64 (127 + a), .int .u64 b, .int .u64 (127 + a + b), .int .u64 c, .int .u64 (127 + a + b + c), .int .u64 d], .int .u64 (127 + a + b + c + d), .int .i64 0]) (by simp [results, Try.results7, go_sem]) rfl ⟨rfl, by go_grown⟩
theorem sections15_any (a b c d : Int) (w : World) (ha : U64 a) (hb : U64 b) (hc : U64 c) (hd : U64 d) : Calls Try.prog 7 #[.agg #[.int .u64 a, .int .u64 b, .int .u64 c, .int .u64 d]] w (SecEnd (secsN a b c d) w) := by
  unfold U64 at ha hb hc hd
  unfold secsN
  by_cases h : tooBig a b c d
  · rw [if_pos h]
    unfold tooBig at h
    by_cases h1 : 1099511627776 < 127 + a
    · exact sec15_bad0 a b c d w h1
    by_cases h2 : 1099511627776 < 127 + a + b
    · exact sec15_bad1 a b c d w (by omega) (by omega) h2
    by_cases h3 : 1099511627776 < 127 + a + b + c
    · exact sec15_bad2 a b c d w (by omega) (by omega) (by omega) h3
    exact sec15_bad3 a b c d w (by omega) (by omega) (by omega) (by omega) (by omega)
  · rw [if_neg h]
    unfold tooBig at h
    exact sec15_ok a b c d w (by omega) (by omega) (by omega) (by omega) (by omega)
end Go.Proofs.Ytkhlkjhfgfjadaa
