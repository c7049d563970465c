/- The contract of awake. -/
import Derived.Test.YtegboojhebhlnaaKq
namespace Go.Proofs.Ytegboojhebhlnaa
open Go.RowKit
set_option linter.unusedVariables false
set_option linter.unusedSimpArgs false
set_option maxRecDepth 20000 in
set_option maxHeartbeats 2000000 in
theorem awake_any (w : World) : Calls Try.prog 10 #[] w fun e w' => e = .returned (.bool true) ∧ Below w.heap.size w w' := by
  have HN := Lib.hid new_any
  go_enter Try.func10, Try.ntmps10
  go_wp2_with fail
  refine (HN.out _).mono ?_
  rintro y w1 ⟨v, S1, rfl, hp, hs, hb⟩
  have HP0 := Lib.hid (Awk.new (Below.refl _ _) (Nat.le_refl _) hp hs hb)
  obtain ⟨a, rfl⟩ := hp.ptr
  clear hp hs hb HN
  go_wp2_with fail
  refine (aw1 HP0.out).mono ?_
  rintro y wa0 ⟨rfl, S', hP, hk⟩
  have HK := Lib.hid hk
  have HP1 := Lib.hid (hP.alloc (.cells #[.int .u64 0, .int .u32 2] 31))
  have N0_0 := Lib.hid (side_new (.int .u64 0) (.int .u32 2) 31 hP.pool.lt)
  clear hP hk HK HP0
  go_wp2_with fail
  refine (aw2 HP1.out).mono ?_
  rintro y wa1 ⟨rfl, S', hP, hk⟩
  have HK := Lib.hid hk
  have HP2 := Lib.hid (hP.alloc (.cells #[.int .u64 2, .int .u32 1] 31))
  have N0_1 := Lib.hid ((N0_0.out.kept HK.out).alloc (.cells #[.int .u64 2, .int .u32 1] 31))
  have N1_0 := Lib.hid (side_new (.int .u64 2) (.int .u32 1) 31 hP.pool.lt)
  clear hP hk HK HP1 N0_0
  go_wp2_with fail
  refine (aw3 HP2.out).mono ?_
  rintro y wa2 ⟨rfl, S', hP, hk⟩
  have HK := Lib.hid hk
  have HP3 := Lib.hid (hP.alloc (.cells #[.int .u64 0, .int .u32 2] 31))
  have N0_2 := Lib.hid ((N0_1.out.kept HK.out).alloc (.cells #[.int .u64 0, .int .u32 2] 31))
  have N1_1 := Lib.hid ((N1_0.out.kept HK.out).alloc (.cells #[.int .u64 0, .int .u32 2] 31))
  have N2_0 := Lib.hid (side_new (.int .u64 0) (.int .u32 2) 31 hP.pool.lt)
  clear hP hk HK HP2 N0_1 N1_0
  go_wp2_with fail
  refine (aw4 HP3.out).mono ?_
  rintro y wa3 ⟨rfl, S', hP, hk⟩
  have HK := Lib.hid hk
  have HP4 := Lib.hid (hP.alloc (.cells #[.int .u64 0, .int .u32 0] 31))
  have N0_3 := Lib.hid ((N0_2.out.kept HK.out).alloc (.cells #[.int .u64 0, .int .u32 0] 31))
  have N1_2 := Lib.hid ((N1_1.out.kept HK.out).alloc (.cells #[.int .u64 0, .int .u32 0] 31))
  have N2_1 := Lib.hid ((N2_0.out.kept HK.out).alloc (.cells #[.int .u64 0, .int .u32 0] 31))
  have N3_0 := Lib.hid (side_new (.int .u64 0) (.int .u32 0) 31 hP.pool.lt)
  clear hP hk HK HP3 N0_2 N1_1 N2_0
  go_wp2_with fail
  refine (aw5 HP4.out).mono ?_
  rintro y wf ⟨rfl, hb⟩
  have N4_0 := Lib.hid (side_new (.int .u64 2) (.int .u32 1) 31 (HP4.out.later hb).pool.lt)
  have HP5 := Lib.hid ((HP4.out.later hb).alloc (.cells #[.int .u64 2, .int .u32 1] 31))
  have N0_4 := Lib.hid ((N0_3.out.below hb).alloc (.cells #[.int .u64 2, .int .u32 1] 31))
  have N1_3 := Lib.hid ((N1_2.out.below hb).alloc (.cells #[.int .u64 2, .int .u32 1] 31))
  have N2_2 := Lib.hid ((N2_1.out.below hb).alloc (.cells #[.int .u64 2, .int .u32 1] 31))
  have N3_1 := Lib.hid ((N3_0.out.below hb).alloc (.cells #[.int .u64 2, .int .u32 1] 31))
  clear hb HP4 N0_3 N1_2 N2_1 N3_0
  obtain ⟨cN10, cN11, -, -⟩ := id (N1_3.out.1)
  have cN12 := N1_3.out.1.lt
  go_wp2_with fail
  refine (aw6 HP5.out).mono ?_
  rintro y wg ⟨rfl, hb⟩
  have HP6 := Lib.hid (HP5.out.later hb)
  have N0_5 := Lib.hid (N0_4.out.below hb)
  have N1_4 := Lib.hid (N1_3.out.below hb)
  have N2_3 := Lib.hid (N2_2.out.below hb)
  have N4_1 := Lib.hid (N4_0.out.below hb)
  clear hb HP5 N0_4 N1_3 N2_2 N4_0 cN10 cN11 cN12
  go_wp2_with fail
  refine (aw7 HP6.out).mono ?_
  rintro y wh ⟨rfl, hb⟩
  have HP7 := Lib.hid (HP6.out.later hb)
  have N0_6 := Lib.hid (N0_5.out.below hb)
  have N1_5 := Lib.hid (N1_4.out.below hb)
  have N2_4 := Lib.hid (N2_3.out.below hb)
  have N4_2 := Lib.hid (N4_1.out.below hb)
  clear hb HP6 N0_5 N1_4 N2_3 N4_1 
  obtain ⟨cN00, cN01, -, -⟩ := id (N0_6.out.1)
  have cN02 := N0_6.out.1.lt
  obtain ⟨cN10, cN11, -, -⟩ := id (N1_5.out.1)
  have cN12 := N1_5.out.1.lt
  obtain ⟨cN20, cN21, -, -⟩ := id (N2_4.out.1)
  have cN22 := N2_4.out.1.lt
  obtain ⟨cN40, cN41, -, -⟩ := id (N4_2.out.1)
  have cN42 := N4_2.out.1.lt
  go_wp2_with fail
  refine (aw8 HP7.out).mono ?_
  rintro y wi ⟨rfl, hb⟩
  have HP8 := Lib.hid (HP7.out.later hb)
  clear hb HP7 cN00 cN01 cN02 cN10 cN11 cN12 cN20 cN21 cN22 cN40 cN41 cN42
  go_wp2_with fail
  refine (aw9 HP8.out).mono ?_
  rintro y wj ⟨rfl, hb⟩
  have HP9 := Lib.hid (HP8.out.later hb)
  clear hb HP8 
  go_wp2_with fail
  go_ret
  exact ⟨rfl, HP9.out.bel⟩
end Go.Proofs.Ytegboojhebhlnaa
