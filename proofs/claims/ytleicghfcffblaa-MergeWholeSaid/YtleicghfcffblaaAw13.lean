/- The contract of awake. -/
import Derived.Test.YtleicghfcffblaaNp
import Derived.Test.YtleicghfcffblaaAv13
import Derived.Test.YtleicghfcffblaaHl
import Derived.Test.YtleicghfcffblaaMP
namespace Go.Proofs.Ytleicghfcffblaa
open Go.RowKit
set_option maxRecDepth 20000
set_option linter.unusedVariables false
set_option linter.unusedSimpArgs false
theorem below13 (w : World) (o : Obj) : Below w.heap.size w (w.alloc o) := (Below.refl _ _).alloc (Nat.le_refl _) _
theorem its_three (w : World) (x y z : Nat) (s t u : ByteArray) (T : TypeId) : ItsAt (w.alloc (.cells #[.int .u64 x, .string s, .int .u64 y, .string t, .int .u64 z, .string u] T)) (.slice (some ⟨w.heap.size, 0, none⟩) 3 3) [(x, s), (y, t), (z, u)] := by
  refine ⟨_, 3, rfl, Nat.le_refl _, by unfold maxLen; omega, fun k u hu => ⟨w.heap.size, 0, rfl, by simp, ?_⟩⟩
  match k, hu with
  | 0, hu => simp only [List.getElem?_cons_zero, Option.some.injEq] at hu; subst hu; exact ⟨by simp [go_sem], by simp [go_sem]⟩
  | 1, hu => simp only [List.getElem?_cons_succ, List.getElem?_cons_zero, Option.some.injEq] at hu; subst hu; exact ⟨by simp [go_sem], by simp [go_sem]⟩
  | 2, hu => simp only [List.getElem?_cons_succ, List.getElem?_cons_zero, Option.some.injEq] at hu; subst hu; exact ⟨by simp [go_sem], by simp [go_sem]⟩
  | k + 3, hu => simp at hu
theorem ens_lit1 (w : World) (T : TypeId) : EnsAt (w.alloc (.cells #[.int .u64 1, .int .u64 0, .int .u32 1, .int .u32 0] T)) (.slice (some ⟨w.heap.size, 0, none⟩) 1 1) [⟨1, 0, 1, 0⟩] := by
  refine ⟨_, 1, rfl, Nat.le_refl _, by unfold maxLen; omega, fun k u hu => ⟨w.heap.size, 0, rfl, by simp, ?_⟩⟩
  match k, hu with
  | 0, hu => simp only [List.getElem?_cons_zero, Option.some.injEq] at hu; subst hu; exact ⟨by simp [go_sem], by simp [go_sem], by simp [go_sem], by simp [go_sem]⟩
  | k + 1, hu => simp at hu
theorem ens_lit2 (w : World) (T : TypeId) : EnsAt (w.alloc (.cells #[.int .u64 1, .int .u64 0, .int .u32 1, .int .u32 1, .int .u64 2, .int .u64 0, .int .u32 1, .int .u32 1] T)) (.slice (some ⟨w.heap.size, 0, none⟩) 2 2) [⟨1, 0, 1, 1⟩, ⟨2, 0, 1, 1⟩] := by
  refine ⟨_, 2, rfl, Nat.le_refl _, by unfold maxLen; omega, fun k u hu => ⟨w.heap.size, 0, rfl, by simp, ?_⟩⟩
  match k, hu with
  | 0, hu => simp only [List.getElem?_cons_zero, Option.some.injEq] at hu; subst hu; exact ⟨by simp [go_sem], by simp [go_sem], by simp [go_sem], by simp [go_sem]⟩
  | 1, hu => simp only [List.getElem?_cons_succ, List.getElem?_cons_zero, Option.some.injEq] at hu; subst hu; exact ⟨by simp [go_sem], by simp [go_sem], by simp [go_sem], by simp [go_sem]⟩
  | k + 2, hu => simp at hu
theorem aw1 (v : Value) (w : World) (hv : ItsAt w v [(8, kAb3), (5, kAb3), (6, kAb3)]) : Calls Try.prog 31 #[v] w fun e w' => ∃ s', e = .returned (.tuple #[.agg #[s'], .int .i64 0]) ∧ ChS w' s' aL ∧ Below w.heap.size w w' := by
  refine (of_anyC v _ w hv (by simp) (fun t ht => ?_) (fun t ht => ?_)).mono ?_
  · simp at ht; rcases ht with rfl | rfl | rfl <;> decide
  · simp at ht; unfold maxLen; rcases ht with rfl | rfl | rfl <;> decide
  rintro e w' ⟨s', rfl, h, hb⟩
  rw [av1] at h
  exact ⟨s', by rw [av1]; rfl, h, hb⟩
theorem aw2 (s : Value) (w : World) (h : ChS w s aL) : Calls Try.prog 10 #[.agg #[s]] w fun e w' => ∃ v', e = .returned (.tuple #[v', .string { data := #[97, 98, 99] }]) ∧ EnsAt w' v' aE ∧ Below w.heap.size w w' := by
  refine (rows13_any s aL w h).mono ?_
  rintro e w' ⟨v', rfl, h, hb⟩
  rw [av2] at h
  exact ⟨v', by rw [av3]; rfl, h, hb⟩
theorem aw3 (v : Value) (w : World) (h : EnsAt w v aE) : Calls Try.prog 15 #[v, .string { data := #[97, 98, 99] }] w fun e w' => ∃ s', e = .returned (.tuple #[.agg #[s'], .int .i64 0]) ∧ ChS w' s' aL ∧ Below w.heap.size w w' := by
  have hh := back13_any v aE kAb3 w h may_aE (by decide)
  rw [av4] at hh
  exact hh
theorem aw4 (v : Value) (w : World) (h : EnsAt w v [⟨1, 0, 1, 0⟩]) : Calls Try.prog 15 #[v, .string { data := #[120] }] w fun e w' => ∃ s' l, e = .returned (.tuple #[.agg #[s'], .int .i64 14]) ∧ ChS w' s' l ∧ Below w.heap.size w w' := by
  have hh := back13_any v _ kX1 w h (fun e he => by simp only [List.mem_cons, List.not_mem_nil, or_false] at he; subst he; unfold MayN; decide) (by decide)
  rw [av5] at hh
  refine hh.mono ?_
  rintro e w' ⟨s', rfl, h, hb⟩
  exact ⟨s', _, rfl, h, hb⟩
theorem aw5 (v : Value) (w : World) (h : EnsAt w v aE) : Calls Try.prog 15 #[v, .string { data := #[97, 98] }] w fun e w' => ∃ s' l, e = .returned (.tuple #[.agg #[s'], .int .i64 8]) ∧ ChS w' s' l ∧ Below w.heap.size w w' := by
  have hh := back13_any v aE kAb2 w h may_aE (by decide)
  rw [av6] at hh
  refine hh.mono ?_
  rintro e w' ⟨s', rfl, h, hb⟩
  exact ⟨s', _, rfl, h, hb⟩
theorem aw6 (v : Value) (w : World) (h : EnsAt w v aE) : Calls Try.prog 20 #[v] w fun e w' => e = .returned (.bool true) ∧ Below w.heap.size w w' := by
  have hh := least13_any v aE w h may_aE
  rw [av7] at hh
  exact hh
theorem aw7 (v : Value) (w : World) (h : EnsAt w v [⟨1, 0, 1, 1⟩, ⟨2, 0, 1, 1⟩]) : Calls Try.prog 20 #[v] w fun e w' => e = .returned (.bool false) ∧ Below w.heap.size w w' := by
  have hh := least13_any v _ w h (fun e he => by simp only [List.mem_cons, List.not_mem_nil, or_false] at he; rcases he with rfl | rfl <;> (unfold MayN; decide))
  rw [av8] at hh
  exact hh
theorem aw8 (s t : Value) (w : World) (h : ChS w s aL) (h' : ChS w t aL) : Calls Try.prog 22 #[.agg #[s], .agg #[t]] w fun e w' => e = .returned (.bool true) ∧ Below w.heap.size w w' := by
  have hh := same_any s t _ _ w h h'
  rw [decide_eq_true rfl] at hh
  exact hh
theorem eqa1 (w : World) : (Op.equalIn 10000 62 (.agg #[.int .u64 5, .int .u64 0, .int .u32 3, .int .u32 2]) (.agg #[.int .u64 5, .int .u64 0, .int .u32 3, .int .u32 2])).run Try.prog w = .ok true w := by
  have := eq_entP ⟨5, 0, 3, 2⟩ ⟨5, 0, 3, 2⟩ 62 w rfl
  simpa using this
theorem eqa2 (w : World) : (Op.equalIn 10000 62 (.agg #[.int .u64 8, .int .u64 0, .int .u32 3, .int .u32 1]) (.agg #[.int .u64 8, .int .u64 0, .int .u32 3, .int .u32 1])).run Try.prog w = .ok true w := by
  have := eq_entP ⟨8, 0, 3, 1⟩ ⟨8, 0, 3, 1⟩ 62 w rfl
  simpa using this
set_option maxHeartbeats 4000000 in
theorem awake13_any (w : World) : Calls Try.prog 8 #[] w fun e w' => e = .returned (.bool true) ∧ Below w.heap.size w w' := by
  have hi1 := its_three w 8 5 6 kAb3 kAb3 kAb3 58
  have b1 := below13 w (.cells #[.int .u64 (8 : Nat), .string kAb3, .int .u64 (5 : Nat), .string kAb3, .int .u64 (6 : Nat), .string kAb3] 58)
  have H1 := Lib.hid (And.intro hi1 b1)
  clear hi1 b1
  go_enter Try.func8, Try.ntmps8
  go_wp2_with fail
  refine (aw1 _ _ H1.out.1).mono ?_
  rintro e w1 ⟨s, rfl, hs, hb⟩
  obtain ⟨a1, n1, p1, rfl⟩ := hs.form
  have hba := below13 w1 (.cells #[.slice a1 n1 p1] 27)
  have H2 := Lib.hid (And.intro (hs.below hba) (And.intro (one_new w1 (.slice a1 n1 p1) 27) ((H1.out.2.trans (hb.mono H1.out.2.size)).trans (hba.mono (H1.out.2.trans (hb.mono H1.out.2.size)).size))))
  clear hs hba hb H1
  go_wp2_with fail
  generalize w1.alloc (.cells #[.slice a1 n1 p1] 27) = W1 at *
  generalize w1.heap.size = gc at *
  refine (aw2 _ _ H2.out.1).mono ?_
  rintro e w2 ⟨v, rfl, hv, hb⟩
  obtain ⟨al, cap, rfl, _⟩ := id hv
  have H3 := Lib.hid (And.intro (H2.out.1.below hb) (And.intro (H2.out.2.1.below hb) (And.intro (H2.out.2.2.trans (hb.mono H2.out.2.2.size)) hv)))
  clear hb H2 hv
  go_wp2_with fail
  refine (aw3 _ _ H3.out.2.2.2).mono ?_
  rintro e w3 ⟨t, rfl, ht, hb⟩
  obtain ⟨a3, n3, p3, rfl⟩ := ht.form
  have hba := below13 w3 (.cells #[.slice a3 n3 p3] 27)
  have hbx := hb.trans (hba.mono hb.size)
  have H4 := Lib.hid (And.intro (H3.out.1.below hbx) (And.intro (H3.out.2.1.below hbx) (And.intro (H3.out.2.2.1.trans (hbx.mono H3.out.2.2.1.size)) (And.intro (H3.out.2.2.2.below hbx) (And.intro (ht.below hba) (one_new w3 (.slice a3 n3 p3) 27))))))
  have hz4 : (w3.alloc (.cells #[.slice a3 n3 p3] 27)).heap.size = w3.heap.size + 1 := by simp
  clear ht hba hbx hb H3
  go_wp2_with fail
  generalize w3.alloc (.cells #[.slice a3 n3 p3] 27) = W3 at *
  have hi5 := ens_lit1 W3 62
  rw [hz4] at hi5
  generalize w3.heap.size = gd at *
  refine (aw4 _ _ hi5).mono ?_
  rintro e w4 ⟨s4, l4, rfl, hc4, hb⟩
  obtain ⟨a4, n4, p4, rfl⟩ := hc4.form
  have b5 := (below13 W3 (.cells #[.int .u64 1, .int .u64 0, .int .u32 1, .int .u32 0] 62))
  have hbx := (b5.trans (hb.mono b5.size)).trans ((below13 w4 (.cells #[.slice a4 n4 p4] 27)).mono (b5.trans (hb.mono b5.size)).size)
  have H5 := Lib.hid (And.intro (H4.out.1.below hbx) (And.intro (H4.out.2.1.below hbx) (And.intro (H4.out.2.2.1.trans (hbx.mono H4.out.2.2.1.size)) (And.intro (H4.out.2.2.2.1.below hbx) (And.intro (H4.out.2.2.2.2.1.below hbx) (H4.out.2.2.2.2.2.below hbx))))))
  clear hc4 hb b5 hbx H4 hi5 hz4
  go_wp2_with fail
  generalize w4.alloc (.cells #[.slice a4 n4 p4] 27) = W4 at *
  refine (aw5 _ _ H5.out.2.2.2.1).mono ?_
  rintro e w5 ⟨s5, l5, rfl, hc5, hb⟩
  obtain ⟨a5, n5, p5, rfl⟩ := hc5.form
  have hbx := hb.trans ((below13 w5 (.cells #[.slice a5 n5 p5] 27)).mono hb.size)
  have H6 := Lib.hid (And.intro (H5.out.1.below hbx) (And.intro (H5.out.2.1.below hbx) (And.intro (H5.out.2.2.1.trans (hbx.mono H5.out.2.2.1.size)) (And.intro (H5.out.2.2.2.1.below hbx) (And.intro (H5.out.2.2.2.2.1.below hbx) (H5.out.2.2.2.2.2.below hbx))))))
  clear hc5 hb hbx H5
  generalize hW5 : w5.alloc (.cells #[.slice a5 n5 p5] 27) = W5 at *
  have q1 := H6.out.2.1.cell
  have q2 := H6.out.2.2.2.2.2.cell
  obtain ⟨al', cap', hv', -, -, hc⟩ := id H6.out.2.2.2.1
  cases hv'
  obtain ⟨g, off, rfl, hg, c0, c1, c2, c3⟩ := hc 0 _ rfl
  obtain ⟨g', off', hgo, hg', d0, d1, d2, d3⟩ := hc 1 _ rfl
  obtain ⟨rfl, rfl⟩ : g = g' ∧ off = off' := by simpa using hgo
  simp only [Nat.zero_mul, Nat.add_zero, Nat.one_mul] at c0 c1 c2 c3 d0 d1 d2 d3
  have hq1 := eqa1
  have hq2 := eqa2
  have hq3 := str_yes (rfl : (({ data := #[97, 98, 99] } : ByteArray)) = { data := #[97, 98, 99] })
  have HS := Lib.hid (aw8 _ _ _ H6.out.1 H6.out.2.2.2.2.1)
  clear hc hgo hg hg'
  subst hW5
  go_wp2_with fail
  refine HS.out.mono ?_
  rintro e w6 ⟨rfl, hb⟩
  have H7 := Lib.hid (And.intro (H6.out.2.2.1.trans (hb.mono H6.out.2.2.1.size)) (H6.out.2.2.2.1.below hb))
  clear hb H6 HS q1 q2 c0 c1 c2 c3 d0 d1 d2 d3 hq1 hq2
  go_wp2_with fail
  refine (aw6 _ _ H7.out.2).mono ?_
  rintro e w7 ⟨rfl, hb⟩
  have H8 := Lib.hid (H7.out.1.trans (hb.mono H7.out.1.size))
  clear hb H7
  have hi8 := ens_lit2 w7 62
  have b8 := below13 w7 (.cells #[.int .u64 1, .int .u64 0, .int .u32 1, .int .u32 1, .int .u64 2, .int .u64 0, .int .u32 1, .int .u32 1] 62)
  go_wp2_with fail
  refine (aw7 _ _ hi8).mono ?_
  rintro e w8 ⟨rfl, hb⟩
  have H9 := Lib.hid (H8.out.trans ((b8.trans (hb.mono b8.size)).mono H8.out.size))
  clear hb hi8 b8
  go_wp2_with fail
  go_ret
  exact ⟨rfl, H9.out⟩
end Go.Proofs.Ytleicghfcffblaa
