/- awake of the law: it is true in every world. -/
import Derived.Test.YtbkodaijigcebaaNq
namespace Go.Proofs.Ytbkodaijigcebaa
open Go.RowKit
set_option maxRecDepth 100000
set_option linter.unusedVariables false
set_option linter.unusedSimpArgs false
def l3 : List En := [⟨1, 0, 5, 1⟩, ⟨3, 5, 5, 1⟩, ⟨9, 0, 5, 2⟩]
theorem aw1 : (splitN l3 12).err = 0 ∧ (splitN l3 12).size = 2 ∧ (splitN l3 12).root = [⟨1, 0, 9, 0⟩, ⟨9, 9, 5, 0⟩] ∧ (splitN l3 12).text.size = 14 := by decide
theorem aw2 : (splitN l3 512).err = 0 ∧ (splitN l3 512).size = 0 ∧ (splitN l3 512).root = l3 ∧ (splitN l3 512).text = noB := by decide
theorem aw3 : (splitN l3 1).err = 15 := by decide
theorem aw4 : (splitN [] 0).err = 2 := by decide
theorem aw5 : (cutZ 2 l3).length = 2 ∧ (cutZ 0 l3).length = 0 := by decide
theorem may3 : MaysN l3 := by
  intro e he
  unfold l3 at he
  simp at he
  rcases he with rfl | rfl | rfl <;> (unfold MayN; simp)
theorem maySp : MaysN [⟨1, 0, 9, 0⟩, ⟨9, 9, 5, 0⟩] := by
  intro e he
  simp at he
  rcases he with rfl | rfl <;> (unfold MayN; simp)
theorem ens3 (w : World) (T : TypeId) : EnsAt (w.alloc (.cells #[.int .u64 1, .int .u64 0, .int .u32 5, .int .u32 1, .int .u64 3, .int .u64 5, .int .u32 5, .int .u32 1, .int .u64 9, .int .u64 0, .int .u32 5, .int .u32 2] T)) (.slice (some ⟨w.heap.size, 0, none⟩) 3 3) l3 := by
  refine ⟨_, 3, rfl, by decide, by unfold maxLen; omega, fun k t ht => ?_⟩
  match k, ht with
  | 0, ht => simp [l3] at ht; subst ht; exact ⟨w.heap.size, 0, rfl, by simp, by simp [go_sem], by simp [go_sem], by simp [go_sem], by simp [go_sem]⟩
  | 1, ht => simp [l3] at ht; subst ht; exact ⟨w.heap.size, 0, rfl, by simp, by simp [go_sem], by simp [go_sem], by simp [go_sem], by simp [go_sem]⟩
  | 2, ht => simp [l3] at ht; subst ht; exact ⟨w.heap.size, 0, rfl, by simp, by simp [go_sem], by simp [go_sem], by simp [go_sem], by simp [go_sem]⟩
  | k + 3, ht => simp [l3] at ht
theorem join3 : joinN (splitN l3 12).root (splitN l3 12).text = (l3, 0) := join_split may3 (by decide) aw1.1
set_option maxHeartbeats 8000000 in
theorem awake14_any (w : World) : Calls Try.prog 7 #[] w fun e w' => e = .returned (.bool true) ∧ Below w.heap.size w w' := by
  have HE0 := Lib.hid (ens3 w 52)
  have HB0 : Hid (Below w.heap.size w (w.alloc (.cells #[.int .u64 1, .int .u64 0, .int .u32 5, .int .u32 1, .int .u64 3, .int .u64 5, .int .u32 5, .int .u32 1, .int .u64 9, .int .u64 0, .int .u32 5, .int .u32 2] 52))) := Lib.hid ((Below.refl _ _).alloc (Nat.le_refl _) _)
  go_enter Try.func7, Try.ntmps7
  go_wp2_with fail
  generalize hW : w.alloc (.cells #[.int .u64 1, .int .u64 0, .int .u32 5, .int .u32 1, .int .u64 3, .int .u64 5, .int .u32 5, .int .u32 1, .int .u64 9, .int .u64 0, .int .u32 5, .int .u32 2] 52) = W0 at *
  refine (split14_any _ l3 12 _ HE0.out may3 (by decide) (by decide)).mono ?_
  rintro e w1 ⟨v1, rfl, he1, hb1⟩
  rw [aw1.1, aw1.2.1]
  rw [aw1.2.2.1] at he1
  have HJ : Hid (joinN [⟨1, 0, 9, 0⟩, ⟨9, 9, 5, 0⟩] (splitN l3 12).text = (l3, 0)) := Lib.hid (by have := join3; rw [aw1.2.2.1] at this; exact this)
  have htx := aw1.2.2.2
  generalize (splitN l3 12).text = TX at *
  have HX1 := Lib.hid he1
  have HT1 := Lib.hid (HE0.out.below hb1)
  have HB1 := Lib.hid (HB0.out.trans (hb1.mono HB0.out.size))
  obtain ⟨a1, c1, rfl⟩ := ensAt_form he1
  simp only [List.length_cons, List.length_nil, Nat.reduceAdd]
  have HTX := Lib.hid htx
  clear he1 hb1 hW HE0 HB0 htx
  go_wp2_with fail
  refine (split14_any _ l3 512 _ HT1.out may3 (by decide) (by decide)).mono ?_
  rintro e w2 ⟨v2, rfl, he2, hb2⟩
  rw [aw2.1, aw2.2.1, aw2.2.2.2]
  rw [aw2.2.2.1] at he2
  unfold noB
  have HX2 := Lib.hid (HX1.out.below hb2)
  have HT2 := Lib.hid (HT1.out.below hb2)
  have HS2 := Lib.hid he2
  have HB2 := Lib.hid (HB1.out.trans (hb2.mono HB1.out.size))
  obtain ⟨a2, c2, rfl⟩ := ensAt_form he2
  clear he2 hb2 HX1 HT1 HB1
  go_wp2_with fail
  refine (split14_any _ l3 1 _ HT2.out may3 (by decide) (by decide)).mono ?_
  rintro e w3 ⟨v3, rfl, he3, hb3⟩
  rw [aw3]
  have HX3 := Lib.hid (HX2.out.below hb3)
  have HT3 := Lib.hid (HT2.out.below hb3)
  have HS3 := Lib.hid (HS2.out.below hb3)
  have HB3 := Lib.hid (HB2.out.trans (hb3.mono HB2.out.size))
  obtain ⟨a3, c3, rfl⟩ := ensAt_form he3
  clear he3 hb3 HX2 HT2 HB2 HS2
  generalize (splitN l3 1).text = x3 at *
  generalize (splitN l3 1).size = y3 at *
  generalize (splitN l3 1).root.length = n3 at *
  go_wp2_with fail
  refine (split14_any _ [] 0 _ (ens_nil _) (fun e h => by simp at h) (by decide) (by decide)).mono ?_
  rintro e w4 ⟨v4, rfl, he4, hb4⟩
  rw [aw4]
  have HX4 := Lib.hid (HX3.out.below hb4)
  have HT4 := Lib.hid (HT3.out.below hb4)
  have HS4 := Lib.hid (HS3.out.below hb4)
  have HB4 := Lib.hid (HB3.out.trans (hb4.mono HB3.out.size))
  obtain ⟨a4, c4, rfl⟩ := ensAt_form he4
  clear he4 hb4 HX3 HT3 HB3 HS3
  generalize (splitN [] 0).text = x4 at *
  generalize (splitN [] 0).size = y4 at *
  generalize (splitN [] 0).root.length = n4 at *
  go_wp2_with fail
  refine (join14_any _ [⟨1, 0, 9, 0⟩, ⟨9, 9, 5, 0⟩] TX _ HX4.out maySp (by decide) (by rw [HTX.out]; decide)).mono ?_
  rintro e w5 ⟨v5, rfl, he5, hb5⟩
  rw [HJ.out] at he5 ⊢
  dsimp only at he5 ⊢
  have HX5 := Lib.hid (HX4.out.below hb5)
  have HT5 := Lib.hid (HT4.out.below hb5)
  have HS5 := Lib.hid (HS4.out.below hb5)
  have HJ5 := Lib.hid he5
  have HB5 := Lib.hid (HB4.out.trans (hb5.mono HB4.out.size))
  obtain ⟨a5, c5, rfl⟩ := ensAt_form he5
  obtain ⟨g, off, cap, hv, hle, hg, hc⟩ := ens_at HX5.out 0 (by decide)
  cases hv
  obtain ⟨p0, p1, p2, p3⟩ := hc 0 _ rfl
  obtain ⟨q0, q1, q2, q3⟩ := hc 1 _ rfl
  simp only [Nat.zero_mul, Nat.add_zero, Nat.one_mul] at p0 p1 p2 p3 q0 q1 q2 q3
  have hq0 := fun W => eq_entP ⟨1, 0, 9, 0⟩ ⟨1, 0, 9, 0⟩ _ W rfl
  have hq1 := fun W => eq_entP ⟨9, 9, 5, 0⟩ ⟨9, 9, 5, 0⟩ _ W rfl
  rw [decide_eq_true rfl] at hq0 hq1
  have htx : (TX.size : Int) = 14 := by rw [HTX.out]; rfl
  clear he5 hb5 HX4 HT4 HB4 HS4 hc
  go_wp2_with fail
  refine (psame_any _ _ l3 l3 _ HS5.out HT5.out).mono ?_
  rintro e w6 ⟨rfl, hb6⟩
  rw [decide_eq_true rfl]
  have HT6 := Lib.hid (HT5.out.below hb6)
  have HJ6 := Lib.hid (HJ5.out.below hb6)
  have HB6 := Lib.hid (HB5.out.trans (hb6.mono HB5.out.size))
  clear hb6 HX5 HT5 HS5 HJ5 HB5
  go_wp2_with fail
  refine (psame_any _ _ l3 l3 _ HJ6.out HT6.out).mono ?_
  rintro e w7 ⟨rfl, hb7⟩
  rw [decide_eq_true rfl]
  have HT7 := Lib.hid (HT6.out.below hb7)
  have HB7 := Lib.hid (HB6.out.trans (hb7.mono HB6.out.size))
  clear hb7 HT6 HJ6 HB6
  go_wp2_with fail
  refine (cut14_any _ l3 2 _ HT7.out may3 (by decide) (by decide)).mono ?_
  rintro e w8 ⟨v8, rfl, hc8, hb8⟩
  have HT8 := Lib.hid (HT7.out.below hb8)
  have HB8 := Lib.hid (HB7.out.trans (hb8.mono HB7.out.size))
  obtain ⟨a8, c8, rfl, _, _⟩ := hc8.form
  rw [aw5.1]
  clear hb8 hc8 HT7 HB7
  go_wp2_with fail
  refine (cut14_any _ l3 0 _ HT8.out may3 (by decide) (by decide)).mono ?_
  rintro e w9 ⟨v9, rfl, hc9, hb9⟩
  have HB9 := Lib.hid (HB8.out.trans (hb9.mono HB8.out.size))
  obtain ⟨a9, c9, rfl, _, _⟩ := hc9.form
  rw [aw5.2]
  clear hb9 hc9 HT8 HB8
  go_wp2_with fail
  go_ret
  exact ⟨rfl, HB9.out⟩
end Go.Proofs.Ytbkodaijigcebaa
