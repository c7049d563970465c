/- The contract of the document's Add where a content is new; of Add, whole. -/
import Derived.Test.YtegboojhebhlnaaKd
namespace Go.Proofs.Ytegboojhebhlnaa
open Go.RowKit
set_option linter.unusedVariables false
set_option linter.unusedSimpArgs false
set_option maxRecDepth 20000 in
set_option maxHeartbeats 1000000 in
theorem radd_new (v : Value) (l : List ByteArray) (s : ByteArray) (w : World) (hv : StrsAt w v l) (ht : totF l ≤ 1000000000) (h0 : 0 < s.size) (h1 : s.size ≤ 65536) (hf : findF s l 0 = none) (h2 : l.length < 2048) : Calls Try.prog 12 #[v, .string s] w (RAddEnd v l s w) := by
  have E := Lib.hid (show eV l s = 0 by unfold eV; rw [if_neg (by omega), if_neg (by omega), hf, if_neg (by simp), if_neg (by omega)])
  have NW := Lib.hid (show isNew l s = true by unfold isNew; rw [hf, E.out]; rfl)
  have OA := Lib.hid (show offA l s = totF l by unfold offA; rw [NW.out]; rfl)
  have LA := Lib.hid (show lenA l s = s.size by unfold lenA; rw [E.out]; rfl)
  have e1 : ((s.size : Int) == 0) = false := by rw [beq_eq_false_iff_ne]; omega
  have e2 : ¬ 65536 < (s.size : Int) := by omega
  have e3 : decide ((2048 : Int) ≤ (l.length : Int)) = false := decide_eq_false (by omega)
  have HF := Lib.hid (rfind_later v l s w hv ht (by omega))
  rw [hf, show ((offV none : Nat) : Int) = 0 from rfl, show ((lenV none s : Nat) : Int) = 0 from rfl, show (none : Option Nat).isSome = false from rfl] at HF
  have HV := Lib.hid hv
  obtain ⟨al, cap, rfl, hcap, hmx, hc⟩ := hv
  have hB0 : Below w.heap.size w (w.alloc (.cells #[.int .u64 0, .int .u32 0] 26)) := Below.alloc (Below.refl _ _) (Nat.le_refl _) _
  have HB0 := Lib.hid hB0
  clear hB0 hc hf
  go_enter Try.func12, Try.ntmps12
  go_wp2_with fail
  refine (HF.out _ HB0.out).mono ?_
  rintro y w1 ⟨rfl, hb⟩
  have T1 : Two w1 w.heap.size (.int .u64 0) (.int .u32 0) := (two_new w (.int .u64 0) (.int .u32 0) 26).below hb
  obtain ⟨c0, c1, f0, f1⟩ := id T1
  have HT1 := Lib.hid T1
  clear T1
  have c2 : w.heap.size < w1.heap.size := by have := hb.size; simp at this; omega
  have HB1 := Lib.hid (HB0.out.trans (hb.mono HB0.out.size))
  clear hb
  have hB2 : Below w.heap.size w (w1.alloc (.cells #[.int .u64 0, .int .u32 0] 26)) := HB1.out.alloc (by omega) _
  have hz2 : (w1.alloc (.cells #[.int .u64 0, .int .u32 0] 26)).heap.size = w1.heap.size + 1 := by simp
  obtain ⟨v1, w2, hr1, hown1, hgr1⟩ := sappend_run (w1.alloc (.cells #[.int .u64 0, .int .u32 0] 26)) (w.heap.size + 1) 22 (.slice none 0 0) _ [] l (ownV_nil _ _ _) (HV.out.below hB2) (by simp; omega) (by omega)
  rw [List.nil_append] at hown1
  have hb1 : Below (w.heap.size + 1) (w1.alloc (.cells #[.int .u64 0, .int .u32 0] 26)) w2 := Below.grown (Below.refl _ _) hgr1 (by omega) (fun k hk => by cases hk)
  have hz3 := hb1.size
  have hb2 : Below (w.heap.size + 1) (w1.alloc (.cells #[.int .u64 0, .int .u32 0] 26)) (w2.alloc (.cells #[.string s] 9)) := hb1.alloc (by omega) _
  have hz4 : (w2.alloc (.cells #[.string s] 9)).heap.size = w2.heap.size + 1 := by simp
  obtain ⟨v2, w3, hr2, hown2, hgr2⟩ := sappend_run (w2.alloc (.cells #[.string s] 9)) (w.heap.size + 1) 22 v1 _ l [s] (hown1.below (Below.alloc (Below.refl _ _) (Nat.le_refl _) _)) (str_lit w2 s 9) (by simp; omega) (by omega)
  have hb3 : Below (w.heap.size + 1) (w1.alloc (.cells #[.int .u64 0, .int .u32 0] 26)) w3 := Below.grown hb2 hgr2 (by omega) (fun k hk => (hown1.lt k hk).1)
  have T3 := (HT1.out.alloc (.cells #[.int .u64 0, .int .u32 0] 26)).lower hb3 (by omega)
  have HB3 := Lib.hid (hB2.trans (hb3.mono (Nat.le_succ _)))
  have HT := Lib.hid (rtext_any _ l w3 (HV.out.below HB3.out) ht)
  have hsz := catF_size l
  obtain ⟨a1, cap1, rfl⟩ := hown1.slice
  obtain ⟨a2, cap2, rfl⟩ := hown2.slice
  obtain ⟨d0, d1, g0, g1⟩ := id T3
  have HT3 := Lib.hid T3
  have d2 : w.heap.size < w3.heap.size := vcell_lt d0
  have HO := Lib.hid hown2
  generalize hq : totF l = q at *
  generalize catF l = ct at *
  clear hb1 hb2 hb3 hgr1 hgr2 hz2 hz3 hz4 T3 hB2 HF hown1 hown2 HT1 HB0 c0 c1 f0 f1 HB1 c2 hq
  go_wp2_with (first | (at_builtin; refine Lib.wpList_append_run _ rfl _ _ _ _ rfl _ _ rfl rfl _ _ hr1 ?_) | (at_builtin; refine Lib.wpList_append_run _ rfl _ _ _ _ rfl _ _ rfl rfl _ _ hr2 ?_) | fail)
  refine HT.out.mono ?_
  rintro y w4 ⟨rfl, rfl⟩
  go_wp2_with fail
  have HB := below_two HB3.out (Nat.le_refl _) (.int .u64 q) (.int .u32 s.size)
  have T2 := HT3.out.set (.int .u64 q) (.int .u32 s.size)
  refine bodyPost_ret (results_ct4 rfl _ _ w.heap.size _ _ _ _ _ _ rfl rfl rfl rfl T2.1 T2.2.1 Try.underlying26 rfl rct_size) rfl ⟨.slice a2 (strL (l ++ [s])).length cap2, ?_, ?_, HB, fun a n c e => .inr ?_⟩
  · rw [E.out, OA.out, LA.out, NW.out]; rfl
  · unfold newL
    rw [NW.out, if_pos rfl]
    exact (HO.out.two (by omega) _ _).valsAt.strs
  · have h := HO.out.lt a.block (by rw [e]; rfl)
    refine ⟨by omega, ?_⟩
    rw [World.size_setCell, World.size_setCell]
    exact h.2
theorem radd_any (v : Value) (l : List ByteArray) (s : ByteArray) (w : World) (hv : StrsAt w v l) (ht : totF l ≤ 1000000000) : Calls Try.prog 12 #[v, .string s] w (RAddEnd v l s w) := by
  by_cases h0 : s.size = 0
  · exact radd_none v l s w hv h0
  · by_cases h1 : 65536 < s.size
    · exact radd_long v l s w hv h1
    · cases hf : findF s l 0 with
      | some n => exact radd_found v l s w hv ht (by omega) (by omega) n hf
      | none =>
        by_cases h2 : 2048 ≤ l.length
        · exact radd_full v l s w hv ht (by omega) (by omega) hf h2
        · exact radd_new v l s w hv ht (by omega) (by omega) hf (by omega)
end Go.Proofs.Ytegboojhebhlnaa
