/- Contracts of the document's Add and Get. -/
import Derived.Test.YtegboojhebhlnaaKc
namespace Go.Proofs.Ytegboojhebhlnaa
open Go.RowKit
set_option linter.unusedVariables false
set_option linter.unusedSimpArgs false
def RAddEnd (v : Value) (l : List ByteArray) (s : ByteArray) (w : World) (e : Ending) (w' : World) : Prop :=
  ∃ v', e = .returned (.tuple #[v', .agg #[.int .u64 (offA l s : Nat), .int .u32 (lenA l s : Nat)], .bool (isNew l s), .int .i64 (eV l s : Nat)]) ∧ StrsAt w' v' (newL l s) ∧ Below w.heap.size w w' ∧ ∀ a n c, v' = .slice (some a) n c → v' = v ∨ (w.heap.size ≤ a.block ∧ a.block < w'.heap.size)
/-- What the document's Find tells, in any later world. -/
theorem rfind_later (v : Value) (l : List ByteArray) (s : ByteArray) (w : World) (hv : StrsAt w v l) (ht : totF l ≤ 1000000000) (hs : s.size ≤ 1000000000) (W : World) (hb : Below w.heap.size w W) :
    Calls Try.prog 14 #[v, .string s] W fun e w' => e = .returned (.tuple #[.agg #[.int .u64 (offV (findF s l 0) : Nat), .int .u32 (lenV (findF s l 0) s : Nat)], .bool (findF s l 0).isSome]) ∧ Below W.heap.size W w' :=
  rfind_any v l s W (hv.below hb) ht hs
theorem radd_none (v : Value) (l : List ByteArray) (s : ByteArray) (w : World) (hv : StrsAt w v l) (h1 : s.size = 0) : Calls Try.prog 12 #[v, .string s] w (RAddEnd v l s w) := by
  have E := Lib.hid (show eV l s = 2 by unfold eV; rw [if_pos h1])
  have NW := Lib.hid (show isNew l s = false by unfold isNew; rw [E.out]; rfl)
  have OA := Lib.hid (show offA l s = 0 by unfold offA; rw [NW.out, E.out]; rfl)
  have LA := Lib.hid (show lenA l s = 0 by unfold lenA; rw [E.out]; rfl)
  have HN := Lib.hid (fun w' (hb : Below w.heap.size w w') => show StrsAt w' v (newL l s) by unfold newL; rw [NW.out]; exact hv.below hb)
  have e1 : (s.size : Int) = 0 := by omega
  obtain ⟨al, cap, rfl, hcap, hmx, hc⟩ := hv
  have HB : Hid (Below w.heap.size w (w.alloc (.cells #[.int .u64 0, .int .u32 0] 26))) := Lib.hid (Below.alloc (Below.refl _ _) (Nat.le_refl _) _)
  go_enter Try.func12, Try.ntmps12
  go_wp2_with fail
  refine bodyPost_ret (results_ct4 rfl _ _ w.heap.size _ _ _ _ _ _ rfl rfl rfl rfl (by simp [go_sem]; rfl) (by simp [go_sem]; rfl) Try.underlying26 rfl rct_size) rfl ⟨_, ?_, HN.out _ HB.out, HB.out, fun _ _ _ _ => .inl rfl⟩
  rw [E.out, OA.out, LA.out, NW.out]; rfl
theorem radd_long (v : Value) (l : List ByteArray) (s : ByteArray) (w : World) (hv : StrsAt w v l) (h1 : 65536 < s.size) : Calls Try.prog 12 #[v, .string s] w (RAddEnd v l s w) := by
  have E := Lib.hid (show eV l s = 5 by unfold eV; rw [if_neg (by omega), if_pos h1])
  have NW := Lib.hid (show isNew l s = false by unfold isNew; rw [E.out]; rfl)
  have OA := Lib.hid (show offA l s = 0 by unfold offA; rw [NW.out, E.out]; rfl)
  have LA := Lib.hid (show lenA l s = 0 by unfold lenA; rw [E.out]; rfl)
  have HN := Lib.hid (fun w' (hb : Below w.heap.size w w') => show StrsAt w' v (newL l s) by unfold newL; rw [NW.out]; exact hv.below hb)
  have e1 : ((s.size : Int) == 0) = false := by rw [beq_eq_false_iff_ne]; omega
  obtain ⟨al, cap, rfl, hcap, hmx, hc⟩ := hv
  have HB : Hid (Below w.heap.size w (w.alloc (.cells #[.int .u64 0, .int .u32 0] 26))) := Lib.hid (Below.alloc (Below.refl _ _) (Nat.le_refl _) _)
  go_enter Try.func12, Try.ntmps12
  go_wp2_with fail
  refine bodyPost_ret (results_ct4 rfl _ _ w.heap.size _ _ _ _ _ _ rfl rfl rfl rfl (by simp [go_sem]; rfl) (by simp [go_sem]; rfl) Try.underlying26 rfl rct_size) rfl ⟨_, ?_, HN.out _ HB.out, HB.out, fun _ _ _ _ => .inl rfl⟩
  rw [E.out, OA.out, LA.out, NW.out]; rfl
set_option maxHeartbeats 1000000 in
theorem radd_full (v : Value) (l : List ByteArray) (s : ByteArray) (w : World) (hv : StrsAt w v l) (ht : totF l ≤ 1000000000) (h0 : 0 < s.size) (h1 : s.size ≤ 65536) (hf : findF s l 0 = none) (h2 : 2048 ≤ l.length) : Calls Try.prog 12 #[v, .string s] w (RAddEnd v l s w) := by
  have E := Lib.hid (show eV l s = 7 by unfold eV; rw [if_neg (by omega), if_neg (by omega), hf, if_neg (by simp), if_pos h2])
  have NW := Lib.hid (show isNew l s = false by unfold isNew; rw [E.out]; rfl)
  have OA := Lib.hid (show offA l s = 0 by unfold offA; rw [NW.out, E.out]; rfl)
  have LA := Lib.hid (show lenA l s = 0 by unfold lenA; rw [E.out]; rfl)
  have HN := Lib.hid (fun w' (hb : Below w.heap.size w w') => show StrsAt w' v (newL l s) by unfold newL; rw [NW.out]; exact hv.below hb)
  have e1 : ((s.size : Int) == 0) = false := by rw [beq_eq_false_iff_ne]; omega
  have e2 : ¬ 65536 < (s.size : Int) := by omega
  have HF := Lib.hid (rfind_later v l s w hv ht (by omega))
  rw [hf] at HF
  obtain ⟨al, cap, rfl, hcap, hmx, hc⟩ := hv
  have h2' : (2048 : Int) ≤ (l.length : Int) := by omega
  have hB0 : Below w.heap.size w (w.alloc (.cells #[.int .u64 0, .int .u32 0] 26)) := Below.alloc (Below.refl _ _) (Nat.le_refl _) _
  have HB0 := Lib.hid hB0
  clear hB0 hc
  go_enter Try.func12, Try.ntmps12
  go_wp2_with fail
  refine (HF.out _ HB0.out).mono ?_
  rintro y w1 ⟨rfl, hb⟩
  have T1 : Two w1 w.heap.size (.int .u64 0) (.int .u32 0) := (two_new w (.int .u64 0) (.int .u32 0) 26).below hb
  obtain ⟨c0, c1, f0, f1⟩ := id T1
  have HT1 := Lib.hid T1
  clear T1
  have c2 : w.heap.size < w1.heap.size := by have := hb.size; simp at this; omega
  have HB1 := Lib.hid (HB0.out.trans (hb.mono HB0.out.size))
  clear hb
  go_wp2_with fail
  have T2 := (HT1.out.set (.int .u64 0) (.int .u32 0)).alloc (.cells #[.int .u64 (offV none : Nat), .int .u32 (lenV none s : Nat)] 26)
  have HB := (below_two HB1.out (Nat.le_refl _) (.int .u64 0) (.int .u32 0)).alloc (o := .cells #[.int .u64 (offV none : Nat), .int .u32 (lenV none s : Nat)] 26) (by have := HB1.out.size; simp; omega)
  refine bodyPost_ret (results_ct4 rfl _ _ w.heap.size _ _ _ _ _ _ rfl rfl rfl rfl T2.1 T2.2.1 Try.underlying26 rfl rct_size) rfl ⟨_, ?_, HN.out _ HB, HB, fun _ _ _ _ => .inl rfl⟩
  rw [E.out, OA.out, LA.out, NW.out]; rfl
set_option maxHeartbeats 1000000 in
theorem radd_found (v : Value) (l : List ByteArray) (s : ByteArray) (w : World) (hv : StrsAt w v l) (ht : totF l ≤ 1000000000) (h0 : 0 < s.size) (h1 : s.size ≤ 65536) (n : Nat) (hf : findF s l 0 = some n) : Calls Try.prog 12 #[v, .string s] w (RAddEnd v l s w) := by
  have E := Lib.hid (show eV l s = 0 by unfold eV; rw [if_neg (by omega), if_neg (by omega), hf, if_pos (by simp)])
  have NW := Lib.hid (show isNew l s = false by unfold isNew; rw [hf]; simp)
  have OA := Lib.hid (show offA l s = n by unfold offA; rw [NW.out, E.out, hf]; rfl)
  have LA := Lib.hid (show lenA l s = s.size by unfold lenA; rw [E.out]; rfl)
  have HN := Lib.hid (fun w' (hb : Below w.heap.size w w') => show StrsAt w' v (newL l s) by unfold newL; rw [NW.out]; exact hv.below hb)
  have e1 : ((s.size : Int) == 0) = false := by rw [beq_eq_false_iff_ne]; omega
  have e2 : ¬ 65536 < (s.size : Int) := by omega
  have HF := Lib.hid (rfind_later v l s w hv ht (by omega))
  rw [hf, show offV (some n) = n from rfl, show lenV (some n) s = s.size from rfl, show (some n).isSome = true from rfl] at HF
  obtain ⟨al, cap, rfl, hcap, hmx, hc⟩ := hv
  have hB0 : Below w.heap.size w (w.alloc (.cells #[.int .u64 0, .int .u32 0] 26)) := Below.alloc (Below.refl _ _) (Nat.le_refl _) _
  have HB0 := Lib.hid hB0
  clear hB0 hc hf
  go_enter Try.func12, Try.ntmps12
  go_wp2_with fail
  refine (HF.out _ HB0.out).mono ?_
  rintro y w1 ⟨rfl, hb⟩
  have T1 : Two w1 w.heap.size (.int .u64 0) (.int .u32 0) := (two_new w (.int .u64 0) (.int .u32 0) 26).below hb
  obtain ⟨c0, c1, f0, f1⟩ := id T1
  have HT1 := Lib.hid T1
  clear T1
  have c2 : w.heap.size < w1.heap.size := by have := hb.size; simp at this; omega
  have HB1 := Lib.hid (HB0.out.trans (hb.mono HB0.out.size))
  clear hb
  go_wp2_with fail
  go_region
  go_wp2_with fail
  have T2 := (HT1.out.set (.int .u64 n) (.int .u32 s.size)).alloc (.cells #[.int .u64 n, .int .u32 s.size] 26)
  have HB := ((below_two HB1.out (Nat.le_refl _) (.int .u64 n) (.int .u32 s.size)).alloc (o := .cells #[.int .u64 n, .int .u32 s.size] 26) (by have := HB1.out.size; simp; omega)).drew
  refine bodyPost_ret (results_ct4 rfl _ _ w.heap.size _ _ _ _ _ _ rfl rfl rfl rfl T2.1 T2.2.1 Try.underlying26 rfl rct_size) rfl ⟨_, ?_, HN.out _ HB, HB, fun _ _ _ _ => .inl rfl⟩
  rw [E.out, OA.out, LA.out, NW.out]; rfl
end Go.Proofs.Ytegboojhebhlnaa
