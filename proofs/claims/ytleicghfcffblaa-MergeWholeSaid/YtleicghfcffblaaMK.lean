/- Several texts, one behind the other: Kc, Kd, Ke. -/
import Derived.Test.YtleicghfcffblaaMA
/- Contracts of the law's long and of the document's Find and Text. -/
namespace Go.Proofs.Ytleicghfcffblaa
open Go.RowKit
set_option maxRecDepth 20000
set_option linter.unusedVariables false
set_option linter.unusedSimpArgs false
def overF (l : List ByteArray) (M : Int) : Bool := decide (M < totF l)
theorem long_pre (l : List ByteArray) (k : Nat) (t : ByteArray) (h : l[k]? = some t) (M : Int) (hM : M - (totF (l.take k) : Int) - (t.size : Int) < 0) : overF l M = true := by
  have h1 := totF_step l k t h
  have h2 := totF_take l (k + 1)
  unfold overF
  rw [decide_eq_true_eq]
  omega
set_option maxHeartbeats 1000000 in
theorem rtext_any (v : Value) (l : List ByteArray) (w : World) (hv : StrsAt w v l) (ht : totF l ≤ 1000000000) :
    Calls Try.prog 42 #[v] w fun e w' => e = .returned (.string (catF l)) ∧ w' = w := by
  obtain ⟨al, cap, rfl, hcap, hmx, hc⟩ := hv
  have HC := Lib.hid hc
  have hmx' : l.length ≤ maxLen := by omega
  unfold maxLen at hmx'
  clear hc
  go_enter Try.func42, Try.ntmps42
  go_wp2_with fail
  go_loop [3, 4] (fun s i => ∃ k : Nat, k ≤ l.length ∧ i = .int .i64 k ∧ s = .string (catF (l.take k))) (fun _ i => l.length - (intOf i).toNat)
  case atStart => exact ⟨0, Nat.zero_le _, rfl, by simp [catF]; rfl⟩
  case round =>
    obtain ⟨k, hk, rfl, rfl⟩ := hrel
    by_cases hlt : k < l.length
    · obtain ⟨t, htk⟩ : ∃ t, l[k]? = some t := ⟨_, List.getElem?_eq_getElem hlt⟩
      obtain ⟨g, off, rfl, hg, hcell⟩ := HC.out k t htk
      have HS := Lib.hid (catF_step l k t htk)
      have hsum : (catF (l.take k)).size + t.size ≤ 9223372036854775807 := by
        have h1 := totF_step l k t htk
        have h2 := totF_take l (k + 1)
        rw [catF_size]
        omega
      generalize catF (l.take k) = q at *
      go_wp2_with fail
      go_round
      case rel => exact ⟨k + 1, by omega, by go_num, by rw [HS.out]⟩
      case measure => simp [intOf]; omega
    · obtain rfl : k = l.length := by omega
      rw [List.take_length]
      go_wp2_with fail
      go_ret
      exact ⟨rfl, rfl⟩
set_option maxHeartbeats 1000000 in
theorem rfind_any (v : Value) (l : List ByteArray) (s : ByteArray) (w : World) (hv : StrsAt w v l) (ht : totF l ≤ 1000000000) (hs : s.size ≤ 1000000000) :
    Calls Try.prog 66 #[v, .string s] w fun e w' => e = .returned (.tuple #[.agg #[.int .u64 (offV (findF s l 0) : Nat), .int .u32 (lenV (findF s l 0) s : Nat)], .bool (findF s l 0).isSome]) ∧ Below w.heap.size w w' := by
  obtain ⟨al, cap, rfl, hcap, hmx, hc⟩ := hv
  have HC := Lib.hid hc
  have hmx' : l.length ≤ maxLen := by omega
  unfold maxLen at hmx'
  clear hc
  go_enter Try.func66, Try.ntmps66
  go_wp2_with fail
  go_loop [6, 7] (fun m i => ∃ k : Nat, k ≤ l.length ∧ i = .int .i64 k ∧ m = .int .i64 (totF (l.take k) : Nat) ∧ findF s l 0 = findF s (l.drop k) (totF (l.take k))) (fun _ i => l.length - (intOf i).toNat)
  case atStart => exact ⟨0, Nat.zero_le _, rfl, by simp [totF], by simp [totF]⟩
  case round =>
    obtain ⟨k, hk, rfl, rfl, hf⟩ := hrel
    have HF := Lib.hid hf
    clear hf
    by_cases hlt : k < l.length
    · obtain ⟨t, htk⟩ : ∃ t, l[k]? = some t := ⟨_, List.getElem?_eq_getElem hlt⟩
      obtain ⟨g, off, rfl, hg, hcell⟩ := HC.out k t htk
      have hcell' : (w.alloc (.cells #[.int .u64 0, .int .u32 0] 86)).cell? ⟨g, off + k, none⟩ = some (.string t) := vcell_later (Below.alloc (Below.refl _ _) (Nat.le_refl _) _) hcell
      have HS := Lib.hid (totF_step l k t htk)
      have hq1 := totF_step l k t htk
      have hq2 := totF_take l (k + 1)
      have HD := Lib.hid (drop_at l k t htk)
      generalize totF (l.take k) = q at *
      rw [HD.out, findF] at HF
      by_cases he : t = s
      · rw [if_pos he] at HF
        have hy := str_yes he
        go_wp2_with fail
        refine bodyPost_ret (v := .tuple #[.agg #[.int .u64 q, .int .u32 s.size], .bool true]) (results_ct rfl _ _ w.heap.size _ _ _ _ rfl rfl (by simp [go_sem]) (by simp [go_sem]) Try.underlying86 rfl rct_size) rfl ⟨?_, Below.alloc (Below.refl _ _) (Nat.le_refl _) _⟩
        rw [HF.out]
        simp [offV, lenV]
      · rw [if_neg he] at HF
        have hy := str_no he
        go_wp2_with fail
        go_round
        case rel => exact ⟨k + 1, by omega, by go_num, by rw [HS.out]; go_num, by rw [HS.out]; exact HF.out⟩
        case measure => simp [intOf]; omega
    · obtain rfl : k = l.length := by omega
      rw [List.drop_length, findF] at HF
      rw [List.take_length]
      go_wp2_with fail
      refine bodyPost_ret (v := .tuple #[.agg #[.int .u64 0, .int .u32 0], .bool false]) (results_ct rfl _ _ w.heap.size _ _ _ _ rfl rfl (by simp [go_sem]) (by simp [go_sem]) Try.underlying86 rfl rct_size) rfl ⟨?_, Below.alloc (Below.refl _ _) (Nat.le_refl _) _⟩
      rw [HF.out]
      simp [offV, lenV]
end Go.Proofs.Ytleicghfcffblaa
/- Contracts of the document's Add and Get. -/
namespace Go.Proofs.Ytleicghfcffblaa
open Go.RowKit
set_option maxRecDepth 20000
set_option linter.unusedVariables false
set_option linter.unusedSimpArgs false
def RAddEnd (v : Value) (l : List ByteArray) (s : ByteArray) (w : World) (e : Ending) (w' : World) : Prop :=
  ∃ v', e = .returned (.tuple #[v', .agg #[.int .u64 (offA l s : Nat), .int .u32 (lenA l s : Nat)], .bool (isNew l s), .int .i64 (eV l s : Nat)]) ∧ StrsAt w' v' (newL l s) ∧ Below w.heap.size w w' ∧ ∀ a n c, v' = .slice (some a) n c → v' = v ∨ (w.heap.size ≤ a.block ∧ a.block < w'.heap.size)
/-- What the document's Find tells, in any later world. -/
theorem rfind_later (v : Value) (l : List ByteArray) (s : ByteArray) (w : World) (hv : StrsAt w v l) (ht : totF l ≤ 1000000000) (hs : s.size ≤ 1000000000) (W : World) (hb : Below w.heap.size w W) :
    Calls Try.prog 66 #[v, .string s] W fun e w' => e = .returned (.tuple #[.agg #[.int .u64 (offV (findF s l 0) : Nat), .int .u32 (lenV (findF s l 0) s : Nat)], .bool (findF s l 0).isSome]) ∧ Below W.heap.size W w' :=
  rfind_any v l s W (hv.below hb) ht hs
theorem radd_none (v : Value) (l : List ByteArray) (s : ByteArray) (w : World) (hv : StrsAt w v l) (h1 : s.size = 0) : Calls Try.prog 40 #[v, .string s] w (RAddEnd v l s w) := by
  have E := Lib.hid (show eV l s = 2 by unfold eV; rw [if_pos h1])
  have NW := Lib.hid (show isNew l s = false by unfold isNew; rw [E.out]; rfl)
  have OA := Lib.hid (show offA l s = 0 by unfold offA; rw [NW.out, E.out]; rfl)
  have LA := Lib.hid (show lenA l s = 0 by unfold lenA; rw [E.out]; rfl)
  have HN := Lib.hid (fun w' (hb : Below w.heap.size w w') => show StrsAt w' v (newL l s) by unfold newL; rw [NW.out]; exact hv.below hb)
  have e1 : (s.size : Int) = 0 := by omega
  obtain ⟨al, cap, rfl, hcap, hmx, hc⟩ := hv
  have HB : Hid (Below w.heap.size w (w.alloc (.cells #[.int .u64 0, .int .u32 0] 86))) := Lib.hid (Below.alloc (Below.refl _ _) (Nat.le_refl _) _)
  go_enter Try.func40, Try.ntmps40
  go_wp2_with fail
  refine bodyPost_ret (results_ct4 rfl _ _ w.heap.size _ _ _ _ _ _ rfl rfl rfl rfl (by simp [go_sem]; rfl) (by simp [go_sem]; rfl) Try.underlying86 rfl rct_size) rfl ⟨_, ?_, HN.out _ HB.out, HB.out, fun _ _ _ _ => .inl rfl⟩
  rw [E.out, OA.out, LA.out, NW.out]; rfl
theorem radd_long (v : Value) (l : List ByteArray) (s : ByteArray) (w : World) (hv : StrsAt w v l) (h1 : 65536 < s.size) : Calls Try.prog 40 #[v, .string s] w (RAddEnd v l s w) := by
  have E := Lib.hid (show eV l s = 5 by unfold eV; rw [if_neg (by omega), if_pos h1])
  have NW := Lib.hid (show isNew l s = false by unfold isNew; rw [E.out]; rfl)
  have OA := Lib.hid (show offA l s = 0 by unfold offA; rw [NW.out, E.out]; rfl)
  have LA := Lib.hid (show lenA l s = 0 by unfold lenA; rw [E.out]; rfl)
  have HN := Lib.hid (fun w' (hb : Below w.heap.size w w') => show StrsAt w' v (newL l s) by unfold newL; rw [NW.out]; exact hv.below hb)
  have e1 : ((s.size : Int) == 0) = false := by rw [beq_eq_false_iff_ne]; omega
  obtain ⟨al, cap, rfl, hcap, hmx, hc⟩ := hv
  have HB : Hid (Below w.heap.size w (w.alloc (.cells #[.int .u64 0, .int .u32 0] 86))) := Lib.hid (Below.alloc (Below.refl _ _) (Nat.le_refl _) _)
  go_enter Try.func40, Try.ntmps40
  go_wp2_with fail
  refine bodyPost_ret (results_ct4 rfl _ _ w.heap.size _ _ _ _ _ _ rfl rfl rfl rfl (by simp [go_sem]; rfl) (by simp [go_sem]; rfl) Try.underlying86 rfl rct_size) rfl ⟨_, ?_, HN.out _ HB.out, HB.out, fun _ _ _ _ => .inl rfl⟩
  rw [E.out, OA.out, LA.out, NW.out]; rfl
set_option maxHeartbeats 1000000 in
theorem radd_full (v : Value) (l : List ByteArray) (s : ByteArray) (w : World) (hv : StrsAt w v l) (ht : totF l ≤ 1000000000) (h0 : 0 < s.size) (h1 : s.size ≤ 65536) (hf : findF s l 0 = none) (h2 : 2048 ≤ l.length) : Calls Try.prog 40 #[v, .string s] w (RAddEnd v l s w) := by
  have E := Lib.hid (show eV l s = 7 by unfold eV; rw [if_neg (by omega), if_neg (by omega), hf, if_neg (by simp), if_pos h2])
  have NW := Lib.hid (show isNew l s = false by unfold isNew; rw [E.out]; rfl)
  have OA := Lib.hid (show offA l s = 0 by unfold offA; rw [NW.out, E.out]; rfl)
  have LA := Lib.hid (show lenA l s = 0 by unfold lenA; rw [E.out]; rfl)
  have HN := Lib.hid (fun w' (hb : Below w.heap.size w w') => show StrsAt w' v (newL l s) by unfold newL; rw [NW.out]; exact hv.below hb)
  have e1 : ((s.size : Int) == 0) = false := by rw [beq_eq_false_iff_ne]; omega
  have e2 : ¬ 65536 < (s.size : Int) := by omega
  have HF := Lib.hid (rfind_later v l s w hv ht (by omega))
  rw [hf] at HF
  obtain ⟨al, cap, rfl, hcap, hmx, hc⟩ := hv
  have h2' : (2048 : Int) ≤ (l.length : Int) := by omega
  have hB0 : Below w.heap.size w (w.alloc (.cells #[.int .u64 0, .int .u32 0] 86)) := Below.alloc (Below.refl _ _) (Nat.le_refl _) _
  have HB0 := Lib.hid hB0
  clear hB0 hc
  go_enter Try.func40, Try.ntmps40
  go_wp2_with fail
  refine (HF.out _ HB0.out).mono ?_
  rintro y w1 ⟨rfl, hb⟩
  have T1 : Two w1 w.heap.size (.int .u64 0) (.int .u32 0) := (two_new w (.int .u64 0) (.int .u32 0) 86).below hb
  obtain ⟨c0, c1, f0, f1⟩ := id T1
  have HT1 := Lib.hid T1
  clear T1
  have c2 : w.heap.size < w1.heap.size := by have := hb.size; simp at this; omega
  have HB1 := Lib.hid (HB0.out.trans (hb.mono HB0.out.size))
  clear hb
  go_wp2_with fail
  have T2 := (HT1.out.set (.int .u64 0) (.int .u32 0)).alloc (.cells #[.int .u64 (offV none : Nat), .int .u32 (lenV none s : Nat)] 86)
  have HB := (below_two HB1.out (Nat.le_refl _) (.int .u64 0) (.int .u32 0)).alloc (o := .cells #[.int .u64 (offV none : Nat), .int .u32 (lenV none s : Nat)] 86) (by have := HB1.out.size; simp; omega)
  refine bodyPost_ret (results_ct4 rfl _ _ w.heap.size _ _ _ _ _ _ rfl rfl rfl rfl T2.1 T2.2.1 Try.underlying86 rfl rct_size) rfl ⟨_, ?_, HN.out _ HB, HB, fun _ _ _ _ => .inl rfl⟩
  rw [E.out, OA.out, LA.out, NW.out]; rfl
set_option maxHeartbeats 1000000 in
theorem radd_found (v : Value) (l : List ByteArray) (s : ByteArray) (w : World) (hv : StrsAt w v l) (ht : totF l ≤ 1000000000) (h0 : 0 < s.size) (h1 : s.size ≤ 65536) (n : Nat) (hf : findF s l 0 = some n) : Calls Try.prog 40 #[v, .string s] w (RAddEnd v l s w) := by
  have E := Lib.hid (show eV l s = 0 by unfold eV; rw [if_neg (by omega), if_neg (by omega), hf, if_pos (by simp)])
  have NW := Lib.hid (show isNew l s = false by unfold isNew; rw [hf]; simp)
  have OA := Lib.hid (show offA l s = n by unfold offA; rw [NW.out, E.out, hf]; rfl)
  have LA := Lib.hid (show lenA l s = s.size by unfold lenA; rw [E.out]; rfl)
  have HN := Lib.hid (fun w' (hb : Below w.heap.size w w') => show StrsAt w' v (newL l s) by unfold newL; rw [NW.out]; exact hv.below hb)
  have e1 : ((s.size : Int) == 0) = false := by rw [beq_eq_false_iff_ne]; omega
  have e2 : ¬ 65536 < (s.size : Int) := by omega
  have HF := Lib.hid (rfind_later v l s w hv ht (by omega))
  rw [hf, show offV (some n) = n from rfl, show lenV (some n) s = s.size from rfl, show (some n).isSome = true from rfl] at HF
  obtain ⟨al, cap, rfl, hcap, hmx, hc⟩ := hv
  have hB0 : Below w.heap.size w (w.alloc (.cells #[.int .u64 0, .int .u32 0] 86)) := Below.alloc (Below.refl _ _) (Nat.le_refl _) _
  have HB0 := Lib.hid hB0
  clear hB0 hc hf
  go_enter Try.func40, Try.ntmps40
  go_wp2_with fail
  refine (HF.out _ HB0.out).mono ?_
  rintro y w1 ⟨rfl, hb⟩
  have T1 : Two w1 w.heap.size (.int .u64 0) (.int .u32 0) := (two_new w (.int .u64 0) (.int .u32 0) 86).below hb
  obtain ⟨c0, c1, f0, f1⟩ := id T1
  have HT1 := Lib.hid T1
  clear T1
  have c2 : w.heap.size < w1.heap.size := by have := hb.size; simp at this; omega
  have HB1 := Lib.hid (HB0.out.trans (hb.mono HB0.out.size))
  clear hb
  go_wp2_with fail
  go_region
  go_wp2_with fail
  have T2 := (HT1.out.set (.int .u64 n) (.int .u32 s.size)).alloc (.cells #[.int .u64 n, .int .u32 s.size] 86)
  have HB := ((below_two HB1.out (Nat.le_refl _) (.int .u64 n) (.int .u32 s.size)).alloc (o := .cells #[.int .u64 n, .int .u32 s.size] 86) (by have := HB1.out.size; simp; omega)).drew
  refine bodyPost_ret (results_ct4 rfl _ _ w.heap.size _ _ _ _ _ _ rfl rfl rfl rfl T2.1 T2.2.1 Try.underlying86 rfl rct_size) rfl ⟨_, ?_, HN.out _ HB, HB, fun _ _ _ _ => .inl rfl⟩
  rw [E.out, OA.out, LA.out, NW.out]; rfl
end Go.Proofs.Ytleicghfcffblaa
/- The contract of the document's Add where a content is new; of Add, whole. -/
namespace Go.Proofs.Ytleicghfcffblaa
open Go.RowKit
set_option maxRecDepth 20000
set_option linter.unusedVariables false
set_option linter.unusedSimpArgs false
set_option maxRecDepth 20000 in
set_option maxHeartbeats 1000000 in
theorem radd_new (v : Value) (l : List ByteArray) (s : ByteArray) (w : World) (hv : StrsAt w v l) (ht : totF l ≤ 1000000000) (h0 : 0 < s.size) (h1 : s.size ≤ 65536) (hf : findF s l 0 = none) (h2 : l.length < 2048) : Calls Try.prog 40 #[v, .string s] w (RAddEnd v l s w) := by
  have E := Lib.hid (show eV l s = 0 by unfold eV; rw [if_neg (by omega), if_neg (by omega), hf, if_neg (by simp), if_neg (by omega)])
  have NW := Lib.hid (show isNew l s = true by unfold isNew; rw [hf, E.out]; rfl)
  have OA := Lib.hid (show offA l s = totF l by unfold offA; rw [NW.out]; rfl)
  have LA := Lib.hid (show lenA l s = s.size by unfold lenA; rw [E.out]; rfl)
  have e1 : ((s.size : Int) == 0) = false := by rw [beq_eq_false_iff_ne]; omega
  have e2 : ¬ 65536 < (s.size : Int) := by omega
  have e3 : decide ((2048 : Int) ≤ (l.length : Int)) = false := decide_eq_false (by omega)
  have HF := Lib.hid (rfind_later v l s w hv ht (by omega))
  rw [hf, show ((offV none : Nat) : Int) = 0 from rfl, show ((lenV none s : Nat) : Int) = 0 from rfl, show (none : Option Nat).isSome = false from rfl] at HF
  have HV := Lib.hid hv
  obtain ⟨al, cap, rfl, hcap, hmx, hc⟩ := hv
  have hB0 : Below w.heap.size w (w.alloc (.cells #[.int .u64 0, .int .u32 0] 86)) := Below.alloc (Below.refl _ _) (Nat.le_refl _) _
  have HB0 := Lib.hid hB0
  clear hB0 hc hf
  go_enter Try.func40, Try.ntmps40
  go_wp2_with fail
  refine (HF.out _ HB0.out).mono ?_
  rintro y w1 ⟨rfl, hb⟩
  have T1 : Two w1 w.heap.size (.int .u64 0) (.int .u32 0) := (two_new w (.int .u64 0) (.int .u32 0) 86).below hb
  obtain ⟨c0, c1, f0, f1⟩ := id T1
  have HT1 := Lib.hid T1
  clear T1
  have c2 : w.heap.size < w1.heap.size := by have := hb.size; simp at this; omega
  have HB1 := Lib.hid (HB0.out.trans (hb.mono HB0.out.size))
  clear hb
  have hB2 : Below w.heap.size w (w1.alloc (.cells #[.int .u64 0, .int .u32 0] 86)) := HB1.out.alloc (by omega) _
  have hz2 : (w1.alloc (.cells #[.int .u64 0, .int .u32 0] 86)).heap.size = w1.heap.size + 1 := by simp
  obtain ⟨v1, w2, hr1, hown1, hgr1⟩ := sappend_run (w1.alloc (.cells #[.int .u64 0, .int .u32 0] 86)) (w.heap.size + 1) 85 (.slice none 0 0) _ [] l (ownV_nil _ _ _) (HV.out.below hB2) (by simp; omega) (by omega)
  rw [List.nil_append] at hown1
  have hb1 : Below (w.heap.size + 1) (w1.alloc (.cells #[.int .u64 0, .int .u32 0] 86)) w2 := Below.grown (Below.refl _ _) hgr1 (by omega) (fun k hk => by cases hk)
  have hz3 := hb1.size
  have hb2 : Below (w.heap.size + 1) (w1.alloc (.cells #[.int .u64 0, .int .u32 0] 86)) (w2.alloc (.cells #[.string s] 9)) := hb1.alloc (by omega) _
  have hz4 : (w2.alloc (.cells #[.string s] 9)).heap.size = w2.heap.size + 1 := by simp
  obtain ⟨v2, w3, hr2, hown2, hgr2⟩ := sappend_run (w2.alloc (.cells #[.string s] 9)) (w.heap.size + 1) 85 v1 _ l [s] (hown1.below (Below.alloc (Below.refl _ _) (Nat.le_refl _) _)) (str_lit w2 s 9) (by simp; omega) (by omega)
  have hb3 : Below (w.heap.size + 1) (w1.alloc (.cells #[.int .u64 0, .int .u32 0] 86)) w3 := Below.grown hb2 hgr2 (by omega) (fun k hk => (hown1.lt k hk).1)
  have T3 := (HT1.out.alloc (.cells #[.int .u64 0, .int .u32 0] 86)).lower hb3 (by omega)
  have HB3 := Lib.hid (hB2.trans (hb3.mono (Nat.le_succ _)))
  have HT := Lib.hid (rtext_any _ l w3 (HV.out.below HB3.out) ht)
  have hsz := catF_size l
  obtain ⟨a1, cap1, rfl⟩ := hown1.slice
  obtain ⟨a2, cap2, rfl⟩ := hown2.slice
  obtain ⟨d0, d1, g0, g1⟩ := id T3
  have HT3 := Lib.hid T3
  have d2 : w.heap.size < w3.heap.size := vcell_lt d0
  have HO := Lib.hid hown2
  generalize hq : totF l = q at *
  generalize catF l = ct at *
  clear hb1 hb2 hb3 hgr1 hgr2 hz2 hz3 hz4 T3 hB2 HF hown1 hown2 HT1 HB0 c0 c1 f0 f1 HB1 c2 hq
  go_wp2_with (first | (at_builtin; refine Lib.wpList_append_run _ rfl _ _ _ _ rfl _ _ rfl rfl _ _ hr1 ?_) | (at_builtin; refine Lib.wpList_append_run _ rfl _ _ _ _ rfl _ _ rfl rfl _ _ hr2 ?_) | fail)
  refine HT.out.mono ?_
  rintro y w4 ⟨rfl, rfl⟩
  go_wp2_with fail
  have HB := below_two HB3.out (Nat.le_refl _) (.int .u64 q) (.int .u32 s.size)
  have T2 := HT3.out.set (.int .u64 q) (.int .u32 s.size)
  refine bodyPost_ret (results_ct4 rfl _ _ w.heap.size _ _ _ _ _ _ rfl rfl rfl rfl T2.1 T2.2.1 Try.underlying86 rfl rct_size) rfl ⟨.slice a2 (strL (l ++ [s])).length cap2, ?_, ?_, HB, fun a n c e => .inr ?_⟩
  · rw [E.out, OA.out, LA.out, NW.out]; rfl
  · unfold newL
    rw [NW.out, if_pos rfl]
    exact (HO.out.two (by omega) _ _).valsAt.strs
  · have h := HO.out.lt a.block (by rw [e]; rfl)
    refine ⟨by omega, ?_⟩
    rw [World.size_setCell, World.size_setCell]
    exact h.2
theorem radd_any (v : Value) (l : List ByteArray) (s : ByteArray) (w : World) (hv : StrsAt w v l) (ht : totF l ≤ 1000000000) : Calls Try.prog 40 #[v, .string s] w (RAddEnd v l s w) := by
  by_cases h0 : s.size = 0
  · exact radd_none v l s w hv h0
  · by_cases h1 : 65536 < s.size
    · exact radd_long v l s w hv h1
    · cases hf : findF s l 0 with
      | some n => exact radd_found v l s w hv ht (by omega) (by omega) n hf
      | none =>
        by_cases h2 : 2048 ≤ l.length
        · exact radd_full v l s w hv ht (by omega) (by omega) hf h2
        · exact radd_new v l s w hv ht (by omega) (by omega) hf (by omega)
end Go.Proofs.Ytleicghfcffblaa
