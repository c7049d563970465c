/- cMG cMN cYb cYe cPa cPb cMR cMV cYc cPc. -/
import Derived.IntWalk
import Derived.WalkKit
import Derived.Outline
import Derived.WalkSpells
import Derived.WalkLawsBesides
import Derived.Lib.Hide
import Derived.RegionTactic
import Derived.Handy
import Derived.Deep.RegionWith
import Derived.Laws.CopyOwn
import Derived.Laws.MakeOwn
import Derived.Laws.BytesString
import Derived.Lib.SlBytesConst
import Derived.Laws.IdiomStrings
import Derived.Test.YtdnmgpcfgcidbaaGreatDoorRows
import Derived.BigQuiet
import Derived.Deep.DeepCutAuto
import Derived.Deep.RegionHeld3
import Derived.BigRegion
import Derived.Test.YtdnmgpcfgcidbaaGreatDoorPb4
import Derived.Test.YtdnmgpcfgcidbaaGreatDoorPb1
import Derived.Test.YtdnmgpcfgcidbaaGreatDoorPc1
import Derived.Laws.StructEq
namespace Go.Proofs.YtdnmgpcfgcidbaaGreatDoor
set_option linter.unusedVariables false
set_option linter.unusedSimpArgs false
open Go.RowKit
set_option maxRecDepth 20000
theorem leB_leH (n : Nat) (x : Int) : leB n x = leH n x := by
  induction n generalizing x with
  | zero => rfl
  | succ n ih => rw [leB, leH, ih]
theorem leH_mod (n : Nat) (m x : Int) : leH n (x % (256 ^ n * m)) = leH n x := by
  induction n generalizing x with
  | zero => rfl
  | succ n ih =>
    rw [leH, leH]
    have e : (256 : Int) ^ (n + 1) * m = 256 * (256 ^ n * m) := by rw [Int.pow_succ, Int.mul_comm (256 ^ n) 256, Int.mul_assoc]
    rw [e]
    have h1 : x % (256 * (256 ^ n * m)) % 256 = x % 256 := Int.emod_emod_of_dvd x ⟨_, rfl⟩
    have h2 : x % (256 * (256 ^ n * m)) / 256 = x / 256 % (256 ^ n * m) := by
      have h3 := Int.emod_add_mul_ediv x (256 * (256 ^ n * m))
      rw [Int.emod_def x, Int.emod_def (x / 256), Int.mul_assoc 256, Int.sub_mul_ediv_left _ _ (by omega : (256 : Int) ≠ 0), Int.ediv_ediv_of_nonneg (by omega : (0 : Int) ≤ 256)]
    rw [h1, h2, ih]
theorem leH_wrap (n : Nat) (x : Int) (h : n ≤ 8) : leH n (IntKind.u64.wrap x) = leH n x := by
  rw [wrap_u64]
  have := leH_mod n (256 ^ (8 - n)) x
  rw [← Int.pow_add, show n + (8 - n) = 8 from by omega] at this
  exact this
def flatH (n : Nat) : List Int → List Int
  | [] => []
  | x :: l => leH n x ++ flatH n l
theorem flatH_append (n : Nat) (a b : List Int) : flatH n (a ++ b) = flatH n a ++ flatH n b := by
  induction a with
  | nil => rfl
  | cons x a ih => rw [List.cons_append, flatH, flatH, ih, List.append_assoc]
theorem flatH_len (n : Nat) (l : List Int) : (flatH n l).length = n * l.length := by
  induction l with
  | nil => rfl
  | cons x l ih => rw [flatH, List.length_append, leH_len, ih, List.length_cons, Nat.mul_succ, Nat.add_comm]
theorem flatH_take (n : Nat) (l : List Int) (k : Nat) (h : k < l.length) : flatH n (l.take (k + 1)) = flatH n (l.take k) ++ leH n (l.getD k 0) := by
  rw [take_snocBb l k h, flatH_append]
  simp [flatH]
theorem getD_mem (l : List Int) (k : Nat) (h : k < l.length) : l.getD k 0 ∈ l := by
  have e : l.getD k 0 = l[k] := by simp [h]
  rw [e]
  exact List.getElem_mem h
theorem wrap_bd (x : Int) : 0 ≤ IntKind.u64.wrap x ∧ IntKind.u64.wrap x ≤ 18446744073709551615 := by rw [wrap_u64]; omega
def LayEndCc (w : World) (l : List Int) (e : Ending) (w' : World) : Prop := ∃ v, e = .returned v ∧ BytesAt w' v l ∧ Below w.heap.size w w'
set_option maxRecDepth 20000 in
theorem layI_any (v vl : Value) (b l : List Int) (n : Nat) (w : World) (hb : BytesAt w v b) (hl : NumsAt .i64 w vl l) (h0 : 1 ≤ n) (h8 : n ≤ 8) (hs : b.length + n * l.length ≤ 1000000) :
    Calls Tryz.prog 147 #[v, .int .i64 n, vl] w (LayEndCc w (b ++ flatH n l)) := by
  obtain ⟨c, cap, rfl, hc1, hc2, hc, hcell⟩ := hl
  have HC := Lib.hid hcell; clear hcell
  have hml : l.length ≤ 9223372036854775807 := by unfold maxLen at hc2; omega
  have HB := Lib.hid hb; clear hb
  go_enter Tryz.func147, Tryz.ntmps147
  go_wp2_with fail
  go_loopw [0, 11] (fun v i wr => ∃ k : Nat, k ≤ l.length ∧ i = .int .i64 k ∧ BytesAt wr v (b ++ flatH n (l.take k)) ∧ Below w.heap.size w wr) (fun _ i _ => l.length - (intOf i).toNat)
  case atStart => exact ⟨0, Nat.zero_le _, rfl, by simpa [flatH] using HB.out, Below.refl _ _⟩
  case round =>
    obtain ⟨k, hk, rfl, hbr, hbw⟩ := hrel
    have hsz := hbw.size
    by_cases hlt : k < l.length
    · have c1 := (hbw.cell (p := ⟨c, k, none⟩) hc).trans (HC.out k hlt)
      have hlen : (b ++ flatH n (l.take k)).length ≤ 1000000 := by
        rw [List.length_append, flatH_len, List.length_take, Nat.min_eq_left hk]
        have := Nat.mul_le_mul_left n hk
        omega
      have HT : Hid (b ++ flatH n (l.take (k + 1)) = b ++ flatH n (l.take k) ++ leB n (IntKind.u64.wrap (l.getD k 0))) := Lib.hid (by rw [flatH_take n l k hlt, leB_leH, leH_wrap n _ h8, ← List.append_assoc])
      obtain ⟨x, hxx⟩ : ∃ x, l.getD k 0 = x := ⟨_, rfl⟩
      rw [hxx] at c1 HT
      have HX := Lib.hid hxx; clear hxx
      obtain ⟨L, hL⟩ : ∃ L, b ++ flatH n (l.take k) = L := ⟨_, rfl⟩
      rw [hL] at hbr HT hlen
      clear hL HX
      have HBR := Lib.hid hbr; clear hbr
      have HL := Lib.hid hlen; clear hlen
      have HBW := Lib.hid hbw; clear hbw
      have hwb := wrap_bd x
      go_wp2_with fail
      refine (put_anyCc _ L n (IntKind.u64.wrap x) n _ HBR.out HL.out (.inl ⟨rfl, h0, h8⟩) hwb.1 hwb.2).mono ?_
      rintro e w1 ⟨v1, rfl, ho, hb1⟩
      have hbe := ho.bytesAt
      rw [← HT.out] at hbe
      have hbw1 := HBW.out.trans (hb1.mono hsz)
      clear hb1 ho
      go_wp2_with fail
      go_roundw
      case rel => exact ⟨k + 1, by omega, by go_num, hbe, hbw1⟩
      case measure => simp [intOf]; omega
    · obtain rfl : k = l.length := by omega
      rw [List.take_length] at hbr
      go_wp2_with fail
      go_ret
      exact ⟨_, rfl, hbr, hbw⟩
set_option maxRecDepth 20000 in
theorem layW_any (v vl : Value) (b l : List Int) (n : Nat) (w : World) (hb : BytesAt w v b) (hl : NumsAt .u64 w vl l) (hx : ∀ x ∈ l, U64 x) (h0 : 1 ≤ n) (h8 : n ≤ 8) (hs : b.length + n * l.length ≤ 1000000) :
    Calls Tryz.prog 148 #[v, .int .i64 n, vl] w (LayEndCc w (b ++ flatH n l)) := by
  obtain ⟨c, cap, rfl, hc1, hc2, hc, hcell⟩ := hl
  have HC := Lib.hid hcell; clear hcell
  have hml : l.length ≤ 9223372036854775807 := by unfold maxLen at hc2; omega
  have HB := Lib.hid hb; clear hb
  have HXX := Lib.hid hx; clear hx
  go_enter Tryz.func148, Tryz.ntmps148
  go_wp2_with fail
  go_loopw [0, 11] (fun v i wr => ∃ k : Nat, k ≤ l.length ∧ i = .int .i64 k ∧ BytesAt wr v (b ++ flatH n (l.take k)) ∧ Below w.heap.size w wr) (fun _ i _ => l.length - (intOf i).toNat)
  case atStart => exact ⟨0, Nat.zero_le _, rfl, by simpa [flatH] using HB.out, Below.refl _ _⟩
  case round =>
    obtain ⟨k, hk, rfl, hbr, hbw⟩ := hrel
    have hsz := hbw.size
    by_cases hlt : k < l.length
    · have c1 := (hbw.cell (p := ⟨c, k, none⟩) hc).trans (HC.out k hlt)
      have hlen : (b ++ flatH n (l.take k)).length ≤ 1000000 := by
        rw [List.length_append, flatH_len, List.length_take, Nat.min_eq_left hk]
        have := Nat.mul_le_mul_left n hk
        omega
      have HT : Hid (b ++ flatH n (l.take (k + 1)) = b ++ flatH n (l.take k) ++ leB n (l.getD k 0)) := Lib.hid (by rw [flatH_take n l k hlt, leB_leH, ← List.append_assoc])
      have hbx : U64 (l.getD k 0) := HXX.out _ (getD_mem l k hlt)
      obtain ⟨x, hxx⟩ : ∃ x, l.getD k 0 = x := ⟨_, rfl⟩
      rw [hxx] at c1 HT hbx
      have HX := Lib.hid hxx; clear hxx
      obtain ⟨L, hL⟩ : ∃ L, b ++ flatH n (l.take k) = L := ⟨_, rfl⟩
      rw [hL] at hbr HT hlen
      clear hL HX
      have HBR := Lib.hid hbr; clear hbr
      have HL := Lib.hid hlen; clear hlen
      have HBW := Lib.hid hbw; clear hbw
      obtain ⟨hx0, hx1⟩ := hbx
      go_wp2_with fail
      refine (put_anyCc _ L n (x) n _ HBR.out HL.out (.inl ⟨rfl, h0, h8⟩) hx0 hx1).mono ?_
      rintro e w1 ⟨v1, rfl, ho, hb1⟩
      have hbe := ho.bytesAt
      rw [← HT.out] at hbe
      have hbw1 := HBW.out.trans (hb1.mono hsz)
      clear hb1 ho
      go_wp2_with fail
      go_roundw
      case rel => exact ⟨k + 1, by omega, by go_num, hbe, hbw1⟩
      case measure => simp [intOf]; omega
    · obtain rfl : k = l.length := by omega
      rw [List.take_length] at hbr
      go_wp2_with fail
      go_ret
      exact ⟨_, rfl, hbr, hbw⟩
set_option maxRecDepth 20000 in
theorem layB_any (v vl : Value) (b l : List Int) (n : Nat) (w : World) (hb : BytesAt w v b) (hl : NumsAt .u8 w vl l) (hx : ∀ x ∈ l, U8 x) (h0 : 1 ≤ n) (h8 : n ≤ 8) (hs : b.length + n * l.length ≤ 1000000) :
    Calls Tryz.prog 149 #[v, .int .i64 n, vl] w (LayEndCc w (b ++ flatH n l)) := by
  obtain ⟨c, cap, rfl, hc1, hc2, hc, hcell⟩ := hl
  have HC := Lib.hid hcell; clear hcell
  have hml : l.length ≤ 9223372036854775807 := by unfold maxLen at hc2; omega
  have HB := Lib.hid hb; clear hb
  have HXX := Lib.hid hx; clear hx
  go_enter Tryz.func149, Tryz.ntmps149
  go_wp2_with fail
  go_loopw [0, 11] (fun v i wr => ∃ k : Nat, k ≤ l.length ∧ i = .int .i64 k ∧ BytesAt wr v (b ++ flatH n (l.take k)) ∧ Below w.heap.size w wr) (fun _ i _ => l.length - (intOf i).toNat)
  case atStart => exact ⟨0, Nat.zero_le _, rfl, by simpa [flatH] using HB.out, Below.refl _ _⟩
  case round =>
    obtain ⟨k, hk, rfl, hbr, hbw⟩ := hrel
    have hsz := hbw.size
    by_cases hlt : k < l.length
    · have c1 := (hbw.cell (p := ⟨c, k, none⟩) hc).trans (HC.out k hlt)
      have hlen : (b ++ flatH n (l.take k)).length ≤ 1000000 := by
        rw [List.length_append, flatH_len, List.length_take, Nat.min_eq_left hk]
        have := Nat.mul_le_mul_left n hk
        omega
      have HT : Hid (b ++ flatH n (l.take (k + 1)) = b ++ flatH n (l.take k) ++ leB n (l.getD k 0)) := Lib.hid (by rw [flatH_take n l k hlt, leB_leH, ← List.append_assoc])
      have hbx : U8 (l.getD k 0) := HXX.out _ (getD_mem l k hlt)
      obtain ⟨x, hxx⟩ : ∃ x, l.getD k 0 = x := ⟨_, rfl⟩
      rw [hxx] at c1 HT hbx
      have HX := Lib.hid hxx; clear hxx
      obtain ⟨L, hL⟩ : ∃ L, b ++ flatH n (l.take k) = L := ⟨_, rfl⟩
      rw [hL] at hbr HT hlen
      clear hL HX
      have HBR := Lib.hid hbr; clear hbr
      have HL := Lib.hid hlen; clear hlen
      have HBW := Lib.hid hbw; clear hbw
      obtain ⟨hx0, hx1⟩ := hbx
      go_wp2_with fail
      refine (put_anyCc _ L n (x) n _ HBR.out HL.out (.inl ⟨rfl, h0, h8⟩) hx0 (by omega)).mono ?_
      rintro e w1 ⟨v1, rfl, ho, hb1⟩
      have hbe := ho.bytesAt
      rw [← HT.out] at hbe
      have hbw1 := HBW.out.trans (hb1.mono hsz)
      clear hb1 ho
      go_wp2_with fail
      go_roundw
      case rel => exact ⟨k + 1, by omega, by go_num, hbe, hbw1⟩
      case measure => simp [intOf]; omega
    · obtain rfl : k = l.length := by omega
      rw [List.take_length] at hbr
      go_wp2_with fail
      go_ret
      exact ⟨_, rfl, hbr, hbw⟩
theorem bytes_of_nums {w : World} {v : Value} {l : List Int} (h : NumsAt .u8 w v l) : BytesAt w v l := by
  obtain ⟨b, cap, h1, h2, h3, h4, h5⟩ := h
  exact ⟨_, cap, h1, h2, h3, fun _ => ⟨_, rfl, h4, fun i hi => by
    have e : (⟨b, 0, none⟩ : Addr).add i = ⟨b, i, none⟩ := by unfold Addr.add; split <;> simp_all
    rw [e]; exact h5 i hi⟩⟩
theorem LayEndCc.over {W : World} {o : Obj} {l : List Int} {e : Ending} {w' : World} (h : LayEndCc (W.alloc o) l e w') : LayEndCc W l e w' := by
  obtain ⟨v, h1, h2, h3⟩ := h
  exact ⟨v, h1, h2, ((Below.refl _ _).alloc (Nat.le_refl _) _).trans (h3.mono (by rw [World.size_alloc]; omega))⟩
theorem layI1_1 (v : Value) (b : List Int) (a0 : Int) (W : World) (m : Nat) (hb : BytesAt W v b) (hm : m = W.heap.size) (hs : b.length ≤ 999000) : Calls Tryz.prog 147 #[v, .int .i64 1, .slice (some ⟨m, 0, none⟩) 1 1] (W.alloc (.cells #[.int .i64 a0] 3)) (LayEndCc W (b ++ flatH 1 [a0])) :=
  (layI_any v _ b [a0] 1 (W.alloc (.cells #[.int .i64 a0] 3)) (hb.below ((Below.refl _ _).alloc (Nat.le_refl _) _)) (nums_built .i64 W [a0] 3 m (0, 0) hm (by simp [maxLen])) (by omega) (by omega) (by simp only [List.length_cons, List.length_nil]; omega)).mono fun _ _ h => h.over
theorem layI2_1 (v : Value) (b : List Int) (a0 a1 : Int) (W : World) (m : Nat) (hb : BytesAt W v b) (hm : m = W.heap.size) (hs : b.length ≤ 999000) : Calls Tryz.prog 147 #[v, .int .i64 1, .slice (some ⟨m, 0, none⟩) 2 2] (W.alloc (.cells #[.int .i64 a0, .int .i64 a1] 3)) (LayEndCc W (b ++ flatH 1 [a0, a1])) :=
  (layI_any v _ b [a0, a1] 1 (W.alloc (.cells #[.int .i64 a0, .int .i64 a1] 3)) (hb.below ((Below.refl _ _).alloc (Nat.le_refl _) _)) (nums_built .i64 W [a0, a1] 3 m (0, 0) hm (by simp [maxLen])) (by omega) (by omega) (by simp only [List.length_cons, List.length_nil]; omega)).mono fun _ _ h => h.over
theorem layI4_4 (v : Value) (b : List Int) (a0 a1 a2 a3 : Int) (W : World) (m : Nat) (hb : BytesAt W v b) (hm : m = W.heap.size) (hs : b.length ≤ 999000) : Calls Tryz.prog 147 #[v, .int .i64 4, .slice (some ⟨m, 0, none⟩) 4 4] (W.alloc (.cells #[.int .i64 a0, .int .i64 a1, .int .i64 a2, .int .i64 a3] 3)) (LayEndCc W (b ++ flatH 4 [a0, a1, a2, a3])) :=
  (layI_any v _ b [a0, a1, a2, a3] 4 (W.alloc (.cells #[.int .i64 a0, .int .i64 a1, .int .i64 a2, .int .i64 a3] 3)) (hb.below ((Below.refl _ _).alloc (Nat.le_refl _) _)) (nums_built .i64 W [a0, a1, a2, a3] 3 m (0, 0) hm (by simp [maxLen])) (by omega) (by omega) (by simp only [List.length_cons, List.length_nil]; omega)).mono fun _ _ h => h.over
theorem layI2_4 (v : Value) (b : List Int) (a0 a1 : Int) (W : World) (m : Nat) (hb : BytesAt W v b) (hm : m = W.heap.size) (hs : b.length ≤ 999000) : Calls Tryz.prog 147 #[v, .int .i64 4, .slice (some ⟨m, 0, none⟩) 2 2] (W.alloc (.cells #[.int .i64 a0, .int .i64 a1] 3)) (LayEndCc W (b ++ flatH 4 [a0, a1])) :=
  (layI_any v _ b [a0, a1] 4 (W.alloc (.cells #[.int .i64 a0, .int .i64 a1] 3)) (hb.below ((Below.refl _ _).alloc (Nat.le_refl _) _)) (nums_built .i64 W [a0, a1] 3 m (0, 0) hm (by simp [maxLen])) (by omega) (by omega) (by simp only [List.length_cons, List.length_nil]; omega)).mono fun _ _ h => h.over
theorem layW2_8 (v : Value) (b : List Int) (a0 a1 : Int) (W : World) (m : Nat) (hb : BytesAt W v b) (hm : m = W.heap.size) (h0 : U64 a0) (h1 : U64 a1) (hs : b.length ≤ 999000) : Calls Tryz.prog 148 #[v, .int .i64 8, .slice (some ⟨m, 0, none⟩) 2 2] (W.alloc (.cells #[.int .u64 a0, .int .u64 a1] 40)) (LayEndCc W (b ++ flatH 8 [a0, a1])) :=
  (layW_any v _ b [a0, a1] 8 (W.alloc (.cells #[.int .u64 a0, .int .u64 a1] 40)) (hb.below ((Below.refl _ _).alloc (Nat.le_refl _) _)) (nums_built .u64 W [a0, a1] 40 m (0, 0) hm (by simp [maxLen])) (by intro x hx; simp only [List.mem_cons, List.not_mem_nil, or_false] at hx; rcases hx with rfl | rfl <;> assumption) (by omega) (by omega) (by simp only [List.length_cons, List.length_nil]; omega)).mono fun _ _ h => h.over
theorem layW3_8 (v : Value) (b : List Int) (a0 a1 a2 : Int) (W : World) (m : Nat) (hb : BytesAt W v b) (hm : m = W.heap.size) (h0 : U64 a0) (h1 : U64 a1) (h2 : U64 a2) (hs : b.length ≤ 999000) : Calls Tryz.prog 148 #[v, .int .i64 8, .slice (some ⟨m, 0, none⟩) 3 3] (W.alloc (.cells #[.int .u64 a0, .int .u64 a1, .int .u64 a2] 40)) (LayEndCc W (b ++ flatH 8 [a0, a1, a2])) :=
  (layW_any v _ b [a0, a1, a2] 8 (W.alloc (.cells #[.int .u64 a0, .int .u64 a1, .int .u64 a2] 40)) (hb.below ((Below.refl _ _).alloc (Nat.le_refl _) _)) (nums_built .u64 W [a0, a1, a2] 40 m (0, 0) hm (by simp [maxLen])) (by intro x hx; simp only [List.mem_cons, List.not_mem_nil, or_false] at hx; rcases hx with rfl | rfl | rfl <;> assumption) (by omega) (by omega) (by simp only [List.length_cons, List.length_nil]; omega)).mono fun _ _ h => h.over
theorem layB4_1 (v : Value) (b : List Int) (a0 a1 a2 a3 : Int) (W : World) (m : Nat) (hb : BytesAt W v b) (hm : m = W.heap.size) (h0 : U8 a0) (h1 : U8 a1) (h2 : U8 a2) (h3 : U8 a3) (hs : b.length ≤ 999000) : Calls Tryz.prog 149 #[v, .int .i64 1, .slice (some ⟨m, 0, none⟩) 4 4] (W.alloc (.cells #[.int .u8 a0, .int .u8 a1, .int .u8 a2, .int .u8 a3] 5)) (LayEndCc W (b ++ flatH 1 [a0, a1, a2, a3])) :=
  (layB_any v _ b [a0, a1, a2, a3] 1 (W.alloc (.cells #[.int .u8 a0, .int .u8 a1, .int .u8 a2, .int .u8 a3] 5)) (hb.below ((Below.refl _ _).alloc (Nat.le_refl _) _)) (nums_built .u8 W [a0, a1, a2, a3] 5 m (0, 0) hm (by simp [maxLen])) (by intro x hx; simp only [List.mem_cons, List.not_mem_nil, or_false] at hx; rcases hx with rfl | rfl | rfl | rfl <;> assumption) (by omega) (by omega) (by simp only [List.length_cons, List.length_nil]; omega)).mono fun _ _ h => h.over
theorem keep4 {w' w1 : World} {a0 a1 a2 a3 : Addr} {v0 v1 v2 v3 : Value} (hb : Below w'.heap.size w' w1) (h : w'.cell? a0 = some v0 ∧ w'.cell? a1 = some v1 ∧ w'.cell? a2 = some v2 ∧ w'.cell? a3 = some v3) : w1.cell? a0 = some v0 ∧ w1.cell? a1 = some v1 ∧ w1.cell? a2 = some v2 ∧ w1.cell? a3 = some v3 :=
  ⟨cellb_later hb h.1, cellb_later hb h.2.1, cellb_later hb h.2.2.1, cellb_later hb h.2.2.2⟩
theorem ret_enc {s t : ByteArray} {a b : Int} (h : (s, a) = (t, b)) : Ending.returned (.tuple #[.string s, .int .i64 a]) = .returned (.tuple #[.string t, .int .i64 b]) := by
  obtain ⟨h1, h2⟩ := Prod.mk.injEq .. ▸ h
  rw [h1, h2]
def upL (h : Hd) (k : Nat) : List Int := [h.rf, h.rl, h.mf, h.ml, h.lf, h.ll, h.df, h.dl].take (2 * k)
theorem upL_len (h : Hd) (k : Nat) : (flatH 8 (upL h k)).length ≤ 64 := by
  rw [flatH_len, upL, List.length_take]
  simp only [List.length_cons, List.length_nil]
  omega
def s0 : List Int := mgH ++ flatH 1 [3]
def s1 (h : Hd) (k : Nat) : List Int := s0 ++ flatH 8 (upL h k)
def s2 (h : Hd) : List Int := s1 h 4 ++ flatH 8 [h.ad, h.en, h.co]
def s3 (h : Hd) : List Int := s2 h ++ flatH 1 [cl01 h.cl, h.inn, h.out, h.knd]
def s4 (h : Hd) : List Int := s3 h ++ flatH 1 [h.z0, h.z1]
def s5 (h : Hd) : List Int := s4 h ++ flatH 4 [h.lo0, h.la0, h.lo1, h.la1]
def s6 (h : Hd) : List Int := s5 h ++ flatH 1 [h.zm]
def s7 (h : Hd) : List Int := s6 h ++ flatH 4 [h.lon, h.lat]
theorem leH_unsg (x : Int) : leH 4 (unsg x) = leH 4 x := leH_mod 4 1 x
theorem s7_bytes (h : Hd) : s7 h = bytsH h := by
  simp only [s7, s6, s5, s4, s3, s2, s1, s0, upL, bytsH, headH, mgH, laysH, widH, numsH, flatH, List.take, List.append_nil, leH_unsg, List.append_assoc, List.cons_append, List.nil_append]
  rfl
theorem s_len (h : Hd) (k : Nat) : (s1 h k).length ≤ 200 ∧ (s2 h).length ≤ 200 ∧ (s3 h).length ≤ 200 ∧ (s4 h).length ≤ 200 ∧ (s5 h).length ≤ 200 ∧ (s6 h).length ≤ 200 ∧ (s7 h).length ≤ 200 := by
  have h0 : s0.length = 8 := rfl
  have h1 := upL_len h k
  have h4 := upL_len h 4
  simp only [s7, s6, s5, s4, s3, s2, s1, List.length_append, flatH_len, List.length_cons, List.length_nil] at h1 h4 ⊢
  omega
set_option maxRecDepth 20000 in
set_option maxHeartbeats 1000000 in
theorem encode_any (h : Hd) (w : World) (hm : MayH h) : Calls Tryz.prog 83 #[.agg (cH h)] w fun e w' => e = .returned (.tuple #[.string (str (encH h).1), .int .i64 (encH h).2]) ∧ Below w.heap.size w w' := by
  have HCk := Lib.hid (fun W => check_anyCc h W hm)
  have HM := Lib.hid hm; clear hm
  have H0 := HAt.made w h 44
  obtain ⟨E, hE⟩ : ∃ E, encH h = E := ⟨_, rfl⟩
  rw [hE]
  have HE := Lib.hid hE; clear hE
  by_cases hc : ckH h = 0
  · have HE2 : Hid ((str (bytsH h), (0 : Int)) = (str E.1, E.2)) := Lib.hid (by rw [← HE.out, encH, if_pos hc])
    rw [hc] at HCk
    have hcv := fun (w : World) (C : Array Value) (n c : Nat) => Lib.run_convert_bytes_const (P := Tryz.prog) w 158 5 C n c Tryz.underlying158 Tryz.underlying5
    go_enter Tryz.func83, Tryz.ntmps83
    go_wp2_with (first | (refine load_head (by rfl) _ rfl _ rfl _ h (by assumption) ?_) | fail)
    refine (HCk.out _).mono ?_
    rintro e w1 ⟨rfl, hb⟩
    have h1 := H0.later hb
    have u1 : Below w.heap.size w w1 := Below.trans (by go_grown) (hb.mono (by rw [World.size_alloc]; omega))
    have z1 : w.heap.size < w1.heap.size := h1.lt
    have HH := Lib.hid h1
    have HU := Lib.hid u1
    clear hb H0 h1 u1 hc HCk HE
    go_wp2_with fail
    have hbm := bytes_of_nums (nums_built .u8 w1 mgH 5 w1.heap.size (7, 8) rfl (by decide))
    refine (layI1_1 _ mgH 3 _ _ hbm (by simp) (by decide)).mono ?_
    rintro e w2 ⟨v2, rfl, hv2, hb⟩
    have hz2 : w1.heap.size ≤ w2.heap.size := by have := hb.size; rw [World.size_alloc] at this; omega
    have u2 : Below w1.heap.size w1 w2 := ((Below.refl _ _).alloc (Nat.le_refl _) _).trans (hb.mono (by rw [World.size_alloc]; omega))
    have h2 := HH.out.below u2 z1
    have HV := Lib.hid hv2
    have hlen := fun k => (s_len h k).1
    have HL := Lib.hid hlen
    have hlens := (s_len h 0).2
    have HLS := Lib.hid hlens
    have HU2 := Lib.hid (HU.out.trans (u2.mono (by omega)))
    have HH2 := Lib.hid h2
    clear hb hbm hcv hlen hlens
    go_wp2_with (first | (refine load_head (by rfl) _ rfl _ rfl _ h (by assumption) ?_) | fail)
    refine (sections_h h _).mono ?_
    rintro e w3 ⟨rfl, hb⟩
    have hz3 := hb.size
    have HU3 := Lib.hid (HU2.out.trans (hb.mono (by omega)))
    have HH3 := Lib.hid (HH2.out.later hb)
    have HV3 := Lib.hid (HV.out.below hb)
    clear hb h2 HV u2
    go_wp2_with fail
    have hIX := fun W => idx_sec (.int .u64 h.rf) (.int .u64 h.rl) (.int .u64 h.mf) (.int .u64 h.ml) (.int .u64 h.lf) (.int .u64 h.ll) (.int .u64 h.df) (.int .u64 h.dl) W
    have HIX := Lib.hid hIX
    clear hIX
    have hw3 : w.heap.size < w3.heap.size := by omega
    go_loopw [5, 19] (fun v i wr => ∃ k : Nat, k ≤ 4 ∧ i = .int .i64 k ∧ Hid (BytesAt wr v (s1 h k)) ∧ Below w3.heap.size w3 wr) (fun _ i _ => 4 - (intOf i).toNat)
    case atStart => exact ⟨0, by omega, rfl, Lib.hid (by have := HV3.out; simpa [s1, s0, upL, flatH] using this), Below.refl _ _⟩
    case round =>
      obtain ⟨k, hk, rfl, HB, hbw⟩ := hrel
      have hzr := hbw.size
      have HHr := Lib.hid (HH3.out.below hbw hw3)
      have HUr := Lib.hid (HU3.out.trans (hbw.mono (by omega)))
      rcases (by omega : k = 0 ∨ k = 1 ∨ k = 2 ∨ k = 3 ∨ k = 4) with rfl | rfl | rfl | rfl | rfl
      · have hI := fun W => (HIX.out W).1
        have hbr := HB.out
        have HLW := Lib.hid (fun W m hb hm => layW2_8 u5 (s1 h 0) h.rf h.rl W m hb hm HM.out.1 HM.out.2.1 (by have := HL.out 0; omega))
        have HT : Hid (s1 h 0 ++ flatH 8 [h.rf, h.rl] = s1 h 1) := Lib.hid (by rw [s1, s1, List.append_assoc, ← flatH_append]; rfl)
        clear hbr
        go_wp2_with fail
        refine (HLW.out _ _ (HB.out.below ((Below.refl _ _).alloc (Nat.le_refl _) _)) (by simp)).mono ?_
        rintro e w4 ⟨v4, rfl, hv4, hb⟩
        have u4 : Below w3.heap.size w3 w4 := (hbw.alloc hzr _).trans (hb.mono (by rw [World.size_alloc]; omega))
        rw [HT.out] at hv4
        have HV4 := Lib.hid hv4
        clear hb hv4
        go_wp2_with fail
        go_roundw
        case rel => exact ⟨1, by omega, by rfl, HV4, u4⟩
        case measure => simp [intOf]
      · have hI := fun W => (HIX.out W).2.1
        have hbr := HB.out
        have HLW := Lib.hid (fun W m hb hm => layW2_8 u5 (s1 h 1) h.mf h.ml W m hb hm HM.out.2.2.1 HM.out.2.2.2.1 (by have := HL.out 1; omega))
        have HT : Hid (s1 h 1 ++ flatH 8 [h.mf, h.ml] = s1 h 2) := Lib.hid (by rw [s1, s1, List.append_assoc, ← flatH_append]; rfl)
        clear hbr
        go_wp2_with fail
        refine (HLW.out _ _ (HB.out.below ((Below.refl _ _).alloc (Nat.le_refl _) _)) (by simp)).mono ?_
        rintro e w4 ⟨v4, rfl, hv4, hb⟩
        have u4 : Below w3.heap.size w3 w4 := (hbw.alloc hzr _).trans (hb.mono (by rw [World.size_alloc]; omega))
        rw [HT.out] at hv4
        have HV4 := Lib.hid hv4
        clear hb hv4
        go_wp2_with fail
        go_roundw
        case rel => exact ⟨2, by omega, by rfl, HV4, u4⟩
        case measure => simp [intOf]
      · have hI := fun W => (HIX.out W).2.2.1
        have hbr := HB.out
        have HLW := Lib.hid (fun W m hb hm => layW2_8 u5 (s1 h 2) h.lf h.ll W m hb hm HM.out.2.2.2.2.1 HM.out.2.2.2.2.2.1 (by have := HL.out 2; omega))
        have HT : Hid (s1 h 2 ++ flatH 8 [h.lf, h.ll] = s1 h 3) := Lib.hid (by rw [s1, s1, List.append_assoc, ← flatH_append]; rfl)
        clear hbr
        go_wp2_with fail
        refine (HLW.out _ _ (HB.out.below ((Below.refl _ _).alloc (Nat.le_refl _) _)) (by simp)).mono ?_
        rintro e w4 ⟨v4, rfl, hv4, hb⟩
        have u4 : Below w3.heap.size w3 w4 := (hbw.alloc hzr _).trans (hb.mono (by rw [World.size_alloc]; omega))
        rw [HT.out] at hv4
        have HV4 := Lib.hid hv4
        clear hb hv4
        go_wp2_with fail
        go_roundw
        case rel => exact ⟨3, by omega, by rfl, HV4, u4⟩
        case measure => simp [intOf]
      · have hI := fun W => (HIX.out W).2.2.2
        have hbr := HB.out
        have HLW := Lib.hid (fun W m hb hm => layW2_8 u5 (s1 h 3) h.df h.dl W m hb hm HM.out.2.2.2.2.2.2.1 HM.out.2.2.2.2.2.2.2.1 (by have := HL.out 3; omega))
        have HT : Hid (s1 h 3 ++ flatH 8 [h.df, h.dl] = s1 h 4) := Lib.hid (by rw [s1, s1, List.append_assoc, ← flatH_append]; rfl)
        clear hbr
        go_wp2_with fail
        refine (HLW.out _ _ (HB.out.below ((Below.refl _ _).alloc (Nat.le_refl _) _)) (by simp)).mono ?_
        rintro e w4 ⟨v4, rfl, hv4, hb⟩
        have u4 : Below w3.heap.size w3 w4 := (hbw.alloc hzr _).trans (hb.mono (by rw [World.size_alloc]; omega))
        rw [HT.out] at hv4
        have HV4 := Lib.hid hv4
        clear hb hv4
        go_wp2_with fail
        go_roundw
        case rel => exact ⟨4, by omega, by rfl, HV4, u4⟩
        case measure => simp [intOf]
      · clear hbw HIX HL HV3 HH3 HU3 HU2 HH2 HH HU
        have HLS0 : (s1 h 4).length ≤ 200 := (s_len h 4).1
        have a8 := at8 HHr.out
        have a9 := at9 HHr.out
        have a10 := at10 HHr.out
        have HLW := Lib.hid (fun W m hb hm => layW3_8 u5 (s1 h 4)  h.ad h.en h.co W m hb hm HM.out.2.2.2.2.2.2.2.2.1 HM.out.2.2.2.2.2.2.2.2.2.1 HM.out.2.2.2.2.2.2.2.2.2.2.1 (by have := HLS0; omega))
        go_wp2_with fail
        refine (HLW.out _ _ HB.out (by simp)).mono ?_
        rintro e w5 ⟨v5, rfl, hv, hb⟩
        have HV5 := Lib.hid hv
        have HH5 := Lib.hid (HHr.out.later hb)
        have HU5 := Lib.hid (HUr.out.trans (hb.mono HUr.out.size))
        have hz5 := hb.size
        clear hb hv a8 a9 a10 HLW HHr HUr
        have a11 := at11 HH5.out
        have a12 := at12 HH5.out
        have a13 := at13 HH5.out
        have a14 := at14 HH5.out
        have HLW := Lib.hid (fun W m hb hm hc => layB4_1 v5 (s2 h) (cl01 h.cl) h.inn h.out h.knd W m hb hm hc HM.out.2.2.2.2.2.2.2.2.2.2.2.1 HM.out.2.2.2.2.2.2.2.2.2.2.2.2.1 HM.out.2.2.2.2.2.2.2.2.2.2.2.2.2 (by have := HLS.out.1; omega))
        have HC8 : Hid (U8 (cl01 h.cl)) := Lib.hid (by unfold cl01 U8; cases h.cl <;> simp)
        have HBd := Lib.hid (HV5.out.below (Below.drew (Below.refl _ _)))
        go_upto_region 11 with fail
        go_cut [5] (fun v wx => BytesAt wx v (s3 h) ∧ Below w5.heap.size w5 wx)
        case first =>
          have hS0 : (fun w' => w'.cell? ⟨w.heap.size, 11, none⟩ = some (.bool h.cl) ∧ w'.cell? ⟨w.heap.size, 12, none⟩ = some (.int .u8 h.inn) ∧ w'.cell? ⟨w.heap.size, 13, none⟩ = some (.int .u8 h.out) ∧ w'.cell? ⟨w.heap.size, 14, none⟩ = some (.int .u8 h.knd)) w5.drew := ⟨cellb_later (Below.drew (Below.refl _ _)) a11, cellb_later (Below.drew (Below.refl _ _)) a12, cellb_later (Below.drew (Below.refl _ _)) a13, cellb_later (Below.drew (Below.refl _ _)) a14⟩
          have HS0 := Lib.hid hS0; clear hS0
          go_region_held3 (fun w' => w'.cell? ⟨w.heap.size, 11, none⟩ = some (.bool h.cl) ∧ w'.cell? ⟨w.heap.size, 12, none⟩ = some (.int .u8 h.inn) ∧ w'.cell? ⟨w.heap.size, 13, none⟩ = some (.int .u8 h.out) ∧ w'.cell? ⟨w.heap.size, 14, none⟩ = some (.int .u8 h.knd)) (first | exact HS0.out | assumption | exact keep4 hb (by assumption) | exact keep4 ((Below.refl _ _).alloc (Nat.le_refl _) _) (by assumption))
            (first | (go_at_call 150; refine (flag_any _ _).mono ?_; rintro e w' ⟨rfl, rfl⟩) | (go_at_call 149; refine (HLW.out _ _ HBd.out (by simp) HC8.out).mono ?_; rintro e w' ⟨v', rfl, hv, hb⟩))
          go_wp2_with fail
          go_meet
          case rel => exact ⟨hv, (Below.drew (Below.refl _ _)).trans hb⟩
        case rest =>
          obtain ⟨hv, hb⟩ := hcut
          generalize wc = w6 at *
          have HV6 := Lib.hid hv
          have HH6 := Lib.hid (HH5.out.later hb)
          have HU6 := Lib.hid (HU5.out.trans (hb.mono HU5.out.size))
          have hz6 := hb.size
          clear hb hv a11 a12 a13 a14 HLW HH5 HU5
          have a15 := at15 HH6.out
          have a16 := at16 HH6.out
          have HLW := Lib.hid (fun W m hb hm => layI2_1 u5 (s3 h)  h.z0 h.z1 W m hb hm  (by have := HLS.out.2.1; omega))
          go_wp2_with fail
          refine (HLW.out _ _ HV6.out (by simp)).mono ?_
          rintro e w7 ⟨v7, rfl, hv, hb⟩
          have HV7 := Lib.hid hv
          have HH7 := Lib.hid (HH6.out.later hb)
          have HU7 := Lib.hid (HU6.out.trans (hb.mono HU6.out.size))
          have hz7 := hb.size
          clear hb hv a15 a16 HLW HH6 HU6
          have a17 := at17 HH7.out
          have a18 := at18 HH7.out
          have a19 := at19 HH7.out
          have a20 := at20 HH7.out
          have HLW := Lib.hid (fun W m hb hm => layI4_4 v7 (s4 h)  h.lo0 h.la0 h.lo1 h.la1 W m hb hm  (by have := HLS.out.2.2.1; omega))
          go_wp2_with fail
          refine (HLW.out _ _ HV7.out (by simp)).mono ?_
          rintro e w8 ⟨v8, rfl, hv, hb⟩
          have HV8 := Lib.hid hv
          have HH8 := Lib.hid (HH7.out.later hb)
          have HU8 := Lib.hid (HU7.out.trans (hb.mono HU7.out.size))
          have hz8 := hb.size
          clear hb hv a17 a18 a19 a20 HLW HH7 HU7
          have a21 := at21 HH8.out
          have HLW := Lib.hid (fun W m hb hm => layI1_1 v8 (s5 h)  h.zm W m hb hm  (by have := HLS.out.2.2.2.1; omega))
          go_wp2_with fail
          refine (HLW.out _ _ HV8.out (by simp)).mono ?_
          rintro e w9 ⟨v9, rfl, hv, hb⟩
          have HV9 := Lib.hid hv
          have HH9 := Lib.hid (HH8.out.later hb)
          have HU9 := Lib.hid (HU8.out.trans (hb.mono HU8.out.size))
          have hz9 := hb.size
          clear hb hv a21 HLW HH8 HU8
          have a22 := at22 HH9.out
          have a23 := at23 HH9.out
          have HLW := Lib.hid (fun W m hb hm => layI2_4 v9 (s6 h)  h.lon h.lat W m hb hm  (by have := HLS.out.2.2.2.2.1; omega))
          go_wp2_with fail
          refine (HLW.out _ _ HV9.out (by simp)).mono ?_
          rintro e w10 ⟨v10, rfl, hv, hb⟩
          have HV10 := Lib.hid hv
          have HH10 := Lib.hid (HH9.out.later hb)
          have HU10 := Lib.hid (HU9.out.trans (hb.mono HU9.out.size))
          have hz10 := hb.size
          clear hb hv a22 a23 HLW HH9 HU9
          have hs := run_str w10 v10 _ HV10.out
          rw [show s6 h ++ flatH 4 [h.lon, h.lat] = bytsH h from s7_bytes h] at hs
          go_wp2_with fail
          go_ret2
          exact ⟨ret_enc HE2.out, HU10.out⟩
  · have hne : (ckH h != 0) = true := by simp only [bne_iff_ne, ne_eq]; exact hc
    have HE2 : Hid ((str [], ckH h) = (str E.1, E.2)) := Lib.hid (by rw [← HE.out, encH, if_neg hc])
    clear hc HE
    obtain ⟨r, hr⟩ : ∃ r, ckH h = r := ⟨_, rfl⟩
    rw [hr] at hne HE2 HCk
    clear hr
    go_enter Tryz.func83, Tryz.ntmps83
    go_wp2_with (first | (refine load_head (by rfl) _ rfl _ rfl _ h (by assumption) ?_) | fail)
    refine (HCk.out _).mono ?_
    rintro e w1 ⟨rfl, hb⟩
    have u1 : Below w.heap.size w w1 := Below.trans (by go_grown) (hb.mono (by rw [World.size_alloc]; omega))
    clear hb H0
    go_wp2_with fail
    go_ret2
    exact ⟨ret_enc HE2.out, u1⟩
theorem str_le (l : List Int) (n : Nat) (h : l.length ≤ n) : (str l).size ≤ n := by rw [str_size]; exact h
theorem i1 (x : Int) : (str (leH 1 x)).size ≤ 8 := str_le _ _ (by rw [leH_len]; omega)
def r1 (h : Hd) : List Int := headH ++ ((leH 8 h.rf ++ leH 8 h.rl) ++ ((leH 8 h.mf ++ leH 8 h.ml) ++ ((leH 8 h.lf ++ leH 8 h.ll) ++ (leH 8 h.df ++ leH 8 h.dl))))
def r2 (h : Hd) : List Int := r1 h ++ (leH 8 h.ad ++ (leH 8 h.en ++ (leH 8 h.co ++ leH 1 (cl01 h.cl))))
theorem cH_one (h : Hd) : (cH h).all (·.oneCell') = true := by simp [cH, Value.oneCell']
def Put24 (w : World) (g : Nat) (T : TypeId) (h : Hd) (w' : World) : Prop := HAt w' g T h ∧ w'.heap.size = w.heap.size ∧ (∀ B w0, B ≤ g → Below B w0 w → Below B w0 w') ∧ (∀ k, k ≠ g → w'.heap[k]? = w.heap[k]?)
theorem put24 (w : World) (g : Nat) (T : TypeId) (old h : Hd) (H : HAt w g T old) : Put24 w g T h (w.setRow g (cH h)) :=
  ⟨setRow_heap w g _ _ T (0, 0) H, setRow_size _ _ _, fun B w0 hB hb => below_setRow hb hB _, fun k hk => setRow_other w g k _ hk⟩
theorem setCell_blk {w : World} {g i : Nat} {cs : Array Value} {t : TypeId} {fr : Nat × Nat} (h : w.heap[g]? = some (.cells cs t fr)) (v : Value) : (w.setCell ⟨g, i, none⟩ v).heap[g]? = some (.cells (cs.setIfInBounds i v) t fr) := by
  rw [setCell_eq_setRow w g i cs t fr v h]
  exact setRow_heap w g _ _ t _ h
def setsN (w : World) (ps : Nat → Addr) (val : Nat → Value) : Nat → World
  | 0 => w
  | k + 1 => (setsN w ps val k).setCell (ps k) (val k)
theorem setsN_heap (w : World) (ps : Nat → Addr) (val : Nat → Value) (k b : Nat) (h : ∀ i, i < k → b ≠ (ps i).block) : (setsN w ps val k).heap[b]? = w.heap[b]? := by
  induction k with
  | zero => rfl
  | succ k ih => rw [setsN, Below.heap_setCell _ _ _ _ (h k (by omega)), ih (fun i hi => h i (by omega))]
def OpenAt (w : World) (a : Addr) : Prop := (∃ v, w.cell? a = some v) ∧ w.frozen? a = false
theorem OpenAt.setCell {w : World} {a p : Addr} {v : Value} (h : OpenAt w a) : OpenAt (w.setCell p v) a := by
  obtain ⟨⟨u, h1⟩, h2⟩ := h
  refine ⟨?_, by rw [World.frozen?_setCell]; exact h2⟩
  by_cases e : a = p
  · subst e
    exact ⟨v, World.cell?_setCell_same _ _ _ h1⟩
  · exact ⟨u, by rw [World.cell?_setCell_other _ _ _ _ (fun e2 => e e2.symm)]; exact h1⟩
theorem OpenAt.below {B : Nat} {w w' : World} {a : Addr} (h : OpenAt w a) (hb : Below B w w') (hB : a.block < B) : OpenAt w' a := by
  obtain ⟨⟨u, h1⟩, h2⟩ := h
  refine ⟨⟨u, (hb.cell hB).trans h1⟩, ?_⟩
  unfold World.frozen? at h2 ⊢
  rw [hb.block _ hB]; exact h2
def ScanAt (w : World) (b : Nat) (t : ByteArray) (q : Int) : Prop := w.heap[b]? = some (.cells #[.string t, .int .i64 q, .int .i64 0] 113 (0, 0))
theorem ScanAt.lt {w : World} {b : Nat} {t : ByteArray} {q : Int} (h : ScanAt w b t q) : b < w.heap.size := by
  rcases Nat.lt_or_ge b w.heap.size with h' | h'
  · exact h'
  · unfold ScanAt at h; rw [Array.getElem?_eq_none h'] at h; cases h
theorem ScanAt.later {w w' : World} {b : Nat} {t : ByteArray} {q : Int} (h : ScanAt w b t q) (hb : Below w.heap.size w w') : ScanAt w' b t q := (hb.block b h.lt).trans h
theorem ScanAt.cells {w : World} {b : Nat} {t : ByteArray} {q : Int} (h : ScanAt w b t q) : w.cell? ⟨b, 0, none⟩ = some (.string t) ∧ w.cell? ⟨b, 1, none⟩ = some (.int .i64 q) ∧ w.cell? ⟨b, 2, none⟩ = some (.int .i64 0) ∧ ∀ o, w.frozen? ⟨b, o, none⟩ = false := by
  unfold ScanAt at h
  refine ⟨cell_blk h 0, cell_blk h 1, cell_blk h 2, fun o => by simp [World.frozen?, h]⟩
def setsC (C : Array Value) (o : Nat) (val : Nat → Value) : Nat → Array Value
  | 0 => C
  | k + 1 => (setsC C o val k).setIfInBounds (o + k) (val k)
theorem setsN_row {w : World} {g o : Nat} {C : Array Value} {T : TypeId} {f : Nat × Nat} (val : Nat → Value) (k : Nat) (H : w.heap[g]? = some (.cells C T f)) : (setsN w (fun i => ⟨g, o + i, none⟩) val k).heap[g]? = some (.cells (setsC C o val k) T f) := by
  induction k with
  | zero => exact H
  | succ k ih => exact setCell_blk ih _
theorem setsN_below {w0 w : World} {B : Nat} (ps : Nat → Addr) (val : Nat → Value) (k : Nat) (h : Below B w0 w) (hp : ∀ i, i < k → B ≤ (ps i).block) : Below B w0 (setsN w ps val k) := by
  induction k with
  | zero => exact h
  | succ k ih => exact (ih (fun i hi => hp i (by omega))).setCell (hp k (by omega)) _
def FAt (w wx : World) (t : ByteArray) (q : Int) (a : Hd) (c : Int) : Prop :=
  ScanAt wx w.heap.size t q ∧ HAt wx (w.heap.size + 1) 44 zeroH ∧ HAt wx (w.heap.size + 2) 44 a ∧ wx.heap[w.heap.size + 3]? = some (.cells #[.int .u8 c] 5 (0, 0)) ∧ Below w.heap.size w wx
theorem FAt.big {w wx : World} {t : ByteArray} {q c : Int} {a : Hd} (h : FAt w wx t q a c) : w.heap.size + 4 ≤ wx.heap.size := by
  rcases Nat.lt_or_ge (w.heap.size + 3) wx.heap.size with h' | h'
  · omega
  · have := h.2.2.2.1
    rw [Array.getElem?_eq_none h'] at this
    cases this
theorem heap_alloc_old {w : World} {o : Obj} {k : Nat} (h : k < w.heap.size) : (w.alloc o).heap[k]? = w.heap[k]? := ((Below.refl w.heap.size w).alloc (Nat.le_refl _) o).block k h
theorem FAt.take {w wx w' : World} {t : ByteArray} {q c : Int} {a b : Hd} {o n : Nat} {val : Nat → Value} {P : Obj} (h : FAt w wx t q a c)
    (hb : Below (wx.alloc P).heap.size (setsN (wx.alloc P) (fun i => ⟨w.heap.size + 2, o + i, none⟩) val n) w') (hC : setsC (cH a) o val n = cH b) : FAt w w' t q b c := by
  have hz := h.big
  have ha : (wx.alloc P).heap.size = wx.heap.size + 1 := World.size_alloc ..
  have hk : ∀ k, k < wx.heap.size → k ≠ w.heap.size + 2 → w'.heap[k]? = wx.heap[k]? := fun k h1 h2 => by
    rw [hb.block k (by omega), setsN_heap _ _ _ _ _ (fun i _ => h2), heap_alloc_old h1]
  refine ⟨(hk _ (by omega) (by omega)).trans h.1, (hk _ (by omega) (by omega)).trans h.2.1, ?_, (hk _ (by omega) (by omega)).trans h.2.2.2.1, ?_⟩
  · unfold HAt
    rw [hb.block _ (by omega), ← hC]
    exact setsN_row val n ((heap_alloc_old (by omega)).trans h.2.2.1)
  · exact (setsN_below _ val n (h.2.2.2.2.alloc (by omega) _) (fun i _ => by show w.heap.size ≤ w.heap.size + 2; omega)).trans (hb.mono (by omega))
theorem heap_new15 (w : World) (o : Obj) : (w.alloc o).heap[w.heap.size]? = some o := by
  show (w.heap.push o)[w.heap.size]? = _
  simp
def Box (w : World) (b : Nat) (arr : Array Value) : Prop := ∃ T, w.heap[b]? = some (.cells arr T (0, 0))
theorem box_new (w : World) (arr : Array Value) (T : TypeId) : Box (w.alloc (.cells arr T)) w.heap.size arr := ⟨T, heap_new15 w _⟩
theorem Box.lt {w : World} {b : Nat} {arr : Array Value} (h : Box w b arr) : b < w.heap.size := by obtain ⟨T, h⟩ := h; exact (Array.getElem?_eq_some_iff.1 h).1
theorem Box.below {w w' : World} {b : Nat} {arr : Array Value} (h : Box w b arr) (hb : Below w.heap.size w w') : Box w' b arr := by
  have hl := h.lt
  obtain ⟨T, h⟩ := h
  exact ⟨T, (hb.block b hl).trans h⟩
theorem Box.cell {w : World} {b : Nat} {arr : Array Value} (h : Box w b arr) (j : Nat) : w.cell? ⟨b, j, none⟩ = arr[j]? := by
  obtain ⟨T, h⟩ := h
  simp [World.cell?, h]
theorem Box.frz {w : World} {b : Nat} {arr : Array Value} (h : Box w b arr) (j : Nat) : w.frozen? ⟨b, j, none⟩ = false := by
  obtain ⟨T, h⟩ := h
  simp [World.frozen?, h]
theorem hset {w : World} {b : Nat} {arr : Array Value} {T : TypeId} (H : w.heap[b]? = some (.cells arr T (0, 0))) (j : Nat) (v : Value) : (w.setCell ⟨b, j, none⟩ v).heap[b]? = some (.cells (arr.setIfInBounds j v) T (0, 0)) := by
  simp [World.setCell, Array.getElem?_modify, H]
theorem hother {w : World} {b b' : Nat} {o : Obj} (H : w.heap[b]? = some o) (hn : b ≠ b') (j : Nat) (v : Value) : (w.setCell ⟨b', j, none⟩ v).heap[b]? = some o := (Below.heap_setCell _ _ _ _ (by simpa using hn)).trans H
theorem hrow {w : World} {b : Nat} {arr cs : Array Value} {T : TypeId} (H : w.heap[b]? = some (.cells arr T (0, 0))) (hs : arr.size = cs.size) : (w.setRow b cs).heap[b]? = some (.cells cs T (0, 0)) := by
  simp [World.setRow, Array.getElem?_modify, H]
def sArr (s : Sc) : Array Value := #[.int .u64 s.rf, .int .u64 s.rl, .int .u64 s.mf, .int .u64 s.ml, .int .u64 s.lf, .int .u64 s.ll, .int .u64 s.df, .int .u64 s.dl]
def SecEnd (P : Pl) (w : World) (e : Ending) (w' : World) : Prop := e = .returned (.tuple #[.agg (sArr P.sec), .int .u64 P.all, .int .i64 P.err]) ∧ Below w.heap.size w w'
end Go.Proofs.YtdnmgpcfgcidbaaGreatDoor
namespace Go.Proofs.YtdnmgpcfgcidbaaGreatDoor
set_option linter.unusedVariables false
set_option linter.unusedSimpArgs false
open Go.RowKit
set_option maxRecDepth 100000
def pArr (p : Pt) : Array Value := #[.string p.p0, .string p.p1, .string p.p2, .string p.p3]
def Few (p : Pt) (n : Nat) : Prop := p.p0.size ≤ n ∧ p.p1.size ≤ n ∧ p.p2.size ≤ n ∧ p.p3.size ≤ n
theorem sec_few {p : Pt} (h : Few p 200000000) : secOf p = ⟨⟨127, p.p0.size, 127 + p.p0.size, p.p1.size, 127 + p.p0.size + p.p1.size, p.p2.size, 127 + p.p0.size + p.p1.size + p.p2.size, p.p3.size⟩, 127 + p.p0.size + p.p1.size + p.p2.size + p.p3.size, 0⟩ := by
  obtain ⟨h0, h1, h2, h3⟩ := h
  unfold secOf secsN
  rw [if_neg (by unfold tooBig; omega)]
theorem mayS_few {p : Pt} (h : Few p 200000000) : MayS (secOf p).sec := by
  rw [sec_few h]
  obtain ⟨h0, h1, h2, h3⟩ := h
  unfold MayS U64
  simp only
  omega
theorem with_may {h : Hd} {s : Sc} (hm : MayH h) (hs : MayS s) : MayH (withN h s) := by
  obtain ⟨a0, a1, a2, a3, a4, a5, a6, a7, r⟩ := hm
  obtain ⟨b0, b1, b2, b3, b4, b5, b6, b7⟩ := hs
  exact ⟨b0, b1, b2, b3, b4, b5, b6, b7, r⟩
theorem size_strP : Tryz.t9.size = 1 := by kernel_rfl
theorem size_u64P : Tryz.t40.size = 1 := by kernel_rfl
theorem idx_p (c0 c1 c2 c3 : Value) (W : World) :
    Sem.run Tryz.prog (Instr.index 52 (.agg #[c0, c1, c2, c3]) (.int .i64 0)) W = .ok c0 W ∧
    Sem.run Tryz.prog (Instr.index 52 (.agg #[c0, c1, c2, c3]) (.int .i64 1)) W = .ok c1 W ∧
    Sem.run Tryz.prog (Instr.index 52 (.agg #[c0, c1, c2, c3]) (.int .i64 2)) W = .ok c2 W ∧
    Sem.run Tryz.prog (Instr.index 52 (.agg #[c0, c1, c2, c3]) (.int .i64 3)) W = .ok c3 W := by
  refine ⟨?_, ?_, ?_, ?_⟩ <;> simp [Instr.index, run_underlying Tryz.underlying52, asIntOf, part, sizeOf, size_strP, go_sem]
theorem idx_n (c0 c1 c2 c3 : Value) (W : World) :
    Sem.run Tryz.prog (Instr.index 169 (.agg #[c0, c1, c2, c3]) (.int .i64 0)) W = .ok c0 W ∧
    Sem.run Tryz.prog (Instr.index 169 (.agg #[c0, c1, c2, c3]) (.int .i64 1)) W = .ok c1 W ∧
    Sem.run Tryz.prog (Instr.index 169 (.agg #[c0, c1, c2, c3]) (.int .i64 2)) W = .ok c2 W ∧
    Sem.run Tryz.prog (Instr.index 169 (.agg #[c0, c1, c2, c3]) (.int .i64 3)) W = .ok c3 W := by
  refine ⟨?_, ?_, ?_, ?_⟩ <;> simp [Instr.index, run_underlying Tryz.underlying169, asIntOf, part, sizeOf, size_u64P, go_sem]
theorem lens15_any (p : Pt) (w : World) (hp : Few p 200000000) : Calls Tryz.prog 82 #[.agg (pArr p)] w fun e w' => e = .returned (.agg #[.int .u64 p.p0.size, .int .u64 p.p1.size, .int .u64 p.p2.size, .int .u64 p.p3.size]) ∧ Below w.heap.size w w' := by
  obtain ⟨p0, p1, p2, p3⟩ := p
  obtain ⟨l0, l1, l2, l3⟩ := hp
  dsimp only at l0 l1 l2 l3
  have w0 : IntKind.u64.wrap (p0.size : Int) = (p0.size : Int) := by rw [IntKind.wrap_u64]; omega
  have w1 : IntKind.u64.wrap (p1.size : Int) = (p1.size : Int) := by rw [IntKind.wrap_u64]; omega
  have w2 : IntKind.u64.wrap (p2.size : Int) = (p2.size : Int) := by rw [IntKind.wrap_u64]; omega
  have w3 : IntKind.u64.wrap (p3.size : Int) = (p3.size : Int) := by rw [IntKind.wrap_u64]; omega
  have i0 := fun W => (idx_p (.string p0) (.string p1) (.string p2) (.string p3) W).1
  have i1 := fun W => (idx_p (.string p0) (.string p1) (.string p2) (.string p3) W).2.1
  have i2 := fun W => (idx_p (.string p0) (.string p1) (.string p2) (.string p3) W).2.2.1
  have i3 := fun W => (idx_p (.string p0) (.string p1) (.string p2) (.string p3) W).2.2.2
  clear l0 l1 l2 l3
  unfold pArr
  go_enter Tryz.func82, Tryz.ntmps82
  go_wp2_with fail
  refine wp_loop_rounds 5 ?_
  rw [rounds_succ]
  go_wp2_with fail
  rw [rounds_succ]
  go_wp2_with fail
  rw [rounds_succ]
  go_wp2_with fail
  rw [rounds_succ]
  go_wp2_with fail
  rw [rounds_succ]
  go_wp2_with fail
  refine bodyPost_ret (v := .agg #[.int .u64 p0.size, .int .u64 p1.size, .int .u64 p2.size, .int .u64 p3.size]) (by simp [results, Tryz.results82, go_sem]) rfl ⟨rfl, by go_grown⟩
theorem end15_exact (f l s : Int) (w : World) (hs : IntKind.u64.wrap (f + l) = s) : Calls Tryz.prog 24 #[.agg #[.int .u64 f, .int .u64 l]] w fun e w' => e = .returned (.int .u64 s) ∧ w' = w.alloc (.cells #[.int .u64 f, .int .u64 l] 42) := by
  subst hs
  go_enter Tryz.func24, Tryz.ntmps24
  go_wp2_with fail
  go_ret
  exact ⟨rfl, rfl⟩
set_option maxHeartbeats 4000000 in
theorem sec15_bad0 (a b c d : Int) (w : World)  (hx : 1099511627776 < 127 + a) :
    Calls Tryz.prog 81 #[.agg #[.int .u64 a, .int .u64 b, .int .u64 c, .int .u64 d]] w (SecEnd ⟨zeroSc, 0, 8⟩ w) := by
  unfold SecEnd sArr zeroSc
  have g0 : (1099511627649 : Int) < a := by omega
  clear  hx
  have i0 := fun W => (idx_n (.int .u64 a) (.int .u64 b) (.int .u64 c) (.int .u64 d) W).1
  have i1 := fun W => (idx_n (.int .u64 a) (.int .u64 b) (.int .u64 c) (.int .u64 d) W).2.1
  have i2 := fun W => (idx_n (.int .u64 a) (.int .u64 b) (.int .u64 c) (.int .u64 d) W).2.2.1
  have i3 := fun W => (idx_n (.int .u64 a) (.int .u64 b) (.int .u64 c) (.int .u64 d) W).2.2.2
  go_enter Tryz.func81, Tryz.ntmps81
  go_wp2_with fail
  refine wp_loop_rounds 5 ?_
  rw [rounds_succ]
  go_wp2_with fail
  refine bodyPost_ret (v := .tuple #[.agg #[.int .u64 0, .int .u64 0, .int .u64 0, .int .u64 0, .int .u64 0, .int .u64 0, .int .u64 0, .int .u64 0], .int .u64 0, .int .i64 8]) (by simp [results, Tryz.results81, go_sem]) rfl ⟨rfl, by go_grown⟩
set_option maxHeartbeats 4000000 in
theorem sec15_bad1 (a b c d : Int) (w : World) (ha : 0 ≤ a) (hs : 127 + a ≤ 1099511627776) (hx : 1099511627776 < 127 + a + b) :
    Calls Tryz.prog 81 #[.agg #[.int .u64 a, .int .u64 b, .int .u64 c, .int .u64 d]] w (SecEnd ⟨zeroSc, 0, 8⟩ w) := by
  unfold SecEnd sArr zeroSc
  have g0 : ¬ (1099511627649 : Int) < a := by omega
  have v1 : IntKind.u64.wrap (1099511627776 - (127 + a)) = 1099511627776 - (127 + a) := by rw [IntKind.wrap_u64]; omega
  have g1 : (1099511627776 - (127 + a) : Int) < b := by omega
  have w1 : IntKind.u64.wrap (127 + a) = 127 + a := by rw [IntKind.wrap_u64]; omega
  have HE0 := Lib.hid (fun W => end15_exact (127) a (127 + a) W w1)
  clear ha hs hx
  have i0 := fun W => (idx_n (.int .u64 a) (.int .u64 b) (.int .u64 c) (.int .u64 d) W).1
  have i1 := fun W => (idx_n (.int .u64 a) (.int .u64 b) (.int .u64 c) (.int .u64 d) W).2.1
  have i2 := fun W => (idx_n (.int .u64 a) (.int .u64 b) (.int .u64 c) (.int .u64 d) W).2.2.1
  have i3 := fun W => (idx_n (.int .u64 a) (.int .u64 b) (.int .u64 c) (.int .u64 d) W).2.2.2
  go_enter Tryz.func81, Tryz.ntmps81
  go_wp2_with fail
  refine wp_loop_rounds 5 ?_
  rw [rounds_succ]
  go_wp2_with fail
  refine (HE0.out _).mono ?_
  rintro e w' ⟨rfl, rfl⟩
  go_wp2_with fail
  rw [rounds_succ]
  go_wp2_with fail
  refine bodyPost_ret (v := .tuple #[.agg #[.int .u64 0, .int .u64 0, .int .u64 0, .int .u64 0, .int .u64 0, .int .u64 0, .int .u64 0, .int .u64 0], .int .u64 0, .int .i64 8]) (by simp [results, Tryz.results81, go_sem]) rfl ⟨rfl, by go_grown⟩
set_option maxHeartbeats 4000000 in
theorem sec15_bad2 (a b c d : Int) (w : World) (ha : 0 ≤ a) (hb : 0 ≤ b) (hs : 127 + a + b ≤ 1099511627776) (hx : 1099511627776 < 127 + a + b + c) :
    Calls Tryz.prog 81 #[.agg #[.int .u64 a, .int .u64 b, .int .u64 c, .int .u64 d]] w (SecEnd ⟨zeroSc, 0, 8⟩ w) := by
  unfold SecEnd sArr zeroSc
  have g0 : ¬ (1099511627649 : Int) < a := by omega
  have v1 : IntKind.u64.wrap (1099511627776 - (127 + a)) = 1099511627776 - (127 + a) := by rw [IntKind.wrap_u64]; omega
  have g1 : ¬ (1099511627776 - (127 + a) : Int) < b := by omega
  have v2 : IntKind.u64.wrap (1099511627776 - (127 + a + b)) = 1099511627776 - (127 + a + b) := by rw [IntKind.wrap_u64]; omega
  have g2 : (1099511627776 - (127 + a + b) : Int) < c := by omega
  have w1 : IntKind.u64.wrap (127 + a) = 127 + a := by rw [IntKind.wrap_u64]; omega
  have w2 : IntKind.u64.wrap (127 + a + b) = 127 + a + b := by rw [IntKind.wrap_u64]; omega
  have HE0 := Lib.hid (fun W => end15_exact (127) a (127 + a) W w1)
  have HE1 := Lib.hid (fun W => end15_exact (127 + a) b (127 + a + b) W w2)
  clear ha hb hs hx
  have i0 := fun W => (idx_n (.int .u64 a) (.int .u64 b) (.int .u64 c) (.int .u64 d) W).1
  have i1 := fun W => (idx_n (.int .u64 a) (.int .u64 b) (.int .u64 c) (.int .u64 d) W).2.1
  have i2 := fun W => (idx_n (.int .u64 a) (.int .u64 b) (.int .u64 c) (.int .u64 d) W).2.2.1
  have i3 := fun W => (idx_n (.int .u64 a) (.int .u64 b) (.int .u64 c) (.int .u64 d) W).2.2.2
  go_enter Tryz.func81, Tryz.ntmps81
  go_wp2_with fail
  refine wp_loop_rounds 5 ?_
  rw [rounds_succ]
  go_wp2_with fail
  refine (HE0.out _).mono ?_
  rintro e w' ⟨rfl, rfl⟩
  go_wp2_with fail
  rw [rounds_succ]
  go_wp2_with fail
  refine (HE1.out _).mono ?_
  rintro e w' ⟨rfl, rfl⟩
  go_wp2_with fail
  rw [rounds_succ]
  go_wp2_with fail
  refine bodyPost_ret (v := .tuple #[.agg #[.int .u64 0, .int .u64 0, .int .u64 0, .int .u64 0, .int .u64 0, .int .u64 0, .int .u64 0, .int .u64 0], .int .u64 0, .int .i64 8]) (by simp [results, Tryz.results81, go_sem]) rfl ⟨rfl, by go_grown⟩
set_option maxHeartbeats 4000000 in
theorem sec15_bad3 (a b c d : Int) (w : World) (ha : 0 ≤ a) (hb : 0 ≤ b) (hc : 0 ≤ c) (hs : 127 + a + b + c ≤ 1099511627776) (hx : 1099511627776 < 127 + a + b + c + d) :
    Calls Tryz.prog 81 #[.agg #[.int .u64 a, .int .u64 b, .int .u64 c, .int .u64 d]] w (SecEnd ⟨zeroSc, 0, 8⟩ w) := by
  unfold SecEnd sArr zeroSc
  have g0 : ¬ (1099511627649 : Int) < a := by omega
  have v1 : IntKind.u64.wrap (1099511627776 - (127 + a)) = 1099511627776 - (127 + a) := by rw [IntKind.wrap_u64]; omega
  have g1 : ¬ (1099511627776 - (127 + a) : Int) < b := by omega
  have v2 : IntKind.u64.wrap (1099511627776 - (127 + a + b)) = 1099511627776 - (127 + a + b) := by rw [IntKind.wrap_u64]; omega
  have g2 : ¬ (1099511627776 - (127 + a + b) : Int) < c := by omega
  have v3 : IntKind.u64.wrap (1099511627776 - (127 + a + b + c)) = 1099511627776 - (127 + a + b + c) := by rw [IntKind.wrap_u64]; omega
  have g3 : (1099511627776 - (127 + a + b + c) : Int) < d := by omega
  have w1 : IntKind.u64.wrap (127 + a) = 127 + a := by rw [IntKind.wrap_u64]; omega
  have w2 : IntKind.u64.wrap (127 + a + b) = 127 + a + b := by rw [IntKind.wrap_u64]; omega
  have w3 : IntKind.u64.wrap (127 + a + b + c) = 127 + a + b + c := by rw [IntKind.wrap_u64]; omega
  have HE0 := Lib.hid (fun W => end15_exact (127) a (127 + a) W w1)
  have HE1 := Lib.hid (fun W => end15_exact (127 + a) b (127 + a + b) W w2)
  have HE2 := Lib.hid (fun W => end15_exact (127 + a + b) c (127 + a + b + c) W w3)
  clear ha hb hc hs hx
  have i0 := fun W => (idx_n (.int .u64 a) (.int .u64 b) (.int .u64 c) (.int .u64 d) W).1
  have i1 := fun W => (idx_n (.int .u64 a) (.int .u64 b) (.int .u64 c) (.int .u64 d) W).2.1
  have i2 := fun W => (idx_n (.int .u64 a) (.int .u64 b) (.int .u64 c) (.int .u64 d) W).2.2.1
  have i3 := fun W => (idx_n (.int .u64 a) (.int .u64 b) (.int .u64 c) (.int .u64 d) W).2.2.2
  go_enter Tryz.func81, Tryz.ntmps81
  go_wp2_with fail
  refine wp_loop_rounds 5 ?_
  rw [rounds_succ]
  go_wp2_with fail
  refine (HE0.out _).mono ?_
  rintro e w' ⟨rfl, rfl⟩
  go_wp2_with fail
  rw [rounds_succ]
  go_wp2_with fail
  refine (HE1.out _).mono ?_
  rintro e w' ⟨rfl, rfl⟩
  go_wp2_with fail
  rw [rounds_succ]
  go_wp2_with fail
  refine (HE2.out _).mono ?_
  rintro e w' ⟨rfl, rfl⟩
  go_wp2_with fail
  rw [rounds_succ]
  go_wp2_with fail
  refine bodyPost_ret (v := .tuple #[.agg #[.int .u64 0, .int .u64 0, .int .u64 0, .int .u64 0, .int .u64 0, .int .u64 0, .int .u64 0, .int .u64 0], .int .u64 0, .int .i64 8]) (by simp [results, Tryz.results81, go_sem]) rfl ⟨rfl, by go_grown⟩
set_option maxHeartbeats 4000000 in
theorem sec15_ok (a b c d : Int) (w : World) (ha : 0 ≤ a) (hb : 0 ≤ b) (hc : 0 ≤ c) (hd : 0 ≤ d) (hs : 127 + a + b + c + d ≤ 1099511627776) :
    Calls Tryz.prog 81 #[.agg #[.int .u64 a, .int .u64 b, .int .u64 c, .int .u64 d]] w (SecEnd ⟨⟨127, a, 127 + a, b, 127 + a + b, c, 127 + a + b + c, d⟩, 127 + a + b + c + d, 0⟩ w) := by
  unfold SecEnd sArr
  have g0 : ¬ (1099511627649 : Int) < a := by omega
  have v1 : IntKind.u64.wrap (1099511627776 - (127 + a)) = 1099511627776 - (127 + a) := by rw [IntKind.wrap_u64]; omega
  have g1 : ¬ (1099511627776 - (127 + a) : Int) < b := by omega
  have v2 : IntKind.u64.wrap (1099511627776 - (127 + a + b)) = 1099511627776 - (127 + a + b) := by rw [IntKind.wrap_u64]; omega
  have g2 : ¬ (1099511627776 - (127 + a + b) : Int) < c := by omega
  have v3 : IntKind.u64.wrap (1099511627776 - (127 + a + b + c)) = 1099511627776 - (127 + a + b + c) := by rw [IntKind.wrap_u64]; omega
  have g3 : ¬ (1099511627776 - (127 + a + b + c) : Int) < d := by omega
  have w1 : IntKind.u64.wrap (127 + a) = 127 + a := by rw [IntKind.wrap_u64]; omega
  have w2 : IntKind.u64.wrap (127 + a + b) = 127 + a + b := by rw [IntKind.wrap_u64]; omega
  have w3 : IntKind.u64.wrap (127 + a + b + c) = 127 + a + b + c := by rw [IntKind.wrap_u64]; omega
  have w4 : IntKind.u64.wrap (127 + a + b + c + d) = 127 + a + b + c + d := by rw [IntKind.wrap_u64]; omega
  have HE0 := Lib.hid (fun W => end15_exact (127) a (127 + a) W w1)
  have HE1 := Lib.hid (fun W => end15_exact (127 + a) b (127 + a + b) W w2)
  have HE2 := Lib.hid (fun W => end15_exact (127 + a + b) c (127 + a + b + c) W w3)
  have HE3 := Lib.hid (fun W => end15_exact (127 + a + b + c) d (127 + a + b + c + d) W w4)
  clear ha hb hc hd hs
  have i0 := fun W => (idx_n (.int .u64 a) (.int .u64 b) (.int .u64 c) (.int .u64 d) W).1
  have i1 := fun W => (idx_n (.int .u64 a) (.int .u64 b) (.int .u64 c) (.int .u64 d) W).2.1
  have i2 := fun W => (idx_n (.int .u64 a) (.int .u64 b) (.int .u64 c) (.int .u64 d) W).2.2.1
  have i3 := fun W => (idx_n (.int .u64 a) (.int .u64 b) (.int .u64 c) (.int .u64 d) W).2.2.2
  go_enter Tryz.func81, Tryz.ntmps81
  go_wp2_with fail
  refine wp_loop_rounds 5 ?_
  rw [rounds_succ]
  go_wp2_with fail
  refine (HE0.out _).mono ?_
  rintro e w' ⟨rfl, rfl⟩
  go_wp2_with fail
  rw [rounds_succ]
  go_wp2_with fail
  refine (HE1.out _).mono ?_
  rintro e w' ⟨rfl, rfl⟩
  go_wp2_with fail
  rw [rounds_succ]
  go_wp2_with fail
  refine (HE2.out _).mono ?_
  rintro e w' ⟨rfl, rfl⟩
  go_wp2_with fail
  rw [rounds_succ]
  go_wp2_with fail
  refine (HE3.out _).mono ?_
  rintro e w' ⟨rfl, rfl⟩
  go_wp2_with fail
  rw [rounds_succ]
  go_wp2_with fail
  refine bodyPost_ret (v := .tuple #[.agg #[.int .u64 127, .int .u64 a, .int .u64 (127 + a), .int .u64 b, .int .u64 (127 + a + b), .int .u64 c, .int .u64 (127 + a + b + c), .int .u64 d], .int .u64 (127 + a + b + c + d), .int .i64 0]) (by simp [results, Tryz.results81, go_sem]) rfl ⟨rfl, by go_grown⟩
theorem sections15_any (a b c d : Int) (w : World) (ha : U64 a) (hb : U64 b) (hc : U64 c) (hd : U64 d) : Calls Tryz.prog 81 #[.agg #[.int .u64 a, .int .u64 b, .int .u64 c, .int .u64 d]] w (SecEnd (secsN a b c d) w) := by
  unfold U64 at ha hb hc hd
  unfold secsN
  by_cases h : tooBig a b c d
  · rw [if_pos h]
    unfold tooBig at h
    by_cases h1 : 1099511627776 < 127 + a
    · exact sec15_bad0 a b c d w h1
    by_cases h2 : 1099511627776 < 127 + a + b
    · exact sec15_bad1 a b c d w (by omega) (by omega) h2
    by_cases h3 : 1099511627776 < 127 + a + b + c
    · exact sec15_bad2 a b c d w (by omega) (by omega) (by omega) h3
    exact sec15_bad3 a b c d w (by omega) (by omega) (by omega) (by omega) (by omega)
  · rw [if_neg h]
    unfold tooBig at h
    exact sec15_ok a b c d w (by omega) (by omega) (by omega) (by omega) (by omega)
end Go.Proofs.YtdnmgpcfgcidbaaGreatDoor
namespace Go.Proofs.YtdnmgpcfgcidbaaGreatDoor
set_option linter.unusedVariables false
set_option linter.unusedSimpArgs false
open Go.RowKit
set_option maxRecDepth 20000
theorem FAt.drew {w wx : World} {t : ByteArray} {q c : Int} {a : Hd} (h : FAt w wx t q a c) : FAt w wx.drew t q a c := ⟨h.1, h.2.1, h.2.2.1, h.2.2.2.1, h.2.2.2.2.drew⟩
def hA : Hd := { zeroH with knd := 2, z1 := 3, lo0 := -1 }
end Go.Proofs.YtdnmgpcfgcidbaaGreatDoor
namespace Go.Proofs.YtdnmgpcfgcidbaaGreatDoor
set_option linter.unusedVariables false
set_option linter.unusedSimpArgs false
open Go.RowKit
set_option maxRecDepth 100000
theorem HAt.secs {w : World} {b : Nat} {T : TypeId} {h : Hd} (H : HAt w b T h) (s : Sc) : HAt ((((((((w.setCell ⟨b, 0, none⟩ (.int .u64 s.rf)).setCell ⟨b, 1, none⟩ (.int .u64 s.rl)).setCell ⟨b, 2, none⟩ (.int .u64 s.mf)).setCell ⟨b, 3, none⟩ (.int .u64 s.ml)).setCell ⟨b, 4, none⟩ (.int .u64 s.lf)).setCell ⟨b, 5, none⟩ (.int .u64 s.ll)).setCell ⟨b, 6, none⟩ (.int .u64 s.df)).setCell ⟨b, 7, none⟩ (.int .u64 s.dl)) b T (withN h s) := by
  unfold HAt at H ⊢
  have := hset (hset (hset (hset (hset (hset (hset (hset H 0 (.int .u64 s.rf)) 1 (.int .u64 s.rl)) 2 (.int .u64 s.mf)) 3 (.int .u64 s.ml)) 4 (.int .u64 s.lf)) 5 (.int .u64 s.ll)) 6 (.int .u64 s.df)) 7 (.int .u64 s.dl)
  simp only [cH, List.setIfInBounds_toArray, List.set_cons_zero, List.set_cons_succ] at this
  exact this
theorem HAt.secs_far {w : World} {b b' : Nat} {T : TypeId} {h : Hd} (H : HAt w b T h) (hn : b ≠ b') (s : Sc) : HAt ((((((((w.setCell ⟨b', 0, none⟩ (.int .u64 s.rf)).setCell ⟨b', 1, none⟩ (.int .u64 s.rl)).setCell ⟨b', 2, none⟩ (.int .u64 s.mf)).setCell ⟨b', 3, none⟩ (.int .u64 s.ml)).setCell ⟨b', 4, none⟩ (.int .u64 s.lf)).setCell ⟨b', 5, none⟩ (.int .u64 s.ll)).setCell ⟨b', 6, none⟩ (.int .u64 s.df)).setCell ⟨b', 7, none⟩ (.int .u64 s.dl)) b T h := by
  unfold HAt at H ⊢
  exact hother (hother (hother (hother (hother (hother (hother (hother H hn _ _) hn _ _) hn _ _) hn _ _) hn _ _) hn _ _) hn _ _) hn _ _
theorem below_secs {w0 w : World} {B b' : Nat} (H : Below B w0 w) (hn : B ≤ b') (s : Sc) : Below B w0 ((((((((w.setCell ⟨b', 0, none⟩ (.int .u64 s.rf)).setCell ⟨b', 1, none⟩ (.int .u64 s.rl)).setCell ⟨b', 2, none⟩ (.int .u64 s.mf)).setCell ⟨b', 3, none⟩ (.int .u64 s.ml)).setCell ⟨b', 4, none⟩ (.int .u64 s.lf)).setCell ⟨b', 5, none⟩ (.int .u64 s.ll)).setCell ⟨b', 6, none⟩ (.int .u64 s.df)).setCell ⟨b', 7, none⟩ (.int .u64 s.dl)) :=
  (((((((H.setCell (p := ⟨b', 0, none⟩) hn _).setCell (p := ⟨b', 1, none⟩) hn _).setCell (p := ⟨b', 2, none⟩) hn _).setCell (p := ⟨b', 3, none⟩) hn _).setCell (p := ⟨b', 4, none⟩) hn _).setCell (p := ⟨b', 5, none⟩) hn _).setCell (p := ⟨b', 6, none⟩) hn _).setCell (p := ⟨b', 7, none⟩) hn _
set_option maxHeartbeats 4000000 in
theorem with15_any (h : Hd) (s : Sc) (w : World) : Calls Tryz.prog 84 #[.agg (cH h), .agg (sArr s)] w fun e w' => e = .returned (.agg (cH (withN h s))) ∧ Below w.heap.size w w' := by
  obtain ⟨W, hW⟩ : ∃ W, ((w.alloc (.cells (cH h) 44)).alloc (.cells (sArr s) 109)).alloc (.cells (cH zeroH) 44) = W := ⟨_, rfl⟩
  have h0 : HAt W w.heap.size 44 h := by
    rw [← hW]
    exact (heap_alloc_old (by simp; omega)).trans ((heap_alloc_old (by simp)).trans (HAt.made w h _))
  have h1 : Box W (w.heap.size + 1) (sArr s) := by
    have := box_new (w.alloc (.cells (cH h) 44)) (sArr s) 109
    rw [World.size_alloc] at this
    rw [← hW]
    exact this.below ((Below.refl _ _).alloc (Nat.le_refl _) _)
  have h2 : HAt W (w.heap.size + 1 + 1) 44 zeroH := by
    have := HAt.made ((w.alloc (.cells (cH h) 44)).alloc (.cells (sArr s) 109)) zeroH 44
    simp only [World.size_alloc] at this
    rw [← hW]
    exact this
  have hbw : Below w.heap.size w W := by rw [← hW]; exact (((Below.refl _ w).alloc (Nat.le_refl _) _).alloc (by simp) _).alloc (by simp; omega) _
  have s0 := h1.cell 0
  have s1 := h1.cell 1
  have s2 := h1.cell 2
  have s3 := h1.cell 3
  have s4 := h1.cell 4
  have s5 := h1.cell 5
  have s6 := h1.cell 6
  have s7 := h1.cell 7
  simp [sArr] at s0 s1 s2 s3 s4 s5 s6 s7
  have c0 := cell_blk h0 0
  have c1 := cell_blk h0 1
  have c2 := cell_blk h0 2
  have c3 := cell_blk h0 3
  have c4 := cell_blk h0 4
  have c5 := cell_blk h0 5
  have c6 := cell_blk h0 6
  have c7 := cell_blk h0 7
  simp [cH] at c0 c1 c2 c3 c4 c5 c6 c7
  have f0 : ∀ j, W.frozen? ⟨w.heap.size, j, none⟩ = false := fun j => by unfold HAt at h0; simp [World.frozen?, h0]
  have H0 := Lib.hid h0
  have H2 := Lib.hid h2
  have HBW := Lib.hid hbw
  clear h0 h1 h2 hbw
  have hz : cH zeroH = #[.int .u64 0, .int .u64 0, .int .u64 0, .int .u64 0, .int .u64 0, .int .u64 0, .int .u64 0, .int .u64 0, .int .u64 0, .int .u64 0, .int .u64 0, .bool false, .int .u8 0, .int .u8 0, .int .u8 0, .int .i64 0, .int .i64 0, .int .i64 0, .int .i64 0, .int .i64 0, .int .i64 0, .int .i64 0, .int .i64 0, .int .i64 0] := rfl
  rw [hz] at hW
  clear hz
  generalize hc : cH (withN h s) = R
  have HR := Lib.hid hc
  clear hc
  generalize hk : cH h = Hc at *
  have HK := Lib.hid hk
  clear hk
  unfold sArr at hW ⊢
  go_enter Tryz.func84, Tryz.ntmps84
  go_upto_region 1 with fail
  try rw [hW]
  clear hW
  go_cut [] (fun wx => HAt wx w.heap.size 44 (withN h s) ∧ HAt wx (w.heap.size + 1 + 1) 44 zeroH ∧ Below w.heap.size w wx)
  case first =>
    go_region
    all_goals
      go_wp2_with fail
      go_meet
      case rel => exact ⟨HAt.later (HAt.secs H0.out s) (Below.drew (Below.refl _ _)), HAt.later (HAt.secs_far H2.out (by omega) s) (Below.drew (Below.refl _ _)), Below.drew (below_secs HBW.out (Nat.le_refl _) s)⟩
  case rest =>
    obtain ⟨hA, hZ, hB⟩ := hcut
    generalize wc = W2 at *
    have HA := Lib.hid hA
    have HZ := Lib.hid hZ
    have HB := Lib.hid hB
    clear hA hZ hB s0 s1 s2 s3 s4 s5 s6 s7 c0 c1 c2 c3 c4 c5 c6 c7 f0 H0 H2 HBW
    generalize hx : withN h s = X at *
    go_wp2_with (first | (refine wpList_load_row rfl 44 _ rfl w.heap.size rfl 44 (cH X) (0, 0) _ HA.out Tryz.underlying44 rfl head_size ?_) | (refine wpList_store_row rfl 44 _ _ rfl (w.heap.size + 1 + 1) (cH X) rfl rfl 44 (cH zeroH) HZ.out head_size rfl (cH_one X) ?_) | fail)
    have hp := put24 W2 (w.heap.size + 1 + 1) _ zeroH X HZ.out
    refine bodyPost_ret (results_cell_row rfl _ _ (w.heap.size + 1 + 1) 44 (cH X) (0, 0) _ rfl hp.1 Tryz.underlying44 rfl head_size) rfl ⟨by rw [HR.out], hp.2.2.1 _ _ (by omega) HB.out⟩
end Go.Proofs.YtdnmgpcfgcidbaaGreatDoor
