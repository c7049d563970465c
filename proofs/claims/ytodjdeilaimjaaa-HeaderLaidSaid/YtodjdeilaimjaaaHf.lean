/- The contract of lay, at ints, at 64 bits and at bytes: behind the bytes the numbers, each in its lowest n bytes; what was there stays. -/
import Derived.Test.YtodjdeilaimjaaaHb
import Derived.Test.YtodjdeilaimjaaaQ
namespace Go.Proofs.Ytodjdeilaimjaaa
open Go.RowKit
set_option linter.unusedVariables false
theorem leB_leH (n : Nat) (x : Int) : leB n x = leH n x := by
  induction n generalizing x with
  | zero => rfl
  | succ n ih => rw [leB, leH, ih]
/-- Only the lowest bytes count. -/
theorem leH_mod (n : Nat) (m x : Int) : leH n (x % (256 ^ n * m)) = leH n x := by
  induction n generalizing x with
  | zero => rfl
  | succ n ih =>
    rw [leH, leH]
    have e : (256 : Int) ^ (n + 1) * m = 256 * (256 ^ n * m) := by rw [Int.pow_succ, Int.mul_comm (256 ^ n) 256, Int.mul_assoc]
    rw [e]
    have h1 : x % (256 * (256 ^ n * m)) % 256 = x % 256 := Int.emod_emod_of_dvd x ⟨_, rfl⟩
    have h2 : x % (256 * (256 ^ n * m)) / 256 = x / 256 % (256 ^ n * m) := by
      have h3 := Int.emod_add_mul_ediv x (256 * (256 ^ n * m))
      rw [Int.emod_def x, Int.emod_def (x / 256), Int.mul_assoc 256, Int.sub_mul_ediv_left _ _ (by omega : (256 : Int) ≠ 0), Int.ediv_ediv_of_nonneg (by omega : (0 : Int) ≤ 256)]
    rw [h1, h2, ih]
theorem leH_wrap (n : Nat) (x : Int) (h : n ≤ 8) : leH n (IntKind.u64.wrap x) = leH n x := by
  rw [wrap_u64]
  have := leH_mod n (256 ^ (8 - n)) x
  rw [← Int.pow_add, show n + (8 - n) = 8 from by omega] at this
  exact this
/-- Numbers, each in its lowest n bytes. -/
def flatH (n : Nat) : List Int → List Int
  | [] => []
  | x :: l => leH n x ++ flatH n l
theorem flatH_append (n : Nat) (a b : List Int) : flatH n (a ++ b) = flatH n a ++ flatH n b := by
  induction a with
  | nil => rfl
  | cons x a ih => rw [List.cons_append, flatH, flatH, ih, List.append_assoc]
theorem flatH_len (n : Nat) (l : List Int) : (flatH n l).length = n * l.length := by
  induction l with
  | nil => rfl
  | cons x l ih => rw [flatH, List.length_append, leH_len, ih, List.length_cons, Nat.mul_succ, Nat.add_comm]
theorem flatH_take (n : Nat) (l : List Int) (k : Nat) (h : k < l.length) : flatH n (l.take (k + 1)) = flatH n (l.take k) ++ leH n (l.getD k 0) := by
  rw [take_snoc l k h, flatH_append]
  simp [flatH]
theorem getD_mem (l : List Int) (k : Nat) (h : k < l.length) : l.getD k 0 ∈ l := by
  have e : l.getD k 0 = l[k] := by simp [h]
  rw [e]
  exact List.getElem_mem h
theorem wrap_bd (x : Int) : 0 ≤ IntKind.u64.wrap x ∧ IntKind.u64.wrap x ≤ 18446744073709551615 := by rw [wrap_u64]; omega
def LayEnd (w : World) (l : List Int) (e : Ending) (w' : World) : Prop := ∃ v, e = .returned v ∧ BytesAt w' v l ∧ Below w.heap.size w w'
set_option maxRecDepth 20000 in
theorem layI_any (v vl : Value) (b l : List Int) (n : Nat) (w : World) (hb : BytesAt w v b) (hl : NumsAt .i64 w vl l) (h0 : 1 ≤ n) (h8 : n ≤ 8) (hs : b.length + n * l.length ≤ 1000000) :
    Calls Try.prog 19 #[v, .int .i64 n, vl] w (LayEnd w (b ++ flatH n l)) := by
  obtain ⟨c, cap, rfl, hc1, hc2, hc, hcell⟩ := hl
  have HC := Lib.hid hcell; clear hcell
  have hml : l.length ≤ 9223372036854775807 := by unfold maxLen at hc2; omega
  have HB := Lib.hid hb; clear hb
  go_enter Try.func19, Try.ntmps19
  go_wp2_with fail
  go_loopw [0, 11] (fun v i wr => ∃ k : Nat, k ≤ l.length ∧ i = .int .i64 k ∧ BytesAt wr v (b ++ flatH n (l.take k)) ∧ Below w.heap.size w wr) (fun _ i _ => l.length - (intOf i).toNat)
  case atStart => exact ⟨0, Nat.zero_le _, rfl, by simpa [flatH] using HB.out, Below.refl _ _⟩
  case round =>
    obtain ⟨k, hk, rfl, hbr, hbw⟩ := hrel
    have hsz := hbw.size
    by_cases hlt : k < l.length
    · have c1 := (hbw.cell (p := ⟨c, k, none⟩) hc).trans (HC.out k hlt)
      have hlen : (b ++ flatH n (l.take k)).length ≤ 1000000 := by
        rw [List.length_append, flatH_len, List.length_take, Nat.min_eq_left hk]
        have := Nat.mul_le_mul_left n hk
        omega
      have HT : Hid (b ++ flatH n (l.take (k + 1)) = b ++ flatH n (l.take k) ++ leB n (IntKind.u64.wrap (l.getD k 0))) := Lib.hid (by rw [flatH_take n l k hlt, leB_leH, leH_wrap n _ h8, ← List.append_assoc])
      obtain ⟨x, hxx⟩ : ∃ x, l.getD k 0 = x := ⟨_, rfl⟩
      rw [hxx] at c1 HT
      have HX := Lib.hid hxx; clear hxx
      obtain ⟨L, hL⟩ : ∃ L, b ++ flatH n (l.take k) = L := ⟨_, rfl⟩
      rw [hL] at hbr HT hlen
      clear hL HX
      have HBR := Lib.hid hbr; clear hbr
      have HL := Lib.hid hlen; clear hlen
      have HBW := Lib.hid hbw; clear hbw
      have hwb := wrap_bd x
      go_wp2_with fail
      refine (put_any _ L n (IntKind.u64.wrap x) n _ HBR.out HL.out (.inl ⟨rfl, h0, h8⟩) hwb.1 hwb.2).mono ?_
      rintro e w1 ⟨v1, rfl, ho, hb1⟩
      have hbe := ho.bytesAt
      rw [← HT.out] at hbe
      have hbw1 := HBW.out.trans (hb1.mono hsz)
      clear hb1 ho
      go_wp2_with fail
      go_roundw
      case rel => exact ⟨k + 1, by omega, by go_num, hbe, hbw1⟩
      case measure => simp [intOf]; omega
    · obtain rfl : k = l.length := by omega
      rw [List.take_length] at hbr
      go_wp2_with fail
      go_ret
      exact ⟨_, rfl, hbr, hbw⟩
set_option maxRecDepth 20000 in
theorem layW_any (v vl : Value) (b l : List Int) (n : Nat) (w : World) (hb : BytesAt w v b) (hl : NumsAt .u64 w vl l) (hx : ∀ x ∈ l, U64 x) (h0 : 1 ≤ n) (h8 : n ≤ 8) (hs : b.length + n * l.length ≤ 1000000) :
    Calls Try.prog 21 #[v, .int .i64 n, vl] w (LayEnd w (b ++ flatH n l)) := by
  obtain ⟨c, cap, rfl, hc1, hc2, hc, hcell⟩ := hl
  have HC := Lib.hid hcell; clear hcell
  have hml : l.length ≤ 9223372036854775807 := by unfold maxLen at hc2; omega
  have HB := Lib.hid hb; clear hb
  have HXX := Lib.hid hx; clear hx
  go_enter Try.func21, Try.ntmps21
  go_wp2_with fail
  go_loopw [0, 11] (fun v i wr => ∃ k : Nat, k ≤ l.length ∧ i = .int .i64 k ∧ BytesAt wr v (b ++ flatH n (l.take k)) ∧ Below w.heap.size w wr) (fun _ i _ => l.length - (intOf i).toNat)
  case atStart => exact ⟨0, Nat.zero_le _, rfl, by simpa [flatH] using HB.out, Below.refl _ _⟩
  case round =>
    obtain ⟨k, hk, rfl, hbr, hbw⟩ := hrel
    have hsz := hbw.size
    by_cases hlt : k < l.length
    · have c1 := (hbw.cell (p := ⟨c, k, none⟩) hc).trans (HC.out k hlt)
      have hlen : (b ++ flatH n (l.take k)).length ≤ 1000000 := by
        rw [List.length_append, flatH_len, List.length_take, Nat.min_eq_left hk]
        have := Nat.mul_le_mul_left n hk
        omega
      have HT : Hid (b ++ flatH n (l.take (k + 1)) = b ++ flatH n (l.take k) ++ leB n (l.getD k 0)) := Lib.hid (by rw [flatH_take n l k hlt, leB_leH, ← List.append_assoc])
      have hbx : U64 (l.getD k 0) := HXX.out _ (getD_mem l k hlt)
      obtain ⟨x, hxx⟩ : ∃ x, l.getD k 0 = x := ⟨_, rfl⟩
      rw [hxx] at c1 HT hbx
      have HX := Lib.hid hxx; clear hxx
      obtain ⟨L, hL⟩ : ∃ L, b ++ flatH n (l.take k) = L := ⟨_, rfl⟩
      rw [hL] at hbr HT hlen
      clear hL HX
      have HBR := Lib.hid hbr; clear hbr
      have HL := Lib.hid hlen; clear hlen
      have HBW := Lib.hid hbw; clear hbw
      obtain ⟨hx0, hx1⟩ := hbx
      go_wp2_with fail
      refine (put_any _ L n (x) n _ HBR.out HL.out (.inl ⟨rfl, h0, h8⟩) hx0 hx1).mono ?_
      rintro e w1 ⟨v1, rfl, ho, hb1⟩
      have hbe := ho.bytesAt
      rw [← HT.out] at hbe
      have hbw1 := HBW.out.trans (hb1.mono hsz)
      clear hb1 ho
      go_wp2_with fail
      go_roundw
      case rel => exact ⟨k + 1, by omega, by go_num, hbe, hbw1⟩
      case measure => simp [intOf]; omega
    · obtain rfl : k = l.length := by omega
      rw [List.take_length] at hbr
      go_wp2_with fail
      go_ret
      exact ⟨_, rfl, hbr, hbw⟩
set_option maxRecDepth 20000 in
theorem layB_any (v vl : Value) (b l : List Int) (n : Nat) (w : World) (hb : BytesAt w v b) (hl : NumsAt .u8 w vl l) (hx : ∀ x ∈ l, U8 x) (h0 : 1 ≤ n) (h8 : n ≤ 8) (hs : b.length + n * l.length ≤ 1000000) :
    Calls Try.prog 22 #[v, .int .i64 n, vl] w (LayEnd w (b ++ flatH n l)) := by
  obtain ⟨c, cap, rfl, hc1, hc2, hc, hcell⟩ := hl
  have HC := Lib.hid hcell; clear hcell
  have hml : l.length ≤ 9223372036854775807 := by unfold maxLen at hc2; omega
  have HB := Lib.hid hb; clear hb
  have HXX := Lib.hid hx; clear hx
  go_enter Try.func22, Try.ntmps22
  go_wp2_with fail
  go_loopw [0, 11] (fun v i wr => ∃ k : Nat, k ≤ l.length ∧ i = .int .i64 k ∧ BytesAt wr v (b ++ flatH n (l.take k)) ∧ Below w.heap.size w wr) (fun _ i _ => l.length - (intOf i).toNat)
  case atStart => exact ⟨0, Nat.zero_le _, rfl, by simpa [flatH] using HB.out, Below.refl _ _⟩
  case round =>
    obtain ⟨k, hk, rfl, hbr, hbw⟩ := hrel
    have hsz := hbw.size
    by_cases hlt : k < l.length
    · have c1 := (hbw.cell (p := ⟨c, k, none⟩) hc).trans (HC.out k hlt)
      have hlen : (b ++ flatH n (l.take k)).length ≤ 1000000 := by
        rw [List.length_append, flatH_len, List.length_take, Nat.min_eq_left hk]
        have := Nat.mul_le_mul_left n hk
        omega
      have HT : Hid (b ++ flatH n (l.take (k + 1)) = b ++ flatH n (l.take k) ++ leB n (l.getD k 0)) := Lib.hid (by rw [flatH_take n l k hlt, leB_leH, ← List.append_assoc])
      have hbx : U8 (l.getD k 0) := HXX.out _ (getD_mem l k hlt)
      obtain ⟨x, hxx⟩ : ∃ x, l.getD k 0 = x := ⟨_, rfl⟩
      rw [hxx] at c1 HT hbx
      have HX := Lib.hid hxx; clear hxx
      obtain ⟨L, hL⟩ : ∃ L, b ++ flatH n (l.take k) = L := ⟨_, rfl⟩
      rw [hL] at hbr HT hlen
      clear hL HX
      have HBR := Lib.hid hbr; clear hbr
      have HL := Lib.hid hlen; clear hlen
      have HBW := Lib.hid hbw; clear hbw
      obtain ⟨hx0, hx1⟩ := hbx
      go_wp2_with fail
      refine (put_any _ L n (x) n _ HBR.out HL.out (.inl ⟨rfl, h0, h8⟩) hx0 (by omega)).mono ?_
      rintro e w1 ⟨v1, rfl, ho, hb1⟩
      have hbe := ho.bytesAt
      rw [← HT.out] at hbe
      have hbw1 := HBW.out.trans (hb1.mono hsz)
      clear hb1 ho
      go_wp2_with fail
      go_roundw
      case rel => exact ⟨k + 1, by omega, by go_num, hbe, hbw1⟩
      case measure => simp [intOf]; omega
    · obtain rfl : k = l.length := by omega
      rw [List.take_length] at hbr
      go_wp2_with fail
      go_ret
      exact ⟨_, rfl, hbr, hbw⟩
end Go.Proofs.Ytodjdeilaimjaaa
