/- A text's sum: the program's and the document's. -/
import Derived.Test.YtegboojhebhlnaaFb
import Derived.Deep.QuietTactic
import Derived.BigQuiet
import Derived.Below
namespace Go.Proofs.Ytegboojhebhlnaa
open Go.RowKit
set_option linter.unusedVariables false
set_option linter.unusedSimpArgs false
theorem take_snoc (s : ByteArray) (k : Nat) (h : k < s.size) : s.data.toList.take (k + 1) = s.data.toList.take k ++ [s[k]] := by
  rw [List.take_succ_eq_append_getElem (by simpa using h)]; rfl
theorem sum_step (x : Nat) (s : ByteArray) (k : Nat) (h : k < s.size) : sumF x (s.data.toList.take (k + 1)) = addF (sumF x (s.data.toList.take k)) s[k].toNat := by
  rw [take_snoc s k h, sumF_snoc]
theorem sum_whole (x : Nat) (s : ByteArray) : sumF x (s.data.toList.take s.size) = sumF x s.data.toList := by
  rw [List.take_of_length_le (by simp)]
set_option maxHeartbeats 1000000 in
theorem of_any (x0 : Nat) (hx0 : x0 < 18446744073709551616) (s : ByteArray) (hs : s.size ≤ maxLen) (w : World) :
    Calls Try.prog 51 #[.agg #[.int .u64 x0, .func (.func 50) #[] #[]], .string s] w fun e w' => e = .returned (.int .u64 (sumF x0 s.data.toList)) ∧ Below w.heap.size w w' := by
  have hs' := hs
  unfold maxLen at hs
  go_enter Try.func51, Try.ntmps51
  go_wp2
  go_loopw [5, 11] (fun x i wr => ∃ k : Nat, k ≤ s.size ∧ i = .int .i64 k ∧ x = .int .u64 (sumF x0 (s.data.toList.take k) : Nat) ∧ wr.cell? ⟨w.heap.size, 1, none⟩ = some (.func (.func 50) #[] #[]) ∧ w.heap.size < wr.heap.size ∧ Below w.heap.size w wr) (fun _ i _ => s.size - (intOf i).toNat)
  case atStart => exact ⟨0, Nat.zero_le _, rfl, by rw [List.take_zero, sumF_nil], by simp [go_sem], by simp, Below.alloc (Below.refl _ _) (Nat.le_refl _) _⟩
  case round =>
    obtain ⟨k, hk, rfl, rfl, hc, hz, hbw⟩ := hrel
    by_cases hlt : k < s.size
    · have HS := Lib.hid (sum_step x0 s k hlt)
      have hx := sumF_lt (s.data.toList.take k) x0 hx0
      have hb : s[k].toNat < 256 := s[k].toNat_lt
      generalize sumF x0 (s.data.toList.take k) = x at *
      have HA := Lib.hid (fadd_any x s[k].toNat hx hb)
      go_wp2_with fail
      go_quiet ((go_at_call 50; (with_reducible refine Calls.quiet_of_same (HA.out _))))
      have hd : Below w.heap.size w (wr.drewN nq) := hbw.trans ⟨rfl, rfl, rfl, Nat.le_refl _, fun _ _ => rfl⟩
      have hc' : (wr.drewN nq).cell? ⟨w.heap.size, 1, none⟩ = some (.func (.func 50) #[] #[]) := hc
      have hz' : w.heap.size < (wr.drewN nq).heap.size := hz
      clear hc hz hbw HA
      generalize wr.drewN nq = wn at *
      go_wp2_with fail
      go_roundw
      case rel => exact ⟨k + 1, by omega, by go_num, by rw [HS.out], hc', hz', hd⟩
      case measure => simp [intOf]; omega
    · obtain rfl : k = s.size := by omega
      have HW := Lib.hid (sum_whole x0 s)
      generalize sumF x0 (s.data.toList.take s.size) = x at *
      go_wp2
      go_ret
      exact ⟨ret_int (by rw [HW.out]), hbw⟩
theorem sum_any (s : ByteArray) (hs : s.size ≤ maxLen) (w : World) :
    Calls Try.prog 45 #[.string s] w fun e w' => e = .returned (.int .u64 (sumF fSt s.data.toList)) ∧ Below w.heap.size w w' := by
  have HO := Lib.hid (fun W => of_any fSt (by decide) s hs W)
  have he : ((fSt : Nat) : Int) = 14695981039346656037 := rfl
  rw [he] at HO
  clear he
  go_enter Try.func45, Try.ntmps45
  go_wp2_with fail
  refine (HO.out _).mono ?_
  rintro y w1 ⟨rfl, hb⟩
  have HB := Lib.hid hb
  clear hb
  go_wp2_with fail
  go_ret
  exact ⟨rfl, HB.out⟩
theorem bkt_bound (x : Nat) (n : Int) (h1 : 1 ≤ n) : 0 ≤ (x : Int) % n ∧ (x : Int) % n < n := ⟨Int.emod_nonneg _ (by omega), Int.emod_lt_of_pos _ (by omega)⟩
theorem bucket_any (s : ByteArray) (hs : s.size ≤ maxLen) (n : Int) (n0 : -9223372036854775808 ≤ n) (n1 : n ≤ 9223372036854775807) (w : World) :
    Calls Try.prog 35 #[.string s, .int .i64 n] w fun e w' => e = .returned (.int .i64 (bktF (sumF fSt s.data.toList) n)) ∧ Below w.heap.size w w' := by
  have HS := Lib.hid (fun W => sum_any s hs W)
  have hx := sumF_lt s.data.toList fSt (by decide)
  generalize sumF fSt s.data.toList = x at *
  by_cases h1 : n < 1
  · have HB := Lib.hid (show bktF x n = 0 by unfold bktF; rw [if_pos h1])
    go_enter Try.func35, Try.ntmps35
    go_wp2_with fail
    go_ret
    exact ⟨ret_int HB.out.symm, Below.refl _ _⟩
  · have HB := Lib.hid (show bktF x n = (x : Int) % n by unfold bktF; rw [if_neg h1])
    have HQ := Lib.hid (bkt_bound x n (by omega))
    have hw : IntKind.u64.wrap n = n := by rw [IntKind.wrap_u64]; omega
    have hn : ¬ n = 0 := by omega
    go_enter Try.func35, Try.ntmps35
    go_wp2_with fail
    refine (HS.out _).mono ?_
    rintro y w1 ⟨rfl, hb⟩
    have HBl := Lib.hid hb
    clear hb HS
    go_wp2_with fail
    go_ret
    exact ⟨ret_int (by rw [HB.out]; have := HQ.out; unfold wrap64; omega), HBl.out⟩
end Go.Proofs.Ytegboojhebhlnaa
