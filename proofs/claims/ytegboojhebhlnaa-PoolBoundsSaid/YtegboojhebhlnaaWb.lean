/- The walk of PoolBounds. -/
import Derived.Test.YtegboojhebhlnaaKx
import Derived.Test.YtegboojhebhlnaaKw
import Derived.Test.YtegboojhebhlnaaRq
import Derived.Laws.IdiomStrings
namespace Go.Proofs.Ytegboojhebhlnaa
open Go.RowKit
set_option linter.unusedVariables false
set_option linter.unusedSimpArgs false
theorem one_back (w : World) (c : UInt8) : (convert 50 9 (.slice (some ⟨w.heap.size, 0, none⟩) 1 1)).run Try.prog (w.alloc (.cells #[.int .u8 (c.toNat : Int)] 5)) = .ok (.string ⟨#[c]⟩) (w.alloc (.cells #[.int .u8 (c.toNat : Int)] 5)) :=
  run_convert_bytes_back (P := Try.prog) (w.alloc (.cells #[.int .u8 (c.toNat : Int)] 5)) 50 9 5 ⟨w.heap.size, 0, none⟩ 1 [c] Try.underlying50 Try.underlying5 Try.underlying9 (by
    intro j hj
    have : j = 0 := by simp at hj; exact hj
    subst this
    simp [go_sem, Addr.add])
theorem three_back (w : World) (a b c : UInt8) : (convert 50 9 (.slice (some ⟨w.heap.size, 0, none⟩) 3 3)).run Try.prog (w.alloc (.cells #[.int .u8 (a.toNat : Int), .int .u8 (b.toNat : Int), .int .u8 (c.toNat : Int)] 5)) = .ok (.string ⟨#[a, b, c]⟩) (w.alloc (.cells #[.int .u8 (a.toNat : Int), .int .u8 (b.toNat : Int), .int .u8 (c.toNat : Int)] 5)) :=
  run_convert_bytes_back (P := Try.prog) (w.alloc (.cells #[.int .u8 (a.toNat : Int), .int .u8 (b.toNat : Int), .int .u8 (c.toNat : Int)] 5)) 50 9 5 ⟨w.heap.size, 0, none⟩ 3 [a, b, c] Try.underlying50 Try.underlying5 Try.underlying9 (by
    intro j hj
    have hadd : (⟨w.heap.size, 0, none⟩ : Addr).add j = ⟨w.heap.size, j, none⟩ := by simp [Addr.add]; omega
    rw [hadd]
    match j, hj with
    | 0, hj => simp [go_sem]
    | 1, hj => simp [go_sem]
    | 2, hj => simp [go_sem]
    | j + 3, hj => simp at hj; omega)
theorem three_bytes (k : Nat) (h : k < 2047) : (((UInt8.ofNat ((k + 1) % 256)).toNat : Nat) : Int) = ((k : Int) + 1) % 256 ∧ (((UInt8.ofNat ((k + 1) / 256)).toNat : Nat) : Int) = ((k : Int) + 1) / 256 := by
  rw [UInt8.toNat_ofNat', UInt8.toNat_ofNat']
  omega
def tFull : ByteArray := { data := #[102, 117, 108, 108] }
theorem x_size (r : ByteArray) (hr : r.size = 65536) : (r ++ ⟨#[120]⟩ : ByteArray).size = 65537 := by
  rw [ByteArray.size_append, hr]; rfl
set_option maxRecDepth 20000 in
set_option maxHeartbeats 4000000 in
theorem poolbounds_law (x n : Int) (w : World) (x0 : 0 ≤ x) (x1 : x ≤ 255) (n0 : 0 ≤ n) (n1 : n ≤ 65535) :
    Calls Try.prog 4 #[.int .u8 x, .int .u16 n] w fun e w' => e = .returned (.bool true) ∧ Below w.heap.size w w' := by
  have HN := Lib.hid new_any
  have HK := Lib.hid awake_any
  go_enter Try.func4, Try.ntmps4
  go_wp2_with fail
  refine (HN.out _).mono ?_
  rintro y w1 ⟨pv, S1, rfl, hp, hs, hb⟩
  have HP := Lib.hid (Awk.new (Below.refl _ _) (Nat.le_refl _) hp hs hb)
  obtain ⟨pa, rfl⟩ := hp.ptr
  clear hp hs hb HN
  obtain ⟨c, rfl⟩ : ∃ c : UInt8, x = (c.toNat : Int) := ⟨UInt8.ofNat x.toNat, by rw [UInt8.toNat_ofNat', Nat.mod_eq_of_lt (by omega)]; omega⟩
  have hr1 := one_back w1 c
  have HP1 := Lib.hid (HP.out.alloc (.cells #[.int .u8 (c.toNat : Int)] 5))
  clear HP
  go_wp2_with fail
  refine (rep_any c _).mono ?_
  rintro y w2 ⟨r, rfl, hr, hb⟩
  have HP2 := Lib.hid (HP1.out.later hb)
  clear hb HP1 hr1
  obtain ⟨a1, a2, a3⟩ := bL_first r c hr
  have hX := HP2.out.add r (by unfold maxLen; omega)
  rw [a1, a2, a3] at hX
  have HX := Lib.hid hX
  clear hX a1 a2 a3
  generalize offA [] r = o1 at *
  generalize lenA [] r = l1 at *
  have hcat : r.size + (⟨#[120]⟩ : ByteArray).size ≤ 9223372036854775807 := by rw [hr]; decide
  have hxs := x_size r hr
  have HR := Lib.hid hr
  clear hr
  go_wp2_with fail
  refine HX.out.mono ?_
  rintro y w3 ⟨rfl, S2, hP, hk⟩
  have hP3 := hP.alloc (.cells #[.int .u64 o1, .int .u32 l1] 31)
  have HP3 := Lib.hid hP3
  obtain ⟨a1, a2, a3⟩ := bL_over r c _ hxs
  have hX := hP3.add _ (show (r ++ ⟨#[120]⟩ : ByteArray).size ≤ maxLen by unfold maxLen; omega)
  rw [a1, a2, a3] at hX
  have HX2 := Lib.hid hX
  clear hX a1 a2 a3 hP hk hP3 HX HP2
  generalize offA (bL r c 0) (r ++ ⟨#[120]⟩) = o2 at *
  generalize lenA (bL r c 0) (r ++ ⟨#[120]⟩) = l2 at *
  go_wp2_with fail
  refine HX2.out.mono ?_
  rintro y w4 ⟨rfl, S3, hP, hk⟩
  have HP4 := Lib.hid (hP.alloc (.cells #[.int .u64 o2, .int .u32 l2] 31))
  clear hP hk HX2 HP3
  go_wp2_with fail
  go_loopw [13] (fun i wr => ∃ (k : Nat) (S : Nat → Prop), k ≤ 2047 ∧ i = .int .i64 ((k + 1 : Nat) : Int) ∧ Awk w.heap.size w wr (.pointer (some pa)) (bL r c k) S) (fun i _ => 2048 - (intOf i).toNat)
  case atStart => exact ⟨0, S3, by omega, rfl, HP4.out⟩
  case round =>
    obtain ⟨k, S, hk, rfl, hP⟩ := hrel
    clear HP4
    by_cases hlt : k < 2047
    · have hwa : ((k + 1 : Nat) : Int) < 2048 := by omega
      have hr3 := three_back wr c (UInt8.ofNat ((k + 1) % 256)) (UInt8.ofNat ((k + 1) / 256))
      obtain ⟨e1, e2⟩ := three_bytes k hlt
      rw [e1, e2] at hr3
      obtain ⟨a1, a2, a3⟩ := bL_new r c k HR.out hlt
      have hP1 := hP.alloc (.cells #[.int .u8 (c.toNat : Int), .int .u8 (((k : Int) + 1) % 256), .int .u8 (((k : Int) + 1) / 256)] 5)
      have hX := hP1.add (three c (k + 1)) (by rw [three_size]; unfold maxLen; omega)
      rw [a1, a2, a3] at hX
      have HX := Lib.hid hX
      generalize offA (bL r c k) (three c (k + 1)) = o3 at *
      generalize lenA (bL r c k) (three c (k + 1)) = l3 at *
      clear hX a1 a2 a3 hP hP1 e1 e2
      go_wp2_with fail
      refine HX.out.mono ?_
      rintro y w5 ⟨rfl, S4, hP, hk5⟩
      have HP5 := Lib.hid (hP.alloc (.cells #[.int .u64 o3, .int .u32 l3] 31))
      clear hP hk5 HX hr3
      go_wp2_with fail
      go_roundw
      case rel => exact ⟨k + 1, S4, by omega, by go_num, HP5.out⟩
      case measure => simp [intOf]; omega
    · obtain rfl : k = 2047 := by omega
      have HP5 := Lib.hid hP
      obtain ⟨a1, a2, a3⟩ := bL_full r c tFull HR.out (by decide)
      have hX := hP.add tFull (by decide +kernel)
      rw [a1, a2, a3] at hX
      have HX := Lib.hid hX
      clear hX a1 a2 a3 hP
      generalize offA (bL r c 2047) tFull = o3 at *
      generalize lenA (bL r c 2047) tFull = l3 at *
      obtain ⟨m, hm⟩ : ∃ m : Nat, (m : Int) = n % 2047 := ⟨(n % 2047).toNat, by omega⟩
      have hm2 : m < 2047 := by omega
      go_wp2_with fail
      refine HX.out.mono ?_
      rintro y w5 ⟨rfl, S4, hP, hk5⟩
      have hP6 := hP.alloc (.cells #[.int .u64 o3, .int .u32 l3] 31)
      have HP6 := Lib.hid hP6
      have hr3 := three_back (w5.alloc (.cells #[.int .u64 o3, .int .u32 l3] 31)) c (UInt8.ofNat ((m + 1) % 256)) (UInt8.ofNat ((m + 1) / 256))
      obtain ⟨e1, e2⟩ := three_bytes m hm2
      rw [e1, e2] at hr3
      rw [show ((m : Int) + 1) = 1 + n % 2047 by omega] at hr3
      simp only [World.size_alloc] at hr3
      obtain ⟨a1, a2, a3⟩ := bL_old r c m HR.out hm2
      have hP7 := hP6.alloc (.cells #[.int .u8 (c.toNat : Int), .int .u8 ((1 + n % 2047) % 256), .int .u8 ((1 + n % 2047) / 256)] 5)
      have hY := hP7.add (three c (m + 1)) (by rw [three_size]; unfold maxLen; omega)
      rw [a1, a2, a3] at hY
      have HY := Lib.hid hY
      generalize offA (bL r c 2047) (three c (m + 1)) = o4 at *
      generalize lenA (bL r c 2047) (three c (m + 1)) = l4 at *
      clear hY a1 a2 a3 hP hP6 hP7 hk5 HX e1 e2
      go_wp2_with fail
      refine HY.out.mono ?_
      rintro y w6 ⟨rfl, S5, hP, hk6⟩
      have hP8 := hP.alloc (.cells #[.int .u64 o4, .int .u32 l4] 31)
      have HP8 := Lib.hid hP8
      have hL := len_any _ _ _ _ hP8.pool
      rw [bL_len] at hL
      have HL := Lib.hid hL
      clear hL hP hP8 hk6 HY hr3 HP6 HP5
      go_wp2_with fail
      refine HL.out.mono ?_
      rintro y w7 ⟨rfl, hb⟩
      have HP9 := Lib.hid (HP8.out.later hb)
      clear hb HL HP8
      go_wp2_with fail
      refine (HK.out _).mono ?_
      rintro y w8 ⟨rfl, hb⟩
      have HP10 := Lib.hid (HP9.out.later hb)
      clear hb HP9
      go_wp2_with fail
      go_ret
      exact ⟨rfl, HP10.out.bel⟩
end Go.Proofs.Ytegboojhebhlnaa
