/- The document's mark and Quote. -/
import Derived.Test.YtcpofeebfckmhaaJh
namespace Go.Proofs.Ytcpofeebfckmhaa
open Go.RowKit
set_option maxRecDepth 20000
set_option linter.unusedVariables false
set_option linter.unusedSimpArgs false
theorem Below.drewNs {w W : World} (h : Below w.heap.size w W) (n : Nat) : Below w.heap.size w (W.drewN n) := h.trans (show Below w.heap.size W (W.drewN n) from ⟨rfl, rfl, rfl, Nat.le_refl _, fun _ _ => rfl⟩)
theorem rmark_34 (w : World) : Calls Try.prog 18 #[.int .u8 34] w fun e w' => e = .returned (.string (str (markP 34))) ∧ Below w.heap.size w w' := by
  have hr : str (markP 34) = { data := #[92, 34] } := by decide
  rw [hr]
  clear hr
  go_enter Try.func18, Try.ntmps18
  go_wp2_with fail
  refine wp_loop_rounds 8 ?_
  rw [rounds_succ]
  go_wp2_with fail
  go_ret
  exact ⟨rfl, Below.refl _ _⟩
theorem rmark_92 (w : World) : Calls Try.prog 18 #[.int .u8 92] w fun e w' => e = .returned (.string (str (markP 92))) ∧ Below w.heap.size w w' := by
  have hr : str (markP 92) = { data := #[92, 92] } := by decide
  rw [hr]
  clear hr
  go_enter Try.func18, Try.ntmps18
  go_wp2_with fail
  refine wp_loop_rounds 8 ?_
  rw [rounds_succ]
  go_wp2_with fail
  rw [rounds_succ]
  go_wp2_with fail
  go_ret
  exact ⟨rfl, Below.refl _ _⟩
theorem rmark_8 (w : World) : Calls Try.prog 18 #[.int .u8 8] w fun e w' => e = .returned (.string (str (markP 8))) ∧ Below w.heap.size w w' := by
  have hr : str (markP 8) = { data := #[92, 98] } := by decide
  rw [hr]
  clear hr
  go_enter Try.func18, Try.ntmps18
  go_wp2_with fail
  refine wp_loop_rounds 8 ?_
  rw [rounds_succ]
  go_wp2_with fail
  rw [rounds_succ]
  go_wp2_with fail
  rw [rounds_succ]
  go_wp2_with fail
  go_ret
  exact ⟨rfl, Below.refl _ _⟩
theorem rmark_9 (w : World) : Calls Try.prog 18 #[.int .u8 9] w fun e w' => e = .returned (.string (str (markP 9))) ∧ Below w.heap.size w w' := by
  have hr : str (markP 9) = { data := #[92, 116] } := by decide
  rw [hr]
  clear hr
  go_enter Try.func18, Try.ntmps18
  go_wp2_with fail
  refine wp_loop_rounds 8 ?_
  rw [rounds_succ]
  go_wp2_with fail
  rw [rounds_succ]
  go_wp2_with fail
  rw [rounds_succ]
  go_wp2_with fail
  rw [rounds_succ]
  go_wp2_with fail
  go_ret
  exact ⟨rfl, Below.refl _ _⟩
theorem rmark_10 (w : World) : Calls Try.prog 18 #[.int .u8 10] w fun e w' => e = .returned (.string (str (markP 10))) ∧ Below w.heap.size w w' := by
  have hr : str (markP 10) = { data := #[92, 110] } := by decide
  rw [hr]
  clear hr
  go_enter Try.func18, Try.ntmps18
  go_wp2_with fail
  refine wp_loop_rounds 8 ?_
  rw [rounds_succ]
  go_wp2_with fail
  rw [rounds_succ]
  go_wp2_with fail
  rw [rounds_succ]
  go_wp2_with fail
  rw [rounds_succ]
  go_wp2_with fail
  rw [rounds_succ]
  go_wp2_with fail
  go_ret
  exact ⟨rfl, Below.refl _ _⟩
theorem rmark_12 (w : World) : Calls Try.prog 18 #[.int .u8 12] w fun e w' => e = .returned (.string (str (markP 12))) ∧ Below w.heap.size w w' := by
  have hr : str (markP 12) = { data := #[92, 102] } := by decide
  rw [hr]
  clear hr
  go_enter Try.func18, Try.ntmps18
  go_wp2_with fail
  refine wp_loop_rounds 8 ?_
  rw [rounds_succ]
  go_wp2_with fail
  rw [rounds_succ]
  go_wp2_with fail
  rw [rounds_succ]
  go_wp2_with fail
  rw [rounds_succ]
  go_wp2_with fail
  rw [rounds_succ]
  go_wp2_with fail
  rw [rounds_succ]
  go_wp2_with fail
  go_ret
  exact ⟨rfl, Below.refl _ _⟩
theorem rmark_13 (w : World) : Calls Try.prog 18 #[.int .u8 13] w fun e w' => e = .returned (.string (str (markP 13))) ∧ Below w.heap.size w w' := by
  have hr : str (markP 13) = { data := #[92, 114] } := by decide
  rw [hr]
  clear hr
  go_enter Try.func18, Try.ntmps18
  go_wp2_with fail
  refine wp_loop_rounds 8 ?_
  rw [rounds_succ]
  go_wp2_with fail
  rw [rounds_succ]
  go_wp2_with fail
  rw [rounds_succ]
  go_wp2_with fail
  rw [rounds_succ]
  go_wp2_with fail
  rw [rounds_succ]
  go_wp2_with fail
  rw [rounds_succ]
  go_wp2_with fail
  rw [rounds_succ]
  go_wp2_with fail
  go_ret
  exact ⟨rfl, Below.refl _ _⟩
theorem mark_low : ∀ k : Nat, k < 32 → markP (k : Int) ≠ [(k : Int)] → markP (k : Int) = [92, 117, 48, 48, hexP ((k : Int) / 16), hexP ((k : Int) % 16)] ∨ k = 8 ∨ k = 9 ∨ k = 10 ∨ k = 12 ∨ k = 13 := by decide
def hexT : ByteArray := { data := #[48, 49, 50, 51, 52, 53, 54, 55, 56, 57, 97, 98, 99, 100, 101, 102] }
theorem hex_ext : ∀ d : Nat, d < 16 → hexT.extract d (d + 1) = str [hexP (d : Int)] := by decide
theorem mark_is {c : Int} (h0 : 0 ≤ c) (h : c < 32) (h8 : c ≠ 8) (h9 : c ≠ 9) (h10 : c ≠ 10) (h12 : c ≠ 12) (h13 : c ≠ 13) : markP c = [92, 117, 48, 48, hexP (c / 16), hexP (c % 16)] := by
  unfold markP
  rw [if_neg (by omega), if_neg (by omega), if_neg h8, if_neg h9, if_neg h10, if_neg h12, if_neg h13, if_pos h]
theorem mark_self {c : Int} (h : 32 ≤ c) (h1 : c ≠ 34) (h2 : c ≠ 92) : markP c = [c] := by
  unfold markP
  rw [if_neg h1, if_neg h2, if_neg (by omega), if_neg (by omega), if_neg (by omega), if_neg (by omega), if_neg (by omega), if_neg (by omega)]
set_option maxHeartbeats 2000000 in
theorem rmark_low (c : Int) (w : World) (h0 : 0 ≤ c) (h1 : c < 32) (n34 : (34 == c) = false) (n92 : (92 == c) = false) (n8 : (8 == c) = false) (n9 : (9 == c) = false) (n10 : (10 == c) = false) (n12 : (12 == c) = false) (n13 : (13 == c) = false) (hx : str (markP c) = { data := #[92, 117, 48, 48] } ++ hexT.extract (c / 16).toNat (c / 16 + 1).toNat ++ hexT.extract (c % 16).toNat (c % 16 + 1).toNat) : Calls Try.prog 18 #[.int .u8 c] w fun e w' => e = .returned (.string (str (markP c))) ∧ Below w.heap.size w w' := by
  have d1 : decide (c < 32) = true := decide_eq_true h1
  have w1 : IntKind.u8.wrap (c / 16 + 1) = c / 16 + 1 := by rw [IntKind.wrap_u8]; omega
  have w2 : IntKind.u8.wrap (c % 16 + 1) = c % 16 + 1 := by rw [IntKind.wrap_u8]; omega
  have b1 : 0 ≤ c / 16 := by omega
  have b2 : c / 16 ≤ c / 16 + 1 := by omega
  have b3 : c / 16 + 1 ≤ 16 := by omega
  have b4 : 0 ≤ c % 16 := by omega
  have b5 : c % 16 ≤ c % 16 + 1 := by omega
  have b6 : c % 16 + 1 ≤ 16 := by omega
  rw [hx]
  clear hx
  unfold hexT
  have k0 : ((({ data := #[34, 92, 8, 9, 10, 12, 13] } : ByteArray)[0]'(by decide)).toNat : Int) = 34 := rfl
  have k1 : ((({ data := #[34, 92, 8, 9, 10, 12, 13] } : ByteArray)[1]'(by decide)).toNat : Int) = 92 := rfl
  have k2 : ((({ data := #[34, 92, 8, 9, 10, 12, 13] } : ByteArray)[2]'(by decide)).toNat : Int) = 8 := rfl
  have k3 : ((({ data := #[34, 92, 8, 9, 10, 12, 13] } : ByteArray)[3]'(by decide)).toNat : Int) = 9 := rfl
  have k4 : ((({ data := #[34, 92, 8, 9, 10, 12, 13] } : ByteArray)[4]'(by decide)).toNat : Int) = 10 := rfl
  have k5 : ((({ data := #[34, 92, 8, 9, 10, 12, 13] } : ByteArray)[5]'(by decide)).toNat : Int) = 12 := rfl
  have k6 : ((({ data := #[34, 92, 8, 9, 10, 12, 13] } : ByteArray)[6]'(by decide)).toNat : Int) = 13 := rfl
  go_enter Try.func18, Try.ntmps18
  go_wp2_with fail
  refine wp_loop_rounds 8 ?_
  rw [rounds_succ]
  go_wp2_with fail
  rw [rounds_succ]
  go_wp2_with fail
  rw [rounds_succ]
  go_wp2_with fail
  rw [rounds_succ]
  go_wp2_with fail
  rw [rounds_succ]
  go_wp2_with fail
  rw [rounds_succ]
  go_wp2_with fail
  rw [rounds_succ]
  go_wp2_with fail
  rw [rounds_succ]
  go_wp2_with fail
  go_quiet (fail)
  go_wp2_with fail
  go_ret
  exact ⟨rfl, Below.drewNs (Below.refl _ _) _⟩
set_option maxHeartbeats 2000000 in
theorem rmark_self (c : Int) (w : World) (h0 : 32 ≤ c) (h1 : c < 128) (n34 : (34 == c) = false) (n92 : (92 == c) = false) (n8 : (8 == c) = false) (n9 : (9 == c) = false) (n10 : (10 == c) = false) (n12 : (12 == c) = false) (n13 : (13 == c) = false) : Calls Try.prog 18 #[.int .u8 c] w fun e w' => e = .returned (.string (str [c])) ∧ Below w.heap.size w w' := by
  have d1 : decide (c < 32) = false := decide_eq_false (by omega)
  have hx := run_built w [c] 5 (by simp)
  simp only [List.map_cons, List.map_nil, List.length_cons, List.length_nil, Nat.zero_add] at hx
  have k0 : ((({ data := #[34, 92, 8, 9, 10, 12, 13] } : ByteArray)[0]'(by decide)).toNat : Int) = 34 := rfl
  have k1 : ((({ data := #[34, 92, 8, 9, 10, 12, 13] } : ByteArray)[1]'(by decide)).toNat : Int) = 92 := rfl
  have k2 : ((({ data := #[34, 92, 8, 9, 10, 12, 13] } : ByteArray)[2]'(by decide)).toNat : Int) = 8 := rfl
  have k3 : ((({ data := #[34, 92, 8, 9, 10, 12, 13] } : ByteArray)[3]'(by decide)).toNat : Int) = 9 := rfl
  have k4 : ((({ data := #[34, 92, 8, 9, 10, 12, 13] } : ByteArray)[4]'(by decide)).toNat : Int) = 10 := rfl
  have k5 : ((({ data := #[34, 92, 8, 9, 10, 12, 13] } : ByteArray)[5]'(by decide)).toNat : Int) = 12 := rfl
  have k6 : ((({ data := #[34, 92, 8, 9, 10, 12, 13] } : ByteArray)[6]'(by decide)).toNat : Int) = 13 := rfl
  go_enter Try.func18, Try.ntmps18
  go_wp2_with fail
  refine wp_loop_rounds 8 ?_
  rw [rounds_succ]
  go_wp2_with fail
  rw [rounds_succ]
  go_wp2_with fail
  rw [rounds_succ]
  go_wp2_with fail
  rw [rounds_succ]
  go_wp2_with fail
  rw [rounds_succ]
  go_wp2_with fail
  rw [rounds_succ]
  go_wp2_with fail
  rw [rounds_succ]
  go_wp2_with fail
  rw [rounds_succ]
  go_wp2_with fail
  go_ret
  exact ⟨rfl, by go_grown⟩
theorem rmark_any (c : Int) (w : World) (h0 : 0 ≤ c) (h1 : c < 128) : Calls Try.prog 18 #[.int .u8 c] w fun e w' => e = .returned (.string (str (markP c))) ∧ Below w.heap.size w w' := by
  by_cases c34 : c = 34
  · rw [c34]; exact rmark_34 w
  by_cases c92 : c = 92
  · rw [c92]; exact rmark_92 w
  by_cases c8 : c = 8
  · rw [c8]; exact rmark_8 w
  by_cases c9 : c = 9
  · rw [c9]; exact rmark_9 w
  by_cases c10 : c = 10
  · rw [c10]; exact rmark_10 w
  by_cases c12 : c = 12
  · rw [c12]; exact rmark_12 w
  by_cases c13 : c = 13
  · rw [c13]; exact rmark_13 w
  have n34 : ((34 : Int) == c) = false := by simpa using fun e => c34 e.symm
  have n92 : ((92 : Int) == c) = false := by simpa using fun e => c92 e.symm
  have n8 : ((8 : Int) == c) = false := by simpa using fun e => c8 e.symm
  have n9 : ((9 : Int) == c) = false := by simpa using fun e => c9 e.symm
  have n10 : ((10 : Int) == c) = false := by simpa using fun e => c10 e.symm
  have n12 : ((12 : Int) == c) = false := by simpa using fun e => c12 e.symm
  have n13 : ((13 : Int) == c) = false := by simpa using fun e => c13 e.symm
  by_cases h2 : c < 32
  · refine rmark_low c w h0 h2 n34 n92 n8 n9 n10 n12 n13 ?_
    have e1 := hex_ext (c / 16).toNat (by omega)
    have e2 := hex_ext (c % 16).toNat (by omega)
    rw [show ((c / 16).toNat : Int) = c / 16 by omega] at e1
    rw [show ((c % 16).toNat : Int) = c % 16 by omega] at e2
    rw [show (c / 16 + 1).toNat = (c / 16).toNat + 1 by omega, show (c % 16 + 1).toNat = (c % 16).toNat + 1 by omega, e1, e2, mark_is h0 h2 c8 c9 c10 c12 c13]
    rw [show ({ data := #[92, 117, 48, 48] } : ByteArray) = str [92, 117, 48, 48] by decide, str_append, str_append]
    rfl
  · rw [mark_self (by omega) c34 c92]
    exact rmark_self c w (by omega) h1 n34 n92 n8 n9 n10 n12 n13
end Go.Proofs.Ytcpofeebfckmhaa
