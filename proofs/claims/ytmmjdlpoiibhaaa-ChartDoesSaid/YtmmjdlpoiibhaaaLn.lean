/- The contract of bits.Len64: the number of binary digits. -/
import Derived.Test.YtmmjdlpoiibhaaaA
import Derived.Handy
namespace Go.Proofs.Ytmmjdlpoiibhaaa
open Go.RowKit
set_option linter.unusedVariables false
def tab : List UInt8 := [0, 1, 2, 2, 3, 3, 3, 3, 4, 4, 4, 4, 4, 4, 4, 4, 5, 5, 5, 5, 5, 5, 5, 5, 5, 5, 5, 5, 5, 5, 5, 5, 6, 6, 6, 6, 6, 6, 6, 6, 6, 6, 6, 6, 6, 6, 6, 6, 6, 6, 6, 6, 6, 6, 6, 6, 6, 6, 6, 6, 6, 6, 6, 6, 7, 7, 7, 7, 7, 7, 7, 7, 7, 7, 7, 7, 7, 7, 7, 7, 7, 7, 7, 7, 7, 7, 7, 7, 7, 7, 7, 7, 7, 7, 7, 7, 7, 7, 7, 7, 7, 7, 7, 7, 7, 7, 7, 7, 7, 7, 7, 7, 7, 7, 7, 7, 7, 7, 7, 7, 7, 7, 7, 7, 7, 7, 7, 7, 8, 8, 8, 8, 8, 8, 8, 8, 8, 8, 8, 8, 8, 8, 8, 8, 8, 8, 8, 8, 8, 8, 8, 8, 8, 8, 8, 8, 8, 8, 8, 8, 8, 8, 8, 8, 8, 8, 8, 8, 8, 8, 8, 8, 8, 8, 8, 8, 8, 8, 8, 8, 8, 8, 8, 8, 8, 8, 8, 8, 8, 8, 8, 8, 8, 8, 8, 8, 8, 8, 8, 8, 8, 8, 8, 8, 8, 8, 8, 8, 8, 8, 8, 8, 8, 8, 8, 8, 8, 8, 8, 8, 8, 8, 8, 8, 8, 8, 8, 8, 8, 8, 8, 8, 8, 8, 8, 8, 8, 8, 8, 8, 8, 8, 8, 8, 8, 8, 8, 8, 8, 8, 8, 8, 8, 8, 8, 8]
/-- N is the number of binary digits of b. -/
def lenB (N b : Nat) : Bool := (N == 0 && b == 0) || (decide (1 ≤ N) && decide (N ≤ 64) && decide (2 ^ (N - 1) ≤ b) && decide (b < 2 ^ N))
def Len (N : Nat) (x : Int) : Prop := N ≤ 64 ∧ (N = 0 ∧ x = 0 ∨ 1 ≤ N ∧ ((2 ^ (N - 1) : Nat) : Int) ≤ x ∧ x < ((2 ^ N : Nat) : Int))
theorem tab_all : (List.range 256).all (fun b => decide ((tab.getD b 0).toNat ≤ 8) && lenB (tab.getD b 0).toNat b) = true := by kernel_rfl
theorem tab_len : tab.length = 256 := by kernel_rfl
theorem tab_spec (b : Nat) (h : b < 256) : (tab.getD b 0).toNat ≤ 8 ∧ Len (tab.getD b 0).toNat (b : Int) := by
  have := List.all_eq_true.1 tab_all b (by simpa using h)
  generalize (tab.getD b 0).toNat = L at *
  simp only [Bool.and_eq_true, decide_eq_true_eq, lenB, Bool.or_eq_true, beq_iff_eq] at this
  refine ⟨this.1, by omega, ?_⟩
  omega
theorem len_up (B L : Nat) (y x : Int) (hL : L ≤ 8) (hB : B = 0 ∨ B = 8 ∨ B = 16 ∨ B = 24 ∨ B = 32 ∨ B = 40 ∨ B = 48 ∨ B = 56) (h : Len L y) (hy : x / ((2 ^ B : Nat) : Int) = y) (h1 : B = 0 ∨ 1 ≤ y) : Len (B + L) x := by
  unfold Len at *
  refine ⟨by omega, ?_⟩
  rcases (by omega : L = 0 ∨ L = 1 ∨ L = 2 ∨ L = 3 ∨ L = 4 ∨ L = 5 ∨ L = 6 ∨ L = 7 ∨ L = 8) with rfl | rfl | rfl | rfl | rfl | rfl | rfl | rfl | rfl <;>
  rcases hB with rfl | rfl | rfl | rfl | rfl | rfl | rfl | rfl <;> simp only [Nat.reducePow, Nat.reduceSub, Nat.reduceAdd, Nat.add_zero, Nat.zero_add, Int.cast_ofNat_Int] at * <;> first | omega | (simp at *; omega)
theorem tab_end (B : Nat) (y x : Int) (T : ByteArray) (hT : T.data.toList = tab) (hi : y.toNat < T.size) (hB : B = 0 ∨ B = 8 ∨ B = 16 ∨ B = 24 ∨ B = 32 ∨ B = 40 ∨ B = 48 ∨ B = 56) (hy : x / ((2 ^ B : Nat) : Int) = y) (y0 : 0 ≤ y) (h1 : B = 0 ∨ 1 ≤ y) : ∃ n : Nat, wrap64 ((B : Int) + wrap64 ((T[y.toNat].toNat : Nat) : Int)) = n ∧ Len n x := by
  have hz : T.size = 256 := by rw [← tab_len, ← hT]; simp
  have hs := tab_spec y.toNat (by omega)
  have e : T[y.toNat] = tab.getD y.toNat 0 := by
    rw [← hT]
    simp [List.getD, ByteArray.getElem_eq_getElem_data]
    have : y.toNat < T.data.size := hi
    rw [Array.getElem?_eq_getElem this]; rfl
  rw [e]
  refine ⟨B + (tab.getD y.toNat 0).toNat, ?_, len_up B _ y x hs.1 hB (by have := hs.2; rwa [Int.toNat_of_nonneg y0] at this) hy h1⟩
  unfold wrap64
  omega
theorem tab_fin (B : Nat) (y x : Int) (T : ByteArray) (hi : y.toNat < T.size) (hT : T.data.toList = tab) (hB : B = 0 ∨ B = 8 ∨ B = 16 ∨ B = 24 ∨ B = 32 ∨ B = 40 ∨ B = 48 ∨ B = 56) (hy : x / ((2 ^ B : Nat) : Int) = y) (y0 : 0 ≤ y) (h1 : B = 0 ∨ 1 ≤ y) (v : Int) (hv : v = wrap64 ((B : Int) + wrap64 ((T[y.toNat].toNat : Nat) : Int))) : ∃ n : Nat, Ending.returned (.int .i64 v) = .returned (.int .i64 n) ∧ Len n x := by
  obtain ⟨n, a, b⟩ := tab_end B y x T hT hi hB hy y0 h1
  exact ⟨n, by rw [hv, a], b⟩
set_option maxRecDepth 100000 in
theorem len64_any (x : Int) (w : World) (x0 : 0 ≤ x) (x1 : x ≤ 18446744073709551615) : Calls Try.prog 50 #[.int .u64 x] w fun e w' => (∃ n : Nat, e = .returned (.int .i64 n) ∧ Len n x) ∧ w = w' := by
  by_cases h1 : 4294967296 ≤ x
  · go_enter Try.func50, Try.ntmps50
    go_wp2
    all_goals
      go_ret
      refine ⟨?_, rfl⟩
      first
        | exact tab_fin 56 _ x _ _ (by kernel_rfl) (by decide) (by (simp only [Nat.reducePow, Int.cast_ofNat_Int]) <;> omega) (by omega) (by omega) _ rfl
        | exact tab_fin 48 _ x _ _ (by kernel_rfl) (by decide) (by (simp only [Nat.reducePow, Int.cast_ofNat_Int]) <;> omega) (by omega) (by omega) _ rfl
        | exact tab_fin 40 _ x _ _ (by kernel_rfl) (by decide) (by (simp only [Nat.reducePow, Int.cast_ofNat_Int]) <;> omega) (by omega) (by omega) _ rfl
        | exact tab_fin 32 _ x _ _ (by kernel_rfl) (by decide) (by (simp only [Nat.reducePow, Int.cast_ofNat_Int]) <;> omega) (by omega) (by omega) _ rfl
        | exact tab_fin 24 _ x _ _ (by kernel_rfl) (by decide) (by (simp only [Nat.reducePow, Int.cast_ofNat_Int]) <;> omega) (by omega) (by omega) _ rfl
        | exact tab_fin 16 _ x _ _ (by kernel_rfl) (by decide) (by (simp only [Nat.reducePow, Int.cast_ofNat_Int]) <;> omega) (by omega) (by omega) _ rfl
        | exact tab_fin 8 _ x _ _ (by kernel_rfl) (by decide) (by (simp only [Nat.reducePow, Int.cast_ofNat_Int]) <;> omega) (by omega) (by omega) _ rfl
        | exact tab_fin 0 _ x _ _ (by kernel_rfl) (by decide) (by (simp only [Nat.reducePow, Int.cast_ofNat_Int]) <;> omega) (by omega) (by omega) _ (congrArg wrap64 (Int.zero_add _).symm)
  · go_enter Try.func50, Try.ntmps50
    go_wp2
    all_goals
      go_ret
      refine ⟨?_, rfl⟩
      first
        | exact tab_fin 56 _ x _ _ (by kernel_rfl) (by decide) (by (simp only [Nat.reducePow, Int.cast_ofNat_Int]) <;> omega) (by omega) (by omega) _ rfl
        | exact tab_fin 48 _ x _ _ (by kernel_rfl) (by decide) (by (simp only [Nat.reducePow, Int.cast_ofNat_Int]) <;> omega) (by omega) (by omega) _ rfl
        | exact tab_fin 40 _ x _ _ (by kernel_rfl) (by decide) (by (simp only [Nat.reducePow, Int.cast_ofNat_Int]) <;> omega) (by omega) (by omega) _ rfl
        | exact tab_fin 32 _ x _ _ (by kernel_rfl) (by decide) (by (simp only [Nat.reducePow, Int.cast_ofNat_Int]) <;> omega) (by omega) (by omega) _ rfl
        | exact tab_fin 24 _ x _ _ (by kernel_rfl) (by decide) (by (simp only [Nat.reducePow, Int.cast_ofNat_Int]) <;> omega) (by omega) (by omega) _ rfl
        | exact tab_fin 16 _ x _ _ (by kernel_rfl) (by decide) (by (simp only [Nat.reducePow, Int.cast_ofNat_Int]) <;> omega) (by omega) (by omega) _ rfl
        | exact tab_fin 8 _ x _ _ (by kernel_rfl) (by decide) (by (simp only [Nat.reducePow, Int.cast_ofNat_Int]) <;> omega) (by omega) (by omega) _ rfl
        | exact tab_fin 0 _ x _ _ (by kernel_rfl) (by decide) (by (simp only [Nat.reducePow, Int.cast_ofNat_Int]) <;> omega) (by omega) (by omega) _ (congrArg wrap64 (Int.zero_add _).symm)
end Go.Proofs.Ytmmjdlpoiibhaaa
