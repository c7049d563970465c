/- Plain facts of a pool that is filled to its bounds. -/
import Derived.Test.YtegboojhebhlnaaKa
namespace Go.Proofs.Ytegboojhebhlnaa
def three (c : UInt8) (i : Nat) : ByteArray := ⟨#[c, UInt8.ofNat (i % 256), UInt8.ofNat (i / 256)]⟩
theorem three_size (c : UInt8) (i : Nat) : (three c i).size = 3 := rfl
theorem three_inj (c : UInt8) (i j : Nat) (hi : i < 65536) (hj : j < 65536) (h : three c i = three c j) : i = j := by
  unfold three at h
  injection h with h
  have h1 := congrArg Array.toList h
  simp only [List.cons.injEq, and_true, true_and] at h1
  obtain ⟨a, b⟩ := h1
  have a' := congrArg UInt8.toNat a
  have b' := congrArg UInt8.toNat b
  simp only [UInt8.toNat_ofNat'] at a' b'
  omega
def bL (r : ByteArray) (c : UInt8) (n : Nat) : List ByteArray := r :: (List.range n).map (fun j => three c (j + 1))
theorem bL_len (r : ByteArray) (c : UInt8) (n : Nat) : (bL r c n).length = n + 1 := by simp [bL]
theorem bL_succ (r : ByteArray) (c : UInt8) (n : Nat) : bL r c (n + 1) = bL r c n ++ [three c (n + 1)] := by
  unfold bL
  rw [List.range_succ, List.map_append]
  rfl
theorem bL_mem (r : ByteArray) (c : UInt8) (n : Nat) (t : ByteArray) : t ∈ bL r c n ↔ t = r ∨ ∃ j, j < n ∧ three c (j + 1) = t := by
  simp [bL]
theorem bL_new (r : ByteArray) (c : UInt8) (n : Nat) (hr : r.size = 65536) (hn : n < 2047) : isNew (bL r c n) (three c (n + 1)) = true ∧ eV (bL r c n) (three c (n + 1)) = 0 ∧ newL (bL r c n) (three c (n + 1)) = bL r c (n + 1) := by
  have h : isNew (bL r c n) (three c (n + 1)) = true := by
    rw [isNew_iff, three_size, bL_len, bL_mem]
    refine ⟨by omega, by omega, ?_, by omega⟩
    rintro (h | ⟨j, hj, h⟩)
    · have := congrArg ByteArray.size h
      rw [three_size, hr] at this
      omega
    · have := three_inj c _ _ (by omega) (by omega) h
      omega
  refine ⟨h, (eV_iff _ _).2 ⟨by rw [three_size]; omega, by rw [three_size]; omega, .inr (by rw [bL_len]; omega)⟩, ?_⟩
  unfold newL
  rw [if_pos h, bL_succ]
theorem bL_full (r : ByteArray) (c : UInt8) (s : ByteArray) (hr : r.size = 65536) (hs : s.size = 4) : isNew (bL r c 2047) s = false ∧ eV (bL r c 2047) s = 7 ∧ newL (bL r c 2047) s = bL r c 2047 := by
  have hn : s ∉ bL r c 2047 := by
    rw [bL_mem]
    rintro (h | ⟨j, hj, h⟩)
    · rw [h, hr] at hs; omega
    · rw [← h, three_size] at hs; omega
  have hf := (findF_none s (bL r c 2047) 0).2 hn
  have he : eV (bL r c 2047) s = 7 := by
    unfold eV
    rw [if_neg (by omega), if_neg (by omega), hf, if_neg (by simp), if_pos (by rw [bL_len]; omega)]
  have hi : isNew (bL r c 2047) s = false := by unfold isNew; rw [he]; rfl
  exact ⟨hi, he, by unfold newL; rw [hi]; rfl⟩
theorem bL_old (r : ByteArray) (c : UInt8) (k : Nat) (hr : r.size = 65536) (hk : k < 2047) : isNew (bL r c 2047) (three c (k + 1)) = false ∧ eV (bL r c 2047) (three c (k + 1)) = 0 ∧ newL (bL r c 2047) (three c (k + 1)) = bL r c 2047 := by
  have hm : three c (k + 1) ∈ bL r c 2047 := (bL_mem _ _ _ _).2 (.inr ⟨k, hk, rfl⟩)
  have hi : isNew (bL r c 2047) (three c (k + 1)) = false := by
    cases h : isNew (bL r c 2047) (three c (k + 1)) with
    | false => rfl
    | true => exact absurd hm ((isNew_iff _ _).1 h).2.2.1
  exact ⟨hi, (eV_iff _ _).2 ⟨by rw [three_size]; omega, by rw [three_size]; omega, .inl hm⟩, by unfold newL; rw [hi]; rfl⟩
theorem bL_first (r : ByteArray) (c : UInt8) (hr : r.size = 65536) : isNew [] r = true ∧ eV [] r = 0 ∧ newL [] r = bL r c 0 := by
  have h : isNew [] r = true := by
    rw [isNew_iff]
    exact ⟨by omega, by omega, by simp, by simp⟩
  refine ⟨h, (eV_iff _ _).2 ⟨by omega, by omega, .inr (by simp)⟩, ?_⟩
  unfold newL
  rw [if_pos h]
  rfl
theorem bL_over (r : ByteArray) (c : UInt8) (s : ByteArray) (hs : s.size = 65537) : isNew (bL r c 0) s = false ∧ eV (bL r c 0) s = 5 ∧ newL (bL r c 0) s = bL r c 0 := by
  have he : eV (bL r c 0) s = 5 := by
    unfold eV
    rw [if_neg (by omega), if_pos (by omega)]
  have hi : isNew (bL r c 0) s = false := by unfold isNew; rw [he]; rfl
  exact ⟨hi, he, by unfold newL; rw [hi]; rfl⟩
end Go.Proofs.Ytegboojhebhlnaa
