/- The walk of PoolNobody. -/
import Derived.Test.YtegboojhebhlnaaKw
namespace Go.Proofs.Ytegboojhebhlnaa
open Go.RowKit
set_option linter.unusedVariables false
set_option linter.unusedSimpArgs false
def tZ : ByteArray := { data := #[122] }
theorem azz {B : Nat} {w W : World} {v : Value} {S : Nat → Prop} (h : Awk B w W v [] S) : Calls Try.prog 11 #[v, .string { data := #[122] }] W (AddEnd B w W v [] S 0 1 true 0 [tZ]) := by
  have h1 := h.add tZ (by decide +kernel)
  rw [show ((offA [] tZ : Nat) : Int) = 0 from by decide +kernel, show ((lenA [] tZ : Nat) : Int) = 1 from by decide +kernel, show isNew [] tZ = true from by decide +kernel, show ((eV [] tZ : Nat) : Int) = 0 from by decide +kernel, show newL [] tZ = [tZ] from by decide +kernel] at h1
  exact h1
theorem azt {B : Nat} {w W : World} {v : Value} {S : Nat → Prop} (h : Awk B w W v [tZ] S) : Calls Try.prog 18 #[v] W fun e w' => e = .returned (.string { data := #[122] }) ∧ Below W.heap.size W w' := by
  have h1 := text_any v _ S W h.pool
  rw [show catF [tZ] = { data := #[122] } from by decide +kernel] at h1
  exact h1
theorem box_side' {S : Nat → Prop} {W W' : World} {g : Nat} {x y : Value} (h : Two W g x y) (hb : Below W.heap.size W W') (hS : ∀ b, S b → W.heap.size ≤ b) : Side S W' g x y :=
  ⟨h.below hb, fun hg => absurd (hS _ hg) (Nat.not_le.2 h.lt)⟩
set_option maxRecDepth 20000 in
set_option maxHeartbeats 4000000 in
theorem poolnobody_law (s : ByteArray) (a b : Int) (w : World) (hs : s.size ≤ maxLen) (a0 : 0 ≤ a) (a1 : a ≤ 18446744073709551615) (b0 : 0 ≤ b) (b1 : b ≤ 4294967295) :
    Calls Try.prog 7 #[.string s, .agg #[.int .u64 a, .int .u32 b]] w fun e w' => e = .returned (.bool true) ∧ Below w.heap.size w w' := by
  have HK := Lib.hid awake_any
  have hB0 : Below w.heap.size w (w.alloc (.cells #[.int .u64 a, .int .u32 b] 31)) := Below.alloc (Below.refl _ _) (Nat.le_refl _) _
  have HB0 := Lib.hid hB0
  unfold maxLen at hs
  by_cases h5 : 300 < s.size
  · have h5' : (300 : Int) < (s.size : Int) := by omega
    go_enter Try.func7, Try.ntmps7
    go_wp2_with fail
    refine (HK.out _).mono ?_
    rintro y w1 ⟨rfl, hb⟩
    have HB := Lib.hid (HB0.out.trans (hb.mono HB0.out.size))
    clear hb hB0
    go_wp2_with fail
    go_ret
    exact ⟨rfl, HB.out⟩
  · have h5' : ¬ (300 : Int) < (s.size : Int) := by omega
    obtain ⟨S, hp, hS⟩ := zero_pool (w.alloc (.cells #[.int .u64 a, .int .u32 b] 31))
    have hA := Awk.new hB0 hB0.size hp hS (Below.alloc (Below.refl _ _) (Nat.le_refl _) _)
    have hSd := box_side' (two_new w (.int .u64 a) (.int .u32 b) 31) (Below.alloc (Below.refl _ _) (Nat.le_refl _) zeroObj) hS
    unfold zeroObj at hA hSd
    simp only [World.size_alloc] at hA
    have A_0 := Lib.hid (hA)
    have Sd_0 := Lib.hid (hSd)
    clear hA hSd hp hS hB0 HB0
    go_enter Try.func7, Try.ntmps7
    go_wp2_with fail
    refine (add_nil _ _).mono ?_
    rintro y wa ⟨rfl, hbb⟩
    have A_1 := Lib.hid ((A_0.out.later hbb).alloc (.cells #[.int .u64 0, .int .u32 0] 31))
    have Sd_1 := Lib.hid ((Sd_0.out.below hbb).alloc (.cells #[.int .u64 0, .int .u32 0] 31))
    clear hbb A_0 Sd_0
    go_wp2_with fail
    refine (find_nil _ _).mono ?_
    rintro y wb ⟨rfl, hbb⟩
    have A_2 := Lib.hid ((A_1.out.later hbb).alloc (.cells #[.int .u64 0, .int .u32 0] 31))
    have Sd_2 := Lib.hid ((Sd_1.out.below hbb).alloc (.cells #[.int .u64 0, .int .u32 0] 31))
    clear hbb A_1 Sd_1
    obtain ⟨c0, c1, -, -⟩ := id Sd_2.out.1
    have c2 := Sd_2.out.1.lt
    go_wp2_with fail
    refine (get_nil _ _ _).mono ?_
    rintro y wc ⟨rfl, hbb⟩
    have A_3 := Lib.hid (A_2.out.later hbb)
    have Sd_3 := Lib.hid (Sd_2.out.below hbb)
    clear hbb A_2 Sd_2
    clear c0 c1 c2
    obtain ⟨c0, c1, -, -⟩ := id Sd_3.out.1
    have c2 := Sd_3.out.1.lt
    go_wp2_with fail
    refine (get_any _ [] S a b _ A_3.out.pool a0 a1 b0 b1).mono ?_
    rintro y wd ⟨rfl, hbb⟩
    have A_4 := Lib.hid (A_3.out.later hbb)
    have Sd_4 := Lib.hid (Sd_3.out.below hbb)
    clear hbb A_3 Sd_3
    clear c0 c1 c2
    rw [show getS (getG a b [] 0) = { data := #[] } from rfl, show (getG a b [] 0).isSome = false from rfl]
    go_wp2_with fail
    refine (azz A_4.out).mono ?_
    rintro y we ⟨rfl, S2, hA2, hk2⟩
    have A_5 := Lib.hid (hA2.alloc (.cells #[.int .u64 0, .int .u32 1] 31))
    clear hA2 hk2 A_4 Sd_4
    go_wp2_with fail
    refine (len_nil _).mono ?_
    rintro y wf ⟨rfl, hbb⟩
    have A_6 := Lib.hid (A_5.out.later hbb)
    clear hbb A_5
    go_wp2_with fail
    refine (text_nil _).mono ?_
    rintro y wg ⟨rfl, hbb⟩
    have A_7 := Lib.hid (A_6.out.later hbb)
    clear hbb A_6
    go_wp2_with fail
    refine (fork_nil _).mono ?_
    rintro y wh ⟨rfl, hbb⟩
    have A_8 := Lib.hid (A_7.out.later hbb)
    clear hbb A_7
    go_wp2_with fail
    refine (len_any _ _ S2 _ A_8.out.pool).mono ?_
    rintro y wi ⟨rfl, hbb⟩
    have A_9 := Lib.hid (A_8.out.later hbb)
    clear hbb A_8
    go_wp2_with fail
    refine (azt A_9.out).mono ?_
    rintro y wj ⟨rfl, hbb⟩
    have A_10 := Lib.hid (A_9.out.later hbb)
    clear hbb A_9
    go_wp2_with fail
    refine (HK.out _).mono ?_
    rintro y wk ⟨rfl, hbb⟩
    have A_11 := Lib.hid (A_10.out.later hbb)
    clear hbb A_10
    go_wp2_with fail
    go_ret
    exact ⟨rfl, A_11.out.bel⟩
end Go.Proofs.Ytegboojhebhlnaa
