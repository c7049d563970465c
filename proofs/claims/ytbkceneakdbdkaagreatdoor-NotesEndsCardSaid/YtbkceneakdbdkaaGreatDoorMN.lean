/- Several texts, one behind the other: Np, Nr. -/
import Derived.Test.YtbkceneakdbdkaaGreatDoorML
/- The law's equal, at what is no list and no object of the program's. -/
namespace Go.Proofs.YtbkceneakdbdkaaGreatDoor
open Go.RowKit
set_option maxRecDepth 20000
set_option linter.unusedVariables false
set_option linter.unusedSimpArgs false
/-- What equal answers. -/
def EqEnd (v : Js) (u : Nt) (w : World) (e : Ending) (w' : World) : Prop := (∃ b, e = .returned (.bool b) ∧ (b = true ↔ v = toJ u)) ∧ Below w.heap.size w w'
theorem toJ_cases (k n : Int) (s : ByteArray) (nv : Value) (names : List ByteArray) (kv : Value) (kids : Nl) (h0 : 0 ≤ k) : 6 < k ∧ toJ (.mk k n s nv names kv kids) = .bad ∨ k = 0 ∧ toJ (.mk k n s nv names kv kids) = .nul ∨ k = 1 ∧ toJ (.mk k n s nv names kv kids) = .bool false ∨
    k = 2 ∧ toJ (.mk k n s nv names kv kids) = .bool true ∨ k = 3 ∧ toJ (.mk k n s nv names kv kids) = .num n ∨ k = 4 ∧ toJ (.mk k n s nv names kv kids) = .str (bI s) ∨ k = 5 ∧ toJ (.mk k n s nv names kv kids) = .arr (toL false [] kids) ∨ k = 6 ∧ toJ (.mk k n s nv names kv kids) = .obj (toL true names kids) := by
  rw [toJ]
  by_cases h7 : 6 < k
  · exact .inl ⟨h7, by rw [if_neg (by omega), if_neg (by omega), if_neg (by omega), if_neg (by omega), if_neg (by omega), if_neg (by omega), if_neg (by omega)]⟩
  refine .inr ?_
  have : k = 0 ∨ k = 1 ∨ k = 2 ∨ k = 3 ∨ k = 4 ∨ k = 5 ∨ k = 6 := by omega
  rcases this with rfl | rfl | rfl | rfl | rfl | rfl | rfl <;> simp
set_option maxHeartbeats 1000000 in
theorem equal_nul (u : Nt) (w : World) (hin : u.In w) : Calls Tryz.prog 16 #[.nilIface, ntA u] w (EqEnd .nul u w) := by
  obtain ⟨k, n, s, nv, names, kv, kids⟩ := u
  rw [Nt.In] at hin
  obtain ⟨⟨k0, k1⟩, _⟩ := hin
  rcases toJ_cases k n s nv names kv kids k0 with h | h
  · have HJ := Lib.hid h.2
    have hd : decide (6 < k) = true := by simpa using h.1
    show Calls _ _ #[_, .agg #[.int .u8 k, .int .i64 n, .string s, nv, kv]] _ _
    clear h
    have a1 := fun W => assert_nil 20 59 _ _ Tryz.underlying59 rfl zFlt W
    go_enter Tryz.func16, Tryz.ntmps16
    go_wp2_with fail
    go_ret
    exact ⟨⟨false, rfl, by rw [HJ.out]; simp⟩, by go_grown⟩
  · have h6 : k ≤ 6 := by omega
    have hd : decide (6 < k) = false := by simp; omega
    have hj : toJ (.mk k n s nv names kv kids) = .nul ↔ k = 0 := by
      rcases h with ⟨rfl, h⟩ | ⟨rfl, h⟩ | ⟨rfl, h⟩ | ⟨rfl, h⟩ | ⟨rfl, h⟩ | ⟨rfl, h⟩ | ⟨rfl, h⟩ <;> rw [h] <;> simp
    have HJ := Lib.hid hj
    show Calls _ _ #[_, .agg #[.int .u8 k, .int .i64 n, .string s, nv, kv]] _ _
    clear h h6 hj
    have a1 := fun W => assert_nil 20 59 _ _ Tryz.underlying59 rfl zFlt W
    go_enter Tryz.func16, Tryz.ntmps16
    go_wp2_with fail
    go_ret
    refine ⟨⟨_, rfl, ?_⟩, by go_grown⟩
    rw [eq_comm (a := Js.nul), HJ.out]
    simp
set_option maxHeartbeats 1000000 in
theorem equal_num (m : Int) (u : Nt) (w : World) (hin : u.In w) : Calls Tryz.prog 16 #[.iface 3 (.int .i64 m), ntA u] w (EqEnd (.num m) u w) := by
  obtain ⟨k, n, s, nv, names, kv, kids⟩ := u
  rw [Nt.In] at hin
  obtain ⟨⟨k0, k1⟩, _⟩ := hin
  rcases toJ_cases k n s nv names kv kids k0 with h | h
  · have HJ := Lib.hid h.2
    have hd : decide (6 < k) = true := by simpa using h.1
    show Calls _ _ #[_, .agg #[.int .u8 k, .int .i64 n, .string s, nv, kv]] _ _
    clear h
    have a1 := fun W => assert_no 20 59 3 (.int .i64 m) _ _ Tryz.underlying59 rfl zFlt (by decide) W
    have a2 := fun W => assert_no 20 4 3 (.int .i64 m) _ _ Tryz.underlying4 rfl zBool (by decide) W
    have a3 := fun W => assert_yes 20 3 (.int .i64 m) _ Tryz.underlying3 rfl W
    go_enter Tryz.func16, Tryz.ntmps16
    go_wp2_with fail
    go_ret
    exact ⟨⟨false, rfl, by rw [HJ.out]; simp⟩, by go_grown⟩
  · have h6 : k ≤ 6 := by omega
    have hd : decide (6 < k) = false := by simp; omega
    have hj : toJ (.mk k n s nv names kv kids) = .num m ↔ k = 3 ∧ n = m := by
      rcases h with ⟨rfl, h⟩ | ⟨rfl, h⟩ | ⟨rfl, h⟩ | ⟨rfl, h⟩ | ⟨rfl, h⟩ | ⟨rfl, h⟩ | ⟨rfl, h⟩ <;> rw [h] <;> simp
    have HJ := Lib.hid hj
    show Calls _ _ #[_, .agg #[.int .u8 k, .int .i64 n, .string s, nv, kv]] _ _
    clear h h6 hj
    by_cases h3 : k = 3
    · subst h3
      have a1 := fun W => assert_no 20 59 3 (.int .i64 m) _ _ Tryz.underlying59 rfl zFlt (by decide) W
      have a2 := fun W => assert_no 20 4 3 (.int .i64 m) _ _ Tryz.underlying4 rfl zBool (by decide) W
      have a3 := fun W => assert_yes 20 3 (.int .i64 m) _ Tryz.underlying3 rfl W
      go_enter Tryz.func16, Tryz.ntmps16
      go_wp2_with fail
      go_ret
      refine ⟨⟨_, rfl, ?_⟩, by go_grown⟩
      rw [eq_comm (a := Js.num m), HJ.out]
      simp
    · have h3d : (k == 3) = false := by rw [beq_eq_false_iff_ne]; exact h3
      have a1 := fun W => assert_no 20 59 3 (.int .i64 m) _ _ Tryz.underlying59 rfl zFlt (by decide) W
      have a2 := fun W => assert_no 20 4 3 (.int .i64 m) _ _ Tryz.underlying4 rfl zBool (by decide) W
      have a3 := fun W => assert_yes 20 3 (.int .i64 m) _ Tryz.underlying3 rfl W
      go_enter Tryz.func16, Tryz.ntmps16
      go_wp2_with fail
      go_ret
      refine ⟨⟨_, rfl, ?_⟩, by go_grown⟩
      rw [eq_comm (a := Js.num m), HJ.out]
      simp [h3]
end Go.Proofs.YtbkceneakdbdkaaGreatDoor
/- The law's equal, at texts. -/
namespace Go.Proofs.YtbkceneakdbdkaaGreatDoor
open Go.RowKit
set_option maxRecDepth 20000
set_option linter.unusedVariables false
set_option linter.unusedSimpArgs false
theorem bI_iff (s t : ByteArray) : bI s = bI t ↔ s = t := ⟨bI_inj, fun h => by rw [h]⟩
set_option maxHeartbeats 1000000 in
theorem equal_str (t : ByteArray) (u : Nt) (w : World) (hin : u.In w) : Calls Tryz.prog 16 #[.iface 9 (.string t), ntA u] w (EqEnd (.str (bI t)) u w) := by
  obtain ⟨k, n, s, nv, names, kv, kids⟩ := u
  rw [Nt.In] at hin
  obtain ⟨⟨k0, k1⟩, _⟩ := hin
  rcases toJ_cases k n s nv names kv kids k0 with h | h
  · have HJ := Lib.hid h.2
    have hd : decide (6 < k) = true := by simpa using h.1
    show Calls _ _ #[_, .agg #[.int .u8 k, .int .i64 n, .string s, nv, kv]] _ _
    clear h
    have a0 := fun W => assert_no 20 59 9 (.string t) _ _ Tryz.underlying59 rfl zFlt (by decide) W
    go_enter Tryz.func16, Tryz.ntmps16
    go_wp2_with fail
    go_ret
    exact ⟨⟨false, rfl, by rw [HJ.out]; simp⟩, by go_grown⟩
  · have h6 : k ≤ 6 := by omega
    have hd : decide (6 < k) = false := by simp; omega
    have hj : toJ (.mk k n s nv names kv kids) = .str (bI t) ↔ k = 4 ∧ bI s = bI t := by
      rcases h with ⟨rfl, h⟩ | ⟨rfl, h⟩ | ⟨rfl, h⟩ | ⟨rfl, h⟩ | ⟨rfl, h⟩ | ⟨rfl, h⟩ | ⟨rfl, h⟩ <;> rw [h] <;> simp
    have HJ := Lib.hid hj
    show Calls _ _ #[_, .agg #[.int .u8 k, .int .i64 n, .string s, nv, kv]] _ _
    clear h h6 hj
    by_cases hc0 : k = 4 ∧ s = t
    · obtain ⟨rfl, rfl⟩ := hc0
      have hq := str_yes (rfl : s = s)
      have a0 := fun W => assert_no 20 59 9 (.string s) _ _ Tryz.underlying59 rfl zFlt (by decide) W
      have a1 := fun W => assert_no 20 4 9 (.string s) _ _ Tryz.underlying4 rfl zBool (by decide) W
      have a2 := fun W => assert_no 20 3 9 (.string s) _ _ Tryz.underlying3 rfl zInt (by decide) W
      have a3 := fun W => assert_yes 20 9 (.string s) _ Tryz.underlying9 rfl W
      go_enter Tryz.func16, Tryz.ntmps16
      go_wp2_with fail
      go_ret
      exact ⟨⟨true, rfl, by rw [eq_comm (a := Js.str (bI s)), HJ.out]; simp [*]⟩, by go_grown⟩
    by_cases hc1 : k = 4
    · subst hc1
      have hst : ¬ s = t := fun e => hc0 ⟨rfl, e⟩
      have hq := str_no hst
      have HST : Hid (¬ bI s = bI t) := Lib.hid (fun e => hst (bI_inj e))
      clear hc0
      have a0 := fun W => assert_no 20 59 9 (.string t) _ _ Tryz.underlying59 rfl zFlt (by decide) W
      have a1 := fun W => assert_no 20 4 9 (.string t) _ _ Tryz.underlying4 rfl zBool (by decide) W
      have a2 := fun W => assert_no 20 3 9 (.string t) _ _ Tryz.underlying3 rfl zInt (by decide) W
      have a3 := fun W => assert_yes 20 9 (.string t) _ Tryz.underlying9 rfl W
      go_enter Tryz.func16, Tryz.ntmps16
      go_wp2_with fail
      go_ret
      exact ⟨⟨false, rfl, by rw [eq_comm (a := Js.str (bI t)), HJ.out]; simp [HST.out]⟩, by go_grown⟩
    have h4 : (k == 4) = false := by rw [beq_eq_false_iff_ne]; exact hc1
    clear hc0
    have a0 := fun W => assert_no 20 59 9 (.string t) _ _ Tryz.underlying59 rfl zFlt (by decide) W
    have a1 := fun W => assert_no 20 4 9 (.string t) _ _ Tryz.underlying4 rfl zBool (by decide) W
    have a2 := fun W => assert_no 20 3 9 (.string t) _ _ Tryz.underlying3 rfl zInt (by decide) W
    have a3 := fun W => assert_yes 20 9 (.string t) _ Tryz.underlying9 rfl W
    go_enter Tryz.func16, Tryz.ntmps16
    go_wp2_with fail
    go_ret
    exact ⟨⟨false, rfl, by rw [eq_comm (a := Js.str (bI t)), HJ.out]; simp [*]⟩, by go_grown⟩
end Go.Proofs.YtbkceneakdbdkaaGreatDoor
