/- Several texts, one behind the other: Pz, Qa, Qb. -/
import Derived.Test.YtbkceneakdbdkaaGreatDoorMS
import Derived.Test.YtbkceneakdbdkaaGreatDoorMK
import Derived.Test.YtbkceneakdbdkaaGreatDoorMN
import Derived.WalkLawsBesides
/- The program's same. -/
namespace Go.Proofs.YtbkceneakdbdkaaGreatDoor
open Go.RowKit
set_option maxRecDepth 20000
set_option linter.unusedVariables false
set_option linter.unusedSimpArgs false
set_option maxHeartbeats 4000000
theorem Jl.ext : ∀ (l m : Jl), l.length = m.length → (∀ i, i < l.length → l.at? i = m.at? i) → l = m
  | .nil, .nil, _, _ => rfl
  | .nil, .cons _ _ _, h, _ => by simp [Jl.length] at h
  | .cons _ _ _, .nil, h, _ => by simp [Jl.length] at h
  | .cons n v l, .cons n' v' m, h, g => by
    have g0 := g 0 (by simp [Jl.length])
    obtain ⟨rfl, rfl⟩ : n = n' ∧ v = v' := by simpa [Jl.at?] using g0
    rw [Jl.ext l m (by simpa [Jl.length] using h) (fun i hi => by
      have := g (i + 1) (by simp [Jl.length]; omega)
      simpa [Jl.at?] using this)]
theorem bareL_at {ob : Bool} : ∀ (l : Jl) (i : Nat) (n : List Int) (v : Js), bareL ob l → l.at? i = some (n, v) → (ob = false → n = []) ∧ bareV v
  | .nil, _, _, _, _, h => by cases h
  | .cons n' v' t, 0, n, v, hb, h => by
    rw [bareL] at hb
    obtain ⟨rfl, rfl⟩ : n' = n ∧ v' = v := by simpa [Jl.at?] using h
    exact ⟨hb.1, hb.2.1⟩
  | .cons n' v' t, i + 1, n, v, hb, h => by
    rw [bareL] at hb
    exact bareL_at t i n v hb.2.2 h
theorem chk_kid (ob : Bool) (d : Nat) (l : Jl) (h : chkV d (if ob then .obj l else .arr l) = 0) (i : Nat) (n : List Int) (v : Js) (hv : l.at? i = some (n, v)) : chkV (d + 1) v = 0 := by
  refine (chkL_at ob d l [] i n v ?_ hv).1
  cases ob
  · simp only [Bool.false_eq_true, if_false] at h
    rw [chkV] at h
    split at h
    · cases h
    split at h
    · cases h
    · exact h
  · simp only [if_true] at h
    rw [chkV] at h
    split at h
    · cases h
    split at h
    · cases h
    · exact h
/-- What same answers. -/
def SmE (a b : Js) (w : World) (e : Ending) (w' : World) : Prop := (∃ r, e = .returned (.bool r) ∧ (r = true ↔ a = b)) ∧ Below w.heap.size w w'
def SmOk (a : Js) : Prop := ∀ (d : Nat) (S : Nat → Prop) (b : Js) (w : World) (x y : Value), AnyAt S w a x → AnyAt S w b y → chkV d a = 0 → bareV a → bareV b → Calls Tryz.prog 32 #[x, y] w (SmE a b w)
theorem ne_bool {S : Nat → Prop} {w : World} {b : Js} {y : Value} (h : AnyAt S w b y) (hb : ∀ c, b ≠ .bool c) : y = .nilIface ∨ ∃ u z, y = .iface u z ∧ u ≠ 4 := by
  cases b <;> rw [AnyAt] at h
  · exact .inl h
  · first | exact .inr ⟨_, _, h, by decide⟩ | exact absurd rfl (hb _)
  · first | exact .inr ⟨_, _, h, by decide⟩ | exact absurd rfl (hb _)
  · first | (obtain ⟨t, rfl, _⟩ := h; exact .inr ⟨_, _, rfl, by decide⟩) | exact absurd rfl (hb _)
  · first | (obtain ⟨a, c, rfl, _⟩ := h; exact .inr ⟨_, _, rfl, by decide⟩) | exact absurd rfl (hb _)
  · first | (obtain ⟨a, c, rfl, _⟩ := h; exact .inr ⟨_, _, rfl, by decide⟩) | exact absurd rfl (hb _)
  · exact .inr ⟨_, _, h, by decide⟩
theorem ne_num {S : Nat → Prop} {w : World} {b : Js} {y : Value} (h : AnyAt S w b y) (hb : ∀ c, b ≠ .num c) : y = .nilIface ∨ ∃ u z, y = .iface u z ∧ u ≠ 3 := by
  cases b <;> rw [AnyAt] at h
  · exact .inl h
  · first | exact .inr ⟨_, _, h, by decide⟩ | exact absurd rfl (hb _)
  · first | exact .inr ⟨_, _, h, by decide⟩ | exact absurd rfl (hb _)
  · first | (obtain ⟨t, rfl, _⟩ := h; exact .inr ⟨_, _, rfl, by decide⟩) | exact absurd rfl (hb _)
  · first | (obtain ⟨a, c, rfl, _⟩ := h; exact .inr ⟨_, _, rfl, by decide⟩) | exact absurd rfl (hb _)
  · first | (obtain ⟨a, c, rfl, _⟩ := h; exact .inr ⟨_, _, rfl, by decide⟩) | exact absurd rfl (hb _)
  · exact .inr ⟨_, _, h, by decide⟩
theorem ne_str {S : Nat → Prop} {w : World} {b : Js} {y : Value} (h : AnyAt S w b y) (hb : ∀ c, b ≠ .str c) : y = .nilIface ∨ ∃ u z, y = .iface u z ∧ u ≠ 9 := by
  cases b <;> rw [AnyAt] at h
  · exact .inl h
  · first | exact .inr ⟨_, _, h, by decide⟩ | exact absurd rfl (hb _)
  · first | exact .inr ⟨_, _, h, by decide⟩ | exact absurd rfl (hb _)
  · first | (obtain ⟨t, rfl, _⟩ := h; exact .inr ⟨_, _, rfl, by decide⟩) | exact absurd rfl (hb _)
  · first | (obtain ⟨a, c, rfl, _⟩ := h; exact .inr ⟨_, _, rfl, by decide⟩) | exact absurd rfl (hb _)
  · first | (obtain ⟨a, c, rfl, _⟩ := h; exact .inr ⟨_, _, rfl, by decide⟩) | exact absurd rfl (hb _)
  · exact .inr ⟨_, _, h, by decide⟩
theorem ne_arr {S : Nat → Prop} {w : World} {b : Js} {y : Value} (h : AnyAt S w b y) (hb : ∀ c, b ≠ .arr c) : y = .nilIface ∨ ∃ u z, y = .iface u z ∧ u ≠ 57 := by
  cases b <;> rw [AnyAt] at h
  · exact .inl h
  · first | exact .inr ⟨_, _, h, by decide⟩ | exact absurd rfl (hb _)
  · first | exact .inr ⟨_, _, h, by decide⟩ | exact absurd rfl (hb _)
  · first | (obtain ⟨t, rfl, _⟩ := h; exact .inr ⟨_, _, rfl, by decide⟩) | exact absurd rfl (hb _)
  · first | (obtain ⟨a, c, rfl, _⟩ := h; exact .inr ⟨_, _, rfl, by decide⟩) | exact absurd rfl (hb _)
  · first | (obtain ⟨a, c, rfl, _⟩ := h; exact .inr ⟨_, _, rfl, by decide⟩) | exact absurd rfl (hb _)
  · exact .inr ⟨_, _, h, by decide⟩
theorem ne_obj {S : Nat → Prop} {w : World} {b : Js} {y : Value} (h : AnyAt S w b y) (hb : ∀ c, b ≠ .obj c) : y = .nilIface ∨ ∃ u z, y = .iface u z ∧ u ≠ 58 := by
  cases b <;> rw [AnyAt] at h
  · exact .inl h
  · first | exact .inr ⟨_, _, h, by decide⟩ | exact absurd rfl (hb _)
  · first | exact .inr ⟨_, _, h, by decide⟩ | exact absurd rfl (hb _)
  · first | (obtain ⟨t, rfl, _⟩ := h; exact .inr ⟨_, _, rfl, by decide⟩) | exact absurd rfl (hb _)
  · first | (obtain ⟨a, c, rfl, _⟩ := h; exact .inr ⟨_, _, rfl, by decide⟩) | exact absurd rfl (hb _)
  · first | (obtain ⟨a, c, rfl, _⟩ := h; exact .inr ⟨_, _, rfl, by decide⟩) | exact absurd rfl (hb _)
  · exact .inr ⟨_, _, h, by decide⟩
theorem ne_nul {S : Nat → Prop} {w : World} {b : Js} {y : Value} (h : AnyAt S w b y) (hb : b ≠ .nul) : ∃ u z, y = .iface u z := by
  cases b <;> rw [AnyAt] at h
  · exact absurd rfl hb
  · exact ⟨_, _, h⟩
  · exact ⟨_, _, h⟩
  · obtain ⟨t, rfl, _⟩ := h; exact ⟨_, _, rfl⟩
  · obtain ⟨a, c, rfl, _⟩ := h; exact ⟨_, _, rfl⟩
  · obtain ⟨a, c, rfl, _⟩ := h; exact ⟨_, _, rfl⟩
  · exact ⟨_, _, h⟩
theorem sm_nul : SmOk .nul := by
  intro d S b w x y hx hy hc ha hb
  rw [AnyAt] at hx
  subst hx
  unfold SmE
  have a0 := fun W => assert_nil 20 4 _ _ Tryz.underlying4 rfl zBool W
  have a1 := fun W => assert_nil 20 3 _ _ Tryz.underlying3 rfl zInt W
  have a2 := fun W => assert_nil 20 9 _ _ Tryz.underlying9 rfl zStr W
  have a3 := fun W => assert_nil 20 57 _ _ Tryz.underlying57 rfl zLst W
  have a4 := fun W => assert_nil 20 58 _ _ Tryz.underlying58 rfl zPrs W
  by_cases hn : b = .nul
  · subst hn
    rw [AnyAt] at hy
    subst hy
    go_enter Tryz.func32, Tryz.ntmps32
    go_wp2_with fail
    go_ret
    exact ⟨⟨_, rfl, by simp⟩, by go_grown⟩
  · obtain ⟨u, z, rfl⟩ : ∃ u z, y = .iface u z := by
      exact ne_nul hy hn
    have HN := Lib.hid hn
    clear hn hy
    go_enter Tryz.func32, Tryz.ntmps32
    go_wp2_with fail
    go_ret
    exact ⟨⟨_, rfl, by simp; exact fun e => HN.out e.symm⟩, by go_grown⟩
theorem sm_bool (q : Bool) : SmOk (.bool q) := by
  intro d S b w x y hx hy hc ha hb
  rw [AnyAt] at hx
  subst hx
  unfold SmE
  have a0 := fun W => assert_yes 20 4 (.bool q) _ Tryz.underlying4 rfl W
  by_cases hk : ∃ c, b = .bool c
  · obtain ⟨c, rfl⟩ := hk
    rw [AnyAt] at hy
    subst hy
    have b1 := fun W => assert_yes 20 4 (.bool c) _ Tryz.underlying4 rfl W
    obtain ⟨r, hr, hr2⟩ : ∃ r, (q == c) = r ∧ (r = true ↔ q = c) := ⟨_, rfl, by simp⟩
    go_enter Tryz.func32, Tryz.ntmps32
    go_wp2_with fail
    go_ret
    exact ⟨⟨_, rfl, by rw [hr2]; simp⟩, by go_grown⟩
  have HN := Lib.hid hk
  rcases ne_bool hy (fun c e => hk ⟨c, e⟩) with rfl | ⟨u, z, rfl, hu⟩
  · clear hk hy
    have b1 := fun W => assert_nil 20 4 _ _ Tryz.underlying4 rfl zBool W
    go_enter Tryz.func32, Tryz.ntmps32
    go_wp2_with fail
    go_ret
    exact ⟨⟨_, rfl, by simp; exact fun e => HN.out ⟨_, e.symm⟩⟩, by go_grown⟩
  · clear hk hy
    have b1 := fun W => assert_no 20 4 u z _ _ Tryz.underlying4 rfl zBool hu W
    go_enter Tryz.func32, Tryz.ntmps32
    go_wp2_with fail
    go_ret
    exact ⟨⟨_, rfl, by simp; exact fun e => HN.out ⟨_, e.symm⟩⟩, by go_grown⟩
theorem sm_num (q : Int) : SmOk (.num q) := by
  intro d S b w x y hx hy hc ha hb
  rw [AnyAt] at hx
  subst hx
  unfold SmE
  have a0 := fun W => assert_no 20 4 3 (.int .i64 q) _ _ Tryz.underlying4 rfl zBool (by decide) W
  have a1 := fun W => assert_yes 20 3 (.int .i64 q) _ Tryz.underlying3 rfl W
  by_cases hk : ∃ c, b = .num c
  · obtain ⟨c, rfl⟩ := hk
    rw [AnyAt] at hy
    subst hy
    have b1 := fun W => assert_yes 20 3 (.int .i64 c) _ Tryz.underlying3 rfl W
    obtain ⟨r, hr, hr2⟩ : ∃ r, (q == c) = r ∧ (r = true ↔ q = c) := ⟨_, rfl, by simp⟩
    go_enter Tryz.func32, Tryz.ntmps32
    go_wp2_with fail
    go_ret
    exact ⟨⟨_, rfl, by rw [hr2]; simp⟩, by go_grown⟩
  have HN := Lib.hid hk
  rcases ne_num hy (fun c e => hk ⟨c, e⟩) with rfl | ⟨u, z, rfl, hu⟩
  · clear hk hy
    have b1 := fun W => assert_nil 20 3 _ _ Tryz.underlying3 rfl zInt W
    go_enter Tryz.func32, Tryz.ntmps32
    go_wp2_with fail
    go_ret
    exact ⟨⟨_, rfl, by simp; exact fun e => HN.out ⟨_, e.symm⟩⟩, by go_grown⟩
  · clear hk hy
    have b1 := fun W => assert_no 20 3 u z _ _ Tryz.underlying3 rfl zInt hu W
    go_enter Tryz.func32, Tryz.ntmps32
    go_wp2_with fail
    go_ret
    exact ⟨⟨_, rfl, by simp; exact fun e => HN.out ⟨_, e.symm⟩⟩, by go_grown⟩
theorem sm_str (s : List Int) : SmOk (.str s) := by
  intro d S b w x y hx hy hc ha hb
  rw [AnyAt] at hx
  obtain ⟨p, rfl, hp, hpl⟩ := hx
  unfold SmE
  have a0 := fun W => assert_no 20 4 9 (.string p) _ _ Tryz.underlying4 rfl zBool (by decide) W
  have a1 := fun W => assert_no 20 3 9 (.string p) _ _ Tryz.underlying3 rfl zInt (by decide) W
  have a2 := fun W => assert_yes 20 9 (.string p) _ Tryz.underlying9 rfl W
  by_cases hk : ∃ c, b = .str c
  · obtain ⟨c, rfl⟩ := hk
    rw [AnyAt] at hy
    obtain ⟨q, rfl, hq, hql⟩ := hy
    have b1 := fun W => assert_yes 20 9 (.string q) _ Tryz.underlying9 rfl W
    obtain ⟨r, hr, hr2⟩ : ∃ r, (p.toList == q.toList) = r ∧ (r = true ↔ p = q) := ⟨_, rfl, ⟨fun h => Decidable.byContradiction (fun x => by rw [str_no x] at h; cases h), fun h => str_yes h⟩⟩
    have HPQ := Lib.hid (show s = c ↔ p = q by rw [← hp, ← hq]; exact ⟨bI_inj, fun h => by rw [h]⟩)
    go_enter Tryz.func32, Tryz.ntmps32
    go_wp2_with fail
    go_ret
    exact ⟨⟨_, rfl, by rw [hr2]; simp [HPQ.out]⟩, by go_grown⟩
  have HN := Lib.hid hk
  rcases ne_str hy (fun c e => hk ⟨c, e⟩) with rfl | ⟨u, z, rfl, hu⟩
  · clear hk hy
    have b1 := fun W => assert_nil 20 9 _ _ Tryz.underlying9 rfl zStr W
    go_enter Tryz.func32, Tryz.ntmps32
    go_wp2_with fail
    go_ret
    exact ⟨⟨_, rfl, by simp; exact fun e => HN.out ⟨_, e.symm⟩⟩, by go_grown⟩
  · clear hk hy
    have b1 := fun W => assert_no 20 9 u z _ _ Tryz.underlying9 rfl zStr hu W
    go_enter Tryz.func32, Tryz.ntmps32
    go_wp2_with fail
    go_ret
    exact ⟨⟨_, rfl, by simp; exact fun e => HN.out ⟨_, e.symm⟩⟩, by go_grown⟩
/-- A bool that tells whether P. -/
def BoE (P : Prop) (w : World) (e : Ending) (w' : World) : Prop := (∃ r, e = .returned (.bool r) ∧ (r = true ↔ P)) ∧ Below w.heap.size w w'
theorem BoE.mk {P : Prop} {w w' : World} {e : Ending} {r : Bool} (h : e = .returned (.bool r)) (hr : r = true ↔ P) (hb : Below w.heap.size w w') : BoE P w e w' := ⟨⟨r, h, hr⟩, hb⟩
theorem BoE.no {P : Prop} {w w' : World} (hr : ¬ P) (hb : Below w.heap.size w w') : BoE P w (.returned (.bool false)) w' := ⟨⟨false, rfl, by simp; exact hr⟩, hb⟩
theorem BoE.yes {P : Prop} {w w' : World} (hr : P) (hb : Below w.heap.size w w') : BoE P w (.returned (.bool true)) w' := ⟨⟨true, rfl, by simp; exact hr⟩, hb⟩
theorem eqf_arr (l : Jl) (HK : ∀ i n v, l.at? i = some (n, v) → SmOk v) (d : Nat) (S : Nat → Prop) (m : Jl) (w : World) (a a' : Option Addr) (cap cap' : Nat) (h1 : l.length ≤ cap) (h2 : cap ≤ maxLen) (g1 : m.length ≤ cap') (g2 : cap' ≤ maxLen) (hr : RowA S w a 0 l) (gr : RowA S w a' 0 m)
    (hck : ∀ i n v, l.at? i = some (n, v) → chkV (d + 1) v = 0) (hbl : bareL false l) (hbm : bareL false m) :
    Calls Tryz.prog 55 #[.slice a l.length cap, .slice a' m.length cap', .func (.func 32) #[] #[]] w (BoE (l = m) w) := by
  have hml : (l.length : Int) ≤ 9223372036854775807 := by rw [maxL] at h2; omega
  have hmm : (m.length : Int) ≤ 9223372036854775807 := by rw [maxL] at g2; omega
  have HR := Lib.hid hr
  have GR := Lib.hid gr
  have HK := Lib.hid HK
  have HCK := Lib.hid hck
  have HBL := Lib.hid (fun i n v => bareL_at l i n v hbl)
  have HBM := Lib.hid (fun i n v => bareL_at m i n v hbm)
  clear hr gr hck hbl hbm
  by_cases hlen : l.length ≠ m.length
  · have hne : ((l.length : Int) != (m.length : Int)) = true := by simp; omega
    have HN := Lib.hid (show l ≠ m from fun e => hlen (by rw [e]))
    clear hlen
    go_enter Tryz.func55, Tryz.ntmps55
    go_wp2_with fail
    go_ret
    exact BoE.no HN.out (by go_grown)
  have hlen := Decidable.not_not.1 hlen
  have hne : ((l.length : Int) != (m.length : Int)) = false := by simp; omega
  have HLEN := Lib.hid hlen
  clear hlen
  go_enter Tryz.func55, Tryz.ntmps55
  go_wp2_with fail
  go_loopw [17] (fun z wr => ∃ i : Nat, i ≤ l.length ∧ z = .int .i64 i ∧ Hid (∀ j, j < i → l.at? j = m.at? j) ∧ Below w.heap.size w wr) (fun z _ => l.length - (intOf z).toNat)
  case atStart => exact ⟨0, Nat.zero_le _, rfl, Lib.hid (fun j hj => absurd hj (Nat.not_lt_zero _)), Below.refl _ _⟩
  case round =>
    obtain ⟨i, hi, rfl, HM, hbw⟩ := hrel
    by_cases hlt : i < l.length
    · have hi2 : (i : Int) < (l.length : Int) := by omega
      have hi3 : (i : Int) < (m.length : Int) := by have := HLEN.out; omega
      obtain ⟨n, v, hat⟩ := Jl.lt_at l i hlt
      obtain ⟨n', v', hat'⟩ := Jl.lt_at m i (by have := HLEN.out; omega)
      obtain ⟨g, off, y, rfl, _, hg, l0, hav⟩ := RowA.at l 0 i n v HR.out hat
      obtain ⟨g', off', y', rfl, _, hg', m0, hav'⟩ := RowA.at m 0 i n' v' GR.out hat'
      rw [Nat.zero_add] at l0 m0
      replace l0 := (hbw.cell hg).trans l0
      replace m0 := (hbw.cell hg').trans m0
      have hn := (HBL.out i n v hat).1 trivial
      have hn' := (HBM.out i n' v' hat').1 trivial
      have HAT := Lib.hid hat
      have HAT' := Lib.hid hat'
      have HNV := Lib.hid (show v = v' → (n, v) = (n', v') from fun e => by rw [e, hn, hn'])
      have HNW := Lib.hid (show some (n, v) = some (n', v') → v = v' from fun e => by injection e with e; injection e)
      have HC := Lib.hid (fun W (hb : Below w.heap.size w W) => HK.out i n v hat (d + 1) S v' W y y' (hav.below hb) (hav'.below hb) (HCK.out i n v hat) (HBL.out i n v hat).2 (HBM.out i n' v' hat').2)
      unfold SmE at HC
      clear hat hat' hav hav' hn hn'
      have HBW := Lib.hid hbw
      clear hbw
      go_wp2_with fail
      refine (HC.out _ HBW.out).mono ?_
      rintro e w2 ⟨⟨r, rfl, hr⟩, hb⟩
      have HRR := Lib.hid hr
      have HB2 := Lib.hid (HBW.out.trans (hb.mono HBW.out.size))
      clear hb hr l0 m0
      by_cases hq : r = true
      · subst hq
        go_wp2_with fail
        go_roundw
        case rel => exact ⟨i + 1, by omega, by go_num, Lib.hid (fun j hj => by
          rcases Nat.lt_or_ge j i with h | h
          · exact HM.out j h
          · obtain rfl : j = i := by omega
            rw [HAT.out, HAT'.out, HNV.out (HRR.out.1 trivial)]), HB2.out⟩
        case measure => simp [intOf]; omega
      · have hq : r = false := by simpa using hq
        subst hq
        go_wp2_with fail
        go_ret
        exact BoE.no (fun e => absurd (HRR.out.2 (HNW.out (by rw [← HAT.out, ← HAT'.out, e]))) (by simp)) HB2.out
    · obtain rfl : i = l.length := by omega
      have HE := Lib.hid (Jl.ext l m HLEN.out (fun j hj => HM.out j hj))
      go_wp2_with fail
      go_ret
      exact BoE.yes HE.out hbw
theorem smpair_any (v : Js) (HV : SmOk v) (d : Nat) (S : Nat → Prop) (b : Js) (w : World) (t t' : ByteArray) (x y : Value) (hx : AnyAt S w v x) (hy : AnyAt S w b y) (hc : chkV d v = 0) (hbv : bareV v) (hbb : bareV b) :
    Calls Tryz.prog 57 #[.agg #[.string t, x], .agg #[.string t', y]] w (BoE (bI t = bI t' ∧ v = b) w) := by
  have hxf := any_form hx
  have hyf := any_form hy
  have HC := Lib.hid (fun W (hb : Below w.heap.size w W) => HV d S b W x y (hx.below hb) (hy.below hb) hc hbv hbb)
  unfold SmE at HC
  clear hx hy
  by_cases ht : t = t'
  · have hq := str_yes ht
    have HT := Lib.hid (show bI t = bI t' by rw [ht])
    rcases hxf with rfl | ⟨u, z, rfl⟩ <;> rcases hyf with rfl | ⟨u', z', rfl⟩ <;>
    · go_enter Tryz.func57, Tryz.ntmps57
      go_wp2_with fail
      refine (HC.out _ (((Below.refl _ w).alloc (Nat.le_refl _) _).alloc (by simp) _)).mono ?_
      rintro e w1 ⟨⟨r, rfl, hr⟩, hb⟩
      have HR := Lib.hid hr
      have HB := Lib.hid ((((Below.refl _ w).alloc (Nat.le_refl _) _).alloc (by simp) _).trans (hb.mono (by simp; omega)))
      clear hr hb
      go_wp2_with fail
      go_ret
      exact BoE.mk rfl (by rw [HR.out]; exact ⟨fun h => ⟨HT.out, h⟩, fun h => h.2⟩) HB.out
  · have hq := str_no ht
    have HT := Lib.hid (show ¬ bI t = bI t' from fun e => ht (bI_inj e))
    rcases hxf with rfl | ⟨u, z, rfl⟩ <;> rcases hyf with rfl | ⟨u', z', rfl⟩ <;>
    · go_enter Tryz.func57, Tryz.ntmps57
      go_wp2_with fail
      go_ret
      exact BoE.no (fun h => HT.out h.1) (by go_grown)
theorem eqf_obj (l : Jl) (HK : ∀ i n v, l.at? i = some (n, v) → SmOk v) (d : Nat) (S : Nat → Prop) (m : Jl) (w : World) (a a' : Option Addr) (cap cap' : Nat) (h1 : l.length ≤ cap) (h2 : cap ≤ maxLen) (g1 : m.length ≤ cap') (g2 : cap' ≤ maxLen) (hr : RowP S w a 0 l) (gr : RowP S w a' 0 m)
    (hck : ∀ i n v, l.at? i = some (n, v) → chkV (d + 1) v = 0) (hbl : bareL true l) (hbm : bareL true m) :
    Calls Tryz.prog 56 #[.slice a l.length cap, .slice a' m.length cap', .func (.func 57) #[] #[]] w (BoE (l = m) w) := by
  have hml : (l.length : Int) ≤ 9223372036854775807 := by rw [maxL] at h2; omega
  have hmm : (m.length : Int) ≤ 9223372036854775807 := by rw [maxL] at g2; omega
  have HR := Lib.hid hr
  have GR := Lib.hid gr
  have HK := Lib.hid HK
  have HCK := Lib.hid hck
  have HBL := Lib.hid (fun i n v => bareL_at l i n v hbl)
  have HBM := Lib.hid (fun i n v => bareL_at m i n v hbm)
  clear hr gr hck hbl hbm
  by_cases hlen : l.length ≠ m.length
  · have hne : ((l.length : Int) != (m.length : Int)) = true := by simp; omega
    have HN := Lib.hid (show l ≠ m from fun e => hlen (by rw [e]))
    clear hlen
    go_enter Tryz.func56, Tryz.ntmps56
    go_wp2_with fail
    go_ret
    exact BoE.no HN.out (by go_grown)
  have hlen := Decidable.not_not.1 hlen
  have hne : ((l.length : Int) != (m.length : Int)) = false := by simp; omega
  have HLEN := Lib.hid hlen
  clear hlen
  go_enter Tryz.func56, Tryz.ntmps56
  go_wp2_with fail
  go_loopw [17] (fun z wr => ∃ i : Nat, i ≤ l.length ∧ z = .int .i64 i ∧ Hid (∀ j, j < i → l.at? j = m.at? j) ∧ Below w.heap.size w wr) (fun z _ => l.length - (intOf z).toNat)
  case atStart => exact ⟨0, Nat.zero_le _, rfl, Lib.hid (fun j hj => absurd hj (Nat.not_lt_zero _)), Below.refl _ _⟩
  case round =>
    obtain ⟨i, hi, rfl, HM, hbw⟩ := hrel
    by_cases hlt : i < l.length
    · have hi2 : (i : Int) < (l.length : Int) := by omega
      have hi3 : (i : Int) < (m.length : Int) := by have := HLEN.out; omega
      obtain ⟨n, v, hat⟩ := Jl.lt_at l i hlt
      obtain ⟨n', v', hat'⟩ := Jl.lt_at m i (by have := HLEN.out; omega)
      obtain ⟨g, off, y, t, rfl, _, hg, l0, hbt, hnl, l1, hav⟩ := RowP.at l 0 i n v HR.out hat
      obtain ⟨g', off', y', t', rfl, _, hg', m0, hbt', hnl', m1, hav'⟩ := RowP.at m 0 i n' v' GR.out hat'
      rw [Nat.zero_add] at l0 m0 l1 m1
      replace l0 := (hbw.cell hg).trans l0
      replace m0 := (hbw.cell hg').trans m0
      replace l1 := (hbw.cell hg).trans l1
      replace m1 := (hbw.cell hg').trans m1
      have hgw : g' < wr.heap.size := Nat.lt_of_lt_of_le hg' hbw.size
      have hgn : g' ≠ wr.heap.size := by omega
      have HAT := Lib.hid hat
      have HAT' := Lib.hid hat'
      have HNV := Lib.hid (show (n = n' ∧ v = v') → (n, v) = (n', v') from fun e => by rw [e.1, e.2])
      have HNW := Lib.hid (show some (n, v) = some (n', v') → (n = n' ∧ v = v') from fun e => by injection e with e; injection e with e1 e2; exact ⟨e1, e2⟩)
      have hyf := any_form hav
      have hyf' := any_form hav'
      have HC := Lib.hid (fun W (hb : Below w.heap.size w W) => smpair_any v (HK.out i n v hat) (d + 1) S v' W t t' y y' (hav.below hb) (hav'.below hb) (HCK.out i n v hat) (HBL.out i n v hat).2 (HBM.out i n' v' hat').2)
      rw [hbt, hbt'] at HC
      unfold BoE at HC
      clear hat hat' hav hav' hbt hbt' hnl hnl'
      rcases hyf with rfl | ⟨u, z, rfl⟩ <;> rcases hyf' with rfl | ⟨u', z', rfl⟩
      · have HBW := Lib.hid hbw
        clear hbw
        go_wp2_with fail
        refine (HC.out _ ((HBW.out.alloc HBW.out.size _).alloc (Nat.le_trans HBW.out.size (by simp)) _)).mono ?_
        rintro e w2 ⟨⟨r, rfl, hr⟩, hb⟩
        have HRR := Lib.hid hr
        have HB2 := Lib.hid (((HBW.out.alloc HBW.out.size _).alloc (Nat.le_trans HBW.out.size (by simp)) _).trans (hb.mono (Nat.le_trans HBW.out.size (by simp; omega))))
        clear hb hr l0 m0 l1 m1
        by_cases hq : r = true
        · subst hq
          go_wp2_with fail
          go_roundw
          case rel => exact ⟨i + 1, by omega, by go_num, Lib.hid (fun j hj => by
            rcases Nat.lt_or_ge j i with h | h
            · exact HM.out j h
            · obtain rfl : j = i := by omega
              rw [HAT.out, HAT'.out, HNV.out (HRR.out.1 trivial)]), HB2.out⟩
          case measure => simp [intOf]; omega
        · have hq : r = false := by simpa using hq
          subst hq
          go_wp2_with fail
          go_ret
          exact BoE.no (fun e => absurd (HRR.out.2 (HNW.out (by rw [← HAT.out, ← HAT'.out, e]))) (by simp)) HB2.out
      · have HBW := Lib.hid hbw
        clear hbw
        go_wp2_with fail
        refine (HC.out _ ((HBW.out.alloc HBW.out.size _).alloc (Nat.le_trans HBW.out.size (by simp)) _)).mono ?_
        rintro e w2 ⟨⟨r, rfl, hr⟩, hb⟩
        have HRR := Lib.hid hr
        have HB2 := Lib.hid (((HBW.out.alloc HBW.out.size _).alloc (Nat.le_trans HBW.out.size (by simp)) _).trans (hb.mono (Nat.le_trans HBW.out.size (by simp; omega))))
        clear hb hr l0 m0 l1 m1
        by_cases hq : r = true
        · subst hq
          go_wp2_with fail
          go_roundw
          case rel => exact ⟨i + 1, by omega, by go_num, Lib.hid (fun j hj => by
            rcases Nat.lt_or_ge j i with h | h
            · exact HM.out j h
            · obtain rfl : j = i := by omega
              rw [HAT.out, HAT'.out, HNV.out (HRR.out.1 trivial)]), HB2.out⟩
          case measure => simp [intOf]; omega
        · have hq : r = false := by simpa using hq
          subst hq
          go_wp2_with fail
          go_ret
          exact BoE.no (fun e => absurd (HRR.out.2 (HNW.out (by rw [← HAT.out, ← HAT'.out, e]))) (by simp)) HB2.out
      · have HBW := Lib.hid hbw
        clear hbw
        go_wp2_with fail
        refine (HC.out _ ((HBW.out.alloc HBW.out.size _).alloc (Nat.le_trans HBW.out.size (by simp)) _)).mono ?_
        rintro e w2 ⟨⟨r, rfl, hr⟩, hb⟩
        have HRR := Lib.hid hr
        have HB2 := Lib.hid (((HBW.out.alloc HBW.out.size _).alloc (Nat.le_trans HBW.out.size (by simp)) _).trans (hb.mono (Nat.le_trans HBW.out.size (by simp; omega))))
        clear hb hr l0 m0 l1 m1
        by_cases hq : r = true
        · subst hq
          go_wp2_with fail
          go_roundw
          case rel => exact ⟨i + 1, by omega, by go_num, Lib.hid (fun j hj => by
            rcases Nat.lt_or_ge j i with h | h
            · exact HM.out j h
            · obtain rfl : j = i := by omega
              rw [HAT.out, HAT'.out, HNV.out (HRR.out.1 trivial)]), HB2.out⟩
          case measure => simp [intOf]; omega
        · have hq : r = false := by simpa using hq
          subst hq
          go_wp2_with fail
          go_ret
          exact BoE.no (fun e => absurd (HRR.out.2 (HNW.out (by rw [← HAT.out, ← HAT'.out, e]))) (by simp)) HB2.out
      · have HBW := Lib.hid hbw
        clear hbw
        go_wp2_with fail
        refine (HC.out _ ((HBW.out.alloc HBW.out.size _).alloc (Nat.le_trans HBW.out.size (by simp)) _)).mono ?_
        rintro e w2 ⟨⟨r, rfl, hr⟩, hb⟩
        have HRR := Lib.hid hr
        have HB2 := Lib.hid (((HBW.out.alloc HBW.out.size _).alloc (Nat.le_trans HBW.out.size (by simp)) _).trans (hb.mono (Nat.le_trans HBW.out.size (by simp; omega))))
        clear hb hr l0 m0 l1 m1
        by_cases hq : r = true
        · subst hq
          go_wp2_with fail
          go_roundw
          case rel => exact ⟨i + 1, by omega, by go_num, Lib.hid (fun j hj => by
            rcases Nat.lt_or_ge j i with h | h
            · exact HM.out j h
            · obtain rfl : j = i := by omega
              rw [HAT.out, HAT'.out, HNV.out (HRR.out.1 trivial)]), HB2.out⟩
          case measure => simp [intOf]; omega
        · have hq : r = false := by simpa using hq
          subst hq
          go_wp2_with fail
          go_ret
          exact BoE.no (fun e => absurd (HRR.out.2 (HNW.out (by rw [← HAT.out, ← HAT'.out, e]))) (by simp)) HB2.out
    · obtain rfl : i = l.length := by omega
      have HE := Lib.hid (Jl.ext l m HLEN.out (fun j hj => HM.out j hj))
      go_wp2_with fail
      go_ret
      exact BoE.yes HE.out hbw
theorem sm_arr (l : Jl) (HK : ∀ i n v, l.at? i = some (n, v) → SmOk v) : SmOk (.arr l) := by
  intro d S b w x y hx hy hc ha hb
  rw [AnyAt] at hx
  obtain ⟨a, cap, rfl, h1, h2, hr⟩ := hx
  rw [bareV] at ha
  have hck := fun i n v h => chk_kid false d l hc i n v h
  unfold SmE
  have a0 := fun W => assert_no 20 4 57 (.slice a l.length cap) _ _ Tryz.underlying4 rfl zBool (by decide) W
  have a1 := fun W => assert_no 20 3 57 (.slice a l.length cap) _ _ Tryz.underlying3 rfl zInt (by decide) W
  have a2 := fun W => assert_no 20 9 57 (.slice a l.length cap) _ _ Tryz.underlying9 rfl zStr (by decide) W
  have a3 := fun W => assert_yes 20 57 (.slice a l.length cap) _ Tryz.underlying57 rfl W
  by_cases hk : ∃ c, b = .arr c
  · obtain ⟨m, rfl⟩ := hk
    rw [AnyAt] at hy
    obtain ⟨a', cap', rfl, g1, g2, gr⟩ := hy
    rw [bareV] at hb
    have HC := Lib.hid (fun W (hb' : Below w.heap.size w W) => eqf_arr l HK d S m W a a' cap cap' h1 h2 g1 g2 (RowA.keep (fun _ e _ => e) hb'.size (fun b _ hl => hb'.block b hl) l a 0 hr) (RowA.keep (fun _ e _ => e) hb'.size (fun b _ hl => hb'.block b hl) m a' 0 gr) hck ha hb)
    unfold BoE at HC
    clear HK hr gr hck ha hb hc
    have b1 := fun W => assert_yes 20 57 (.slice a' m.length cap') _ Tryz.underlying57 rfl W
    go_enter Tryz.func32, Tryz.ntmps32
    go_wp2_with fail
    refine (HC.out _ (by go_grown)).mono ?_
    rintro e w1 ⟨⟨r, rfl, hr⟩, hb⟩
    have HRR := Lib.hid hr
    clear hr
    go_wp2_with fail
    go_ret
    exact ⟨⟨r, rfl, by rw [HRR.out]; simp⟩, hb⟩
  have HN := Lib.hid hk
  clear HK hr hck ha hb hc
  rcases ne_arr hy (fun c e => hk ⟨c, e⟩) with rfl | ⟨u, z, rfl, hu⟩
  · clear hk hy
    have b1 := fun W => assert_nil 20 57 _ _ Tryz.underlying57 rfl zLst W
    go_enter Tryz.func32, Tryz.ntmps32
    go_wp2_with fail
    go_ret
    exact ⟨⟨_, rfl, by simp; exact fun e => HN.out ⟨_, e.symm⟩⟩, by go_grown⟩
  · clear hk hy
    have b1 := fun W => assert_no 20 57 u z _ _ Tryz.underlying57 rfl zLst hu W
    go_enter Tryz.func32, Tryz.ntmps32
    go_wp2_with fail
    go_ret
    exact ⟨⟨_, rfl, by simp; exact fun e => HN.out ⟨_, e.symm⟩⟩, by go_grown⟩
theorem sm_obj (l : Jl) (HK : ∀ i n v, l.at? i = some (n, v) → SmOk v) : SmOk (.obj l) := by
  intro d S b w x y hx hy hc ha hb
  rw [AnyAt] at hx
  obtain ⟨a, cap, rfl, h1, h2, hr⟩ := hx
  rw [bareV] at ha
  have hck := fun i n v h => chk_kid true d l hc i n v h
  unfold SmE
  have a0 := fun W => assert_no 20 4 58 (.slice a l.length cap) _ _ Tryz.underlying4 rfl zBool (by decide) W
  have a1 := fun W => assert_no 20 3 58 (.slice a l.length cap) _ _ Tryz.underlying3 rfl zInt (by decide) W
  have a2 := fun W => assert_no 20 9 58 (.slice a l.length cap) _ _ Tryz.underlying9 rfl zStr (by decide) W
  have a3 := fun W => assert_no 20 57 58 (.slice a l.length cap) _ _ Tryz.underlying57 rfl zLst (by decide) W
  have a4 := fun W => assert_yes 20 58 (.slice a l.length cap) _ Tryz.underlying58 rfl W
  by_cases hk : ∃ c, b = .obj c
  · obtain ⟨m, rfl⟩ := hk
    rw [AnyAt] at hy
    obtain ⟨a', cap', rfl, g1, g2, gr⟩ := hy
    rw [bareV] at hb
    have HC := Lib.hid (fun W (hb' : Below w.heap.size w W) => eqf_obj l HK d S m W a a' cap cap' h1 h2 g1 g2 (RowP.keep (fun _ e _ => e) hb'.size (fun b _ hl => hb'.block b hl) l a 0 hr) (RowP.keep (fun _ e _ => e) hb'.size (fun b _ hl => hb'.block b hl) m a' 0 gr) hck ha hb)
    unfold BoE at HC
    clear HK hr gr hck ha hb hc
    have b1 := fun W => assert_yes 20 58 (.slice a' m.length cap') _ Tryz.underlying58 rfl W
    go_enter Tryz.func32, Tryz.ntmps32
    go_wp2_with fail
    refine (HC.out _ (by go_grown)).mono ?_
    rintro e w1 ⟨⟨r, rfl, hr⟩, hb⟩
    have HRR := Lib.hid hr
    clear hr
    go_wp2_with fail
    go_ret
    exact ⟨⟨r, rfl, by rw [HRR.out]; simp⟩, hb⟩
  have HN := Lib.hid hk
  clear HK hr hck ha hb hc
  rcases ne_obj hy (fun c e => hk ⟨c, e⟩) with rfl | ⟨u, z, rfl, hu⟩
  · clear hk hy
    have b1 := fun W => assert_nil 20 58 _ _ Tryz.underlying58 rfl zPrs W
    go_enter Tryz.func32, Tryz.ntmps32
    go_wp2_with fail
    go_ret
    exact ⟨⟨_, rfl, by simp; exact fun e => HN.out ⟨_, e.symm⟩⟩, by go_grown⟩
  · clear hk hy
    have b1 := fun W => assert_no 20 58 u z _ _ Tryz.underlying58 rfl zPrs hu W
    go_enter Tryz.func32, Tryz.ntmps32
    go_wp2_with fail
    go_ret
    exact ⟨⟨_, rfl, by simp; exact fun e => HN.out ⟨_, e.symm⟩⟩, by go_grown⟩
theorem sm_bad : SmOk .bad := fun d S b w x y hx hy hc => by rw [chkV] at hc; cases hc
end Go.Proofs.YtbkceneakdbdkaaGreatDoor
/- The program's Same; against the document's. -/
namespace Go.Proofs.YtbkceneakdbdkaaGreatDoor
open Go.RowKit
set_option maxRecDepth 20000
set_option linter.unusedVariables false
set_option linter.unusedSimpArgs false
set_option maxHeartbeats 4000000
theorem sm_any : ∀ a : Js, SmOk a := Js.ind sm_nul sm_bool sm_num sm_str sm_arr sm_obj sm_bad
theorem psame_any (S S' : Nat → Prop) (a b : Js) (x y : Value) (w : World) (hx : AnyAt S w a x) (hy : AnyAt S' w b y) (ha : bareV a) (hb : bareV b) : Calls Tryz.prog 17 #[x, y] w (BoE (chkV 1 a = 0 ∧ a = b) w) := by
  have HC := Lib.hid (fun W (hb : Below w.heap.size w W) => pcheck_any S a x W (hx.below hb))
  have HS := Lib.hid (fun (W : World) (hb' : Below w.heap.size w W) hc => sm_any a 1 aB b W x y ((hx.below hb').mono (fun _ _ => trivial)) ((hy.below hb').mono (fun _ _ => trivial)) hc ha hb)
  unfold SmE at HS
  by_cases hc : chkV 1 a = 0
  · have HC0 := Lib.hid hc
    rw [hc] at HC
    have HS := Lib.hid (fun W hb => HS.out W hb hc)
    clear hx hy hc ha hb
    go_enter Tryz.func17, Tryz.ntmps17
    go_wp2_with fail
    refine (HC.out _ (by go_grown)).mono ?_
    rintro e w1 ⟨rfl, hb1⟩
    have HB1 := Lib.hid hb1
    clear hb1
    go_wp2_with fail
    refine (HS.out _ HB1.out).mono ?_
    rintro e w2 ⟨⟨r, rfl, hr⟩, hb2⟩
    have HR := Lib.hid hr
    have HB2 := Lib.hid (HB1.out.trans (hb2.mono HB1.out.size))
    clear hr hb2
    go_wp2_with fail
    go_ret
    exact BoE.mk rfl (by rw [HR.out]; exact ⟨fun h => ⟨HC0.out, h⟩, fun h => h.2⟩) HB2.out
  · have HC0 := Lib.hid hc
    generalize chkV 1 a = c at HC HC0 hc ⊢
    have hcd : (c == 0) = false := by rw [beq_eq_false_iff_ne]; exact hc
    clear hx hy ha hb HS
    go_enter Tryz.func17, Tryz.ntmps17
    go_wp2_with fail
    refine (HC.out _ (by go_grown)).mono ?_
    rintro e w1 ⟨rfl, hb1⟩
    have HB1 := Lib.hid hb1
    clear hb1
    go_wp2_with fail
    go_ret
    exact BoE.no (fun h => HC0.out h.1) HB1.out
theorem digN_byte : ∀ (k n : Nat), n < k → ∀ b ∈ digN n, 0 ≤ b ∧ b < 256
  | 0, n, h => absurd h (Nat.not_lt_zero _)
  | k + 1, n, h => by
    intro b hb
    rw [digN] at hb
    split at hb
    · obtain rfl := List.mem_singleton.1 hb; omega
    · rcases List.mem_append.1 hb with hb | hb
      · exact digN_byte k (n / 10) (by omega) b hb
      · obtain rfl := List.mem_singleton.1 hb; omega
theorem digI_byte (n : Int) : ∀ b ∈ digI n, 0 ≤ b ∧ b < 256 := by
  intro b hb
  unfold digI at hb
  split at hb
  · rcases List.mem_cons.1 hb with rfl | hb
    · omega
    · exact digN_byte _ _ (Nat.lt_succ_self _) b hb
  · exact digN_byte _ _ (Nat.lt_succ_self _) b hb
theorem body_tail (ob : Bool) (l : Jl) (b : Int) (h : b ∈ bodyP ob l) : b ∈ tailP ob l := by
  cases l with
  | nil => rw [bodyP] at h; cases h
  | cons n v t => rw [tail_cons]; exact List.mem_cons_of_mem _ h
theorem chk_in {ob : Bool} {d : Nat} {l : Jl} (h : chkV d (if ob then .obj l else .arr l) = 0) : chkL ob d [] l = 0 := by
  cases ob
  · simp only [Bool.false_eq_true, if_false] at h
    rw [chkV] at h
    split at h
    · cases h
    split at h
    · cases h
    · exact h
  · simp only [if_true] at h
    rw [chkV] at h
    split at h
    · cases h
    split at h
    · cases h
    · exact h
mutual
theorem print_byte : ∀ (v : Js) (d : Nat), chkV d v = 0 → ∀ b ∈ printV v, 0 ≤ b ∧ b < 256
  | .nul, d, h, b, hb => by rw [printV] at hb; simp at hb; omega
  | .bool true, d, h, b, hb => by rw [printV] at hb; simp at hb; omega
  | .bool false, d, h, b, hb => by rw [printV] at hb; simp at hb; omega
  | .num n, d, h, b, hb => by rw [printV] at hb; exact digI_byte n b hb
  | .str s, d, h, b, hb => by
    rw [printV] at hb
    rw [chkV] at h
    split at h
    · cases h
    · exact quoteS_byte (by omega) b hb
  | .arr l, d, h, b, hb => by
    rw [printV] at hb
    have hc := chk_in (ob := false) (d := d) (l := l) (by simpa using h)
    rcases List.mem_append.1 hb with hb | hb
    · rcases List.mem_cons.1 hb with rfl | hb
      · omega
      · exact tail_byte l false d [] hc b (body_tail _ _ _ hb)
    · obtain rfl := List.mem_singleton.1 hb; omega
  | .obj l, d, h, b, hb => by
    rw [printV] at hb
    have hc := chk_in (ob := true) (d := d) (l := l) (by simpa using h)
    rcases List.mem_append.1 hb with hb | hb
    · rcases List.mem_cons.1 hb with rfl | hb
      · omega
      · exact tail_byte l true d [] hc b (body_tail _ _ _ hb)
    · obtain rfl := List.mem_singleton.1 hb; omega
  | .bad, d, h, b, hb => by rw [printV] at hb; cases hb
theorem tail_byte : ∀ (l : Jl) (ob : Bool) (d : Nat) (names : List (List Int)), chkL ob d names l = 0 → ∀ b ∈ tailP ob l, 0 ≤ b ∧ b < 256
  | .nil, ob, d, names, h, b, hb => by rw [tailP] at hb; cases hb
  | .cons n v l, ob, d, names, h, b, hb => by
    have hc := chk_cons h
    rw [tailP] at hb
    rcases List.mem_cons.1 hb with rfl | hb
    · omega
    rcases List.mem_append.1 hb with hb | hb
    · rcases List.mem_append.1 hb with hb | hb
      · split at hb
        · rename_i ho
          rcases List.mem_append.1 hb with hb | hb
          · exact quoteS_byte (hc.1 ho).1 b hb
          · obtain rfl := List.mem_singleton.1 hb; omega
        · cases hb
      · exact print_byte v (d + 1) hc.2.1 b hb
    · exact tail_byte l ob d (names ++ [n]) hc.2.2 b hb
end
/-- What is laid tells the value. -/
theorem print_inj {a b : Js} (ha : MayV 1 a) (hb : MayV 1 b) (h : printV a = printV b) : a = b := by
  have h1 := backV a (2 * (printV a ++ []).length + 1) 1 [] ha (fun _ _ => by decide) (Nat.le_refl _)
  have h2 := backV b (2 * (printV b ++ []).length + 1) 1 [] hb (fun _ _ => by decide) (Nat.le_refl _)
  rw [h, h2] at h1
  injection h1 with h1
  exact h1.symm
theorem same_is {a b : Js} (ha : bareV a) (hb : bareV b) : (chkV 1 a = 0 ∧ a = b) ↔ sameV a b = true := by
  unfold sameV
  rw [decide_eq_true_iff]
  constructor
  · rintro ⟨h, rfl⟩; exact ⟨h, h, rfl⟩
  · rintro ⟨h1, h2, h3⟩
    exact ⟨h1, print_inj ⟨h1, ha⟩ ⟨h2, hb⟩ (str_inj (print_byte a 1 h1) (print_byte b 1 h2) h3)⟩
end Go.Proofs.YtbkceneakdbdkaaGreatDoor
/- Equal at a bool, at what is none. -/
namespace Go.Proofs.YtbkceneakdbdkaaGreatDoor
open Go.RowKit
set_option maxRecDepth 20000
set_option linter.unusedVariables false
set_option linter.unusedSimpArgs false
set_option maxHeartbeats 4000000
theorem toL_at (ob : Bool) : ∀ (kids : Nl) (names : List ByteArray) (j : Nat) (u : Nt), kids.at? j = some u → (toL ob names kids).at? j = some (if ob = true then bI (names.getD j ByteArray.empty) else [], toJ u)
  | .nil, _, _, _, h => by cases h
  | .cons h t, names, 0, u, e => by
    obtain rfl : h = u := by simpa [Nl.at?] using e
    rw [toL, Jl.at?]
    cases names <;> simp
  | .cons h t, names, j + 1, u, e => by
    rw [toL, Jl.at?, toL_at ob t names.tail j u e]
    cases names <;> simp
theorem equal_bool (b : Bool) (u : Nt) (w : World) (hin : u.In w) : Calls Tryz.prog 16 #[.iface 4 (.bool b), ntA u] w (EqEnd (.bool b) u w) := by
  obtain ⟨k, n, s, nv, names, kv, kids⟩ := u
  rw [Nt.In] at hin
  obtain ⟨⟨k0, k1⟩, _⟩ := hin
  have hj : toJ (.mk k n s nv names kv kids) = .bool b ↔ (k = 1 ∧ b = false ∨ k = 2 ∧ b = true) := by
    rcases toJ_cases k n s nv names kv kids k0 with ⟨h1, h⟩ | ⟨rfl, h⟩ | ⟨rfl, h⟩ | ⟨rfl, h⟩ | ⟨rfl, h⟩ | ⟨rfl, h⟩ | ⟨rfl, h⟩ | ⟨rfl, h⟩ <;> rw [h] <;> simp <;> (try (cases b <;> simp)) <;> omega
  have HJ := Lib.hid (show Js.bool b = toJ (.mk k n s nv names kv kids) ↔ (k = 1 ∧ b = false ∨ k = 2 ∧ b = true) from ⟨fun e => hj.1 e.symm, fun e => (hj.2 e).symm⟩)
  show Calls _ _ #[_, .agg #[.int .u8 k, .int .i64 n, .string s, nv, kv]] _ _
  clear hj
  have a0 := fun W => assert_no 20 59 4 (.bool b) _ _ Tryz.underlying59 rfl zFlt (by decide) W
  have a1 := fun W => assert_yes 20 4 (.bool b) _ Tryz.underlying4 rfl W
  by_cases h6 : 6 < k
  · have hd : decide (6 < k) = true := by simpa using h6
    go_enter Tryz.func16, Tryz.ntmps16
    go_wp2_with fail
    go_ret
    exact ⟨⟨false, rfl, by rw [HJ.out]; simp; omega⟩, by go_grown⟩
  have hd : decide (6 < k) = false := by simp; omega
  by_cases h1 : k = 1
  · subst h1
    cases b
    · go_enter Tryz.func16, Tryz.ntmps16
      go_wp2_with fail
      go_ret
      exact ⟨⟨true, rfl, by rw [HJ.out]; simp⟩, by go_grown⟩
    · go_enter Tryz.func16, Tryz.ntmps16
      go_wp2_with fail
      go_ret
      exact ⟨⟨false, rfl, by rw [HJ.out]; simp⟩, by go_grown⟩
  have f1 : (k == 1) = false := by rw [beq_eq_false_iff_ne]; exact h1
  by_cases h2 : k = 2
  · subst h2
    cases b
    · go_enter Tryz.func16, Tryz.ntmps16
      go_wp2_with fail
      go_ret
      exact ⟨⟨false, rfl, by rw [HJ.out]; simp⟩, by go_grown⟩
    · go_enter Tryz.func16, Tryz.ntmps16
      go_wp2_with fail
      go_ret
      exact ⟨⟨true, rfl, by rw [HJ.out]; simp⟩, by go_grown⟩
  have f2 : (k == 2) = false := by rw [beq_eq_false_iff_ne]; exact h2
  have HN := Lib.hid (show ¬ (k = 1 ∧ b = false ∨ k = 2 ∧ b = true) by omega)
  clear h1 h2
  go_enter Tryz.func16, Tryz.ntmps16
  go_wp2_with fail
  go_ret
  exact ⟨⟨false, rfl, by rw [HJ.out]; exact ⟨fun e => absurd e (by simp), fun e => absurd e HN.out⟩⟩, by go_grown⟩
theorem equal_bad (u : Nt) (w : World) (hin : u.In w) : Calls Tryz.prog 16 #[.iface 59 (.float .f64 4609434218613702656), ntA u] w (EqEnd .bad u w) := by
  obtain ⟨k, n, s, nv, names, kv, kids⟩ := u
  rw [Nt.In] at hin
  obtain ⟨⟨k0, k1⟩, _⟩ := hin
  have hj : toJ (.mk k n s nv names kv kids) = .bad ↔ 6 < k := by
    rcases toJ_cases k n s nv names kv kids k0 with ⟨h1, h⟩ | ⟨rfl, h⟩ | ⟨rfl, h⟩ | ⟨rfl, h⟩ | ⟨rfl, h⟩ | ⟨rfl, h⟩ | ⟨rfl, h⟩ | ⟨rfl, h⟩ <;> rw [h] <;> simp
    exact h1
  have HJ := Lib.hid (show Js.bad = toJ (.mk k n s nv names kv kids) ↔ 6 < k from ⟨fun e => hj.1 e.symm, fun e => (hj.2 e).symm⟩)
  show Calls _ _ #[_, .agg #[.int .u8 k, .int .i64 n, .string s, nv, kv]] _ _
  clear hj
  have a0 := fun W => assert_yes 20 59 (.float .f64 4609434218613702656) _ Tryz.underlying59 rfl W
  have a1 := fun W => assert_no 20 4 59 (.float .f64 4609434218613702656) _ _ Tryz.underlying4 rfl zBool (by decide) W
  have a2 := fun W => assert_no 20 3 59 (.float .f64 4609434218613702656) _ _ Tryz.underlying3 rfl zInt (by decide) W
  have a3 := fun W => assert_no 20 9 59 (.float .f64 4609434218613702656) _ _ Tryz.underlying9 rfl zStr (by decide) W
  have a4 := fun W => assert_no 20 57 59 (.float .f64 4609434218613702656) _ _ Tryz.underlying57 rfl zLst (by decide) W
  have a5 := fun W => assert_no 20 58 59 (.float .f64 4609434218613702656) _ _ Tryz.underlying58 rfl zPrs (by decide) W
  by_cases h6 : 6 < k
  · have hd : decide (6 < k) = true := by simpa using h6
    go_enter Tryz.func16, Tryz.ntmps16
    go_wp2_with fail
    go_ret
    exact ⟨⟨true, rfl, by rw [HJ.out]; simp; omega⟩, by go_grown⟩
  have hd : decide (6 < k) = false := by simp; omega
  go_enter Tryz.func16, Tryz.ntmps16
  go_wp2_with fail
  go_loopw [18] (fun z wr => z = .int .i64 0 ∧ Below w.heap.size w wr) (fun z _ => 0)
  case atStart => exact ⟨rfl, by go_grown⟩
  case round =>
    obtain ⟨rfl, hbw⟩ := hrel
    go_wp2_with fail
    go_ret
    exact ⟨⟨false, rfl, by rw [HJ.out]; simp; omega⟩, hbw⟩
end Go.Proofs.YtbkceneakdbdkaaGreatDoor
