/- Several texts, one behind the other: Pa, Pb, Pc, Pd. -/
import Derived.Test.YtbkceneakdbdkaaGreatDoorML
import Derived.Test.YtbkceneakdbdkaaGreatDoorMK
import Derived.LoopTactic
import Derived.Test.YtbkceneakdbdkaaGreatDoorMF
import Derived.Deep.RegionHeld3
/- Plain: what stands where in a row of values; an induction over values. -/
namespace Go.Proofs.YtbkceneakdbdkaaGreatDoor
open Go.RowKit
set_option maxRecDepth 20000
set_option linter.unusedVariables false
set_option linter.unusedSimpArgs false
def Jl.at? : Jl → Nat → Option (List Int × Js)
  | .nil, _ => none
  | .cons n v _, 0 => some (n, v)
  | .cons _ _ l, i + 1 => l.at? i
def Jl.drop : Jl → Nat → Jl
  | l, 0 => l
  | .nil, _ + 1 => .nil
  | .cons _ _ l, i + 1 => l.drop i
def Jl.names : Jl → List (List Int)
  | .nil => []
  | .cons n _ l => n :: l.names
theorem Jl.drop_zero (l : Jl) : l.drop 0 = l := by cases l <;> rfl
theorem Jl.at_lt : ∀ (l : Jl) (k : Nat) (x : List Int × Js), l.at? k = some x → k < l.length
  | .nil, _, _, h => by cases h
  | .cons _ _ t, 0, _, _ => Nat.succ_pos _
  | .cons _ _ t, k + 1, v, e => Nat.succ_lt_succ (Jl.at_lt t k v e)
theorem Jl.lt_at : ∀ (l : Jl) (k : Nat), k < l.length → ∃ n v, l.at? k = some (n, v)
  | .nil, _, h => absurd h (Nat.not_lt_zero _)
  | .cons n v t, 0, _ => ⟨n, v, rfl⟩
  | .cons _ _ t, k + 1, e => Jl.lt_at t k (Nat.lt_of_succ_lt_succ e)
theorem Jl.drop_at : ∀ (l : Jl) (i : Nat) (n : List Int) (v : Js), l.at? i = some (n, v) → l.drop i = .cons n v (l.drop (i + 1))
  | .nil, _, _, _, h => by cases h
  | .cons n' v' t, 0, n, v, h => by
    obtain ⟨rfl, rfl⟩ : n' = n ∧ v' = v := by simpa [Jl.at?] using h
    simp only [Jl.drop, Jl.drop_zero]
  | .cons n' v' t, i + 1, n, v, h => by
    have := Jl.drop_at t i n v h
    simpa only [Jl.drop] using this
theorem Jl.drop_len : ∀ l : Jl, l.drop l.length = .nil
  | .nil => rfl
  | .cons _ _ t => by simpa only [Jl.length, Jl.drop] using Jl.drop_len t
theorem Jl.names_at : ∀ (l : Jl) (i : Nat) (n : List Int) (v : Js), l.at? i = some (n, v) → l.names[i]? = some n
  | .nil, _, _, _, h => by cases h
  | .cons n' v' t, 0, n, v, h => by
    obtain ⟨rfl, rfl⟩ : n' = n ∧ v' = v := by simpa [Jl.at?] using h
    rfl
  | .cons n' v' t, i + 1, n, v, h => by simpa [Jl.names] using Jl.names_at t i n v h
theorem Jl.names_len : ∀ l : Jl, l.names.length = l.length
  | .nil => rfl
  | .cons _ _ t => by simp [Jl.names, Jl.length, Jl.names_len t]
theorem RowA.at {S : Nat → Prop} {w : World} {a : Option Addr} : ∀ (l : Jl) (i k : Nat) (n : List Int) (v : Js), RowA S w a i l → l.at? k = some (n, v) → ∃ g off y, a = some ⟨g, off, none⟩ ∧ S g ∧ g < w.heap.size ∧ w.cell? ⟨g, off + (i + k), none⟩ = some y ∧ AnyAt S w v y
  | .nil, _, _, _, _, _, h => by cases h
  | .cons n' v' t, i, 0, n, v, hr, h => by
    rw [RowA] at hr
    obtain ⟨rfl, rfl⟩ : n' = n ∧ v' = v := by simpa [Jl.at?] using h
    exact hr.1
  | .cons n' v' t, i, k + 1, n, v, hr, h => by
    rw [RowA] at hr
    have := RowA.at t (i + 1) k n v hr.2 h
    rwa [show i + 1 + k = i + (k + 1) by omega] at this
theorem RowA.of {S : Nat → Prop} {w : World} {a : Option Addr} : ∀ (l : Jl) (i : Nat), (∀ k n v, l.at? k = some (n, v) → ∃ g off y, a = some ⟨g, off, none⟩ ∧ S g ∧ g < w.heap.size ∧ w.cell? ⟨g, off + (i + k), none⟩ = some y ∧ AnyAt S w v y) → RowA S w a i l
  | .nil, _, _ => by rw [RowA]; trivial
  | .cons n v t, i, h => by
    rw [RowA]
    exact ⟨h 0 n v rfl, RowA.of t (i + 1) fun k n v e => by
      have := h (k + 1) n v e
      rwa [show i + (k + 1) = i + 1 + k by omega] at this⟩
theorem RowP.at {S : Nat → Prop} {w : World} {a : Option Addr} : ∀ (l : Jl) (i k : Nat) (n : List Int) (v : Js), RowP S w a i l → l.at? k = some (n, v) → ∃ g off y t, a = some ⟨g, off, none⟩ ∧ S g ∧ g < w.heap.size ∧ w.cell? ⟨g, off + (i + k) * 2, none⟩ = some (.string t) ∧ bI t = n ∧ n.length ≤ 5000 ∧ w.cell? ⟨g, off + (i + k) * 2 + 1, none⟩ = some y ∧ AnyAt S w v y
  | .nil, _, _, _, _, _, h => by cases h
  | .cons n' v' t, i, 0, n, v, hr, h => by
    rw [RowP] at hr
    obtain ⟨rfl, rfl⟩ : n' = n ∧ v' = v := by simpa [Jl.at?] using h
    exact hr.1
  | .cons n' v' t, i, k + 1, n, v, hr, h => by
    rw [RowP] at hr
    have := RowP.at t (i + 1) k n v hr.2 h
    rwa [show i + 1 + k = i + (k + 1) by omega] at this
theorem RowP.of {S : Nat → Prop} {w : World} {a : Option Addr} : ∀ (l : Jl) (i : Nat), (∀ k n v, l.at? k = some (n, v) → ∃ g off y t, a = some ⟨g, off, none⟩ ∧ S g ∧ g < w.heap.size ∧ w.cell? ⟨g, off + (i + k) * 2, none⟩ = some (.string t) ∧ bI t = n ∧ n.length ≤ 5000 ∧ w.cell? ⟨g, off + (i + k) * 2 + 1, none⟩ = some y ∧ AnyAt S w v y) → RowP S w a i l
  | .nil, _, _ => by rw [RowP]; trivial
  | .cons n v t, i, h => by
    rw [RowP]
    exact ⟨h 0 n v rfl, RowP.of t (i + 1) fun k n v e => by
      have := h (k + 1) n v e
      rwa [show i + (k + 1) = i + 1 + k by omega] at this⟩
mutual
theorem Js.ind {P : Js → Prop} (hnul : P .nul) (hbool : ∀ b, P (.bool b)) (hnum : ∀ n, P (.num n)) (hstr : ∀ s, P (.str s)) (harr : ∀ l, (∀ i n v, l.at? i = some (n, v) → P v) → P (.arr l)) (hobj : ∀ l, (∀ i n v, l.at? i = some (n, v) → P v) → P (.obj l)) (hbad : P .bad) : ∀ v : Js, P v
  | .nul => hnul
  | .bool b => hbool b
  | .num n => hnum n
  | .str s => hstr s
  | .arr l => harr l (Jl.ind hnul hbool hnum hstr harr hobj hbad l)
  | .obj l => hobj l (Jl.ind hnul hbool hnum hstr harr hobj hbad l)
  | .bad => hbad
theorem Jl.ind {P : Js → Prop} (hnul : P .nul) (hbool : ∀ b, P (.bool b)) (hnum : ∀ n, P (.num n)) (hstr : ∀ s, P (.str s)) (harr : ∀ l, (∀ i n v, l.at? i = some (n, v) → P v) → P (.arr l)) (hobj : ∀ l, (∀ i n v, l.at? i = some (n, v) → P v) → P (.obj l)) (hbad : P .bad) : ∀ (l : Jl) (i : Nat) (n : List Int) (v : Js), l.at? i = some (n, v) → P v
  | .nil, _, _, _, h => by cases h
  | .cons n' v' t, 0, n, v, h => by
    obtain ⟨rfl, rfl⟩ : n' = n ∧ v' = v := by simpa [Jl.at?] using h
    exact Js.ind hnul hbool hnum hstr harr hobj hbad v'
  | .cons n' v' t, i + 1, n, v, h => Jl.ind hnul hbool hnum hstr harr hobj hbad t i n v h
end
/-- Any blocks. -/
def aB : Nat → Prop := fun _ => True
/-- The place of a name among some. -/
def PlR (x : List Int) (ns : List (List Int)) (r : Int) : Prop := (r = -1 ∧ x ∉ ns) ∨ ∃ k : Nat, r = k ∧ ns[k]? = some x ∧ ∀ j, j < k → ns[j]? ≠ some x
theorem PlR.neg {x : List Int} {ns : List (List Int)} {r : Int} (h : PlR x ns r) : (0 ≤ r ↔ x ∈ ns) := by
  rcases h with ⟨rfl, h⟩ | ⟨k, rfl, h, _⟩
  · exact ⟨fun e => by omega, fun e => absurd e h⟩
  · exact ⟨fun _ => List.mem_of_getElem? h, fun _ => by omega⟩
end Go.Proofs.YtbkceneakdbdkaaGreatDoor
/- The program's checkSize, place. -/
namespace Go.Proofs.YtbkceneakdbdkaaGreatDoor
open Go.RowKit
set_option maxRecDepth 20000
set_option linter.unusedVariables false
set_option linter.unusedSimpArgs false
set_option maxHeartbeats 1000000
theorem psize_any (n : Int) (d : Nat) (w : World) : Calls Tryz.prog 74 #[.int .i64 n, .int .i64 d] w fun e w' => e = .returned (.int .i64 (if 4 < d then 20 else if 64 < n then 21 else 0)) ∧ Below w.heap.size w w' := by
  by_cases h1 : 4 < d
  · rw [if_pos h1]
    have e1 : decide (4 < (d : Int)) = true := by simp; omega
    go_enter Tryz.func74, Tryz.ntmps74
    go_wp2_with fail
    go_ret
    exact ⟨rfl, by go_grown⟩
  have e1 : decide (4 < (d : Int)) = false := by simp; omega
  rw [if_neg h1]
  by_cases h2 : 64 < n
  · rw [if_pos h2]
    have e2 : decide (64 < n) = true := by simp; omega
    go_enter Tryz.func74, Tryz.ntmps74
    go_wp2_with fail
    go_ret
    exact ⟨rfl, by go_grown⟩
  rw [if_neg h2]
  have e2 : decide (64 < n) = false := by simp; omega
  go_enter Tryz.func74, Tryz.ntmps74
  go_wp2_with fail
  go_ret
  exact ⟨rfl, by go_grown⟩
theorem place1_any (t name : ByteArray) (y : Value) (hy : y = .nilIface ∨ ∃ u z, y = .iface u z) (b : Nat) (w : World) (hb : b < w.heap.size) (hc : w.cell? ⟨b, 0, none⟩ = some (.string name)) :
    Calls Tryz.prog 47 #[.agg #[.string t, y], .pointer (some ⟨b, 0, none⟩)] w fun e w' => e = .returned (.bool (decide (t = name))) ∧ Below w.heap.size w w' := by
  have hne : b ≠ w.heap.size := by omega
  obtain ⟨q, hq, hqd⟩ : ∃ q, (t.toList == name.toList) = q ∧ q = decide (t = name) := by
    by_cases h : t = name
    · exact ⟨_, str_yes h, by rw [decide_eq_true h]⟩
    · exact ⟨_, str_no h, by rw [decide_eq_false h]⟩
  rw [← hqd]
  clear hqd
  rcases hy with rfl | ⟨u, z, rfl⟩
  · go_enter Tryz.func47, Tryz.ntmps47
    go_wp2_with fail
    go_ret
    exact ⟨rfl, by go_grown⟩
  · go_enter Tryz.func47, Tryz.ntmps47
    go_wp2_with fail
    go_ret
    exact ⟨rfl, by go_grown⟩
theorem any_iface {S : Nat → Prop} {w : World} {v : Js} {x : Value} (h : AnyAt S w v x) : x = .nilIface ∨ ∃ u z, x = .iface u z := any_form h
/-- The names of the first n pairs of a row, one of them sought: IndexFunc with place's function. -/
theorem pidx_any (S : Nat → Prop) (a : Option Addr) (n cap : Nat) (l : Jl) (name : ByteArray) (b : Nat) (w : World) (hr : RowP S w a 0 l) (hn : n ≤ l.length) (hcap : n ≤ cap) (hm : cap ≤ maxLen) (hb : b < w.heap.size) (hcb : w.cell? ⟨b, 0, none⟩ = some (.string name)) :
    Calls Tryz.prog 46 #[.slice a n cap, .func (.func 47) #[] #[.pointer (some ⟨b, 0, none⟩)]] w fun e w' => (∃ r, e = .returned (.int .i64 r) ∧ PlR (bI name) (l.names.take n) r) ∧ Below w.heap.size w w' := by
  have HR := Lib.hid hr
  have hml : (n : Int) ≤ 9223372036854775807 := by rw [maxL] at hm; omega
  clear hr
  go_enter Tryz.func46, Tryz.ntmps46
  go_wp2_with fail
  go_loopw [8] (fun s wr => ∃ i : Nat, i ≤ n ∧ s = .int .i64 i ∧ Hid (∀ j, j < i → l.names[j]? ≠ some (bI name)) ∧ Below w.heap.size w wr) (fun s _ => n - (intOf s).toNat)
  case atStart => exact ⟨0, Nat.zero_le _, rfl, Lib.hid (fun j hj => absurd hj (Nat.not_lt_zero _)), Below.refl _ _⟩
  case round =>
    obtain ⟨i, hi, rfl, HM, hbw⟩ := hrel
    by_cases hlt : i < n
    · obtain ⟨nm, v, hat⟩ := Jl.lt_at l i (by omega)
      obtain ⟨g, off, y, t, rfl, _, hg, l0, hbt, _, l1, hav⟩ := RowP.at l 0 i nm v HR.out hat
      rw [Nat.zero_add] at l0 l1
      replace l0 := (hbw.cell hg).trans l0
      replace l1 := (hbw.cell hg).trans l1
      have hi2 : (i : Int) < (n : Int) := by omega
      have HNA := Lib.hid (Jl.names_at l i nm v hat)
      have HBT := Lib.hid hbt
      have hyf := any_iface hav
      have HE := Lib.hid (place1_any t name y hyf b wr (Nat.lt_of_lt_of_le hb hbw.size) ((hbw.cell hb).trans hcb))
      have hy1 := any_one hav
      clear hbt hav hat
      by_cases hp : t = name
      · have HP := Lib.hid hp
        rw [decide_eq_true hp] at HE
        clear hp
        rcases hyf with rfl | ⟨u, z, rfl⟩
        · go_wp2_with fail
          refine HE.out.mono ?_
          rintro e w1 ⟨rfl, hb⟩
          have hbw1 := hbw.trans (hb.mono hbw.size)
          clear hb hbw l0 l1 HE
          go_wp2_with fail
          go_ret
          exact ⟨⟨i, rfl, .inr ⟨i, rfl, by rw [List.getElem?_take_of_lt hlt, HNA.out, ← HBT.out, HP.out], fun j hj e => HM.out j hj (by rwa [List.getElem?_take_of_lt (by omega)] at e)⟩⟩, hbw1⟩
        · go_wp2_with fail
          refine HE.out.mono ?_
          rintro e w1 ⟨rfl, hb⟩
          have hbw1 := hbw.trans (hb.mono hbw.size)
          clear hb hbw l0 l1 HE
          go_wp2_with fail
          go_ret
          exact ⟨⟨i, rfl, .inr ⟨i, rfl, by rw [List.getElem?_take_of_lt hlt, HNA.out, ← HBT.out, HP.out], fun j hj e => HM.out j hj (by rwa [List.getElem?_take_of_lt (by omega)] at e)⟩⟩, hbw1⟩
      · have HP := Lib.hid hp
        rw [decide_eq_false hp] at HE
        clear hp
        have HM2 : Hid (∀ j, j < i + 1 → l.names[j]? ≠ some (bI name)) := Lib.hid (fun j hj e => by
          rcases Nat.lt_or_ge j i with h | h
          · exact HM.out j h e
          · obtain rfl : j = i := by omega
            rw [HNA.out, ← HBT.out] at e
            exact HP.out (bI_inj (by simpa using e)))
        rcases hyf with rfl | ⟨u, z, rfl⟩
        · go_wp2_with fail
          refine HE.out.mono ?_
          rintro e w1 ⟨rfl, hb⟩
          have hbw1 := hbw.trans (hb.mono hbw.size)
          clear hb hbw l0 l1 HE
          go_wp2_with fail
          go_roundw
          case rel => exact ⟨i + 1, by omega, by go_num, HM2, hbw1⟩
          case measure => simp [intOf]; omega
        · go_wp2_with fail
          refine HE.out.mono ?_
          rintro e w1 ⟨rfl, hb⟩
          have hbw1 := hbw.trans (hb.mono hbw.size)
          clear hb hbw l0 l1 HE
          go_wp2_with fail
          go_roundw
          case rel => exact ⟨i + 1, by omega, by go_num, HM2, hbw1⟩
          case measure => simp [intOf]; omega
    · obtain rfl : i = n := by omega
      go_wp2_with fail
      go_ret
      refine ⟨⟨-1, rfl, .inl ⟨rfl, fun hmem => ?_⟩⟩, hbw⟩
      obtain ⟨j, hj⟩ := List.getElem?_of_mem hmem
      have hjl := (List.getElem?_eq_some_iff.1 hj).1
      rw [List.length_take] at hjl
      rw [List.getElem?_take_of_lt (by omega)] at hj
      exact HM.out j (by omega) hj
theorem pplace_any (S : Nat → Prop) (a : Option Addr) (n cap : Nat) (l : Jl) (name : ByteArray) (w : World) (hr : RowP S w a 0 l) (hn : n ≤ l.length) (hcap : n ≤ cap) (hm : cap ≤ maxLen) :
    Calls Tryz.prog 27 #[.slice a n cap, .string name] w fun e w' => (∃ r, e = .returned (.int .i64 r) ∧ PlR (bI name) (l.names.take n) r) ∧ Below w.heap.size w w' := by
  have H := Lib.hid (fun W T (hW : W = w.alloc (.cells #[.string name] T)) => pidx_any S a n cap l name w.heap.size W (by subst hW; exact RowP.keep (fun _ e _ => e) (by simp) (fun b _ h => heap_old17 h) l a 0 hr) hn hcap hm (by subst hW; simp) (by subst hW; rw [World.cell?_alloc_mark]; rfl))
  clear hr
  go_enter Tryz.func27, Tryz.ntmps27
  go_wp2_with fail
  refine (H.out _ _ rfl).mono ?_
  rintro e w1 ⟨⟨r, rfl, hr⟩, hb⟩
  have HR := Lib.hid hr
  have HB := Lib.hid (((Below.refl _ w).alloc (Nat.le_refl _) _).trans (hb.mono (by simp)))
  clear hr hb
  go_wp2_with fail
  go_ret
  exact ⟨⟨r, rfl, HR.out⟩, HB.out⟩
end Go.Proofs.YtbkceneakdbdkaaGreatDoor
/- The program's check. -/
namespace Go.Proofs.YtbkceneakdbdkaaGreatDoor
open Go.RowKit
set_option maxRecDepth 20000
set_option linter.unusedVariables false
set_option linter.unusedSimpArgs false
set_option maxHeartbeats 2000000
def CkOk (v : Js) : Prop := ∀ (S : Nat → Prop) (d : Nat) (w : World) (x : Value), AnyAt S w v x → d ≤ 5 → Calls Tryz.prog 30 #[x, .int .i64 d] w fun e w' => e = .returned (.int .i64 (chkV d v)) ∧ Below w.heap.size w w'
theorem ck_nul : CkOk .nul := by
  intro S d w x h hd
  rw [AnyAt] at h
  subst h
  rw [chkV]
  have a1 := fun W => assert_nil 20 4 _ _ Tryz.underlying4 rfl zBool W
  go_enter Tryz.func30, Tryz.ntmps30
  go_wp2_with fail
  go_ret
  exact ⟨rfl, by go_grown⟩
theorem ck_bool (b : Bool) : CkOk (.bool b) := by
  intro S d w x h hd
  rw [AnyAt] at h
  subst h
  rw [chkV]
  have a1 := fun W => assert_yes 20 4 (.bool b) _ Tryz.underlying4 rfl W
  go_enter Tryz.func30, Tryz.ntmps30
  go_wp2_with fail
  go_ret
  exact ⟨rfl, by go_grown⟩
theorem ck_num (n : Int) : CkOk (.num n) := by
  intro S d w x h hd
  rw [AnyAt] at h
  subst h
  rw [chkV]
  have a1 := fun W => assert_no 20 4 3 (.int .i64 n) _ _ Tryz.underlying4 rfl zBool (by decide) W
  have a2 := fun W => assert_yes 20 3 (.int .i64 n) _ Tryz.underlying3 rfl W
  unfold maxI
  by_cases h1 : n < -9007199254740991
  · rw [if_pos (by omega)]
    have e1 : decide (n < -9007199254740991) = true := by simp; omega
    go_enter Tryz.func30, Tryz.ntmps30
    go_wp2_with fail
    go_ret
    exact ⟨rfl, by go_grown⟩
  have e1 : decide (n < -9007199254740991) = false := by simp; omega
  by_cases h2 : 9007199254740991 < n
  · rw [if_pos (by omega)]
    have e2 : decide (9007199254740991 < n) = true := by simp; omega
    go_enter Tryz.func30, Tryz.ntmps30
    go_wp2_with fail
    go_ret
    exact ⟨rfl, by go_grown⟩
  rw [if_neg (by omega)]
  have e2 : decide (9007199254740991 < n) = false := by simp; omega
  go_enter Tryz.func30, Tryz.ntmps30
  go_wp2_with fail
  go_ret
  exact ⟨rfl, by go_grown⟩
theorem ck_str (s : List Int) : CkOk (.str s) := by
  intro S d w x h hd
  rw [AnyAt] at h
  obtain ⟨t, rfl, rfl, hs⟩ := h
  rw [bI_len] at hs
  rw [chkV]
  have H := Lib.hid (fun W => jvalid_any t W (by omega))
  have a1 := fun W => assert_no 20 4 9 (.string t) _ _ Tryz.underlying4 rfl zBool (by decide) W
  have a2 := fun W => assert_no 20 3 9 (.string t) _ _ Tryz.underlying3 rfl zInt (by decide) W
  have a3 := fun W => assert_yes 20 9 (.string t) _ Tryz.underlying9 rfl W
  by_cases hc : countP (bI t) < 0
  · rw [if_pos hc]
    rw [show decide (0 ≤ countP (bI t)) = false by simp; omega] at H
    go_enter Tryz.func30, Tryz.ntmps30
    go_wp2_with fail
    refine (H.out _).mono ?_
    rintro e w1 ⟨rfl, hb⟩
    go_wp2_with fail
    go_ret
    exact ⟨rfl, hb⟩
  · rw [if_neg hc]
    rw [show decide (0 ≤ countP (bI t)) = true by simp; omega] at H
    go_enter Tryz.func30, Tryz.ntmps30
    go_wp2_with fail
    refine (H.out _).mono ?_
    rintro e w1 ⟨rfl, hb⟩
    go_wp2_with fail
    go_ret
    exact ⟨rfl, hb⟩
theorem ck_bad : CkOk .bad := by
  intro S d w x h hd
  rw [AnyAt] at h
  subst h
  rw [chkV]
  have a1 := fun W => assert_no 20 4 59 (.float .f64 4609434218613702656) _ _ Tryz.underlying4 rfl zBool (by decide) W
  have a2 := fun W => assert_no 20 3 59 (.float .f64 4609434218613702656) _ _ Tryz.underlying3 rfl zInt (by decide) W
  have a3 := fun W => assert_no 20 9 59 (.float .f64 4609434218613702656) _ _ Tryz.underlying9 rfl zStr (by decide) W
  have a4 := fun W => assert_no 20 57 59 (.float .f64 4609434218613702656) _ _ Tryz.underlying57 rfl zLst (by decide) W
  have a5 := fun W => assert_no 20 58 59 (.float .f64 4609434218613702656) _ _ Tryz.underlying58 rfl zPrs (by decide) W
  go_enter Tryz.func30, Tryz.ntmps30
  go_wp2_with fail
  go_ret
  exact ⟨rfl, by go_grown⟩
theorem chkL_gen (d : Nat) (ns ms : List (List Int)) : ∀ l : Jl, chkL false d ns l = chkL false d ms l
  | .nil => by rw [chkL, chkL]
  | .cons n v l => by
    rw [chkL, chkL, chkL_gen d (ns ++ [n]) (ms ++ [n]) l]
    simp
theorem chk_list (d : Nat) (l : Jl) (i : Nat) (n : List Int) (v : Js) (h : l.at? i = some (n, v)) : chkL false d [] (l.drop i) = if chkV (d + 1) v ≠ 0 then chkV (d + 1) v else chkL false d [] (l.drop (i + 1)) := by
  rw [Jl.drop_at l i n v h, chkL, chkL_gen d ([] ++ [n]) []]
  simp
theorem chk_one (d : Nat) (l : Jl) (i : Nat) (n : List Int) (v : Js) (h : l.at? i = some (n, v)) : chkL true d (l.names.take i) (l.drop i) = if countP n < 0 then 4 else if n ∈ l.names.take i then 22 else if chkV (d + 1) v ≠ 0 then chkV (d + 1) v else chkL true d (l.names.take (i + 1)) (l.drop (i + 1)) := by
  rw [Jl.drop_at l i n v h, chkL, List.take_add_one, Jl.names_at l i n v h]
  simp
theorem ret_iw {a b : Int} (h : a = b) : Ending.returned (.int .i64 a) = .returned (.int .i64 b) := by rw [h]
theorem cklist_any (l : Jl) (HK : ∀ i n v, l.at? i = some (n, v) → CkOk v) (S : Nat → Prop) (d : Nat) (w : World) (a : Option Addr) (cap : Nat) (h1 : l.length ≤ cap) (h2 : cap ≤ maxLen) (hr : RowA S w a 0 l) (hd : d ≤ 5) :
    Calls Tryz.prog 52 #[.slice a l.length cap, .int .i64 d] w fun e w' => e = .returned (.int .i64 (chkV d (.arr l))) ∧ Below w.heap.size w w' := by
  obtain ⟨R, hR⟩ : ∃ R, chkV d (.arr l) = R := ⟨_, rfl⟩
  rw [hR]
  rw [chkV] at hR
  have hml : (l.length : Int) ≤ 9223372036854775807 := by rw [maxL] at h2; omega
  have HP := Lib.hid (fun W => psize_any (l.length : Int) d W)
  have HR := Lib.hid hr
  have HK := Lib.hid HK
  clear hr
  obtain ⟨q, hq, hqd⟩ : ∃ q : Int, (if 4 < d then (20 : Int) else if 64 < (l.length : Int) then 21 else 0) = q ∧ (q ≠ 0 → R = q) ∧ (q = 0 → d ≤ 4 ∧ l.length ≤ 64 ∧ R = chkL false d [] l) := by
    refine ⟨_, rfl, ?_⟩
    by_cases c1 : 4 < d
    · rw [if_pos c1] at hR ⊢; exact ⟨fun _ => hR.symm, fun e => by omega⟩
    rw [if_neg c1] at hR ⊢
    by_cases c2 : 64 < l.length
    · rw [if_pos c2] at hR; rw [if_pos (by omega)]; exact ⟨fun _ => hR.symm, fun e => by omega⟩
    · rw [if_neg c2] at hR; rw [if_neg (by omega)]; exact ⟨fun e => absurd rfl e, fun _ => ⟨by omega, by omega, hR.symm⟩⟩
  rw [hq] at HP
  clear hq hR
  by_cases hq0 : q = 0
  · subst hq0
    obtain ⟨hd4, h64, hRR⟩ := hqd.2 rfl
    have HRR := Lib.hid hRR
    clear hqd hRR
    have hwd : IntKind.i64.wrap ((d : Int) + 1) = ((d + 1 : Nat) : Int) := by rw [IntKind.wrap_i64] <;> omega
    go_enter Tryz.func52, Tryz.ntmps52
    go_wp2_with fail
    refine (HP.out _).mono ?_
    rintro e w1 ⟨rfl, hb1⟩
    go_wp2_with fail
    go_loopw [18] (fun z wr => ∃ (i : Nat), i ≤ l.length ∧ z = .int .i64 i ∧ Hid (chkL false d [] (l.drop i) = R) ∧ Below w.heap.size w wr) (fun z _ => l.length - (intOf z).toNat)
    case atStart => exact ⟨0, Nat.zero_le _, rfl, Lib.hid (by rw [Jl.drop_zero]; exact HRR.out.symm), hb1⟩
    case round =>
      obtain ⟨i, hi, rfl, HW, hbw⟩ := hrel
      by_cases hlt : i < l.length
      · have hi2 : (i : Int) < (l.length : Int) := by omega
        obtain ⟨n, v, hat⟩ := Jl.lt_at l i hlt
        obtain ⟨g, off, y, rfl, _, hg, l0, hav⟩ := RowA.at l 0 i n v HR.out hat
        rw [Nat.zero_add] at l0
        replace l0 := (hbw.cell hg).trans l0
        have HC := Lib.hid (fun W (hb : Below w.heap.size w W) => HK.out i n v hat S (d + 1) W y (hav.below hb) (by omega))
        have HST := Lib.hid (chk_list d l i n v hat)
        clear hat hav
        obtain ⟨c, hc⟩ : ∃ c, chkV (d + 1) v = c := ⟨_, rfl⟩
        rw [hc] at HC HST
        clear hc
        have HBW := Lib.hid hbw
        clear hbw
        go_wp2_with fail
        refine (HC.out _ HBW.out).mono ?_
        rintro e w2 ⟨rfl, hb⟩
        have HB2 := Lib.hid (HBW.out.trans (hb.mono HBW.out.size))
        clear hb l0
        by_cases hc0 : c = 0
        · have hcd : (c != 0) = false := by simpa using hc0
          have HC0 := Lib.hid hc0
          clear hc0
          go_wp2_with fail
          go_roundw
          case rel => exact ⟨i + 1, by omega, by go_num, Lib.hid (by rw [← HW.out, HST.out, if_neg (by rw [HC0.out]; simp)]), HB2.out⟩
          case measure => simp [intOf]; omega
        · have hcd : (c != 0) = true := by simpa using hc0
          have HC0 := Lib.hid hc0
          clear hc0
          go_wp2_with fail
          go_ret
          exact ⟨ret_iw (by rw [← HW.out, HST.out, if_pos HC0.out]), HB2.out⟩
      · obtain rfl : i = l.length := by omega
        have hx : R = 0 := by have := HW.out; rw [Jl.drop_len, chkL] at this; exact this.symm
        go_wp2_with fail
        go_ret
        exact ⟨by rw [hx]; rfl, hbw⟩
  · have hcd : (q != 0) = true := by simpa using hq0
    have hRq := hqd.1 hq0
    subst hRq
    clear hqd hq0
    go_enter Tryz.func52, Tryz.ntmps52
    go_wp2_with fail
    refine (HP.out _).mono ?_
    rintro e w1 ⟨rfl, hb1⟩
    go_wp2_with fail
    go_ret
    exact ⟨rfl, hb1⟩
theorem ck_list (l : Jl) (HK : ∀ i n v, l.at? i = some (n, v) → CkOk v) : CkOk (.arr l) := by
  intro S d w x h hd
  rw [AnyAt] at h
  obtain ⟨a, cap, rfl, h1, h2, hr⟩ := h
  have H := Lib.hid (fun W (hb : Below w.heap.size w W) => cklist_any l HK S d W a cap h1 h2 (RowA.keep (fun _ e _ => e) hb.size (fun b _ hl => hb.block b hl) l a 0 hr) hd)
  clear HK hr
  generalize chkV d (.arr l) = R at H
  have a1 := fun W => assert_no 20 4 57 (.slice a l.length cap) _ _ Tryz.underlying4 rfl zBool (by decide) W
  have a2 := fun W => assert_no 20 3 57 (.slice a l.length cap) _ _ Tryz.underlying3 rfl zInt (by decide) W
  have a3 := fun W => assert_no 20 9 57 (.slice a l.length cap) _ _ Tryz.underlying9 rfl zStr (by decide) W
  have a4 := fun W => assert_yes 20 57 (.slice a l.length cap) _ Tryz.underlying57 rfl W
  go_enter Tryz.func30, Tryz.ntmps30
  go_wp2_with fail
  refine (H.out _ (by go_grown)).mono ?_
  rintro e w1 ⟨rfl, hb⟩
  go_wp2_with fail
  go_ret
  exact ⟨rfl, hb⟩
end Go.Proofs.YtbkceneakdbdkaaGreatDoor
/- The program's check: objects. -/
namespace Go.Proofs.YtbkceneakdbdkaaGreatDoor
open Go.RowKit
set_option maxRecDepth 20000
set_option linter.unusedVariables false
set_option linter.unusedSimpArgs false
set_option maxHeartbeats 2000000
theorem keep_pr {w w' w1 : World} {B : Nat} {x y : Value} (hb : Below w'.heap.size w' w1) (h : w'.cell? ⟨B, 0, none⟩ = some x ∧ w'.cell? ⟨B, 1, none⟩ = some y ∧ Below w.heap.size w w' ∧ B < w'.heap.size) :
    w1.cell? ⟨B, 0, none⟩ = some x ∧ w1.cell? ⟨B, 1, none⟩ = some y ∧ Below w.heap.size w w1 ∧ B < w1.heap.size :=
  ⟨(hb.cell h.2.2.2).trans h.1, (hb.cell h.2.2.2).trans h.2.1, h.2.2.1.trans (hb.mono h.2.2.1.size), Nat.lt_of_lt_of_le h.2.2.2 hb.size⟩
theorem ckobj_any (l : Jl) (HK : ∀ i n v, l.at? i = some (n, v) → CkOk v) (S : Nat → Prop) (d : Nat) (w : World) (a : Option Addr) (cap : Nat) (h1 : l.length ≤ cap) (h2 : cap ≤ maxLen) (hr : RowP S w a 0 l) (hd : d ≤ 5) :
    Calls Tryz.prog 53 #[.slice a l.length cap, .int .i64 d] w fun e w' => e = .returned (.int .i64 (chkV d (.obj l))) ∧ Below w.heap.size w w' := by
  obtain ⟨R, hR⟩ : ∃ R, chkV d (.obj l) = R := ⟨_, rfl⟩
  rw [hR]
  rw [chkV] at hR
  have hml : (l.length : Int) ≤ 9223372036854775807 := by rw [maxL] at h2; omega
  have HP := Lib.hid (fun W => psize_any (l.length : Int) d W)
  have HR := Lib.hid hr
  have HK := Lib.hid HK
  clear hr
  obtain ⟨q, hq, hqd⟩ : ∃ q : Int, (if 4 < d then (20 : Int) else if 64 < (l.length : Int) then 21 else 0) = q ∧ (q ≠ 0 → R = q) ∧ (q = 0 → d ≤ 4 ∧ l.length ≤ 64 ∧ R = chkL true d [] l) := by
    refine ⟨_, rfl, ?_⟩
    by_cases c1 : 4 < d
    · rw [if_pos c1] at hR ⊢; exact ⟨fun _ => hR.symm, fun e => by omega⟩
    rw [if_neg c1] at hR ⊢
    by_cases c2 : 64 < l.length
    · rw [if_pos c2] at hR; rw [if_pos (by omega)]; exact ⟨fun _ => hR.symm, fun e => by omega⟩
    · rw [if_neg c2] at hR; rw [if_neg (by omega)]; exact ⟨fun e => absurd rfl e, fun _ => ⟨by omega, by omega, hR.symm⟩⟩
  rw [hq] at HP
  clear hq hR
  by_cases hq0 : q = 0
  · subst hq0
    obtain ⟨hd4, h64, hRR⟩ := hqd.2 rfl
    have HRR := Lib.hid hRR
    clear hqd hRR
    have hwd : IntKind.i64.wrap ((d : Int) + 1) = ((d + 1 : Nat) : Int) := by rw [IntKind.wrap_i64] <;> omega
    go_enter Tryz.func53, Tryz.ntmps53
    go_wp2_with fail
    refine (HP.out _).mono ?_
    rintro e w1 ⟨rfl, hb1⟩
    go_wp2_with fail
    go_loopw [18] (fun z wr => ∃ (i : Nat), i ≤ l.length ∧ z = .int .i64 i ∧ Hid (chkL true d (l.names.take i) (l.drop i) = R) ∧ Below w.heap.size w wr) (fun z _ => l.length - (intOf z).toNat)
    case atStart => exact ⟨0, Nat.zero_le _, rfl, Lib.hid (by rw [Jl.drop_zero]; exact HRR.out.symm), hb1⟩
    case round =>
      obtain ⟨i, hi, rfl, HW, hbw⟩ := hrel
      by_cases hlt : i < l.length
      · have hi2 : (i : Int) < (l.length : Int) := by omega
        have hi3 : (i : Int) ≤ (cap : Int) := by omega
        obtain ⟨n, v, hat⟩ := Jl.lt_at l i hlt
        obtain ⟨g, off, y, t, rfl, _, hg, l0, hbt, hnl, l1, hav⟩ := RowP.at l 0 i n v HR.out hat
        rw [Nat.zero_add] at l0 l1
        replace l0 := (hbw.cell hg).trans l0
        replace l1 := (hbw.cell hg).trans l1
        have HC := Lib.hid (fun W (hb : Below w.heap.size w W) => HK.out i n v hat S (d + 1) W y (hav.below hb) (by omega))
        have HST := Lib.hid (chk_one d l i n v hat)
        have HV := Lib.hid (fun W => jvalid_any t W (by rw [← bI_len, hbt]; omega))
        have HPL := Lib.hid (fun W (hb : Below w.heap.size w W) => pplace_any S (some ⟨g, off, none⟩) i cap l t W (RowP.keep (fun _ e _ => e) hb.size (fun b _ hl => hb.block b hl) l _ 0 HR.out) hi (by omega) h2)
        rw [hbt] at HV HPL
        have hyf := any_iface hav
        clear hat hav hbt hnl
        obtain ⟨c, hc⟩ : ∃ c, chkV (d + 1) v = c := ⟨_, rfl⟩
        rw [hc] at HC HST
        clear hc
        have HBW := Lib.hid hbw
        clear hbw
        rcases hyf with rfl | ⟨u, z, rfl⟩
        · obtain ⟨W0, HW0, hWS⟩ : ∃ W0, Hid (W0 = (wr.alloc (.cells #[.string t, .nilIface] 56))) ∧ (W0.cell? ⟨wr.heap.size, 0, none⟩ = some (.string t) ∧ W0.cell? ⟨wr.heap.size, 1, none⟩ = some (.nilIface) ∧ Below w.heap.size w W0 ∧ wr.heap.size < W0.heap.size) := by
            refine ⟨_, Lib.hid rfl, ?_, ?_, ?_, by simp⟩
            · rw [World.cell?_alloc_mark]; rfl
            · rw [World.cell?_alloc_mark]; rfl
            · exact HBW.out.trans (((Below.refl _ wr).alloc (Nat.le_refl _) _).mono HBW.out.size)
          have HS0 := Lib.hid hWS
          clear hWS
          by_cases hcv : countP n < 0
          · have hcd : decide (0 ≤ countP n) = false := by simp; omega
            have HX := Lib.hid hcv
            rw [hcd] at HV
            clear hcd hcv
            go_wp2_with fail
            rw [← HW0.out]
            refine (HV.out _).mono ?_
            rintro e w2 ⟨rfl, hb⟩
            have HB2 := Lib.hid (HS0.out.2.2.1.trans (hb.mono HS0.out.2.2.1.size))
            clear hb
            go_wp2_with fail
            go_ret
            exact ⟨ret_iw (by rw [← HW.out, HST.out, if_pos HX.out]), HB2.out⟩
          · have hcd : decide (0 ≤ countP n) = true := by simp; omega
            have HST : Hid (R = if n ∈ l.names.take i then 22 else if c ≠ 0 then c else chkL true d (l.names.take (i + 1)) (l.drop (i + 1))) := Lib.hid (by rw [← HW.out, HST.out, if_neg hcv])
            rw [hcd] at HV
            clear hcd hcv
            go_wp2_with fail
            rw [← HW0.out]
            refine (HV.out _).mono ?_
            rintro e w2 ⟨rfl, hb⟩
            have HS1 := keep_pr hb HS0.out
            clear hb
            go_upto_region 9 with fail
            refine wp_region_held_drew (S := fun w' => w'.cell? ⟨wr.heap.size, 0, none⟩ = some (.string t) ∧ w'.cell? ⟨wr.heap.size, 1, none⟩ = some (.nilIface) ∧ Below w.heap.size w w' ∧ wr.heap.size < w'.heap.size) (by kernel_rfl) (keep_pr (Below.drew (Below.refl _ _)) HS1) (fun hH0 => ?_)
            refine takeH (i := 0) (d := 27) (v := ?_) rfl rfl (by kernel_rfl) (by kernel_rfl) (by kernel_rfl) (fun _ _ _ h => h) (Or.inl ⟨by rfl, ?y0⟩) hH0 ?_
            case y0 => intro w hSw; obtain ⟨hq0, hq1, hq2, hq3⟩ := hSw; go_simp; try with_reducible rfl
            try simp only [Act.put, List.setIfInBounds_toArray, List.set_cons_zero, List.set_cons_succ]
            refine takeH (i := 1) (d := 28) (v := ?_) rfl rfl (by kernel_rfl) (by kernel_rfl) (by kernel_rfl) (fun _ _ _ h => h) (Or.inl ⟨by rfl, ?y1⟩) hH0 ?_
            case y1 => intro w hSw; obtain ⟨hq0, hq1, hq2, hq3⟩ := hSw; go_simp; try with_reducible rfl
            try simp only [Act.put, List.setIfInBounds_toArray, List.set_cons_zero, List.set_cons_succ]
            refine takeH (i := 2) (d := 29) (v := ?_) rfl rfl (by kernel_rfl) (by kernel_rfl) (by kernel_rfl) (fun _ _ _ h => h) (Or.inl ⟨by rfl, ?y2⟩) hH0 ?_
            case y2 => intro w hSw; obtain ⟨hq0, hq1, hq2, hq3⟩ := hSw; go_simp; try with_reducible rfl
            try simp only [Act.put, List.setIfInBounds_toArray, List.set_cons_zero, List.set_cons_succ]
            refine takeH (i := 3) (d := 30) (v := ?_) rfl rfl (by kernel_rfl) (by kernel_rfl) (by kernel_rfl) (fun _ _ _ h => h) (Or.inl ⟨by rfl, ?y3⟩) hH0 ?_
            case y3 => intro w hSw; obtain ⟨hq0, hq1, hq2, hq3⟩ := hSw; go_simp; try with_reducible rfl
            try simp only [Act.put, List.setIfInBounds_toArray, List.set_cons_zero, List.set_cons_succ]
            refine takeH (i := 4) (d := 31) (v := ?_) rfl rfl (by kernel_rfl) (by kernel_rfl) (by kernel_rfl) (fun _ _ _ h => h) (Or.inl ⟨by rfl, ?y4⟩) hH0 ?_
            case y4 => intro w hSw; obtain ⟨hq0, hq1, hq2, hq3⟩ := hSw; go_simp; try with_reducible rfl
            try simp only [Act.put, List.setIfInBounds_toArray, List.set_cons_zero, List.set_cons_succ]
            refine wpAnyH_ready (rs := [5]) (by kernel_rfl) (by simp) ?_
            refine AllReadyH.cons rfl (fun K hK => ?_) AllReadyH.nil
            go_simp
            refine (HPL.out _ hH0.2.2.1).mono ?_
            rintro e w' ⟨⟨r, rfl, hpr⟩, hb⟩
            have HPR := Lib.hid hpr
            clear hpr
            have hdr : ∀ x : Int, (x ≥ 0) = (0 ≤ x) := fun _ => rfl
            go_wp2_with fail
            refine hK.out _ _ (keep_pr hb hH0) (fun hH1 => ?_)
            clear hK K hb hH0
            try simp only [Act.put, List.setIfInBounds_toArray, List.set_cons_zero, List.set_cons_succ]
            refine takeH (i := 6) (d := 33) (v := ?_) rfl rfl (by kernel_rfl) (by kernel_rfl) (by kernel_rfl) (fun _ _ _ h => h) (Or.inl ⟨by rfl, ?y6⟩) hH1 ?_
            case y6 => intro w hSw; obtain ⟨hq0, hq1, hq2, hq3⟩ := hSw; go_simp; try with_reducible rfl
            try simp only [Act.put, List.setIfInBounds_toArray, List.set_cons_zero, List.set_cons_succ]
            refine wpAnyH_done (by kernel_rfl) ?_ _
            by_cases hr0 : 0 ≤ r
            · have hrd : decide (0 ≤ r) = true := by simpa using hr0
              have HRM := Lib.hid (HPR.out.neg.1 hr0)
              go_wp2_with fail
              go_ret
              exact ⟨ret_iw (by rw [HST.out, if_pos HRM.out]), hH1.2.2.1⟩
            have hrd : decide (0 ≤ r) = false := by simpa using hr0
            have HST : Hid (R = if c ≠ 0 then c else chkL true d (l.names.take (i + 1)) (l.drop (i + 1))) := Lib.hid (by rw [HST.out, if_neg (fun e => hr0 (HPR.out.neg.2 e))])
            replace hr0 : r < 0 := by omega
            have HS2 := Lib.hid hH1
            obtain ⟨p0, p1, hbq, hszq⟩ := hH1
            have HBQ := Lib.hid hbq
            clear hbq
            go_wp2_with fail
            refine (HC.out _ HBQ.out).mono ?_
            rintro e w3 ⟨rfl, hb⟩
            have HB3 := Lib.hid (HBQ.out.trans (hb.mono HBQ.out.size))
            clear hb p0 p1
            by_cases hc0 : c = 0
            · have hcd : (c != 0) = false := by simpa using hc0
              have HC0 := Lib.hid hc0
              clear hc0
              go_wp2_with fail
              go_roundw
              case rel => exact ⟨i + 1, by omega, by go_num, Lib.hid (by rw [HST.out, if_neg (by rw [HC0.out]; simp)]), HB3.out⟩
              case measure => simp [intOf]; omega
            · have hcd : (c != 0) = true := by simpa using hc0
              have HC0 := Lib.hid hc0
              clear hc0
              go_wp2_with fail
              go_ret
              exact ⟨ret_iw (by rw [HST.out, if_pos HC0.out]), HB3.out⟩
        · obtain ⟨W0, HW0, hWS⟩ : ∃ W0, Hid (W0 = (wr.alloc (.cells #[.string t, .iface u z] 56))) ∧ (W0.cell? ⟨wr.heap.size, 0, none⟩ = some (.string t) ∧ W0.cell? ⟨wr.heap.size, 1, none⟩ = some (.iface u z) ∧ Below w.heap.size w W0 ∧ wr.heap.size < W0.heap.size) := by
            refine ⟨_, Lib.hid rfl, ?_, ?_, ?_, by simp⟩
            · rw [World.cell?_alloc_mark]; rfl
            · rw [World.cell?_alloc_mark]; rfl
            · exact HBW.out.trans (((Below.refl _ wr).alloc (Nat.le_refl _) _).mono HBW.out.size)
          have HS0 := Lib.hid hWS
          clear hWS
          by_cases hcv : countP n < 0
          · have hcd : decide (0 ≤ countP n) = false := by simp; omega
            have HX := Lib.hid hcv
            rw [hcd] at HV
            clear hcd hcv
            go_wp2_with fail
            rw [← HW0.out]
            refine (HV.out _).mono ?_
            rintro e w2 ⟨rfl, hb⟩
            have HB2 := Lib.hid (HS0.out.2.2.1.trans (hb.mono HS0.out.2.2.1.size))
            clear hb
            go_wp2_with fail
            go_ret
            exact ⟨ret_iw (by rw [← HW.out, HST.out, if_pos HX.out]), HB2.out⟩
          · have hcd : decide (0 ≤ countP n) = true := by simp; omega
            have HST : Hid (R = if n ∈ l.names.take i then 22 else if c ≠ 0 then c else chkL true d (l.names.take (i + 1)) (l.drop (i + 1))) := Lib.hid (by rw [← HW.out, HST.out, if_neg hcv])
            rw [hcd] at HV
            clear hcd hcv
            go_wp2_with fail
            rw [← HW0.out]
            refine (HV.out _).mono ?_
            rintro e w2 ⟨rfl, hb⟩
            have HS1 := keep_pr hb HS0.out
            clear hb
            go_upto_region 9 with fail
            refine wp_region_held_drew (S := fun w' => w'.cell? ⟨wr.heap.size, 0, none⟩ = some (.string t) ∧ w'.cell? ⟨wr.heap.size, 1, none⟩ = some (.iface u z) ∧ Below w.heap.size w w' ∧ wr.heap.size < w'.heap.size) (by kernel_rfl) (keep_pr (Below.drew (Below.refl _ _)) HS1) (fun hH0 => ?_)
            refine takeH (i := 0) (d := 27) (v := ?_) rfl rfl (by kernel_rfl) (by kernel_rfl) (by kernel_rfl) (fun _ _ _ h => h) (Or.inl ⟨by rfl, ?y0⟩) hH0 ?_
            case y0 => intro w hSw; obtain ⟨hq0, hq1, hq2, hq3⟩ := hSw; go_simp; try with_reducible rfl
            try simp only [Act.put, List.setIfInBounds_toArray, List.set_cons_zero, List.set_cons_succ]
            refine takeH (i := 1) (d := 28) (v := ?_) rfl rfl (by kernel_rfl) (by kernel_rfl) (by kernel_rfl) (fun _ _ _ h => h) (Or.inl ⟨by rfl, ?y1⟩) hH0 ?_
            case y1 => intro w hSw; obtain ⟨hq0, hq1, hq2, hq3⟩ := hSw; go_simp; try with_reducible rfl
            try simp only [Act.put, List.setIfInBounds_toArray, List.set_cons_zero, List.set_cons_succ]
            refine takeH (i := 2) (d := 29) (v := ?_) rfl rfl (by kernel_rfl) (by kernel_rfl) (by kernel_rfl) (fun _ _ _ h => h) (Or.inl ⟨by rfl, ?y2⟩) hH0 ?_
            case y2 => intro w hSw; obtain ⟨hq0, hq1, hq2, hq3⟩ := hSw; go_simp; try with_reducible rfl
            try simp only [Act.put, List.setIfInBounds_toArray, List.set_cons_zero, List.set_cons_succ]
            refine takeH (i := 3) (d := 30) (v := ?_) rfl rfl (by kernel_rfl) (by kernel_rfl) (by kernel_rfl) (fun _ _ _ h => h) (Or.inl ⟨by rfl, ?y3⟩) hH0 ?_
            case y3 => intro w hSw; obtain ⟨hq0, hq1, hq2, hq3⟩ := hSw; go_simp; try with_reducible rfl
            try simp only [Act.put, List.setIfInBounds_toArray, List.set_cons_zero, List.set_cons_succ]
            refine takeH (i := 4) (d := 31) (v := ?_) rfl rfl (by kernel_rfl) (by kernel_rfl) (by kernel_rfl) (fun _ _ _ h => h) (Or.inl ⟨by rfl, ?y4⟩) hH0 ?_
            case y4 => intro w hSw; obtain ⟨hq0, hq1, hq2, hq3⟩ := hSw; go_simp; try with_reducible rfl
            try simp only [Act.put, List.setIfInBounds_toArray, List.set_cons_zero, List.set_cons_succ]
            refine wpAnyH_ready (rs := [5]) (by kernel_rfl) (by simp) ?_
            refine AllReadyH.cons rfl (fun K hK => ?_) AllReadyH.nil
            go_simp
            refine (HPL.out _ hH0.2.2.1).mono ?_
            rintro e w' ⟨⟨r, rfl, hpr⟩, hb⟩
            have HPR := Lib.hid hpr
            clear hpr
            have hdr : ∀ x : Int, (x ≥ 0) = (0 ≤ x) := fun _ => rfl
            go_wp2_with fail
            refine hK.out _ _ (keep_pr hb hH0) (fun hH1 => ?_)
            clear hK K hb hH0
            try simp only [Act.put, List.setIfInBounds_toArray, List.set_cons_zero, List.set_cons_succ]
            refine takeH (i := 6) (d := 33) (v := ?_) rfl rfl (by kernel_rfl) (by kernel_rfl) (by kernel_rfl) (fun _ _ _ h => h) (Or.inl ⟨by rfl, ?y6⟩) hH1 ?_
            case y6 => intro w hSw; obtain ⟨hq0, hq1, hq2, hq3⟩ := hSw; go_simp; try with_reducible rfl
            try simp only [Act.put, List.setIfInBounds_toArray, List.set_cons_zero, List.set_cons_succ]
            refine wpAnyH_done (by kernel_rfl) ?_ _
            by_cases hr0 : 0 ≤ r
            · have hrd : decide (0 ≤ r) = true := by simpa using hr0
              have HRM := Lib.hid (HPR.out.neg.1 hr0)
              go_wp2_with fail
              go_ret
              exact ⟨ret_iw (by rw [HST.out, if_pos HRM.out]), hH1.2.2.1⟩
            have hrd : decide (0 ≤ r) = false := by simpa using hr0
            have HST : Hid (R = if c ≠ 0 then c else chkL true d (l.names.take (i + 1)) (l.drop (i + 1))) := Lib.hid (by rw [HST.out, if_neg (fun e => hr0 (HPR.out.neg.2 e))])
            replace hr0 : r < 0 := by omega
            have HS2 := Lib.hid hH1
            obtain ⟨p0, p1, hbq, hszq⟩ := hH1
            have HBQ := Lib.hid hbq
            clear hbq
            go_wp2_with fail
            refine (HC.out _ HBQ.out).mono ?_
            rintro e w3 ⟨rfl, hb⟩
            have HB3 := Lib.hid (HBQ.out.trans (hb.mono HBQ.out.size))
            clear hb p0 p1
            by_cases hc0 : c = 0
            · have hcd : (c != 0) = false := by simpa using hc0
              have HC0 := Lib.hid hc0
              clear hc0
              go_wp2_with fail
              go_roundw
              case rel => exact ⟨i + 1, by omega, by go_num, Lib.hid (by rw [HST.out, if_neg (by rw [HC0.out]; simp)]), HB3.out⟩
              case measure => simp [intOf]; omega
            · have hcd : (c != 0) = true := by simpa using hc0
              have HC0 := Lib.hid hc0
              clear hc0
              go_wp2_with fail
              go_ret
              exact ⟨ret_iw (by rw [HST.out, if_pos HC0.out]), HB3.out⟩
      · obtain rfl : i = l.length := by omega
        have hx : R = 0 := by have := HW.out; rw [Jl.drop_len, chkL] at this; exact this.symm
        go_wp2_with fail
        go_ret
        exact ⟨by rw [hx]; rfl, hbw⟩
  · have hcd : (q != 0) = true := by simpa using hq0
    have hRq := hqd.1 hq0
    subst hRq
    clear hqd hq0
    go_enter Tryz.func53, Tryz.ntmps53
    go_wp2_with fail
    refine (HP.out _).mono ?_
    rintro e w1 ⟨rfl, hb1⟩
    go_wp2_with fail
    go_ret
    exact ⟨rfl, hb1⟩
theorem ck_obj (l : Jl) (HK : ∀ i n v, l.at? i = some (n, v) → CkOk v) : CkOk (.obj l) := by
  intro S d w x h hd
  rw [AnyAt] at h
  obtain ⟨a, cap, rfl, h1, h2, hr⟩ := h
  have H := Lib.hid (fun W (hb : Below w.heap.size w W) => ckobj_any l HK S d W a cap h1 h2 (RowP.keep (fun _ e _ => e) hb.size (fun b _ hl => hb.block b hl) l a 0 hr) hd)
  clear HK hr
  generalize chkV d (.obj l) = R at H
  have a1 := fun W => assert_no 20 4 58 (.slice a l.length cap) _ _ Tryz.underlying4 rfl zBool (by decide) W
  have a2 := fun W => assert_no 20 3 58 (.slice a l.length cap) _ _ Tryz.underlying3 rfl zInt (by decide) W
  have a3 := fun W => assert_no 20 9 58 (.slice a l.length cap) _ _ Tryz.underlying9 rfl zStr (by decide) W
  have a4 := fun W => assert_no 20 57 58 (.slice a l.length cap) _ _ Tryz.underlying57 rfl zLst (by decide) W
  have a5 := fun W => assert_yes 20 58 (.slice a l.length cap) _ Tryz.underlying58 rfl W
  go_enter Tryz.func30, Tryz.ntmps30
  go_wp2_with fail
  refine (H.out _ (by go_grown)).mono ?_
  rintro e w1 ⟨rfl, hb⟩
  go_wp2_with fail
  go_ret
  exact ⟨rfl, hb⟩
theorem ck_any : ∀ v : Js, CkOk v := Js.ind ck_nul ck_bool ck_num ck_str ck_list ck_obj ck_bad
theorem pcheck_any (S : Nat → Prop) (v : Js) (x : Value) (w : World) (h : AnyAt S w v x) : Calls Tryz.prog 14 #[x] w fun e w' => e = .returned (.int .i64 (chkV 1 v)) ∧ Below w.heap.size w w' := by
  have H := Lib.hid (fun W (hb : Below w.heap.size w W) => ck_any v S 1 W x (h.below hb) (by omega))
  clear h
  generalize chkV 1 v = R at H
  go_enter Tryz.func14, Tryz.ntmps14
  go_wp2_with fail
  refine (H.out _ (by go_grown)).mono ?_
  rintro e w1 ⟨rfl, hb⟩
  go_wp2_with fail
  go_ret
  exact ⟨rfl, hb⟩
end Go.Proofs.YtbkceneakdbdkaaGreatDoor
