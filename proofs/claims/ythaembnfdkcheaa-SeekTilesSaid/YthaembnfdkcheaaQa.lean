/- Contracts of the program's isPointer, first, lastUpTo, Place and Leaves. -/
import Derived.Test.YthaembnfdkcheaaMS
import Derived.Test.YthaembnfdkcheaaPc
namespace Go.Proofs.Ythaembnfdkcheaa
open Go.RowKit
set_option linter.unusedVariables false
set_option linter.unusedSimpArgs false
theorem qptr_any (e : En) (w : World) : Calls Try.prog 21 #[.agg (eC e)] w fun x w' => x = .returned (.bool (decide (e.rn = 0))) ∧ Below w.heap.size w w' := by
  obtain ⟨i, o, l, r⟩ := e
  unfold eC
  dsimp only
  have hd : (r == 0) = decide (r = 0) := by rw [Bool.eq_iff_iff]; simp
  go_enter Try.func21, Try.ntmps21
  go_wp2_with fail
  go_ret
  exact ⟨ret_b (by first | exact hd | rfl | simp), by go_grown⟩
theorem qfirst_any (e : En) (w : World) : Calls Try.prog 24 #[.agg (eC e)] w fun x w' => x = .returned (.int .u64 e.id) ∧ Below w.heap.size w w' := by
  obtain ⟨i, o, l, r⟩ := e
  unfold eC
  dsimp only
  go_enter Try.func24, Try.ntmps24
  go_wp2_with fail
  go_ret
  exact ⟨rfl, by go_grown⟩
set_option maxRecDepth 20000 in
set_option maxHeartbeats 1000000 in
theorem qlast_any (v : Value) (l : List En) (q : Int) (w : World) (hv : EnsAt w v l) (hm : MaysN l) (hr : rowN l = 0) : Calls Try.prog 23 #[v, .func (.func 24) #[] #[], .int .u64 q] w fun x w' => x = .returned (.int .i64 (placeN l q)) ∧ Below w.heap.size w w' := by
  have HF := Lib.hid (fun e W => qfirst_any e W)
  obtain ⟨p0, p1, p2⟩ := place_spec hm hr q
  have hl4 := (row_G hr).2
  obtain ⟨al, cap, rfl, hcap, hmx, hc⟩ := hv
  have HC := Lib.hid hc
  obtain ⟨p, hp⟩ : ∃ p, placeN l q = p := ⟨_, rfl⟩
  rw [hp] at p0 p1 p2 ⊢
  have HP := Lib.hid p2
  obtain ⟨r, hr⟩ : ∃ r : Nat, p = (r : Int) - 1 := ⟨(p + 1).toNat, by omega⟩
  subst hr
  clear hc hp p2
  go_enter Try.func23, Try.ntmps23
  go_wp2_with fail
  go_loopw [7, 8] (fun x y wr => ∃ a b : Nat, a ≤ r ∧ r ≤ b ∧ b ≤ l.length ∧ x = .int .i64 a ∧ y = .int .i64 b ∧ Below w.heap.size w wr) (fun x y _ => (intOf y).toNat - (intOf x).toNat)
  case atStart => exact ⟨0, l.length, Nat.zero_le _, by omega, Nat.le_refl _, rfl, rfl, Below.refl _ _⟩
  case round =>
    obtain ⟨a, b, h1, h2, h3, rfl, rfl, hbw⟩ := hrel
    by_cases hlt : a < b
    · obtain ⟨d, hd0⟩ : ∃ d : Nat, d = (b - a) / 2 := ⟨_, rfl⟩
      have hm2 : a + d < b := by omega
      obtain ⟨e, he⟩ : ∃ t, l[a + d]? = some t := ⟨_, List.getElem?_eq_getElem (by omega)⟩
      obtain ⟨g, off, rfl, hg, l0, l1, l2, l3⟩ := HC.out (a + d) e he
      have k0 := (hbw.cell (p := ⟨g, off + (a + d) * 4, none⟩) hg).trans l0
      have k1 := (hbw.cell (p := ⟨g, off + (a + d) * 4 + 1, none⟩) hg).trans l1
      have k2 := (hbw.cell (p := ⟨g, off + (a + d) * 4 + 2, none⟩) hg).trans l2
      have k3 := (hbw.cell (p := ⟨g, off + (a + d) * 4 + 3, none⟩) hg).trans l3
      have hi0 : (a : Int) < (b : Int) := by omega
      have hi2 : (a : Int) + (d : Int) < (l.length : Int) := by omega
      have hw1 : IntKind.i64.wrap ((b : Int) - (a : Int)) = ((b - a : Nat) : Int) := by rw [IntKind.wrap_i64] <;> omega
      have hP := HP.out (a + d) (by omega)
      rw [gS_at he] at hP
      have HE := Lib.hid (HF.out e)
      unfold eC at HE
      clear he l0 l1 l2 l3
      subst hd0
      have hi2' : (a : Int) + ((b - a : Nat) : Int) / 2 < (l.length : Int) := by omega
      by_cases hq : e.id ≤ q
      · have hd : decide (e.id ≤ q) = true := by simpa using hq
        have hq' : a + (b - a) / 2 + 1 ≤ r := by have := hP.1 hq; omega
        clear hq hP
        go_wp2_with fail
        refine (HE.out _).mono ?_
        rintro x w1 ⟨rfl, hb⟩
        have HB := Lib.hid (hbw.trans (hb.mono hbw.size))
        clear hb hbw k0 k1 k2 k3
        go_wp2_with fail
        go_roundw
        case rel => exact ⟨a + (b - a) / 2 + 1, b, hq', h2, h3, by go_num, rfl, HB.out⟩
        case measure => simp [intOf]; omega
      · have hd : decide (e.id ≤ q) = false := by simpa using hq
        have hq' : r ≤ a + (b - a) / 2 := by
          rcases Nat.lt_or_ge (a + (b - a) / 2) r with h | h
          · exact absurd (hP.2 (by omega)) hq
          · exact h
        clear hq hP
        go_wp2_with fail
        refine (HE.out _).mono ?_
        rintro x w1 ⟨rfl, hb⟩
        have HB := Lib.hid (hbw.trans (hb.mono hbw.size))
        clear hb hbw k0 k1 k2 k3
        go_wp2_with fail
        go_roundw
        case rel => exact ⟨a, a + (b - a) / 2, h1, hq', by omega, rfl, by go_num, HB.out⟩
        case measure => simp [intOf]; omega
    · obtain rfl : a = r := by omega
      have hlt' : ¬ (a : Int) < (b : Int) := by omega
      go_wp2_with fail
      go_ret
      exact ⟨ret_i64 (by omega), hbw⟩
set_option maxRecDepth 20000 in
theorem pplace_any (v : Value) (l : List En) (q : Int) (w : World) (hv : EnsAt w v l) (hm : MaysN l) (hl : l.length ≤ 6000000000000) (q0 : 0 ≤ q) (q1 : q ≤ 18446744073709551615) : Calls Try.prog 11 #[v, .int .u64 q] w fun x w' => x = .returned (.int .i64 (placeN l q)) ∧ Below w.heap.size w w' := by
  have HR := Lib.hid (prow_any v l w hv hm)
  by_cases h : rowN l = 0
  · have HL := Lib.hid (fun W (hb : Below w.heap.size w W) => qlast_any v l q W (hv.below hb) hm h)
    obtain ⟨al, cap, rfl, hcap, hmx, hc⟩ := hv
    obtain ⟨p, hp⟩ : ∃ p, placeN l q = p := ⟨_, rfl⟩
    rw [hp] at HL ⊢
    rw [h] at HR
    clear h hp hc
    go_enter Try.func11, Try.ntmps11
    go_wp2_with fail
    refine HR.out.mono ?_
    rintro y w1 ⟨rfl, hb⟩
    have HB := Lib.hid hb
    clear hb HR
    go_wp2_with fail
    refine (HL.out _ HB.out).mono ?_
    rintro y w2 ⟨rfl, hb⟩
    have HB2 := Lib.hid (HB.out.trans (hb.mono HB.out.size))
    clear hb
    go_wp2_with fail
    go_ret
    exact ⟨rfl, HB2.out⟩
  · obtain ⟨al, cap, rfl, hcap, hmx, hc⟩ := hv
    obtain ⟨r, hr⟩ : ∃ r, rowN l = r := ⟨_, rfl⟩
    have HP : Hid (placeN l q = -1) := Lib.hid (by unfold placeN; rw [if_neg h])
    rw [hr] at HR h
    have hne : (r != 0) = true := by simpa using h
    clear hr h hc
    go_enter Try.func11, Try.ntmps11
    go_wp2_with fail
    refine HR.out.mono ?_
    rintro y w1 ⟨rfl, hb⟩
    have HB := Lib.hid hb
    clear hb HR
    go_wp2_with fail
    go_ret
    exact ⟨ret_i64 HP.out.symm, HB.out⟩
end Go.Proofs.Ythaembnfdkcheaa
