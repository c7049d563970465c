/- Several texts, one behind the other: Qa, Qb, Qc. -/
import Derived.Test.YtbkodaijigcebaaMS
import Derived.Test.YtbkodaijigcebaaMQ
/- Contracts of the program's isPointer, first, lastUpTo, Place and Leaves. -/
namespace Go.Proofs.Ytbkodaijigcebaa
open Go.RowKit
set_option maxRecDepth 20000
set_option linter.unusedVariables false
set_option linter.unusedSimpArgs false
theorem qptr_any (e : En) (w : World) : Calls Try.prog 38 #[.agg (eC e)] w fun x w' => x = .returned (.bool (decide (e.rn = 0))) ∧ Below w.heap.size w w' := by
  obtain ⟨i, o, l, r⟩ := e
  unfold eC
  dsimp only
  have hd : (r == 0) = decide (r = 0) := by rw [Bool.eq_iff_iff]; simp
  go_enter Try.func38, Try.ntmps38
  go_wp2_with fail
  go_ret
  exact ⟨ret_b (by first | exact hd | rfl | simp), by go_grown⟩
theorem qfirst_any (e : En) (w : World) : Calls Try.prog 69 #[.agg (eC e)] w fun x w' => x = .returned (.int .u64 e.id) ∧ Below w.heap.size w w' := by
  obtain ⟨i, o, l, r⟩ := e
  unfold eC
  dsimp only
  go_enter Try.func69, Try.ntmps69
  go_wp2_with fail
  go_ret
  exact ⟨rfl, by go_grown⟩
set_option maxRecDepth 20000 in
set_option maxHeartbeats 1000000 in
theorem qlast_any (v : Value) (l : List En) (q : Int) (w : World) (hv : EnsAt w v l) (hm : MaysN l) (hr : rowN l = 0) : Calls Try.prog 68 #[v, .func (.func 69) #[] #[], .int .u64 q] w fun x w' => x = .returned (.int .i64 (placeN l q)) ∧ Below w.heap.size w w' := by
  have HF := Lib.hid (fun e W => qfirst_any e W)
  obtain ⟨p0, p1, p2⟩ := place_spec hm hr q
  have hl4 := (row_G hr).2
  obtain ⟨al, cap, rfl, hcap, hmx, hc⟩ := hv
  have HC := Lib.hid hc
  obtain ⟨p, hp⟩ : ∃ p, placeN l q = p := ⟨_, rfl⟩
  rw [hp] at p0 p1 p2 ⊢
  have HP := Lib.hid p2
  obtain ⟨r, hr⟩ : ∃ r : Nat, p = (r : Int) - 1 := ⟨(p + 1).toNat, by omega⟩
  subst hr
  clear hc hp p2
  go_enter Try.func68, Try.ntmps68
  go_wp2_with fail
  go_loopw [7, 8] (fun x y wr => ∃ a b : Nat, a ≤ r ∧ r ≤ b ∧ b ≤ l.length ∧ x = .int .i64 a ∧ y = .int .i64 b ∧ Below w.heap.size w wr) (fun x y _ => (intOf y).toNat - (intOf x).toNat)
  case atStart => exact ⟨0, l.length, Nat.zero_le _, by omega, Nat.le_refl _, rfl, rfl, Below.refl _ _⟩
  case round =>
    obtain ⟨a, b, h1, h2, h3, rfl, rfl, hbw⟩ := hrel
    by_cases hlt : a < b
    · obtain ⟨d, hd0⟩ : ∃ d : Nat, d = (b - a) / 2 := ⟨_, rfl⟩
      have hm2 : a + d < b := by omega
      obtain ⟨e, he⟩ : ∃ t, l[a + d]? = some t := ⟨_, List.getElem?_eq_getElem (by omega)⟩
      obtain ⟨g, off, rfl, hg, l0, l1, l2, l3⟩ := HC.out (a + d) e he
      have k0 := (hbw.cell (p := ⟨g, off + (a + d) * 4, none⟩) hg).trans l0
      have k1 := (hbw.cell (p := ⟨g, off + (a + d) * 4 + 1, none⟩) hg).trans l1
      have k2 := (hbw.cell (p := ⟨g, off + (a + d) * 4 + 2, none⟩) hg).trans l2
      have k3 := (hbw.cell (p := ⟨g, off + (a + d) * 4 + 3, none⟩) hg).trans l3
      have hi0 : (a : Int) < (b : Int) := by omega
      have hi2 : (a : Int) + (d : Int) < (l.length : Int) := by omega
      have hw1 : IntKind.i64.wrap ((b : Int) - (a : Int)) = ((b - a : Nat) : Int) := by rw [IntKind.wrap_i64] <;> omega
      have hP := HP.out (a + d) (by omega)
      rw [gS_at he] at hP
      have HE := Lib.hid (HF.out e)
      unfold eC at HE
      clear he l0 l1 l2 l3
      subst hd0
      have hi2' : (a : Int) + ((b - a : Nat) : Int) / 2 < (l.length : Int) := by omega
      by_cases hq : e.id ≤ q
      · have hd : decide (e.id ≤ q) = true := by simpa using hq
        have hq' : a + (b - a) / 2 + 1 ≤ r := by have := hP.1 hq; omega
        clear hq hP
        go_wp2_with fail
        refine (HE.out _).mono ?_
        rintro x w1 ⟨rfl, hb⟩
        have HB := Lib.hid (hbw.trans (hb.mono hbw.size))
        clear hb hbw k0 k1 k2 k3
        go_wp2_with fail
        go_roundw
        case rel => exact ⟨a + (b - a) / 2 + 1, b, hq', h2, h3, by go_num, rfl, HB.out⟩
        case measure => simp [intOf]; omega
      · have hd : decide (e.id ≤ q) = false := by simpa using hq
        have hq' : r ≤ a + (b - a) / 2 := by
          rcases Nat.lt_or_ge (a + (b - a) / 2) r with h | h
          · exact absurd (hP.2 (by omega)) hq
          · exact h
        clear hq hP
        go_wp2_with fail
        refine (HE.out _).mono ?_
        rintro x w1 ⟨rfl, hb⟩
        have HB := Lib.hid (hbw.trans (hb.mono hbw.size))
        clear hb hbw k0 k1 k2 k3
        go_wp2_with fail
        go_roundw
        case rel => exact ⟨a, a + (b - a) / 2, h1, hq', by omega, rfl, by go_num, HB.out⟩
        case measure => simp [intOf]; omega
    · obtain rfl : a = r := by omega
      have hlt' : ¬ (a : Int) < (b : Int) := by omega
      go_wp2_with fail
      go_ret
      exact ⟨ret_i64 (by omega), hbw⟩
set_option maxRecDepth 20000 in
theorem pplace_any (v : Value) (l : List En) (q : Int) (w : World) (hv : EnsAt w v l) (hm : MaysN l) (hl : l.length ≤ 6000000000000) (q0 : 0 ≤ q) (q1 : q ≤ 18446744073709551615) : Calls Try.prog 40 #[v, .int .u64 q] w fun x w' => x = .returned (.int .i64 (placeN l q)) ∧ Below w.heap.size w w' := by
  have HR := Lib.hid (prow_any v l w hv hm)
  by_cases h : rowN l = 0
  · have HL := Lib.hid (fun W (hb : Below w.heap.size w W) => qlast_any v l q W (hv.below hb) hm h)
    obtain ⟨al, cap, rfl, hcap, hmx, hc⟩ := hv
    obtain ⟨p, hp⟩ : ∃ p, placeN l q = p := ⟨_, rfl⟩
    rw [hp] at HL ⊢
    rw [h] at HR
    clear h hp hc
    go_enter Try.func40, Try.ntmps40
    go_wp2_with fail
    refine HR.out.mono ?_
    rintro y w1 ⟨rfl, hb⟩
    have HB := Lib.hid hb
    clear hb HR
    go_wp2_with fail
    refine (HL.out _ HB.out).mono ?_
    rintro y w2 ⟨rfl, hb⟩
    have HB2 := Lib.hid (HB.out.trans (hb.mono HB.out.size))
    clear hb
    go_wp2_with fail
    go_ret
    exact ⟨rfl, HB2.out⟩
  · obtain ⟨al, cap, rfl, hcap, hmx, hc⟩ := hv
    obtain ⟨r, hr⟩ : ∃ r, rowN l = r := ⟨_, rfl⟩
    have HP : Hid (placeN l q = -1) := Lib.hid (by unfold placeN; rw [if_neg h])
    rw [hr] at HR h
    have hne : (r != 0) = true := by simpa using h
    clear hr h hc
    go_enter Try.func40, Try.ntmps40
    go_wp2_with fail
    refine HR.out.mono ?_
    rintro y w1 ⟨rfl, hb⟩
    have HB := Lib.hid hb
    clear hb HR
    go_wp2_with fail
    go_ret
    exact ⟨ret_i64 HP.out.symm, HB.out⟩
end Go.Proofs.Ytbkodaijigcebaa
/- The contract of the program's Leaves. -/
namespace Go.Proofs.Ytbkodaijigcebaa
open Go.RowKit
set_option maxRecDepth 20000
set_option linter.unusedVariables false
set_option linter.unusedSimpArgs false
theorem info_pv : (Try.prog.info? 52).map (fun i => (i.zero, i.size, i.bytes)) = some (some (.agg #[.int .u64 0, .int .u64 0, .int .u32 0, .int .u32 0]), 4, 24) := by kernel_rfl
set_option maxRecDepth 20000 in
set_option maxHeartbeats 1000000 in
theorem pleaves_any (v : Value) (l : List En) (w : World) (hv : EnsAt w v l) (hm : MaysN l) (hl : l.length * 24 ≤ 140737488351232) : Calls Try.prog 19 #[v] w (EnsEnd (leavesN l) 52 w) := by
  have HF := Lib.hid (fun e W => qptr_any e W)
  obtain ⟨a, cap, rfl, h1, h2, hc⟩ := hv
  have HC := Lib.hid hc
  clear hc
  obtain ⟨i0, hi, hz0, hz1, hz2⟩ := info_parts info_pv
  have HI0 := Lib.hid hi
  have HZ0 := Lib.hid hz0
  have HZ1 := Lib.hid hz1
  have HZ2 := Lib.hid hz2
  clear hi hz0 hz1 hz2
  go_enter Try.func19, Try.ntmps19
  go_wp2_with fail
  go_loopw [3, 8] (fun v s wr => ∃ i : Nat, i ≤ l.length ∧ s = .int .i64 i ∧ OwnE wr w.heap.size 52 v (leavesN (l.take i)) ∧ Below w.heap.size w wr) (fun _ s _ => l.length - (intOf s).toNat)
  case atStart => exact ⟨0, Nat.zero_le _, rfl, ownE_nil _ _ _, Below.refl _ _⟩
  case round =>
    obtain ⟨i, hi, rfl, hown, hbw⟩ := hrel
    by_cases hlt : i < l.length
    · obtain ⟨t, ht⟩ : ∃ t, l[i]? = some t := ⟨_, List.getElem?_eq_getElem hlt⟩
      obtain ⟨g, off, rfl, hg, l0, l1, l2, l3⟩ := HC.out i t ht
      replace l0 := ecell_later hbw l0
      replace l1 := ecell_later hbw l1
      replace l2 := ecell_later hbw l2
      replace l3 := ecell_later hbw l3
      have hsz := hbw.size
      have HTK := Lib.hid (leaves_step l i t ht)
      have HX := Lib.hid (EAt.made wr t 52)
      have HBX := Lib.hid ((Below.refl wr.heap.size wr).alloc (Nat.le_refl _) (.cells (eC t) 52))
      have HN := Lib.hid (And.intro hown hbw)
      have hlen : (leavesN (l.take i)).length ≤ i := by have := List.length_filter_le (fun e => decide (e.rn = 0)) (l.take i); rw [List.length_take] at this; unfold leavesN; omega
      have HLEN := Lib.hid hlen
      have hi2 : (i : Int) < (l.length : Int) := by omega
      have HE := Lib.hid (HF.out t)
      unfold eC at HE HX HBX
      by_cases hz : t.rn = 0
      · rw [if_pos hz] at HTK
        have hd : decide (t.rn = 0) = true := by simpa using hz
        rw [hd] at HE
        clear ht hown hlen hz hbw
        obtain ⟨p, q, r, s⟩ := t
        dsimp only at l0 l1 l2 l3
        go_wp2_with fail
        refine (HE.out _).mono ?_
        rintro x w1 ⟨rfl, hb⟩
        obtain ⟨k0, k1, k2, k3⟩ := EAt.later HX.out hb
        dsimp only at k0 k1 k2 k3
        have HW1 := Lib.hid (HBX.out.trans (hb.mono HBX.out.size))
        have HOWN : Hid (w1.ownsRow w.heap.size 52 4 u3 (leavesN (l.take i)).length (flat4 (leavesN (l.take i)))) := Lib.hid (OwnE.below HN.out.1 HW1.out)
        have hbw1 := HN.out.2.trans (HW1.out.mono HN.out.2.size)
        have hsz1 := hbw1.size
        clear hb l0 l1 l2 l3 HX HBX hsz
        go_wp2_with (first | (at_builtin; refine wpList_append_own _ rfl _ _ 24 rfl w.heap.size 52 i0 (.agg #[.int .u64 0, .int .u64 0, .int .u32 0, .int .u32 0]) 4 24 Try.underlying24 HI0.out HZ0.out HZ1.out HZ2.out rfl (by decide) _ _ _ rfl (World.ownsRow.alloc HOWN.out _) ⟨w1.heap.size, 0, none⟩ 1 1 [.int .u64 p, .int .u64 q, .int .u32 r, .int .u32 s] rfl rfl ?c2 ?c3 ?c4 ?c5 ?c6 ?_) | fail)
        case c2 =>
          intro j u hu
          rw [show ({ block := w1.heap.size, off := 0 } : Addr).add j = ⟨w1.heap.size, j, none⟩ from by simp [Addr.add] <;> omega, World.cell?_alloc_mark]
          simpa using hu
        case c3 =>
          intro u hu
          simp only [List.mem_cons, List.not_mem_nil, or_false] at hu
          rcases hu with rfl | rfl | rfl | rfl <;> rfl
        case c4 => have := HLEN.out; unfold maxLen; omega
        case c5 => have := HLEN.out; omega
        case c6 => first | omega | (simp; omega)
        intro v' w5 hown' hgr _
        have hb5 : Below w.heap.size w w5 := (hbw1.alloc hsz1 _).grown hgr (by simp; omega) (fun g hg => (World.ownsRow.lt HOWN.out g hg).1)
        have hO' : OwnE w5 w.heap.size 52 v' (leavesN (l.take (i + 1))) := owne_conv hown' (by rw [HTK.out, List.length_append]; rfl) (by rw [HTK.out, flat4_append]; rfl)
        have HO' := Lib.hid hO'
        clear hown' hgr HOWN hO' k0 k1 k2 k3 hbw1
        go_wp2_with fail
        go_roundw
        case rel => exact ⟨i + 1, by omega, by go_num, HO'.out, hb5⟩
        case measure => simp [intOf]; omega
      · rw [if_neg hz, List.append_nil] at HTK
        have hd : decide (t.rn = 0) = false := by simpa using hz
        rw [hd] at HE
        clear ht hown hlen hz hbw
        go_wp2_with fail
        refine (HE.out _).mono ?_
        rintro x w1 ⟨rfl, hb⟩
        have HW1 := Lib.hid (HBX.out.trans (hb.mono HBX.out.size))
        clear hb l0 l1 l2 l3 HX HBX hsz
        go_wp2_with fail
        go_roundw
        case rel => exact ⟨i + 1, by omega, by go_num, by rw [HTK.out]; exact OwnE.below HN.out.1 HW1.out, HN.out.2.trans (HW1.out.mono HN.out.2.size)⟩
        case measure => simp [intOf]; omega
    · obtain rfl : i = l.length := by omega
      rw [List.take_length] at hown
      go_wp2_with fail
      go_ret
      exact ⟨_, rfl, hown, hbw⟩
end Go.Proofs.Ytbkodaijigcebaa
/- The contract of the program's Find. -/
namespace Go.Proofs.Ytbkodaijigcebaa
open Go.RowKit
set_option maxRecDepth 20000
set_option linter.unusedVariables false
set_option linter.unusedSimpArgs false
set_option maxRecDepth 20000 in
theorem qres_find (tmps : Array Value) (W : World) (b : Nat) (e : En) (x : Bool) (hp : tmps.getD 4 undef = .pointer (some ⟨b, 0, none⟩)) (hx : tmps.getD 5 undef = .bool x) (he : EAt W b e) : (results Try.f21 tmps).run Try.prog W = .ok (.tuple #[.agg (eC e), .bool x]) W := by
  obtain ⟨c0, c1, c2, c3⟩ := he
  have hp' : tmps[4]?.getD undef = .pointer (some ⟨b, 0, none⟩) := by simpa using hp
  have hx' : tmps[5]?.getD undef = .bool x := by simpa using hx
  rw [results_cell_tmp (fn := Try.f21) rfl]
  unfold eC
  simp [go_sem, hp', hx', c0, c1, c2, c3]
/-- What stands while an entry is looked at: the answer's box, the entry's box. -/
def FSt (w : World) (B : Nat) (e : En) (W : World) : Prop := EAt W w.heap.size zeroE ∧ EAt W B e ∧ (∀ o, W.frozen? ⟨w.heap.size, o, none⟩ = false) ∧ Below w.heap.size w W ∧ w.heap.size < B
theorem FSt.later {w : World} {B : Nat} {e : En} {W W' : World} (h : FSt w B e W) (hb : Below W.heap.size W W') : FSt w B e W' :=
  ⟨h.1.later hb, h.2.1.later hb, fun o => by
    have hl := ecell_lt (a := ⟨w.heap.size, 0, none⟩) h.1.1
    have := h.2.2.1 o
    simp only [World.frozen?] at this ⊢
    rw [hb.block _ hl]
    exact this, h.2.2.2.1.trans (hb.mono h.2.2.2.1.size), h.2.2.2.2⟩
set_option maxRecDepth 20000 in
set_option maxHeartbeats 1000000 in
theorem pfind_any (v : Value) (l : List En) (q : Int) (w : World) (hv : EnsAt w v l) (hm : MaysN l) (hl : l.length ≤ 6000000000000) (q0 : 0 ≤ q) (q1 : q ≤ 18446744073709551615) : Calls Try.prog 21 #[v, .int .u64 q] w fun x w' => x = .returned (.tuple #[.agg (eC (findN l q).1), .bool (findN l q).2]) ∧ Below w.heap.size w w' := by
  have HP := Lib.hid (fun W (h : Below w.heap.size w W) => pplace_any v l q W (hv.below h) hm hl q0 q1)
  have hbd := place_bd l hm q
  obtain ⟨al, cap, rfl, hcap, hmx, hc⟩ := hv
  have HC := Lib.hid hc
  have HF : Hid (findN l q = if placeN l q < 0 then (zeroE, false) else if 0 < (gS l (placeN l q).toNat).rn ∧ hasN (gS l (placeN l q).toNat) q = false then (zeroE, false) else (gS l (placeN l q).toNat, true)) := Lib.hid rfl
  obtain ⟨F, hF⟩ : ∃ F, findN l q = F := ⟨_, rfl⟩
  rw [hF] at HF ⊢
  clear hF hc
  obtain ⟨p, hp⟩ : ∃ p, placeN l q = p := ⟨_, rfl⟩
  simp only [hp] at HP hbd HF
  clear hp
  by_cases h1 : p < 0
  · have hp : p = -1 := by omega
    subst hp
    have hF : F = (zeroE, false) := by rw [HF.out, if_pos (by omega)]
    subst hF
    clear HF hbd h1
    go_enter Try.func21, Try.ntmps21
    go_wp2_with fail
    refine (HP.out _ (by go_grown)).mono ?_
    rintro y w1 ⟨rfl, hb⟩
    have hz := EAt.made w zeroE 52
    obtain ⟨hE, hU⟩ := keepE (e := zeroE) hb ⟨hz, (Below.refl w.heap.size w).alloc (Nat.le_refl _) _⟩
    have HE : Hid (EAt w1 w.heap.size zeroE) := Lib.hid hE
    obtain ⟨c0, c1, c2, c3⟩ := hE
    have f : ∀ o, w1.frozen? ⟨w.heap.size, o, none⟩ = false := fun o => frozen_laterE hb (by simp)
    have f0 := f 0
    have f1 := f 1
    have f2 := f 2
    have f3 := f 3
    have HU := Lib.hid hU
    clear hb hU hz f
    go_wp2_with fail
    have HR := Lib.hid (And.intro (eat_set HE.out 0 0 0 0) (below_set HU.out (Nat.le_refl _) 0 0 0 0))
    refine bodyPost_ret (qres_find _ _ w.heap.size ⟨0, 0, 0, 0⟩ false rfl rfl HR.out.1) rfl ?_
    exact ⟨rfl, HR.out.2⟩
  obtain ⟨k, rfl⟩ : ∃ k : Nat, p = (k : Int) := ⟨p.toNat, by omega⟩
  have hk : k < l.length := by
    have := hbd.2
    split at this <;> omega
  obtain ⟨g, off, rfl, hg, l0, l1, l2, l3⟩ := HC.out k _ (gS_get l k hk)
  have hme := hm _ (gS_mem l k hk)
  rw [Int.toNat_natCast, if_neg h1] at HF
  obtain ⟨e, he⟩ : ∃ e, gS l k = e := ⟨_, rfl⟩
  rw [he] at HF hme l0 l1 l2 l3
  have HH := Lib.hid (fun W => phas_any e q W hme)
  have HPT := Lib.hid (fun W => qptr_any e W)
  have hkl : (k : Int) < (l.length : Int) := by omega
  have hk0 : ((k : Int) < 0) = False := by simp
  have hdk : decide ((k : Int) < 0) = false := by simp
  have hml : l.length ≤ 9223372036854775807 := by unfold maxLen at hmx; omega
  unfold MayN at hme
  clear he hbd h1 HC
  by_cases h2 : e.rn = 0
  · have hF : F = (e, true) := by rw [HF.out, if_neg (fun h => by omega)]
    subst hF
    have hd : decide (e.rn = 0) = true := by simpa using h2
    rw [hd] at HPT
    clear HF h2 hme HH
    unfold eC at HPT
    go_enter Try.func21, Try.ntmps21
    go_wp2_with fail
    refine (HP.out _ (by go_grown)).mono ?_
    rintro y w1 ⟨rfl, hb⟩
    have hz := EAt.made w zeroE 52
    obtain ⟨hE, hU⟩ := keepE (e := zeroE) hb ⟨hz, (Below.refl w.heap.size w).alloc (Nat.le_refl _) _⟩
    have HE : Hid (EAt w1 w.heap.size zeroE) := Lib.hid hE
    obtain ⟨c0, c1, c2, c3⟩ := hE
    have f : ∀ o, w1.frozen? ⟨w.heap.size, o, none⟩ = false := fun o => frozen_laterE hb (by simp)
    have hlt1 : w.heap.size < w1.heap.size := ecell_lt (a := ⟨w.heap.size, 0, none⟩) HE.out.1
    have HS1 : Hid (FSt w w1.heap.size e (w1.alloc (.cells (eC e) 52))) := Lib.hid ⟨HE.out.later ((Below.refl _ w1).alloc (Nat.le_refl _) _), EAt.made w1 e 52, fun o => by have := f o; simp only [World.frozen?] at this ⊢; rw [((Below.refl w1.heap.size w1).alloc (Nat.le_refl _) (.cells (eC e) 52)).block _ hlt1]; exact this, hU.trans (((Below.refl w1.heap.size w1).alloc (Nat.le_refl _) _).mono hU.size), hlt1⟩
    unfold eC at HS1
    have HU := Lib.hid hU
    have k0 := (hU.cell (p := ⟨g, off + k * 4, none⟩) hg).trans l0
    have k1 := (hU.cell (p := ⟨g, off + k * 4 + 1, none⟩) hg).trans l1
    have k2 := (hU.cell (p := ⟨g, off + k * 4 + 2, none⟩) hg).trans l2
    have k3 := (hU.cell (p := ⟨g, off + k * 4 + 3, none⟩) hg).trans l3
    have hne : g ≠ w.heap.size := by omega
    clear hb hU hz f l0 l1 l2 l3 c0 c1 c2 c3
    go_wp2_with fail
    refine (HPT.out _).mono ?_
    rintro y w2 ⟨rfl, hb⟩
    have HS2 := Lib.hid (HS1.out.later hb)
    clear hb
    obtain ⟨⟨c0, c1, c2, c3⟩, ⟨d0, d1, d2, d3⟩, f, _, hlt⟩ := HS2.out
    have f0 := f 0
    have f1 := f 1
    have f2 := f 2
    have f3 := f 3
    have hne1 : w1.heap.size ≠ w.heap.size := by omega
    clear f
    go_wp2_with fail
    have HR := Lib.hid (And.intro (eat_set HS2.out.1 e.id e.off e.ln e.rn) (below_set HS2.out.2.2.2.1 (Nat.le_refl _) e.id e.off e.ln e.rn))
    refine bodyPost_ret (qres_find _ _ w.heap.size ⟨e.id, e.off, e.ln, e.rn⟩ true rfl rfl HR.out.1) rfl ?_
    exact ⟨rfl, HR.out.2⟩
  have hd : decide (e.rn = 0) = false := by simpa using h2
  rw [hd] at HPT
  have hrn : 0 < e.rn := by omega
  by_cases h3 : hasN e q = true
  · have hF : F = (e, true) := by rw [HF.out, if_neg (fun h => by rw [h3] at h; simp at h)]
    subst hF
    rw [h3] at HH
    clear HF h2 h3 hme hrn
    unfold eC at HPT HH
    go_enter Try.func21, Try.ntmps21
    go_wp2_with fail
    refine (HP.out _ (by go_grown)).mono ?_
    rintro y w1 ⟨rfl, hb⟩
    have hz := EAt.made w zeroE 52
    obtain ⟨hE, hU⟩ := keepE (e := zeroE) hb ⟨hz, (Below.refl w.heap.size w).alloc (Nat.le_refl _) _⟩
    have HE : Hid (EAt w1 w.heap.size zeroE) := Lib.hid hE
    obtain ⟨c0, c1, c2, c3⟩ := hE
    have f : ∀ o, w1.frozen? ⟨w.heap.size, o, none⟩ = false := fun o => frozen_laterE hb (by simp)
    have hlt1 : w.heap.size < w1.heap.size := ecell_lt (a := ⟨w.heap.size, 0, none⟩) HE.out.1
    have HS1 : Hid (FSt w w1.heap.size e (w1.alloc (.cells (eC e) 52))) := Lib.hid ⟨HE.out.later ((Below.refl _ w1).alloc (Nat.le_refl _) _), EAt.made w1 e 52, fun o => by have := f o; simp only [World.frozen?] at this ⊢; rw [((Below.refl w1.heap.size w1).alloc (Nat.le_refl _) (.cells (eC e) 52)).block _ hlt1]; exact this, hU.trans (((Below.refl w1.heap.size w1).alloc (Nat.le_refl _) _).mono hU.size), hlt1⟩
    unfold eC at HS1
    have HU := Lib.hid hU
    have k0 := (hU.cell (p := ⟨g, off + k * 4, none⟩) hg).trans l0
    have k1 := (hU.cell (p := ⟨g, off + k * 4 + 1, none⟩) hg).trans l1
    have k2 := (hU.cell (p := ⟨g, off + k * 4 + 2, none⟩) hg).trans l2
    have k3 := (hU.cell (p := ⟨g, off + k * 4 + 3, none⟩) hg).trans l3
    have hne : g ≠ w.heap.size := by omega
    clear hb hU hz f l0 l1 l2 l3 c0 c1 c2 c3
    go_wp2_with fail
    refine (HPT.out _).mono ?_
    rintro y w2 ⟨rfl, hb⟩
    have HS2 := Lib.hid (HS1.out.later hb)
    clear hb
    obtain ⟨⟨c0, c1, c2, c3⟩, ⟨d0, d1, d2, d3⟩, f, _, hlt⟩ := HS2.out
    have f0 := f 0
    have f1 := f 1
    have f2 := f 2
    have f3 := f 3
    have hne1 : w1.heap.size ≠ w.heap.size := by omega
    clear f
    go_wp2_with fail
    clear c0 c1 c2 c3 d0 d1 d2 d3 f0 f1 f2 f3 hlt hne1
    refine (HH.out _).mono ?_
    rintro y w3 ⟨rfl, hb⟩
    have HS3 := Lib.hid (HS2.out.later hb)
    clear hb
    obtain ⟨⟨c0, c1, c2, c3⟩, ⟨d0, d1, d2, d3⟩, f, _, hlt⟩ := HS3.out
    have f0 := f 0
    have f1 := f 1
    have f2 := f 2
    have f3 := f 3
    have hne1 : w1.heap.size ≠ w.heap.size := by omega
    clear f
    go_wp2_with fail
    have HR := Lib.hid (And.intro (eat_set HS3.out.1 e.id e.off e.ln e.rn) (below_set HS3.out.2.2.2.1 (Nat.le_refl _) e.id e.off e.ln e.rn))
    refine bodyPost_ret (qres_find _ _ w.heap.size ⟨e.id, e.off, e.ln, e.rn⟩ true rfl rfl HR.out.1) rfl ?_
    exact ⟨rfl, HR.out.2⟩
  · have h3' : hasN e q = false := by simpa using h3
    have hF : F = (zeroE, false) := by rw [HF.out, if_pos ⟨hrn, h3'⟩]
    subst hF
    rw [h3'] at HH
    clear h3'
    clear HF h2 h3 hme hrn
    unfold eC at HPT HH
    go_enter Try.func21, Try.ntmps21
    go_wp2_with fail
    refine (HP.out _ (by go_grown)).mono ?_
    rintro y w1 ⟨rfl, hb⟩
    have hz := EAt.made w zeroE 52
    obtain ⟨hE, hU⟩ := keepE (e := zeroE) hb ⟨hz, (Below.refl w.heap.size w).alloc (Nat.le_refl _) _⟩
    have HE : Hid (EAt w1 w.heap.size zeroE) := Lib.hid hE
    obtain ⟨c0, c1, c2, c3⟩ := hE
    have f : ∀ o, w1.frozen? ⟨w.heap.size, o, none⟩ = false := fun o => frozen_laterE hb (by simp)
    have hlt1 : w.heap.size < w1.heap.size := ecell_lt (a := ⟨w.heap.size, 0, none⟩) HE.out.1
    have HS1 : Hid (FSt w w1.heap.size e (w1.alloc (.cells (eC e) 52))) := Lib.hid ⟨HE.out.later ((Below.refl _ w1).alloc (Nat.le_refl _) _), EAt.made w1 e 52, fun o => by have := f o; simp only [World.frozen?] at this ⊢; rw [((Below.refl w1.heap.size w1).alloc (Nat.le_refl _) (.cells (eC e) 52)).block _ hlt1]; exact this, hU.trans (((Below.refl w1.heap.size w1).alloc (Nat.le_refl _) _).mono hU.size), hlt1⟩
    unfold eC at HS1
    have HU := Lib.hid hU
    have k0 := (hU.cell (p := ⟨g, off + k * 4, none⟩) hg).trans l0
    have k1 := (hU.cell (p := ⟨g, off + k * 4 + 1, none⟩) hg).trans l1
    have k2 := (hU.cell (p := ⟨g, off + k * 4 + 2, none⟩) hg).trans l2
    have k3 := (hU.cell (p := ⟨g, off + k * 4 + 3, none⟩) hg).trans l3
    have hne : g ≠ w.heap.size := by omega
    clear hb hU hz f l0 l1 l2 l3 c0 c1 c2 c3
    go_wp2_with fail
    refine (HPT.out _).mono ?_
    rintro y w2 ⟨rfl, hb⟩
    have HS2 := Lib.hid (HS1.out.later hb)
    clear hb
    obtain ⟨⟨c0, c1, c2, c3⟩, ⟨d0, d1, d2, d3⟩, f, _, hlt⟩ := HS2.out
    have f0 := f 0
    have f1 := f 1
    have f2 := f 2
    have f3 := f 3
    have hne1 : w1.heap.size ≠ w.heap.size := by omega
    clear f
    go_wp2_with fail
    clear c0 c1 c2 c3 d0 d1 d2 d3 f0 f1 f2 f3 hlt hne1
    refine (HH.out _).mono ?_
    rintro y w3 ⟨rfl, hb⟩
    have HS3 := Lib.hid (HS2.out.later hb)
    clear hb
    obtain ⟨⟨c0, c1, c2, c3⟩, ⟨d0, d1, d2, d3⟩, f, _, hlt⟩ := HS3.out
    have f0 := f 0
    have f1 := f 1
    have f2 := f 2
    have f3 := f 3
    have hne1 : w1.heap.size ≠ w.heap.size := by omega
    clear f
    go_wp2_with fail
    have HR := Lib.hid (And.intro (eat_set HS3.out.1 0 0 0 0) (below_set HS3.out.2.2.2.1 (Nat.le_refl _) 0 0 0 0))
    refine bodyPost_ret (qres_find _ _ w.heap.size ⟨0, 0, 0, 0⟩ false rfl rfl HR.out.1) rfl ?_
    exact ⟨rfl, HR.out.2⟩
end Go.Proofs.Ytbkodaijigcebaa
