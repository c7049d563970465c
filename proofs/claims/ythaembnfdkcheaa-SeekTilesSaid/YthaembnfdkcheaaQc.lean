/- The contract of the program's Find. -/
import Derived.Test.YthaembnfdkcheaaQa
namespace Go.Proofs.Ythaembnfdkcheaa
open Go.RowKit
set_option linter.unusedVariables false
set_option linter.unusedSimpArgs false
set_option maxRecDepth 20000 in
theorem qres_find (tmps : Array Value) (W : World) (b : Nat) (e : En) (x : Bool) (hp : tmps.getD 4 undef = .pointer (some ⟨b, 0, none⟩)) (hx : tmps.getD 5 undef = .bool x) (he : EAt W b e) : (results Try.f9 tmps).run Try.prog W = .ok (.tuple #[.agg (eC e), .bool x]) W := by
  obtain ⟨c0, c1, c2, c3⟩ := he
  have hp' : tmps[4]?.getD undef = .pointer (some ⟨b, 0, none⟩) := by simpa using hp
  have hx' : tmps[5]?.getD undef = .bool x := by simpa using hx
  rw [results_cell_tmp (fn := Try.f9) rfl]
  unfold eC
  simp [go_sem, hp', hx', c0, c1, c2, c3]
/-- What stands while an entry is looked at: the answer's box, the entry's box. -/
def FSt (w : World) (B : Nat) (e : En) (W : World) : Prop := EAt W w.heap.size zeroE ∧ EAt W B e ∧ (∀ o, W.frozen? ⟨w.heap.size, o, none⟩ = false) ∧ Below w.heap.size w W ∧ w.heap.size < B
theorem FSt.later {w : World} {B : Nat} {e : En} {W W' : World} (h : FSt w B e W) (hb : Below W.heap.size W W') : FSt w B e W' :=
  ⟨h.1.later hb, h.2.1.later hb, fun o => by
    have hl := ecell_lt (a := ⟨w.heap.size, 0, none⟩) h.1.1
    have := h.2.2.1 o
    simp only [World.frozen?] at this ⊢
    rw [hb.block _ hl]
    exact this, h.2.2.2.1.trans (hb.mono h.2.2.2.1.size), h.2.2.2.2⟩
set_option maxRecDepth 20000 in
set_option maxHeartbeats 1000000 in
theorem pfind_any (v : Value) (l : List En) (q : Int) (w : World) (hv : EnsAt w v l) (hm : MaysN l) (hl : l.length ≤ 6000000000000) (q0 : 0 ≤ q) (q1 : q ≤ 18446744073709551615) : Calls Try.prog 9 #[v, .int .u64 q] w fun x w' => x = .returned (.tuple #[.agg (eC (findN l q).1), .bool (findN l q).2]) ∧ Below w.heap.size w w' := by
  have HP := Lib.hid (fun W (h : Below w.heap.size w W) => pplace_any v l q W (hv.below h) hm hl q0 q1)
  have hbd := place_bd l hm q
  obtain ⟨al, cap, rfl, hcap, hmx, hc⟩ := hv
  have HC := Lib.hid hc
  have HF : Hid (findN l q = if placeN l q < 0 then (zeroE, false) else if 0 < (gS l (placeN l q).toNat).rn ∧ hasN (gS l (placeN l q).toNat) q = false then (zeroE, false) else (gS l (placeN l q).toNat, true)) := Lib.hid rfl
  obtain ⟨F, hF⟩ : ∃ F, findN l q = F := ⟨_, rfl⟩
  rw [hF] at HF ⊢
  clear hF hc
  obtain ⟨p, hp⟩ : ∃ p, placeN l q = p := ⟨_, rfl⟩
  simp only [hp] at HP hbd HF
  clear hp
  by_cases h1 : p < 0
  · have hp : p = -1 := by omega
    subst hp
    have hF : F = (zeroE, false) := by rw [HF.out, if_pos (by omega)]
    subst hF
    clear HF hbd h1
    go_enter Try.func9, Try.ntmps9
    go_wp2_with fail
    refine (HP.out _ (by go_grown)).mono ?_
    rintro y w1 ⟨rfl, hb⟩
    have hz := EAt.made w zeroE 29
    obtain ⟨hE, hU⟩ := keepE (e := zeroE) hb ⟨hz, (Below.refl w.heap.size w).alloc (Nat.le_refl _) _⟩
    have HE : Hid (EAt w1 w.heap.size zeroE) := Lib.hid hE
    obtain ⟨c0, c1, c2, c3⟩ := hE
    have f : ∀ o, w1.frozen? ⟨w.heap.size, o, none⟩ = false := fun o => frozen_laterE hb (by simp)
    have f0 := f 0
    have f1 := f 1
    have f2 := f 2
    have f3 := f 3
    have HU := Lib.hid hU
    clear hb hU hz f
    go_wp2_with fail
    have HR := Lib.hid (And.intro (eat_set HE.out 0 0 0 0) (below_set HU.out (Nat.le_refl _) 0 0 0 0))
    refine bodyPost_ret (qres_find _ _ w.heap.size ⟨0, 0, 0, 0⟩ false rfl rfl HR.out.1) rfl ?_
    exact ⟨rfl, HR.out.2⟩
  obtain ⟨k, rfl⟩ : ∃ k : Nat, p = (k : Int) := ⟨p.toNat, by omega⟩
  have hk : k < l.length := by
    have := hbd.2
    split at this <;> omega
  obtain ⟨g, off, rfl, hg, l0, l1, l2, l3⟩ := HC.out k _ (gS_get l k hk)
  have hme := hm _ (gS_mem l k hk)
  rw [Int.toNat_natCast, if_neg h1] at HF
  obtain ⟨e, he⟩ : ∃ e, gS l k = e := ⟨_, rfl⟩
  rw [he] at HF hme l0 l1 l2 l3
  have HH := Lib.hid (fun W => phas_any e q W hme)
  have HPT := Lib.hid (fun W => qptr_any e W)
  have hkl : (k : Int) < (l.length : Int) := by omega
  have hk0 : ((k : Int) < 0) = False := by simp
  have hdk : decide ((k : Int) < 0) = false := by simp
  have hml : l.length ≤ 9223372036854775807 := by unfold maxLen at hmx; omega
  unfold MayN at hme
  clear he hbd h1 HC
  by_cases h2 : e.rn = 0
  · have hF : F = (e, true) := by rw [HF.out, if_neg (fun h => by omega)]
    subst hF
    have hd : decide (e.rn = 0) = true := by simpa using h2
    rw [hd] at HPT
    clear HF h2 hme HH
    unfold eC at HPT
    go_enter Try.func9, Try.ntmps9
    go_wp2_with fail
    refine (HP.out _ (by go_grown)).mono ?_
    rintro y w1 ⟨rfl, hb⟩
    have hz := EAt.made w zeroE 29
    obtain ⟨hE, hU⟩ := keepE (e := zeroE) hb ⟨hz, (Below.refl w.heap.size w).alloc (Nat.le_refl _) _⟩
    have HE : Hid (EAt w1 w.heap.size zeroE) := Lib.hid hE
    obtain ⟨c0, c1, c2, c3⟩ := hE
    have f : ∀ o, w1.frozen? ⟨w.heap.size, o, none⟩ = false := fun o => frozen_laterE hb (by simp)
    have hlt1 : w.heap.size < w1.heap.size := ecell_lt (a := ⟨w.heap.size, 0, none⟩) HE.out.1
    have HS1 : Hid (FSt w w1.heap.size e (w1.alloc (.cells (eC e) 29))) := Lib.hid ⟨HE.out.later ((Below.refl _ w1).alloc (Nat.le_refl _) _), EAt.made w1 e 29, fun o => by have := f o; simp only [World.frozen?] at this ⊢; rw [((Below.refl w1.heap.size w1).alloc (Nat.le_refl _) (.cells (eC e) 29)).block _ hlt1]; exact this, hU.trans (((Below.refl w1.heap.size w1).alloc (Nat.le_refl _) _).mono hU.size), hlt1⟩
    unfold eC at HS1
    have HU := Lib.hid hU
    have k0 := (hU.cell (p := ⟨g, off + k * 4, none⟩) hg).trans l0
    have k1 := (hU.cell (p := ⟨g, off + k * 4 + 1, none⟩) hg).trans l1
    have k2 := (hU.cell (p := ⟨g, off + k * 4 + 2, none⟩) hg).trans l2
    have k3 := (hU.cell (p := ⟨g, off + k * 4 + 3, none⟩) hg).trans l3
    have hne : g ≠ w.heap.size := by omega
    clear hb hU hz f l0 l1 l2 l3 c0 c1 c2 c3
    go_wp2_with fail
    refine (HPT.out _).mono ?_
    rintro y w2 ⟨rfl, hb⟩
    have HS2 := Lib.hid (HS1.out.later hb)
    clear hb
    obtain ⟨⟨c0, c1, c2, c3⟩, ⟨d0, d1, d2, d3⟩, f, _, hlt⟩ := HS2.out
    have f0 := f 0
    have f1 := f 1
    have f2 := f 2
    have f3 := f 3
    have hne1 : w1.heap.size ≠ w.heap.size := by omega
    clear f
    go_wp2_with fail
    have HR := Lib.hid (And.intro (eat_set HS2.out.1 e.id e.off e.ln e.rn) (below_set HS2.out.2.2.2.1 (Nat.le_refl _) e.id e.off e.ln e.rn))
    refine bodyPost_ret (qres_find _ _ w.heap.size ⟨e.id, e.off, e.ln, e.rn⟩ true rfl rfl HR.out.1) rfl ?_
    exact ⟨rfl, HR.out.2⟩
  have hd : decide (e.rn = 0) = false := by simpa using h2
  rw [hd] at HPT
  have hrn : 0 < e.rn := by omega
  by_cases h3 : hasN e q = true
  · have hF : F = (e, true) := by rw [HF.out, if_neg (fun h => by rw [h3] at h; simp at h)]
    subst hF
    rw [h3] at HH
    clear HF h2 h3 hme hrn
    unfold eC at HPT HH
    go_enter Try.func9, Try.ntmps9
    go_wp2_with fail
    refine (HP.out _ (by go_grown)).mono ?_
    rintro y w1 ⟨rfl, hb⟩
    have hz := EAt.made w zeroE 29
    obtain ⟨hE, hU⟩ := keepE (e := zeroE) hb ⟨hz, (Below.refl w.heap.size w).alloc (Nat.le_refl _) _⟩
    have HE : Hid (EAt w1 w.heap.size zeroE) := Lib.hid hE
    obtain ⟨c0, c1, c2, c3⟩ := hE
    have f : ∀ o, w1.frozen? ⟨w.heap.size, o, none⟩ = false := fun o => frozen_laterE hb (by simp)
    have hlt1 : w.heap.size < w1.heap.size := ecell_lt (a := ⟨w.heap.size, 0, none⟩) HE.out.1
    have HS1 : Hid (FSt w w1.heap.size e (w1.alloc (.cells (eC e) 29))) := Lib.hid ⟨HE.out.later ((Below.refl _ w1).alloc (Nat.le_refl _) _), EAt.made w1 e 29, fun o => by have := f o; simp only [World.frozen?] at this ⊢; rw [((Below.refl w1.heap.size w1).alloc (Nat.le_refl _) (.cells (eC e) 29)).block _ hlt1]; exact this, hU.trans (((Below.refl w1.heap.size w1).alloc (Nat.le_refl _) _).mono hU.size), hlt1⟩
    unfold eC at HS1
    have HU := Lib.hid hU
    have k0 := (hU.cell (p := ⟨g, off + k * 4, none⟩) hg).trans l0
    have k1 := (hU.cell (p := ⟨g, off + k * 4 + 1, none⟩) hg).trans l1
    have k2 := (hU.cell (p := ⟨g, off + k * 4 + 2, none⟩) hg).trans l2
    have k3 := (hU.cell (p := ⟨g, off + k * 4 + 3, none⟩) hg).trans l3
    have hne : g ≠ w.heap.size := by omega
    clear hb hU hz f l0 l1 l2 l3 c0 c1 c2 c3
    go_wp2_with fail
    refine (HPT.out _).mono ?_
    rintro y w2 ⟨rfl, hb⟩
    have HS2 := Lib.hid (HS1.out.later hb)
    clear hb
    obtain ⟨⟨c0, c1, c2, c3⟩, ⟨d0, d1, d2, d3⟩, f, _, hlt⟩ := HS2.out
    have f0 := f 0
    have f1 := f 1
    have f2 := f 2
    have f3 := f 3
    have hne1 : w1.heap.size ≠ w.heap.size := by omega
    clear f
    go_wp2_with fail
    clear c0 c1 c2 c3 d0 d1 d2 d3 f0 f1 f2 f3 hlt hne1
    refine (HH.out _).mono ?_
    rintro y w3 ⟨rfl, hb⟩
    have HS3 := Lib.hid (HS2.out.later hb)
    clear hb
    obtain ⟨⟨c0, c1, c2, c3⟩, ⟨d0, d1, d2, d3⟩, f, _, hlt⟩ := HS3.out
    have f0 := f 0
    have f1 := f 1
    have f2 := f 2
    have f3 := f 3
    have hne1 : w1.heap.size ≠ w.heap.size := by omega
    clear f
    go_wp2_with fail
    have HR := Lib.hid (And.intro (eat_set HS3.out.1 e.id e.off e.ln e.rn) (below_set HS3.out.2.2.2.1 (Nat.le_refl _) e.id e.off e.ln e.rn))
    refine bodyPost_ret (qres_find _ _ w.heap.size ⟨e.id, e.off, e.ln, e.rn⟩ true rfl rfl HR.out.1) rfl ?_
    exact ⟨rfl, HR.out.2⟩
  · have h3' : hasN e q = false := by simpa using h3
    have hF : F = (zeroE, false) := by rw [HF.out, if_pos ⟨hrn, h3'⟩]
    subst hF
    rw [h3'] at HH
    clear h3'
    clear HF h2 h3 hme hrn
    unfold eC at HPT HH
    go_enter Try.func9, Try.ntmps9
    go_wp2_with fail
    refine (HP.out _ (by go_grown)).mono ?_
    rintro y w1 ⟨rfl, hb⟩
    have hz := EAt.made w zeroE 29
    obtain ⟨hE, hU⟩ := keepE (e := zeroE) hb ⟨hz, (Below.refl w.heap.size w).alloc (Nat.le_refl _) _⟩
    have HE : Hid (EAt w1 w.heap.size zeroE) := Lib.hid hE
    obtain ⟨c0, c1, c2, c3⟩ := hE
    have f : ∀ o, w1.frozen? ⟨w.heap.size, o, none⟩ = false := fun o => frozen_laterE hb (by simp)
    have hlt1 : w.heap.size < w1.heap.size := ecell_lt (a := ⟨w.heap.size, 0, none⟩) HE.out.1
    have HS1 : Hid (FSt w w1.heap.size e (w1.alloc (.cells (eC e) 29))) := Lib.hid ⟨HE.out.later ((Below.refl _ w1).alloc (Nat.le_refl _) _), EAt.made w1 e 29, fun o => by have := f o; simp only [World.frozen?] at this ⊢; rw [((Below.refl w1.heap.size w1).alloc (Nat.le_refl _) (.cells (eC e) 29)).block _ hlt1]; exact this, hU.trans (((Below.refl w1.heap.size w1).alloc (Nat.le_refl _) _).mono hU.size), hlt1⟩
    unfold eC at HS1
    have HU := Lib.hid hU
    have k0 := (hU.cell (p := ⟨g, off + k * 4, none⟩) hg).trans l0
    have k1 := (hU.cell (p := ⟨g, off + k * 4 + 1, none⟩) hg).trans l1
    have k2 := (hU.cell (p := ⟨g, off + k * 4 + 2, none⟩) hg).trans l2
    have k3 := (hU.cell (p := ⟨g, off + k * 4 + 3, none⟩) hg).trans l3
    have hne : g ≠ w.heap.size := by omega
    clear hb hU hz f l0 l1 l2 l3 c0 c1 c2 c3
    go_wp2_with fail
    refine (HPT.out _).mono ?_
    rintro y w2 ⟨rfl, hb⟩
    have HS2 := Lib.hid (HS1.out.later hb)
    clear hb
    obtain ⟨⟨c0, c1, c2, c3⟩, ⟨d0, d1, d2, d3⟩, f, _, hlt⟩ := HS2.out
    have f0 := f 0
    have f1 := f 1
    have f2 := f 2
    have f3 := f 3
    have hne1 : w1.heap.size ≠ w.heap.size := by omega
    clear f
    go_wp2_with fail
    clear c0 c1 c2 c3 d0 d1 d2 d3 f0 f1 f2 f3 hlt hne1
    refine (HH.out _).mono ?_
    rintro y w3 ⟨rfl, hb⟩
    have HS3 := Lib.hid (HS2.out.later hb)
    clear hb
    obtain ⟨⟨c0, c1, c2, c3⟩, ⟨d0, d1, d2, d3⟩, f, _, hlt⟩ := HS3.out
    have f0 := f 0
    have f1 := f 1
    have f2 := f 2
    have f3 := f 3
    have hne1 : w1.heap.size ≠ w.heap.size := by omega
    clear f
    go_wp2_with fail
    have HR := Lib.hid (And.intro (eat_set HS3.out.1 0 0 0 0) (below_set HS3.out.2.2.2.1 (Nat.le_refl _) 0 0 0 0))
    refine bodyPost_ret (qres_find _ _ w.heap.size ⟨0, 0, 0, 0⟩ false rfl rfl HR.out.1) rfl ?_
    exact ⟨rfl, HR.out.2⟩
end Go.Proofs.Ythaembnfdkcheaa
