/- The contract of the program's Tiles, told ahead; with this all four of the program's contracts stand. -/
import Derived.Test.YthaembnfdkcheaaQe
import Derived.Test.YthaembnfdkcheaaQc
import Derived.Test.YthaembnfdkcheaaPf
import Derived.Test.YthaembnfdkcheaaEz
namespace Go.Proofs.Ythaembnfdkcheaa
open Go.RowKit Go.Shelf
set_option linter.unusedVariables false
set_option linter.unusedSimpArgs false
theorem tiles_room {l : List En} (hm : MaysN l) (h : rowN l = 0) : ∀ e ∈ l, e.id + e.rn ≤ 18446744073709551616 := by
  intro e he
  have hc := (rowG_above _ l hm (row_G h).1 e he).2
  have hme := hm e he
  unfold MayN at hme
  have h2 := (ck_ok e hc).2.1
  unfold wdN at h2
  split at h2 <;> omega
theorem tilesN_row {l : List En} (h : rowN l = 0) : flT l = tilesN l := by unfold tilesN flT; rw [if_pos h]
theorem tilesN_no {l : List En} (h : ¬ rowN l = 0) : flT [] = tilesN l := by unfold tilesN flT; rw [if_neg h]; rfl
theorem til_made {v v' : Value} {l m : List En} {B0 : Nat} {w w' : World} (he : flT m = tilesN l) (hm : MaysN m) (hid : ∀ e ∈ m, e.id + e.rn ≤ 18446744073709551616) (hb : Below w.heap.size w w') (hv : EnsAt w' v' m) (hB : w.heap.size ≤ B0) (hc : w'.cell? ⟨B0, 0, none⟩ = some v') (hr : ∀ a n c, v' = .slice (some a) n c → w.heap.size ≤ a.block ∧ a.block < w'.heap.size) :
    TilD v (tilesN l) w (.func (.func 30) #[] #[.pointer (some ⟨B0, 0, none⟩)]) w' := by
  refine ⟨⟨_, _, VT B0 v', rfl, enters_of Try.func30 (by kernel_rfl) rfl, fun b hbv => ?_, fun w2 h2 => ?_⟩, hb⟩
  · rcases hbv with rfl | ⟨a, n, c, hva, rfl⟩
    · exact ⟨ecell_lt hc, .inr hB⟩
    · exact ⟨(hr a n c hva).2, .inr (hr a n c hva).1⟩
  · rw [← he]
    exact ptiles1_seq v' m B0 w2 hm hid (hv.below h2) (ecell_later h2 hc)
set_option maxRecDepth 20000 in
set_option maxHeartbeats 1000000 in
theorem ptilD_any (v : Value) (l : List En) (w : World) (hv : EnsAt w v l) (hm : MaysN l) (hl : l.length ≤ 6000000000000) : Calls Try.prog 19 #[v] w fun x w' => ∃ y, x = .returned y ∧ TilD v (tilesN l) w y w' := by
  have HRW := Lib.hid (fun W (hb : Below w.heap.size w W) => prow_any v l W (hv.below hb) hm)
  by_cases h : rowN l = 0
  · have HCL := Lib.hid (fun W (hb : Below w.heap.size w W) => pclone_any v l W (hv.below hb) (row_G h).2)
    have HRO := Lib.hid (tiles_room hm h)
    have HTI := Lib.hid (tilesN_row h)
    rw [h] at HRW
    have hv' := hv
    obtain ⟨al, cap, rfl, hcap, hmx, hc⟩ := hv'
    clear h hc hv
    go_enter Try.func19, Try.ntmps19
    go_wp2_with fail
    refine (HRW.out _ (by go_grown)).mono ?_
    rintro y w1 ⟨rfl, hb⟩
    have hU : Below w.heap.size w w1 := ((Below.refl w.heap.size w).alloc (Nat.le_refl _) _).trans (hb.mono (by simp))
    have hbx : w1.cell? ⟨w.heap.size, 0, none⟩ = some (.slice none 0 0) := ecell_later hb (by rw [World.cell?_alloc_mark]; rfl)
    have hfz : w1.frozen? ⟨w.heap.size, 0, none⟩ = false := frozen_laterE hb (by simp)
    have hsz1 : w.heap.size < w1.heap.size := ecell_lt (a := ⟨w.heap.size, 0, none⟩) hbx
    have HB := Lib.hid (And.intro hU hsz1)
    clear hb hU HRW hsz1
    go_wp2_with fail
    refine (HCL.out _ HB.out.1).mono ?_
    rintro y w2 ⟨v', rfl, hv', hr', hb2⟩
    have hv2 := hv'
    obtain ⟨al2, cap2, rfl, _, _, _⟩ := hv2
    have hbx2 := ecell_later hb2 hbx
    have hfz2 : w2.frozen? ⟨w.heap.size, 0, none⟩ = false := by
      have hl2 := HB.out.2
      simp only [World.frozen?] at hfz ⊢
      rw [hb2.block _ hl2]
      exact hfz
    have HB2 := Lib.hid (HB.out.1.trans (hb2.mono HB.out.1.size))
    have HV := Lib.hid (And.intro hv' (And.intro hr' hb2.size))
    clear hbx hfz hb2 hv' hr' HCL
    go_wp2_with fail
    go_ret
    refine ⟨_, rfl, til_made HTI.out hm HRO.out (HB2.out.setCell (p := ⟨w.heap.size, 0, none⟩) (Nat.le_refl _) _) (v' := .slice al2 l.length cap2) ?_ (Nat.le_refl _) ?_ ?_⟩
    · refine (KeepsS.setCell (fun b => b = w.heap.size) w2 ⟨w.heap.size, 0, none⟩ _ rfl).ens (fun _ a n c hva hs => ?_) HV.out.1
      have := (HV.out.2.1 a n c hva).1
      have := HB.out.2
      omega
    · simp [go_sem, hbx2]
    · intro a n c hva
      have h1 := HV.out.2.1 a n c hva
      have h2 := HB.out.2
      exact ⟨by omega, by simpa using h1.2⟩
  · have HTI := Lib.hid (tilesN_no h)
    obtain ⟨r, hr⟩ : ∃ r, rowN l = r := ⟨_, rfl⟩
    rw [hr] at HRW h
    have hne : (r == 0) = false := by simpa using h
    obtain ⟨al, cap, rfl, hcap, hmx, hc⟩ := hv
    clear h hr hc
    go_enter Try.func19, Try.ntmps19
    go_wp2_with fail
    refine (HRW.out _ (by go_grown)).mono ?_
    rintro y w1 ⟨rfl, hb⟩
    have HB := Lib.hid (((Below.refl w.heap.size w).alloc (Nat.le_refl _) _).trans (hb.mono (by simp)))
    have HX : Hid (w1.cell? ⟨w.heap.size, 0, none⟩ = some (.slice none 0 0)) := Lib.hid (ecell_later hb (by rw [World.cell?_alloc_mark]; rfl))
    clear hb HRW
    go_wp2_with fail
    go_ret
    exact ⟨_, rfl, til_made HTI.out (fun e he => by simp at he) (fun e he => by simp at he) HB.out (ens_nil _) (Nat.le_refl _) HX.out (fun a n c hva => by cases hva)⟩
end Go.Proofs.Ythaembnfdkcheaa
