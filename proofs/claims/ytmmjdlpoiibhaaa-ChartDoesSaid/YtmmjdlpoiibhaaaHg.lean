/- Del. -/
import Derived.Test.YtmmjdlpoiibhaaaHf
namespace Go.Proofs.Ytmmjdlpoiibhaaa
open Go.RowKit
set_option maxRecDepth 20000
set_option linter.unusedVariables false
set_option linter.unusedSimpArgs false
structure DelS (w W : World) (s : Value) : Prop where
  box : One W w.heap.size s
  res : One W (w.heap.size + 1) (.slice none 0 0)
  bel : Below w.heap.size w W
theorem DelS.below {w W W' : World} {s : Value} (h : DelS w W s) (hb : Below W.heap.size W W') : DelS w W' s :=
  ⟨h.box.below hb, h.res.below hb, h.bel.trans (hb.mono h.bel.size)⟩
theorem del_start (w : World) (s : Value) : DelS w ((w.alloc (.cells #[s] 26)).alloc (.cells #[.slice none 0 0] 26)) s := by
  have h1 := one_new w s 26
  have h2 := one_new (w.alloc (.cells #[s] 26)) (.slice none 0 0) 26
  simp only [World.size_alloc] at h2
  exact ⟨h1.alloc _, h2, by go_grown⟩
theorem conc_form {l : List It} {w w' : World} {e : Ending} (h : ConcEnd l w e w') : ∃ a n c, e = .returned (.slice a n c) ∧ OwnIt w' w.heap.size 52 (.slice a n c) l ∧ Below w.heap.size w w' := by
  obtain ⟨v, rfl, ho, hb⟩ := h
  obtain ⟨a, c, rfl⟩ := ho.slice
  exact ⟨_, _, _, rfl, ho, hb⟩
def DelEnd (l : List It) (id : Nat) (w : World) (e : Ending) (w' : World) : Prop := ∃ s', e = .returned (.agg #[s']) ∧ ChS w' s' (delI id l) ∧ Below w.heap.size w w'
set_option maxHeartbeats 1000000 in
theorem del_no_any (s : Value) (l : List It) (id : Nat) (w : World) (h : ChS w s l) (hid : id < 18446744073709551616) (h0 : (getI id l).isSome = false) :
    Calls Try.prog 14 #[.agg #[s], .int .u64 id] w (DelEnd l id w) := by
  have HP := Lib.hid (fun W (hb : Below w.heap.size w W) => place_any s l id W (h.below hb))
  rw [h0] at HP
  unfold DelEnd
  rw [del_no h0]
  have HS := Lib.hid h
  obtain ⟨a, n, c, rfl⟩ := h.form
  have HST := Lib.hid (del_start w (.slice a n c))
  clear h h0
  go_enter Try.func14, Try.ntmps14
  go_wp2_with fail
  refine (HP.out _ (by go_grown)).mono ?_
  rintro e w1 ⟨rfl, hb⟩
  have H1 := Lib.hid (HST.out.below hb)
  have k0 := H1.out.box.cell
  have r0 := H1.out.res.cell
  have r1 := H1.out.res.frz
  clear hb
  go_wp2_with fail
  refine bodyPost_ret (results_o1 rfl _ _ (w.heap.size + 1) _ _ rfl (H1.out.res.set _).cell Try.underlying26 rfl chart_size) rfl ⟨_, rfl, ?_, H1.out.bel.setCell (p := ⟨w.heap.size + 1, 0, none⟩) (Nat.le_succ _) _⟩
  exact (HS.out.below H1.out.bel).set H1.out.res _
set_option maxHeartbeats 2000000 in
theorem del_yes_any (s : Value) (l : List It) (id : Nat) (w : World) (h : ChS w s l) (hid : id < 18446744073709551616) (h0 : (getI id l).isSome = true) :
    Calls Try.prog 14 #[.agg #[s], .int .u64 id] w (DelEnd l id w) := by
  have HP := Lib.hid (fun W (hb : Below w.heap.size w W) => place_any s l id W (h.below hb))
  have HG := Lib.hid (good_del (id := id) h.good)
  have hlt := is_lt (id := id) h.good.rise h0
  have hM : l.take (loC id l) ++ l.drop (loC id l + 1) = delI id l := by
    have hi := isC (id := id) h.good.rise
    rw [h0] at hi
    obtain ⟨u, hu, he⟩ := of_decide_eq_true hi.symm
    exact (del_yes h.good.rise u hu he).symm
  rw [h0] at HP
  unfold DelEnd
  obtain ⟨a, cap, rfl, hcap, hmx, hc⟩ := h.its
  obtain ⟨t0, ht0⟩ : ∃ t, l[0]? = some t := ⟨_, List.getElem?_eq_getElem (by omega)⟩
  obtain ⟨g, off, rfl, _⟩ := hc 0 t0 ht0
  clear ht0
  have HV := Lib.hid h.its
  have hfew := h.good.few
  generalize delI id l = M at *
  have HM := Lib.hid hM
  generalize loC id l = i at *
  have HST := Lib.hid (del_start w (.slice (some ⟨g, off, none⟩) l.length cap))
  unfold maxLen at hmx
  clear h h0 hc hM
  have hi : (i : Int) ≤ (l.length : Int) := by omega
  have hi2 : (i : Int) ≤ (cap : Int) := by omega
  have hi3 : (i : Int) + 1 ≤ (l.length : Int) := by omega
  have hi4 : (i : Int) + 1 ≤ (cap : Int) := by omega
  have hi5 : IntKind.i64.wrap ((i : Int) + 1) = (i : Int) + 1 := by rw [IntKind.wrap_i64] <;> omega
  have hi6 : ((i : Int) + 1).toNat = i + 1 := by omega
  by_cases hci : cap = i + 1
  · subst hci
    have hl : l.length = i + 1 := by omega
    have hd : l.drop (i + 1) = [] := List.drop_of_length_le (by omega)
    rw [hl] at hi hi3 HV HP HST hlt hcap hfew ⊢
    have HL := Lib.hid hl
    clear hl
    have HD := Lib.hid hd
    clear hd
    go_enter Try.func14, Try.ntmps14
    go_wp2_with fail
    refine (HP.out _ (by go_grown)).mono ?_
    rintro e w1 ⟨rfl, hb⟩
    have H1 := Lib.hid (HST.out.below hb)
    have k0 := H1.out.box.cell
    have r0 := H1.out.res.cell
    have r1 := H1.out.res.frz
    have HV1 := Lib.hid (HV.out.below H1.out.bel)
    have HCC := Lib.hid (fun X b (hX : Below w1.heap.size w1 X) (hb : b < X.heap.size) (c1 : X.cell? ⟨b, 0, none⟩ = some (.slice (some ⟨g, off, none⟩) i (i + 1))) (c2 : X.cell? ⟨b, 1, none⟩ = some (.slice (some ⟨g, off, none⟩) 0 0)) => (concat_any _ _ (l.take i) (l.drop (i + 1)) b X ((HV1.out.pre i (by have := HL.out; omega)).below hX) ((by rw [HD.out]; exact its_none _ : ItsAt w1 (.slice (some ⟨g, off, none⟩) 0 0) (l.drop (i + 1))).below hX) (by rw [List.length_take, List.length_drop]; have := HL.out; omega) hb c1 c2).mono (fun _ _ h => conc_form h))
    clear hb
    go_wp2_with fail
    go_region_with (refine (HCC.out _ _ (by go_grown) (by simp) (by simp [go_sem]) (by simp [go_sem])).mono ?_; rintro e w3 ⟨a5, n5, c5, rfl, ho, hb3⟩; have hbb : Below w1.heap.size w1 w3 := (by go_grown : Below w1.heap.size w1 _).trans (hb3.mono (by simp)); have k3 := (H1.out.below hbb).res.cell; have k4 := (H1.out.below hbb).res.frz)
    all_goals
      go_wp2_with fail
      have H3 := Lib.hid (H1.out.below hbb)
      refine bodyPost_ret (results_o1 rfl _ _ (w.heap.size + 1) _ _ rfl (H3.out.res.set _).cell Try.underlying26 rfl chart_size) rfl ⟨_, rfl, ⟨by rw [← HM.out]; exact ho.itsAt.set H3.out.res _, HG.out⟩, H3.out.bel.setCell (p := ⟨w.heap.size + 1, 0, none⟩) (Nat.le_succ _) _⟩
  · go_enter Try.func14, Try.ntmps14
    go_wp2_with fail
    refine (HP.out _ (by go_grown)).mono ?_
    rintro e w1 ⟨rfl, hb⟩
    have H1 := Lib.hid (HST.out.below hb)
    have k0 := H1.out.box.cell
    have r0 := H1.out.res.cell
    have r1 := H1.out.res.frz
    have HV1 := Lib.hid (HV.out.below H1.out.bel)
    have HCC := Lib.hid (fun X b (hX : Below w1.heap.size w1 X) (hb : b < X.heap.size) (c1 : X.cell? ⟨b, 0, none⟩ = some (.slice (some ⟨g, off, none⟩) i cap)) (c2 : X.cell? ⟨b, 1, none⟩ = some (.slice (some ⟨g, off + (i + 1) * 2, none⟩) (l.length - (i + 1)) (cap - (i + 1)))) => (concat_any _ _ (l.take i) (l.drop (i + 1)) b X ((HV1.out.pre i (by omega)).below hX) ((HV1.out.post (i + 1) hlt).below hX) (by rw [List.length_take, List.length_drop]; omega) hb c1 c2).mono (fun _ _ h => conc_form h))
    clear hb
    go_wp2_with fail
    go_region_with (refine (HCC.out _ _ (by go_grown) (by simp) (by simp [go_sem]) (by simp [go_sem])).mono ?_; rintro e w3 ⟨a5, n5, c5, rfl, ho, hb3⟩; have hbb : Below w1.heap.size w1 w3 := (by go_grown : Below w1.heap.size w1 _).trans (hb3.mono (by simp)); have k3 := (H1.out.below hbb).res.cell; have k4 := (H1.out.below hbb).res.frz)
    all_goals
      go_wp2_with fail
      have H3 := Lib.hid (H1.out.below hbb)
      refine bodyPost_ret (results_o1 rfl _ _ (w.heap.size + 1) _ _ rfl (H3.out.res.set _).cell Try.underlying26 rfl chart_size) rfl ⟨_, rfl, ⟨by rw [← HM.out]; exact ho.itsAt.set H3.out.res _, HG.out⟩, H3.out.bel.setCell (p := ⟨w.heap.size + 1, 0, none⟩) (Nat.le_succ _) _⟩
end Go.Proofs.Ytmmjdlpoiibhaaa
