/- Fork. -/
import Derived.Test.YtegboojhebhlnaaGx
import Derived.Laws.IdiomRangeMap
import Derived.Deep.RegionWith
import Derived.Handy
namespace Go.Proofs.Ytegboojhebhlnaa
open Go.RowKit
set_option linter.unusedVariables false
set_option linter.unusedSimpArgs false
theorem fk_bel1 {w wr w1 : World} {fb mb2 mb r n : Nat} {va : Value} {G2 : Int → Value} {l : List ByteArray} {D : DataW Value} {left : Lit → Bool} {cnt n2 : Nat} (h : FkR w wr fb mb2 mb r n va G2 l D left cnt n2) (hg1 : wr.grownBy w1 (some r)) : Below w.heap.size w w1 ∧ Two w1 fb va (.map (some mb2)) :=
  ⟨h.bel.grown hg1 h.bel.size (fun j hj => by injection hj with hj; have := h.lr; omega), h.two.keep (hg1.block fb h.two.lt (fun e => two_iter h.rg h.two (by injection e)))⟩
theorem owns_below {w w' : World} {mb n : Nat} {D : DataW Value} (h : w.ownsMap Try.prog 3 tokE mb n D) (hb : Below w.heap.size w w') : w'.ownsMap Try.prog 3 tokE mb n D := by
  have hl := h.lt
  obtain ⟨es, clock, hh, r⟩ := h
  exact ⟨es, clock, (hb.block mb hl).trans hh, r⟩
def ForkEnd (l : List ByteArray) (w : World) (e : Ending) (w' : World) : Prop := ∃ v2 S2, e = .returned v2 ∧ PoolS w' v2 l S2 ∧ (∀ b, S2 b → w.heap.size ≤ b) ∧ Below w.heap.size w w'
set_option maxRecDepth 20000 in
set_option maxHeartbeats 2000000 in
theorem fork_none (w : World) (pb : Nat) (va : Value) (G : Int → Value) (hP : PoolAt w pb va (.map none) G []) :
    Calls Try.prog 21 #[.pointer (some ⟨pb, 0, none⟩)] w (ForkEnd [] w) := by
  have HK := Lib.hid (fun X (hX : Below w.heap.size w X) => kclone_any va (plc [] 0) X (hP.all.ktsAt.below hX) (by simp [plc]))
  obtain ⟨c0, c1, _, _⟩ := hP.two
  have hpl := hP.two.lt
  have q2 := fun n W => run_makeMap_hint n W
  have dA : ∀ O, (w.alloc O).cell? ⟨pb, 0, none⟩ = some va := fun O => vcell_later (below_one w O) c0
  have dB : ∀ O, (w.alloc O).cell? ⟨pb, 1, none⟩ = some (.map none) := fun O => vcell_later (below_one w O) c1
  clear hP
  go_enter Try.func21, Try.ntmps21
  go_upto_region 3 with fail
  go_cut [3] (fun f wx => ∃ fb mb2 va2, f = .pointer (some ⟨fb, 0, none⟩) ∧ Fk0 w wx fb mb2 va2 [])
  case first =>
    go_region_with (go_at_call 34; refine (HK.out _ (by go_grown)).mono ?_; rintro e w1 ⟨va2, rfl, ho, hb⟩; obtain ⟨a2, n2, p2, rfl⟩ := ho.form3; have hbw : Below w.heap.size w w1 := (by go_grown : Below w.heap.size w _).trans (hb.mono (by simp)); have d1 := (hbw.cell (p := ⟨pb, 1, none⟩) hpl).trans c1)
    all_goals
      go_wp2_with fail
      go_meet
      case rel => first | exact ⟨_, _, _, rfl, fk_map_last hbw ho (by simp) _⟩ | exact ⟨_, _, _, rfl, fk_map_first (X := w.drew) ((Below.refl _ _).drew) hb ho (by simp) _⟩
  case rest =>
    obtain ⟨fb, mb2, va2, rfl, hf⟩ := hcut
    generalize wc = W at *
    have HF := Lib.hid hf
    have c2 := (hf.bel.cell (p := ⟨pb, 1, none⟩) hpl).trans c1
    have hrg := run_range_nilMap (P := Try.prog) W 57 3 56 Try.underlying57
    have hnx : ∀ ty, (Instr.next (.pointer (some ⟨W.heap.size, 0, none⟩)) false ty).run Try.prog (W.alloc (.mapIter none 0 #[] 0)) = _ := fun ty => run_next_nilMap _ ty 0 0 #[]
    clear hf dA dB q2 HK
    go_wp2_with fail
    refine wp_loop_rounds 1 ?_
    rw [rounds_succ]
    go_wp2_with fail
    go_ret
    obtain ⟨hp, hge⟩ := fk_none HF.out
    have hb := below_one W (.mapIter none 0 #[] 0)
    exact ⟨_, _, rfl, ⟨fb, _, _, _, rfl, hp.below hb, fun b => Iff.rfl⟩, hge, HF.out.bel.trans (hb.mono HF.out.bel.size)⟩
set_option maxRecDepth 20000 in
set_option maxHeartbeats 4000000 in
theorem fork_some (w : World) (pb mb : Nat) (va : Value) (G : Int → Value) (l : List ByteArray) (hP : PoolAt w pb va (.map (some mb)) G l) (hm : MapG w mb l.length G) :
    Calls Try.prog 21 #[.pointer (some ⟨pb, 0, none⟩)] w (ForkEnd l w) := by
  have hfew := hP.good.few
  have HK := Lib.hid (fun X (hX : Below w.heap.size w X) => kclone_any va (plc l 0) X (hP.all.ktsAt.below hX) (by rw [plc_len]; omega))
  have HKG := Lib.hid (fun x X (hX : Below w.heap.size w X) => kclone_any (G x) (grp x (plc l 0)) X ((hP.grps x).ktsAt.below hX) (by have := grp_len x (plc l 0); rw [plc_len] at this; omega))
  obtain ⟨c0, c1, _, _⟩ := hP.two
  have hpl := hP.two.lt
  have hml := hm.lt
  obtain ⟨D, hD, hG⟩ := hm
  have hsz : Maps.size D ≤ l.length := hD.size_le
  have q2 := fun n W => run_makeMap_hint n W
  have dA : ∀ O, (w.alloc O).cell? ⟨pb, 0, none⟩ = some va := fun O => vcell_later (below_one w O) c0
  have dB : ∀ O, (w.alloc O).cell? ⟨pb, 1, none⟩ = some (.map (some mb)) := fun O => vcell_later (below_one w O) c1
  have HP := Lib.hid hP
  have HD := Lib.hid (And.intro hD (And.intro hsz hG))
  clear hP hD hG hsz
  go_enter Try.func21, Try.ntmps21
  go_upto_region 3 with fail
  go_cut [3] (fun f wx => ∃ fb mb2 va2, f = .pointer (some ⟨fb, 0, none⟩) ∧ Fk0 w wx fb mb2 va2 l)
  case first =>
    go_region_with (go_at_call 34; refine (HK.out _ (by go_grown)).mono ?_; rintro e w1 ⟨va2, rfl, ho, hb⟩; obtain ⟨a2, n2, p2, rfl⟩ := ho.form3; have hbw : Below w.heap.size w w1 := (by go_grown : Below w.heap.size w _).trans (hb.mono (by simp)); have d1 := (hbw.cell (p := ⟨pb, 1, none⟩) hpl).trans c1; have hl1 := (owns_below HD.out.1 hbw).len Try.underlying57 3)
    all_goals
      go_wp2_with fail
      go_meet
      case rel => first | exact ⟨_, _, _, rfl, fk_map_last hbw ho (by simp) _⟩ | exact ⟨_, _, _, rfl, fk_map_first (X := w.drew) ((Below.refl _ _).drew) hb ho (by simp) _⟩
  case rest =>
    obtain ⟨fb, mb2, va2, rfl, hf⟩ := hcut
    generalize wc = W at *
    have HF := Lib.hid hf
    have c2 := (hf.bel.cell (p := ⟨pb, 1, none⟩) hpl).trans c1
    have hown : W.ownsMap Try.prog 3 tokE mb l.length D := by
      obtain ⟨es, clock, hb, r⟩ := HD.out.1
      exact ⟨es, clock, (hf.bel.block mb hml).trans hb, r⟩
    clear hf dA dB q2 HK c0 c1
    go_wp2_with (first | (at_range; refine wpList_range_own _ rfl _ 57 rfl 3 56 lawI Try.underlying57 tokE mb l.length D rfl hown ?_; intro w0 hrg0 hg0 hs0) | fail)
    go_frame
    have HST := Lib.hid (fk_start HP.out HF.out HD.out.2.1 HD.out.2.2 hrg0 hg0)
    clear hrg0 hg0 hs0 hown
    go_loopw [4] (fun _ wr => ∃ left cnt n2 G2, FkR w wr fb mb2 mb W.heap.size l.length va2 G2 l D left cnt n2) (fun _ wr => wr.rangeLeft mb W.heap.size)
    case atStart => exact ⟨_, _, _, _, HST.out⟩
    case round =>
      obtain ⟨left, cnt, n2, G2, hR⟩ := hrel
      have HR := Lib.hid hR
      clear HST
      go_wp2_with (first | (at_next; refine wpList_next_ranges _ rfl _ rfl 3 lawI tokE (Value.int .i64) (fun v : Value => v) (fun key kl hkey => (by obtain ⟨x, rfl, _⟩ := Maps.keyOf_int_inv Try.underlying3 hkey; exact ⟨x, rfl⟩)) (fun v y _ => ⟨v, rfl⟩) mb W.heap.size l.length D left cnt rfl hR.rg ?_ ?_) | fail)
      · intro hc0 hl0
        have HL0 := Lib.hid hl0
        clear hR hl0
        go_wp2_with fail
        go_ret
        obtain ⟨hp, hge⟩ := fk_end HP.out.good HR.out (Nat.le_refl _) HL0.out
        exact ⟨_, _, rfl, ⟨fb, _, _, _, rfl, hp, fun b => Iff.rfl⟩, hge, HR.out.bel⟩
      · intro x c kl y ps w1 cnt1 hkey hlx hy hat hrg1 hlt hg1 hs1 hen
        obtain ⟨x', hx', rfl, hwx⟩ := Maps.keyOf_int_inv Try.underlying3 hkey
        injection hx' with _ hx'
        subst hx'
        obtain ⟨_, hye⟩ := tok_inv hy
        obtain ⟨rfl, rfl⟩ := Prod.mk.inj hye
        have hcG : c = G x := by
          have h1 := hat (.held nilS)
          rw [HD.out.2.2 x hwx] at h1
          injection h1 with h1
          exact h1.symm
        subst hcG
        obtain ⟨hbw1, ht1⟩ := fk_bel1 hR hg1
        have HB1 := Lib.hid hbw1
        obtain ⟨e0, e1, _, _⟩ := ht1
        have HKX := Lib.hid (fun X (hX : Below w1.heap.size w1 X) => HKG.out x X (HB1.out.trans (hX.mono HB1.out.size)))
        have HH := Lib.hid (And.intro hrg1 (And.intro hlt hg1))
        have hn2 : n2 < maxLen := by have := hR.cn; unfold maxLen; omega
        clear hkey hlx hy hat hrg1 hlt hg1 hs1 hR hbw1
        go_upto_region 7 with fail
        go_region_with (go_at_call 34; refine (HKX.out _ (by go_grown)).mono ?_; rintro e w2 ⟨v', rfl, ho, hb⟩; obtain ⟨a3, n3, p3, rfl⟩ := ho.form3; obtain ⟨hm2, ht2⟩ := fk_map HR.out HH.out.2.2 (by go_grown) hb; obtain ⟨w3, hup, hm3, hg3⟩ := hm2.put hn2 x hwx _ ⟨a3, n3, p3, rfl⟩; have hst := fk_step hml HR.out x hwx HH.out.1 HH.out.2.1 HH.out.2.2 (by go_grown) hb ho hm3 hg3; obtain ⟨k0, k1, _, _⟩ := ht2)
        all_goals
          go_wp2_with fail
          go_roundw
          case rel => exact ⟨_, _, _, _, hst⟩
          case measure => rw [hst.rg.left_eq, HR.out.rg.left_eq]; exact HH.out.2.1
theorem fork_any (v : Value) (l : List ByteArray) (S : Nat → Prop) (w : World) (h : PoolS w v l S) :
    Calls Try.prog 21 #[v] w fun e w' => ∃ v2 S2, e = .returned v2 ∧ PoolS w' v2 l S2 ∧ (∀ b, S2 b → w.heap.size ≤ b) ∧ Below w.heap.size w w' := by
  obtain ⟨pb, va, vm, G, rfl, hP, hS⟩ := h
  rcases hP.map with ⟨rfl, rfl, hG⟩ | ⟨mb, rfl, hm⟩
  · exact fork_none w pb va G hP
  · exact fork_some w pb mb va G l hP hm
end Go.Proofs.Ytegboojhebhlnaa
