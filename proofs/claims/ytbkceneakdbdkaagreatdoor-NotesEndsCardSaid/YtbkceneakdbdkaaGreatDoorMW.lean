/- Several texts, one behind the other: Re. -/
import Derived.Test.YtbkceneakdbdkaaGreatDoorMV
import Derived.Deep.RegionHeld3
/- The program's own: a copy of a value. -/
namespace Go.Proofs.YtbkceneakdbdkaaGreatDoor
open Go.RowKit
set_option maxRecDepth 20000
set_option linter.unusedVariables false
set_option linter.unusedSimpArgs false
set_option maxHeartbeats 8000000
theorem lf_made {S : Nat → Prop} {J : Js} {x : Value} {w : World} (h : AnyAt S w J x) : Lf w J (.slice (some ⟨w.heap.size + 1, 0, none⟩) 1 1) [(w.heap.size, 0)] [J] ((w.alloc (.cells #[x] 20)).alloc (.cells #[.pointer (some ⟨w.heap.size, 0, none⟩)] 96)) := by
  obtain ⟨w1, h1⟩ : ∃ w1, w.alloc (.cells #[x] 20) = w1 := ⟨_, rfl⟩
  obtain ⟨w2, h2⟩ : ∃ w2, w1.alloc (.cells #[.pointer (some ⟨w.heap.size, 0, none⟩)] 96) = w2 := ⟨_, rfl⟩
  rw [h1, h2]
  have s1 : w1.heap.size = w.heap.size + 1 := by rw [← h1]; simp
  have s2 : w2.heap.size = w.heap.size + 1 + 1 := by rw [← h2, World.size_alloc, s1]
  have a2 : w2.heap[w.heap.size + 1]? = some (.cells #[.pointer (some ⟨w.heap.size, 0, none⟩)] 96 (0, 0)) := by rw [← h2, ← s1]; exact heap_new17 _ _
  have a1 : w2.heap[w.heap.size]? = some (.cells #[x] 20 (0, 0)) := by rw [← h2, heap_old17 (by omega), ← h1]; exact heap_new17 _ _
  have hb : Below w.heap.size w w2 := by rw [← h2, ← h1]; exact ((Below.refl _ w).alloc (Nat.le_refl _) _).alloc (by simp) _
  have hx : AnyAt (fun b => (Value.slice (some ⟨w.heap.size + 1, 0, none⟩) 1 1).ownBlock ≠ some b) w2 J x := AnyAt.keep (fun b _ hlt e => by simp [Value.ownBlock] at e; omega) hb.size (fun b _ hlt => hb.block b hlt) J x h
  have c0 : w2.cell? ⟨w.heap.size, 0, none⟩ = some x := by simp [World.cell?, a1]
  refine ⟨⟨rfl, .inr ⟨w.heap.size + 1, 1, _, rfl, Nat.le_refl _, a2, Nat.le_refl _, by unfold maxLen; omega, rfl, rfl⟩⟩, rfl, fun k p K hp hK => ?_, ⟨x, c0, hx⟩, hb, by omega⟩
  match k, hp, hK with
  | 0, hp, hK =>
    obtain rfl : (w.heap.size, 0) = p := by simpa using hp
    obtain rfl : J = K := by simpa using hK
    exact ⟨Nat.le_refl _, by simp [Value.ownBlock], by simp [World.frozen?, a1], x, c0, hx⟩
  | k + 1, hp, hK => simp at hp
theorem Lf.cellAt {w0 : World} {J : Js} {a : Option Addr} {n c : Nat} {ps : List (Nat × Nat)} {Ks : List Js} {W : World} (h : Lf w0 J (.slice a n c) ps Ks W) {k : Nat} {p : Nat × Nat} (hp : ps[k]? = some p) : ∃ g, a = some ⟨g, 0, none⟩ ∧ n = ps.length ∧ g < W.heap.size ∧ W.cell? ⟨g, k, none⟩ = some (.pointer (some ⟨p.1, p.2, none⟩)) := by
  have hr := h.row
  have hkl := (List.getElem?_eq_some_iff.1 hp).1
  rcases hr.2 with ⟨hv, hn⟩ | ⟨g, cap, cur, hv, hg, hh, _⟩
  · omega
  · injection hv with h1 h2 h3
    subst h1
    have := World.ownsRow.cells hr rfl k (ptrV p) (by rw [List.getElem?_map, hp]; rfl)
    rw [Go.WideShapes.add_plain, Nat.zero_add] at this
    exact ⟨g, rfl, h2, World.block_lt_of_cell? _ _ this, this⟩
theorem Lf.form {w0 : World} {J : Js} {lv : Value} {ps : List (Nat × Nat)} {Ks : List Js} {W : World} (h : Lf w0 J lv ps Ks W) : ∃ a c, lv = .slice a ps.length c ∧ ps.length ≤ c ∧ c ≤ maxLen := by
  rcases h.row.2 with ⟨hv, hn⟩ | ⟨g, cap, cur, hv, hg, hh, hle, hm, _⟩
  · exact ⟨none, 0, by rw [hv, hn], by omega, by omega⟩
  · exact ⟨_, cap, hv, hle, hm⟩
theorem Mid.start {pr : Bool} {w : World} {J : Js} {k : Nat} {p : Nat × Nat} {y : Value} {src : Option Addr} {l : Jl} {v' : Value} {xs : List Value} {lv : Value} {ps : List (Nat × Nat)} {Ks : List Js} {wr w1 : World} (hlf : Lf w J lv ps Ks wr) (hp : ps[k]? = some p) (hpot : k + 1 + sumK (Ks.drop (k + 1)) + szL l = szV J)
    (el : ∀ (j : Nat) (n : List Int) (v : Js) (u : Value), l.at? j = some (n, v) → xs[j * szI pr + (szI pr - 1)]? = some u → AnyAt (fun b => lv.ownBlock ≠ some b) wr v u)
    (sr : ∀ (j : Nat) (u : Value), xs[j]? = some u → ∃ g off, src = some ⟨g, off, none⟩ ∧ lv.ownBlock ≠ some g ∧ wr.cell? ⟨g, off + j, none⟩ = some u)
    (pc : wr.cell? ⟨p.1, p.2, none⟩ = some y) (pf : wr.frozen? ⟨p.1, p.2, none⟩ = false) (pn : lv.ownBlock ≠ some p.1 ∧ w.heap.size ≤ p.1)
    (hb : Below wr.heap.size wr w1) (hown : w1.ownsRow wr.heap.size (tyI pr) (szI pr) v' l.length xs) : Mid pr w J k p y src l v' xs lv ps Ks 0 w1 := by
  have hlt := World.ownsRow.lt hown
  have hll := hlf.lt
  refine ⟨hlf.below hb, hp, by rw [Jl.drop_zero]; exact hpot, ?_, fun b e => ⟨fun x => by have := (hlt b e).1; have := (hll b x).2; omega, fun x => by have := (hlt b e).1; have := World.block_lt_of_cell? _ _ pc; simp only at this; omega⟩, fun j n v u hj hu => (el j n v u hj hu).below hb, fun j u hu => ?_, cell_kept hb pc, (World.frozen?_of_block (a := ⟨p.1, p.2, none⟩) (hb.block _ (World.block_lt_of_cell? _ _ pc))).trans pf, pn⟩
  · obtain ⟨g1, g2⟩ := hown
    refine ⟨g1, ?_⟩
    rcases g2 with g2 | ⟨g, cap, cur, hv, hg, hh, r⟩
    · exact .inl g2
    · exact .inr ⟨g, cap, cur, hv, Nat.le_trans hlf.sz hg, hh, r⟩
  · obtain ⟨g, off, e, hn, hc⟩ := sr j u hu
    exact ⟨g, off, e, hn, cell_kept hb hc⟩
theorem Mid.few {pr : Bool} {w0 : World} {J : Js} {k : Nat} {p : Nat × Nat} {y : Value} {src : Option Addr} {l : Jl} {v' : Value} {xs : List Value} {lv : Value} {ps : List (Nat × Nat)} {Ks : List Js} {i : Nat} {W : World} (h : Mid pr w0 J k p y src l v' xs lv ps Ks i W) : ps.length ≤ szV J ∧ k < ps.length := by
  have h1 := sumK_len (Ks.drop (k + 1))
  rw [List.length_drop, h.lf.len] at h1
  have := h.pot
  have h2 := (List.getElem?_eq_some_iff.1 h.pk).1
  omega
theorem szL_len : ∀ l : Jl, l.length ≤ szL l
  | .nil => Nat.zero_le _
  | .cons n v t => by rw [szL, Jl.length]; have := szL_len t; have := szV_pos v; omega
theorem pown_any (S : Nat → Prop) (J : Js) (x : Value) (w : World) (hx : AnyAt S w J x) (hN : szV J ≤ 1000000) : Calls Tryz.prog 28 #[x] w fun e w' => (∃ x', e = .returned x' ∧ AnyAt aB w' J x') ∧ Below w.heap.size w w' := by
  have HM := Lib.hid (lf_made hx)
  have hxf := any_form hx
  clear hx
  rcases hxf with rfl | ⟨tx, yx, rfl⟩
  · go_enter Tryz.func28, Tryz.ntmps28
    go_wp2_with fail
    go_loopw [3, 4] (fun l z wr => ∃ (a : Option Addr) (c : Nat) (ps : List (Nat × Nat)) (Ks : List Js) (k : Nat), l = .slice a ps.length c ∧ z = .int .i64 k ∧ k ≤ ps.length ∧ Hid (Lf w J (.slice a ps.length c) ps Ks wr) ∧ Hid (k + sumK (Ks.drop k) = szV J)) (fun _ z _ => szV J - (intOf z).toNat)
    case atStart => exact ⟨_, _, [(w.heap.size, 0)], [J], 0, rfl, rfl, by simp, HM, Lib.hid (by simp [sumK])⟩
    case round =>
      obtain ⟨a, c, ps, Ks, k, hl, rfl, hk, HLF, HPOT⟩ := hrel
      have hl := hl.symm
      have hpl : ps.length ≤ szV J := by
        have h1 := sumK_len (Ks.drop k)
        rw [List.length_drop, HLF.out.len] at h1
        have := HPOT.out
        omega
      have hcap : (ps.length : Int) ≤ 1048576 := by omega
      subst hl
      by_cases hlt : k < ps.length
      · have hi2 : (k : Int) < (ps.length : Int) := by omega
        obtain ⟨p, hp⟩ : ∃ p, ps[k]? = some p := ⟨_, List.getElem?_eq_getElem hlt⟩
        obtain ⟨K, hK⟩ : ∃ K, Ks[k]? = some K := ⟨_, List.getElem?_eq_getElem (by rw [HLF.out.len]; exact hlt)⟩
        obtain ⟨pb, po⟩ := p
        obtain ⟨g, rfl, _, hg, l0⟩ := HLF.out.cellAt hp
        obtain ⟨t1, t2, t3, y, t4, t5⟩ := HLF.out.tg k _ K hp hK
        simp only at l0 t1 t2 t3 t4
        have hpb := World.block_lt_of_cell? _ _ t4
        simp only at hpb
        have HP := Lib.hid hp
        have hpot := HPOT.out
        rw [sumK_at Ks k K hK] at hpot
        have HT1 := Lib.hid t1
        have HT2 := Lib.hid t2
        clear hp hK t1 t2
        cases K with
        | nul =>
          rw [AnyAt] at t5
          subst t5
          rw [szV] at hpot
          have HPT := Lib.hid (show k + 1 + sumK (Ks.drop (k + 1)) = szV J by omega)
          clear hpot
          have a0 := fun W => assert_nil 20 9 _ _ Tryz.underlying9 rfl zStr W
          have a1 := fun W => assert_nil 20 57 _ _ Tryz.underlying57 rfl zLst W
          have a2 := fun W => assert_nil 20 58 _ _ Tryz.underlying58 rfl zPrs W
          go_wp2_with fail
          go_roundw
          case rel => exact ⟨_, c, ps, Ks, k + 1, rfl, by go_num, by omega, HLF, HPT⟩
          case measure => simp [intOf]; omega
        | bool q =>
          rw [AnyAt] at t5
          subst t5
          rw [szV] at hpot
          have HPT := Lib.hid (show k + 1 + sumK (Ks.drop (k + 1)) = szV J by omega)
          clear hpot
          have a0 := fun W => assert_no 20 9 4 (.bool q) _ _ Tryz.underlying9 rfl zStr (by decide) W
          have a1 := fun W => assert_no 20 57 4 (.bool q) _ _ Tryz.underlying57 rfl zLst (by decide) W
          have a2 := fun W => assert_no 20 58 4 (.bool q) _ _ Tryz.underlying58 rfl zPrs (by decide) W
          go_wp2_with fail
          go_roundw
          case rel => exact ⟨_, c, ps, Ks, k + 1, rfl, by go_num, by omega, HLF, HPT⟩
          case measure => simp [intOf]; omega
        | num q =>
          rw [AnyAt] at t5
          subst t5
          rw [szV] at hpot
          have HPT := Lib.hid (show k + 1 + sumK (Ks.drop (k + 1)) = szV J by omega)
          clear hpot
          have a0 := fun W => assert_no 20 9 3 (.int .i64 q) _ _ Tryz.underlying9 rfl zStr (by decide) W
          have a1 := fun W => assert_no 20 57 3 (.int .i64 q) _ _ Tryz.underlying57 rfl zLst (by decide) W
          have a2 := fun W => assert_no 20 58 3 (.int .i64 q) _ _ Tryz.underlying58 rfl zPrs (by decide) W
          go_wp2_with fail
          go_roundw
          case rel => exact ⟨_, c, ps, Ks, k + 1, rfl, by go_num, by omega, HLF, HPT⟩
          case measure => simp [intOf]; omega
        | bad =>
          rw [AnyAt] at t5
          subst t5
          rw [szV] at hpot
          have HPT := Lib.hid (show k + 1 + sumK (Ks.drop (k + 1)) = szV J by omega)
          clear hpot
          have a0 := fun W => assert_no 20 9 59 (.float .f64 4609434218613702656) _ _ Tryz.underlying9 rfl zStr (by decide) W
          have a1 := fun W => assert_no 20 57 59 (.float .f64 4609434218613702656) _ _ Tryz.underlying57 rfl zLst (by decide) W
          have a2 := fun W => assert_no 20 58 59 (.float .f64 4609434218613702656) _ _ Tryz.underlying58 rfl zPrs (by decide) W
          go_wp2_with fail
          go_roundw
          case rel => exact ⟨_, c, ps, Ks, k + 1, rfl, by go_num, by omega, HLF, HPT⟩
          case measure => simp [intOf]; omega
        | str q' =>
          rw [AnyAt] at t5
          obtain ⟨q, rfl, hq, hql⟩ := t5
          rw [szV] at hpot
          have HPT := Lib.hid (show k + 1 + sumK (Ks.drop (k + 1)) = szV J by omega)
          have hqs : q.size ≤ 5000 := by rw [← bI_len, hq]; exact hql
          have HCL := Lib.hid (fun W => clone_any q W (by omega))
          clear hpot hq hql
          have a0 := fun W => assert_yes 20 9 (.string q) _ Tryz.underlying9 rfl W
          go_upto_region 8 with fail
          have HS0 : wr.drew.cell? ⟨g, k, none⟩ = some (.pointer (some ⟨pb, po, none⟩)) ∧ wr.drew.cell? ⟨pb, po, none⟩ = some (.iface 9 (.string q)) ∧ wr.drew.frozen? ⟨pb, po, none⟩ = false ∧ Below wr.heap.size wr wr.drew := ⟨l0, t4, t3, (Below.refl _ wr).drew⟩
          clear l0 t4 t3
          refine wp_region_held_drew (S := fun w' => w'.cell? ⟨g, k, none⟩ = some (.pointer (some ⟨pb, po, none⟩)) ∧ w'.cell? ⟨pb, po, none⟩ = some (.iface 9 (.string q)) ∧ w'.frozen? ⟨pb, po, none⟩ = false ∧ Below wr.heap.size wr w') (by kernel_rfl) HS0 (fun hH0 => ?_)
          refine takeH (i := 0) (d := 33) (v := ?_) rfl rfl (by kernel_rfl) (by kernel_rfl) (by kernel_rfl) (fun _ _ _ h => h) (Or.inl ⟨by rfl, ?y0⟩) hH0 ?_
          case y0 => intro w hSw; obtain ⟨hq0, hq1, hq2, hq3⟩ := hSw; go_simp; try with_reducible rfl
          try simp only [Act.put, List.setIfInBounds_toArray, List.set_cons_zero, List.set_cons_succ]
          refine takeH (i := 1) (d := 34) (v := ?_) rfl rfl (by kernel_rfl) (by kernel_rfl) (by kernel_rfl) (fun _ _ _ h => h) (Or.inl ⟨by rfl, ?y1⟩) hH0 ?_
          case y1 => intro w hSw; obtain ⟨hq0, hq1, hq2, hq3⟩ := hSw; go_simp; try with_reducible rfl
          try simp only [Act.put, List.setIfInBounds_toArray, List.set_cons_zero, List.set_cons_succ]
          refine takeH (i := 2) (d := 35) (v := ?_) rfl rfl (by kernel_rfl) (by kernel_rfl) (by kernel_rfl) (fun _ _ _ h => h) (Or.inl ⟨by rfl, ?y2⟩) hH0 ?_
          case y2 => intro w hSw; obtain ⟨hq0, hq1, hq2, hq3⟩ := hSw; go_simp; try with_reducible rfl
          try simp only [Act.put, List.setIfInBounds_toArray, List.set_cons_zero, List.set_cons_succ]
          refine takeH (i := 3) (d := 36) (v := ?_) rfl rfl (by kernel_rfl) (by kernel_rfl) (by kernel_rfl) (fun _ _ _ h => h) (Or.inl ⟨by rfl, ?y3⟩) hH0 ?_
          case y3 => intro w hSw; obtain ⟨hq0, hq1, hq2, hq3⟩ := hSw; go_simp; try with_reducible rfl
          try simp only [Act.put, List.setIfInBounds_toArray, List.set_cons_zero, List.set_cons_succ]
          refine takeH (i := 4) (d := 37) (v := ?_) rfl rfl (by kernel_rfl) (by kernel_rfl) (by kernel_rfl) (fun _ _ _ h => h) (Or.inl ⟨by rfl, ?y4⟩) hH0 ?_
          case y4 => intro w hSw; obtain ⟨hq0, hq1, hq2, hq3⟩ := hSw; go_simp; try with_reducible rfl
          try simp only [Act.put, List.setIfInBounds_toArray, List.set_cons_zero, List.set_cons_succ]
          refine wpAnyH_ready (rs := [5]) (by kernel_rfl) (by simp) ?_
          refine AllReadyH.cons rfl (fun K hK => ?_) AllReadyH.nil
          go_simp
          refine (HCL.out _).mono ?_
          rintro e w' ⟨rfl, hb⟩
          go_wp2_with fail
          refine hK.out _ _ (⟨cell_kept hb hH0.1, cell_kept hb hH0.2.1, (World.frozen?_of_block (a := ⟨pb, po, none⟩) (hb.block _ (World.block_lt_of_cell? _ _ hH0.2.1))).trans hH0.2.2.1, hH0.2.2.2.trans (hb.mono hH0.2.2.2.size)⟩) (fun hH1 => ?_)
          clear hK K hb hH0
          try simp only [Act.put, List.setIfInBounds_toArray, List.set_cons_zero, List.set_cons_succ]
          refine takeH (i := 6) (d := 39) (v := ?_) rfl rfl (by kernel_rfl) (by kernel_rfl) (by kernel_rfl) (fun _ _ _ h => h) (Or.inl ⟨by rfl, ?y6⟩) hH1 ?_
          case y6 => intro w hSw; obtain ⟨hq0, hq1, hq2, hq3⟩ := hSw; go_simp; try with_reducible rfl
          try simp only [Act.put, List.setIfInBounds_toArray, List.set_cons_zero, List.set_cons_succ]
          refine takeH (i := 7) (d := 40) (v := ?_) rfl rfl (by kernel_rfl) (by kernel_rfl) (by kernel_rfl) (fun _ _ _ h => h) (Or.inl ⟨by rfl, ?y7⟩) hH1 ?_
          case y7 => intro w hSw; obtain ⟨hq0, hq1, hq2, hq3⟩ := hSw; go_simp; try with_reducible rfl
          try simp only [Act.put, List.setIfInBounds_toArray, List.set_cons_zero, List.set_cons_succ]
          refine wpAnyH_ready (rs := [8]) (by kernel_rfl) (by simp) ?_
          refine AllReadyH.cons rfl (fun K hK => ?_) AllReadyH.nil
          have hHX := hH1
          obtain ⟨hq0, hq1, hq2, hq3⟩ := hH1
          go_simp
          rw [setCell_id hq1]
          refine hK.out _ _ hHX (fun hH2 => ?_)
          try simp only [Act.put, List.setIfInBounds_toArray, List.set_cons_zero, List.set_cons_succ]
          refine wpAnyH_done (by kernel_rfl) ?_ _
          have HB2 := Lib.hid hH2.2.2.2
          clear hH2 hHX hq0 hq1 hq2 hq3
          have HLF := Lib.hid (HLF.out.below HB2.out)
          go_wp2_with fail
          go_roundw
          case rel => exact ⟨_, c, ps, Ks, k + 1, rfl, by go_num, by omega, HLF, HPT⟩
          case measure => simp [intOf]; omega
        | arr ll =>
          rw [AnyAt] at t5
          obtain ⟨sa, scap, rfl, sh1, sh2, sr⟩ := t5
          obtain ⟨xs, g1, g2, g3, g4⟩ := rowA_list ll 0 sr
          rw [szV] at hpot
          have hll := szL_len ll
          have HPT := Lib.hid (show k + 1 + sumK (Ks.drop (k + 1)) + szL ll = szV J by omega)
          have HXL := Lib.hid g1
          have hlen : ll.length ≤ 1000000 := by omega
          have hlen2 : (ll.length : Int) ≤ 9223372036854775807 := by omega
          have HCL := Lib.hid (fun W (hb : Below wr.heap.size wr W) => cloneA_any sa ll.length scap W xs hlen (by rw [g1, Nat.mul_one]) g2 (fun j u hu => by
            obtain ⟨g, off, e1, _, _, e2⟩ := g3 j u hu
            rw [Nat.zero_add] at e2
            exact ⟨g, off, e1, cell_kept hb e2⟩))
          have HMID := Lib.hid (fun w1 v' hb hown => Mid.start (pr := false) (v' := v') (w1 := w1) (src := sa) (l := ll) (xs := xs) HLF.out HP.out HPT.out (fun j n v u hj hu => g4 j n v u hj (by rw [show j * szI false + (szI false - 1) = j by simp [szI]] at hu; exact hu)) (fun j u hu => by
            obtain ⟨g, off, e1, e3, _, e2⟩ := g3 j u hu
            rw [Nat.zero_add] at e2
            exact ⟨g, off, e1, e3, e2⟩) t4 t3 ⟨HT2.out, HT1.out⟩ hb hown)
          clear hpot sr g1 g2 g3 g4
          have a0 := fun W => assert_no 20 9 57 (.slice sa ll.length scap) _ _ Tryz.underlying9 rfl zStr (by decide) W
          have a9 := fun W => assert_yes 20 57 (.slice sa ll.length scap) _ Tryz.underlying57 rfl W
          go_wp2_with fail
          refine (HCL.out _ (by go_grown)).mono ?_
          rintro e w1 ⟨⟨v', rfl, hown⟩, hb1⟩
          have hmid := HMID.out w1 v' hb1 hown
          obtain ⟨a', c', rfl, hc1, hc2, _⟩ := hmid.form
          have HMD := Lib.hid hmid
          clear hmid hown hb1 t3 t4 l0 HMID HCL
          go_wp2_with fail
          go_loopw [3, 48] (fun l z wr2 => ∃ (a2 : Option Addr) (c2 : Nat) (ps2 : List (Nat × Nat)) (Ks2 : List Js) (i : Nat), l = .slice a2 ps2.length c2 ∧ z = .int .i64 i ∧ i ≤ ll.length ∧ Hid (Mid false w J k (pb, po) (.iface 57 (.slice sa ll.length scap)) sa ll (.slice a' ll.length c') xs (.slice a2 ps2.length c2) ps2 Ks2 i wr2)) (fun _ z _ => ll.length - (intOf z).toNat)
          case atStart => exact ⟨_, c, ps, Ks, 0, rfl, rfl, Nat.zero_le _, HMD⟩
          case round =>
            obtain ⟨a2, c2, ps2, Ks2, i, hl2, rfl, hi, HM2⟩ := hrel
            have hl2 := hl2.symm
            subst hl2
            by_cases hil : i < ll.length
            · have hi3 : (i : Int) < (ll.length : Int) := by omega
              obtain ⟨nm, v, hat⟩ := Jl.lt_at ll i hil
              obtain ⟨u, hu⟩ : ∃ u, xs[i]? = some u := ⟨_, List.getElem?_eq_getElem (by rw [HXL.out]; omega)⟩
              obtain ⟨a'', c'', he, _, _, hfm⟩ := HM2.out.form
              injection he with he1 he2 he3
              subst he1
              subst he3
              obtain ⟨g', rfl, _, hgl, _, hgp, hgc, hgf⟩ := hfm _ u hu
              have hfew := HM2.out.few.1
              have HAT := Lib.hid hat
              obtain ⟨lv2, W2, hr, hm3⟩ := HM2.out.push (by omega) rfl hat
              have e0 : i * szI false + (szI false - 1) = i := by simp [szI]
              rw [e0] at hr hm3
              obtain ⟨a3, c3, hv3, _⟩ := hm3.lf.form
              have HM3 := Lib.hid hm3
              rw [hv3] at HM3 hr
              clear hm3
              clear hat hu hfm he2 hgp
              go_wp2_with (first | (at_builtin; refine Lib.wpList_append_run _ rfl _ _ _ _ rfl _ _ rfl rfl _ _ hr ?_) | fail)
              go_roundw
              case rel => exact ⟨a3, c3, _, _, i + 1, by rw [List.length_append]; rfl, by go_num, by omega, HM3⟩
              case measure => simp [intOf]; omega
            · obtain rfl : i = ll.length := by omega
              have hi3 : ¬ ((ll.length : Nat) : Int) < (ll.length : Int) := by omega
              have HD := Lib.hid HM2.out.done
              have HF2 := Lib.hid HM2.out.few
              have hpot2 := HM2.out.pot
              rw [Jl.drop_len, szL, Nat.add_zero] at hpot2
              have HPT2 := Lib.hid hpot2
              obtain ⟨g2, rfl, _, hg2, lg⟩ := HM2.out.lf.cellAt HM2.out.pk
              have pc := HM2.out.pc
              have pf := HM2.out.pf
              simp only at lg pc pf
              have hk2 : (k : Int) < (ps2.length : Int) := by have := HF2.out.2; omega
              have hpb2 := World.block_lt_of_cell? _ _ pc
              simp only at hpb2
              clear hpot2
              go_wp2_with fail
              go_roundw
              case rel => exact ⟨_, c2, ps2, Ks2, k + 1, rfl, by go_num, HF2.out.2, HD, HPT2⟩
              case measure => simp [intOf]; omega
        | obj ll =>
          rw [AnyAt] at t5
          obtain ⟨sa, scap, rfl, sh1, sh2, sr⟩ := t5
          obtain ⟨xs, g1, g2, g3, g4, g5⟩ := rowP_list ll 0 sr
          rw [szV] at hpot
          have hll := szL_len ll
          have HPT := Lib.hid (show k + 1 + sumK (Ks.drop (k + 1)) + szL ll = szV J by omega)
          have HXL := Lib.hid g1
          have HG5 := Lib.hid g5
          clear g5
          have hlen : ll.length ≤ 1000000 := by omega
          have hlen2 : (ll.length : Int) ≤ 9223372036854775807 := by omega
          have HCL := Lib.hid (fun W (hb : Below wr.heap.size wr W) => cloneP_any sa ll.length scap W xs hlen (by rw [g1]) g2 (fun j u hu => by
            obtain ⟨g, off, e1, _, _, e2⟩ := g3 j u hu
            rw [Nat.zero_mul, Nat.zero_add] at e2
            exact ⟨g, off, e1, cell_kept hb e2⟩))
          have HMID := Lib.hid (fun w1 v' hb hown => Mid.start (pr := true) (v' := v') (w1 := w1) (src := sa) (l := ll) (xs := xs) HLF.out HP.out HPT.out (fun j n v u hj hu => g4 j n v u hj hu) (fun j u hu => by
            obtain ⟨g, off, e1, e3, _, e2⟩ := g3 j u hu
            rw [Nat.zero_mul, Nat.zero_add] at e2
            exact ⟨g, off, e1, e3, e2⟩) t4 t3 ⟨HT2.out, HT1.out⟩ hb hown)
          clear hpot sr g1 g2 g3 g4
          have a0 := fun W => assert_no 20 9 58 (.slice sa ll.length scap) _ _ Tryz.underlying9 rfl zStr (by decide) W
          have a1 := fun W => assert_no 20 57 58 (.slice sa ll.length scap) _ _ Tryz.underlying57 rfl zLst (by decide) W
          have a9 := fun W => assert_yes 20 58 (.slice sa ll.length scap) _ Tryz.underlying58 rfl W
          go_wp2_with fail
          refine (HCL.out _ (by go_grown)).mono ?_
          rintro e w1 ⟨⟨v', rfl, hown⟩, hb1⟩
          have hmid := HMID.out w1 v' hb1 hown
          obtain ⟨a', c', rfl, hc1, hc2, _⟩ := hmid.form
          have HMD := Lib.hid hmid
          clear hmid hown hb1 t3 t4 l0 HMID HCL
          go_wp2_with fail
          go_loopw [3, 72] (fun l z wr2 => ∃ (a2 : Option Addr) (c2 : Nat) (ps2 : List (Nat × Nat)) (Ks2 : List Js) (i : Nat), l = .slice a2 ps2.length c2 ∧ z = .int .i64 i ∧ i ≤ ll.length ∧ Hid (Mid true w J k (pb, po) (.iface 58 (.slice sa ll.length scap)) sa ll (.slice a' ll.length c') xs (.slice a2 ps2.length c2) ps2 Ks2 i wr2)) (fun _ z _ => ll.length - (intOf z).toNat)
          case atStart => exact ⟨_, c, ps, Ks, 0, rfl, rfl, Nat.zero_le _, HMD⟩
          case round =>
            obtain ⟨a2, c2, ps2, Ks2, i, hl2, rfl, hi, HM2⟩ := hrel
            have hl2 := hl2.symm
            subst hl2
            by_cases hil : i < ll.length
            · have hi3 : (i : Int) < (ll.length : Int) := by omega
              obtain ⟨nm, v, hat⟩ := Jl.lt_at ll i hil
              obtain ⟨u, hu⟩ : ∃ u, xs[i * 2 + 1]? = some u := ⟨_, List.getElem?_eq_getElem (by rw [HXL.out]; omega)⟩
              obtain ⟨a'', c'', he, _, _, hfm⟩ := HM2.out.form
              injection he with he1 he2 he3
              subst he1
              subst he3
              obtain ⟨g', rfl, _, hgl, _, hgp, hgc, hgf⟩ := hfm _ u hu
              have hfew := HM2.out.few.1
              have HAT := Lib.hid hat
              obtain ⟨t, ht, htl⟩ := HG5.out i nm v hat
              obtain ⟨g4, ha4, _, _, _, _, htc, htf⟩ := hfm _ (.string t) ht
              injection ha4 with ha4
              injection ha4 with ha4 _ _
              subst ha4
              have HCN := Lib.hid (fun W => clone_any t W (by omega))
              have HTC := Lib.hid htc
              have HTF := Lib.hid htf
              have hgl2 := World.block_lt_of_cell? _ _ htc
              go_wp2_with fail
              refine (HCN.out _).mono ?_
              rintro e w3 ⟨rfl, hb3⟩
              have htc3 := cell_kept hb3 HTC.out
              have htf3 := (World.frozen?_of_block (a := ⟨g', i * 2, none⟩) (hb3.block _ hgl2)).trans HTF.out
              have hgl3 := World.block_lt_of_cell? _ _ htc3
              simp only at hgl3
              have hid := setCell_id htc3
              have hm2 := HM2.out.below hb3
              obtain ⟨lv2, W2, hr, hm3⟩ := hm2.push (by omega) rfl HAT.out
              have e0 : i * szI true + (szI true - 1) = i * 2 + 1 := by simp [szI]
              rw [e0] at hr hm3
              obtain ⟨a3, c3, hv3, _⟩ := hm3.lf.form
              have HM3 := Lib.hid hm3
              rw [hv3] at HM3 hr
              clear hm3 hm2 hb3 htc htf
              go_upto_region 25 with fail
              try rw [hid]
              clear hid htc3 htf3
              clear hat hu hfm he2 hgp
              go_wp2_with (first | (at_builtin; refine Lib.wpList_append_run _ rfl _ _ _ _ rfl _ _ rfl rfl _ _ hr ?_) | fail)
              go_roundw
              case rel => exact ⟨a3, c3, _, _, i + 1, by rw [List.length_append]; rfl, by go_num, by omega, HM3⟩
              case measure => simp [intOf]; omega
            · obtain rfl : i = ll.length := by omega
              have hi3 : ¬ ((ll.length : Nat) : Int) < (ll.length : Int) := by omega
              have HD := Lib.hid HM2.out.done
              have HF2 := Lib.hid HM2.out.few
              have hpot2 := HM2.out.pot
              rw [Jl.drop_len, szL, Nat.add_zero] at hpot2
              have HPT2 := Lib.hid hpot2
              obtain ⟨g2, rfl, _, hg2, lg⟩ := HM2.out.lf.cellAt HM2.out.pk
              have pc := HM2.out.pc
              have pf := HM2.out.pf
              simp only at lg pc pf
              have hk2 : (k : Int) < (ps2.length : Int) := by have := HF2.out.2; omega
              have hpb2 := World.block_lt_of_cell? _ _ pc
              simp only at hpb2
              clear hpot2
              go_wp2_with fail
              go_roundw
              case rel => exact ⟨_, c2, ps2, Ks2, k + 1, rfl, by go_num, HF2.out.2, HD, HPT2⟩
              case measure => simp [intOf]; omega
      · obtain rfl : k = ps.length := by omega
        have hi2 : ¬ ((ps.length : Nat) : Int) < (ps.length : Int) := by omega
        obtain ⟨xf, r1, r2⟩ := HLF.out.root
        have HR2 := Lib.hid (r2.mono (S' := aB) (fun _ _ => trivial))
        have HBL := Lib.hid HLF.out.bel
        have hrl := World.block_lt_of_cell? _ _ r1
        simp only at hrl
        clear r2
        go_wp2_with fail
        go_ret
        exact ⟨⟨xf, rfl, HR2.out⟩, HBL.out⟩
  · go_enter Tryz.func28, Tryz.ntmps28
    go_wp2_with fail
    go_loopw [3, 4] (fun l z wr => ∃ (a : Option Addr) (c : Nat) (ps : List (Nat × Nat)) (Ks : List Js) (k : Nat), l = .slice a ps.length c ∧ z = .int .i64 k ∧ k ≤ ps.length ∧ Hid (Lf w J (.slice a ps.length c) ps Ks wr) ∧ Hid (k + sumK (Ks.drop k) = szV J)) (fun _ z _ => szV J - (intOf z).toNat)
    case atStart => exact ⟨_, _, [(w.heap.size, 0)], [J], 0, rfl, rfl, by simp, HM, Lib.hid (by simp [sumK])⟩
    case round =>
      obtain ⟨a, c, ps, Ks, k, hl, rfl, hk, HLF, HPOT⟩ := hrel
      have hl := hl.symm
      have hpl : ps.length ≤ szV J := by
        have h1 := sumK_len (Ks.drop k)
        rw [List.length_drop, HLF.out.len] at h1
        have := HPOT.out
        omega
      have hcap : (ps.length : Int) ≤ 1048576 := by omega
      subst hl
      by_cases hlt : k < ps.length
      · have hi2 : (k : Int) < (ps.length : Int) := by omega
        obtain ⟨p, hp⟩ : ∃ p, ps[k]? = some p := ⟨_, List.getElem?_eq_getElem hlt⟩
        obtain ⟨K, hK⟩ : ∃ K, Ks[k]? = some K := ⟨_, List.getElem?_eq_getElem (by rw [HLF.out.len]; exact hlt)⟩
        obtain ⟨pb, po⟩ := p
        obtain ⟨g, rfl, _, hg, l0⟩ := HLF.out.cellAt hp
        obtain ⟨t1, t2, t3, y, t4, t5⟩ := HLF.out.tg k _ K hp hK
        simp only at l0 t1 t2 t3 t4
        have hpb := World.block_lt_of_cell? _ _ t4
        simp only at hpb
        have HP := Lib.hid hp
        have hpot := HPOT.out
        rw [sumK_at Ks k K hK] at hpot
        have HT1 := Lib.hid t1
        have HT2 := Lib.hid t2
        clear hp hK t1 t2
        cases K with
        | nul =>
          rw [AnyAt] at t5
          subst t5
          rw [szV] at hpot
          have HPT := Lib.hid (show k + 1 + sumK (Ks.drop (k + 1)) = szV J by omega)
          clear hpot
          have a0 := fun W => assert_nil 20 9 _ _ Tryz.underlying9 rfl zStr W
          have a1 := fun W => assert_nil 20 57 _ _ Tryz.underlying57 rfl zLst W
          have a2 := fun W => assert_nil 20 58 _ _ Tryz.underlying58 rfl zPrs W
          go_wp2_with fail
          go_roundw
          case rel => exact ⟨_, c, ps, Ks, k + 1, rfl, by go_num, by omega, HLF, HPT⟩
          case measure => simp [intOf]; omega
        | bool q =>
          rw [AnyAt] at t5
          subst t5
          rw [szV] at hpot
          have HPT := Lib.hid (show k + 1 + sumK (Ks.drop (k + 1)) = szV J by omega)
          clear hpot
          have a0 := fun W => assert_no 20 9 4 (.bool q) _ _ Tryz.underlying9 rfl zStr (by decide) W
          have a1 := fun W => assert_no 20 57 4 (.bool q) _ _ Tryz.underlying57 rfl zLst (by decide) W
          have a2 := fun W => assert_no 20 58 4 (.bool q) _ _ Tryz.underlying58 rfl zPrs (by decide) W
          go_wp2_with fail
          go_roundw
          case rel => exact ⟨_, c, ps, Ks, k + 1, rfl, by go_num, by omega, HLF, HPT⟩
          case measure => simp [intOf]; omega
        | num q =>
          rw [AnyAt] at t5
          subst t5
          rw [szV] at hpot
          have HPT := Lib.hid (show k + 1 + sumK (Ks.drop (k + 1)) = szV J by omega)
          clear hpot
          have a0 := fun W => assert_no 20 9 3 (.int .i64 q) _ _ Tryz.underlying9 rfl zStr (by decide) W
          have a1 := fun W => assert_no 20 57 3 (.int .i64 q) _ _ Tryz.underlying57 rfl zLst (by decide) W
          have a2 := fun W => assert_no 20 58 3 (.int .i64 q) _ _ Tryz.underlying58 rfl zPrs (by decide) W
          go_wp2_with fail
          go_roundw
          case rel => exact ⟨_, c, ps, Ks, k + 1, rfl, by go_num, by omega, HLF, HPT⟩
          case measure => simp [intOf]; omega
        | bad =>
          rw [AnyAt] at t5
          subst t5
          rw [szV] at hpot
          have HPT := Lib.hid (show k + 1 + sumK (Ks.drop (k + 1)) = szV J by omega)
          clear hpot
          have a0 := fun W => assert_no 20 9 59 (.float .f64 4609434218613702656) _ _ Tryz.underlying9 rfl zStr (by decide) W
          have a1 := fun W => assert_no 20 57 59 (.float .f64 4609434218613702656) _ _ Tryz.underlying57 rfl zLst (by decide) W
          have a2 := fun W => assert_no 20 58 59 (.float .f64 4609434218613702656) _ _ Tryz.underlying58 rfl zPrs (by decide) W
          go_wp2_with fail
          go_roundw
          case rel => exact ⟨_, c, ps, Ks, k + 1, rfl, by go_num, by omega, HLF, HPT⟩
          case measure => simp [intOf]; omega
        | str q' =>
          rw [AnyAt] at t5
          obtain ⟨q, rfl, hq, hql⟩ := t5
          rw [szV] at hpot
          have HPT := Lib.hid (show k + 1 + sumK (Ks.drop (k + 1)) = szV J by omega)
          have hqs : q.size ≤ 5000 := by rw [← bI_len, hq]; exact hql
          have HCL := Lib.hid (fun W => clone_any q W (by omega))
          clear hpot hq hql
          have a0 := fun W => assert_yes 20 9 (.string q) _ Tryz.underlying9 rfl W
          go_upto_region 8 with fail
          have HS0 : wr.drew.cell? ⟨g, k, none⟩ = some (.pointer (some ⟨pb, po, none⟩)) ∧ wr.drew.cell? ⟨pb, po, none⟩ = some (.iface 9 (.string q)) ∧ wr.drew.frozen? ⟨pb, po, none⟩ = false ∧ Below wr.heap.size wr wr.drew := ⟨l0, t4, t3, (Below.refl _ wr).drew⟩
          clear l0 t4 t3
          refine wp_region_held_drew (S := fun w' => w'.cell? ⟨g, k, none⟩ = some (.pointer (some ⟨pb, po, none⟩)) ∧ w'.cell? ⟨pb, po, none⟩ = some (.iface 9 (.string q)) ∧ w'.frozen? ⟨pb, po, none⟩ = false ∧ Below wr.heap.size wr w') (by kernel_rfl) HS0 (fun hH0 => ?_)
          refine takeH (i := 0) (d := 33) (v := ?_) rfl rfl (by kernel_rfl) (by kernel_rfl) (by kernel_rfl) (fun _ _ _ h => h) (Or.inl ⟨by rfl, ?y0⟩) hH0 ?_
          case y0 => intro w hSw; obtain ⟨hq0, hq1, hq2, hq3⟩ := hSw; go_simp; try with_reducible rfl
          try simp only [Act.put, List.setIfInBounds_toArray, List.set_cons_zero, List.set_cons_succ]
          refine takeH (i := 1) (d := 34) (v := ?_) rfl rfl (by kernel_rfl) (by kernel_rfl) (by kernel_rfl) (fun _ _ _ h => h) (Or.inl ⟨by rfl, ?y1⟩) hH0 ?_
          case y1 => intro w hSw; obtain ⟨hq0, hq1, hq2, hq3⟩ := hSw; go_simp; try with_reducible rfl
          try simp only [Act.put, List.setIfInBounds_toArray, List.set_cons_zero, List.set_cons_succ]
          refine takeH (i := 2) (d := 35) (v := ?_) rfl rfl (by kernel_rfl) (by kernel_rfl) (by kernel_rfl) (fun _ _ _ h => h) (Or.inl ⟨by rfl, ?y2⟩) hH0 ?_
          case y2 => intro w hSw; obtain ⟨hq0, hq1, hq2, hq3⟩ := hSw; go_simp; try with_reducible rfl
          try simp only [Act.put, List.setIfInBounds_toArray, List.set_cons_zero, List.set_cons_succ]
          refine takeH (i := 3) (d := 36) (v := ?_) rfl rfl (by kernel_rfl) (by kernel_rfl) (by kernel_rfl) (fun _ _ _ h => h) (Or.inl ⟨by rfl, ?y3⟩) hH0 ?_
          case y3 => intro w hSw; obtain ⟨hq0, hq1, hq2, hq3⟩ := hSw; go_simp; try with_reducible rfl
          try simp only [Act.put, List.setIfInBounds_toArray, List.set_cons_zero, List.set_cons_succ]
          refine takeH (i := 4) (d := 37) (v := ?_) rfl rfl (by kernel_rfl) (by kernel_rfl) (by kernel_rfl) (fun _ _ _ h => h) (Or.inl ⟨by rfl, ?y4⟩) hH0 ?_
          case y4 => intro w hSw; obtain ⟨hq0, hq1, hq2, hq3⟩ := hSw; go_simp; try with_reducible rfl
          try simp only [Act.put, List.setIfInBounds_toArray, List.set_cons_zero, List.set_cons_succ]
          refine wpAnyH_ready (rs := [5]) (by kernel_rfl) (by simp) ?_
          refine AllReadyH.cons rfl (fun K hK => ?_) AllReadyH.nil
          go_simp
          refine (HCL.out _).mono ?_
          rintro e w' ⟨rfl, hb⟩
          go_wp2_with fail
          refine hK.out _ _ (⟨cell_kept hb hH0.1, cell_kept hb hH0.2.1, (World.frozen?_of_block (a := ⟨pb, po, none⟩) (hb.block _ (World.block_lt_of_cell? _ _ hH0.2.1))).trans hH0.2.2.1, hH0.2.2.2.trans (hb.mono hH0.2.2.2.size)⟩) (fun hH1 => ?_)
          clear hK K hb hH0
          try simp only [Act.put, List.setIfInBounds_toArray, List.set_cons_zero, List.set_cons_succ]
          refine takeH (i := 6) (d := 39) (v := ?_) rfl rfl (by kernel_rfl) (by kernel_rfl) (by kernel_rfl) (fun _ _ _ h => h) (Or.inl ⟨by rfl, ?y6⟩) hH1 ?_
          case y6 => intro w hSw; obtain ⟨hq0, hq1, hq2, hq3⟩ := hSw; go_simp; try with_reducible rfl
          try simp only [Act.put, List.setIfInBounds_toArray, List.set_cons_zero, List.set_cons_succ]
          refine takeH (i := 7) (d := 40) (v := ?_) rfl rfl (by kernel_rfl) (by kernel_rfl) (by kernel_rfl) (fun _ _ _ h => h) (Or.inl ⟨by rfl, ?y7⟩) hH1 ?_
          case y7 => intro w hSw; obtain ⟨hq0, hq1, hq2, hq3⟩ := hSw; go_simp; try with_reducible rfl
          try simp only [Act.put, List.setIfInBounds_toArray, List.set_cons_zero, List.set_cons_succ]
          refine wpAnyH_ready (rs := [8]) (by kernel_rfl) (by simp) ?_
          refine AllReadyH.cons rfl (fun K hK => ?_) AllReadyH.nil
          have hHX := hH1
          obtain ⟨hq0, hq1, hq2, hq3⟩ := hH1
          go_simp
          rw [setCell_id hq1]
          refine hK.out _ _ hHX (fun hH2 => ?_)
          try simp only [Act.put, List.setIfInBounds_toArray, List.set_cons_zero, List.set_cons_succ]
          refine wpAnyH_done (by kernel_rfl) ?_ _
          have HB2 := Lib.hid hH2.2.2.2
          clear hH2 hHX hq0 hq1 hq2 hq3
          have HLF := Lib.hid (HLF.out.below HB2.out)
          go_wp2_with fail
          go_roundw
          case rel => exact ⟨_, c, ps, Ks, k + 1, rfl, by go_num, by omega, HLF, HPT⟩
          case measure => simp [intOf]; omega
        | arr ll =>
          rw [AnyAt] at t5
          obtain ⟨sa, scap, rfl, sh1, sh2, sr⟩ := t5
          obtain ⟨xs, g1, g2, g3, g4⟩ := rowA_list ll 0 sr
          rw [szV] at hpot
          have hll := szL_len ll
          have HPT := Lib.hid (show k + 1 + sumK (Ks.drop (k + 1)) + szL ll = szV J by omega)
          have HXL := Lib.hid g1
          have hlen : ll.length ≤ 1000000 := by omega
          have hlen2 : (ll.length : Int) ≤ 9223372036854775807 := by omega
          have HCL := Lib.hid (fun W (hb : Below wr.heap.size wr W) => cloneA_any sa ll.length scap W xs hlen (by rw [g1, Nat.mul_one]) g2 (fun j u hu => by
            obtain ⟨g, off, e1, _, _, e2⟩ := g3 j u hu
            rw [Nat.zero_add] at e2
            exact ⟨g, off, e1, cell_kept hb e2⟩))
          have HMID := Lib.hid (fun w1 v' hb hown => Mid.start (pr := false) (v' := v') (w1 := w1) (src := sa) (l := ll) (xs := xs) HLF.out HP.out HPT.out (fun j n v u hj hu => g4 j n v u hj (by rw [show j * szI false + (szI false - 1) = j by simp [szI]] at hu; exact hu)) (fun j u hu => by
            obtain ⟨g, off, e1, e3, _, e2⟩ := g3 j u hu
            rw [Nat.zero_add] at e2
            exact ⟨g, off, e1, e3, e2⟩) t4 t3 ⟨HT2.out, HT1.out⟩ hb hown)
          clear hpot sr g1 g2 g3 g4
          have a0 := fun W => assert_no 20 9 57 (.slice sa ll.length scap) _ _ Tryz.underlying9 rfl zStr (by decide) W
          have a9 := fun W => assert_yes 20 57 (.slice sa ll.length scap) _ Tryz.underlying57 rfl W
          go_wp2_with fail
          refine (HCL.out _ (by go_grown)).mono ?_
          rintro e w1 ⟨⟨v', rfl, hown⟩, hb1⟩
          have hmid := HMID.out w1 v' hb1 hown
          obtain ⟨a', c', rfl, hc1, hc2, _⟩ := hmid.form
          have HMD := Lib.hid hmid
          clear hmid hown hb1 t3 t4 l0 HMID HCL
          go_wp2_with fail
          go_loopw [3, 48] (fun l z wr2 => ∃ (a2 : Option Addr) (c2 : Nat) (ps2 : List (Nat × Nat)) (Ks2 : List Js) (i : Nat), l = .slice a2 ps2.length c2 ∧ z = .int .i64 i ∧ i ≤ ll.length ∧ Hid (Mid false w J k (pb, po) (.iface 57 (.slice sa ll.length scap)) sa ll (.slice a' ll.length c') xs (.slice a2 ps2.length c2) ps2 Ks2 i wr2)) (fun _ z _ => ll.length - (intOf z).toNat)
          case atStart => exact ⟨_, c, ps, Ks, 0, rfl, rfl, Nat.zero_le _, HMD⟩
          case round =>
            obtain ⟨a2, c2, ps2, Ks2, i, hl2, rfl, hi, HM2⟩ := hrel
            have hl2 := hl2.symm
            subst hl2
            by_cases hil : i < ll.length
            · have hi3 : (i : Int) < (ll.length : Int) := by omega
              obtain ⟨nm, v, hat⟩ := Jl.lt_at ll i hil
              obtain ⟨u, hu⟩ : ∃ u, xs[i]? = some u := ⟨_, List.getElem?_eq_getElem (by rw [HXL.out]; omega)⟩
              obtain ⟨a'', c'', he, _, _, hfm⟩ := HM2.out.form
              injection he with he1 he2 he3
              subst he1
              subst he3
              obtain ⟨g', rfl, _, hgl, _, hgp, hgc, hgf⟩ := hfm _ u hu
              have hfew := HM2.out.few.1
              have HAT := Lib.hid hat
              obtain ⟨lv2, W2, hr, hm3⟩ := HM2.out.push (by omega) rfl hat
              have e0 : i * szI false + (szI false - 1) = i := by simp [szI]
              rw [e0] at hr hm3
              obtain ⟨a3, c3, hv3, _⟩ := hm3.lf.form
              have HM3 := Lib.hid hm3
              rw [hv3] at HM3 hr
              clear hm3
              clear hat hu hfm he2 hgp
              go_wp2_with (first | (at_builtin; refine Lib.wpList_append_run _ rfl _ _ _ _ rfl _ _ rfl rfl _ _ hr ?_) | fail)
              go_roundw
              case rel => exact ⟨a3, c3, _, _, i + 1, by rw [List.length_append]; rfl, by go_num, by omega, HM3⟩
              case measure => simp [intOf]; omega
            · obtain rfl : i = ll.length := by omega
              have hi3 : ¬ ((ll.length : Nat) : Int) < (ll.length : Int) := by omega
              have HD := Lib.hid HM2.out.done
              have HF2 := Lib.hid HM2.out.few
              have hpot2 := HM2.out.pot
              rw [Jl.drop_len, szL, Nat.add_zero] at hpot2
              have HPT2 := Lib.hid hpot2
              obtain ⟨g2, rfl, _, hg2, lg⟩ := HM2.out.lf.cellAt HM2.out.pk
              have pc := HM2.out.pc
              have pf := HM2.out.pf
              simp only at lg pc pf
              have hk2 : (k : Int) < (ps2.length : Int) := by have := HF2.out.2; omega
              have hpb2 := World.block_lt_of_cell? _ _ pc
              simp only at hpb2
              clear hpot2
              go_wp2_with fail
              go_roundw
              case rel => exact ⟨_, c2, ps2, Ks2, k + 1, rfl, by go_num, HF2.out.2, HD, HPT2⟩
              case measure => simp [intOf]; omega
        | obj ll =>
          rw [AnyAt] at t5
          obtain ⟨sa, scap, rfl, sh1, sh2, sr⟩ := t5
          obtain ⟨xs, g1, g2, g3, g4, g5⟩ := rowP_list ll 0 sr
          rw [szV] at hpot
          have hll := szL_len ll
          have HPT := Lib.hid (show k + 1 + sumK (Ks.drop (k + 1)) + szL ll = szV J by omega)
          have HXL := Lib.hid g1
          have HG5 := Lib.hid g5
          clear g5
          have hlen : ll.length ≤ 1000000 := by omega
          have hlen2 : (ll.length : Int) ≤ 9223372036854775807 := by omega
          have HCL := Lib.hid (fun W (hb : Below wr.heap.size wr W) => cloneP_any sa ll.length scap W xs hlen (by rw [g1]) g2 (fun j u hu => by
            obtain ⟨g, off, e1, _, _, e2⟩ := g3 j u hu
            rw [Nat.zero_mul, Nat.zero_add] at e2
            exact ⟨g, off, e1, cell_kept hb e2⟩))
          have HMID := Lib.hid (fun w1 v' hb hown => Mid.start (pr := true) (v' := v') (w1 := w1) (src := sa) (l := ll) (xs := xs) HLF.out HP.out HPT.out (fun j n v u hj hu => g4 j n v u hj hu) (fun j u hu => by
            obtain ⟨g, off, e1, e3, _, e2⟩ := g3 j u hu
            rw [Nat.zero_mul, Nat.zero_add] at e2
            exact ⟨g, off, e1, e3, e2⟩) t4 t3 ⟨HT2.out, HT1.out⟩ hb hown)
          clear hpot sr g1 g2 g3 g4
          have a0 := fun W => assert_no 20 9 58 (.slice sa ll.length scap) _ _ Tryz.underlying9 rfl zStr (by decide) W
          have a1 := fun W => assert_no 20 57 58 (.slice sa ll.length scap) _ _ Tryz.underlying57 rfl zLst (by decide) W
          have a9 := fun W => assert_yes 20 58 (.slice sa ll.length scap) _ Tryz.underlying58 rfl W
          go_wp2_with fail
          refine (HCL.out _ (by go_grown)).mono ?_
          rintro e w1 ⟨⟨v', rfl, hown⟩, hb1⟩
          have hmid := HMID.out w1 v' hb1 hown
          obtain ⟨a', c', rfl, hc1, hc2, _⟩ := hmid.form
          have HMD := Lib.hid hmid
          clear hmid hown hb1 t3 t4 l0 HMID HCL
          go_wp2_with fail
          go_loopw [3, 72] (fun l z wr2 => ∃ (a2 : Option Addr) (c2 : Nat) (ps2 : List (Nat × Nat)) (Ks2 : List Js) (i : Nat), l = .slice a2 ps2.length c2 ∧ z = .int .i64 i ∧ i ≤ ll.length ∧ Hid (Mid true w J k (pb, po) (.iface 58 (.slice sa ll.length scap)) sa ll (.slice a' ll.length c') xs (.slice a2 ps2.length c2) ps2 Ks2 i wr2)) (fun _ z _ => ll.length - (intOf z).toNat)
          case atStart => exact ⟨_, c, ps, Ks, 0, rfl, rfl, Nat.zero_le _, HMD⟩
          case round =>
            obtain ⟨a2, c2, ps2, Ks2, i, hl2, rfl, hi, HM2⟩ := hrel
            have hl2 := hl2.symm
            subst hl2
            by_cases hil : i < ll.length
            · have hi3 : (i : Int) < (ll.length : Int) := by omega
              obtain ⟨nm, v, hat⟩ := Jl.lt_at ll i hil
              obtain ⟨u, hu⟩ : ∃ u, xs[i * 2 + 1]? = some u := ⟨_, List.getElem?_eq_getElem (by rw [HXL.out]; omega)⟩
              obtain ⟨a'', c'', he, _, _, hfm⟩ := HM2.out.form
              injection he with he1 he2 he3
              subst he1
              subst he3
              obtain ⟨g', rfl, _, hgl, _, hgp, hgc, hgf⟩ := hfm _ u hu
              have hfew := HM2.out.few.1
              have HAT := Lib.hid hat
              obtain ⟨t, ht, htl⟩ := HG5.out i nm v hat
              obtain ⟨g4, ha4, _, _, _, _, htc, htf⟩ := hfm _ (.string t) ht
              injection ha4 with ha4
              injection ha4 with ha4 _ _
              subst ha4
              have HCN := Lib.hid (fun W => clone_any t W (by omega))
              have HTC := Lib.hid htc
              have HTF := Lib.hid htf
              have hgl2 := World.block_lt_of_cell? _ _ htc
              go_wp2_with fail
              refine (HCN.out _).mono ?_
              rintro e w3 ⟨rfl, hb3⟩
              have htc3 := cell_kept hb3 HTC.out
              have htf3 := (World.frozen?_of_block (a := ⟨g', i * 2, none⟩) (hb3.block _ hgl2)).trans HTF.out
              have hgl3 := World.block_lt_of_cell? _ _ htc3
              simp only at hgl3
              have hid := setCell_id htc3
              have hm2 := HM2.out.below hb3
              obtain ⟨lv2, W2, hr, hm3⟩ := hm2.push (by omega) rfl HAT.out
              have e0 : i * szI true + (szI true - 1) = i * 2 + 1 := by simp [szI]
              rw [e0] at hr hm3
              obtain ⟨a3, c3, hv3, _⟩ := hm3.lf.form
              have HM3 := Lib.hid hm3
              rw [hv3] at HM3 hr
              clear hm3 hm2 hb3 htc htf
              go_upto_region 25 with fail
              try rw [hid]
              clear hid htc3 htf3
              clear hat hu hfm he2 hgp
              go_wp2_with (first | (at_builtin; refine Lib.wpList_append_run _ rfl _ _ _ _ rfl _ _ rfl rfl _ _ hr ?_) | fail)
              go_roundw
              case rel => exact ⟨a3, c3, _, _, i + 1, by rw [List.length_append]; rfl, by go_num, by omega, HM3⟩
              case measure => simp [intOf]; omega
            · obtain rfl : i = ll.length := by omega
              have hi3 : ¬ ((ll.length : Nat) : Int) < (ll.length : Int) := by omega
              have HD := Lib.hid HM2.out.done
              have HF2 := Lib.hid HM2.out.few
              have hpot2 := HM2.out.pot
              rw [Jl.drop_len, szL, Nat.add_zero] at hpot2
              have HPT2 := Lib.hid hpot2
              obtain ⟨g2, rfl, _, hg2, lg⟩ := HM2.out.lf.cellAt HM2.out.pk
              have pc := HM2.out.pc
              have pf := HM2.out.pf
              simp only at lg pc pf
              have hk2 : (k : Int) < (ps2.length : Int) := by have := HF2.out.2; omega
              have hpb2 := World.block_lt_of_cell? _ _ pc
              simp only at hpb2
              clear hpot2
              go_wp2_with fail
              go_roundw
              case rel => exact ⟨_, c2, ps2, Ks2, k + 1, rfl, by go_num, HF2.out.2, HD, HPT2⟩
              case measure => simp [intOf]; omega
      · obtain rfl : k = ps.length := by omega
        have hi2 : ¬ ((ps.length : Nat) : Int) < (ps.length : Int) := by omega
        obtain ⟨xf, r1, r2⟩ := HLF.out.root
        have HR2 := Lib.hid (r2.mono (S' := aB) (fun _ _ => trivial))
        have HBL := Lib.hid HLF.out.bel
        have hrl := World.block_lt_of_cell? _ _ r1
        simp only at hrl
        clear r2
        go_wp2_with fail
        go_ret
        exact ⟨⟨xf, rfl, HR2.out⟩, HBL.out⟩
end Go.Proofs.YtbkceneakdbdkaaGreatDoor
