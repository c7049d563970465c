/- The contract of the document's Down: it puts the four tiles in a tile in order, one by one. -/
import Derived.Test.YtanhoppclgeogaaDoorRo
import Derived.Deep.DeepCutAuto
import Derived.Deep.CutBlock
namespace Go.Proofs.YtanhoppclgeogaaDoor
open Go.RowKit
set_option linter.unusedVariables false
set_option linter.unusedSimpArgs false
theorem info_ref : (Tryd.prog.info? 23).map (fun i => (i.zero, i.size, i.bytes)) = some (some (.agg #[.int .i64 0, .int .i64 0, .int .i64 0]), 3, 24) := by kernel_rfl
def OutR (T : Int → Int × Int × Int) (G : Nat → Int) (B i : Nat) (wr : World) (v : Value) : Prop := ∃ Ls : List Int, Good G i Ls ∧ OwnT wr B 23 v (Ls.map T)
theorem out_step {T : Int → Int × Int × Int} {G : Nat → Int} {B B' i at_ n : Nat} {xs : List Value} {Ls : List Int} {w7 : World} {v3 : Value} (t : Int × Int × Int) (hT : T (G i) = t) (hlen : Ls.length = i) (ha : at_ ≤ i) (hgood : Good G (i + 1) (Ls.take at_ ++ G i :: Ls.drop at_)) (hB : B ≤ B')
    (hown : w7.ownsRow B' 23 3 v3 n xs) (hn : n = i + 1) (hx : xs = flat ((Ls.map T).take at_) ++ (.int .i64 t.1 :: .int .i64 t.2.1 :: .int .i64 t.2.2 :: flat ((Ls.map T).drop at_))) : OutR T G B (i + 1) w7 v3 := by
  refine ⟨_, hgood, OwnT.mono (own_conv hown ?_ ?_) hB⟩
  · simp only [List.length_map, List.length_append, List.length_take, List.length_cons, List.length_drop]; omega
  · rw [hx, List.map_append, flat_append, List.map_cons, hT, List.map_take, List.map_drop]
    rfl
set_option maxHeartbeats 2000000 in
set_option maxRecDepth 20000 in
theorem rdown_in (k : Nat) (x y : Int) (hk : k ≤ 25) (h : In k x y) (w : World) : Calls Tryd.prog 20 #[.agg #[.int .i64 k, .int .i64 x, .int .i64 y]] w (DownEnd [kidT k x y 0, kidT k x y 1, kidT k x y 2, kidT k x y 3] 0 w) := by
  have e := (pl_of k (by omega) x y h).1
  have h0 := fun w => rid_any k x y w
  rw [e] at h0
  obtain ⟨k0, k1, x0, x1, y0, y1⟩ := tile_bd k x y e
  have hx25 : x < 33554432 ∧ y < 33554432 := by
    obtain ⟨_, b, _, d⟩ := h
    have := p2_mono k 25 hk
    have e25 : p2 25 = 33554432 := by decide
    omega
  obtain ⟨x2, y2⟩ := hx25
  have hF : 0 ≤ bas (k + 1) + 4 * hpl k x y ∧ bas (k + 1) + 4 * hpl k x y + 4 ≤ 6004799503160661 := by
    have hb := hpl_bd k x y h
    have hn := bas_nn (k + 1)
    have ht := bas_top (k + 1 + 1) (by omega)
    rw [bas_succ, show p4 (k + 1) = 4 * p4 k from rfl] at ht
    omega
  obtain ⟨F0, F1⟩ := hF
  have HK : Hid (∀ o : Int, 0 ≤ o → o < 4 → ∀ w, Calls Tryd.prog 9 #[.agg #[.int .i64 (kidT k x y o).1, .int .i64 (kidT k x y o).2.1, .int .i64 (kidT k x y o).2.2]] w fun e w' => e = .returned (.tuple #[.int .u64 (bas (k + 1) + 4 * hpl k x y + o), .int .i64 0]) ∧ Below w.heap.size w w') := Lib.hid (fun o o0 o1 w => by
    obtain ⟨e1, e2, _⟩ := four_kid k x y o hk h o0 o1
    have := rid_any (kidT k x y o).1 (kidT k x y o).2.1 (kidT k x y o).2.2 w
    rw [e1, e2] at this; exact this)
  have HOG := Lib.hid (fun j hj => og_facts k x y j h hj)
  have HINJ := Lib.hid (fun a b ha hb e => og_inj k x y h a b ha hb e)
  clear h e
  generalize idD k x y = D at *
  generalize bas (k + 1) + 4 * hpl k x y = F at *
  generalize og k x y = G at *
  generalize kidT k x y = T at *
  have H0 := Lib.hid h0
  clear h0
  obtain ⟨i0, hi, hz0, hz1, hz2⟩ := info_parts info_ref
  have HI0 := Lib.hid hi
  have HZ0 := Lib.hid hz0
  have HZ1 := Lib.hid hz1
  have HZ2 := Lib.hid hz2
  clear hi hz0 hz1 hz2
  have hk26 : ((k : Int) == 26) = false := by rw [beq_eq_false_iff_ne]; omega
  go_enter Tryd.func20, Tryd.ntmps20
  go_wp2_with fail
  refine (H0.out _).mono ?_
  rintro e w1 ⟨rfl, hb⟩
  obtain ⟨hs, hb1, c0, c1, c2, f⟩ := kept3 hb
  have s1 : Spot w1 w.heap.size k x y := ⟨c0, c1, c2, f⟩
  have S1 := Lib.hid s1
  clear hb H0 s1 f
  go_wp2_with fail
  clear c0 c1 c2
  go_loopw [6, 7] (fun v s wr => ∃ i : Nat, i ≤ 4 ∧ s = .int .i64 i ∧ OutR T G (w.heap.size + 1) i wr v ∧ Hid (Spot wr w.heap.size k x y) ∧ w.heap.size < wr.heap.size ∧ Below w.heap.size w wr) (fun _ s _ => 4 - (intOf s).toNat)
  case atStart => exact ⟨0, by omega, rfl, ⟨[], good_nil G, ownT_nil _ _ _⟩, S1, hs, hb1⟩
  case round =>
    clear S1 hs hb1
    obtain ⟨i, hi4, rfl, ⟨Ls, hG, hown⟩, S1, hsz, hbw⟩ := hrel
    by_cases hlt : i < 4
    · obtain ⟨o0, o1, o2⟩ := HOG.out i hlt
      have hI := HK.out (G i) o0 o1
      rw [o2] at hI
      dsimp only at hI
      have HI := Lib.hid hI
      have HO2 := Lib.hid o2
      clear hI o2
      obtain ⟨c0, c1, c2, f⟩ := S1.out
      have HOWN := Lib.hid hown
      have HG := Lib.hid hG
      have hlen : Ls.length = i := hG.1
      clear hG
      rcases hown.form with ⟨rfl, hnil⟩ | ⟨g, cap, rfl, hg1, hg2, hg3, hg4, hcells, hfro⟩
      · have hLs : Ls = [] := by simpa using hnil
        subst hLs
        obtain rfl : i = 0 := by rw [← hlen]; rfl
        have hI := HI.out
        have hO2 := HO2.out
        rw [show 2 * x + ((0 : Nat) : Int) % 2 = 2 * x from by omega, show 2 * y + ((0 : Nat) : Int) / 2 = 2 * y from by omega] at hI hO2
        have HI' := Lib.hid hI
        have HO2' := Lib.hid hO2
        rw [show ((0 : Nat) : Int) = 0 from rfl]
        clear hown HOWN hnil hlen HI hI HO2 hO2
        go_wp2_with fail
        refine (HI'.out _).mono ?_
        rintro e w3 ⟨rfl, hb3⟩
        obtain ⟨hs3, hb3', r0, r1, r2, kf⟩ := kept3 hb3
        have hS3 := Lib.hid (S1.out.below hb3' hsz)
        have hbw3 := hbw.trans (hb3'.mono hbw.size)
        clear hb3 HI' c0 c1 c2 f S1 hbw hb3' kf
        go_wp2_with fail
        go_loopw [11] (fun s wx => s = .int .i64 0 ∧ w3 = wx) (fun _ _ => 0)
        case atStart => exact ⟨rfl, rfl⟩
        case round =>
          obtain ⟨rfl, hwx⟩ := hrel
          subst hwx
          go_upto_region 19 with fail
          go_wp2_with (first | (at_builtin; refine wpList_append_own _ rfl _ _ 45 rfl w3.heap.size 23 i0 (.agg #[.int .i64 0, .int .i64 0, .int .i64 0]) 3 24 Tryd.underlying45 HI0.out HZ0.out HZ1.out HZ2.out rfl (by decide) _ 0 [] rfl (World.ownsRow_nil _ _ _ _) ⟨w3.heap.size, 0, none⟩ 1 1 [.int .i64 ((k : Int) + 1), .int .i64 (2 * x), .int .i64 (2 * y)] rfl rfl ?g2 ?g3 ?g4 ?g5 ?g6 ?_) | fail)
          case g2 =>
            intro j u hu
            match j, hu with
            | 0, hu => simp at hu; subst hu; simp [Addr.add, go_sem]
            | 1, hu => simp at hu; subst hu; simp [Addr.add, go_sem]
            | 2, hu => simp at hu; subst hu; simp [Addr.add, go_sem]
          case g3 => intro u hu; simp at hu; rcases hu with rfl | rfl | rfl <;> rfl
          case g4 => unfold maxLen; omega
          case g5 => omega
          case g6 => simp
          intro v1 w5 hown1 hgr1 _
          have hb5 : Below w3.heap.size w3 w5 := ((Below.refl _ _).alloc (Nat.le_refl _) _).grown hgr1 (by simp) (fun g hg => by simp [Value.ownBlock] at hg)
          have hz5 := hb5.size
          have HOWN1 := Lib.hid hown1
          clear hgr1 hown1 r0 r1 r2
          have hown2 := HOWN1.out
          obtain ⟨hl2, hv2⟩ := hown2
          rcases hv2 with ⟨rfl, hn⟩ | ⟨g2, cap2, cur, rfl, hg22, hh2, hle2, hm2, hcs2, htk2⟩
          · omega
          · clear hl2 hh2 hm2 hcs2 htk2
            have hgood := good_step G 0 0 [] HG.out (Nat.le_refl _) (fun j h1 h2 => by omega) (.inl rfl)
            have hout := out_step (B := w.heap.size + 1) _ HO2'.out rfl (Nat.le_refl _) hgood (by omega) HOWN1.out (by omega) (by simp [flat])
            have HOUT := Lib.hid hout
            have hS := Lib.hid (hS3.out.below hb5 (by omega))
            have hb8 := hbw3.trans (hb5.mono (by omega))
            clear hout HOWN1 hb5 hgood
            go_wp2_with fail
            go_roundw
            case rel => exact ⟨1, by omega, rfl, HOUT.out, hS, by omega, hb8⟩
            case measure => simp [intOf]
      · rw [List.length_map] at hg3 hcells ⊢
        rw [hlen] at hg3 hcells ⊢
        have HCELLS := Lib.hid hcells
        have HLEN := Lib.hid hlen
        clear hcells hfro hown hlen
        go_wp2_with fail
        refine (HI.out _).mono ?_
        rintro e w3 ⟨rfl, hb3⟩
        obtain ⟨hs3, hb3', k0', k1', k2', kf⟩ := kept3 hb3
        clear hb3 HI
        go_upto_block 2 with fail
        go_cut [11] (fun s wx => ∃ at_ : Nat, at_ ≤ i ∧ s = .int .i64 at_ ∧ Hid (∀ j, at_ ≤ j → j < i → G i < Ls.getD j 0) ∧ Hid (at_ = 0 ∨ Ls.getD (at_ - 1) 0 < G i) ∧ Below w3.heap.size w3 wx)
        case first =>
          go_wp2_with fail
          go_loopw [11] (fun s wx => ∃ at_ : Nat, at_ ≤ i ∧ s = .int .i64 at_ ∧ Hid (∀ j, at_ ≤ j → j < i → G i < Ls.getD j 0) ∧ Below w3.heap.size w3 wx) (fun s _ => (intOf s).toNat)
          case atStart => exact ⟨i, Nat.le_refl _, rfl, Lib.hid (fun j h1 h2 => by omega), Below.refl _ _⟩
          case round =>
            obtain ⟨at_, ha, rfl, HHI, hbx⟩ := hrel
            cases at_ with
            | zero =>
              go_wp2_with fail
              go_meet
              case rel => exact ⟨0, by omega, rfl, HHI, Lib.hid (.inl rfl), hbx⟩
            | succ m =>
              obtain ⟨o, ho⟩ : ∃ o, Ls.getD m 0 = o := ⟨_, rfl⟩
              have hm : m < Ls.length := by rw [HLEN.out]; omega
              have hom : Ls[m]? = some o := by
                rw [List.getElem?_eq_getElem hm, ← ho]
                simp [List.getD, List.getElem?_eq_getElem hm]
              have hTm : (Ls.map T)[m]? = some (T o) := by rw [List.getElem?_map, hom]; rfl
              obtain ⟨j, hj, hoj⟩ := HG.out.2.2 o (List.mem_of_getElem? hom)
              obtain ⟨p0, p1, _⟩ := HOG.out j (by omega)
              rw [← hoj] at p0 p1
              have hne : o ≠ G i := fun e => by
                have := HINJ.out j i (by omega) hlt (by rw [← hoj, e])
                omega
              obtain ⟨f0, f1, f2⟩ := flat_at _ m _ hTm
              have l0 := cell_later hbx (cell_later hb3' ((HCELLS.out (m * 3) (by omega)).trans f0))
              have l1 := cell_later hbx (cell_later hb3' ((HCELLS.out (m * 3 + 1) (by omega)).trans f1))
              have l2 := cell_later hbx (cell_later hb3' ((HCELLS.out (m * 3 + 2) (by omega)).trans f2))
              have HI := Lib.hid (HK.out o p0 p1)
              have HO := Lib.hid ho
              have hmi : (m : Int) < i := by omega
              clear ho hom hTm hoj f0 f1 f2 hm hj
              generalize (T o).1 = a at *
              generalize (T o).2.1 = b at *
              generalize (T o).2.2 = c at *
              rw [show ((m + 1 : Nat) : Int) = (m : Int) + 1 from by omega]
              by_cases hlo : o < G i
              · have hlo' : F + o < F + G i := by omega
                go_wp2_with fail
                refine (HI.out _).mono ?_
                rintro e w4 ⟨rfl, hb4⟩
                have hb5 := hbx.trans (hb4.mono hbx.size)
                clear hb4 l0 l1 l2
                go_wp2_with fail
                go_meet
                case rel => exact ⟨m + 1, ha, by go_num, HHI, Lib.hid (.inr (by rw [show m + 1 - 1 = m from by omega, HO.out]; exact hlo)), hb5⟩
              · have hlo' : decide (F + o < F + G i) = false := decide_eq_false (by omega)
                go_wp2_with fail
                refine (HI.out _).mono ?_
                rintro e w4 ⟨rfl, hb4⟩
                have hb5 := hbx.trans (hb4.mono hbx.size)
                clear hb4 l0 l1 l2
                go_wp2_with fail
                go_roundw
                case rel => exact ⟨m, by omega, by go_num, Lib.hid (fun j h1 h2 => by
                  by_cases e : j = m
                  · subst e; rw [HO.out]; omega
                  · exact HHI.out j (by omega) h2), hb5⟩
                case measure => simp [intOf]
        case rest =>
          obtain ⟨at_, ha, rfl, HHI, HLO, hbx⟩ := hcut
          have hbz := hb3'.trans (hbx.mono hb3'.size)
          have r0 := cell_later hbx k0'
          have r1 := cell_later hbx k1'
          have r2 := cell_later hbx k2'
          have S1' := Lib.hid (S1.out.below hbz hsz)
          have hbw' := hbw.trans (hbz.mono hbw.size)
          have hown : OwnT wc (w.heap.size + 1) 23 (.slice (some ⟨g, 0, none⟩) i cap) (Ls.map T) := by
            have := HOWN.out.below hbz
            rw [List.length_map, HLEN.out] at this
            exact this
          have hgood := Lib.hid (good_step G i at_ Ls HG.out ha HHI.out HLO.out)
          have hsz' := hbz.size
          have HC : Hid (∀ j, j < i * 3 → wc.cell? ⟨g, j, none⟩ = (flat (Ls.map T))[j]?) := by
            refine Lib.hid (fun j hj => ?_)
            have hl : j < (flat (Ls.map T)).length := by rw [flat_len, List.length_map, HLEN.out]; exact hj
            rw [List.getElem?_eq_getElem hl]
            exact cell_later hbz ((HCELLS.out j hj).trans (List.getElem?_eq_getElem hl))
          clear k0' k1' k2' kf c0 c1 c2 f S1 HOWN HCELLS hbx hb3' hbw hsz hs3 HHI HLO hbz hown
          generalize wc = wa at *
          have hac : (at_ : Int) ≤ (cap : Int) := by omega
          have hai : (at_ : Int) ≤ (i : Int) := by omega
          have hac2 : at_ ≤ cap := by omega
          go_wp2_with (first | (at_builtin; refine wpList_append_own _ rfl _ _ 45 rfl wa.heap.size 23 i0 (.agg #[.int .i64 0, .int .i64 0, .int .i64 0]) 3 24 Tryd.underlying45 HI0.out HZ0.out HZ1.out HZ2.out rfl (by decide) _ 0 [] rfl (World.ownsRow_nil _ _ _ _) ⟨g, 0, none⟩ at_ cap (flat ((Ls.take at_).map T)) rfl ?a1 ?a2 ?a3 ?a4 ?a5 ?a6 ?_) | fail)
          case a1 => rw [flat_len, List.length_map, List.length_take, HLEN.out]; omega
          case a2 =>
            intro j u hu
            have hj : j < at_ * 3 := by
              have := (List.getElem?_eq_some_iff.1 hu).1
              rw [flat_len, List.length_map, List.length_take, HLEN.out] at this
              omega
            rw [List.map_take, flat_take, List.getElem?_take_of_lt hj] at hu
            rw [show (⟨g, 0, none⟩ : Addr).add j = ⟨g, j, none⟩ from by simp [Addr.add]; omega]
            exact (HC.out j (by omega)).trans hu
          case a3 => exact flat_one _
          case a4 => unfold maxLen; omega
          case a5 => omega
          case a6 => exact Nat.le_refl _
          intro v1 w5 hown1 hgr1 _
          have hb5 : Below wa.heap.size wa w5 := (Below.refl _ _).grown hgr1 (Nat.le_refl _) (fun g hg => by simp [Value.ownBlock] at hg)
          replace r0 := cell_later hb5 r0
          replace r1 := cell_later hb5 r1
          replace r2 := cell_later hb5 r2
          have hz5 := hb5.size
          have HOWN1 := Lib.hid hown1
          have hlt1 := Lib.hid (World.ownsRow.lt hown1)
          clear hgr1 hown1
          go_wp2_with (first | (at_builtin; refine wpList_append_own _ rfl _ _ 45 rfl wa.heap.size 23 i0 (.agg #[.int .i64 0, .int .i64 0, .int .i64 0]) 3 24 Tryd.underlying45 HI0.out HZ0.out HZ1.out HZ2.out rfl (by decide) _ _ _ rfl (World.ownsRow.alloc HOWN1.out _) ⟨w5.heap.size, 0, none⟩ 1 1 [.int .i64 ((k : Int) + 1), .int .i64 (2 * x + (i : Int) % 2), .int .i64 (2 * y + (i : Int) / 2)] rfl rfl ?b2 ?b3 ?b4 ?b5 ?b6 ?_) | fail)
          case b2 =>
            intro j u hu
            match j, hu with
            | 0, hu => simp at hu; subst hu; simp [Addr.add, go_sem]
            | 1, hu => simp at hu; subst hu; simp [Addr.add, go_sem]
            | 2, hu => simp at hu; subst hu; simp [Addr.add, go_sem]
          case b3 => intro u hu; simp at hu; rcases hu with rfl | rfl | rfl <;> rfl
          case b4 => unfold maxLen; omega
          case b5 => omega
          case b6 => simp; omega
          intro v2 w6 hown2 hgr2 _
          have hb6 : Below wa.heap.size wa w6 := (hb5.alloc hz5 _).grown hgr2 (by simp; omega) (fun g hg => (hlt1.out g hg).1)
          have hz6 := hb6.size
          have HOWN2 := Lib.hid hown2
          clear hgr2 hown2 r0 r1 r2 HOWN1 hlt1 hb5 hz5
          by_cases hcap : cap = at_
          · obtain rfl : at_ = i := by omega
            subst hcap
            have hown2 := HOWN2.out
            obtain ⟨hl2, hv2⟩ := hown2
            rcases hv2 with ⟨rfl, hn⟩ | ⟨g2, cap2, cur, rfl, hg22, hh2, hle2, hm2, hcs2, htk2⟩
            · omega
            · clear hl2 hh2 hm2 hcs2 htk2
              have hout := out_step (B := w.heap.size + 1) _ HO2.out HLEN.out ha hgood.out (by omega) HOWN2.out (by omega) (by
                have : (List.map T Ls).drop cap = [] := List.drop_eq_nil_of_le (by rw [List.length_map, HLEN.out]; exact Nat.le_refl _)
                rw [this]
                simp [flat])
              have HOUT := Lib.hid hout
              have hS := Lib.hid (S1'.out.below hb6 (by omega))
              have hb8 := hbw'.trans (hb6.mono (by omega))
              clear hout HOWN2 hb6
              go_wp2_with fail
              go_roundw
              case rel => exact ⟨cap + 1, by omega, by go_num, HOUT.out, hS, by omega, hb8⟩
              case measure => simp [intOf]; omega
          · have hcap2 : ¬ at_ = cap := fun e => hcap e.symm
            go_wp2_with (first | (at_builtin; refine wpList_append_own _ rfl _ _ 45 rfl wa.heap.size 23 i0 (.agg #[.int .i64 0, .int .i64 0, .int .i64 0]) 3 24 Tryd.underlying45 HI0.out HZ0.out HZ1.out HZ2.out rfl (by decide) _ _ _ rfl HOWN2.out ⟨g, at_ * 3, none⟩ (i - at_) (cap - at_) (flat ((Ls.drop at_).map T)) rfl ?d1 ?d2 ?d3 ?d4 ?d5 ?d6 ?_) | fail)
            case d1 => rw [flat_len, List.length_map, List.length_drop, HLEN.out]
            case d2 =>
              intro j u hu
              have hj : j < (i - at_) * 3 := by
                have := (List.getElem?_eq_some_iff.1 hu).1
                rw [flat_len, List.length_map, List.length_drop, HLEN.out] at this
                exact this
              rw [List.map_drop, flat_drop, List.getElem?_drop] at hu
              rw [show (⟨g, at_ * 3, none⟩ : Addr).add j = ⟨g, at_ * 3 + j, none⟩ from by first | (simp [Addr.add]; done) | (simp [Addr.add]; omega)]
              exact (hb6.cell (p := ⟨g, at_ * 3 + j, none⟩) (by show g < wa.heap.size; omega)).trans ((HC.out (at_ * 3 + j) (by omega)).trans hu)
            case d3 => exact flat_one _
            case d4 => unfold maxLen; omega
            case d5 => omega
            case d6 => exact hz6
            intro v3 w7 hown3 hgr3 _
            have hb7 : Below wa.heap.size wa w7 := hb6.grown hgr3 hz6 (fun g hg => (World.ownsRow.lt HOWN2.out g hg).1)
            have hout := out_step (B := w.heap.size + 1) _ HO2.out HLEN.out ha hgood.out (by omega) hown3 (by omega) (by simp)
            have HOUT := Lib.hid hout
            have hS := Lib.hid (S1'.out.below hb7 (by omega))
            have hb8 := hbw'.trans (hb7.mono (by omega))
            have hz7 := hb7.size
            clear hgr3 hown3 hout hb7 HOWN2 hb6
            go_wp2_with fail
            go_roundw
            case rel => exact ⟨i + 1, by omega, by go_num, HOUT.out, hS, by omega, hb8⟩
            case measure => simp [intOf]; omega
    · obtain rfl : i = 4 := by omega
      have hLs := sorted4 Ls hG.1 hG.2.1 (fun l hl => by
        obtain ⟨j, hj, rfl⟩ := hG.2.2 l hl
        obtain ⟨p0, p1, _⟩ := HOG.out j (by omega)
        exact ⟨p0, p1⟩)
      subst hLs
      have hT := hown.tilesAt
      have HT := Lib.hid hT
      clear hT hown hG S1
      go_wp2_with fail
      go_ret2
      exact ⟨_, rfl, HT.out, hbw⟩
end Go.Proofs.YtanhoppclgeogaaDoor
