/- The walk of CoverUnion: what is put together has what one of both has, in either order, and no more. -/
import Derived.Test.YthlekifagidijaaDoorWl
namespace Go.Proofs.YthlekifagidijaaDoor
open Go.RowKit
set_option linter.unusedVariables false
set_option linter.unusedSimpArgs false
theorem uni_comm (a b : List (Int × Int)) : uni a b = uni b a :=
  pl_unique _ _ (union_pl a b) (union_pl b a) (fun d => by
    have h1 := union_mem a b d
    have h2 := union_mem b a d
    unfold uni
    rw [h1, h2, or_comm])
theorem uni_again (a b : List (Int × Int)) : uni (uni a b) a = uni a b :=
  pl_unique _ _ (union_pl _ a) (union_pl a b) (fun d => by
    have h1 := union_mem (uni a b) a d
    have h2 := union_mem a b d
    unfold uni at *
    rw [h1, h2]
    constructor
    · rintro ((h | h) | h)
      · exact .inl h
      · exact .inr h
      · exact .inl h
    · exact .inl)
theorem uni_memB (a b : List (Int × Int)) (d : Int) : memB (uni a b) d = (memB a d || memB b d) := by
  have h := union_mem a b d
  rw [Bool.eq_iff_iff, memB_iff, Bool.or_eq_true, memB_iff, memB_iff]
  exact h
theorem tot_nn (l : List (Int × Int)) : 0 ≤ tot l := by
  induction l with
  | nil => exact Int.le_refl _
  | cons s l ih => rw [tot]; split <;> omega
theorem ins_tot (s : Int × Int) (l : List (Int × Int)) : tot (ins s l) = (if s.1 ≤ s.2 then s.2 - s.1 + 1 else 0) + tot l := by
  induction l with
  | nil => rfl
  | cons t l ih =>
    rw [ins]
    split
    · rw [tot, ih, tot]; omega
    · rw [tot]
theorem grow_tot (l : List (Int × Int)) (s : Int × Int) (hs : s.1 ≤ s.2) (hl : ∀ t ∈ l, t.1 ≤ t.2) : ((grow l s).2 - (grow l s).1 + 1) + tot (rest l s) ≤ (s.2 - s.1 + 1) + tot l := by
  induction l generalizing s with
  | nil => exact Int.le_refl _
  | cons t l ih =>
    have ht := hl t List.mem_cons_self
    have hl' : ∀ u ∈ l, u.1 ≤ u.2 := fun u hu => hl u (List.mem_cons_of_mem _ hu)
    rw [grow, rest, tot, if_pos ht]
    by_cases h : touchB t s = true
    · rw [if_pos h, if_pos h]
      have := ih (min t.1 s.1, max t.2 s.2) (by show min t.1 s.1 ≤ max t.2 s.2; omega) hl'
      simp only [touchB, Bool.and_eq_true, decide_eq_true_eq] at h
      dsimp only at this
      omega
    · rw [if_neg h, if_neg h, tot, if_pos ht]
      have := ih s hs hl'
      omega
theorem put_tot (l : List (Int × Int)) (s : Int × Int) (hl : Pl l) : tot (putL l s) ≤ tot l + (if s.1 ≤ s.2 then s.2 - s.1 + 1 else 0) := by
  unfold putL
  by_cases h : s.2 < s.1
  · rw [if_pos h, if_neg (by omega)]; omega
  · rw [if_neg h, ins_tot, if_pos (grow_ok l s (by omega)).1, if_pos (by omega)]
    have := grow_tot l s (by omega) hl.1
    omega
theorem puts_tot (l m : List (Int × Int)) (hl : Pl l) : tot (puts l m) ≤ tot l + tot m := by
  induction m generalizing l with
  | nil => simp [puts, tot]
  | cons s m ih =>
    have h1 := ih (putL l s) (put_pl l s hl)
    have h2 := put_tot l s hl
    rw [puts, tot]
    omega
theorem uni_tot (a b : List (Int × Int)) : tot (uni a b) ≤ tot a + tot b := by
  have h1 := puts_tot [] a pl_nil
  have h2 := puts_tot (puts [] a) b (puts_pl _ _ pl_nil)
  unfold uni
  simp only [tot] at h1
  omega
/-- All below 2 to the 56. -/
def smB (l : List (Int × Int)) : Bool := l.all (fun t => decide (t.2 < 72057594037927936))
theorem small_tot (l : List (Int × Int)) (hw : WideS l) (h : smB l = true) : tot l ≤ l.length * 72057594037927936 := by
  induction l with
  | nil => simp [tot]
  | cons t l ih =>
    unfold smB at h
    rw [List.all_cons, Bool.and_eq_true, decide_eq_true_iff] at h
    have h1 := ih (fun u hu => hw u (List.mem_cons_of_mem _ hu)) h.2
    have h2 := hw t List.mem_cons_self
    rw [tot, List.length_cons]
    split
    · omega
    · omega
theorem no_more (a b : List (Int × Int)) (ha : a.length ≤ 40) (hb : b.length ≤ 40) (wa : WideS a) (wb : WideS b) (sa : smB a = true) (sb : smB b = true) : tot (uni a b) % 18446744073709551616 ≤ IntKind.u64.wrap (tot a % 18446744073709551616 + tot b % 18446744073709551616) := by
  have h1 := small_tot a wa sa
  have h2 := small_tot b wb sb
  have h3 := uni_tot a b
  have h4 := tot_nn a
  have h5 := tot_nn b
  have h6 := tot_nn (uni a b)
  rw [IntKind.wrap_u64]
  omega
theorem small_any (v : Value) (l : List (Int × Int)) (w : World) (hv : SpansAt w v l) (hl : l.length ≤ 100000) : Calls Tryd.prog 28 #[v] w fun e w' => e = .returned (.bool (smB l)) ∧ Below w.heap.size w w' := by
  obtain ⟨a, cap, rfl, h1, h2, hc⟩ := hv
  have HC := Lib.hid hc
  clear hc
  go_enter Tryd.func28, Tryd.ntmps28
  go_wp2_with fail
  go_loopw [3] (fun s wr => ∃ i : Nat, i ≤ l.length ∧ s = .int .i64 i ∧ Hid (smB l = smB (l.drop i)) ∧ Below w.heap.size w wr) (fun s _ => l.length - (intOf s).toNat)
  case atStart => exact ⟨0, Nat.zero_le _, rfl, Lib.hid rfl, Below.refl _ _⟩
  case round =>
    obtain ⟨i, hi, rfl, HM, hbw⟩ := hrel
    by_cases hlt : i < l.length
    · obtain ⟨t, ht⟩ : ∃ t, l[i]? = some t := ⟨_, List.getElem?_eq_getElem hlt⟩
      obtain ⟨g, off, rfl, hg, l0, l1⟩ := HC.out i t ht
      replace l0 := scell_later hbw l0
      replace l1 := scell_later hbw l1
      have hdr : l.drop i = t :: l.drop (i + 1) := by
        rw [List.drop_eq_getElem_cons hlt]
        congr 1
        have := List.getElem?_eq_getElem hlt
        rw [this] at ht
        exact Option.some.inj ht
      have hm : smB (l.drop i) = (decide (t.2 < 72057594037927936) && smB (l.drop (i + 1))) := by rw [hdr]; rfl
      have HN := Lib.hid (HM.out.trans hm)
      have hi2 : (i : Int) < (l.length : Int) := by omega
      clear ht hdr hm HM
      obtain ⟨p, q⟩ := t
      dsimp only at l0 l1 HN
      by_cases g2 : q < 72057594037927936
      · have HN' : Hid (smB l = smB (l.drop (i + 1))) := Lib.hid (by rw [HN.out, decide_eq_true g2, Bool.true_and])
        go_wp2_with fail
        go_roundw
        case rel => exact ⟨i + 1, by omega, by go_num, HN', hbw⟩
        case measure => simp [intOf]; omega
      · have g3 : 72057594037927936 ≤ q := by omega
        go_wp2_with fail
        go_ret
        exact ⟨by rw [HN.out, decide_eq_false (show ¬ q < 72057594037927936 by omega)]; rfl, hbw⟩
    · obtain rfl : i = l.length := by omega
      go_wp2_with fail
      go_ret
      exact ⟨by rw [HM.out, List.drop_length]; rfl, hbw⟩
set_option maxHeartbeats 4000000 in
set_option maxRecDepth 20000 in
theorem union_walk (v1 : Value) (a : List (Int × Int)) (v2 : Value) (b : List (Int × Int)) (d : Int) (w : World) (hq : QTab w) (s1 : SpansAt w v1 a) (t1 : WideS a) (s2 : SpansAt w v2 b) (t2 : WideS b) (d0 : 0 ≤ d) (d1 : d ≤ 18446744073709551615) : Calls Tryd.prog 6 #[v1, v2, .int .u64 d] w fun e w' => e = .returned (.bool true) ∧ Below w.heap.size w w' := by
  have HQ := Lib.hid hq
  have HA := Lib.hid awake_any
  clear hq
  by_cases h1 : 40 < a.length
  · obtain ⟨al, cap, rfl, _⟩ := s1
    obtain ⟨al2, cap2, rfl, _⟩ := s2
    have h1' : (40 : Int) < (a.length : Int) := by omega
    go_enter Tryd.func6, Tryd.ntmps6
    go_wp2_with fail
    refine (HA.out _ HQ.out).mono ?_
    rintro e w1 ⟨rfl, hb⟩
    go_wp2_with fail
    go_ret
    exact ⟨rfl, hb⟩
  · by_cases h2 : 40 < b.length
    · obtain ⟨al, cap, rfl, _⟩ := s1
      obtain ⟨al2, cap2, rfl, _⟩ := s2
      have h1' : ¬ (40 : Int) < (a.length : Int) := by omega
      have h2' : (40 : Int) < (b.length : Int) := by omega
      go_enter Tryd.func6, Tryd.ntmps6
      go_wp2_with fail
      refine (HA.out _ HQ.out).mono ?_
      rintro e w1 ⟨rfl, hb⟩
      go_wp2_with fail
      go_ret
      exact ⟨rfl, hb⟩
    · have hul := uni_len a b
      have HO1 := Lib.hid (fun w h => sown_any v1 a w h (by omega))
      have HO2 := Lib.hid (fun w h => sown_any v2 b w h (by omega))
      have HU := Lib.hid (fun x y w h g => union_any x y a b w h g t1 t2 (by omega))
      have hu2 := fun x y w h g => union_any x y b a w h g t2 t1 (by omega)
      rw [← uni_comm a b] at hu2
      have HU2 := Lib.hid hu2
      have hux := fun x y w h g => union_any x y (uni a b) a w h g (uni_wide a b t1 t2) t1 (by omega)
      rw [uni_again a b] at hux
      have HUX := Lib.hid hux
      have HB := Lib.hid (fun v w h => sback_any v (uni a b) w h (by omega))
      have HSm := Lib.hid (fun x y w h g => rsame_yes x y (uni a b) w h g (by omega))
      have hiu := fun v w h => in_any v (uni a b) d w h (by omega)
      rw [uni_memB a b d] at hiu
      have HIU := Lib.hid hiu
      have HIA := Lib.hid (fun v w h => in_any v a d w h (by omega))
      have HIB := Lib.hid (fun v w h => in_any v b d w h (by omega))
      have HTU := Lib.hid (fun v w h => total_any v (uni a b) w h (uni_wide a b t1 t2) (by omega))
      have HTA := Lib.hid (fun v w h => total_any v a w h t1 (by omega))
      have HTB := Lib.hid (fun v w h => total_any v b w h t2 (by omega))
      have HMA := Lib.hid (fun w h => small_any v1 a w h (by omega))
      have HMB := Lib.hid (fun w h => small_any v2 b w h (by omega))
      have hno := fun sa sb => no_more a b (by omega) (by omega) t1 t2 sa sb
      have h1' : decide ((40 : Int) < (a.length : Int)) = false := decide_eq_false (by omega)
      have h2' : decide ((40 : Int) < (b.length : Int)) = false := decide_eq_false (by omega)
      obtain ⟨al, cap, rfl, q1⟩ := s1
      obtain ⟨al2, cap2, rfl, q2⟩ := s2
      have s1 : SpansAt w (.slice al a.length cap) a := ⟨al, cap, rfl, q1⟩
      have s2 : SpansAt w (.slice al2 b.length cap2) b := ⟨al2, cap2, rfl, q2⟩
      have HS1 := Lib.hid s1
      have HS2 := Lib.hid s2
      clear q1 q2 s1 s2 t1 t2 h1 h2 hul hu2 hux hiu
      generalize memB a d = ma at *
      generalize memB b d = mb at *
      generalize tot a % 18446744073709551616 = ta at *
      generalize tot b % 18446744073709551616 = tb at *
      generalize tot (uni a b) % 18446744073709551616 = tu at *
      generalize uni a b = U at *
      generalize smB a = sa at *
      generalize smB b = sb at *
      cases ma with
      | true =>
        by_cases g1 : IntKind.u64.wrap (ta + tb) < tu
        · by_cases g2 : ta ≤ IntKind.u64.wrap (ta + tb)
          · cases sa with
            | false =>
              have c1 : decide (IntKind.u64.wrap (ta + tb) < tu) = true := decide_eq_true g1
              have c2 : decide (ta ≤ IntKind.u64.wrap (ta + tb)) = true := decide_eq_true g2
              clear hno
              have hb := Below.refl w.heap.size w
              go_enter Tryd.func6, Tryd.ntmps6
              go_wp2_with fail
              refine (HO1.out _ (HS1.out.below hb)).mono ?_
              rintro e w1 ⟨x1, rfl, hx1, hb2⟩
              replace hb := hb.trans (hb2.mono hb.size)
              clear hb2 
              go_wp2_with fail
              refine (HO2.out _ (HS2.out.below hb)).mono ?_
              rintro e w2 ⟨x2, rfl, hx2, hb2⟩
              replace hx1 := hx1.below hb2
              replace hb := hb.trans (hb2.mono hb.size)
              clear hb2 
              go_wp2_with fail
              refine (HU.out _ _ _ hx1 hx2).mono ?_
              rintro e w3 ⟨X, rfl, hX, hb2⟩
              replace hx1 := hx1.below hb2
              replace hx2 := hx2.below hb2
              replace hb := hb.trans (hb2.mono hb.size)
              clear hb2 hx1 hx2
              go_wp2_with fail
              refine (HO2.out _ (HS2.out.below hb)).mono ?_
              rintro e w4 ⟨y1, rfl, hy1, hb2⟩
              replace hX := hX.below hb2
              replace hb := hb.trans (hb2.mono hb.size)
              clear hb2 
              go_wp2_with fail
              refine (HO1.out _ (HS1.out.below hb)).mono ?_
              rintro e w5 ⟨y2, rfl, hy2, hb2⟩
              replace hX := hX.below hb2
              replace hy1 := hy1.below hb2
              replace hb := hb.trans (hb2.mono hb.size)
              clear hb2 
              go_wp2_with fail
              refine (HU2.out _ _ _ hy1 hy2).mono ?_
              rintro e w6 ⟨Y, rfl, hY, hb2⟩
              replace hX := hX.below hb2
              replace hy1 := hy1.below hb2
              replace hy2 := hy2.below hb2
              replace hb := hb.trans (hb2.mono hb.size)
              clear hb2 hy1 hy2
              go_wp2_with fail
              refine (HB.out _ _ hX).mono ?_
              rintro e w7 ⟨bx, rfl, hbx, hb2⟩
              replace hX := hX.below hb2
              replace hY := hY.below hb2
              replace hb := hb.trans (hb2.mono hb.size)
              clear hb2 
              go_wp2_with fail
              refine (HB.out _ _ hY).mono ?_
              rintro e w8 ⟨by_, rfl, hby_, hb2⟩
              replace hX := hX.below hb2
              replace hY := hY.below hb2
              replace hbx := hbx.below hb2
              replace hb := hb.trans (hb2.mono hb.size)
              clear hb2 hY
              go_wp2_with fail
              refine (HSm.out _ _ _ hbx hby_).mono ?_
              rintro e w9 ⟨rfl, hb2⟩
              replace hX := hX.below hb2
              replace hbx := hbx.below hb2
              replace hby_ := hby_.below hb2
              replace hb := hb.trans (hb2.mono hb.size)
              clear hb2 hbx hby_
              go_wp2_with fail
              refine (HIU.out _ _ hX).mono ?_
              rintro e w10 ⟨rfl, hb2⟩
              replace hX := hX.below hb2
              replace hb := hb.trans (hb2.mono hb.size)
              clear hb2 
              go_wp2_with fail
              refine (HO1.out _ (HS1.out.below hb)).mono ?_
              rintro e w11 ⟨z1, rfl, hz1, hb2⟩
              replace hX := hX.below hb2
              replace hb := hb.trans (hb2.mono hb.size)
              clear hb2 
              go_wp2_with fail
              refine (HIA.out _ _ hz1).mono ?_
              rintro e w12 ⟨rfl, hb2⟩
              replace hX := hX.below hb2
              replace hz1 := hz1.below hb2
              replace hb := hb.trans (hb2.mono hb.size)
              clear hb2 hz1
              go_wp2_with fail
              refine (HTU.out _ _ hX).mono ?_
              rintro e w13 ⟨rfl, hb2⟩
              replace hX := hX.below hb2
              replace hb := hb.trans (hb2.mono hb.size)
              clear hb2 
              go_wp2_with fail
              refine (HO1.out _ (HS1.out.below hb)).mono ?_
              rintro e w14 ⟨p1, rfl, hp1, hb2⟩
              replace hX := hX.below hb2
              replace hb := hb.trans (hb2.mono hb.size)
              clear hb2 
              go_wp2_with fail
              refine (HTA.out _ _ hp1).mono ?_
              rintro e w15 ⟨rfl, hb2⟩
              replace hX := hX.below hb2
              replace hp1 := hp1.below hb2
              replace hb := hb.trans (hb2.mono hb.size)
              clear hb2 hp1
              go_wp2_with fail
              refine (HO2.out _ (HS2.out.below hb)).mono ?_
              rintro e w16 ⟨p2, rfl, hp2, hb2⟩
              replace hX := hX.below hb2
              replace hb := hb.trans (hb2.mono hb.size)
              clear hb2 
              go_wp2_with fail
              refine (HTB.out _ _ hp2).mono ?_
              rintro e w17 ⟨rfl, hb2⟩
              replace hX := hX.below hb2
              replace hp2 := hp2.below hb2
              replace hb := hb.trans (hb2.mono hb.size)
              clear hb2 hp2
              go_wp2_with fail
              refine (HO1.out _ (HS1.out.below hb)).mono ?_
              rintro e w18 ⟨q1, rfl, hq1, hb2⟩
              replace hX := hX.below hb2
              replace hb := hb.trans (hb2.mono hb.size)
              clear hb2 
              go_wp2_with fail
              refine (HTA.out _ _ hq1).mono ?_
              rintro e w19 ⟨rfl, hb2⟩
              replace hX := hX.below hb2
              replace hq1 := hq1.below hb2
              replace hb := hb.trans (hb2.mono hb.size)
              clear hb2 hq1
              go_wp2_with fail
              refine (HO2.out _ (HS2.out.below hb)).mono ?_
              rintro e w20 ⟨q2, rfl, hq2, hb2⟩
              replace hX := hX.below hb2
              replace hb := hb.trans (hb2.mono hb.size)
              clear hb2 
              go_wp2_with fail
              refine (HTB.out _ _ hq2).mono ?_
              rintro e w21 ⟨rfl, hb2⟩
              replace hX := hX.below hb2
              replace hq2 := hq2.below hb2
              replace hb := hb.trans (hb2.mono hb.size)
              clear hb2 hq2
              go_wp2_with fail
              refine (HO1.out _ (HS1.out.below hb)).mono ?_
              rintro e w22 ⟨q3, rfl, hq3, hb2⟩
              replace hX := hX.below hb2
              replace hb := hb.trans (hb2.mono hb.size)
              clear hb2 
              go_wp2_with fail
              refine (HTA.out _ _ hq3).mono ?_
              rintro e w23 ⟨rfl, hb2⟩
              replace hX := hX.below hb2
              replace hq3 := hq3.below hb2
              replace hb := hb.trans (hb2.mono hb.size)
              clear hb2 hq3
              go_wp2_with fail
              refine (HMA.out _ (HS1.out.below hb)).mono ?_
              rintro e w24 ⟨rfl, hb2⟩
              replace hX := hX.below hb2
              replace hb := hb.trans (hb2.mono hb.size)
              clear hb2 
              go_wp2_with fail
              refine (HO1.out _ (HS1.out.below hb)).mono ?_
              rintro e w25 ⟨r1, rfl, hr1, hb2⟩
              replace hX := hX.below hb2
              replace hb := hb.trans (hb2.mono hb.size)
              clear hb2 
              go_wp2_with fail
              refine (HUX.out _ _ _ hX hr1).mono ?_
              rintro e w26 ⟨R, rfl, hR, hb2⟩
              replace hX := hX.below hb2
              replace hr1 := hr1.below hb2
              replace hb := hb.trans (hb2.mono hb.size)
              clear hb2 hr1
              go_wp2_with fail
              refine (HB.out _ _ hR).mono ?_
              rintro e w27 ⟨br, rfl, hbr, hb2⟩
              replace hX := hX.below hb2
              replace hR := hR.below hb2
              replace hb := hb.trans (hb2.mono hb.size)
              clear hb2 hR
              go_wp2_with fail
              refine (HB.out _ _ hX).mono ?_
              rintro e w28 ⟨bs, rfl, hbs, hb2⟩
              replace hX := hX.below hb2
              replace hbr := hbr.below hb2
              replace hb := hb.trans (hb2.mono hb.size)
              clear hb2 hX
              go_wp2_with fail
              refine (HSm.out _ _ _ hbr hbs).mono ?_
              rintro e w29 ⟨rfl, hb2⟩
              replace hbr := hbr.below hb2
              replace hbs := hbs.below hb2
              replace hb := hb.trans (hb2.mono hb.size)
              clear hb2 hbr hbs
              go_wp2_with fail
              refine (HA.out _ (HQ.out.below hb)).mono ?_
              rintro e w30 ⟨rfl, hb2⟩
              replace hb := hb.trans (hb2.mono hb.size)
              clear hb2 
              go_wp2_with fail
              go_ret
              exact ⟨rfl, hb⟩
            | true =>
              cases sb with
              | false =>
                have c1 : decide (IntKind.u64.wrap (ta + tb) < tu) = true := decide_eq_true g1
                have c2 : decide (ta ≤ IntKind.u64.wrap (ta + tb)) = true := decide_eq_true g2
                clear hno
                have hb := Below.refl w.heap.size w
                go_enter Tryd.func6, Tryd.ntmps6
                go_wp2_with fail
                refine (HO1.out _ (HS1.out.below hb)).mono ?_
                rintro e w1 ⟨x1, rfl, hx1, hb2⟩
                replace hb := hb.trans (hb2.mono hb.size)
                clear hb2 
                go_wp2_with fail
                refine (HO2.out _ (HS2.out.below hb)).mono ?_
                rintro e w2 ⟨x2, rfl, hx2, hb2⟩
                replace hx1 := hx1.below hb2
                replace hb := hb.trans (hb2.mono hb.size)
                clear hb2 
                go_wp2_with fail
                refine (HU.out _ _ _ hx1 hx2).mono ?_
                rintro e w3 ⟨X, rfl, hX, hb2⟩
                replace hx1 := hx1.below hb2
                replace hx2 := hx2.below hb2
                replace hb := hb.trans (hb2.mono hb.size)
                clear hb2 hx1 hx2
                go_wp2_with fail
                refine (HO2.out _ (HS2.out.below hb)).mono ?_
                rintro e w4 ⟨y1, rfl, hy1, hb2⟩
                replace hX := hX.below hb2
                replace hb := hb.trans (hb2.mono hb.size)
                clear hb2 
                go_wp2_with fail
                refine (HO1.out _ (HS1.out.below hb)).mono ?_
                rintro e w5 ⟨y2, rfl, hy2, hb2⟩
                replace hX := hX.below hb2
                replace hy1 := hy1.below hb2
                replace hb := hb.trans (hb2.mono hb.size)
                clear hb2 
                go_wp2_with fail
                refine (HU2.out _ _ _ hy1 hy2).mono ?_
                rintro e w6 ⟨Y, rfl, hY, hb2⟩
                replace hX := hX.below hb2
                replace hy1 := hy1.below hb2
                replace hy2 := hy2.below hb2
                replace hb := hb.trans (hb2.mono hb.size)
                clear hb2 hy1 hy2
                go_wp2_with fail
                refine (HB.out _ _ hX).mono ?_
                rintro e w7 ⟨bx, rfl, hbx, hb2⟩
                replace hX := hX.below hb2
                replace hY := hY.below hb2
                replace hb := hb.trans (hb2.mono hb.size)
                clear hb2 
                go_wp2_with fail
                refine (HB.out _ _ hY).mono ?_
                rintro e w8 ⟨by_, rfl, hby_, hb2⟩
                replace hX := hX.below hb2
                replace hY := hY.below hb2
                replace hbx := hbx.below hb2
                replace hb := hb.trans (hb2.mono hb.size)
                clear hb2 hY
                go_wp2_with fail
                refine (HSm.out _ _ _ hbx hby_).mono ?_
                rintro e w9 ⟨rfl, hb2⟩
                replace hX := hX.below hb2
                replace hbx := hbx.below hb2
                replace hby_ := hby_.below hb2
                replace hb := hb.trans (hb2.mono hb.size)
                clear hb2 hbx hby_
                go_wp2_with fail
                refine (HIU.out _ _ hX).mono ?_
                rintro e w10 ⟨rfl, hb2⟩
                replace hX := hX.below hb2
                replace hb := hb.trans (hb2.mono hb.size)
                clear hb2 
                go_wp2_with fail
                refine (HO1.out _ (HS1.out.below hb)).mono ?_
                rintro e w11 ⟨z1, rfl, hz1, hb2⟩
                replace hX := hX.below hb2
                replace hb := hb.trans (hb2.mono hb.size)
                clear hb2 
                go_wp2_with fail
                refine (HIA.out _ _ hz1).mono ?_
                rintro e w12 ⟨rfl, hb2⟩
                replace hX := hX.below hb2
                replace hz1 := hz1.below hb2
                replace hb := hb.trans (hb2.mono hb.size)
                clear hb2 hz1
                go_wp2_with fail
                refine (HTU.out _ _ hX).mono ?_
                rintro e w13 ⟨rfl, hb2⟩
                replace hX := hX.below hb2
                replace hb := hb.trans (hb2.mono hb.size)
                clear hb2 
                go_wp2_with fail
                refine (HO1.out _ (HS1.out.below hb)).mono ?_
                rintro e w14 ⟨p1, rfl, hp1, hb2⟩
                replace hX := hX.below hb2
                replace hb := hb.trans (hb2.mono hb.size)
                clear hb2 
                go_wp2_with fail
                refine (HTA.out _ _ hp1).mono ?_
                rintro e w15 ⟨rfl, hb2⟩
                replace hX := hX.below hb2
                replace hp1 := hp1.below hb2
                replace hb := hb.trans (hb2.mono hb.size)
                clear hb2 hp1
                go_wp2_with fail
                refine (HO2.out _ (HS2.out.below hb)).mono ?_
                rintro e w16 ⟨p2, rfl, hp2, hb2⟩
                replace hX := hX.below hb2
                replace hb := hb.trans (hb2.mono hb.size)
                clear hb2 
                go_wp2_with fail
                refine (HTB.out _ _ hp2).mono ?_
                rintro e w17 ⟨rfl, hb2⟩
                replace hX := hX.below hb2
                replace hp2 := hp2.below hb2
                replace hb := hb.trans (hb2.mono hb.size)
                clear hb2 hp2
                go_wp2_with fail
                refine (HO1.out _ (HS1.out.below hb)).mono ?_
                rintro e w18 ⟨q1, rfl, hq1, hb2⟩
                replace hX := hX.below hb2
                replace hb := hb.trans (hb2.mono hb.size)
                clear hb2 
                go_wp2_with fail
                refine (HTA.out _ _ hq1).mono ?_
                rintro e w19 ⟨rfl, hb2⟩
                replace hX := hX.below hb2
                replace hq1 := hq1.below hb2
                replace hb := hb.trans (hb2.mono hb.size)
                clear hb2 hq1
                go_wp2_with fail
                refine (HO2.out _ (HS2.out.below hb)).mono ?_
                rintro e w20 ⟨q2, rfl, hq2, hb2⟩
                replace hX := hX.below hb2
                replace hb := hb.trans (hb2.mono hb.size)
                clear hb2 
                go_wp2_with fail
                refine (HTB.out _ _ hq2).mono ?_
                rintro e w21 ⟨rfl, hb2⟩
                replace hX := hX.below hb2
                replace hq2 := hq2.below hb2
                replace hb := hb.trans (hb2.mono hb.size)
                clear hb2 hq2
                go_wp2_with fail
                refine (HO1.out _ (HS1.out.below hb)).mono ?_
                rintro e w22 ⟨q3, rfl, hq3, hb2⟩
                replace hX := hX.below hb2
                replace hb := hb.trans (hb2.mono hb.size)
                clear hb2 
                go_wp2_with fail
                refine (HTA.out _ _ hq3).mono ?_
                rintro e w23 ⟨rfl, hb2⟩
                replace hX := hX.below hb2
                replace hq3 := hq3.below hb2
                replace hb := hb.trans (hb2.mono hb.size)
                clear hb2 hq3
                go_wp2_with fail
                refine (HMA.out _ (HS1.out.below hb)).mono ?_
                rintro e w24 ⟨rfl, hb2⟩
                replace hX := hX.below hb2
                replace hb := hb.trans (hb2.mono hb.size)
                clear hb2 
                go_wp2_with fail
                refine (HMB.out _ (HS2.out.below hb)).mono ?_
                rintro e w25 ⟨rfl, hb2⟩
                replace hX := hX.below hb2
                replace hb := hb.trans (hb2.mono hb.size)
                clear hb2 
                go_wp2_with fail
                refine (HO1.out _ (HS1.out.below hb)).mono ?_
                rintro e w26 ⟨r1, rfl, hr1, hb2⟩
                replace hX := hX.below hb2
                replace hb := hb.trans (hb2.mono hb.size)
                clear hb2 
                go_wp2_with fail
                refine (HUX.out _ _ _ hX hr1).mono ?_
                rintro e w27 ⟨R, rfl, hR, hb2⟩
                replace hX := hX.below hb2
                replace hr1 := hr1.below hb2
                replace hb := hb.trans (hb2.mono hb.size)
                clear hb2 hr1
                go_wp2_with fail
                refine (HB.out _ _ hR).mono ?_
                rintro e w28 ⟨br, rfl, hbr, hb2⟩
                replace hX := hX.below hb2
                replace hR := hR.below hb2
                replace hb := hb.trans (hb2.mono hb.size)
                clear hb2 hR
                go_wp2_with fail
                refine (HB.out _ _ hX).mono ?_
                rintro e w29 ⟨bs, rfl, hbs, hb2⟩
                replace hX := hX.below hb2
                replace hbr := hbr.below hb2
                replace hb := hb.trans (hb2.mono hb.size)
                clear hb2 hX
                go_wp2_with fail
                refine (HSm.out _ _ _ hbr hbs).mono ?_
                rintro e w30 ⟨rfl, hb2⟩
                replace hbr := hbr.below hb2
                replace hbs := hbs.below hb2
                replace hb := hb.trans (hb2.mono hb.size)
                clear hb2 hbr hbs
                go_wp2_with fail
                refine (HA.out _ (HQ.out.below hb)).mono ?_
                rintro e w31 ⟨rfl, hb2⟩
                replace hb := hb.trans (hb2.mono hb.size)
                clear hb2 
                go_wp2_with fail
                go_ret
                exact ⟨rfl, hb⟩
              | true => exact absurd g1 (by have := hno rfl rfl; omega)
          · have c1 : decide (IntKind.u64.wrap (ta + tb) < tu) = true := decide_eq_true g1
            have c2 : decide (ta ≤ IntKind.u64.wrap (ta + tb)) = false := decide_eq_false g2
            clear hno
            have hb := Below.refl w.heap.size w
            go_enter Tryd.func6, Tryd.ntmps6
            go_wp2_with fail
            refine (HO1.out _ (HS1.out.below hb)).mono ?_
            rintro e w1 ⟨x1, rfl, hx1, hb2⟩
            replace hb := hb.trans (hb2.mono hb.size)
            clear hb2 
            go_wp2_with fail
            refine (HO2.out _ (HS2.out.below hb)).mono ?_
            rintro e w2 ⟨x2, rfl, hx2, hb2⟩
            replace hx1 := hx1.below hb2
            replace hb := hb.trans (hb2.mono hb.size)
            clear hb2 
            go_wp2_with fail
            refine (HU.out _ _ _ hx1 hx2).mono ?_
            rintro e w3 ⟨X, rfl, hX, hb2⟩
            replace hx1 := hx1.below hb2
            replace hx2 := hx2.below hb2
            replace hb := hb.trans (hb2.mono hb.size)
            clear hb2 hx1 hx2
            go_wp2_with fail
            refine (HO2.out _ (HS2.out.below hb)).mono ?_
            rintro e w4 ⟨y1, rfl, hy1, hb2⟩
            replace hX := hX.below hb2
            replace hb := hb.trans (hb2.mono hb.size)
            clear hb2 
            go_wp2_with fail
            refine (HO1.out _ (HS1.out.below hb)).mono ?_
            rintro e w5 ⟨y2, rfl, hy2, hb2⟩
            replace hX := hX.below hb2
            replace hy1 := hy1.below hb2
            replace hb := hb.trans (hb2.mono hb.size)
            clear hb2 
            go_wp2_with fail
            refine (HU2.out _ _ _ hy1 hy2).mono ?_
            rintro e w6 ⟨Y, rfl, hY, hb2⟩
            replace hX := hX.below hb2
            replace hy1 := hy1.below hb2
            replace hy2 := hy2.below hb2
            replace hb := hb.trans (hb2.mono hb.size)
            clear hb2 hy1 hy2
            go_wp2_with fail
            refine (HB.out _ _ hX).mono ?_
            rintro e w7 ⟨bx, rfl, hbx, hb2⟩
            replace hX := hX.below hb2
            replace hY := hY.below hb2
            replace hb := hb.trans (hb2.mono hb.size)
            clear hb2 
            go_wp2_with fail
            refine (HB.out _ _ hY).mono ?_
            rintro e w8 ⟨by_, rfl, hby_, hb2⟩
            replace hX := hX.below hb2
            replace hY := hY.below hb2
            replace hbx := hbx.below hb2
            replace hb := hb.trans (hb2.mono hb.size)
            clear hb2 hY
            go_wp2_with fail
            refine (HSm.out _ _ _ hbx hby_).mono ?_
            rintro e w9 ⟨rfl, hb2⟩
            replace hX := hX.below hb2
            replace hbx := hbx.below hb2
            replace hby_ := hby_.below hb2
            replace hb := hb.trans (hb2.mono hb.size)
            clear hb2 hbx hby_
            go_wp2_with fail
            refine (HIU.out _ _ hX).mono ?_
            rintro e w10 ⟨rfl, hb2⟩
            replace hX := hX.below hb2
            replace hb := hb.trans (hb2.mono hb.size)
            clear hb2 
            go_wp2_with fail
            refine (HO1.out _ (HS1.out.below hb)).mono ?_
            rintro e w11 ⟨z1, rfl, hz1, hb2⟩
            replace hX := hX.below hb2
            replace hb := hb.trans (hb2.mono hb.size)
            clear hb2 
            go_wp2_with fail
            refine (HIA.out _ _ hz1).mono ?_
            rintro e w12 ⟨rfl, hb2⟩
            replace hX := hX.below hb2
            replace hz1 := hz1.below hb2
            replace hb := hb.trans (hb2.mono hb.size)
            clear hb2 hz1
            go_wp2_with fail
            refine (HTU.out _ _ hX).mono ?_
            rintro e w13 ⟨rfl, hb2⟩
            replace hX := hX.below hb2
            replace hb := hb.trans (hb2.mono hb.size)
            clear hb2 
            go_wp2_with fail
            refine (HO1.out _ (HS1.out.below hb)).mono ?_
            rintro e w14 ⟨p1, rfl, hp1, hb2⟩
            replace hX := hX.below hb2
            replace hb := hb.trans (hb2.mono hb.size)
            clear hb2 
            go_wp2_with fail
            refine (HTA.out _ _ hp1).mono ?_
            rintro e w15 ⟨rfl, hb2⟩
            replace hX := hX.below hb2
            replace hp1 := hp1.below hb2
            replace hb := hb.trans (hb2.mono hb.size)
            clear hb2 hp1
            go_wp2_with fail
            refine (HO2.out _ (HS2.out.below hb)).mono ?_
            rintro e w16 ⟨p2, rfl, hp2, hb2⟩
            replace hX := hX.below hb2
            replace hb := hb.trans (hb2.mono hb.size)
            clear hb2 
            go_wp2_with fail
            refine (HTB.out _ _ hp2).mono ?_
            rintro e w17 ⟨rfl, hb2⟩
            replace hX := hX.below hb2
            replace hp2 := hp2.below hb2
            replace hb := hb.trans (hb2.mono hb.size)
            clear hb2 hp2
            go_wp2_with fail
            refine (HO1.out _ (HS1.out.below hb)).mono ?_
            rintro e w18 ⟨q1, rfl, hq1, hb2⟩
            replace hX := hX.below hb2
            replace hb := hb.trans (hb2.mono hb.size)
            clear hb2 
            go_wp2_with fail
            refine (HTA.out _ _ hq1).mono ?_
            rintro e w19 ⟨rfl, hb2⟩
            replace hX := hX.below hb2
            replace hq1 := hq1.below hb2
            replace hb := hb.trans (hb2.mono hb.size)
            clear hb2 hq1
            go_wp2_with fail
            refine (HO2.out _ (HS2.out.below hb)).mono ?_
            rintro e w20 ⟨q2, rfl, hq2, hb2⟩
            replace hX := hX.below hb2
            replace hb := hb.trans (hb2.mono hb.size)
            clear hb2 
            go_wp2_with fail
            refine (HTB.out _ _ hq2).mono ?_
            rintro e w21 ⟨rfl, hb2⟩
            replace hX := hX.below hb2
            replace hq2 := hq2.below hb2
            replace hb := hb.trans (hb2.mono hb.size)
            clear hb2 hq2
            go_wp2_with fail
            refine (HO1.out _ (HS1.out.below hb)).mono ?_
            rintro e w22 ⟨q3, rfl, hq3, hb2⟩
            replace hX := hX.below hb2
            replace hb := hb.trans (hb2.mono hb.size)
            clear hb2 
            go_wp2_with fail
            refine (HTA.out _ _ hq3).mono ?_
            rintro e w23 ⟨rfl, hb2⟩
            replace hX := hX.below hb2
            replace hq3 := hq3.below hb2
            replace hb := hb.trans (hb2.mono hb.size)
            clear hb2 hq3
            go_wp2_with fail
            refine (HO1.out _ (HS1.out.below hb)).mono ?_
            rintro e w24 ⟨r1, rfl, hr1, hb2⟩
            replace hX := hX.below hb2
            replace hb := hb.trans (hb2.mono hb.size)
            clear hb2 
            go_wp2_with fail
            refine (HUX.out _ _ _ hX hr1).mono ?_
            rintro e w25 ⟨R, rfl, hR, hb2⟩
            replace hX := hX.below hb2
            replace hr1 := hr1.below hb2
            replace hb := hb.trans (hb2.mono hb.size)
            clear hb2 hr1
            go_wp2_with fail
            refine (HB.out _ _ hR).mono ?_
            rintro e w26 ⟨br, rfl, hbr, hb2⟩
            replace hX := hX.below hb2
            replace hR := hR.below hb2
            replace hb := hb.trans (hb2.mono hb.size)
            clear hb2 hR
            go_wp2_with fail
            refine (HB.out _ _ hX).mono ?_
            rintro e w27 ⟨bs, rfl, hbs, hb2⟩
            replace hX := hX.below hb2
            replace hbr := hbr.below hb2
            replace hb := hb.trans (hb2.mono hb.size)
            clear hb2 hX
            go_wp2_with fail
            refine (HSm.out _ _ _ hbr hbs).mono ?_
            rintro e w28 ⟨rfl, hb2⟩
            replace hbr := hbr.below hb2
            replace hbs := hbs.below hb2
            replace hb := hb.trans (hb2.mono hb.size)
            clear hb2 hbr hbs
            go_wp2_with fail
            refine (HA.out _ (HQ.out.below hb)).mono ?_
            rintro e w29 ⟨rfl, hb2⟩
            replace hb := hb.trans (hb2.mono hb.size)
            clear hb2 
            go_wp2_with fail
            go_ret
            exact ⟨rfl, hb⟩
        · have c1 : decide (IntKind.u64.wrap (ta + tb) < tu) = false := decide_eq_false g1
          clear hno
          have hb := Below.refl w.heap.size w
          go_enter Tryd.func6, Tryd.ntmps6
          go_wp2_with fail
          refine (HO1.out _ (HS1.out.below hb)).mono ?_
          rintro e w1 ⟨x1, rfl, hx1, hb2⟩
          replace hb := hb.trans (hb2.mono hb.size)
          clear hb2 
          go_wp2_with fail
          refine (HO2.out _ (HS2.out.below hb)).mono ?_
          rintro e w2 ⟨x2, rfl, hx2, hb2⟩
          replace hx1 := hx1.below hb2
          replace hb := hb.trans (hb2.mono hb.size)
          clear hb2 
          go_wp2_with fail
          refine (HU.out _ _ _ hx1 hx2).mono ?_
          rintro e w3 ⟨X, rfl, hX, hb2⟩
          replace hx1 := hx1.below hb2
          replace hx2 := hx2.below hb2
          replace hb := hb.trans (hb2.mono hb.size)
          clear hb2 hx1 hx2
          go_wp2_with fail
          refine (HO2.out _ (HS2.out.below hb)).mono ?_
          rintro e w4 ⟨y1, rfl, hy1, hb2⟩
          replace hX := hX.below hb2
          replace hb := hb.trans (hb2.mono hb.size)
          clear hb2 
          go_wp2_with fail
          refine (HO1.out _ (HS1.out.below hb)).mono ?_
          rintro e w5 ⟨y2, rfl, hy2, hb2⟩
          replace hX := hX.below hb2
          replace hy1 := hy1.below hb2
          replace hb := hb.trans (hb2.mono hb.size)
          clear hb2 
          go_wp2_with fail
          refine (HU2.out _ _ _ hy1 hy2).mono ?_
          rintro e w6 ⟨Y, rfl, hY, hb2⟩
          replace hX := hX.below hb2
          replace hy1 := hy1.below hb2
          replace hy2 := hy2.below hb2
          replace hb := hb.trans (hb2.mono hb.size)
          clear hb2 hy1 hy2
          go_wp2_with fail
          refine (HB.out _ _ hX).mono ?_
          rintro e w7 ⟨bx, rfl, hbx, hb2⟩
          replace hX := hX.below hb2
          replace hY := hY.below hb2
          replace hb := hb.trans (hb2.mono hb.size)
          clear hb2 
          go_wp2_with fail
          refine (HB.out _ _ hY).mono ?_
          rintro e w8 ⟨by_, rfl, hby_, hb2⟩
          replace hX := hX.below hb2
          replace hY := hY.below hb2
          replace hbx := hbx.below hb2
          replace hb := hb.trans (hb2.mono hb.size)
          clear hb2 hY
          go_wp2_with fail
          refine (HSm.out _ _ _ hbx hby_).mono ?_
          rintro e w9 ⟨rfl, hb2⟩
          replace hX := hX.below hb2
          replace hbx := hbx.below hb2
          replace hby_ := hby_.below hb2
          replace hb := hb.trans (hb2.mono hb.size)
          clear hb2 hbx hby_
          go_wp2_with fail
          refine (HIU.out _ _ hX).mono ?_
          rintro e w10 ⟨rfl, hb2⟩
          replace hX := hX.below hb2
          replace hb := hb.trans (hb2.mono hb.size)
          clear hb2 
          go_wp2_with fail
          refine (HO1.out _ (HS1.out.below hb)).mono ?_
          rintro e w11 ⟨z1, rfl, hz1, hb2⟩
          replace hX := hX.below hb2
          replace hb := hb.trans (hb2.mono hb.size)
          clear hb2 
          go_wp2_with fail
          refine (HIA.out _ _ hz1).mono ?_
          rintro e w12 ⟨rfl, hb2⟩
          replace hX := hX.below hb2
          replace hz1 := hz1.below hb2
          replace hb := hb.trans (hb2.mono hb.size)
          clear hb2 hz1
          go_wp2_with fail
          refine (HTU.out _ _ hX).mono ?_
          rintro e w13 ⟨rfl, hb2⟩
          replace hX := hX.below hb2
          replace hb := hb.trans (hb2.mono hb.size)
          clear hb2 
          go_wp2_with fail
          refine (HO1.out _ (HS1.out.below hb)).mono ?_
          rintro e w14 ⟨p1, rfl, hp1, hb2⟩
          replace hX := hX.below hb2
          replace hb := hb.trans (hb2.mono hb.size)
          clear hb2 
          go_wp2_with fail
          refine (HTA.out _ _ hp1).mono ?_
          rintro e w15 ⟨rfl, hb2⟩
          replace hX := hX.below hb2
          replace hp1 := hp1.below hb2
          replace hb := hb.trans (hb2.mono hb.size)
          clear hb2 hp1
          go_wp2_with fail
          refine (HO2.out _ (HS2.out.below hb)).mono ?_
          rintro e w16 ⟨p2, rfl, hp2, hb2⟩
          replace hX := hX.below hb2
          replace hb := hb.trans (hb2.mono hb.size)
          clear hb2 
          go_wp2_with fail
          refine (HTB.out _ _ hp2).mono ?_
          rintro e w17 ⟨rfl, hb2⟩
          replace hX := hX.below hb2
          replace hp2 := hp2.below hb2
          replace hb := hb.trans (hb2.mono hb.size)
          clear hb2 hp2
          go_wp2_with fail
          refine (HO1.out _ (HS1.out.below hb)).mono ?_
          rintro e w18 ⟨r1, rfl, hr1, hb2⟩
          replace hX := hX.below hb2
          replace hb := hb.trans (hb2.mono hb.size)
          clear hb2 
          go_wp2_with fail
          refine (HUX.out _ _ _ hX hr1).mono ?_
          rintro e w19 ⟨R, rfl, hR, hb2⟩
          replace hX := hX.below hb2
          replace hr1 := hr1.below hb2
          replace hb := hb.trans (hb2.mono hb.size)
          clear hb2 hr1
          go_wp2_with fail
          refine (HB.out _ _ hR).mono ?_
          rintro e w20 ⟨br, rfl, hbr, hb2⟩
          replace hX := hX.below hb2
          replace hR := hR.below hb2
          replace hb := hb.trans (hb2.mono hb.size)
          clear hb2 hR
          go_wp2_with fail
          refine (HB.out _ _ hX).mono ?_
          rintro e w21 ⟨bs, rfl, hbs, hb2⟩
          replace hX := hX.below hb2
          replace hbr := hbr.below hb2
          replace hb := hb.trans (hb2.mono hb.size)
          clear hb2 hX
          go_wp2_with fail
          refine (HSm.out _ _ _ hbr hbs).mono ?_
          rintro e w22 ⟨rfl, hb2⟩
          replace hbr := hbr.below hb2
          replace hbs := hbs.below hb2
          replace hb := hb.trans (hb2.mono hb.size)
          clear hb2 hbr hbs
          go_wp2_with fail
          refine (HA.out _ (HQ.out.below hb)).mono ?_
          rintro e w23 ⟨rfl, hb2⟩
          replace hb := hb.trans (hb2.mono hb.size)
          clear hb2 
          go_wp2_with fail
          go_ret
          exact ⟨rfl, hb⟩
      | false =>
        by_cases g1 : IntKind.u64.wrap (ta + tb) < tu
        · by_cases g2 : ta ≤ IntKind.u64.wrap (ta + tb)
          · cases sa with
            | false =>
              have c1 : decide (IntKind.u64.wrap (ta + tb) < tu) = true := decide_eq_true g1
              have c2 : decide (ta ≤ IntKind.u64.wrap (ta + tb)) = true := decide_eq_true g2
              clear hno
              have hb := Below.refl w.heap.size w
              go_enter Tryd.func6, Tryd.ntmps6
              go_wp2_with fail
              refine (HO1.out _ (HS1.out.below hb)).mono ?_
              rintro e w1 ⟨x1, rfl, hx1, hb2⟩
              replace hb := hb.trans (hb2.mono hb.size)
              clear hb2 
              go_wp2_with fail
              refine (HO2.out _ (HS2.out.below hb)).mono ?_
              rintro e w2 ⟨x2, rfl, hx2, hb2⟩
              replace hx1 := hx1.below hb2
              replace hb := hb.trans (hb2.mono hb.size)
              clear hb2 
              go_wp2_with fail
              refine (HU.out _ _ _ hx1 hx2).mono ?_
              rintro e w3 ⟨X, rfl, hX, hb2⟩
              replace hx1 := hx1.below hb2
              replace hx2 := hx2.below hb2
              replace hb := hb.trans (hb2.mono hb.size)
              clear hb2 hx1 hx2
              go_wp2_with fail
              refine (HO2.out _ (HS2.out.below hb)).mono ?_
              rintro e w4 ⟨y1, rfl, hy1, hb2⟩
              replace hX := hX.below hb2
              replace hb := hb.trans (hb2.mono hb.size)
              clear hb2 
              go_wp2_with fail
              refine (HO1.out _ (HS1.out.below hb)).mono ?_
              rintro e w5 ⟨y2, rfl, hy2, hb2⟩
              replace hX := hX.below hb2
              replace hy1 := hy1.below hb2
              replace hb := hb.trans (hb2.mono hb.size)
              clear hb2 
              go_wp2_with fail
              refine (HU2.out _ _ _ hy1 hy2).mono ?_
              rintro e w6 ⟨Y, rfl, hY, hb2⟩
              replace hX := hX.below hb2
              replace hy1 := hy1.below hb2
              replace hy2 := hy2.below hb2
              replace hb := hb.trans (hb2.mono hb.size)
              clear hb2 hy1 hy2
              go_wp2_with fail
              refine (HB.out _ _ hX).mono ?_
              rintro e w7 ⟨bx, rfl, hbx, hb2⟩
              replace hX := hX.below hb2
              replace hY := hY.below hb2
              replace hb := hb.trans (hb2.mono hb.size)
              clear hb2 
              go_wp2_with fail
              refine (HB.out _ _ hY).mono ?_
              rintro e w8 ⟨by_, rfl, hby_, hb2⟩
              replace hX := hX.below hb2
              replace hY := hY.below hb2
              replace hbx := hbx.below hb2
              replace hb := hb.trans (hb2.mono hb.size)
              clear hb2 hY
              go_wp2_with fail
              refine (HSm.out _ _ _ hbx hby_).mono ?_
              rintro e w9 ⟨rfl, hb2⟩
              replace hX := hX.below hb2
              replace hbx := hbx.below hb2
              replace hby_ := hby_.below hb2
              replace hb := hb.trans (hb2.mono hb.size)
              clear hb2 hbx hby_
              go_wp2_with fail
              refine (HIU.out _ _ hX).mono ?_
              rintro e w10 ⟨rfl, hb2⟩
              replace hX := hX.below hb2
              replace hb := hb.trans (hb2.mono hb.size)
              clear hb2 
              go_wp2_with fail
              refine (HO1.out _ (HS1.out.below hb)).mono ?_
              rintro e w11 ⟨z1, rfl, hz1, hb2⟩
              replace hX := hX.below hb2
              replace hb := hb.trans (hb2.mono hb.size)
              clear hb2 
              go_wp2_with fail
              refine (HIA.out _ _ hz1).mono ?_
              rintro e w12 ⟨rfl, hb2⟩
              replace hX := hX.below hb2
              replace hz1 := hz1.below hb2
              replace hb := hb.trans (hb2.mono hb.size)
              clear hb2 hz1
              go_wp2_with fail
              refine (HO2.out _ (HS2.out.below hb)).mono ?_
              rintro e w13 ⟨z2, rfl, hz2, hb2⟩
              replace hX := hX.below hb2
              replace hb := hb.trans (hb2.mono hb.size)
              clear hb2 
              go_wp2_with fail
              refine (HIB.out _ _ hz2).mono ?_
              rintro e w14 ⟨rfl, hb2⟩
              replace hX := hX.below hb2
              replace hz2 := hz2.below hb2
              replace hb := hb.trans (hb2.mono hb.size)
              clear hb2 hz2
              go_wp2_with fail
              refine (HTU.out _ _ hX).mono ?_
              rintro e w15 ⟨rfl, hb2⟩
              replace hX := hX.below hb2
              replace hb := hb.trans (hb2.mono hb.size)
              clear hb2 
              go_wp2_with fail
              refine (HO1.out _ (HS1.out.below hb)).mono ?_
              rintro e w16 ⟨p1, rfl, hp1, hb2⟩
              replace hX := hX.below hb2
              replace hb := hb.trans (hb2.mono hb.size)
              clear hb2 
              go_wp2_with fail
              refine (HTA.out _ _ hp1).mono ?_
              rintro e w17 ⟨rfl, hb2⟩
              replace hX := hX.below hb2
              replace hp1 := hp1.below hb2
              replace hb := hb.trans (hb2.mono hb.size)
              clear hb2 hp1
              go_wp2_with fail
              refine (HO2.out _ (HS2.out.below hb)).mono ?_
              rintro e w18 ⟨p2, rfl, hp2, hb2⟩
              replace hX := hX.below hb2
              replace hb := hb.trans (hb2.mono hb.size)
              clear hb2 
              go_wp2_with fail
              refine (HTB.out _ _ hp2).mono ?_
              rintro e w19 ⟨rfl, hb2⟩
              replace hX := hX.below hb2
              replace hp2 := hp2.below hb2
              replace hb := hb.trans (hb2.mono hb.size)
              clear hb2 hp2
              go_wp2_with fail
              refine (HO1.out _ (HS1.out.below hb)).mono ?_
              rintro e w20 ⟨q1, rfl, hq1, hb2⟩
              replace hX := hX.below hb2
              replace hb := hb.trans (hb2.mono hb.size)
              clear hb2 
              go_wp2_with fail
              refine (HTA.out _ _ hq1).mono ?_
              rintro e w21 ⟨rfl, hb2⟩
              replace hX := hX.below hb2
              replace hq1 := hq1.below hb2
              replace hb := hb.trans (hb2.mono hb.size)
              clear hb2 hq1
              go_wp2_with fail
              refine (HO2.out _ (HS2.out.below hb)).mono ?_
              rintro e w22 ⟨q2, rfl, hq2, hb2⟩
              replace hX := hX.below hb2
              replace hb := hb.trans (hb2.mono hb.size)
              clear hb2 
              go_wp2_with fail
              refine (HTB.out _ _ hq2).mono ?_
              rintro e w23 ⟨rfl, hb2⟩
              replace hX := hX.below hb2
              replace hq2 := hq2.below hb2
              replace hb := hb.trans (hb2.mono hb.size)
              clear hb2 hq2
              go_wp2_with fail
              refine (HO1.out _ (HS1.out.below hb)).mono ?_
              rintro e w24 ⟨q3, rfl, hq3, hb2⟩
              replace hX := hX.below hb2
              replace hb := hb.trans (hb2.mono hb.size)
              clear hb2 
              go_wp2_with fail
              refine (HTA.out _ _ hq3).mono ?_
              rintro e w25 ⟨rfl, hb2⟩
              replace hX := hX.below hb2
              replace hq3 := hq3.below hb2
              replace hb := hb.trans (hb2.mono hb.size)
              clear hb2 hq3
              go_wp2_with fail
              refine (HMA.out _ (HS1.out.below hb)).mono ?_
              rintro e w26 ⟨rfl, hb2⟩
              replace hX := hX.below hb2
              replace hb := hb.trans (hb2.mono hb.size)
              clear hb2 
              go_wp2_with fail
              refine (HO1.out _ (HS1.out.below hb)).mono ?_
              rintro e w27 ⟨r1, rfl, hr1, hb2⟩
              replace hX := hX.below hb2
              replace hb := hb.trans (hb2.mono hb.size)
              clear hb2 
              go_wp2_with fail
              refine (HUX.out _ _ _ hX hr1).mono ?_
              rintro e w28 ⟨R, rfl, hR, hb2⟩
              replace hX := hX.below hb2
              replace hr1 := hr1.below hb2
              replace hb := hb.trans (hb2.mono hb.size)
              clear hb2 hr1
              go_wp2_with fail
              refine (HB.out _ _ hR).mono ?_
              rintro e w29 ⟨br, rfl, hbr, hb2⟩
              replace hX := hX.below hb2
              replace hR := hR.below hb2
              replace hb := hb.trans (hb2.mono hb.size)
              clear hb2 hR
              go_wp2_with fail
              refine (HB.out _ _ hX).mono ?_
              rintro e w30 ⟨bs, rfl, hbs, hb2⟩
              replace hX := hX.below hb2
              replace hbr := hbr.below hb2
              replace hb := hb.trans (hb2.mono hb.size)
              clear hb2 hX
              go_wp2_with fail
              refine (HSm.out _ _ _ hbr hbs).mono ?_
              rintro e w31 ⟨rfl, hb2⟩
              replace hbr := hbr.below hb2
              replace hbs := hbs.below hb2
              replace hb := hb.trans (hb2.mono hb.size)
              clear hb2 hbr hbs
              go_wp2_with fail
              refine (HA.out _ (HQ.out.below hb)).mono ?_
              rintro e w32 ⟨rfl, hb2⟩
              replace hb := hb.trans (hb2.mono hb.size)
              clear hb2 
              go_wp2_with fail
              go_ret
              exact ⟨rfl, hb⟩
            | true =>
              cases sb with
              | false =>
                have c1 : decide (IntKind.u64.wrap (ta + tb) < tu) = true := decide_eq_true g1
                have c2 : decide (ta ≤ IntKind.u64.wrap (ta + tb)) = true := decide_eq_true g2
                clear hno
                have hb := Below.refl w.heap.size w
                go_enter Tryd.func6, Tryd.ntmps6
                go_wp2_with fail
                refine (HO1.out _ (HS1.out.below hb)).mono ?_
                rintro e w1 ⟨x1, rfl, hx1, hb2⟩
                replace hb := hb.trans (hb2.mono hb.size)
                clear hb2 
                go_wp2_with fail
                refine (HO2.out _ (HS2.out.below hb)).mono ?_
                rintro e w2 ⟨x2, rfl, hx2, hb2⟩
                replace hx1 := hx1.below hb2
                replace hb := hb.trans (hb2.mono hb.size)
                clear hb2 
                go_wp2_with fail
                refine (HU.out _ _ _ hx1 hx2).mono ?_
                rintro e w3 ⟨X, rfl, hX, hb2⟩
                replace hx1 := hx1.below hb2
                replace hx2 := hx2.below hb2
                replace hb := hb.trans (hb2.mono hb.size)
                clear hb2 hx1 hx2
                go_wp2_with fail
                refine (HO2.out _ (HS2.out.below hb)).mono ?_
                rintro e w4 ⟨y1, rfl, hy1, hb2⟩
                replace hX := hX.below hb2
                replace hb := hb.trans (hb2.mono hb.size)
                clear hb2 
                go_wp2_with fail
                refine (HO1.out _ (HS1.out.below hb)).mono ?_
                rintro e w5 ⟨y2, rfl, hy2, hb2⟩
                replace hX := hX.below hb2
                replace hy1 := hy1.below hb2
                replace hb := hb.trans (hb2.mono hb.size)
                clear hb2 
                go_wp2_with fail
                refine (HU2.out _ _ _ hy1 hy2).mono ?_
                rintro e w6 ⟨Y, rfl, hY, hb2⟩
                replace hX := hX.below hb2
                replace hy1 := hy1.below hb2
                replace hy2 := hy2.below hb2
                replace hb := hb.trans (hb2.mono hb.size)
                clear hb2 hy1 hy2
                go_wp2_with fail
                refine (HB.out _ _ hX).mono ?_
                rintro e w7 ⟨bx, rfl, hbx, hb2⟩
                replace hX := hX.below hb2
                replace hY := hY.below hb2
                replace hb := hb.trans (hb2.mono hb.size)
                clear hb2 
                go_wp2_with fail
                refine (HB.out _ _ hY).mono ?_
                rintro e w8 ⟨by_, rfl, hby_, hb2⟩
                replace hX := hX.below hb2
                replace hY := hY.below hb2
                replace hbx := hbx.below hb2
                replace hb := hb.trans (hb2.mono hb.size)
                clear hb2 hY
                go_wp2_with fail
                refine (HSm.out _ _ _ hbx hby_).mono ?_
                rintro e w9 ⟨rfl, hb2⟩
                replace hX := hX.below hb2
                replace hbx := hbx.below hb2
                replace hby_ := hby_.below hb2
                replace hb := hb.trans (hb2.mono hb.size)
                clear hb2 hbx hby_
                go_wp2_with fail
                refine (HIU.out _ _ hX).mono ?_
                rintro e w10 ⟨rfl, hb2⟩
                replace hX := hX.below hb2
                replace hb := hb.trans (hb2.mono hb.size)
                clear hb2 
                go_wp2_with fail
                refine (HO1.out _ (HS1.out.below hb)).mono ?_
                rintro e w11 ⟨z1, rfl, hz1, hb2⟩
                replace hX := hX.below hb2
                replace hb := hb.trans (hb2.mono hb.size)
                clear hb2 
                go_wp2_with fail
                refine (HIA.out _ _ hz1).mono ?_
                rintro e w12 ⟨rfl, hb2⟩
                replace hX := hX.below hb2
                replace hz1 := hz1.below hb2
                replace hb := hb.trans (hb2.mono hb.size)
                clear hb2 hz1
                go_wp2_with fail
                refine (HO2.out _ (HS2.out.below hb)).mono ?_
                rintro e w13 ⟨z2, rfl, hz2, hb2⟩
                replace hX := hX.below hb2
                replace hb := hb.trans (hb2.mono hb.size)
                clear hb2 
                go_wp2_with fail
                refine (HIB.out _ _ hz2).mono ?_
                rintro e w14 ⟨rfl, hb2⟩
                replace hX := hX.below hb2
                replace hz2 := hz2.below hb2
                replace hb := hb.trans (hb2.mono hb.size)
                clear hb2 hz2
                go_wp2_with fail
                refine (HTU.out _ _ hX).mono ?_
                rintro e w15 ⟨rfl, hb2⟩
                replace hX := hX.below hb2
                replace hb := hb.trans (hb2.mono hb.size)
                clear hb2 
                go_wp2_with fail
                refine (HO1.out _ (HS1.out.below hb)).mono ?_
                rintro e w16 ⟨p1, rfl, hp1, hb2⟩
                replace hX := hX.below hb2
                replace hb := hb.trans (hb2.mono hb.size)
                clear hb2 
                go_wp2_with fail
                refine (HTA.out _ _ hp1).mono ?_
                rintro e w17 ⟨rfl, hb2⟩
                replace hX := hX.below hb2
                replace hp1 := hp1.below hb2
                replace hb := hb.trans (hb2.mono hb.size)
                clear hb2 hp1
                go_wp2_with fail
                refine (HO2.out _ (HS2.out.below hb)).mono ?_
                rintro e w18 ⟨p2, rfl, hp2, hb2⟩
                replace hX := hX.below hb2
                replace hb := hb.trans (hb2.mono hb.size)
                clear hb2 
                go_wp2_with fail
                refine (HTB.out _ _ hp2).mono ?_
                rintro e w19 ⟨rfl, hb2⟩
                replace hX := hX.below hb2
                replace hp2 := hp2.below hb2
                replace hb := hb.trans (hb2.mono hb.size)
                clear hb2 hp2
                go_wp2_with fail
                refine (HO1.out _ (HS1.out.below hb)).mono ?_
                rintro e w20 ⟨q1, rfl, hq1, hb2⟩
                replace hX := hX.below hb2
                replace hb := hb.trans (hb2.mono hb.size)
                clear hb2 
                go_wp2_with fail
                refine (HTA.out _ _ hq1).mono ?_
                rintro e w21 ⟨rfl, hb2⟩
                replace hX := hX.below hb2
                replace hq1 := hq1.below hb2
                replace hb := hb.trans (hb2.mono hb.size)
                clear hb2 hq1
                go_wp2_with fail
                refine (HO2.out _ (HS2.out.below hb)).mono ?_
                rintro e w22 ⟨q2, rfl, hq2, hb2⟩
                replace hX := hX.below hb2
                replace hb := hb.trans (hb2.mono hb.size)
                clear hb2 
                go_wp2_with fail
                refine (HTB.out _ _ hq2).mono ?_
                rintro e w23 ⟨rfl, hb2⟩
                replace hX := hX.below hb2
                replace hq2 := hq2.below hb2
                replace hb := hb.trans (hb2.mono hb.size)
                clear hb2 hq2
                go_wp2_with fail
                refine (HO1.out _ (HS1.out.below hb)).mono ?_
                rintro e w24 ⟨q3, rfl, hq3, hb2⟩
                replace hX := hX.below hb2
                replace hb := hb.trans (hb2.mono hb.size)
                clear hb2 
                go_wp2_with fail
                refine (HTA.out _ _ hq3).mono ?_
                rintro e w25 ⟨rfl, hb2⟩
                replace hX := hX.below hb2
                replace hq3 := hq3.below hb2
                replace hb := hb.trans (hb2.mono hb.size)
                clear hb2 hq3
                go_wp2_with fail
                refine (HMA.out _ (HS1.out.below hb)).mono ?_
                rintro e w26 ⟨rfl, hb2⟩
                replace hX := hX.below hb2
                replace hb := hb.trans (hb2.mono hb.size)
                clear hb2 
                go_wp2_with fail
                refine (HMB.out _ (HS2.out.below hb)).mono ?_
                rintro e w27 ⟨rfl, hb2⟩
                replace hX := hX.below hb2
                replace hb := hb.trans (hb2.mono hb.size)
                clear hb2 
                go_wp2_with fail
                refine (HO1.out _ (HS1.out.below hb)).mono ?_
                rintro e w28 ⟨r1, rfl, hr1, hb2⟩
                replace hX := hX.below hb2
                replace hb := hb.trans (hb2.mono hb.size)
                clear hb2 
                go_wp2_with fail
                refine (HUX.out _ _ _ hX hr1).mono ?_
                rintro e w29 ⟨R, rfl, hR, hb2⟩
                replace hX := hX.below hb2
                replace hr1 := hr1.below hb2
                replace hb := hb.trans (hb2.mono hb.size)
                clear hb2 hr1
                go_wp2_with fail
                refine (HB.out _ _ hR).mono ?_
                rintro e w30 ⟨br, rfl, hbr, hb2⟩
                replace hX := hX.below hb2
                replace hR := hR.below hb2
                replace hb := hb.trans (hb2.mono hb.size)
                clear hb2 hR
                go_wp2_with fail
                refine (HB.out _ _ hX).mono ?_
                rintro e w31 ⟨bs, rfl, hbs, hb2⟩
                replace hX := hX.below hb2
                replace hbr := hbr.below hb2
                replace hb := hb.trans (hb2.mono hb.size)
                clear hb2 hX
                go_wp2_with fail
                refine (HSm.out _ _ _ hbr hbs).mono ?_
                rintro e w32 ⟨rfl, hb2⟩
                replace hbr := hbr.below hb2
                replace hbs := hbs.below hb2
                replace hb := hb.trans (hb2.mono hb.size)
                clear hb2 hbr hbs
                go_wp2_with fail
                refine (HA.out _ (HQ.out.below hb)).mono ?_
                rintro e w33 ⟨rfl, hb2⟩
                replace hb := hb.trans (hb2.mono hb.size)
                clear hb2 
                go_wp2_with fail
                go_ret
                exact ⟨rfl, hb⟩
              | true => exact absurd g1 (by have := hno rfl rfl; omega)
          · have c1 : decide (IntKind.u64.wrap (ta + tb) < tu) = true := decide_eq_true g1
            have c2 : decide (ta ≤ IntKind.u64.wrap (ta + tb)) = false := decide_eq_false g2
            clear hno
            have hb := Below.refl w.heap.size w
            go_enter Tryd.func6, Tryd.ntmps6
            go_wp2_with fail
            refine (HO1.out _ (HS1.out.below hb)).mono ?_
            rintro e w1 ⟨x1, rfl, hx1, hb2⟩
            replace hb := hb.trans (hb2.mono hb.size)
            clear hb2 
            go_wp2_with fail
            refine (HO2.out _ (HS2.out.below hb)).mono ?_
            rintro e w2 ⟨x2, rfl, hx2, hb2⟩
            replace hx1 := hx1.below hb2
            replace hb := hb.trans (hb2.mono hb.size)
            clear hb2 
            go_wp2_with fail
            refine (HU.out _ _ _ hx1 hx2).mono ?_
            rintro e w3 ⟨X, rfl, hX, hb2⟩
            replace hx1 := hx1.below hb2
            replace hx2 := hx2.below hb2
            replace hb := hb.trans (hb2.mono hb.size)
            clear hb2 hx1 hx2
            go_wp2_with fail
            refine (HO2.out _ (HS2.out.below hb)).mono ?_
            rintro e w4 ⟨y1, rfl, hy1, hb2⟩
            replace hX := hX.below hb2
            replace hb := hb.trans (hb2.mono hb.size)
            clear hb2 
            go_wp2_with fail
            refine (HO1.out _ (HS1.out.below hb)).mono ?_
            rintro e w5 ⟨y2, rfl, hy2, hb2⟩
            replace hX := hX.below hb2
            replace hy1 := hy1.below hb2
            replace hb := hb.trans (hb2.mono hb.size)
            clear hb2 
            go_wp2_with fail
            refine (HU2.out _ _ _ hy1 hy2).mono ?_
            rintro e w6 ⟨Y, rfl, hY, hb2⟩
            replace hX := hX.below hb2
            replace hy1 := hy1.below hb2
            replace hy2 := hy2.below hb2
            replace hb := hb.trans (hb2.mono hb.size)
            clear hb2 hy1 hy2
            go_wp2_with fail
            refine (HB.out _ _ hX).mono ?_
            rintro e w7 ⟨bx, rfl, hbx, hb2⟩
            replace hX := hX.below hb2
            replace hY := hY.below hb2
            replace hb := hb.trans (hb2.mono hb.size)
            clear hb2 
            go_wp2_with fail
            refine (HB.out _ _ hY).mono ?_
            rintro e w8 ⟨by_, rfl, hby_, hb2⟩
            replace hX := hX.below hb2
            replace hY := hY.below hb2
            replace hbx := hbx.below hb2
            replace hb := hb.trans (hb2.mono hb.size)
            clear hb2 hY
            go_wp2_with fail
            refine (HSm.out _ _ _ hbx hby_).mono ?_
            rintro e w9 ⟨rfl, hb2⟩
            replace hX := hX.below hb2
            replace hbx := hbx.below hb2
            replace hby_ := hby_.below hb2
            replace hb := hb.trans (hb2.mono hb.size)
            clear hb2 hbx hby_
            go_wp2_with fail
            refine (HIU.out _ _ hX).mono ?_
            rintro e w10 ⟨rfl, hb2⟩
            replace hX := hX.below hb2
            replace hb := hb.trans (hb2.mono hb.size)
            clear hb2 
            go_wp2_with fail
            refine (HO1.out _ (HS1.out.below hb)).mono ?_
            rintro e w11 ⟨z1, rfl, hz1, hb2⟩
            replace hX := hX.below hb2
            replace hb := hb.trans (hb2.mono hb.size)
            clear hb2 
            go_wp2_with fail
            refine (HIA.out _ _ hz1).mono ?_
            rintro e w12 ⟨rfl, hb2⟩
            replace hX := hX.below hb2
            replace hz1 := hz1.below hb2
            replace hb := hb.trans (hb2.mono hb.size)
            clear hb2 hz1
            go_wp2_with fail
            refine (HO2.out _ (HS2.out.below hb)).mono ?_
            rintro e w13 ⟨z2, rfl, hz2, hb2⟩
            replace hX := hX.below hb2
            replace hb := hb.trans (hb2.mono hb.size)
            clear hb2 
            go_wp2_with fail
            refine (HIB.out _ _ hz2).mono ?_
            rintro e w14 ⟨rfl, hb2⟩
            replace hX := hX.below hb2
            replace hz2 := hz2.below hb2
            replace hb := hb.trans (hb2.mono hb.size)
            clear hb2 hz2
            go_wp2_with fail
            refine (HTU.out _ _ hX).mono ?_
            rintro e w15 ⟨rfl, hb2⟩
            replace hX := hX.below hb2
            replace hb := hb.trans (hb2.mono hb.size)
            clear hb2 
            go_wp2_with fail
            refine (HO1.out _ (HS1.out.below hb)).mono ?_
            rintro e w16 ⟨p1, rfl, hp1, hb2⟩
            replace hX := hX.below hb2
            replace hb := hb.trans (hb2.mono hb.size)
            clear hb2 
            go_wp2_with fail
            refine (HTA.out _ _ hp1).mono ?_
            rintro e w17 ⟨rfl, hb2⟩
            replace hX := hX.below hb2
            replace hp1 := hp1.below hb2
            replace hb := hb.trans (hb2.mono hb.size)
            clear hb2 hp1
            go_wp2_with fail
            refine (HO2.out _ (HS2.out.below hb)).mono ?_
            rintro e w18 ⟨p2, rfl, hp2, hb2⟩
            replace hX := hX.below hb2
            replace hb := hb.trans (hb2.mono hb.size)
            clear hb2 
            go_wp2_with fail
            refine (HTB.out _ _ hp2).mono ?_
            rintro e w19 ⟨rfl, hb2⟩
            replace hX := hX.below hb2
            replace hp2 := hp2.below hb2
            replace hb := hb.trans (hb2.mono hb.size)
            clear hb2 hp2
            go_wp2_with fail
            refine (HO1.out _ (HS1.out.below hb)).mono ?_
            rintro e w20 ⟨q1, rfl, hq1, hb2⟩
            replace hX := hX.below hb2
            replace hb := hb.trans (hb2.mono hb.size)
            clear hb2 
            go_wp2_with fail
            refine (HTA.out _ _ hq1).mono ?_
            rintro e w21 ⟨rfl, hb2⟩
            replace hX := hX.below hb2
            replace hq1 := hq1.below hb2
            replace hb := hb.trans (hb2.mono hb.size)
            clear hb2 hq1
            go_wp2_with fail
            refine (HO2.out _ (HS2.out.below hb)).mono ?_
            rintro e w22 ⟨q2, rfl, hq2, hb2⟩
            replace hX := hX.below hb2
            replace hb := hb.trans (hb2.mono hb.size)
            clear hb2 
            go_wp2_with fail
            refine (HTB.out _ _ hq2).mono ?_
            rintro e w23 ⟨rfl, hb2⟩
            replace hX := hX.below hb2
            replace hq2 := hq2.below hb2
            replace hb := hb.trans (hb2.mono hb.size)
            clear hb2 hq2
            go_wp2_with fail
            refine (HO1.out _ (HS1.out.below hb)).mono ?_
            rintro e w24 ⟨q3, rfl, hq3, hb2⟩
            replace hX := hX.below hb2
            replace hb := hb.trans (hb2.mono hb.size)
            clear hb2 
            go_wp2_with fail
            refine (HTA.out _ _ hq3).mono ?_
            rintro e w25 ⟨rfl, hb2⟩
            replace hX := hX.below hb2
            replace hq3 := hq3.below hb2
            replace hb := hb.trans (hb2.mono hb.size)
            clear hb2 hq3
            go_wp2_with fail
            refine (HO1.out _ (HS1.out.below hb)).mono ?_
            rintro e w26 ⟨r1, rfl, hr1, hb2⟩
            replace hX := hX.below hb2
            replace hb := hb.trans (hb2.mono hb.size)
            clear hb2 
            go_wp2_with fail
            refine (HUX.out _ _ _ hX hr1).mono ?_
            rintro e w27 ⟨R, rfl, hR, hb2⟩
            replace hX := hX.below hb2
            replace hr1 := hr1.below hb2
            replace hb := hb.trans (hb2.mono hb.size)
            clear hb2 hr1
            go_wp2_with fail
            refine (HB.out _ _ hR).mono ?_
            rintro e w28 ⟨br, rfl, hbr, hb2⟩
            replace hX := hX.below hb2
            replace hR := hR.below hb2
            replace hb := hb.trans (hb2.mono hb.size)
            clear hb2 hR
            go_wp2_with fail
            refine (HB.out _ _ hX).mono ?_
            rintro e w29 ⟨bs, rfl, hbs, hb2⟩
            replace hX := hX.below hb2
            replace hbr := hbr.below hb2
            replace hb := hb.trans (hb2.mono hb.size)
            clear hb2 hX
            go_wp2_with fail
            refine (HSm.out _ _ _ hbr hbs).mono ?_
            rintro e w30 ⟨rfl, hb2⟩
            replace hbr := hbr.below hb2
            replace hbs := hbs.below hb2
            replace hb := hb.trans (hb2.mono hb.size)
            clear hb2 hbr hbs
            go_wp2_with fail
            refine (HA.out _ (HQ.out.below hb)).mono ?_
            rintro e w31 ⟨rfl, hb2⟩
            replace hb := hb.trans (hb2.mono hb.size)
            clear hb2 
            go_wp2_with fail
            go_ret
            exact ⟨rfl, hb⟩
        · have c1 : decide (IntKind.u64.wrap (ta + tb) < tu) = false := decide_eq_false g1
          clear hno
          have hb := Below.refl w.heap.size w
          go_enter Tryd.func6, Tryd.ntmps6
          go_wp2_with fail
          refine (HO1.out _ (HS1.out.below hb)).mono ?_
          rintro e w1 ⟨x1, rfl, hx1, hb2⟩
          replace hb := hb.trans (hb2.mono hb.size)
          clear hb2 
          go_wp2_with fail
          refine (HO2.out _ (HS2.out.below hb)).mono ?_
          rintro e w2 ⟨x2, rfl, hx2, hb2⟩
          replace hx1 := hx1.below hb2
          replace hb := hb.trans (hb2.mono hb.size)
          clear hb2 
          go_wp2_with fail
          refine (HU.out _ _ _ hx1 hx2).mono ?_
          rintro e w3 ⟨X, rfl, hX, hb2⟩
          replace hx1 := hx1.below hb2
          replace hx2 := hx2.below hb2
          replace hb := hb.trans (hb2.mono hb.size)
          clear hb2 hx1 hx2
          go_wp2_with fail
          refine (HO2.out _ (HS2.out.below hb)).mono ?_
          rintro e w4 ⟨y1, rfl, hy1, hb2⟩
          replace hX := hX.below hb2
          replace hb := hb.trans (hb2.mono hb.size)
          clear hb2 
          go_wp2_with fail
          refine (HO1.out _ (HS1.out.below hb)).mono ?_
          rintro e w5 ⟨y2, rfl, hy2, hb2⟩
          replace hX := hX.below hb2
          replace hy1 := hy1.below hb2
          replace hb := hb.trans (hb2.mono hb.size)
          clear hb2 
          go_wp2_with fail
          refine (HU2.out _ _ _ hy1 hy2).mono ?_
          rintro e w6 ⟨Y, rfl, hY, hb2⟩
          replace hX := hX.below hb2
          replace hy1 := hy1.below hb2
          replace hy2 := hy2.below hb2
          replace hb := hb.trans (hb2.mono hb.size)
          clear hb2 hy1 hy2
          go_wp2_with fail
          refine (HB.out _ _ hX).mono ?_
          rintro e w7 ⟨bx, rfl, hbx, hb2⟩
          replace hX := hX.below hb2
          replace hY := hY.below hb2
          replace hb := hb.trans (hb2.mono hb.size)
          clear hb2 
          go_wp2_with fail
          refine (HB.out _ _ hY).mono ?_
          rintro e w8 ⟨by_, rfl, hby_, hb2⟩
          replace hX := hX.below hb2
          replace hY := hY.below hb2
          replace hbx := hbx.below hb2
          replace hb := hb.trans (hb2.mono hb.size)
          clear hb2 hY
          go_wp2_with fail
          refine (HSm.out _ _ _ hbx hby_).mono ?_
          rintro e w9 ⟨rfl, hb2⟩
          replace hX := hX.below hb2
          replace hbx := hbx.below hb2
          replace hby_ := hby_.below hb2
          replace hb := hb.trans (hb2.mono hb.size)
          clear hb2 hbx hby_
          go_wp2_with fail
          refine (HIU.out _ _ hX).mono ?_
          rintro e w10 ⟨rfl, hb2⟩
          replace hX := hX.below hb2
          replace hb := hb.trans (hb2.mono hb.size)
          clear hb2 
          go_wp2_with fail
          refine (HO1.out _ (HS1.out.below hb)).mono ?_
          rintro e w11 ⟨z1, rfl, hz1, hb2⟩
          replace hX := hX.below hb2
          replace hb := hb.trans (hb2.mono hb.size)
          clear hb2 
          go_wp2_with fail
          refine (HIA.out _ _ hz1).mono ?_
          rintro e w12 ⟨rfl, hb2⟩
          replace hX := hX.below hb2
          replace hz1 := hz1.below hb2
          replace hb := hb.trans (hb2.mono hb.size)
          clear hb2 hz1
          go_wp2_with fail
          refine (HO2.out _ (HS2.out.below hb)).mono ?_
          rintro e w13 ⟨z2, rfl, hz2, hb2⟩
          replace hX := hX.below hb2
          replace hb := hb.trans (hb2.mono hb.size)
          clear hb2 
          go_wp2_with fail
          refine (HIB.out _ _ hz2).mono ?_
          rintro e w14 ⟨rfl, hb2⟩
          replace hX := hX.below hb2
          replace hz2 := hz2.below hb2
          replace hb := hb.trans (hb2.mono hb.size)
          clear hb2 hz2
          go_wp2_with fail
          refine (HTU.out _ _ hX).mono ?_
          rintro e w15 ⟨rfl, hb2⟩
          replace hX := hX.below hb2
          replace hb := hb.trans (hb2.mono hb.size)
          clear hb2 
          go_wp2_with fail
          refine (HO1.out _ (HS1.out.below hb)).mono ?_
          rintro e w16 ⟨p1, rfl, hp1, hb2⟩
          replace hX := hX.below hb2
          replace hb := hb.trans (hb2.mono hb.size)
          clear hb2 
          go_wp2_with fail
          refine (HTA.out _ _ hp1).mono ?_
          rintro e w17 ⟨rfl, hb2⟩
          replace hX := hX.below hb2
          replace hp1 := hp1.below hb2
          replace hb := hb.trans (hb2.mono hb.size)
          clear hb2 hp1
          go_wp2_with fail
          refine (HO2.out _ (HS2.out.below hb)).mono ?_
          rintro e w18 ⟨p2, rfl, hp2, hb2⟩
          replace hX := hX.below hb2
          replace hb := hb.trans (hb2.mono hb.size)
          clear hb2 
          go_wp2_with fail
          refine (HTB.out _ _ hp2).mono ?_
          rintro e w19 ⟨rfl, hb2⟩
          replace hX := hX.below hb2
          replace hp2 := hp2.below hb2
          replace hb := hb.trans (hb2.mono hb.size)
          clear hb2 hp2
          go_wp2_with fail
          refine (HO1.out _ (HS1.out.below hb)).mono ?_
          rintro e w20 ⟨r1, rfl, hr1, hb2⟩
          replace hX := hX.below hb2
          replace hb := hb.trans (hb2.mono hb.size)
          clear hb2 
          go_wp2_with fail
          refine (HUX.out _ _ _ hX hr1).mono ?_
          rintro e w21 ⟨R, rfl, hR, hb2⟩
          replace hX := hX.below hb2
          replace hr1 := hr1.below hb2
          replace hb := hb.trans (hb2.mono hb.size)
          clear hb2 hr1
          go_wp2_with fail
          refine (HB.out _ _ hR).mono ?_
          rintro e w22 ⟨br, rfl, hbr, hb2⟩
          replace hX := hX.below hb2
          replace hR := hR.below hb2
          replace hb := hb.trans (hb2.mono hb.size)
          clear hb2 hR
          go_wp2_with fail
          refine (HB.out _ _ hX).mono ?_
          rintro e w23 ⟨bs, rfl, hbs, hb2⟩
          replace hX := hX.below hb2
          replace hbr := hbr.below hb2
          replace hb := hb.trans (hb2.mono hb.size)
          clear hb2 hX
          go_wp2_with fail
          refine (HSm.out _ _ _ hbr hbs).mono ?_
          rintro e w24 ⟨rfl, hb2⟩
          replace hbr := hbr.below hb2
          replace hbs := hbs.below hb2
          replace hb := hb.trans (hb2.mono hb.size)
          clear hb2 hbr hbs
          go_wp2_with fail
          refine (HA.out _ (HQ.out.below hb)).mono ?_
          rintro e w25 ⟨rfl, hb2⟩
          replace hb := hb.trans (hb2.mono hb.size)
          clear hb2 
          go_wp2_with fail
          go_ret
          exact ⟨rfl, hb⟩
end Go.Proofs.YthlekifagidijaaDoor
