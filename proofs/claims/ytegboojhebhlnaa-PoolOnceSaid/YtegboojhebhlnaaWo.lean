/- The walk of PoolOnce. -/
import Derived.Test.YtegboojhebhlnaaKr
import Derived.Test.YtegboojhebhlnaaKh
import Derived.Test.YtegboojhebhlnaaKw
namespace Go.Proofs.Ytegboojhebhlnaa
open Go.RowKit
set_option linter.unusedVariables false
set_option linter.unusedSimpArgs false
theorem over_len' (l : List ByteArray) (M : Int) (h : overF l M = false) : (totF l : Int) ≤ M := by
  unfold overF at h
  rw [decide_eq_false_iff_not] at h
  omega
theorem str_emp (s : ByteArray) (h : s.size = 0) : (s.toList == []) = true := by
  rw [ByteArray.toList_eq]
  have : s.data.toList = [] := List.eq_nil_of_length_eq_zero (by simpa using h)
  rw [this]; rfl
theorem str_full (s : ByteArray) (h : ¬ s.size = 0) : (s.toList == []) = false := by
  rw [ByteArray.toList_eq, beq_eq_false_iff_ne]
  intro e
  have := congrArg List.length e
  simp at this
  exact h (by rw [this]; rfl)
theorem own_off {S : Nat → Prop} {W : World} {B : Nat} {E : TypeId} {v : Value} {l : List (Nat × Nat)} (ho : OwnPl W B E v l) (h : Off S W v) : ∀ k, v.ownBlock = some k → ¬ S k ∧ B ≤ k := fun k hk => by
  refine ⟨?_, (ho.lt k hk).1⟩
  cases v with
  | slice a n c =>
    cases a with
    | none => cases hk
    | some a => cases hk; exact (h a n c rfl).2
  | _ => cases hk
set_option maxRecDepth 20000 in
set_option maxHeartbeats 1000000 in
theorem poolonce_law (v : Value) (l : List ByteArray) (w : World) (hv : StrsAt w v l) (hm : ∀ t ∈ l, t.size ≤ maxLen) :
    Calls Try.prog 5 #[v] w fun e w' => e = .returned (.bool true) ∧ Below w.heap.size w w' := by
  have HN := Lib.hid new_any
  have HK := Lib.hid awake_any
  have HL := Lib.hid (long_any v l 3000 w hv hm (by omega) (by omega))
  obtain ⟨al, cap, rfl, hcap, hmx, hc⟩ := hv
  have HC := Lib.hid hc
  have hmx' : l.length ≤ maxLen := by omega
  unfold maxLen at hmx'
  clear hc
  go_enter Try.func5, Try.ntmps5
  by_cases h60 : 60 < l.length
  · have h60' : (60 : Int) < (l.length : Int) := by omega
    go_wp2_with fail
    refine (HK.out _).mono ?_
    rintro y w2 ⟨rfl, hb⟩
    have HB := Lib.hid hb
    clear hb
    go_wp2_with fail
    go_ret
    exact ⟨rfl, HB.out⟩
  have h60' : ¬ (60 : Int) < (l.length : Int) := by omega
  cases hov : overF l 3000 with
  | true =>
    rw [hov] at HL
    go_wp2_with fail
    refine HL.out.mono ?_
    rintro y w2 ⟨rfl, rfl⟩
    go_wp2_with fail
    refine (HK.out _).mono ?_
    rintro y w2 ⟨rfl, hb⟩
    have HB := Lib.hid hb
    clear hb
    go_wp2_with fail
    go_ret
    exact ⟨rfl, HB.out⟩
  | false =>
    rw [hov] at HL
    have htot := over_len' l 3000 hov
    go_wp2_with fail
    refine HL.out.mono ?_
    rintro y w2 ⟨rfl, rfl⟩
    clear HL hov
    go_wp2_with fail
    refine (HN.out _).mono ?_
    rintro y w1 ⟨pv, S1, rfl, hp, hs, hb⟩
    have HA := Lib.hid (Awk.new (Below.refl _ _) (Nat.le_refl _) hp hs hb)
    obtain ⟨pa, rfl⟩ := hp.ptr
    clear hp hs hb HN
    go_wp2_with fail
    go_loopw [4, 5, 6, 7] (fun av sv uv i wr => ∃ (k : Nat) (S : Nat → Prop), k ≤ l.length ∧ i = .int .i64 k ∧ sv = .int .i64 (totF (addsF [] (l.take k)) : Nat) ∧ uv = .int .i64 ((addsF [] (l.take k)).length : Nat) ∧ Awk w2.heap.size w2 wr (.pointer (some pa)) (addsF [] (l.take k)) S ∧ OwnPl wr w2.heap.size 31 av (plL l k) ∧ Off S wr av) (fun _ _ _ i _ => l.length - (intOf i).toNat)
    case atStart => exact ⟨0, S1, Nat.zero_le _, rfl, by simp [addsF, totF], by simp [addsF], HA.out, ownPl_nil _ _ _, off_nil _ _ _ _⟩
    case round =>
      obtain ⟨k, S, hk, rfl, rfl, rfl, hA, hP, hO⟩ := hrel
      clear HA
      by_cases hlt : k < l.length
      · obtain ⟨t, htk⟩ : ∃ t, l[k]? = some t := ⟨_, List.getElem?_eq_getElem hlt⟩
        have hts : t.size ≤ 3000 := by have := mem_tot l t (List.mem_of_getElem? htk); omega
        have htm : t.size ≤ maxLen := by unfold maxLen; omega
        have HM := Lib.hid (addsF_step [] l k t htk)
        have hlen := (addsF_len [] (l.take k)).2
        rw [List.length_take, List.length_nil] at hlen
        have htt : totF (addsF [] (l.take k)) ≤ 3000 := by
          have h1 := addsF_tot [] (l.take k)
          have h2 := totF_take l k
          simp only [totF] at h1
          omega
        have HPl := Lib.hid (plL_succ l k)
        rw [plA_at l k t htk] at HPl
        have hpl := plL_len l k
        have HCn := Lib.hid (newL_count (addsF [] (l.take k)) t)
        generalize addsF [] (l.take k) = L at *
        generalize plL l k = P at *
        obtain ⟨g, off, rfl, hg, hcell⟩ := HC.out k t htk
        have hc0 := (hA.bel.cell (p := ⟨g, off + k, none⟩) hg).trans hcell
        have hc1 := Nat.lt_of_lt_of_le hg hA.bel.size
        have HX1 := Lib.hid (hA.add t htm)
        have HO := Lib.hid hO
        have HP := Lib.hid hP
        generalize offA L t = ox at *
        generalize lenA L t = lx at *
        generalize eV L t = ex at *
        clear hA hP hO
        go_wp2_with fail
        refine HX1.out.mono ?_
        rintro y wa ⟨rfl, S2, hA2, hk2⟩
        have hc0 : wa.cell? ⟨g, off + k, none⟩ = some (.string t) := (hA2.bel.cell (p := ⟨g, off + k, none⟩) hg).trans hcell
        have hP2 := (HP.out.kept HO.out hk2).below (Below.alloc (Below.refl _ _) (Nat.le_refl _) (.cells #[.int .u64 ox, .int .u32 lx] 31))
        have hO2 : Off S2 (wa.alloc (.cells #[.int .u64 ox, .int .u32 lx] 31)) _ := (HO.out.kept hk2).below (by simp)
        have hA3 := hA2.alloc (.cells #[.int .u64 ox, .int .u32 lx] 31)
        have hT3 := two_new wa (.int .u64 ox) (.int .u32 lx) 31
        clear HP HO HX1 hk2 hA2 hc0 hc1
        generalize hw3 : wa.alloc (.cells #[.int .u64 ox, .int .u32 lx] 31) = W3 at *
        have hA4 := hA3.alloc (.cells #[.int .u64 ox, .int .u32 lx] 31)
        have hP4 := hP2.below (Below.alloc (Below.refl _ _) (Nat.le_refl _) (.cells #[.int .u64 ox, .int .u32 lx] 31))
        have hO4 : Off S2 (W3.alloc (.cells #[.int .u64 ox, .int .u32 lx] 31)) _ := hO2.below (by simp)
        obtain ⟨v', w', hr, hown, hgr, hmv⟩ := plappend_run (W3.alloc (.cells #[.int .u64 ox, .int .u32 lx] 31)) w2.heap.size 53 _ P ox lx W3.heap.size 1 hP4 (two_new W3 _ _ _) (by omega) hA4.room
        have HA5 := Lib.hid (hA4.grown hgr (own_off hP4 hO4))
        have HO5 := Lib.hid (hO4.moved hown hA4.pool.lt hgr.size hmv)
        have HP5 := Lib.hid hown
        have hc5 := (HA5.out.bel.cell (p := ⟨g, off + k, none⟩) hg).trans hcell
        have hg5 := Nat.lt_of_lt_of_le hg HA5.out.bel.size
        obtain ⟨c0, c1, -, -⟩ := id hT3
        have c2 := hT3.lt
        clear hA3 hP2 hO2 hA4 hP4 hO4 hown hgr hmv hT3 hcell hg
        subst hw3
        simp only [World.size_alloc] at hr c2
        have hcn := HCn.out
        cases hbx : isNew L t
        case false =>
          rw [hbx] at hcn
          simp only [if_true, if_false, Bool.false_eq_true, reduceIte, Nat.add_zero] at hcn
          have HC2 := Lib.hid hcn
          clear hcn HCn
          go_wp2_with (first | (at_builtin; refine Lib.wpList_append_run _ rfl _ _ _ _ rfl _ _ rfl rfl _ _ hr ?_) | fail)
          go_roundw
          case rel => exact ⟨k + 1, S2, by omega, by go_num, by rw [HM.out, HC2.out.2] <;> go_num, by rw [HM.out, HC2.out.1] <;> go_num, by rw [HM.out]; exact HA5.out, by rw [HPl.out]; exact HP5.out, HO5.out⟩
          case measure => simp [intOf]; omega
        case true =>
          rw [hbx] at hcn
          simp only [if_true, if_false, Bool.false_eq_true, reduceIte, Nat.add_zero] at hcn
          have HC2 := Lib.hid hcn
          clear hcn HCn
          go_wp2_with (first | (at_builtin; refine Lib.wpList_append_run _ rfl _ _ _ _ rfl _ _ rfl rfl _ _ hr ?_) | fail)
          go_roundw
          case rel => exact ⟨k + 1, S2, by omega, by go_num, by rw [HM.out, HC2.out.2] <;> go_num, by rw [HM.out, HC2.out.1] <;> go_num, by rw [HM.out]; exact HA5.out, by rw [HPl.out]; exact HP5.out, HO5.out⟩
          case measure => simp [intOf]; omega
      · have hkl : k = l.length := by omega
        subst hkl
        rw [List.take_length] at hA
        have htt : totF (addsF [] l) ≤ 3000 := by
          have h1 := addsF_tot [] l
          simp only [totF] at h1
          omega
        rw [List.take_length]
        have hgood := hA.pool.good.pos
        have HTx := Lib.hid (text_any _ _ S _ hA.pool)
        have HA := Lib.hid hA
        have hPl := hP.plsAt
        have HFd := Lib.hid (fun k t h h0 h1 => plA_find l k t h h0 h1 (by omega))
        have HFe := Lib.hid (fun k t h h0 => plA_empty l k t h h0)
        have HFs := Lib.hid (fun i k s t hi hk h0 hs ht => plA_same l i k s t hi hk h0 hs ht (by omega))
        have HPat := Lib.hid (fun k hk => plL_at l l.length k hk)
        have hplen := plL_len l l.length
        have hcs := catF_size (addsF [] l)
        generalize hL : addsF [] l = L at *
        generalize hct : catF L = ct at *
        generalize plL l l.length = P at *
        obtain ⟨aP, capP, rfl, hq1, hq2, hpc⟩ := hPl
        have HPc := Lib.hid hpc
        clear hA hP hO hpc
        go_wp2_with fail
        refine HTx.out.mono ?_
        rintro y wt ⟨rfl, hbb⟩
        have HAt := Lib.hid (HA.out.later hbb)
        have hsz := hbb.size
        have HWr := Lib.hid hbb
        clear hbb HTx
        go_wp2_with fail
        go_loopw [12] (fun i wx => ∃ k : Nat, k ≤ l.length ∧ i = .int .i64 k ∧ Below wt.heap.size wt wx) (fun i _ => l.length - (intOf i).toNat)
        case atStart => exact ⟨0, Nat.zero_le _, rfl, Below.refl _ _⟩
        case round =>
          obtain ⟨k, hk, rfl, hbw⟩ := hrel
          by_cases hlt : k < l.length
          · obtain ⟨t, htk⟩ : ∃ t, l[k]? = some t := ⟨_, List.getElem?_eq_getElem hlt⟩
            have hts : t.size ≤ 3000 := by have := mem_tot l t (List.mem_of_getElem? htk); omega
            obtain ⟨g, off, rfl, hg, hcell⟩ := HC.out k t htk
            obtain ⟨gp, offp, rfl, hgp, d0, d1⟩ := HPc.out k _ (HPat.out k (by omega))
            have HA2 := Lib.hid (HAt.out.later hbw)
            have hgpt : gp < wt.heap.size := by omega
            have hc0 := (HA2.out.bel.cell (p := ⟨g, off + k, none⟩) hg).trans hcell
            have hc1 := Nat.lt_of_lt_of_le hg HA2.out.bel.size
            have e0 := (hbw.cell (p := ⟨gp, offp + k * 2, none⟩) hgpt).trans ((HWr.out.cell (p := ⟨gp, offp + k * 2, none⟩) hgp).trans d0)
            have e1 := (hbw.cell (p := ⟨gp, offp + k * 2 + 1, none⟩) hgpt).trans ((HWr.out.cell (p := ⟨gp, offp + k * 2 + 1, none⟩) hgp).trans d1)
            have e2 := Nat.lt_of_lt_of_le hgpt hbw.size
            have HB := Lib.hid hbw
            clear hbw d0 d1
            by_cases ht0 : t.size = 0
            · have hpe := HFe.out k t htk ht0
              rw [hpe] at e0 e1
              have hge := get_any _ _ _ 0 0 _ HA2.out.pool (by omega) (by omega) (by omega) (by omega)
              rw [get_empty L hgood 0 0] at hge
              have HG := Lib.hid hge
              clear hge
              have hemp : (t.toList == []) = true := str_emp t ht0
              rw [show getS none = { data := #[] } from rfl, show (none : Option ByteArray).isSome = false from rfl] at HG
              go_wp2_with fail
              refine HG.out.mono ?_
              rintro y wg ⟨rfl, hbb⟩
              have HB3 := Lib.hid (HB.out.trans (hbb.mono HB.out.size))
              have hc0 := (hbb.cell (p := ⟨g, off + k, none⟩) hc1).trans hc0
              have hc1 := Nat.lt_of_lt_of_le hc1 hbb.size
              clear hbb HG e0 e1 e2 HB HA2
              go_wp2_with fail
              go_roundw
              case rel => exact ⟨k + 1, by omega, by go_num, HB3.out⟩
              case measure => simp [intOf]; omega
            · obtain ⟨f1, f2⟩ := HFd.out k t htk (by omega) (by omega)
              obtain ⟨p, hp1⟩ : ∃ p, (plA l k).1 = p := ⟨_, rfl⟩
              rw [f2] at e1
              rw [hp1] at e0 f1
              have hle := (findF_le t L 0 p f1).2
              have hgf := get_found L hgood t 0 p f1
              have hxt := cat_found L t 0 p f1
              rw [Nat.sub_zero, hct] at hxt
              have hge := get_any _ _ _ (p : Int) (t.size : Int) _ HA2.out.pool (by omega) (by omega) (by omega) (by omega)
              rw [hgf, show getS (some t) = t from rfl, show (some t).isSome = true from rfl] at hge
              have HG := Lib.hid hge
              have hfull : (t.toList == []) = false := str_full t ht0
              have hyes := str_yes (rfl : t = t)
              have HXt := Lib.hid (str_yes hxt)
              have HPk := Lib.hid (show plA l k = (p, t.size) from Prod.ext hp1 f2)
              clear hge hgf f1 f2 hp1 hxt
              go_wp2_with fail
              refine HG.out.mono ?_
              rintro y wg ⟨rfl, hbb⟩
              have HB3 := Lib.hid (HB.out.trans (hbb.mono HB.out.size))
              have hc0 := (hbb.cell (p := ⟨g, off + k, none⟩) hc1).trans hc0
              have hc1 := Nat.lt_of_lt_of_le hc1 hbb.size
              have e0 := (hbb.cell (p := ⟨gp, offp + k * 2, none⟩) e2).trans e0
              have e1 := (hbb.cell (p := ⟨gp, offp + k * 2 + 1, none⟩) e2).trans e1
              have e2 := Nat.lt_of_lt_of_le e2 hbb.size
              clear hbb HG HB HA2
              go_wp2_with fail
              go_quiet (fail)
              have HB4 : Hid (Below wt.heap.size wt (wg.drewN nq)) := Lib.hid (HB3.out.trans ⟨rfl, rfl, rfl, Nat.le_refl _, fun _ _ => rfl⟩)
              have hc0 : (wg.drewN nq).cell? ⟨g, off + k, none⟩ = _ := hc0
              have hc1 : g < (wg.drewN nq).heap.size := hc1
              have e0 : (wg.drewN nq).cell? ⟨gp, offp + k * 2, none⟩ = _ := e0
              have e1 : (wg.drewN nq).cell? ⟨gp, offp + k * 2 + 1, none⟩ = _ := e1
              have e2 : gp < (wg.drewN nq).heap.size := e2
              clear HB3
              generalize wg.drewN nq = wh at *
              have hx2 := HXt.out
              have hx3 : p ≤ p + t.size := by omega
              have hx5 : decide ((totF L : Int) < (p : Int) + (t.size : Int)) = false := decide_eq_false (by omega)
              have hx6 : decide ((p : Int) + (t.size : Int) < (p : Int)) = false := decide_eq_false (by omega)
              have hx4 : p + t.size ≤ ct.size := by omega
              go_wp2_with fail
              go_quiet (fail)
              have HB5 : Hid (Below wt.heap.size wt (wh.drewN nq)) := Lib.hid (HB4.out.trans ⟨rfl, rfl, rfl, Nat.le_refl _, fun _ _ => rfl⟩)
              have HC0 : Hid ((wh.drewN nq).cell? ⟨g, off + k, none⟩ = some (.string t)) := Lib.hid hc0
              have hc1 : g < (wh.drewN nq).heap.size := hc1
              have HE0 : Hid ((wh.drewN nq).cell? ⟨gp, offp + k * 2, none⟩ = some (.int .u64 p)) := Lib.hid e0
              have HE1 : Hid ((wh.drewN nq).cell? ⟨gp, offp + k * 2 + 1, none⟩ = some (.int .u32 t.size)) := Lib.hid e1
              have e2 : gp < (wh.drewN nq).heap.size := e2
              clear HB4 hc0 e0 e1 hx2 hx3 hx4 hx5 hx6 HXt hyes hfull
              generalize wh.drewN nq = wi at *
              go_wp2_with fail
              go_loopw [16] (fun j wx => ∃ n : Nat, n ≤ k ∧ j = .int .i64 n ∧ Below wi.heap.size wi wx) (fun j _ => k - (intOf j).toNat)
              case atStart => exact ⟨0, Nat.zero_le _, rfl, Below.refl _ _⟩
              case round =>
                obtain ⟨n, hnk, rfl, hbw⟩ := hrel
                have HB6 := Lib.hid (HB5.out.trans (hbw.mono HB5.out.size))
                by_cases hn : n < k
                · obtain ⟨s, hsn⟩ : ∃ s, l[n]? = some s := ⟨_, List.getElem?_eq_getElem (by omega)⟩
                  have hss : s.size ≤ 3000 := by have := mem_tot l s (List.mem_of_getElem? hsn); omega
                  have hsame := HFs.out k n t s htk hsn (by omega) (by omega) (by omega)
                  rw [HPk.out] at hsame
                  have HAx := Lib.hid (HAt.out.later HB6.out)
                  obtain ⟨g', off', hgo, hgs, hcs'⟩ := HC.out n s hsn
                  injection hgo with hgo
                  injection hgo with e1 e2'
                  subst e1 e2'
                  obtain ⟨gq, offq, hgo, hgqs, q0, q1⟩ := HPc.out n _ (HPat.out n (by omega))
                  injection hgo with hgo
                  injection hgo with e1 e2'
                  subst e1 e2'
                  have hgpt : gp < wt.heap.size := by omega
                  have a0 := (HAx.out.bel.cell (p := ⟨g, off + n, none⟩) hgs).trans hcs'
                  have b0 := (HB6.out.cell (p := ⟨gp, offp + n * 2, none⟩) hgpt).trans ((HWr.out.cell (p := ⟨gp, offp + n * 2, none⟩) hgqs).trans q0)
                  have b1 := (HB6.out.cell (p := ⟨gp, offp + n * 2 + 1, none⟩) hgpt).trans ((HWr.out.cell (p := ⟨gp, offp + n * 2 + 1, none⟩) hgqs).trans q1)
                  have a1 := (hbw.cell (p := ⟨g, off + k, none⟩) hc1).trans HC0.out
                  have b2 := (hbw.cell (p := ⟨gp, offp + k * 2, none⟩) e2).trans HE0.out
                  have b3 := (hbw.cell (p := ⟨gp, offp + k * 2 + 1, none⟩) e2).trans HE1.out
                  have a2 := Nat.lt_of_lt_of_le hc1 hbw.size
                  have b4 := Nat.lt_of_lt_of_le e2 hbw.size
                  have HBw := Lib.hid hbw
                  clear hbw q0 q1 hcs' hgs hgqs
                  generalize plA l n = pn at *
                  obtain ⟨pn, qn⟩ := pn
                  rw [Prod.mk.injEq] at hsame
                  by_cases hst : s = t
                  · obtain ⟨rfl, rfl⟩ := hsame.2 hst
                    have hy := str_yes hst
                    clear hsame
                    go_wp2_with fail
                    go_quiet (fail)
                    have HBn : Hid (∀ m, Below wi.heap.size wi (World.drewN _ m)) := Lib.hid (fun m => HBw.out.trans ⟨rfl, rfl, rfl, Nat.le_refl _, fun _ _ => rfl⟩)
                    go_wp2_with fail
                    go_roundw
                    case rel => exact ⟨n + 1, by omega, by go_num, HBn.out _⟩
                    case measure => simp [intOf]; omega
                  · have hy := str_no hst
                    by_cases h1 : pn = p
                    · have h2 : ¬ (qn : Int) = (t.size : Int) := fun h => hst (hsame.1 ⟨h1, by omega⟩)
                      subst h1
                      clear hsame
                      go_wp2_with fail
                      go_quiet (fail)
                      have HBn : Hid (∀ m, Below wi.heap.size wi (World.drewN _ m)) := Lib.hid (fun m => HBw.out.trans ⟨rfl, rfl, rfl, Nat.le_refl _, fun _ _ => rfl⟩)
                      go_wp2_with fail
                      go_roundw
                      case rel => exact ⟨n + 1, by omega, by go_num, HBn.out _⟩
                      case measure => simp [intOf]; omega
                    · have h2 : ¬ (pn : Int) = (p : Int) := by omega
                      clear hsame
                      go_wp2_with fail
                      go_quiet (fail)
                      have HBn : Hid (∀ m, Below wi.heap.size wi (World.drewN _ m)) := Lib.hid (fun m => HBw.out.trans ⟨rfl, rfl, rfl, Nat.le_refl _, fun _ _ => rfl⟩)
                      go_wp2_with fail
                      go_roundw
                      case rel => exact ⟨n + 1, by omega, by go_num, HBn.out _⟩
                      case measure => simp [intOf]; omega
                · obtain rfl : n = k := by omega
                  go_wp2_with fail
                  go_roundw
                  case rel => exact ⟨n + 1, by omega, by go_num, HB6.out⟩
                  case measure => simp [intOf]; omega
          · obtain rfl : k = l.length := by omega
            have HA2 := Lib.hid (HAt.out.later hbw)
            clear hbw
            go_wp2_with fail
            refine (len_any _ _ _ _ HA2.out.pool).mono ?_
            rintro y wy ⟨rfl, hbb⟩
            have HA3 := Lib.hid (HA2.out.later hbb)
            clear hbb HA2
            go_wp2_with fail
            refine (HK.out _).mono ?_
            rintro y wz ⟨rfl, hbb⟩
            have HA4 := Lib.hid (HA3.out.later hbb)
            clear hbb HA3
            go_wp2_with fail
            go_ret
            exact ⟨rfl, HA4.out.bel⟩
end Go.Proofs.Ytegboojhebhlnaa
