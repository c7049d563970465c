/- merge's Back. -/
import Derived.Test.YtleicghfcffblaaMV
import Derived.Test.YtleicghfcffblaaNe
import Derived.Test.YtleicghfcffblaaMI
import Derived.Test.YtleicghfcffblaaLq
namespace Go.Proofs.Ytleicghfcffblaa
open Go.RowKit
set_option maxRecDepth 20000
set_option linter.unusedVariables false
set_option linter.unusedSimpArgs false
theorem own_ent {w : World} {B g : Nat} {E T : TypeId} {v : Value} {l : List It} {cs : Array Value} {m : Nat × Nat} (h : OwnIt w B E v l) (ho : w.heap[g]? = some (.cells cs T m)) (hT : T ≠ E) : v.ownBlock ≠ some g := by
  intro e
  rcases h.2 with ⟨rfl, _⟩ | ⟨g', cap, cur, rfl, _, h2, _⟩
  · cases e
  · cases e
    rw [ho] at h2
    cases h2
    exact hT rfl
/-- The box of an entry, whole. -/
def EBox (w : World) (g : Nat) (e : En) : Prop := w.heap[g]? = some (.cells (eC e) 62 (0, 0))
theorem EBox.lt {w : World} {g : Nat} {e : En} (h : EBox w g e) : g < w.heap.size := (Array.getElem?_eq_some_iff.1 h).1
theorem EBox.at {w : World} {g : Nat} {e : En} (h : EBox w g e) : EAt w g e := by
  unfold EBox eC at h
  refine ⟨?_, ?_, ?_, ?_⟩ <;> simp [World.cell?, h]
theorem EBox.below {w w' : World} {g : Nat} {e : En} (h : EBox w g e) (hb : Below w.heap.size w w') : EBox w' g e := (hb.block g h.lt).trans h
theorem EBox.grown {w w' : World} {B g : Nat} {v : Value} {l : List It} {e : En} (h : EBox w g e) (ho : OwnIt w B 58 v l) (hg : w.grownBy w' v.ownBlock) : EBox w' g e :=
  (hg.block g h.lt (fun e' => own_ent ho h (by decide) e'.symm)).trans h
theorem backG_chk (l : List En) (i : Nat) (e : En) (d : ByteArray) (acc : List It) (h : l[i]? = some e) : backG (l.drop i) d acc (acc.length : Nat) = if chkN e acc.length d.size = 0 then backG (l.drop (i + 1)) d (acc ++ runN e d) ((acc.length : Nat) + e.rn) else ([], chkN e acc.length d.size) := by
  rw [backG_step l i e d acc _ h]
  unfold chkN
  by_cases h1 : e.rn = 0
  · rw [if_pos h1, if_pos h1]; rfl
  rw [if_neg h1, if_neg h1]
  by_cases h2 : (d.size : Int) < e.off + e.ln
  · rw [if_pos h2, if_pos h2]; rfl
  rw [if_neg h2, if_neg h2]
  by_cases h3 : 2048 < ((acc.length : Nat) : Int) + e.rn
  · rw [if_pos h3, if_pos h3]; rfl
  rw [if_neg h3, if_neg h3]
  by_cases h4 : 65536 < e.ln
  · rw [if_pos h4, if_pos h4]; rfl
  rw [if_neg h4, if_neg h4, if_pos rfl]
theorem chk_ok {e : En} {n d : Nat} (h : chkN e n d = 0) : e.rn ≠ 0 ∧ e.off + e.ln ≤ d ∧ (n : Int) + e.rn ≤ 2048 ∧ e.ln ≤ 65536 := by
  unfold chkN at h
  by_cases h1 : e.rn = 0
  · rw [if_pos h1] at h; omega
  rw [if_neg h1] at h
  by_cases h2 : (d : Int) < e.off + e.ln
  · rw [if_pos h2] at h; omega
  rw [if_neg h2] at h
  by_cases h3 : 2048 < (n : Int) + e.rn
  · rw [if_pos h3] at h; omega
  rw [if_neg h3] at h
  by_cases h4 : 65536 < e.ln
  · rw [if_pos h4] at h; omega
  exact ⟨h1, by omega, by omega, by omega⟩
/-- What entries tell of a text is a chart. -/
theorem back_good {l : List En} {d : ByteArray} {C : List It} (hm : MaysN l) (hr : rowN l = 0) (h : backN l d = (C, 0)) : GoodC C := by
  have hb : backG l d [] 0 = (C, 0) := by unfold backN at h; rwa [if_neg (by simpa using hr)] at h
  obtain ⟨h1, h2, h3⟩ := backG_inv l d [] 0 C hb
  rw [List.nil_append] at h2
  have hrow : rowG (-1) l = 0 := by
    unfold rowN at hr
    split at hr
    · omega
    · exact hr
  rw [h2]
  refine exp_good hm hrow h1 ?_
  rcases h3 with rfl | h3
  · simp
  · omega
theorem of_good {C : List It} (h : GoodC C) : ofI C = (C, 0) := of_perm C C h (List.Perm.refl _)
set_option maxHeartbeats 8000000 in
theorem back13_any (v : Value) (l : List En) (d : ByteArray) (w : World) (hv : EnsAt w v l) (hm : MaysN l) (hd : d.size ≤ 200000000) :
    Calls Try.prog 15 #[v, .string d] w fun e w' => ∃ s', e = .returned (.tuple #[.agg #[s'], .int .i64 (backN l d).2]) ∧ ChS w' s' (backN l d).1 ∧ Below w.heap.size w w' := by
  have hba := below_oneC w (.cells #[.slice none 0 0] 27)
  have HV := Lib.hid (hv.below hba)
  have HRO := Lib.hid (prow_any v l _ (hv.below hba) hm)
  have HON := Lib.hid (one_new w (.slice none 0 0) 27)
  have HBA := Lib.hid hba
  have HM := Lib.hid hm
  obtain ⟨a0, c0, rfl, hcap, hmx, -⟩ := hv
  have hml : l.length ≤ 9223372036854775807 := by unfold maxLen at hmx; omega
  obtain ⟨R, hR⟩ : ∃ R, backN l d = R := ⟨_, rfl⟩
  have HRE := Lib.hid hR
  rw [hR]
  obtain ⟨q, hq⟩ : ∃ q, rowN l = q := ⟨_, rfl⟩
  rw [hq] at HRO
  clear hm hba
  by_cases h0 : q = 0
  · have e0 : (q != 0) = false := by simpa using h0
    have HB0 : Hid (R = backG (l.drop 0) d [] 0) := Lib.hid (by rw [← hR]; unfold backN; rw [hq, if_neg (by simpa using h0), List.drop_zero])
    have HQ := Lib.hid (hq.trans h0)
    have HCK : Hid (∀ e ∈ l, ckN e = 0) := Lib.hid (fun e he => by
      have hrow := hq.trans h0
      unfold rowN at hrow
      split at hrow
      · omega
      · exact (rowG_above (-1) l HM.out hrow e he).2)
    clear h0 hq hR
    go_enter Try.func15, Try.ntmps15
    go_wp2_with fail
    generalize hW0 : w.alloc (.cells #[.slice none 0 0] 27) = W0 at *
    refine HRO.out.mono ?_
    rintro x w1 ⟨rfl, hb1⟩
    have HB1 := Lib.hid (HBA.out.trans (hb1.mono HBA.out.size))
    have HV1 := Lib.hid (HV.out.below hb1)
    have HO1 := Lib.hid (HON.out.below hb1)
    clear hb1 hW0 HV HON HBA HRO
    go_wp2_with fail
    go_loopw [7, 21] (fun o x wr => ∃ (i : Nat) (acc : List It), i ≤ l.length ∧ x = .int .i64 i ∧ acc.length ≤ 2048 ∧ Hid (OwnIt wr w1.heap.size 58 o acc) ∧ Hid (R = backG (l.drop i) d acc acc.length) ∧ Hid (One wr w.heap.size (.slice none 0 0)) ∧ Hid (Below w.heap.size w wr ∧ Below w1.heap.size w1 wr)) (fun _ x _ => l.length - (intOf x).toNat)
    case atStart => exact ⟨0, [], Nat.zero_le _, rfl, by simp, Lib.hid (ownIt_nil _ _ _), HB0, HO1, Lib.hid ⟨HB1.out, Below.refl _ _⟩⟩
    case round =>
      obtain ⟨i, acc, hi, rfl, hal, HO, HR, HC1, HBW⟩ := hrel
      by_cases hlt : i < l.length
      · obtain ⟨e, he⟩ : ∃ e, l[i]? = some e := ⟨_, List.getElem?_eq_getElem hlt⟩
        have hme := HM.out e (List.mem_of_getElem? he)
        have hck := ck_ok e (HCK.out e (List.mem_of_getElem? he))
        have hme2 := hme
        unfold MayN at hme2
        have HR2 := Lib.hid (HR.out.trans (backG_chk l i e d acc he))
        obtain ⟨g, off, cap, hv2, hle, hg, hc⟩ := ens_at HV1.out i hlt
        cases hv2
        obtain ⟨k0, k1, k2, k3⟩ := cells4 HBW.out.2 (hc i e he)
        obtain ⟨a7, c7, rfl⟩ := HO.out.slice
        have hii : (i : Int) < (l.length : Int) := by omega
        have HEB : Hid (EBox (wr.alloc (.cells (eC e) 62)) wr.heap.size e) := Lib.hid (heap_new wr _)
        have HBX := Lib.hid (below_oneC wr (.cells (eC e) 62))
        have HCH := Lib.hid (fun W => mcheck_any e acc.length d W hme (by omega) (by omega) (by omega))
        unfold eC at HBX HCH HEB
        have HM2 := Lib.hid (And.intro hme2 hck)
        clear hc he hme hme2 hck HR
        by_cases hz : chkN e acc.length d.size = 0
        · have HOK := Lib.hid (chk_ok hz)
          have HR3 := Lib.hid (HR2.out.trans (if_pos hz))
          rw [hz] at HCH
          clear hz HR2
          go_wp2_with fail
          generalize hWx : wr.alloc (.cells #[.int .u64 e.id, .int .u64 e.off, .int .u32 e.ln, .int .u32 e.rn] 62) = Wx at *
          refine (HCH.out _).mono ?_
          rintro x w2 ⟨rfl, hb2⟩
          have HEB2 := Lib.hid (HEB.out.below hb2)
          have hbx2 := HBX.out.trans (hb2.mono HBX.out.size)
          have HO2 := Lib.hid (HO.out.below hbx2)
          have HC2 := Lib.hid (HC1.out.below hbx2)
          have HBW2 := Lib.hid (And.intro (HBW.out.1.trans (hbx2.mono HBW.out.1.size)) (HBW.out.2.trans (hbx2.mono HBW.out.2.size)))
          obtain ⟨e0, e1, e2, e3⟩ := HEB2.out.at
          obtain ⟨o1, o2, o3, o4⟩ := HOK.out
          have hw1 : IntKind.u64.wrap e.rn = e.rn := by have := HM2.out.1; rw [IntKind.wrap_u64]; omega
          have hw3 : IntKind.u64.wrap e.ln = e.ln := by have := HM2.out.1; rw [IntKind.wrap_u64]; omega
          have hw4 : IntKind.u64.wrap (e.off + e.ln) = e.off + e.ln := by have := HM2.out.1; rw [IntKind.wrap_u64]; omega
          have hs1 : (0 : Int) ≤ e.off := HM2.out.1.2.1.1
          have hs2 : e.off ≤ e.off + e.ln := by have := HM2.out.1; omega
          have hs3 : e.off + e.ln ≤ (d.size : Int) := o2
          have HRN := Lib.hid o3
          clear hb2 hbx2 hWx HEB HBX HO HC1 HBW HCH k0 k1 k2 k3 o1 o3 o4 o2
          go_wp2_with fail
          have HTX : Hid (d.extract e.off.toNat (e.off + e.ln).toNat = txN e d) := Lib.hid (by have := HM2.out.1; unfold txN; rw [show (e.off + e.ln).toNat = e.off.toNat + e.ln.toNat by omega])
          rw [HTX.out]
          have HRL := Lib.hid (runN_len e d)
          have HRT := Lib.hid (run_at e d)
          clear e0 e1 e2 e3 hs1 hs2 hs3
          generalize txN e d = tx at *
          generalize runN e d = rl at *
          go_loopw [7, 47] (fun o x wy => ∃ j : Nat, (j : Int) ≤ e.rn ∧ x = .int .u64 j ∧ Hid (OwnIt wy w1.heap.size 58 o (acc ++ rl.take j)) ∧ Hid (EBox wy wr.heap.size e) ∧ Hid (One wy w.heap.size (.slice none 0 0)) ∧ Hid (Below w.heap.size w wy ∧ Below w1.heap.size w1 wy)) (fun _ x _ => e.rn.toNat - (intOf x).toNat)
          case atStart => exact ⟨0, by have := HM2.out.1; omega, rfl, Lib.hid (by rw [List.take_zero, List.append_nil]; exact HO2.out), HEB2, HC2, HBW2⟩
          case round =>
            obtain ⟨j, hj, rfl, HOJ, HEJ, HCJ, HBJ⟩ := hrel
            obtain ⟨k0, k1, k2, k3⟩ := HEJ.out.at
            by_cases hjl : (j : Int) < e.rn
            · have htake := itake_at rl j _ (HRT.out j hjl)
              have hid : e.id + (j : Int) = ((e.id.toNat + j : Nat) : Int) := by have := HM2.out.1; omega
              have hw6 : IntKind.u64.wrap (e.id + (j : Int)) = e.id + (j : Int) := by have := HM2.out; rw [IntKind.wrap_u64]; omega
              have hw7 : IntKind.u64.wrap ((j : Int) + 1) = (j : Int) + 1 := by have := HM2.out.1; rw [IntKind.wrap_u64]; omega
              have hx := it_lit2 wr (e.id + (j : Int)) _ hid tx 58
              have hba : Below wr.heap.size wr (wr.alloc (.cells #[.int .u64 (e.id + (j : Int)), .string tx] 58)) := below_oneC _ _
              obtain ⟨v5, w5, hr5, ho5, hg5⟩ := itappend_run (wr.alloc (.cells #[.int .u64 (e.id + (j : Int)), .string tx] 58)) w1.heap.size 25 58 25 _ Try.underlying25 infoPit rfl u7 (.slice (some ⟨wr.heap.size, 0, none⟩) 1 1) (acc ++ rl.take j) [(e.id.toNat + j, tx)] (HOJ.out.below hba) hx (by have := HRN.out; rw [List.length_append, List.length_take]; simp; omega) (Nat.le_trans HBJ.out.2.size hba.size)
              rw [List.append_assoc, ← htake] at ho5
              have HO5 := Lib.hid ho5
              have hb5 : Below w1.heap.size w1 w5 := (HBJ.out.2.trans (hba.mono HBJ.out.2.size)).grown hg5 (Nat.le_trans HBJ.out.2.size hba.size) (fun q hq => (HOJ.out.lt q hq).1)
              have HB5 : Hid (Below w.heap.size w w5 ∧ Below w1.heap.size w1 w5) := Lib.hid ⟨HB1.out.trans (hb5.mono HB1.out.size), hb5⟩
              have HE5 := Lib.hid ((HEJ.out.below hba).grown (HOJ.out.below hba) hg5)
              have HC5 := Lib.hid ((HCJ.out.below hba).grown (HOJ.out.below hba) hg5)
              clear ho5 hg5 hx hba hid htake hb5
              go_wp2_with (first | (at_builtin; refine Lib.wpList_append_run _ rfl _ _ _ _ rfl _ _ rfl rfl _ _ hr5 ?_) | fail)
              go_roundw
              case rel => exact ⟨j + 1, by omega, by go_num, HO5, HE5, HC5, HB5⟩
              case measure => simp [intOf]; omega
            · have hje : (j : Int) = e.rn := by omega
              have hjn : j = e.rn.toNat := by omega
              have hfull : rl.take j = rl := List.take_of_length_le (by rw [HRL.out]; omega)
              have HOF := HOJ.out
              rw [hfull] at HOF
              have HOF := Lib.hid HOF
              have hall : (acc ++ rl).length = acc.length + e.rn.toNat := by rw [List.length_append, HRL.out]
              have HRR : Hid (R = backG (l.drop (i + 1)) d (acc ++ rl) (((acc ++ rl).length : Nat) : Int)) := Lib.hid (by rw [hall, show ((acc.length + e.rn.toNat : Nat) : Int) = ((acc.length : Nat) : Int) + e.rn by omega]; exact HR3.out)
              have HAL : Hid ((acc ++ rl).length ≤ 2048) := Lib.hid (by have := HRN.out; rw [hall]; omega)
              clear hfull hje hjn hall
              go_wp2_with fail
              go_roundw
              case rel => exact ⟨i + 1, acc ++ rl, by omega, by go_num, HAL.out, HOF, HRR, HCJ, HBJ⟩
              case measure => simp [intOf]; omega
        · have HR3 := Lib.hid (HR2.out.trans (if_neg hz))
          obtain ⟨z, hzz⟩ : ∃ z, chkN e acc.length d.size = z := ⟨_, rfl⟩
          rw [hzz] at hz HR3 HCH
          have hzn : (z != 0) = true := by simpa using hz
          clear hz HR2 hzz
          go_wp2_with fail
          generalize hWx : wr.alloc (.cells #[.int .u64 e.id, .int .u64 e.off, .int .u32 e.ln, .int .u32 e.rn] 62) = Wx at *
          refine (HCH.out _).mono ?_
          rintro x w2 ⟨rfl, hb2⟩
          have hbx2 := HBX.out.trans (hb2.mono HBX.out.size)
          have HC2 := Lib.hid (HC1.out.below hbx2)
          have HBW2 := Lib.hid (HBW.out.1.trans (hbx2.mono HBW.out.1.size))
          have rr := HC2.out.cell
          have rf := HC2.out.frz
          clear hb2 hbx2 hWx HEB HBX HO HC1 HBW HCH k0 k1 k2 k3
          go_wp2_with fail
          refine bodyPost_ret (results_o2 rfl _ _ w.heap.size _ _ _ rfl rfl (HC2.out.set _).cell Try.underlying27 rfl chart_size) rfl ⟨_, by rw [HR3.out]; rfl, ?_, HBW2.out.setCell (p := ⟨w.heap.size, 0, none⟩) (Nat.le_refl _) _⟩
          rw [HR3.out]
          exact chS_nil _
      · obtain rfl : i = l.length := by omega
        have HRR := HR.out
        rw [List.drop_length, backG] at HRR
        have HG := back_good HM.out HQ.out (HRE.out.trans HRR)
        have hof := of_good HG
        have HRR := Lib.hid HRR
        have hOF := of_anyC u7 acc wr HO.out.itsAt (by omega) (fun t ht => by have := HG.low t ht; omega) (fun t ht => by have := HG.short t ht; unfold maxLen; omega)
        rw [hof] at hOF
        have HOF := Lib.hid hOF
        obtain ⟨a7, c7, rfl⟩ := HO.out.slice
        clear hOF hof HG
        go_wp2_with fail
        refine HOF.out.mono ?_
        rintro x w3 ⟨s', rfl, hch, hb3⟩
        obtain ⟨a9, n9, c9, rfl⟩ := hch.form
        have HC3 := Lib.hid (HC1.out.below hb3)
        have HCH3 := Lib.hid hch
        have HB3 := Lib.hid (HBW.out.1.trans (hb3.mono HBW.out.1.size))
        have rr := HC3.out.cell
        have rf := HC3.out.frz
        clear hch hb3 HC1 HBW HOF
        go_wp2_with fail
        refine bodyPost_ret (results_o2 rfl _ _ w.heap.size _ _ _ rfl rfl (HC3.out.set _).cell Try.underlying27 rfl chart_size) rfl ⟨_, by rw [HRR.out]; rfl, ?_, HB3.out.setCell (p := ⟨w.heap.size, 0, none⟩) (Nat.le_refl _) _⟩
        rw [HRR.out]
        exact HCH3.out.set HC3.out _
  · have e0 : (q != 0) = true := by simpa using h0
    have HRR : Hid (R = ([], q)) := Lib.hid (by rw [← hR]; unfold backN; rw [hq, if_pos h0])
    clear h0 hq hR
    go_enter Try.func15, Try.ntmps15
    go_wp2_with fail
    generalize hW0 : w.alloc (.cells #[.slice none 0 0] 27) = W0 at *
    refine HRO.out.mono ?_
    rintro x w1 ⟨rfl, hb1⟩
    have HB1 := Lib.hid (HBA.out.trans (hb1.mono HBA.out.size))
    have HO1 := Lib.hid (HON.out.below hb1)
    have rr := HO1.out.cell
    have rf := HO1.out.frz
    clear hb1 hW0 HV HON HBA HRO
    go_wp2_with fail
    refine bodyPost_ret (results_o2 rfl _ _ w.heap.size _ _ _ rfl rfl (HO1.out.set _).cell Try.underlying27 rfl chart_size) rfl ⟨_, by rw [HRR.out]; rfl, ?_, HB1.out.setCell (p := ⟨w.heap.size, 0, none⟩) (Nat.le_refl _) _⟩
    rw [HRR.out]
    exact chS_nil _
end Go.Proofs.Ytleicghfcffblaa
