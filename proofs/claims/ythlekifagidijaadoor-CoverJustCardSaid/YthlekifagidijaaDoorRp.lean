/- The contract of the document's put: a plain list with one interval more. -/
import Derived.Test.YthlekifagidijaaDoorRt
import Derived.Deep.RegionHeld3
import Derived.Deep.DeepCutAuto
import Derived.Deep.CutBlock
import Derived.BigRegion
import Derived.Deep.QuietTactic
import Derived.BigQuiet
namespace Go.Proofs.YthlekifagidijaaDoor
open Go.RowKit
set_option linter.unusedVariables false
set_option linter.unusedSimpArgs false
theorem info_span : (Tryd.prog.info? 69).map (fun i => (i.zero, i.size, i.bytes)) = some (some (.agg #[.int .u64 0, .int .u64 0]), 2, 16) := by kernel_rfl
def SpansEnd (l : List (Int × Int)) (w : World) (e : Ending) (w' : World) : Prop := ∃ v', e = .returned v' ∧ SpansAt w' v' l ∧ Below w.heap.size w w'
/-- An interval's two cells stand in block h, and may be written. -/
def Spot2 (w : World) (h : Nat) (p q : Int) : Prop := w.cell? ⟨h, 0, none⟩ = some (.int .u64 p) ∧ w.cell? ⟨h, 1, none⟩ = some (.int .u64 q) ∧ ∀ o, w.frozen? ⟨h, o, none⟩ = false
theorem Spot2.below {w w' : World} {h B : Nat} {p q : Int} (hs : Spot2 w h p q) (hb : Below B w w') (hB : h < B) : Spot2 w' h p q :=
  ⟨(hb.cell (p := ⟨h, 0, none⟩) hB).trans hs.1, (hb.cell (p := ⟨h, 1, none⟩) hB).trans hs.2.1, fun o => (hb.frozen (p := ⟨h, o, none⟩) hB).trans (hs.2.2 o)⟩
theorem Spot2.drew {w : World} {h : Nat} {p q : Int} (s : Spot2 w h p q) : Spot2 w.drew h p q := s
theorem spot2_new (w : World) (p q : Int) (T : TypeId) : Spot2 (w.alloc (.cells #[.int .u64 p, .int .u64 q] T)) w.heap.size p q := ⟨by simp [go_sem], by simp [go_sem], fun o => by simp [go_sem]⟩
theorem spot2_set {w : World} {h : Nat} {p q p' q' : Int} (s : Spot2 w h p q) : Spot2 ((w.setCell ⟨h, 0, none⟩ (.int .u64 p')).setCell ⟨h, 1, none⟩ (.int .u64 q')) h p' q' := by
  obtain ⟨c0, c1, f0⟩ := s
  exact ⟨by simp [go_sem, c0], by simp [go_sem, c1], fun o => by simp [go_sem, f0]⟩
theorem OwnS.setCell {w : World} {B : Nat} {E : TypeId} {v : Value} {l : List (Int × Int)} (h : OwnS w B E v l) (a : Addr) (u : Value) (ha : a.block < B) : OwnS (w.setCell a u) B E v l := by
  obtain ⟨h1, h2⟩ := h
  refine ⟨h1, ?_⟩
  rcases h2 with h2 | ⟨g, cap, cur, hv, hg, hh, r⟩
  · exact .inl h2
  · refine .inr ⟨g, cap, cur, hv, hg, ?_, r⟩
    rw [Below.heap_setCell w a u g (by omega)]; exact hh
theorem OwnS.drew {w : World} {B : Nat} {E : TypeId} {v : Value} {l : List (Int × Int)} (h : OwnS w B E v l) : OwnS w.drew B E v l := h
theorem keepP {w w' w1 : World} {a0 a1 a2 a3 : Addr} {v0 v1 v2 v3 : Value} (hb : Below w'.heap.size w' w1) (h : w'.cell? a0 = some v0 ∧ w'.cell? a1 = some v1 ∧ w'.cell? a2 = some v2 ∧ w'.cell? a3 = some v3 ∧ Below w.heap.size w w') :
    w1.cell? a0 = some v0 ∧ w1.cell? a1 = some v1 ∧ w1.cell? a2 = some v2 ∧ w1.cell? a3 = some v3 ∧ Below w.heap.size w w1 := by
  obtain ⟨h0, h1, h2, h3, hu⟩ := h
  exact ⟨scell_later hb h0, scell_later hb h1, scell_later hb h2, scell_later hb h3, hu.trans (hb.mono hu.size)⟩
def PutRel (L : List (Int × Int)) (s : Int × Int) (w wr : World) (v : Value) (i : Nat) : Prop :=
  ∃ (R : List (Int × Int)) (c d : Int), OwnS wr (w.heap.size + 1) 69 v R ∧ grow L s = grow (L.drop i) (c, d) ∧ rest L s = R ++ rest (L.drop i) (c, d) ∧ 0 ≤ c ∧ c ≤ 18446744073709551615 ∧ 0 ≤ d ∧ d ≤ 18446744073709551615 ∧ Spot2 wr w.heap.size c d ∧ R.length ≤ i ∧ w.heap.size < wr.heap.size ∧ Below w.heap.size w wr
theorem ins_at (s : Int × Int) (R : List (Int × Int)) (at_ : Nat) (ha : at_ ≤ R.length) (hlo : ∀ t ∈ R.take at_, t.1 < s.1) (hhi : ∀ t, R[at_]? = some t → ¬ t.1 < s.1) : ins s R = R.take at_ ++ s :: R.drop at_ := by
  induction R generalizing at_ with
  | nil => obtain rfl : at_ = 0 := by simpa using ha
           rfl
  | cons t R ih =>
    cases at_ with
    | zero =>
      rw [ins, if_neg (hhi t rfl)]
      rfl
    | succ m =>
      rw [ins, if_pos (hlo t (by simp)), ih m (by simpa using ha) (fun u hu => hlo u (by simp [hu])) (fun u hu => hhi u (by simpa using hu))]
      rfl
set_option maxHeartbeats 4000000 in
set_option maxRecDepth 20000 in
theorem rput_in (v : Value) (L : List (Int × Int)) (p q : Int) (hpq : p ≤ q) (p0 : 0 ≤ p) (p1 : p ≤ 18446744073709551615) (q0 : 0 ≤ q) (q1 : q ≤ 18446744073709551615) (hw : WideS L) (hl : L.length ≤ 100000) (w : World) (hv : SpansAt w v L) : Calls Tryd.prog 36 #[v, .agg #[.int .u64 p, .int .u64 q]] w (SpansEnd (putL L (p, q)) w) := by
  obtain ⟨al, cap, rfl, h1, h2, hc⟩ := hv
  have HC := Lib.hid hc
  have HW := Lib.hid hw
  clear hc hw
  obtain ⟨i0, hi, hz0, hz1, hz2⟩ := info_parts info_span
  have HI0 := Lib.hid hi
  have HZ0 := Lib.hid hz0
  have HZ1 := Lib.hid hz1
  have HZ2 := Lib.hid hz2
  clear hi hz0 hz1 hz2
  have hst : PutRel L (p, q) w (w.alloc (.cells #[.int .u64 p, .int .u64 q] 69)) (.slice none 0 0) 0 := ⟨[], p, q, ownS_nil _ _ _, rfl, rfl, p0, p1, q0, q1, spot2_new w p q _, Nat.le_refl _, by simp, by go_grown⟩
  have HST := Lib.hid hst
  clear hst
  go_enter Tryd.func36, Tryd.ntmps36
  go_wp2_with fail
  go_loopw [5, 7] (fun o s wr => ∃ i : Nat, i ≤ L.length ∧ s = .int .i64 i ∧ PutRel L (p, q) w wr o i) (fun _ s _ => L.length - (intOf s).toNat)
  case atStart => exact ⟨0, Nat.zero_le _, rfl, HST.out⟩
  case round =>
    clear HST
    obtain ⟨i, hi, rfl, R, c, d, hown, hgr, hre, c0, c1, d0, d1, hs, hR, hsz, hbw⟩ := hrel
    have HOWN := Lib.hid hown
    have HGR := Lib.hid hgr
    have HRE := Lib.hid hre
    have HS := Lib.hid hs
    clear hown hgr hre hs
    by_cases hlt : i < L.length
    · obtain ⟨t, ht⟩ : ∃ t, L[i]? = some t := ⟨_, List.getElem?_eq_getElem hlt⟩
      obtain ⟨a0, a1, b0, b1⟩ := HW.out t (List.mem_of_getElem? ht)
      obtain ⟨g, off, rfl, hg, l0, l1⟩ := HC.out i t ht
      replace l0 := scell_later hbw l0
      replace l1 := scell_later hbw l1
      have hdr : L.drop i = t :: L.drop (i + 1) := by
        rw [List.drop_eq_getElem_cons hlt]
        congr 1
        rw [List.getElem?_eq_getElem hlt] at ht
        exact Option.some.inj ht
      have HDR := Lib.hid hdr
      have hi2 : (i : Int) < (L.length : Int) := by omega
      obtain ⟨m0, m1, mf⟩ := HS.out
      clear ht hdr
      obtain ⟨a, b⟩ := t
      dsimp only at l0 l1 a0 a1 b0 b1
      go_upto_region 8 with fail
      have hS0 : (fun w' => w'.cell? ⟨g, off + i * 2, none⟩ = some (.int .u64 a) ∧ w'.cell? ⟨g, off + i * 2 + 1, none⟩ = some (.int .u64 b) ∧ w'.cell? ⟨w.heap.size, 0, none⟩ = some (.int .u64 c) ∧ w'.cell? ⟨w.heap.size, 1, none⟩ = some (.int .u64 d) ∧ Below wr.heap.size wr w') wr.drew := ⟨l0, l1, m0, m1, (Below.refl _ _).drew⟩
      have HS0 := Lib.hid hS0
      clear hS0 l0 l1 m0 m1 mf
      have HT := Lib.hid (fun w => touch_any a b c d a0 a1 b0 b1 c0 c1 d0 d1 w)
      by_cases ht : touchB (a, b) (c, d) = true
      · rw [ht] at HT
        have HTB := Lib.hid ht
        clear ht
        go_region_held3 (fun w' => w'.cell? ⟨g, off + i * 2, none⟩ = some (.int .u64 a) ∧ w'.cell? ⟨g, off + i * 2 + 1, none⟩ = some (.int .u64 b) ∧ w'.cell? ⟨w.heap.size, 0, none⟩ = some (.int .u64 c) ∧ w'.cell? ⟨w.heap.size, 1, none⟩ = some (.int .u64 d) ∧ Below wr.heap.size wr w') (first | exact keepP hk (by assumption) | exact HS0.out)
          (first | (go_at_call 54; refine (HT.out _).mono ?_; rintro e w' ⟨rfl, hk⟩))
        have hk' : Below wr.heap.size wr w' := ((Below.refl wr.heap.size wr).drew).trans hk
        go_upto_region 9 with fail
        have m2 := HS.out.below hk' hsz
        have HM2 := Lib.hid m2
        obtain ⟨m0, m1, mf⟩ := m2
        have l0 := scell_later hk' HS0.out.1
        have l1 := scell_later hk' HS0.out.2.1
        go_region
        all_goals
          go_wp2_with fail
          have e1 : (if c < a then c else a) = min a c := by split <;> omega
          have e2 : (if b < d then d else b) = max b d := by split <;> omega
          rw [e1, e2]
          have hsz' := hk'.size
          refine ⟨⟨i + 1, by omega, by go_num, R, min a c, max b d, (((HOWN.out.below hk').setCell ⟨w.heap.size, 0, none⟩ _ (Nat.lt_succ_self _)).setCell ⟨w.heap.size, 1, none⟩ _ (Nat.lt_succ_self _)).drew, ?_, ?_, by omega, by omega, by omega, by omega, (spot2_set HM2.out).drew, by omega, by simp only [World.size_drew, World.size_setCell]; omega, (((hbw.trans (hk'.mono hbw.size)).setCell (p := ⟨w.heap.size, 0, none⟩) (Nat.le_refl _) _).setCell (p := ⟨w.heap.size, 1, none⟩) (Nat.le_refl _) _).drew⟩, by simp [intOf]; omega⟩
          · rw [HGR.out, HDR.out, grow, if_pos HTB.out]
          · rw [HRE.out, HDR.out, rest, if_pos HTB.out]
      · have ht' : touchB (a, b) (c, d) = false := by simpa using ht
        rw [ht'] at HT
        have HTB := Lib.hid ht
        clear ht ht'
        go_region_held3 (fun w' => w'.cell? ⟨g, off + i * 2, none⟩ = some (.int .u64 a) ∧ w'.cell? ⟨g, off + i * 2 + 1, none⟩ = some (.int .u64 b) ∧ w'.cell? ⟨w.heap.size, 0, none⟩ = some (.int .u64 c) ∧ w'.cell? ⟨w.heap.size, 1, none⟩ = some (.int .u64 d) ∧ Below wr.heap.size wr w') (first | exact keepP hk (by assumption) | exact HS0.out)
          (first | (go_at_call 54; refine (HT.out _).mono ?_; rintro e w' ⟨rfl, hk⟩))
        have hk' : Below wr.heap.size wr w' := ((Below.refl wr.heap.size wr).drew).trans hk
        have HM2 := Lib.hid (HS.out.below hk' hsz)
        have l0 := scell_later hk' HS0.out.1
        have l1 := scell_later hk' HS0.out.2.1
        have hsz' := hk'.size
        have hbw' := hbw.trans (hk'.mono hbw.size)
        have HOWN' : Hid (w'.ownsRow (w.heap.size + 1) 69 2 u5 R.length (flat2 R)) := Lib.hid (HOWN.out.below hk')
        clear hk hk' HS0 HT HOWN HS hbw
        go_wp2_with (first | (at_builtin; refine wpList_append_own _ rfl _ _ 38 rfl (w.heap.size + 1) 69 i0 (.agg #[.int .u64 0, .int .u64 0]) 2 16 Tryd.underlying38 HI0.out HZ0.out HZ1.out HZ2.out rfl (by decide) _ _ _ rfl (World.ownsRow.alloc HOWN'.out _) ⟨w'.heap.size, 0, none⟩ 1 1 [.int .u64 a, .int .u64 b] rfl rfl ?b2 ?b3 ?b4 ?b5 ?b6 ?_) | fail)
        case b2 =>
          intro j u hu
          match j, hu with
          | 0, hu => simp at hu; subst hu; simp [Addr.add, go_sem]
          | 1, hu => simp at hu; subst hu; simp [Addr.add, go_sem]
        case b3 => intro u hu; simp at hu; rcases hu with rfl | rfl <;> rfl
        case b4 => unfold maxLen; omega
        case b5 => omega
        case b6 => simp; omega
        intro v2 w6 hown2 hgr2 _
        have hb0 : Below (w.heap.size + 1) w' w6 := ((Below.refl (w.heap.size + 1) w').alloc (by omega) _).grown hgr2 (by simp; omega) (fun g hg => (World.ownsRow.lt HOWN'.out g hg).1)
        have hO2 := Lib.hid (owns_conv (l := R ++ [(a, b)]) hown2 (by rw [List.length_append]; rfl) (by rw [flat2_append]; rfl))
        have hb6 := hbw'.trans (hb0.mono (by omega))
        have HS6 := Lib.hid (HM2.out.below hb0 (Nat.lt_succ_self _))
        have hsz6 := hb0.size
        clear hown2 hgr2 hb0 HM2 l0 l1 HOWN' hbw'
        go_wp2_with fail
        go_roundw
        case rel => exact ⟨i + 1, by omega, by go_num, R ++ [(a, b)], c, d, hO2.out, by rw [HGR.out, HDR.out, grow, if_neg HTB.out], by rw [HRE.out, HDR.out, rest, if_neg HTB.out, List.append_assoc]; rfl, c0, c1, d0, d1, HS6.out, by rw [List.length_append]; simp; omega, by omega, hb6⟩
        case measure => simp [intOf]; omega
    · obtain rfl : i = L.length := by omega
      rw [List.drop_length] at HGR HRE
      have hfin : putL L (p, q) = ins (c, d) R := by
        unfold putL
        rw [if_neg (by show ¬ q < p; omega), HGR.out, HRE.out, rest, List.append_nil]
        rfl
      have HFIN := Lib.hid hfin
      obtain ⟨m0, m1, mf⟩ := HS.out
      clear HGR HRE hfin HC HW
      rcases HOWN.out.form with ⟨rfl, rfl⟩ | ⟨g, cap', rfl, hg1, hg2, hg3, hg4, hcells, hfro⟩
      · clear HOWN HS
        go_wp2_with fail
        go_loopw [6] (fun s wx => s = .int .i64 0 ∧ wr = wx) (fun _ _ => 0)
        case atStart => exact ⟨rfl, rfl⟩
        case round =>
          obtain ⟨rfl, hwx⟩ := hrel
          subst hwx
          go_wp2_with fail
          go_quiet (fail)
          have n0 : (wr.drewN nq).cell? ⟨w.heap.size, 0, none⟩ = some (.int .u64 c) := m0
          have n1 : (wr.drewN nq).cell? ⟨w.heap.size, 1, none⟩ = some (.int .u64 d) := m1
          have hbn : Below w.heap.size w (wr.drewN nq) := hbw.trans ⟨rfl, rfl, rfl, Nat.le_refl _, fun _ _ => rfl⟩
          have hszn : w.heap.size < (wr.drewN nq).heap.size := hsz
          clear m0 m1 mf hbw
          generalize wr.drewN nq = wn at *
          go_upto_region 15 with fail
          go_wp2_with (first | (at_builtin; refine wpList_append_own _ rfl _ _ 38 rfl wn.heap.size 69 i0 (.agg #[.int .u64 0, .int .u64 0]) 2 16 Tryd.underlying38 HI0.out HZ0.out HZ1.out HZ2.out rfl (by decide) _ 0 [] rfl (World.ownsRow_nil _ _ _ _) ⟨wn.heap.size, 0, none⟩ 1 1 [.int .u64 c, .int .u64 d] rfl rfl ?g2 ?g3 ?g4 ?g5 ?g6 ?_) | fail)
          case g2 =>
            intro j u hu
            match j, hu with
            | 0, hu => simp at hu; subst hu; simp [Addr.add, go_sem]
            | 1, hu => simp at hu; subst hu; simp [Addr.add, go_sem]
          case g3 => intro u hu; simp at hu; rcases hu with rfl | rfl <;> rfl
          case g4 => unfold maxLen; omega
          case g5 => omega
          case g6 => simp
          intro v1 w5 hown1 hgr1 _
          have hb5 : Below wn.heap.size wn w5 := ((Below.refl _ _).alloc (Nat.le_refl _) _).grown hgr1 (by simp) (fun g hg => by simp [Value.ownBlock] at hg)
          have HOWN1 := Lib.hid hown1
          clear hgr1 hown1 n0 n1
          have hown2 := HOWN1.out
          obtain ⟨hl2, hv2⟩ := hown2
          rcases hv2 with ⟨rfl, hn⟩ | ⟨g2, cap2, cur, rfl, hg22, hh2, hle2, hm2, hcs2, htk2⟩
          · omega
          · clear hl2 hh2 hm2 hcs2 htk2
            have hsp : SpansAt w5 _ (ins (c, d) []) := OwnS.spansAt (E := 69) (B := wn.heap.size) (owns_conv HOWN1.out (by rfl) (by simp [flat2, ins]))
            have HSP := Lib.hid hsp
            have hb8 := hbn.trans (hb5.mono (by omega))
            clear hsp HOWN1 hb5
            go_wp2_with fail
            go_ret
            exact ⟨_, rfl, by rw [HFIN.out]; exact HSP.out, hb8⟩
      · have HCELLS := Lib.hid hcells
        clear hcells hfro
        go_upto_block 2 with fail
        go_cut [6] (fun s wx => ∃ at_ : Nat, at_ ≤ R.length ∧ s = .int .i64 at_ ∧ Hid (∀ t ∈ R.take at_, t.1 < c) ∧ Hid (∀ t, R[at_]? = some t → ¬ t.1 < c) ∧ Below wr.heap.size wr wx)
        case first =>
          go_wp2_with fail
          go_loopw [6] (fun s wx => ∃ at_ : Nat, at_ ≤ R.length ∧ s = .int .i64 at_ ∧ Hid (∀ t ∈ R.take at_, t.1 < c) ∧ Below wr.heap.size wr wx) (fun s _ => R.length - (intOf s).toNat)
          case atStart => exact ⟨0, Nat.zero_le _, rfl, Lib.hid (fun t h => by simp at h), Below.refl _ _⟩
          case round =>
            obtain ⟨at_, ha, rfl, HLO, hbx⟩ := hrel
            have n0 := scell_later hbx m0
            have n1 := scell_later hbx m1
            by_cases hal : at_ < R.length
            · obtain ⟨t, ht⟩ : ∃ t, R[at_]? = some t := ⟨_, List.getElem?_eq_getElem hal⟩
              obtain ⟨f0, f1⟩ := flat2_at R at_ t ht
              have l0 := scell_later hbx ((HCELLS.out (at_ * 2) (by omega)).trans f0)
              have hai : (at_ : Int) < (R.length : Int) := by omega
              have htk : R.take (at_ + 1) = R.take at_ ++ [t] := by rw [List.take_add_one, ht]; rfl
              have HTK := Lib.hid htk
              have HT := Lib.hid ht
              clear f0 f1 htk ht
              obtain ⟨a, b⟩ := t
              dsimp only at l0
              by_cases hac : a < c
              · go_wp2_with fail
                go_quiet (fail)
                go_wp2_with fail
                go_roundw
                case rel => exact ⟨at_ + 1, by omega, by go_num, Lib.hid (fun t h => by
                  rw [HTK.out] at h
                  rcases List.mem_append.1 h with h | h
                  · exact HLO.out t h
                  · rcases List.mem_singleton.1 h with rfl
                    exact hac), hbx.trans ⟨rfl, rfl, rfl, Nat.le_refl _, fun _ _ => rfl⟩⟩
                case measure => simp [intOf]; omega
              · have hac' : decide (a < c) = false := decide_eq_false hac
                go_wp2_with fail
                go_quiet (fail)
                go_wp2_with fail
                go_meet
                case rel => exact ⟨at_, ha, rfl, HLO, Lib.hid (fun t h => by
                  rw [HT.out] at h
                  obtain rfl := Option.some.inj h
                  exact hac), hbx.trans ⟨rfl, rfl, rfl, Nat.le_refl _, fun _ _ => rfl⟩⟩
            · obtain rfl : at_ = R.length := by omega
              have hdl : decide ((R.length : Int) < (R.length : Int)) = false := decide_eq_false (by omega)
              go_wp2_with fail
              go_quiet (fail)
              go_wp2_with fail
              go_meet
              case rel => exact ⟨R.length, Nat.le_refl _, rfl, HLO, Lib.hid (fun t h => by simp at h), hbx.trans ⟨rfl, rfl, rfl, Nat.le_refl _, fun _ _ => rfl⟩⟩
        case rest =>
          obtain ⟨at_, ha, rfl, HLO, HHI, hbx⟩ := hcut
          have HINS := Lib.hid (ins_at (c, d) R at_ ha HLO.out HHI.out)
          have hbw' := hbw.trans (hbx.mono hbw.size)
          have hsz' := hbx.size
          have r0 := scell_later hbx m0
          have r1 := scell_later hbx m1
          have HC : Hid (∀ j, j < R.length * 2 → wc.cell? ⟨g, j, none⟩ = (flat2 R)[j]?) := by
            refine Lib.hid (fun j hj => ?_)
            have hl : j < (flat2 R).length := by rw [flat2_len]; exact hj
            rw [List.getElem?_eq_getElem hl]
            exact scell_later hbx ((HCELLS.out j hj).trans (List.getElem?_eq_getElem hl))
          clear m0 m1 mf HS HOWN HCELLS HLO HHI hbx hbw
          generalize wc = wa at *
          have hac : (at_ : Int) ≤ (cap' : Int) := by omega
          have hai : (at_ : Int) ≤ (R.length : Int) := by omega
          have hac2 : at_ ≤ cap' := by omega
          go_wp2_with (first | (at_builtin; refine wpList_append_own _ rfl _ _ 38 rfl wa.heap.size 69 i0 (.agg #[.int .u64 0, .int .u64 0]) 2 16 Tryd.underlying38 HI0.out HZ0.out HZ1.out HZ2.out rfl (by decide) _ 0 [] rfl (World.ownsRow_nil _ _ _ _) ⟨g, 0, none⟩ at_ cap' (flat2 (R.take at_)) rfl ?a1 ?a2 ?a3 ?a4 ?a5 ?a6 ?_) | fail)
          case a1 => rw [flat2_len, List.length_take]; omega
          case a2 =>
            intro j u hu
            have hj : j < at_ * 2 := by
              have := (List.getElem?_eq_some_iff.1 hu).1
              rw [flat2_len, List.length_take] at this
              omega
            rw [flat2_take, List.getElem?_take_of_lt hj] at hu
            rw [show (⟨g, 0, none⟩ : Addr).add j = ⟨g, j, none⟩ from by simp [Addr.add]; omega]
            exact (HC.out j (by omega)).trans hu
          case a3 => exact flat2_one _
          case a4 => unfold maxLen; omega
          case a5 => omega
          case a6 => exact Nat.le_refl _
          intro v1 w5 hown1 hgr1 _
          have hb5 : Below wa.heap.size wa w5 := (Below.refl _ _).grown hgr1 (Nat.le_refl _) (fun g hg => by simp [Value.ownBlock] at hg)
          replace r0 := scell_later hb5 r0
          replace r1 := scell_later hb5 r1
          have hz5 := hb5.size
          have HOWN1 := Lib.hid hown1
          have hlt1 := Lib.hid (World.ownsRow.lt hown1)
          clear hgr1 hown1
          go_wp2_with (first | (at_builtin; refine wpList_append_own _ rfl _ _ 38 rfl wa.heap.size 69 i0 (.agg #[.int .u64 0, .int .u64 0]) 2 16 Tryd.underlying38 HI0.out HZ0.out HZ1.out HZ2.out rfl (by decide) _ _ _ rfl (World.ownsRow.alloc HOWN1.out _) ⟨w5.heap.size, 0, none⟩ 1 1 [.int .u64 c, .int .u64 d] rfl rfl ?f2 ?f3 ?f4 ?f5 ?f6 ?_) | fail)
          case f2 =>
            intro j u hu
            match j, hu with
            | 0, hu => simp at hu; subst hu; simp [Addr.add, go_sem]
            | 1, hu => simp at hu; subst hu; simp [Addr.add, go_sem]
          case f3 => intro u hu; simp at hu; rcases hu with rfl | rfl <;> rfl
          case f4 => unfold maxLen; omega
          case f5 => omega
          case f6 => simp; omega
          intro v2 w6 hown2 hgr2 _
          have hb6 : Below wa.heap.size wa w6 := (hb5.alloc hz5 _).grown hgr2 (by simp; omega) (fun g hg => (hlt1.out g hg).1)
          have hz6 := hb6.size
          have HOWN2 := Lib.hid hown2
          clear hgr2 hown2 r0 r1 HOWN1 hlt1 hb5 hz5
          by_cases hcap : cap' = at_
          · obtain rfl : at_ = R.length := by omega
            subst hcap
            have hown2 := HOWN2.out
            obtain ⟨hl2, hv2⟩ := hown2
            rcases hv2 with ⟨rfl, hn⟩ | ⟨g2, cap2, cur, rfl, hg22, hh2, hle2, hm2, hcs2, htk2⟩
            · omega
            · clear hl2 hh2 hm2 hcs2 htk2
              have hsp : SpansAt w6 _ (ins (c, d) R) := OwnS.spansAt (E := 69) (B := wa.heap.size) (owns_conv HOWN2.out (by rw [HINS.out]; simp) (by rw [HINS.out, flat2_append]; simp [flat2]))
              have HSP := Lib.hid hsp
              have hb8 := hbw'.trans (hb6.mono (by omega))
              clear hsp HOWN2 hb6
              go_wp2_with fail
              go_ret
              exact ⟨_, rfl, by rw [HFIN.out]; exact HSP.out, hb8⟩
          · have hcap2 : ¬ at_ = cap' := fun e => hcap e.symm
            go_wp2_with (first | (at_builtin; refine wpList_append_own _ rfl _ _ 38 rfl wa.heap.size 69 i0 (.agg #[.int .u64 0, .int .u64 0]) 2 16 Tryd.underlying38 HI0.out HZ0.out HZ1.out HZ2.out rfl (by decide) _ _ _ rfl HOWN2.out ⟨g, at_ * 2, none⟩ (R.length - at_) (cap' - at_) (flat2 (R.drop at_)) rfl ?d1 ?d2 ?d3 ?d4 ?d5 ?d6 ?_) | fail)
            case d1 => rw [flat2_len, List.length_drop]
            case d2 =>
              intro j u hu
              have hj : j < (R.length - at_) * 2 := by
                have := (List.getElem?_eq_some_iff.1 hu).1
                rw [flat2_len, List.length_drop] at this
                exact this
              rw [flat2_drop, List.getElem?_drop] at hu
              rw [show (⟨g, at_ * 2, none⟩ : Addr).add j = ⟨g, at_ * 2 + j, none⟩ from by first | (simp [Addr.add]; done) | (simp [Addr.add]; omega)]
              exact (hb6.cell (p := ⟨g, at_ * 2 + j, none⟩) (by show g < wa.heap.size; omega)).trans ((HC.out (at_ * 2 + j) (by omega)).trans hu)
            case d3 => exact flat2_one _
            case d4 => unfold maxLen; omega
            case d5 => omega
            case d6 => exact hz6
            intro v3 w7 hown3 hgr3 _
            have hb7 : Below wa.heap.size wa w7 := hb6.grown hgr3 hz6 (fun g hg => (World.ownsRow.lt HOWN2.out g hg).1)
            have hsp : SpansAt w7 _ (ins (c, d) R) := OwnS.spansAt (E := 69) (B := wa.heap.size) (owns_conv hown3 (by rw [HINS.out]; simp; omega) (by rw [HINS.out, flat2_append]; simp [flat2]))
            have HSP := Lib.hid hsp
            have hb8 := hbw'.trans (hb7.mono (by omega))
            clear hgr3 hown3 hsp hb7 HOWN2 hb6
            go_wp2_with fail
            go_ret
            exact ⟨_, rfl, by rw [HFIN.out]; exact HSP.out, hb8⟩
end Go.Proofs.YthlekifagidijaaDoor
