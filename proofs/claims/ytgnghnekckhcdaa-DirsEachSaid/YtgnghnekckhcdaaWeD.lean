/- The walk of DirsEach. -/
import Derived.Test.YtgnghnekckhcdaaEx
import Derived.Test.YtgnghnekckhcdaaAk8
import Derived.Test.YtgnghnekckhcdaaWtD
import Derived.Test.YtgnghnekckhcdaaRp
namespace Go.Proofs.Ytgnghnekckhcdaa
open Go.RowKit Go.Shelf
set_option linter.unusedVariables false
set_option linter.unusedSimpArgs false
attribute [local go_sem] Oper.semAt_some
theorem res_cell {fn : Func} (h : fn.results = #[.cell 4 4]) (tmps : Array Value) (W : World) (b : Nat) (x : Bool) (hp : tmps.getD 4 undef = .pointer (some ⟨b, 0, none⟩)) (hb : Boxed W b 4 (.bool x)) : (results fn tmps).run Try.prog W = .ok (.bool x) W := by
  have hc := hb.cell
  have hp' : tmps[4]?.getD undef = .pointer (some ⟨b, 0, none⟩) := by simpa using hp
  simp only [results, h]
  simp [go_sem, hp', hc]
set_option maxRecDepth 100000 in
set_option maxHeartbeats 10000000 in
theorem each_law (t : ByteArray) (most : Int) (w : World) (hm : t.size ≤ maxLen) (m0 : 0 ≤ most) (m1 : most ≤ 255) : Calls Try.prog 7 #[.string t, .int .u8 most] w fun x w' => x = .returned (.bool true) ∧ Below w.heap.size w w' := by
  have HA := Lib.hid awakeD_any
  refine (callsIn_wide (n := 10)).1 ?_
  refine callsIn_of_wp_marks Try.func7 rfl trivial ?_ rfl
  simp only [Try.ntmps7, List.size_toArray, List.length_cons, List.length_nil, Nat.reduceAdd, Nat.reduceSub, Array.replicate_succ, Array.replicate_zero, List.push_toArray, List.append_toArray, List.nil_append, List.cons_append]
  have bM0 := (Boxed.new w 5 (.int .u8 most)).alloc (.cells #[.bool false] 4)
  have bR0 := Boxed.new (w.alloc (.cells #[.int .u8 most] 5)) 4 (.bool false)
  have hB0 : Below w.heap.size w ((w.alloc (.cells #[.int .u8 most] 5)).alloc (.cells #[.bool false] 4)) := ((Below.refl _ w).alloc (Nat.le_refl _) _).alloc (by simp) _
  simp only [World.size_alloc] at bR0
  have hsz0 : ((w.alloc (.cells #[.int .u8 most] 5)).alloc (.cells #[.bool false] 4)).heap.size = w.heap.size + 2 := by simp
  by_cases g1 : 1500 < t.size
  · have d1 : decide (1500 < (t.size : Int)) = true := by simp; omega
    have HM0 := Lib.hid bM0
    have HR0 := Lib.hid bR0
    have HB0 := Lib.hid hB0
    clear g1 bM0 bR0 hB0
    gi_wp2
    refine ⟨trivial, (callsIn_wide.2 (HA.out _)).mono ?_⟩
    rintro y w1 ⟨rfl, hb⟩
    have bR1 := boxed_later HR0.out hb
    have hB1 := HB0.out.trans (hb.mono HB0.out.size)
    have cR := bR1.cell
    have fR := bR1.frozen
    have HR1 := Lib.hid bR1
    have HB1 := Lib.hid (hB1.setCell (p := ⟨w.heap.size + 1, 0, none⟩) (by simp) (.bool true))
    clear hb bR1 hB1
    gi_wp2
    exact ⟨_, res_cell rfl _ _ _ true rfl (HR1.out.set _), rfl, HB1.out⟩
  · have d1 : decide (1500 < (t.size : Int)) = false := by simp; omega
    have hp := fun W => pdecD_any t W hm
    have he := fun W => peachD_any t W hm
    have hl := decD_len t.data.toList
    have hbd := decD_bad t.data.toList
    obtain ⟨D, hD⟩ : ∃ D, decD t.data.toList = D := ⟨_, rfl⟩
    simp only [hD] at hp he hl hbd
    obtain ⟨l, a, e⟩ := D
    dsimp only at hl hbd
    have HL := Lib.hid hl
    have HP := Lib.hid hp
    have HE := Lib.hid he
    have HBD := Lib.hid hbd.1
    have HM0 := Lib.hid bM0
    have HR0 := Lib.hid bR0
    have HB0 := Lib.hid hB0
    have hts0 : t.size ≤ 1500 := by omega
    clear g1 bM0 bR0 hB0 hp he hD hl hbd
    gi_wp2
    obtain ⟨W0, hW0⟩ : ∃ W0, (w.alloc (.cells #[.int .u8 most] 5)).alloc (.cells #[.bool false] 4) = W0 := ⟨_, rfl⟩
    rw [hW0] at HM0 HR0 HB0 hsz0 ⊢
    clear hW0
    refine ⟨trivial, (callsIn_wide.2 (HP.out _)).mono ?_⟩
    rintro y w1 ⟨v1, rfl, ho, hb⟩
    have hA := (Below.refl w1.heap.size w1).alloc (Nat.le_refl _) (.cells #[v1] 27)
    have HM1 := Lib.hid (boxed_later (boxed_later HM0.out hb) hA)
    have HR1 := Lib.hid (boxed_later (boxed_later HR0.out hb) hA)
    have HB1 := Lib.hid ((HB0.out.trans (hb.mono HB0.out.size)).trans (hA.mono (Nat.le_trans HB0.out.size hb.size)))
    have HV1 := Lib.hid (ho.ensAt.below hA)
    have HL1 := Lib.hid (Boxed.new w1 27 v1)
    have hs1 : w.heap.size + 2 ≤ w1.heap.size := by have := hb.size; omega
    obtain ⟨al, cap, hv, -⟩ := ho.ensAt
    subst hv
    clear hb hA ho HM0 HR0 HB0 hsz0
    gi_wp2
    obtain ⟨WA, hWA⟩ : ∃ WA, w1.alloc (.cells #[.slice al l.length cap] 27) = WA := ⟨_, rfl⟩
    have hszA : WA.heap.size = w1.heap.size + 1 := by rw [← hWA]; simp
    rw [hWA] at HM1 HR1 HB1 HV1 HL1 ⊢
    clear hWA
    refine ⟨trivial, (callsIn_wide.2 (HE.out _)).mono ?_⟩
    rintro y w2 ⟨_, rfl, ⟨g, lb, rfl, heg, hseq⟩, hb⟩
    have HM2 := Lib.hid (boxed_later HM1.out hb)
    have HR2 := Lib.hid (boxed_later HR1.out hb)
    have HL2 := Lib.hid (boxed_later HL1.out hb)
    have HB2 := Lib.hid (HB1.out.trans (hb.mono HB1.out.size))
    have HV2 := Lib.hid (HV1.out.below hb)
    have HSQ := Lib.hid hseq
    have HEG := Lib.hid heg
    have hs2 := hb.size
    have hfn := fun W => fn_eql g lb W
    clear hb hseq heg HM1 HR1 HB1 HV1 HL1
    gi_wp2
    clear hfn
    have hsub : (65537 : Int) - (t.size : Int) = ((65537 - t.size : Nat) : Int) := by omega
    have hsubw : IntKind.i64.wrap ((65537 - t.size : Nat) : Int) = ((65537 - t.size : Nat) : Int) := by rw [IntKind.wrap_i64] <;> omega
    have Hw2 := Lib.hid (Below.refl w2.heap.size w2)
    refine wpIn_loop_rounds 3 ?_
    rw [roundsIn_succ]
    gi_wp2
    have hA1 := (Below.refl w2.heap.size w2).alloc (Nat.le_refl _) (.cells #[.int .i64 0] 3)
    have HW1 := Lib.hid (Hw2.out.trans (hA1.mono Hw2.out.size))
    have HD1 := Lib.hid (KD.below (D := none) (KD.none _) hA1)
    have HN1 := Lib.hid (Boxed.new w2 3 (.int .i64 0))
    obtain ⟨V1, hV1⟩ : ∃ V, w2.alloc (.cells #[.int .i64 0] 3) = V := ⟨_, rfl⟩
    have hszV1 : V1.heap.size = w2.heap.size + 1 := by rw [← hV1]; simp
    have hszr1 : w2.heap.size ≤ w2.heap.size := Hw2.out.size
    rw [hV1] at HW1 HN1 HD1 ⊢
    clear hV1 hA1
    refine range_each (n := 10) (p := 35) (q := 36) (r := 11) (s := 12) (by omega) rfl HEG.out w2.heap.size w2.heap.size l most (HSQ.out 9 V1 w2.heap.size (by omega) HW1.out (by omega) (.inr (by omega))) (Below.refl _ _)
      (fun nn W => Boxed W w2.heap.size 3 (.int .i64 (nn : Int)) ∧ (KD none W ∧ Below w2.heap.size w2 W))
      (OwnFrom.and (Own.from (boxed_own _ _ _) _) (OwnFrom.and (kd_own none (fun d e => by cases e)) (ownFrom_below (Nat.le_refl _) (by omega))))
      ⟨HN1.out, HD1.out, HW1.out⟩ (fun _ _ h => h) ?assign ?body ?hend
    case assign =>
      rintro lp nn x W K ⟨bN, hkd, hBW⟩ hK
      have hA := (Below.refl W.heap.size W).alloc (Nat.le_refl _) (.cells (eC x.1.2) 51)
      have HK := Lib.hid (hK W.heap.size _ bN.lt ((KeepsOthers.alloc _ _).from _) (KC.below hA) ⟨bN.alloc _, hkd.below hA, hBW.trans (hA.mono hBW.size)⟩ (EAt.made W x.1.2 51))
      clear hK hA hBW bN hkd
      simp only [tE, List.setIfInBounds_toArray, List.set_cons_zero, List.set_cons_succ] at HK ⊢
      unfold eC at HK ⊢
      gi_wp2
      exact HK.out
    case body =>
      rintro lp pre x Bx W hlp hi hBx bX
      have hlen5 : l.length ≤ 5000 := by have := HL.out; omega
      have HI := Lib.hid hi
      obtain ⟨⟨bN, hkd, hBW⟩, -, hlen⟩ := hi
      have HKDb := Lib.hid hkd
      clear hkd
      have HXR0 := fun (hn : ¬ (x.1.1 = pre.length ∧ pre.length < l.length ∧ x.1.2 = gE l pre.length)) (W' : World) => ix_ret (J := fun nn W => Boxed W w2.heap.size 3 (.int .i64 (nn : Int)) ∧ (KD none W ∧ Below w2.heap.size w2 W)) (most := most) (W' := W') hlen5 HI.out hn
      have HST0 := fun (h1 : x.1.1 = pre.length) (h2 : pre.length < l.length) (h3 : x.1.2 = gE l pre.length) (W' : World) hJ => ie_step (J := fun nn W => Boxed W w2.heap.size 3 (.int .i64 (nn : Int)) ∧ (KD none W ∧ Below w2.heap.size w2 W)) (W' := W') hlen5 HI.out h1 h2 h3 hJ
      have HEX0 := fun (hm : ((pre.length + 1 : Nat) : Int) = most) (W' : World) hJ => ix_exit (J := fun nn W => Boxed W w2.heap.size 3 (.int .i64 (nn : Int)) ∧ (KD none W ∧ Below w2.heap.size w2 W)) (l := l) (pre := pre) (x := x) (W' := W') hJ hm
      have HXR1 := Lib.hid HXR0
      have HST1 := Lib.hid HST0
      have HEX1 := Lib.hid HEX0
      clear HXR0 HST0 HEX0
      obtain ⟨c, hcE⟩ : ∃ c, pre.length = c := ⟨_, rfl⟩
      rw [hcE] at bN hlen HXR1 HST1 HEX1
      clear hcE
      have HBN := Lib.hid bN
      have HBW := Lib.hid hBW
      have bL : Boxed W w1.heap.size 27 (.slice al l.length cap) := (hBW.block _ (by omega)).trans HL2.out
      have bR : Boxed W (w.heap.size + 1) 4 (.bool false) := (hBW.block _ (by omega)).trans HR2.out
      have bM : Boxed W w.heap.size 5 (.int .u8 most) := (hBW.block _ (by omega)).trans HM2.out
      have hE := HV2.out.below hBW
      have hdr : Below W.heap.size W W.drew := Below.drew (Below.refl _ _)
      have cN := (boxed_later bN hdr).cell
      have cL := (boxed_later bL hdr).cell
      have cR := (boxed_later bR hdr).cell
      have fR := (boxed_later bR hdr).frozen
      have cM := (boxed_later bM hdr).cell
      have fN := (boxed_later bN hdr).frozen
      have hxi := x.2
      have hlm := HL.out
      have hwu : IntKind.u64.wrap (c : Int) = (c : Int) := by rw [IntKind.wrap_u64] <;> omega
      have hmx : Try.prog.follows .mixedOrders = true := by kernel_rfl
      simp only [tE, List.setIfInBounds_toArray, List.set_cons_zero, List.set_cons_succ]
      unfold eC
      by_cases h1 : c < l.length
      · have hd1 : decide ((l.length : Int) ≤ (c : Int)) = false := by simp; omega
        have hd1' : decide (l.length ≤ c) = false := by simp; omega
        by_cases h2 : x.1.1 = c
        · have hd2 : ((x.1.1 : Int) != (c : Int)) = false := by simp; omega
          obtain ⟨f, hf⟩ : ∃ t, l[c]? = some t := ⟨_, List.getElem?_eq_getElem h1⟩
          have hgf := gE_at hf
          obtain ⟨g', off', cap', hs, _, _, hcell⟩ := ens_at hE c h1
          obtain ⟨f0, f1, f2, f3⟩ := hcell c f hf
          simp only [Value.slice.injEq, true_and] at hs
          obtain ⟨rfl, rfl⟩ := hs
          obtain ⟨x0, x1, x2, x3⟩ := bX
          have hbd : (c : Int) < (l.length : Int) := by omega
          have hb0 : (0 : Int) ≤ (c : Int) := by omega
          have hq := fun W => eq_entP x.1.2 f _ W rfl
          have HS0 : (fun w' : World => ((w'.cell? ⟨Bx, 0, none⟩ = some (.int .u64 x.1.2.id) ∧ w'.cell? ⟨Bx, 1, none⟩ = some (.int .u64 x.1.2.off) ∧ w'.cell? ⟨Bx, 2, none⟩ = some (.int .u32 x.1.2.ln) ∧ w'.cell? ⟨Bx, 3, none⟩ = some (.int .u32 x.1.2.rn)) ∧ (w'.cell? ⟨g', off' + c * 4, none⟩ = some (.int .u64 f.id) ∧ w'.cell? ⟨g', off' + c * 4 + 1, none⟩ = some (.int .u64 f.off) ∧ w'.cell? ⟨g', off' + c * 4 + 2, none⟩ = some (.int .u32 f.ln) ∧ w'.cell? ⟨g', off' + c * 4 + 3, none⟩ = some (.int .u32 f.rn))) ∧ w'.cell? ⟨w2.heap.size, 0, none⟩ = some (.int .i64 (c : Int)) ∧ w'.cell? ⟨w1.heap.size, 0, none⟩ = some (.slice (some ⟨g', off', none⟩) l.length cap)) W.drew := ⟨⟨⟨ecell_later hdr x0, ecell_later hdr x1, ecell_later hdr x2, ecell_later hdr x3⟩, ⟨ecell_later hdr f0, ecell_later hdr f1, ecell_later hdr f2, ecell_later hdr f3⟩⟩, cN, cL⟩
          have HcM2 := Lib.hid ((Boxed.other (B' := w2.heap.size) bM (by omega) (.int .i64 ((c : Int) + 1))).cell)
          have HcS := Lib.hid ((bN.set (.int .i64 ((c : Int) + 1))).cell)
          clear hE bN bL bR bM hcell x0 x1 x2 x3 f0 f1 f2 f3 cN cL hBW
          by_cases h3 : x.1.2 = f
          · rw [decide_eq_true h3] at hq
            have hwm : IntKind.i64.wrap most = most := by rw [IntKind.wrap_i64] <;> omega
            have hwc : IntKind.i64.wrap ((c : Int) + 1) = ((c + 1 : Nat) : Int) := by rw [IntKind.wrap_i64] <;> omega
            have hJ : (fun nn W => Boxed W w2.heap.size 3 (.int .i64 (nn : Int)) ∧ (KD none W ∧ Below w2.heap.size w2 W)) (c + 1) (W.setCell ⟨w2.heap.size, 0, none⟩ (.int .i64 ((c : Int) + 1))).drew := by
              have hdr2 : Below (W.setCell ⟨w2.heap.size, 0, none⟩ (.int .i64 ((c : Int) + 1))).heap.size (W.setCell ⟨w2.heap.size, 0, none⟩ (.int .i64 ((c : Int) + 1))) (W.setCell ⟨w2.heap.size, 0, none⟩ (.int .i64 ((c : Int) + 1))).drew := Below.drew (Below.refl _ _)
              have h5 := HBW.out.setCell (p := ⟨w2.heap.size, 0, none⟩) hszr1 (.int .i64 ((c : Int) + 1))
              refine ⟨?_, (HKDb.out.setCell _ _ (fun e => by cases e)).below hdr2, h5.trans (hdr2.mono h5.size)⟩
              show Boxed _ _ _ (.int .i64 ((c + 1 : Nat) : Int))
              rw [show ((c + 1 : Nat) : Int) = (c : Int) + 1 from by omega]
              exact boxed_later (HBN.out.set _) hdr2
            have HJ := Lib.hid hJ
            have hgf3 := h3.trans hgf.symm
            have HSTa := Lib.hid (HST1.out h2 h1 hgf3 _ hJ)
            by_cases h4 : ((c + 1 : Nat) : Int) = most
            · have HEXa := Lib.hid (HEX1.out h4 _ hJ)
              have hde : ((c : Int) + 1 == most) = true := by simp; omega
              clear hJ h1 h2 h3 h4 hf hgf hgf3 hxi hdr HXR1 HST1 HEX1
              gi_wp2
              refine round_held (S := fun w' => ((w'.cell? ⟨Bx, 0, none⟩ = some (.int .u64 x.1.2.id) ∧ w'.cell? ⟨Bx, 1, none⟩ = some (.int .u64 x.1.2.off) ∧ w'.cell? ⟨Bx, 2, none⟩ = some (.int .u32 x.1.2.ln) ∧ w'.cell? ⟨Bx, 3, none⟩ = some (.int .u32 x.1.2.rn)) ∧ (w'.cell? ⟨g', off' + c * 4, none⟩ = some (.int .u64 f.id) ∧ w'.cell? ⟨g', off' + c * 4 + 1, none⟩ = some (.int .u64 f.off) ∧ w'.cell? ⟨g', off' + c * 4 + 2, none⟩ = some (.int .u32 f.ln) ∧ w'.cell? ⟨g', off' + c * 4 + 3, none⟩ = some (.int .u32 f.rn))) ∧ w'.cell? ⟨w2.heap.size, 0, none⟩ = some (.int .i64 (c : Int)) ∧ w'.cell? ⟨w1.heap.size, 0, none⟩ = some (.slice (some ⟨g', off', none⟩) l.length cap)) hmx (by kernel_rfl) (by rintro ⟨_, _, h⟩; exact h) HS0 (fun hH0 => ?_)
              refine takeH (i := 0) (d := 37) (v := ?_) rfl rfl (by kernel_rfl) (by kernel_rfl) (by kernel_rfl) (fun _ _ _ h => h) (Or.inl ⟨by rfl, ?y0⟩) hH0 ?_
              case y0 => intro w hSw; go_simp; try with_reducible rfl
              try simp only [Act.put, List.setIfInBounds_toArray, List.set_cons_zero, List.set_cons_succ]
              refine takeH (i := 1) (d := 38) (v := ?_) rfl rfl (by kernel_rfl) (by kernel_rfl) (by kernel_rfl) (fun _ _ _ h => h) (Or.inl ⟨by rfl, ?y1⟩) hH0 ?_
              case y1 => intro w hSw; go_simp; try with_reducible rfl
              try simp only [Act.put, List.setIfInBounds_toArray, List.set_cons_zero, List.set_cons_succ]
              refine takeH (i := 2) (d := 39) (v := ?_) rfl rfl (by kernel_rfl) (by kernel_rfl) (by kernel_rfl) (fun _ _ _ h => h) (Or.inl ⟨by rfl, ?y2⟩) hH0 ?_
              case y2 => intro w hSw; go_simp; try with_reducible rfl
              try simp only [Act.put, List.setIfInBounds_toArray, List.set_cons_zero, List.set_cons_succ]
              refine takeH (i := 3) (d := 40) (v := ?_) rfl rfl (by kernel_rfl) (by kernel_rfl) (by kernel_rfl) (fun _ _ _ h => h) (Or.inl ⟨by rfl, ?y3⟩) hH0 ?_
              case y3 => intro w hSw; go_simp; try with_reducible rfl
              try simp only [Act.put, List.setIfInBounds_toArray, List.set_cons_zero, List.set_cons_succ]
              refine takeH (i := 4) (d := 41) (v := ?_) rfl rfl (by kernel_rfl) (by kernel_rfl) (by kernel_rfl) (fun _ _ _ h => h) (Or.inl ⟨by rfl, ?y4⟩) hH0 ?_
              case y4 => intro w hSw; go_simp; try with_reducible rfl
              try simp only [Act.put, List.setIfInBounds_toArray, List.set_cons_zero, List.set_cons_succ]
              refine takeH (i := 5) (d := 42) (v := ?_) rfl rfl (by kernel_rfl) (by kernel_rfl) (by kernel_rfl) (fun _ _ _ h => h) (Or.inl ⟨by rfl, ?y5⟩) hH0 ?_
              case y5 => intro w hSw; go_simp; try with_reducible rfl
              try simp only [Act.put, List.setIfInBounds_toArray, List.set_cons_zero, List.set_cons_succ]
              refine takeH (i := 6) (d := 43) (v := ?_) rfl rfl (by kernel_rfl) (by kernel_rfl) (by kernel_rfl) (fun _ _ _ h => h) (Or.inl ⟨by rfl, ?y6⟩) hH0 ?_
              case y6 => intro w hSw; go_simp; try with_reducible rfl
              try simp only [Act.put, List.setIfInBounds_toArray, List.set_cons_zero, List.set_cons_succ]
              refine takeH (i := 7) (d := 44) (v := ?_) rfl rfl (by kernel_rfl) (by kernel_rfl) (by kernel_rfl) (fun _ _ _ h => h) (Or.inl ⟨by rfl, ?y7⟩) hH0 ?_
              case y7 => intro w hSw; go_simp; try with_reducible rfl
              try simp only [Act.put, List.setIfInBounds_toArray, List.set_cons_zero, List.set_cons_succ]
              refine takeH (i := 8) (d := 45) (v := ?_) rfl rfl (by kernel_rfl) (by kernel_rfl) (by kernel_rfl) (fun _ _ _ h => h) (Or.inl ⟨by rfl, ?y8⟩) hH0 ?_
              case y8 => intro w hSw; go_simp; try with_reducible rfl
              try simp only [Act.put, List.setIfInBounds_toArray, List.set_cons_zero, List.set_cons_succ]
              refine takeH (i := 9) (d := 46) (v := ?_) rfl rfl (by kernel_rfl) (by kernel_rfl) (by kernel_rfl) (fun _ _ _ h => h) (Or.inl ⟨by rfl, ?y9⟩) hH0 ?_
              case y9 => intro w hSw; go_simp; try with_reducible rfl
              try simp only [Act.put, List.setIfInBounds_toArray, List.set_cons_zero, List.set_cons_succ]
              refine takeH (i := 10) (d := 47) (v := ?_) rfl rfl (by kernel_rfl) (by kernel_rfl) (by kernel_rfl) (fun _ _ _ h => h) (Or.inl ⟨by rfl, ?y10⟩) hH0 ?_
              case y10 => intro w hSw; go_simp; try with_reducible rfl
              try simp only [Act.put, List.setIfInBounds_toArray, List.set_cons_zero, List.set_cons_succ]
              refine takeH (i := 11) (d := 48) (v := ?_) rfl rfl (by kernel_rfl) (by kernel_rfl) (by kernel_rfl) (fun _ _ _ h => h) (Or.inl ⟨by rfl, ?y11⟩) hH0 ?_
              case y11 => intro w hSw; go_simp; try with_reducible rfl
              try simp only [Act.put, List.setIfInBounds_toArray, List.set_cons_zero, List.set_cons_succ]
              refine takeH (i := 12) (d := 49) (v := ?_) rfl rfl (by kernel_rfl) (by kernel_rfl) (by kernel_rfl) (fun _ _ _ h => h) (Or.inl ⟨by rfl, ?y12⟩) hH0 ?_
              case y12 => intro w hSw; go_simp; try with_reducible rfl
              try simp only [Act.put, List.setIfInBounds_toArray, List.set_cons_zero, List.set_cons_succ]
              refine takeH (i := 13) (d := 50) (v := ?_) rfl rfl (by kernel_rfl) (by kernel_rfl) (by kernel_rfl) (fun _ _ _ h => h) (Or.inl ⟨by rfl, ?y13⟩) hH0 ?_
              case y13 => intro w hSw; go_simp; try with_reducible rfl
              try simp only [Act.put, List.setIfInBounds_toArray, List.set_cons_zero, List.set_cons_succ]
              refine takeH (i := 14) (d := 51) (v := ?_) rfl rfl (by kernel_rfl) (by kernel_rfl) (by kernel_rfl) (fun _ _ _ h => h) (Or.inl ⟨by rfl, ?y14⟩) hH0 ?_
              case y14 => intro w hSw; go_simp; try with_reducible rfl
              try simp only [Act.put, List.setIfInBounds_toArray, List.set_cons_zero, List.set_cons_succ]
              refine takeH (i := 15) (d := 52) (v := ?_) rfl rfl (by kernel_rfl) (by kernel_rfl) (by kernel_rfl) (fun _ _ _ h => h) (Or.inl ⟨by rfl, ?y15⟩) hH0 ?_
              case y15 => intro w hSw; go_simp; try with_reducible rfl
              try simp only [Act.put, List.setIfInBounds_toArray, List.set_cons_zero, List.set_cons_succ]
              refine takeH (i := 16) (d := 53) (v := ?_) rfl rfl (by kernel_rfl) (by kernel_rfl) (by kernel_rfl) (fun _ _ _ h => h) (Or.inl ⟨by rfl, ?y16⟩) hH0 ?_
              case y16 => intro w hSw; go_simp; try with_reducible rfl
              try simp only [Act.put, List.setIfInBounds_toArray, List.set_cons_zero, List.set_cons_succ]
              refine takeH (i := 17) (d := 54) (v := ?_) rfl rfl (by kernel_rfl) (by kernel_rfl) (by kernel_rfl) (fun _ _ _ h => h) (Or.inl ⟨by rfl, ?y17⟩) hH0 ?_
              case y17 => intro w hSw; go_simp; try with_reducible rfl
              try simp only [Act.put, List.setIfInBounds_toArray, List.set_cons_zero, List.set_cons_succ]
              refine wpAnyH_done (by kernel_rfl) ?_ _
              obtain ⟨-, cN, -⟩ := hH0
              have cS := HcS.out
              have cM2 := HcM2.out
              gi_wp2
              exact ⟨((KeepsOthers.setCell W ⟨w2.heap.size, 0, none⟩ _).from _).trans (keeps_below (Below.drew (Below.refl _ _))), HEXa.out⟩
            · have hde : ((c : Int) + 1 == most) = false := by simp; omega
              clear hJ h1 h2 h3 h4 hf hgf hgf3 hxi hdr HXR1 HST1 HEX1
              gi_wp2
              refine round_held (S := fun w' => ((w'.cell? ⟨Bx, 0, none⟩ = some (.int .u64 x.1.2.id) ∧ w'.cell? ⟨Bx, 1, none⟩ = some (.int .u64 x.1.2.off) ∧ w'.cell? ⟨Bx, 2, none⟩ = some (.int .u32 x.1.2.ln) ∧ w'.cell? ⟨Bx, 3, none⟩ = some (.int .u32 x.1.2.rn)) ∧ (w'.cell? ⟨g', off' + c * 4, none⟩ = some (.int .u64 f.id) ∧ w'.cell? ⟨g', off' + c * 4 + 1, none⟩ = some (.int .u64 f.off) ∧ w'.cell? ⟨g', off' + c * 4 + 2, none⟩ = some (.int .u32 f.ln) ∧ w'.cell? ⟨g', off' + c * 4 + 3, none⟩ = some (.int .u32 f.rn))) ∧ w'.cell? ⟨w2.heap.size, 0, none⟩ = some (.int .i64 (c : Int)) ∧ w'.cell? ⟨w1.heap.size, 0, none⟩ = some (.slice (some ⟨g', off', none⟩) l.length cap)) hmx (by kernel_rfl) (by rintro ⟨_, _, h⟩; exact h) HS0 (fun hH0 => ?_)
              refine takeH (i := 0) (d := 37) (v := ?_) rfl rfl (by kernel_rfl) (by kernel_rfl) (by kernel_rfl) (fun _ _ _ h => h) (Or.inl ⟨by rfl, ?y0⟩) hH0 ?_
              case y0 => intro w hSw; go_simp; try with_reducible rfl
              try simp only [Act.put, List.setIfInBounds_toArray, List.set_cons_zero, List.set_cons_succ]
              refine takeH (i := 1) (d := 38) (v := ?_) rfl rfl (by kernel_rfl) (by kernel_rfl) (by kernel_rfl) (fun _ _ _ h => h) (Or.inl ⟨by rfl, ?y1⟩) hH0 ?_
              case y1 => intro w hSw; go_simp; try with_reducible rfl
              try simp only [Act.put, List.setIfInBounds_toArray, List.set_cons_zero, List.set_cons_succ]
              refine takeH (i := 2) (d := 39) (v := ?_) rfl rfl (by kernel_rfl) (by kernel_rfl) (by kernel_rfl) (fun _ _ _ h => h) (Or.inl ⟨by rfl, ?y2⟩) hH0 ?_
              case y2 => intro w hSw; go_simp; try with_reducible rfl
              try simp only [Act.put, List.setIfInBounds_toArray, List.set_cons_zero, List.set_cons_succ]
              refine takeH (i := 3) (d := 40) (v := ?_) rfl rfl (by kernel_rfl) (by kernel_rfl) (by kernel_rfl) (fun _ _ _ h => h) (Or.inl ⟨by rfl, ?y3⟩) hH0 ?_
              case y3 => intro w hSw; go_simp; try with_reducible rfl
              try simp only [Act.put, List.setIfInBounds_toArray, List.set_cons_zero, List.set_cons_succ]
              refine takeH (i := 4) (d := 41) (v := ?_) rfl rfl (by kernel_rfl) (by kernel_rfl) (by kernel_rfl) (fun _ _ _ h => h) (Or.inl ⟨by rfl, ?y4⟩) hH0 ?_
              case y4 => intro w hSw; go_simp; try with_reducible rfl
              try simp only [Act.put, List.setIfInBounds_toArray, List.set_cons_zero, List.set_cons_succ]
              refine takeH (i := 5) (d := 42) (v := ?_) rfl rfl (by kernel_rfl) (by kernel_rfl) (by kernel_rfl) (fun _ _ _ h => h) (Or.inl ⟨by rfl, ?y5⟩) hH0 ?_
              case y5 => intro w hSw; go_simp; try with_reducible rfl
              try simp only [Act.put, List.setIfInBounds_toArray, List.set_cons_zero, List.set_cons_succ]
              refine takeH (i := 6) (d := 43) (v := ?_) rfl rfl (by kernel_rfl) (by kernel_rfl) (by kernel_rfl) (fun _ _ _ h => h) (Or.inl ⟨by rfl, ?y6⟩) hH0 ?_
              case y6 => intro w hSw; go_simp; try with_reducible rfl
              try simp only [Act.put, List.setIfInBounds_toArray, List.set_cons_zero, List.set_cons_succ]
              refine takeH (i := 7) (d := 44) (v := ?_) rfl rfl (by kernel_rfl) (by kernel_rfl) (by kernel_rfl) (fun _ _ _ h => h) (Or.inl ⟨by rfl, ?y7⟩) hH0 ?_
              case y7 => intro w hSw; go_simp; try with_reducible rfl
              try simp only [Act.put, List.setIfInBounds_toArray, List.set_cons_zero, List.set_cons_succ]
              refine takeH (i := 8) (d := 45) (v := ?_) rfl rfl (by kernel_rfl) (by kernel_rfl) (by kernel_rfl) (fun _ _ _ h => h) (Or.inl ⟨by rfl, ?y8⟩) hH0 ?_
              case y8 => intro w hSw; go_simp; try with_reducible rfl
              try simp only [Act.put, List.setIfInBounds_toArray, List.set_cons_zero, List.set_cons_succ]
              refine takeH (i := 9) (d := 46) (v := ?_) rfl rfl (by kernel_rfl) (by kernel_rfl) (by kernel_rfl) (fun _ _ _ h => h) (Or.inl ⟨by rfl, ?y9⟩) hH0 ?_
              case y9 => intro w hSw; go_simp; try with_reducible rfl
              try simp only [Act.put, List.setIfInBounds_toArray, List.set_cons_zero, List.set_cons_succ]
              refine takeH (i := 10) (d := 47) (v := ?_) rfl rfl (by kernel_rfl) (by kernel_rfl) (by kernel_rfl) (fun _ _ _ h => h) (Or.inl ⟨by rfl, ?y10⟩) hH0 ?_
              case y10 => intro w hSw; go_simp; try with_reducible rfl
              try simp only [Act.put, List.setIfInBounds_toArray, List.set_cons_zero, List.set_cons_succ]
              refine takeH (i := 11) (d := 48) (v := ?_) rfl rfl (by kernel_rfl) (by kernel_rfl) (by kernel_rfl) (fun _ _ _ h => h) (Or.inl ⟨by rfl, ?y11⟩) hH0 ?_
              case y11 => intro w hSw; go_simp; try with_reducible rfl
              try simp only [Act.put, List.setIfInBounds_toArray, List.set_cons_zero, List.set_cons_succ]
              refine takeH (i := 12) (d := 49) (v := ?_) rfl rfl (by kernel_rfl) (by kernel_rfl) (by kernel_rfl) (fun _ _ _ h => h) (Or.inl ⟨by rfl, ?y12⟩) hH0 ?_
              case y12 => intro w hSw; go_simp; try with_reducible rfl
              try simp only [Act.put, List.setIfInBounds_toArray, List.set_cons_zero, List.set_cons_succ]
              refine takeH (i := 13) (d := 50) (v := ?_) rfl rfl (by kernel_rfl) (by kernel_rfl) (by kernel_rfl) (fun _ _ _ h => h) (Or.inl ⟨by rfl, ?y13⟩) hH0 ?_
              case y13 => intro w hSw; go_simp; try with_reducible rfl
              try simp only [Act.put, List.setIfInBounds_toArray, List.set_cons_zero, List.set_cons_succ]
              refine takeH (i := 14) (d := 51) (v := ?_) rfl rfl (by kernel_rfl) (by kernel_rfl) (by kernel_rfl) (fun _ _ _ h => h) (Or.inl ⟨by rfl, ?y14⟩) hH0 ?_
              case y14 => intro w hSw; go_simp; try with_reducible rfl
              try simp only [Act.put, List.setIfInBounds_toArray, List.set_cons_zero, List.set_cons_succ]
              refine takeH (i := 15) (d := 52) (v := ?_) rfl rfl (by kernel_rfl) (by kernel_rfl) (by kernel_rfl) (fun _ _ _ h => h) (Or.inl ⟨by rfl, ?y15⟩) hH0 ?_
              case y15 => intro w hSw; go_simp; try with_reducible rfl
              try simp only [Act.put, List.setIfInBounds_toArray, List.set_cons_zero, List.set_cons_succ]
              refine takeH (i := 16) (d := 53) (v := ?_) rfl rfl (by kernel_rfl) (by kernel_rfl) (by kernel_rfl) (fun _ _ _ h => h) (Or.inl ⟨by rfl, ?y16⟩) hH0 ?_
              case y16 => intro w hSw; go_simp; try with_reducible rfl
              try simp only [Act.put, List.setIfInBounds_toArray, List.set_cons_zero, List.set_cons_succ]
              refine takeH (i := 17) (d := 54) (v := ?_) rfl rfl (by kernel_rfl) (by kernel_rfl) (by kernel_rfl) (fun _ _ _ h => h) (Or.inl ⟨by rfl, ?y17⟩) hH0 ?_
              case y17 => intro w hSw; go_simp; try with_reducible rfl
              try simp only [Act.put, List.setIfInBounds_toArray, List.set_cons_zero, List.set_cons_succ]
              refine wpAnyH_done (by kernel_rfl) ?_ _
              obtain ⟨-, cN, -⟩ := hH0
              have cS := HcS.out
              have cM2 := HcM2.out
              gi_wp2
              exact ⟨((KeepsOthers.setCell W ⟨w2.heap.size, 0, none⟩ _).from _).trans (keeps_below (Below.drew (Below.refl _ _))), (KC.setCell w2.heap.size W _).trans (KC.below (Below.drew (Below.refl _ _))), HSTa.out⟩
          · rw [decide_eq_false h3] at hq
            have HXR := Lib.hid (HXR1.out (fun h => h3 (h.2.2.trans hgf)))
            clear h1 h2 h3 hf hgf hxi hdr HXR1 HST1 HEX1
            gi_wp2
            refine round_held (S := fun w' => ((w'.cell? ⟨Bx, 0, none⟩ = some (.int .u64 x.1.2.id) ∧ w'.cell? ⟨Bx, 1, none⟩ = some (.int .u64 x.1.2.off) ∧ w'.cell? ⟨Bx, 2, none⟩ = some (.int .u32 x.1.2.ln) ∧ w'.cell? ⟨Bx, 3, none⟩ = some (.int .u32 x.1.2.rn)) ∧ (w'.cell? ⟨g', off' + c * 4, none⟩ = some (.int .u64 f.id) ∧ w'.cell? ⟨g', off' + c * 4 + 1, none⟩ = some (.int .u64 f.off) ∧ w'.cell? ⟨g', off' + c * 4 + 2, none⟩ = some (.int .u32 f.ln) ∧ w'.cell? ⟨g', off' + c * 4 + 3, none⟩ = some (.int .u32 f.rn))) ∧ w'.cell? ⟨w2.heap.size, 0, none⟩ = some (.int .i64 (c : Int)) ∧ w'.cell? ⟨w1.heap.size, 0, none⟩ = some (.slice (some ⟨g', off', none⟩) l.length cap)) hmx (by kernel_rfl) (by rintro ⟨_, _, h⟩; exact h) HS0 (fun hH0 => ?_)
            refine takeH (i := 0) (d := 37) (v := ?_) rfl rfl (by kernel_rfl) (by kernel_rfl) (by kernel_rfl) (fun _ _ _ h => h) (Or.inl ⟨by rfl, ?y0⟩) hH0 ?_
            case y0 => intro w hSw; go_simp; try with_reducible rfl
            try simp only [Act.put, List.setIfInBounds_toArray, List.set_cons_zero, List.set_cons_succ]
            refine takeH (i := 1) (d := 38) (v := ?_) rfl rfl (by kernel_rfl) (by kernel_rfl) (by kernel_rfl) (fun _ _ _ h => h) (Or.inl ⟨by rfl, ?y1⟩) hH0 ?_
            case y1 => intro w hSw; go_simp; try with_reducible rfl
            try simp only [Act.put, List.setIfInBounds_toArray, List.set_cons_zero, List.set_cons_succ]
            refine takeH (i := 2) (d := 39) (v := ?_) rfl rfl (by kernel_rfl) (by kernel_rfl) (by kernel_rfl) (fun _ _ _ h => h) (Or.inl ⟨by rfl, ?y2⟩) hH0 ?_
            case y2 => intro w hSw; go_simp; try with_reducible rfl
            try simp only [Act.put, List.setIfInBounds_toArray, List.set_cons_zero, List.set_cons_succ]
            refine takeH (i := 3) (d := 40) (v := ?_) rfl rfl (by kernel_rfl) (by kernel_rfl) (by kernel_rfl) (fun _ _ _ h => h) (Or.inl ⟨by rfl, ?y3⟩) hH0 ?_
            case y3 => intro w hSw; go_simp; try with_reducible rfl
            try simp only [Act.put, List.setIfInBounds_toArray, List.set_cons_zero, List.set_cons_succ]
            refine takeH (i := 4) (d := 41) (v := ?_) rfl rfl (by kernel_rfl) (by kernel_rfl) (by kernel_rfl) (fun _ _ _ h => h) (Or.inl ⟨by rfl, ?y4⟩) hH0 ?_
            case y4 => intro w hSw; go_simp; try with_reducible rfl
            try simp only [Act.put, List.setIfInBounds_toArray, List.set_cons_zero, List.set_cons_succ]
            refine takeH (i := 5) (d := 42) (v := ?_) rfl rfl (by kernel_rfl) (by kernel_rfl) (by kernel_rfl) (fun _ _ _ h => h) (Or.inl ⟨by rfl, ?y5⟩) hH0 ?_
            case y5 => intro w hSw; go_simp; try with_reducible rfl
            try simp only [Act.put, List.setIfInBounds_toArray, List.set_cons_zero, List.set_cons_succ]
            refine takeH (i := 6) (d := 43) (v := ?_) rfl rfl (by kernel_rfl) (by kernel_rfl) (by kernel_rfl) (fun _ _ _ h => h) (Or.inl ⟨by rfl, ?y6⟩) hH0 ?_
            case y6 => intro w hSw; go_simp; try with_reducible rfl
            try simp only [Act.put, List.setIfInBounds_toArray, List.set_cons_zero, List.set_cons_succ]
            refine takeH (i := 7) (d := 44) (v := ?_) rfl rfl (by kernel_rfl) (by kernel_rfl) (by kernel_rfl) (fun _ _ _ h => h) (Or.inl ⟨by rfl, ?y7⟩) hH0 ?_
            case y7 => intro w hSw; go_simp; try with_reducible rfl
            try simp only [Act.put, List.setIfInBounds_toArray, List.set_cons_zero, List.set_cons_succ]
            refine takeH (i := 8) (d := 45) (v := ?_) rfl rfl (by kernel_rfl) (by kernel_rfl) (by kernel_rfl) (fun _ _ _ h => h) (Or.inl ⟨by rfl, ?y8⟩) hH0 ?_
            case y8 => intro w hSw; go_simp; try with_reducible rfl
            try simp only [Act.put, List.setIfInBounds_toArray, List.set_cons_zero, List.set_cons_succ]
            refine takeH (i := 9) (d := 46) (v := ?_) rfl rfl (by kernel_rfl) (by kernel_rfl) (by kernel_rfl) (fun _ _ _ h => h) (Or.inl ⟨by rfl, ?y9⟩) hH0 ?_
            case y9 => intro w hSw; go_simp; try with_reducible rfl
            try simp only [Act.put, List.setIfInBounds_toArray, List.set_cons_zero, List.set_cons_succ]
            refine takeH (i := 10) (d := 47) (v := ?_) rfl rfl (by kernel_rfl) (by kernel_rfl) (by kernel_rfl) (fun _ _ _ h => h) (Or.inl ⟨by rfl, ?y10⟩) hH0 ?_
            case y10 => intro w hSw; go_simp; try with_reducible rfl
            try simp only [Act.put, List.setIfInBounds_toArray, List.set_cons_zero, List.set_cons_succ]
            refine takeH (i := 11) (d := 48) (v := ?_) rfl rfl (by kernel_rfl) (by kernel_rfl) (by kernel_rfl) (fun _ _ _ h => h) (Or.inl ⟨by rfl, ?y11⟩) hH0 ?_
            case y11 => intro w hSw; go_simp; try with_reducible rfl
            try simp only [Act.put, List.setIfInBounds_toArray, List.set_cons_zero, List.set_cons_succ]
            refine takeH (i := 12) (d := 49) (v := ?_) rfl rfl (by kernel_rfl) (by kernel_rfl) (by kernel_rfl) (fun _ _ _ h => h) (Or.inl ⟨by rfl, ?y12⟩) hH0 ?_
            case y12 => intro w hSw; go_simp; try with_reducible rfl
            try simp only [Act.put, List.setIfInBounds_toArray, List.set_cons_zero, List.set_cons_succ]
            refine takeH (i := 13) (d := 50) (v := ?_) rfl rfl (by kernel_rfl) (by kernel_rfl) (by kernel_rfl) (fun _ _ _ h => h) (Or.inl ⟨by rfl, ?y13⟩) hH0 ?_
            case y13 => intro w hSw; go_simp; try with_reducible rfl
            try simp only [Act.put, List.setIfInBounds_toArray, List.set_cons_zero, List.set_cons_succ]
            refine takeH (i := 14) (d := 51) (v := ?_) rfl rfl (by kernel_rfl) (by kernel_rfl) (by kernel_rfl) (fun _ _ _ h => h) (Or.inl ⟨by rfl, ?y14⟩) hH0 ?_
            case y14 => intro w hSw; go_simp; try with_reducible rfl
            try simp only [Act.put, List.setIfInBounds_toArray, List.set_cons_zero, List.set_cons_succ]
            refine takeH (i := 15) (d := 52) (v := ?_) rfl rfl (by kernel_rfl) (by kernel_rfl) (by kernel_rfl) (fun _ _ _ h => h) (Or.inl ⟨by rfl, ?y15⟩) hH0 ?_
            case y15 => intro w hSw; go_simp; try with_reducible rfl
            try simp only [Act.put, List.setIfInBounds_toArray, List.set_cons_zero, List.set_cons_succ]
            refine takeH (i := 16) (d := 53) (v := ?_) rfl rfl (by kernel_rfl) (by kernel_rfl) (by kernel_rfl) (fun _ _ _ h => h) (Or.inl ⟨by rfl, ?y16⟩) hH0 ?_
            case y16 => intro w hSw; go_simp; try with_reducible rfl
            try simp only [Act.put, List.setIfInBounds_toArray, List.set_cons_zero, List.set_cons_succ]
            refine takeH (i := 17) (d := 54) (v := ?_) rfl rfl (by kernel_rfl) (by kernel_rfl) (by kernel_rfl) (fun _ _ _ h => h) (Or.inl ⟨by rfl, ?y17⟩) hH0 ?_
            case y17 => intro w hSw; go_simp; try with_reducible rfl
            try simp only [Act.put, List.setIfInBounds_toArray, List.set_cons_zero, List.set_cons_succ]
            refine wpAnyH_done (by kernel_rfl) ?_ _
            clear hH0
            gi_wp2
            exact ⟨((KeepsOthers.setCell W ⟨w.heap.size + 1, 0, none⟩ _).from _).trans (keeps_below (Below.drew (Below.refl _ _))), HXR.out _⟩
        · have hd2 : ((x.1.1 : Int) != (c : Int)) = true := by simp; omega
          have HXR := Lib.hid (HXR1.out (fun h => h2 h.1))
          have HS0 : (fun w' : World => w'.cell? ⟨w2.heap.size, 0, none⟩ = some (.int .i64 (c : Int)) ∧ w'.cell? ⟨w1.heap.size, 0, none⟩ = some (.slice al l.length cap)) W.drew := ⟨cN, cL⟩
          clear h1 h2 hxi hdr HXR1 HST1 HEX1 hE bN bL bR bM bX cN cL hBW
          gi_wp2
          refine round_held (S := fun w' => w'.cell? ⟨w2.heap.size, 0, none⟩ = some (.int .i64 (c : Int)) ∧ w'.cell? ⟨w1.heap.size, 0, none⟩ = some (.slice al l.length cap)) hmx (by kernel_rfl) (by rintro ⟨_, _, h⟩; exact h) HS0 (fun hH0 => ?_)
          refine takeH (i := 0) (d := 37) (v := ?_) rfl rfl (by kernel_rfl) (by kernel_rfl) (by kernel_rfl) (fun _ _ _ h => h) (Or.inl ⟨by rfl, ?y0⟩) hH0 ?_
          case y0 => intro w hSw; go_simp; try with_reducible rfl
          try simp only [Act.put, List.setIfInBounds_toArray, List.set_cons_zero, List.set_cons_succ]
          refine takeH (i := 1) (d := 38) (v := ?_) rfl rfl (by kernel_rfl) (by kernel_rfl) (by kernel_rfl) (fun _ _ _ h => h) (Or.inl ⟨by rfl, ?y1⟩) hH0 ?_
          case y1 => intro w hSw; go_simp; try with_reducible rfl
          try simp only [Act.put, List.setIfInBounds_toArray, List.set_cons_zero, List.set_cons_succ]
          refine takeH (i := 2) (d := 39) (v := ?_) rfl rfl (by kernel_rfl) (by kernel_rfl) (by kernel_rfl) (fun _ _ _ h => h) (Or.inl ⟨by rfl, ?y2⟩) hH0 ?_
          case y2 => intro w hSw; go_simp; try with_reducible rfl
          try simp only [Act.put, List.setIfInBounds_toArray, List.set_cons_zero, List.set_cons_succ]
          refine takeH (i := 3) (d := 40) (v := ?_) rfl rfl (by kernel_rfl) (by kernel_rfl) (by kernel_rfl) (fun _ _ _ h => h) (Or.inl ⟨by rfl, ?y3⟩) hH0 ?_
          case y3 => intro w hSw; go_simp; try with_reducible rfl
          try simp only [Act.put, List.setIfInBounds_toArray, List.set_cons_zero, List.set_cons_succ]
          refine takeH (i := 4) (d := 41) (v := ?_) rfl rfl (by kernel_rfl) (by kernel_rfl) (by kernel_rfl) (fun _ _ _ h => h) (Or.inl ⟨by rfl, ?y4⟩) hH0 ?_
          case y4 => intro w hSw; go_simp; try with_reducible rfl
          try simp only [Act.put, List.setIfInBounds_toArray, List.set_cons_zero, List.set_cons_succ]
          refine takeH (i := 5) (d := 42) (v := ?_) rfl rfl (by kernel_rfl) (by kernel_rfl) (by kernel_rfl) (fun _ _ _ h => h) (Or.inl ⟨by rfl, ?y5⟩) hH0 ?_
          case y5 => intro w hSw; go_simp; try with_reducible rfl
          try simp only [Act.put, List.setIfInBounds_toArray, List.set_cons_zero, List.set_cons_succ]
          refine takeH (i := 6) (d := 43) (v := ?_) rfl rfl (by kernel_rfl) (by kernel_rfl) (by kernel_rfl) (fun _ _ _ h => h) (Or.inl ⟨by rfl, ?y6⟩) hH0 ?_
          case y6 => intro w hSw; go_simp; try with_reducible rfl
          try simp only [Act.put, List.setIfInBounds_toArray, List.set_cons_zero, List.set_cons_succ]
          refine takeH (i := 7) (d := 44) (v := ?_) rfl rfl (by kernel_rfl) (by kernel_rfl) (by kernel_rfl) (fun _ _ _ h => h) (Or.inl ⟨by rfl, ?y7⟩) hH0 ?_
          case y7 => intro w hSw; go_simp; try with_reducible rfl
          try simp only [Act.put, List.setIfInBounds_toArray, List.set_cons_zero, List.set_cons_succ]
          refine takeH (i := 8) (d := 45) (v := ?_) rfl rfl (by kernel_rfl) (by kernel_rfl) (by kernel_rfl) (fun _ _ _ h => h) (Or.inl ⟨by rfl, ?y8⟩) hH0 ?_
          case y8 => intro w hSw; go_simp; try with_reducible rfl
          try simp only [Act.put, List.setIfInBounds_toArray, List.set_cons_zero, List.set_cons_succ]
          refine takeH (i := 9) (d := 46) (v := ?_) rfl rfl (by kernel_rfl) (by kernel_rfl) (by kernel_rfl) (fun _ _ _ h => h) (Or.inl ⟨by rfl, ?y9⟩) hH0 ?_
          case y9 => intro w hSw; go_simp; try with_reducible rfl
          try simp only [Act.put, List.setIfInBounds_toArray, List.set_cons_zero, List.set_cons_succ]
          refine takeH (i := 10) (d := 47) (v := ?_) rfl rfl (by kernel_rfl) (by kernel_rfl) (by kernel_rfl) (fun _ _ _ h => h) (Or.inl ⟨by rfl, ?y10⟩) hH0 ?_
          case y10 => intro w hSw; go_simp; try with_reducible rfl
          try simp only [Act.put, List.setIfInBounds_toArray, List.set_cons_zero, List.set_cons_succ]
          refine takeH (i := 11) (d := 48) (v := undef) rfl rfl (by kernel_rfl) (by kernel_rfl) (by kernel_rfl) (fun _ _ _ h => h) (Or.inr ⟨by rfl, rfl⟩) hH0 ?_
          try simp only [Act.put, List.setIfInBounds_toArray, List.set_cons_zero, List.set_cons_succ]
          refine takeH (i := 12) (d := 49) (v := undef) rfl rfl (by kernel_rfl) (by kernel_rfl) (by kernel_rfl) (fun _ _ _ h => h) (Or.inr ⟨by rfl, rfl⟩) hH0 ?_
          try simp only [Act.put, List.setIfInBounds_toArray, List.set_cons_zero, List.set_cons_succ]
          refine takeH (i := 13) (d := 50) (v := undef) rfl rfl (by kernel_rfl) (by kernel_rfl) (by kernel_rfl) (fun _ _ _ h => h) (Or.inr ⟨by rfl, rfl⟩) hH0 ?_
          try simp only [Act.put, List.setIfInBounds_toArray, List.set_cons_zero, List.set_cons_succ]
          refine takeH (i := 14) (d := 51) (v := undef) rfl rfl (by kernel_rfl) (by kernel_rfl) (by kernel_rfl) (fun _ _ _ h => h) (Or.inr ⟨by rfl, rfl⟩) hH0 ?_
          try simp only [Act.put, List.setIfInBounds_toArray, List.set_cons_zero, List.set_cons_succ]
          refine takeH (i := 15) (d := 52) (v := undef) rfl rfl (by kernel_rfl) (by kernel_rfl) (by kernel_rfl) (fun _ _ _ h => h) (Or.inr ⟨by rfl, rfl⟩) hH0 ?_
          try simp only [Act.put, List.setIfInBounds_toArray, List.set_cons_zero, List.set_cons_succ]
          refine takeH (i := 16) (d := 53) (v := undef) rfl rfl (by kernel_rfl) (by kernel_rfl) (by kernel_rfl) (fun _ _ _ h => h) (Or.inr ⟨by rfl, rfl⟩) hH0 ?_
          try simp only [Act.put, List.setIfInBounds_toArray, List.set_cons_zero, List.set_cons_succ]
          refine takeH (i := 17) (d := 54) (v := ?_) rfl rfl (by kernel_rfl) (by kernel_rfl) (by kernel_rfl) (fun _ _ _ h => h) (Or.inl ⟨by rfl, ?y17⟩) hH0 ?_
          case y17 => intro w hSw; go_simp; try with_reducible rfl
          try simp only [Act.put, List.setIfInBounds_toArray, List.set_cons_zero, List.set_cons_succ]
          refine wpAnyH_done (by kernel_rfl) ?_ _
          clear hH0
          gi_wp2
          exact ⟨((KeepsOthers.setCell W ⟨w.heap.size + 1, 0, none⟩ _).from _).trans (keeps_below (Below.drew (Below.refl _ _))), HXR.out _⟩
      · have hd1 : decide ((l.length : Int) ≤ (c : Int)) = true := by simp; omega
        have hd1' : decide (l.length ≤ c) = true := by simp; omega
        have HXR := Lib.hid (HXR1.out (fun h => h1 h.2.1))
        have HS0 : (fun w' : World => w'.cell? ⟨w2.heap.size, 0, none⟩ = some (.int .i64 (c : Int)) ∧ w'.cell? ⟨w1.heap.size, 0, none⟩ = some (.slice al l.length cap)) W.drew := ⟨cN, cL⟩
        clear h1 hxi hdr HXR1 HST1 HEX1 hE bN bL bR bM bX cN cL hBW
        gi_wp2
        refine round_held (S := fun w' => w'.cell? ⟨w2.heap.size, 0, none⟩ = some (.int .i64 (c : Int)) ∧ w'.cell? ⟨w1.heap.size, 0, none⟩ = some (.slice al l.length cap)) hmx (by kernel_rfl) (by rintro ⟨_, _, h⟩; exact h) HS0 (fun hH0 => ?_)
        refine takeH (i := 0) (d := 37) (v := ?_) rfl rfl (by kernel_rfl) (by kernel_rfl) (by kernel_rfl) (fun _ _ _ h => h) (Or.inl ⟨by rfl, ?y0⟩) hH0 ?_
        case y0 => intro w hSw; go_simp; try with_reducible rfl
        try simp only [Act.put, List.setIfInBounds_toArray, List.set_cons_zero, List.set_cons_succ]
        refine takeH (i := 1) (d := 38) (v := ?_) rfl rfl (by kernel_rfl) (by kernel_rfl) (by kernel_rfl) (fun _ _ _ h => h) (Or.inl ⟨by rfl, ?y1⟩) hH0 ?_
        case y1 => intro w hSw; go_simp; try with_reducible rfl
        try simp only [Act.put, List.setIfInBounds_toArray, List.set_cons_zero, List.set_cons_succ]
        refine takeH (i := 2) (d := 39) (v := ?_) rfl rfl (by kernel_rfl) (by kernel_rfl) (by kernel_rfl) (fun _ _ _ h => h) (Or.inl ⟨by rfl, ?y2⟩) hH0 ?_
        case y2 => intro w hSw; go_simp; try with_reducible rfl
        try simp only [Act.put, List.setIfInBounds_toArray, List.set_cons_zero, List.set_cons_succ]
        refine takeH (i := 3) (d := 40) (v := ?_) rfl rfl (by kernel_rfl) (by kernel_rfl) (by kernel_rfl) (fun _ _ _ h => h) (Or.inl ⟨by rfl, ?y3⟩) hH0 ?_
        case y3 => intro w hSw; go_simp; try with_reducible rfl
        try simp only [Act.put, List.setIfInBounds_toArray, List.set_cons_zero, List.set_cons_succ]
        refine takeH (i := 4) (d := 41) (v := ?_) rfl rfl (by kernel_rfl) (by kernel_rfl) (by kernel_rfl) (fun _ _ _ h => h) (Or.inl ⟨by rfl, ?y4⟩) hH0 ?_
        case y4 => intro w hSw; go_simp; try with_reducible rfl
        try simp only [Act.put, List.setIfInBounds_toArray, List.set_cons_zero, List.set_cons_succ]
        refine takeH (i := 5) (d := 42) (v := undef) rfl rfl (by kernel_rfl) (by kernel_rfl) (by kernel_rfl) (fun _ _ _ h => h) (Or.inr ⟨by rfl, rfl⟩) hH0 ?_
        try simp only [Act.put, List.setIfInBounds_toArray, List.set_cons_zero, List.set_cons_succ]
        refine takeH (i := 6) (d := 43) (v := undef) rfl rfl (by kernel_rfl) (by kernel_rfl) (by kernel_rfl) (fun _ _ _ h => h) (Or.inr ⟨by rfl, rfl⟩) hH0 ?_
        try simp only [Act.put, List.setIfInBounds_toArray, List.set_cons_zero, List.set_cons_succ]
        refine takeH (i := 7) (d := 44) (v := undef) rfl rfl (by kernel_rfl) (by kernel_rfl) (by kernel_rfl) (fun _ _ _ h => h) (Or.inr ⟨by rfl, rfl⟩) hH0 ?_
        try simp only [Act.put, List.setIfInBounds_toArray, List.set_cons_zero, List.set_cons_succ]
        refine takeH (i := 8) (d := 45) (v := undef) rfl rfl (by kernel_rfl) (by kernel_rfl) (by kernel_rfl) (fun _ _ _ h => h) (Or.inr ⟨by rfl, rfl⟩) hH0 ?_
        try simp only [Act.put, List.setIfInBounds_toArray, List.set_cons_zero, List.set_cons_succ]
        refine takeH (i := 9) (d := 46) (v := ?_) rfl rfl (by kernel_rfl) (by kernel_rfl) (by kernel_rfl) (fun _ _ _ h => h) (Or.inl ⟨by rfl, ?y9⟩) hH0 ?_
        case y9 => intro w hSw; go_simp; try with_reducible rfl
        try simp only [Act.put, List.setIfInBounds_toArray, List.set_cons_zero, List.set_cons_succ]
        refine takeH (i := 10) (d := 47) (v := ?_) rfl rfl (by kernel_rfl) (by kernel_rfl) (by kernel_rfl) (fun _ _ _ h => h) (Or.inl ⟨by rfl, ?y10⟩) hH0 ?_
        case y10 => intro w hSw; go_simp; try with_reducible rfl
        try simp only [Act.put, List.setIfInBounds_toArray, List.set_cons_zero, List.set_cons_succ]
        refine takeH (i := 11) (d := 48) (v := undef) rfl rfl (by kernel_rfl) (by kernel_rfl) (by kernel_rfl) (fun _ _ _ h => h) (Or.inr ⟨by rfl, rfl⟩) hH0 ?_
        try simp only [Act.put, List.setIfInBounds_toArray, List.set_cons_zero, List.set_cons_succ]
        refine takeH (i := 12) (d := 49) (v := undef) rfl rfl (by kernel_rfl) (by kernel_rfl) (by kernel_rfl) (fun _ _ _ h => h) (Or.inr ⟨by rfl, rfl⟩) hH0 ?_
        try simp only [Act.put, List.setIfInBounds_toArray, List.set_cons_zero, List.set_cons_succ]
        refine takeH (i := 13) (d := 50) (v := undef) rfl rfl (by kernel_rfl) (by kernel_rfl) (by kernel_rfl) (fun _ _ _ h => h) (Or.inr ⟨by rfl, rfl⟩) hH0 ?_
        try simp only [Act.put, List.setIfInBounds_toArray, List.set_cons_zero, List.set_cons_succ]
        refine takeH (i := 14) (d := 51) (v := undef) rfl rfl (by kernel_rfl) (by kernel_rfl) (by kernel_rfl) (fun _ _ _ h => h) (Or.inr ⟨by rfl, rfl⟩) hH0 ?_
        try simp only [Act.put, List.setIfInBounds_toArray, List.set_cons_zero, List.set_cons_succ]
        refine takeH (i := 15) (d := 52) (v := undef) rfl rfl (by kernel_rfl) (by kernel_rfl) (by kernel_rfl) (fun _ _ _ h => h) (Or.inr ⟨by rfl, rfl⟩) hH0 ?_
        try simp only [Act.put, List.setIfInBounds_toArray, List.set_cons_zero, List.set_cons_succ]
        refine takeH (i := 16) (d := 53) (v := undef) rfl rfl (by kernel_rfl) (by kernel_rfl) (by kernel_rfl) (fun _ _ _ h => h) (Or.inr ⟨by rfl, rfl⟩) hH0 ?_
        try simp only [Act.put, List.setIfInBounds_toArray, List.set_cons_zero, List.set_cons_succ]
        refine takeH (i := 17) (d := 54) (v := ?_) rfl rfl (by kernel_rfl) (by kernel_rfl) (by kernel_rfl) (fun _ _ _ h => h) (Or.inl ⟨by rfl, ?y17⟩) hH0 ?_
        case y17 => intro w hSw; go_simp; try with_reducible rfl
        try simp only [Act.put, List.setIfInBounds_toArray, List.set_cons_zero, List.set_cons_succ]
        refine wpAnyH_done (by kernel_rfl) ?_ _
        clear hH0
        gi_wp2
        exact ⟨((KeepsOthers.setCell W ⟨w.heap.size + 1, 0, none⟩ _).from _).trans (keeps_below (Below.drew (Below.refl _ _))), HXR.out _⟩
    case hend =>
      rintro D1 nn U1 hD1 hnn hor ⟨bN, hkd, hBW⟩ hK
      have bL : Boxed U1 w1.heap.size 27 (.slice al l.length cap) := (hBW.block _ (by omega)).trans HL2.out
      have bM : Boxed U1 w.heap.size 5 (.int .u8 most) := (hBW.block _ (by omega)).trans HM2.out
      have HU1 := Lib.hid hBW
      have HKK1 : Hid (KD (some D1) U1) := Lib.hid (fun d e => by cases e; exact hK)
      have HKE1 := Lib.hid hkd
      have cN := bN.cell
      have cL := bL.cell
      have cM := bM.cell
      have hDs1 : D1 < U1.heap.size := (Array.getElem?_eq_some_iff.1 hK).1
      have hVD1 : V1.heap.size ≤ D1 := hD1
      have hwm : IntKind.i64.wrap most = most := by rw [IntKind.wrap_i64] <;> omega
      clear hBW hK bN bL bM hkd
      by_cases hnl : nn = l.length
      · have hd : ((nn : Int) != (l.length : Int)) = false := by simp; omega
        have hd' : (nn != l.length) = false := by simp; omega
        subst hnl
        clear hor
        gi_wp2
        all_goals (try (rename_i hz _; exact absurd hz (by simp [undef])))
        clear cN cL cM hwm
        rw [roundsIn_succ]
        gi_wp2
        have hA2 := (Below.refl U1.heap.size U1).alloc (Nat.le_refl _) (.cells #[.int .i64 0] 3)
        have HW2 := Lib.hid (HU1.out.trans (hA2.mono HU1.out.size))
        have HD2 := Lib.hid (KD.below (D := (some D1)) HKK1.out hA2)
        have HN2 := Lib.hid (Boxed.new U1 3 (.int .i64 0))
        obtain ⟨V2, hV2⟩ : ∃ V, U1.alloc (.cells #[.int .i64 0] 3) = V := ⟨_, rfl⟩
        have hszV2 : V2.heap.size = U1.heap.size + 1 := by rw [← hV2]; simp
        have hszr2 : w2.heap.size ≤ U1.heap.size := HU1.out.size
        rw [hV2] at HW2 HN2 HD2 ⊢
        clear hV2 hA2
        refine range_each (n := 10) (p := 35) (q := 36) (r := 11) (s := 12) (by omega) rfl HEG.out U1.heap.size U1.heap.size l most (HSQ.out 9 V2 U1.heap.size (by omega) HW2.out (by omega) (.inr (by omega))) (Below.refl _ _)
          (fun nn W => Boxed W U1.heap.size 3 (.int .i64 (nn : Int)) ∧ (KD (some D1) W ∧ Below w2.heap.size w2 W))
          (OwnFrom.and (Own.from (boxed_own _ _ _) _) (OwnFrom.and (kd_own (some D1) (fun d e => by cases e; omega)) (ownFrom_below (Nat.le_refl _) (by omega))))
          ⟨HN2.out, HD2.out, HW2.out⟩ (fun _ _ h => h) ?assign ?body ?hend
        case assign =>
          rintro lp nn x W K ⟨bN, hkd, hBW⟩ hK
          have hA := (Below.refl W.heap.size W).alloc (Nat.le_refl _) (.cells (eC x.1.2) 51)
          have HK := Lib.hid (hK W.heap.size _ bN.lt ((KeepsOthers.alloc _ _).from _) (KC.below hA) ⟨bN.alloc _, hkd.below hA, hBW.trans (hA.mono hBW.size)⟩ (EAt.made W x.1.2 51))
          clear hK hA hBW bN hkd
          simp only [tE, List.setIfInBounds_toArray, List.set_cons_zero, List.set_cons_succ] at HK ⊢
          unfold eC at HK ⊢
          gi_wp2
          exact HK.out
        case body =>
          rintro lp pre x Bx W hlp hi hBx bX
          have hlen5 : l.length ≤ 5000 := by have := HL.out; omega
          have HI := Lib.hid hi
          obtain ⟨⟨bN, hkd, hBW⟩, -, hlen⟩ := hi
          have HKDb := Lib.hid hkd
          clear hkd
          have HXR0 := fun (hn : ¬ (x.1.1 = pre.length ∧ pre.length < l.length ∧ x.1.2 = gE l pre.length)) (W' : World) => ix_ret (J := fun nn W => Boxed W U1.heap.size 3 (.int .i64 (nn : Int)) ∧ (KD (some D1) W ∧ Below w2.heap.size w2 W)) (most := most) (W' := W') hlen5 HI.out hn
          have HST0 := fun (h1 : x.1.1 = pre.length) (h2 : pre.length < l.length) (h3 : x.1.2 = gE l pre.length) (W' : World) hJ => ie_step (J := fun nn W => Boxed W U1.heap.size 3 (.int .i64 (nn : Int)) ∧ (KD (some D1) W ∧ Below w2.heap.size w2 W)) (W' := W') hlen5 HI.out h1 h2 h3 hJ
          have HEX0 := fun (hm : ((pre.length + 1 : Nat) : Int) = most) (W' : World) hJ => ix_exit (J := fun nn W => Boxed W U1.heap.size 3 (.int .i64 (nn : Int)) ∧ (KD (some D1) W ∧ Below w2.heap.size w2 W)) (l := l) (pre := pre) (x := x) (W' := W') hJ hm
          have HXR1 := Lib.hid HXR0
          have HST1 := Lib.hid HST0
          have HEX1 := Lib.hid HEX0
          clear HXR0 HST0 HEX0
          obtain ⟨c, hcE⟩ : ∃ c, pre.length = c := ⟨_, rfl⟩
          rw [hcE] at bN hlen HXR1 HST1 HEX1
          clear hcE
          have HBN := Lib.hid bN
          have HBW := Lib.hid hBW
          have bL : Boxed W w1.heap.size 27 (.slice al l.length cap) := (hBW.block _ (by omega)).trans HL2.out
          have bR : Boxed W (w.heap.size + 1) 4 (.bool false) := (hBW.block _ (by omega)).trans HR2.out
          have bM : Boxed W w.heap.size 5 (.int .u8 most) := (hBW.block _ (by omega)).trans HM2.out
          have hE := HV2.out.below hBW
          have hdr : Below W.heap.size W W.drew := Below.drew (Below.refl _ _)
          have cN := (boxed_later bN hdr).cell
          have cL := (boxed_later bL hdr).cell
          have cR := (boxed_later bR hdr).cell
          have fR := (boxed_later bR hdr).frozen
          have cM := (boxed_later bM hdr).cell
          have fN := (boxed_later bN hdr).frozen
          have hxi := x.2
          have hlm := HL.out
          have hwu : IntKind.u64.wrap (c : Int) = (c : Int) := by rw [IntKind.wrap_u64] <;> omega
          have hmx : Try.prog.follows .mixedOrders = true := by kernel_rfl
          simp only [tE, List.setIfInBounds_toArray, List.set_cons_zero, List.set_cons_succ]
          unfold eC
          by_cases h1 : c < l.length
          · have hd1 : decide ((l.length : Int) ≤ (c : Int)) = false := by simp; omega
            have hd1' : decide (l.length ≤ c) = false := by simp; omega
            by_cases h2 : x.1.1 = c
            · have hd2 : ((x.1.1 : Int) != (c : Int)) = false := by simp; omega
              obtain ⟨f, hf⟩ : ∃ t, l[c]? = some t := ⟨_, List.getElem?_eq_getElem h1⟩
              have hgf := gE_at hf
              obtain ⟨g', off', cap', hs, _, _, hcell⟩ := ens_at hE c h1
              obtain ⟨f0, f1, f2, f3⟩ := hcell c f hf
              simp only [Value.slice.injEq, true_and] at hs
              obtain ⟨rfl, rfl⟩ := hs
              obtain ⟨x0, x1, x2, x3⟩ := bX
              have hbd : (c : Int) < (l.length : Int) := by omega
              have hb0 : (0 : Int) ≤ (c : Int) := by omega
              have hq := fun W => eq_entP x.1.2 f _ W rfl
              have HS0 : (fun w' : World => ((w'.cell? ⟨Bx, 0, none⟩ = some (.int .u64 x.1.2.id) ∧ w'.cell? ⟨Bx, 1, none⟩ = some (.int .u64 x.1.2.off) ∧ w'.cell? ⟨Bx, 2, none⟩ = some (.int .u32 x.1.2.ln) ∧ w'.cell? ⟨Bx, 3, none⟩ = some (.int .u32 x.1.2.rn)) ∧ (w'.cell? ⟨g', off' + c * 4, none⟩ = some (.int .u64 f.id) ∧ w'.cell? ⟨g', off' + c * 4 + 1, none⟩ = some (.int .u64 f.off) ∧ w'.cell? ⟨g', off' + c * 4 + 2, none⟩ = some (.int .u32 f.ln) ∧ w'.cell? ⟨g', off' + c * 4 + 3, none⟩ = some (.int .u32 f.rn))) ∧ w'.cell? ⟨U1.heap.size, 0, none⟩ = some (.int .i64 (c : Int)) ∧ w'.cell? ⟨w1.heap.size, 0, none⟩ = some (.slice (some ⟨g', off', none⟩) l.length cap)) W.drew := ⟨⟨⟨ecell_later hdr x0, ecell_later hdr x1, ecell_later hdr x2, ecell_later hdr x3⟩, ⟨ecell_later hdr f0, ecell_later hdr f1, ecell_later hdr f2, ecell_later hdr f3⟩⟩, cN, cL⟩
              have HcM2 := Lib.hid ((Boxed.other (B' := U1.heap.size) bM (by omega) (.int .i64 ((c : Int) + 1))).cell)
              have HcS := Lib.hid ((bN.set (.int .i64 ((c : Int) + 1))).cell)
              clear hE bN bL bR bM hcell x0 x1 x2 x3 f0 f1 f2 f3 cN cL hBW
              by_cases h3 : x.1.2 = f
              · rw [decide_eq_true h3] at hq
                have hwm : IntKind.i64.wrap most = most := by rw [IntKind.wrap_i64] <;> omega
                have hwc : IntKind.i64.wrap ((c : Int) + 1) = ((c + 1 : Nat) : Int) := by rw [IntKind.wrap_i64] <;> omega
                have hJ : (fun nn W => Boxed W U1.heap.size 3 (.int .i64 (nn : Int)) ∧ (KD (some D1) W ∧ Below w2.heap.size w2 W)) (c + 1) (W.setCell ⟨U1.heap.size, 0, none⟩ (.int .i64 ((c : Int) + 1))).drew := by
                  have hdr2 : Below (W.setCell ⟨U1.heap.size, 0, none⟩ (.int .i64 ((c : Int) + 1))).heap.size (W.setCell ⟨U1.heap.size, 0, none⟩ (.int .i64 ((c : Int) + 1))) (W.setCell ⟨U1.heap.size, 0, none⟩ (.int .i64 ((c : Int) + 1))).drew := Below.drew (Below.refl _ _)
                  have h5 := HBW.out.setCell (p := ⟨U1.heap.size, 0, none⟩) hszr2 (.int .i64 ((c : Int) + 1))
                  refine ⟨?_, (HKDb.out.setCell _ _ (fun e => by have := Option.some.inj e; omega)).below hdr2, h5.trans (hdr2.mono h5.size)⟩
                  show Boxed _ _ _ (.int .i64 ((c + 1 : Nat) : Int))
                  rw [show ((c + 1 : Nat) : Int) = (c : Int) + 1 from by omega]
                  exact boxed_later (HBN.out.set _) hdr2
                have HJ := Lib.hid hJ
                have hgf3 := h3.trans hgf.symm
                have HSTa := Lib.hid (HST1.out h2 h1 hgf3 _ hJ)
                by_cases h4 : ((c + 1 : Nat) : Int) = most
                · have HEXa := Lib.hid (HEX1.out h4 _ hJ)
                  have hde : ((c : Int) + 1 == most) = true := by simp; omega
                  clear hJ h1 h2 h3 h4 hf hgf hgf3 hxi hdr HXR1 HST1 HEX1
                  gi_wp2
                  refine round_held (S := fun w' => ((w'.cell? ⟨Bx, 0, none⟩ = some (.int .u64 x.1.2.id) ∧ w'.cell? ⟨Bx, 1, none⟩ = some (.int .u64 x.1.2.off) ∧ w'.cell? ⟨Bx, 2, none⟩ = some (.int .u32 x.1.2.ln) ∧ w'.cell? ⟨Bx, 3, none⟩ = some (.int .u32 x.1.2.rn)) ∧ (w'.cell? ⟨g', off' + c * 4, none⟩ = some (.int .u64 f.id) ∧ w'.cell? ⟨g', off' + c * 4 + 1, none⟩ = some (.int .u64 f.off) ∧ w'.cell? ⟨g', off' + c * 4 + 2, none⟩ = some (.int .u32 f.ln) ∧ w'.cell? ⟨g', off' + c * 4 + 3, none⟩ = some (.int .u32 f.rn))) ∧ w'.cell? ⟨U1.heap.size, 0, none⟩ = some (.int .i64 (c : Int)) ∧ w'.cell? ⟨w1.heap.size, 0, none⟩ = some (.slice (some ⟨g', off', none⟩) l.length cap)) hmx (by kernel_rfl) (by rintro ⟨_, _, h⟩; exact h) HS0 (fun hH0 => ?_)
                  refine takeH (i := 0) (d := 37) (v := ?_) rfl rfl (by kernel_rfl) (by kernel_rfl) (by kernel_rfl) (fun _ _ _ h => h) (Or.inl ⟨by rfl, ?y0⟩) hH0 ?_
                  case y0 => intro w hSw; go_simp; try with_reducible rfl
                  try simp only [Act.put, List.setIfInBounds_toArray, List.set_cons_zero, List.set_cons_succ]
                  refine takeH (i := 1) (d := 38) (v := ?_) rfl rfl (by kernel_rfl) (by kernel_rfl) (by kernel_rfl) (fun _ _ _ h => h) (Or.inl ⟨by rfl, ?y1⟩) hH0 ?_
                  case y1 => intro w hSw; go_simp; try with_reducible rfl
                  try simp only [Act.put, List.setIfInBounds_toArray, List.set_cons_zero, List.set_cons_succ]
                  refine takeH (i := 2) (d := 39) (v := ?_) rfl rfl (by kernel_rfl) (by kernel_rfl) (by kernel_rfl) (fun _ _ _ h => h) (Or.inl ⟨by rfl, ?y2⟩) hH0 ?_
                  case y2 => intro w hSw; go_simp; try with_reducible rfl
                  try simp only [Act.put, List.setIfInBounds_toArray, List.set_cons_zero, List.set_cons_succ]
                  refine takeH (i := 3) (d := 40) (v := ?_) rfl rfl (by kernel_rfl) (by kernel_rfl) (by kernel_rfl) (fun _ _ _ h => h) (Or.inl ⟨by rfl, ?y3⟩) hH0 ?_
                  case y3 => intro w hSw; go_simp; try with_reducible rfl
                  try simp only [Act.put, List.setIfInBounds_toArray, List.set_cons_zero, List.set_cons_succ]
                  refine takeH (i := 4) (d := 41) (v := ?_) rfl rfl (by kernel_rfl) (by kernel_rfl) (by kernel_rfl) (fun _ _ _ h => h) (Or.inl ⟨by rfl, ?y4⟩) hH0 ?_
                  case y4 => intro w hSw; go_simp; try with_reducible rfl
                  try simp only [Act.put, List.setIfInBounds_toArray, List.set_cons_zero, List.set_cons_succ]
                  refine takeH (i := 5) (d := 42) (v := ?_) rfl rfl (by kernel_rfl) (by kernel_rfl) (by kernel_rfl) (fun _ _ _ h => h) (Or.inl ⟨by rfl, ?y5⟩) hH0 ?_
                  case y5 => intro w hSw; go_simp; try with_reducible rfl
                  try simp only [Act.put, List.setIfInBounds_toArray, List.set_cons_zero, List.set_cons_succ]
                  refine takeH (i := 6) (d := 43) (v := ?_) rfl rfl (by kernel_rfl) (by kernel_rfl) (by kernel_rfl) (fun _ _ _ h => h) (Or.inl ⟨by rfl, ?y6⟩) hH0 ?_
                  case y6 => intro w hSw; go_simp; try with_reducible rfl
                  try simp only [Act.put, List.setIfInBounds_toArray, List.set_cons_zero, List.set_cons_succ]
                  refine takeH (i := 7) (d := 44) (v := ?_) rfl rfl (by kernel_rfl) (by kernel_rfl) (by kernel_rfl) (fun _ _ _ h => h) (Or.inl ⟨by rfl, ?y7⟩) hH0 ?_
                  case y7 => intro w hSw; go_simp; try with_reducible rfl
                  try simp only [Act.put, List.setIfInBounds_toArray, List.set_cons_zero, List.set_cons_succ]
                  refine takeH (i := 8) (d := 45) (v := ?_) rfl rfl (by kernel_rfl) (by kernel_rfl) (by kernel_rfl) (fun _ _ _ h => h) (Or.inl ⟨by rfl, ?y8⟩) hH0 ?_
                  case y8 => intro w hSw; go_simp; try with_reducible rfl
                  try simp only [Act.put, List.setIfInBounds_toArray, List.set_cons_zero, List.set_cons_succ]
                  refine takeH (i := 9) (d := 46) (v := ?_) rfl rfl (by kernel_rfl) (by kernel_rfl) (by kernel_rfl) (fun _ _ _ h => h) (Or.inl ⟨by rfl, ?y9⟩) hH0 ?_
                  case y9 => intro w hSw; go_simp; try with_reducible rfl
                  try simp only [Act.put, List.setIfInBounds_toArray, List.set_cons_zero, List.set_cons_succ]
                  refine takeH (i := 10) (d := 47) (v := ?_) rfl rfl (by kernel_rfl) (by kernel_rfl) (by kernel_rfl) (fun _ _ _ h => h) (Or.inl ⟨by rfl, ?y10⟩) hH0 ?_
                  case y10 => intro w hSw; go_simp; try with_reducible rfl
                  try simp only [Act.put, List.setIfInBounds_toArray, List.set_cons_zero, List.set_cons_succ]
                  refine takeH (i := 11) (d := 48) (v := ?_) rfl rfl (by kernel_rfl) (by kernel_rfl) (by kernel_rfl) (fun _ _ _ h => h) (Or.inl ⟨by rfl, ?y11⟩) hH0 ?_
                  case y11 => intro w hSw; go_simp; try with_reducible rfl
                  try simp only [Act.put, List.setIfInBounds_toArray, List.set_cons_zero, List.set_cons_succ]
                  refine takeH (i := 12) (d := 49) (v := ?_) rfl rfl (by kernel_rfl) (by kernel_rfl) (by kernel_rfl) (fun _ _ _ h => h) (Or.inl ⟨by rfl, ?y12⟩) hH0 ?_
                  case y12 => intro w hSw; go_simp; try with_reducible rfl
                  try simp only [Act.put, List.setIfInBounds_toArray, List.set_cons_zero, List.set_cons_succ]
                  refine takeH (i := 13) (d := 50) (v := ?_) rfl rfl (by kernel_rfl) (by kernel_rfl) (by kernel_rfl) (fun _ _ _ h => h) (Or.inl ⟨by rfl, ?y13⟩) hH0 ?_
                  case y13 => intro w hSw; go_simp; try with_reducible rfl
                  try simp only [Act.put, List.setIfInBounds_toArray, List.set_cons_zero, List.set_cons_succ]
                  refine takeH (i := 14) (d := 51) (v := ?_) rfl rfl (by kernel_rfl) (by kernel_rfl) (by kernel_rfl) (fun _ _ _ h => h) (Or.inl ⟨by rfl, ?y14⟩) hH0 ?_
                  case y14 => intro w hSw; go_simp; try with_reducible rfl
                  try simp only [Act.put, List.setIfInBounds_toArray, List.set_cons_zero, List.set_cons_succ]
                  refine takeH (i := 15) (d := 52) (v := ?_) rfl rfl (by kernel_rfl) (by kernel_rfl) (by kernel_rfl) (fun _ _ _ h => h) (Or.inl ⟨by rfl, ?y15⟩) hH0 ?_
                  case y15 => intro w hSw; go_simp; try with_reducible rfl
                  try simp only [Act.put, List.setIfInBounds_toArray, List.set_cons_zero, List.set_cons_succ]
                  refine takeH (i := 16) (d := 53) (v := ?_) rfl rfl (by kernel_rfl) (by kernel_rfl) (by kernel_rfl) (fun _ _ _ h => h) (Or.inl ⟨by rfl, ?y16⟩) hH0 ?_
                  case y16 => intro w hSw; go_simp; try with_reducible rfl
                  try simp only [Act.put, List.setIfInBounds_toArray, List.set_cons_zero, List.set_cons_succ]
                  refine takeH (i := 17) (d := 54) (v := ?_) rfl rfl (by kernel_rfl) (by kernel_rfl) (by kernel_rfl) (fun _ _ _ h => h) (Or.inl ⟨by rfl, ?y17⟩) hH0 ?_
                  case y17 => intro w hSw; go_simp; try with_reducible rfl
                  try simp only [Act.put, List.setIfInBounds_toArray, List.set_cons_zero, List.set_cons_succ]
                  refine wpAnyH_done (by kernel_rfl) ?_ _
                  obtain ⟨-, cN, -⟩ := hH0
                  have cS := HcS.out
                  have cM2 := HcM2.out
                  gi_wp2
                  exact ⟨((KeepsOthers.setCell W ⟨U1.heap.size, 0, none⟩ _).from _).trans (keeps_below (Below.drew (Below.refl _ _))), HEXa.out⟩
                · have hde : ((c : Int) + 1 == most) = false := by simp; omega
                  clear hJ h1 h2 h3 h4 hf hgf hgf3 hxi hdr HXR1 HST1 HEX1
                  gi_wp2
                  refine round_held (S := fun w' => ((w'.cell? ⟨Bx, 0, none⟩ = some (.int .u64 x.1.2.id) ∧ w'.cell? ⟨Bx, 1, none⟩ = some (.int .u64 x.1.2.off) ∧ w'.cell? ⟨Bx, 2, none⟩ = some (.int .u32 x.1.2.ln) ∧ w'.cell? ⟨Bx, 3, none⟩ = some (.int .u32 x.1.2.rn)) ∧ (w'.cell? ⟨g', off' + c * 4, none⟩ = some (.int .u64 f.id) ∧ w'.cell? ⟨g', off' + c * 4 + 1, none⟩ = some (.int .u64 f.off) ∧ w'.cell? ⟨g', off' + c * 4 + 2, none⟩ = some (.int .u32 f.ln) ∧ w'.cell? ⟨g', off' + c * 4 + 3, none⟩ = some (.int .u32 f.rn))) ∧ w'.cell? ⟨U1.heap.size, 0, none⟩ = some (.int .i64 (c : Int)) ∧ w'.cell? ⟨w1.heap.size, 0, none⟩ = some (.slice (some ⟨g', off', none⟩) l.length cap)) hmx (by kernel_rfl) (by rintro ⟨_, _, h⟩; exact h) HS0 (fun hH0 => ?_)
                  refine takeH (i := 0) (d := 37) (v := ?_) rfl rfl (by kernel_rfl) (by kernel_rfl) (by kernel_rfl) (fun _ _ _ h => h) (Or.inl ⟨by rfl, ?y0⟩) hH0 ?_
                  case y0 => intro w hSw; go_simp; try with_reducible rfl
                  try simp only [Act.put, List.setIfInBounds_toArray, List.set_cons_zero, List.set_cons_succ]
                  refine takeH (i := 1) (d := 38) (v := ?_) rfl rfl (by kernel_rfl) (by kernel_rfl) (by kernel_rfl) (fun _ _ _ h => h) (Or.inl ⟨by rfl, ?y1⟩) hH0 ?_
                  case y1 => intro w hSw; go_simp; try with_reducible rfl
                  try simp only [Act.put, List.setIfInBounds_toArray, List.set_cons_zero, List.set_cons_succ]
                  refine takeH (i := 2) (d := 39) (v := ?_) rfl rfl (by kernel_rfl) (by kernel_rfl) (by kernel_rfl) (fun _ _ _ h => h) (Or.inl ⟨by rfl, ?y2⟩) hH0 ?_
                  case y2 => intro w hSw; go_simp; try with_reducible rfl
                  try simp only [Act.put, List.setIfInBounds_toArray, List.set_cons_zero, List.set_cons_succ]
                  refine takeH (i := 3) (d := 40) (v := ?_) rfl rfl (by kernel_rfl) (by kernel_rfl) (by kernel_rfl) (fun _ _ _ h => h) (Or.inl ⟨by rfl, ?y3⟩) hH0 ?_
                  case y3 => intro w hSw; go_simp; try with_reducible rfl
                  try simp only [Act.put, List.setIfInBounds_toArray, List.set_cons_zero, List.set_cons_succ]
                  refine takeH (i := 4) (d := 41) (v := ?_) rfl rfl (by kernel_rfl) (by kernel_rfl) (by kernel_rfl) (fun _ _ _ h => h) (Or.inl ⟨by rfl, ?y4⟩) hH0 ?_
                  case y4 => intro w hSw; go_simp; try with_reducible rfl
                  try simp only [Act.put, List.setIfInBounds_toArray, List.set_cons_zero, List.set_cons_succ]
                  refine takeH (i := 5) (d := 42) (v := ?_) rfl rfl (by kernel_rfl) (by kernel_rfl) (by kernel_rfl) (fun _ _ _ h => h) (Or.inl ⟨by rfl, ?y5⟩) hH0 ?_
                  case y5 => intro w hSw; go_simp; try with_reducible rfl
                  try simp only [Act.put, List.setIfInBounds_toArray, List.set_cons_zero, List.set_cons_succ]
                  refine takeH (i := 6) (d := 43) (v := ?_) rfl rfl (by kernel_rfl) (by kernel_rfl) (by kernel_rfl) (fun _ _ _ h => h) (Or.inl ⟨by rfl, ?y6⟩) hH0 ?_
                  case y6 => intro w hSw; go_simp; try with_reducible rfl
                  try simp only [Act.put, List.setIfInBounds_toArray, List.set_cons_zero, List.set_cons_succ]
                  refine takeH (i := 7) (d := 44) (v := ?_) rfl rfl (by kernel_rfl) (by kernel_rfl) (by kernel_rfl) (fun _ _ _ h => h) (Or.inl ⟨by rfl, ?y7⟩) hH0 ?_
                  case y7 => intro w hSw; go_simp; try with_reducible rfl
                  try simp only [Act.put, List.setIfInBounds_toArray, List.set_cons_zero, List.set_cons_succ]
                  refine takeH (i := 8) (d := 45) (v := ?_) rfl rfl (by kernel_rfl) (by kernel_rfl) (by kernel_rfl) (fun _ _ _ h => h) (Or.inl ⟨by rfl, ?y8⟩) hH0 ?_
                  case y8 => intro w hSw; go_simp; try with_reducible rfl
                  try simp only [Act.put, List.setIfInBounds_toArray, List.set_cons_zero, List.set_cons_succ]
                  refine takeH (i := 9) (d := 46) (v := ?_) rfl rfl (by kernel_rfl) (by kernel_rfl) (by kernel_rfl) (fun _ _ _ h => h) (Or.inl ⟨by rfl, ?y9⟩) hH0 ?_
                  case y9 => intro w hSw; go_simp; try with_reducible rfl
                  try simp only [Act.put, List.setIfInBounds_toArray, List.set_cons_zero, List.set_cons_succ]
                  refine takeH (i := 10) (d := 47) (v := ?_) rfl rfl (by kernel_rfl) (by kernel_rfl) (by kernel_rfl) (fun _ _ _ h => h) (Or.inl ⟨by rfl, ?y10⟩) hH0 ?_
                  case y10 => intro w hSw; go_simp; try with_reducible rfl
                  try simp only [Act.put, List.setIfInBounds_toArray, List.set_cons_zero, List.set_cons_succ]
                  refine takeH (i := 11) (d := 48) (v := ?_) rfl rfl (by kernel_rfl) (by kernel_rfl) (by kernel_rfl) (fun _ _ _ h => h) (Or.inl ⟨by rfl, ?y11⟩) hH0 ?_
                  case y11 => intro w hSw; go_simp; try with_reducible rfl
                  try simp only [Act.put, List.setIfInBounds_toArray, List.set_cons_zero, List.set_cons_succ]
                  refine takeH (i := 12) (d := 49) (v := ?_) rfl rfl (by kernel_rfl) (by kernel_rfl) (by kernel_rfl) (fun _ _ _ h => h) (Or.inl ⟨by rfl, ?y12⟩) hH0 ?_
                  case y12 => intro w hSw; go_simp; try with_reducible rfl
                  try simp only [Act.put, List.setIfInBounds_toArray, List.set_cons_zero, List.set_cons_succ]
                  refine takeH (i := 13) (d := 50) (v := ?_) rfl rfl (by kernel_rfl) (by kernel_rfl) (by kernel_rfl) (fun _ _ _ h => h) (Or.inl ⟨by rfl, ?y13⟩) hH0 ?_
                  case y13 => intro w hSw; go_simp; try with_reducible rfl
                  try simp only [Act.put, List.setIfInBounds_toArray, List.set_cons_zero, List.set_cons_succ]
                  refine takeH (i := 14) (d := 51) (v := ?_) rfl rfl (by kernel_rfl) (by kernel_rfl) (by kernel_rfl) (fun _ _ _ h => h) (Or.inl ⟨by rfl, ?y14⟩) hH0 ?_
                  case y14 => intro w hSw; go_simp; try with_reducible rfl
                  try simp only [Act.put, List.setIfInBounds_toArray, List.set_cons_zero, List.set_cons_succ]
                  refine takeH (i := 15) (d := 52) (v := ?_) rfl rfl (by kernel_rfl) (by kernel_rfl) (by kernel_rfl) (fun _ _ _ h => h) (Or.inl ⟨by rfl, ?y15⟩) hH0 ?_
                  case y15 => intro w hSw; go_simp; try with_reducible rfl
                  try simp only [Act.put, List.setIfInBounds_toArray, List.set_cons_zero, List.set_cons_succ]
                  refine takeH (i := 16) (d := 53) (v := ?_) rfl rfl (by kernel_rfl) (by kernel_rfl) (by kernel_rfl) (fun _ _ _ h => h) (Or.inl ⟨by rfl, ?y16⟩) hH0 ?_
                  case y16 => intro w hSw; go_simp; try with_reducible rfl
                  try simp only [Act.put, List.setIfInBounds_toArray, List.set_cons_zero, List.set_cons_succ]
                  refine takeH (i := 17) (d := 54) (v := ?_) rfl rfl (by kernel_rfl) (by kernel_rfl) (by kernel_rfl) (fun _ _ _ h => h) (Or.inl ⟨by rfl, ?y17⟩) hH0 ?_
                  case y17 => intro w hSw; go_simp; try with_reducible rfl
                  try simp only [Act.put, List.setIfInBounds_toArray, List.set_cons_zero, List.set_cons_succ]
                  refine wpAnyH_done (by kernel_rfl) ?_ _
                  obtain ⟨-, cN, -⟩ := hH0
                  have cS := HcS.out
                  have cM2 := HcM2.out
                  gi_wp2
                  exact ⟨((KeepsOthers.setCell W ⟨U1.heap.size, 0, none⟩ _).from _).trans (keeps_below (Below.drew (Below.refl _ _))), (KC.setCell U1.heap.size W _).trans (KC.below (Below.drew (Below.refl _ _))), HSTa.out⟩
              · rw [decide_eq_false h3] at hq
                have HXR := Lib.hid (HXR1.out (fun h => h3 (h.2.2.trans hgf)))
                clear h1 h2 h3 hf hgf hxi hdr HXR1 HST1 HEX1
                gi_wp2
                refine round_held (S := fun w' => ((w'.cell? ⟨Bx, 0, none⟩ = some (.int .u64 x.1.2.id) ∧ w'.cell? ⟨Bx, 1, none⟩ = some (.int .u64 x.1.2.off) ∧ w'.cell? ⟨Bx, 2, none⟩ = some (.int .u32 x.1.2.ln) ∧ w'.cell? ⟨Bx, 3, none⟩ = some (.int .u32 x.1.2.rn)) ∧ (w'.cell? ⟨g', off' + c * 4, none⟩ = some (.int .u64 f.id) ∧ w'.cell? ⟨g', off' + c * 4 + 1, none⟩ = some (.int .u64 f.off) ∧ w'.cell? ⟨g', off' + c * 4 + 2, none⟩ = some (.int .u32 f.ln) ∧ w'.cell? ⟨g', off' + c * 4 + 3, none⟩ = some (.int .u32 f.rn))) ∧ w'.cell? ⟨U1.heap.size, 0, none⟩ = some (.int .i64 (c : Int)) ∧ w'.cell? ⟨w1.heap.size, 0, none⟩ = some (.slice (some ⟨g', off', none⟩) l.length cap)) hmx (by kernel_rfl) (by rintro ⟨_, _, h⟩; exact h) HS0 (fun hH0 => ?_)
                refine takeH (i := 0) (d := 37) (v := ?_) rfl rfl (by kernel_rfl) (by kernel_rfl) (by kernel_rfl) (fun _ _ _ h => h) (Or.inl ⟨by rfl, ?y0⟩) hH0 ?_
                case y0 => intro w hSw; go_simp; try with_reducible rfl
                try simp only [Act.put, List.setIfInBounds_toArray, List.set_cons_zero, List.set_cons_succ]
                refine takeH (i := 1) (d := 38) (v := ?_) rfl rfl (by kernel_rfl) (by kernel_rfl) (by kernel_rfl) (fun _ _ _ h => h) (Or.inl ⟨by rfl, ?y1⟩) hH0 ?_
                case y1 => intro w hSw; go_simp; try with_reducible rfl
                try simp only [Act.put, List.setIfInBounds_toArray, List.set_cons_zero, List.set_cons_succ]
                refine takeH (i := 2) (d := 39) (v := ?_) rfl rfl (by kernel_rfl) (by kernel_rfl) (by kernel_rfl) (fun _ _ _ h => h) (Or.inl ⟨by rfl, ?y2⟩) hH0 ?_
                case y2 => intro w hSw; go_simp; try with_reducible rfl
                try simp only [Act.put, List.setIfInBounds_toArray, List.set_cons_zero, List.set_cons_succ]
                refine takeH (i := 3) (d := 40) (v := ?_) rfl rfl (by kernel_rfl) (by kernel_rfl) (by kernel_rfl) (fun _ _ _ h => h) (Or.inl ⟨by rfl, ?y3⟩) hH0 ?_
                case y3 => intro w hSw; go_simp; try with_reducible rfl
                try simp only [Act.put, List.setIfInBounds_toArray, List.set_cons_zero, List.set_cons_succ]
                refine takeH (i := 4) (d := 41) (v := ?_) rfl rfl (by kernel_rfl) (by kernel_rfl) (by kernel_rfl) (fun _ _ _ h => h) (Or.inl ⟨by rfl, ?y4⟩) hH0 ?_
                case y4 => intro w hSw; go_simp; try with_reducible rfl
                try simp only [Act.put, List.setIfInBounds_toArray, List.set_cons_zero, List.set_cons_succ]
                refine takeH (i := 5) (d := 42) (v := ?_) rfl rfl (by kernel_rfl) (by kernel_rfl) (by kernel_rfl) (fun _ _ _ h => h) (Or.inl ⟨by rfl, ?y5⟩) hH0 ?_
                case y5 => intro w hSw; go_simp; try with_reducible rfl
                try simp only [Act.put, List.setIfInBounds_toArray, List.set_cons_zero, List.set_cons_succ]
                refine takeH (i := 6) (d := 43) (v := ?_) rfl rfl (by kernel_rfl) (by kernel_rfl) (by kernel_rfl) (fun _ _ _ h => h) (Or.inl ⟨by rfl, ?y6⟩) hH0 ?_
                case y6 => intro w hSw; go_simp; try with_reducible rfl
                try simp only [Act.put, List.setIfInBounds_toArray, List.set_cons_zero, List.set_cons_succ]
                refine takeH (i := 7) (d := 44) (v := ?_) rfl rfl (by kernel_rfl) (by kernel_rfl) (by kernel_rfl) (fun _ _ _ h => h) (Or.inl ⟨by rfl, ?y7⟩) hH0 ?_
                case y7 => intro w hSw; go_simp; try with_reducible rfl
                try simp only [Act.put, List.setIfInBounds_toArray, List.set_cons_zero, List.set_cons_succ]
                refine takeH (i := 8) (d := 45) (v := ?_) rfl rfl (by kernel_rfl) (by kernel_rfl) (by kernel_rfl) (fun _ _ _ h => h) (Or.inl ⟨by rfl, ?y8⟩) hH0 ?_
                case y8 => intro w hSw; go_simp; try with_reducible rfl
                try simp only [Act.put, List.setIfInBounds_toArray, List.set_cons_zero, List.set_cons_succ]
                refine takeH (i := 9) (d := 46) (v := ?_) rfl rfl (by kernel_rfl) (by kernel_rfl) (by kernel_rfl) (fun _ _ _ h => h) (Or.inl ⟨by rfl, ?y9⟩) hH0 ?_
                case y9 => intro w hSw; go_simp; try with_reducible rfl
                try simp only [Act.put, List.setIfInBounds_toArray, List.set_cons_zero, List.set_cons_succ]
                refine takeH (i := 10) (d := 47) (v := ?_) rfl rfl (by kernel_rfl) (by kernel_rfl) (by kernel_rfl) (fun _ _ _ h => h) (Or.inl ⟨by rfl, ?y10⟩) hH0 ?_
                case y10 => intro w hSw; go_simp; try with_reducible rfl
                try simp only [Act.put, List.setIfInBounds_toArray, List.set_cons_zero, List.set_cons_succ]
                refine takeH (i := 11) (d := 48) (v := ?_) rfl rfl (by kernel_rfl) (by kernel_rfl) (by kernel_rfl) (fun _ _ _ h => h) (Or.inl ⟨by rfl, ?y11⟩) hH0 ?_
                case y11 => intro w hSw; go_simp; try with_reducible rfl
                try simp only [Act.put, List.setIfInBounds_toArray, List.set_cons_zero, List.set_cons_succ]
                refine takeH (i := 12) (d := 49) (v := ?_) rfl rfl (by kernel_rfl) (by kernel_rfl) (by kernel_rfl) (fun _ _ _ h => h) (Or.inl ⟨by rfl, ?y12⟩) hH0 ?_
                case y12 => intro w hSw; go_simp; try with_reducible rfl
                try simp only [Act.put, List.setIfInBounds_toArray, List.set_cons_zero, List.set_cons_succ]
                refine takeH (i := 13) (d := 50) (v := ?_) rfl rfl (by kernel_rfl) (by kernel_rfl) (by kernel_rfl) (fun _ _ _ h => h) (Or.inl ⟨by rfl, ?y13⟩) hH0 ?_
                case y13 => intro w hSw; go_simp; try with_reducible rfl
                try simp only [Act.put, List.setIfInBounds_toArray, List.set_cons_zero, List.set_cons_succ]
                refine takeH (i := 14) (d := 51) (v := ?_) rfl rfl (by kernel_rfl) (by kernel_rfl) (by kernel_rfl) (fun _ _ _ h => h) (Or.inl ⟨by rfl, ?y14⟩) hH0 ?_
                case y14 => intro w hSw; go_simp; try with_reducible rfl
                try simp only [Act.put, List.setIfInBounds_toArray, List.set_cons_zero, List.set_cons_succ]
                refine takeH (i := 15) (d := 52) (v := ?_) rfl rfl (by kernel_rfl) (by kernel_rfl) (by kernel_rfl) (fun _ _ _ h => h) (Or.inl ⟨by rfl, ?y15⟩) hH0 ?_
                case y15 => intro w hSw; go_simp; try with_reducible rfl
                try simp only [Act.put, List.setIfInBounds_toArray, List.set_cons_zero, List.set_cons_succ]
                refine takeH (i := 16) (d := 53) (v := ?_) rfl rfl (by kernel_rfl) (by kernel_rfl) (by kernel_rfl) (fun _ _ _ h => h) (Or.inl ⟨by rfl, ?y16⟩) hH0 ?_
                case y16 => intro w hSw; go_simp; try with_reducible rfl
                try simp only [Act.put, List.setIfInBounds_toArray, List.set_cons_zero, List.set_cons_succ]
                refine takeH (i := 17) (d := 54) (v := ?_) rfl rfl (by kernel_rfl) (by kernel_rfl) (by kernel_rfl) (fun _ _ _ h => h) (Or.inl ⟨by rfl, ?y17⟩) hH0 ?_
                case y17 => intro w hSw; go_simp; try with_reducible rfl
                try simp only [Act.put, List.setIfInBounds_toArray, List.set_cons_zero, List.set_cons_succ]
                refine wpAnyH_done (by kernel_rfl) ?_ _
                clear hH0
                gi_wp2
                exact ⟨((KeepsOthers.setCell W ⟨w.heap.size + 1, 0, none⟩ _).from _).trans (keeps_below (Below.drew (Below.refl _ _))), HXR.out _⟩
            · have hd2 : ((x.1.1 : Int) != (c : Int)) = true := by simp; omega
              have HXR := Lib.hid (HXR1.out (fun h => h2 h.1))
              have HS0 : (fun w' : World => w'.cell? ⟨U1.heap.size, 0, none⟩ = some (.int .i64 (c : Int)) ∧ w'.cell? ⟨w1.heap.size, 0, none⟩ = some (.slice al l.length cap)) W.drew := ⟨cN, cL⟩
              clear h1 h2 hxi hdr HXR1 HST1 HEX1 hE bN bL bR bM bX cN cL hBW
              gi_wp2
              refine round_held (S := fun w' => w'.cell? ⟨U1.heap.size, 0, none⟩ = some (.int .i64 (c : Int)) ∧ w'.cell? ⟨w1.heap.size, 0, none⟩ = some (.slice al l.length cap)) hmx (by kernel_rfl) (by rintro ⟨_, _, h⟩; exact h) HS0 (fun hH0 => ?_)
              refine takeH (i := 0) (d := 37) (v := ?_) rfl rfl (by kernel_rfl) (by kernel_rfl) (by kernel_rfl) (fun _ _ _ h => h) (Or.inl ⟨by rfl, ?y0⟩) hH0 ?_
              case y0 => intro w hSw; go_simp; try with_reducible rfl
              try simp only [Act.put, List.setIfInBounds_toArray, List.set_cons_zero, List.set_cons_succ]
              refine takeH (i := 1) (d := 38) (v := ?_) rfl rfl (by kernel_rfl) (by kernel_rfl) (by kernel_rfl) (fun _ _ _ h => h) (Or.inl ⟨by rfl, ?y1⟩) hH0 ?_
              case y1 => intro w hSw; go_simp; try with_reducible rfl
              try simp only [Act.put, List.setIfInBounds_toArray, List.set_cons_zero, List.set_cons_succ]
              refine takeH (i := 2) (d := 39) (v := ?_) rfl rfl (by kernel_rfl) (by kernel_rfl) (by kernel_rfl) (fun _ _ _ h => h) (Or.inl ⟨by rfl, ?y2⟩) hH0 ?_
              case y2 => intro w hSw; go_simp; try with_reducible rfl
              try simp only [Act.put, List.setIfInBounds_toArray, List.set_cons_zero, List.set_cons_succ]
              refine takeH (i := 3) (d := 40) (v := ?_) rfl rfl (by kernel_rfl) (by kernel_rfl) (by kernel_rfl) (fun _ _ _ h => h) (Or.inl ⟨by rfl, ?y3⟩) hH0 ?_
              case y3 => intro w hSw; go_simp; try with_reducible rfl
              try simp only [Act.put, List.setIfInBounds_toArray, List.set_cons_zero, List.set_cons_succ]
              refine takeH (i := 4) (d := 41) (v := ?_) rfl rfl (by kernel_rfl) (by kernel_rfl) (by kernel_rfl) (fun _ _ _ h => h) (Or.inl ⟨by rfl, ?y4⟩) hH0 ?_
              case y4 => intro w hSw; go_simp; try with_reducible rfl
              try simp only [Act.put, List.setIfInBounds_toArray, List.set_cons_zero, List.set_cons_succ]
              refine takeH (i := 5) (d := 42) (v := ?_) rfl rfl (by kernel_rfl) (by kernel_rfl) (by kernel_rfl) (fun _ _ _ h => h) (Or.inl ⟨by rfl, ?y5⟩) hH0 ?_
              case y5 => intro w hSw; go_simp; try with_reducible rfl
              try simp only [Act.put, List.setIfInBounds_toArray, List.set_cons_zero, List.set_cons_succ]
              refine takeH (i := 6) (d := 43) (v := ?_) rfl rfl (by kernel_rfl) (by kernel_rfl) (by kernel_rfl) (fun _ _ _ h => h) (Or.inl ⟨by rfl, ?y6⟩) hH0 ?_
              case y6 => intro w hSw; go_simp; try with_reducible rfl
              try simp only [Act.put, List.setIfInBounds_toArray, List.set_cons_zero, List.set_cons_succ]
              refine takeH (i := 7) (d := 44) (v := ?_) rfl rfl (by kernel_rfl) (by kernel_rfl) (by kernel_rfl) (fun _ _ _ h => h) (Or.inl ⟨by rfl, ?y7⟩) hH0 ?_
              case y7 => intro w hSw; go_simp; try with_reducible rfl
              try simp only [Act.put, List.setIfInBounds_toArray, List.set_cons_zero, List.set_cons_succ]
              refine takeH (i := 8) (d := 45) (v := ?_) rfl rfl (by kernel_rfl) (by kernel_rfl) (by kernel_rfl) (fun _ _ _ h => h) (Or.inl ⟨by rfl, ?y8⟩) hH0 ?_
              case y8 => intro w hSw; go_simp; try with_reducible rfl
              try simp only [Act.put, List.setIfInBounds_toArray, List.set_cons_zero, List.set_cons_succ]
              refine takeH (i := 9) (d := 46) (v := ?_) rfl rfl (by kernel_rfl) (by kernel_rfl) (by kernel_rfl) (fun _ _ _ h => h) (Or.inl ⟨by rfl, ?y9⟩) hH0 ?_
              case y9 => intro w hSw; go_simp; try with_reducible rfl
              try simp only [Act.put, List.setIfInBounds_toArray, List.set_cons_zero, List.set_cons_succ]
              refine takeH (i := 10) (d := 47) (v := ?_) rfl rfl (by kernel_rfl) (by kernel_rfl) (by kernel_rfl) (fun _ _ _ h => h) (Or.inl ⟨by rfl, ?y10⟩) hH0 ?_
              case y10 => intro w hSw; go_simp; try with_reducible rfl
              try simp only [Act.put, List.setIfInBounds_toArray, List.set_cons_zero, List.set_cons_succ]
              refine takeH (i := 11) (d := 48) (v := undef) rfl rfl (by kernel_rfl) (by kernel_rfl) (by kernel_rfl) (fun _ _ _ h => h) (Or.inr ⟨by rfl, rfl⟩) hH0 ?_
              try simp only [Act.put, List.setIfInBounds_toArray, List.set_cons_zero, List.set_cons_succ]
              refine takeH (i := 12) (d := 49) (v := undef) rfl rfl (by kernel_rfl) (by kernel_rfl) (by kernel_rfl) (fun _ _ _ h => h) (Or.inr ⟨by rfl, rfl⟩) hH0 ?_
              try simp only [Act.put, List.setIfInBounds_toArray, List.set_cons_zero, List.set_cons_succ]
              refine takeH (i := 13) (d := 50) (v := undef) rfl rfl (by kernel_rfl) (by kernel_rfl) (by kernel_rfl) (fun _ _ _ h => h) (Or.inr ⟨by rfl, rfl⟩) hH0 ?_
              try simp only [Act.put, List.setIfInBounds_toArray, List.set_cons_zero, List.set_cons_succ]
              refine takeH (i := 14) (d := 51) (v := undef) rfl rfl (by kernel_rfl) (by kernel_rfl) (by kernel_rfl) (fun _ _ _ h => h) (Or.inr ⟨by rfl, rfl⟩) hH0 ?_
              try simp only [Act.put, List.setIfInBounds_toArray, List.set_cons_zero, List.set_cons_succ]
              refine takeH (i := 15) (d := 52) (v := undef) rfl rfl (by kernel_rfl) (by kernel_rfl) (by kernel_rfl) (fun _ _ _ h => h) (Or.inr ⟨by rfl, rfl⟩) hH0 ?_
              try simp only [Act.put, List.setIfInBounds_toArray, List.set_cons_zero, List.set_cons_succ]
              refine takeH (i := 16) (d := 53) (v := undef) rfl rfl (by kernel_rfl) (by kernel_rfl) (by kernel_rfl) (fun _ _ _ h => h) (Or.inr ⟨by rfl, rfl⟩) hH0 ?_
              try simp only [Act.put, List.setIfInBounds_toArray, List.set_cons_zero, List.set_cons_succ]
              refine takeH (i := 17) (d := 54) (v := ?_) rfl rfl (by kernel_rfl) (by kernel_rfl) (by kernel_rfl) (fun _ _ _ h => h) (Or.inl ⟨by rfl, ?y17⟩) hH0 ?_
              case y17 => intro w hSw; go_simp; try with_reducible rfl
              try simp only [Act.put, List.setIfInBounds_toArray, List.set_cons_zero, List.set_cons_succ]
              refine wpAnyH_done (by kernel_rfl) ?_ _
              clear hH0
              gi_wp2
              exact ⟨((KeepsOthers.setCell W ⟨w.heap.size + 1, 0, none⟩ _).from _).trans (keeps_below (Below.drew (Below.refl _ _))), HXR.out _⟩
          · have hd1 : decide ((l.length : Int) ≤ (c : Int)) = true := by simp; omega
            have hd1' : decide (l.length ≤ c) = true := by simp; omega
            have HXR := Lib.hid (HXR1.out (fun h => h1 h.2.1))
            have HS0 : (fun w' : World => w'.cell? ⟨U1.heap.size, 0, none⟩ = some (.int .i64 (c : Int)) ∧ w'.cell? ⟨w1.heap.size, 0, none⟩ = some (.slice al l.length cap)) W.drew := ⟨cN, cL⟩
            clear h1 hxi hdr HXR1 HST1 HEX1 hE bN bL bR bM bX cN cL hBW
            gi_wp2
            refine round_held (S := fun w' => w'.cell? ⟨U1.heap.size, 0, none⟩ = some (.int .i64 (c : Int)) ∧ w'.cell? ⟨w1.heap.size, 0, none⟩ = some (.slice al l.length cap)) hmx (by kernel_rfl) (by rintro ⟨_, _, h⟩; exact h) HS0 (fun hH0 => ?_)
            refine takeH (i := 0) (d := 37) (v := ?_) rfl rfl (by kernel_rfl) (by kernel_rfl) (by kernel_rfl) (fun _ _ _ h => h) (Or.inl ⟨by rfl, ?y0⟩) hH0 ?_
            case y0 => intro w hSw; go_simp; try with_reducible rfl
            try simp only [Act.put, List.setIfInBounds_toArray, List.set_cons_zero, List.set_cons_succ]
            refine takeH (i := 1) (d := 38) (v := ?_) rfl rfl (by kernel_rfl) (by kernel_rfl) (by kernel_rfl) (fun _ _ _ h => h) (Or.inl ⟨by rfl, ?y1⟩) hH0 ?_
            case y1 => intro w hSw; go_simp; try with_reducible rfl
            try simp only [Act.put, List.setIfInBounds_toArray, List.set_cons_zero, List.set_cons_succ]
            refine takeH (i := 2) (d := 39) (v := ?_) rfl rfl (by kernel_rfl) (by kernel_rfl) (by kernel_rfl) (fun _ _ _ h => h) (Or.inl ⟨by rfl, ?y2⟩) hH0 ?_
            case y2 => intro w hSw; go_simp; try with_reducible rfl
            try simp only [Act.put, List.setIfInBounds_toArray, List.set_cons_zero, List.set_cons_succ]
            refine takeH (i := 3) (d := 40) (v := ?_) rfl rfl (by kernel_rfl) (by kernel_rfl) (by kernel_rfl) (fun _ _ _ h => h) (Or.inl ⟨by rfl, ?y3⟩) hH0 ?_
            case y3 => intro w hSw; go_simp; try with_reducible rfl
            try simp only [Act.put, List.setIfInBounds_toArray, List.set_cons_zero, List.set_cons_succ]
            refine takeH (i := 4) (d := 41) (v := ?_) rfl rfl (by kernel_rfl) (by kernel_rfl) (by kernel_rfl) (fun _ _ _ h => h) (Or.inl ⟨by rfl, ?y4⟩) hH0 ?_
            case y4 => intro w hSw; go_simp; try with_reducible rfl
            try simp only [Act.put, List.setIfInBounds_toArray, List.set_cons_zero, List.set_cons_succ]
            refine takeH (i := 5) (d := 42) (v := undef) rfl rfl (by kernel_rfl) (by kernel_rfl) (by kernel_rfl) (fun _ _ _ h => h) (Or.inr ⟨by rfl, rfl⟩) hH0 ?_
            try simp only [Act.put, List.setIfInBounds_toArray, List.set_cons_zero, List.set_cons_succ]
            refine takeH (i := 6) (d := 43) (v := undef) rfl rfl (by kernel_rfl) (by kernel_rfl) (by kernel_rfl) (fun _ _ _ h => h) (Or.inr ⟨by rfl, rfl⟩) hH0 ?_
            try simp only [Act.put, List.setIfInBounds_toArray, List.set_cons_zero, List.set_cons_succ]
            refine takeH (i := 7) (d := 44) (v := undef) rfl rfl (by kernel_rfl) (by kernel_rfl) (by kernel_rfl) (fun _ _ _ h => h) (Or.inr ⟨by rfl, rfl⟩) hH0 ?_
            try simp only [Act.put, List.setIfInBounds_toArray, List.set_cons_zero, List.set_cons_succ]
            refine takeH (i := 8) (d := 45) (v := undef) rfl rfl (by kernel_rfl) (by kernel_rfl) (by kernel_rfl) (fun _ _ _ h => h) (Or.inr ⟨by rfl, rfl⟩) hH0 ?_
            try simp only [Act.put, List.setIfInBounds_toArray, List.set_cons_zero, List.set_cons_succ]
            refine takeH (i := 9) (d := 46) (v := ?_) rfl rfl (by kernel_rfl) (by kernel_rfl) (by kernel_rfl) (fun _ _ _ h => h) (Or.inl ⟨by rfl, ?y9⟩) hH0 ?_
            case y9 => intro w hSw; go_simp; try with_reducible rfl
            try simp only [Act.put, List.setIfInBounds_toArray, List.set_cons_zero, List.set_cons_succ]
            refine takeH (i := 10) (d := 47) (v := ?_) rfl rfl (by kernel_rfl) (by kernel_rfl) (by kernel_rfl) (fun _ _ _ h => h) (Or.inl ⟨by rfl, ?y10⟩) hH0 ?_
            case y10 => intro w hSw; go_simp; try with_reducible rfl
            try simp only [Act.put, List.setIfInBounds_toArray, List.set_cons_zero, List.set_cons_succ]
            refine takeH (i := 11) (d := 48) (v := undef) rfl rfl (by kernel_rfl) (by kernel_rfl) (by kernel_rfl) (fun _ _ _ h => h) (Or.inr ⟨by rfl, rfl⟩) hH0 ?_
            try simp only [Act.put, List.setIfInBounds_toArray, List.set_cons_zero, List.set_cons_succ]
            refine takeH (i := 12) (d := 49) (v := undef) rfl rfl (by kernel_rfl) (by kernel_rfl) (by kernel_rfl) (fun _ _ _ h => h) (Or.inr ⟨by rfl, rfl⟩) hH0 ?_
            try simp only [Act.put, List.setIfInBounds_toArray, List.set_cons_zero, List.set_cons_succ]
            refine takeH (i := 13) (d := 50) (v := undef) rfl rfl (by kernel_rfl) (by kernel_rfl) (by kernel_rfl) (fun _ _ _ h => h) (Or.inr ⟨by rfl, rfl⟩) hH0 ?_
            try simp only [Act.put, List.setIfInBounds_toArray, List.set_cons_zero, List.set_cons_succ]
            refine takeH (i := 14) (d := 51) (v := undef) rfl rfl (by kernel_rfl) (by kernel_rfl) (by kernel_rfl) (fun _ _ _ h => h) (Or.inr ⟨by rfl, rfl⟩) hH0 ?_
            try simp only [Act.put, List.setIfInBounds_toArray, List.set_cons_zero, List.set_cons_succ]
            refine takeH (i := 15) (d := 52) (v := undef) rfl rfl (by kernel_rfl) (by kernel_rfl) (by kernel_rfl) (fun _ _ _ h => h) (Or.inr ⟨by rfl, rfl⟩) hH0 ?_
            try simp only [Act.put, List.setIfInBounds_toArray, List.set_cons_zero, List.set_cons_succ]
            refine takeH (i := 16) (d := 53) (v := undef) rfl rfl (by kernel_rfl) (by kernel_rfl) (by kernel_rfl) (fun _ _ _ h => h) (Or.inr ⟨by rfl, rfl⟩) hH0 ?_
            try simp only [Act.put, List.setIfInBounds_toArray, List.set_cons_zero, List.set_cons_succ]
            refine takeH (i := 17) (d := 54) (v := ?_) rfl rfl (by kernel_rfl) (by kernel_rfl) (by kernel_rfl) (fun _ _ _ h => h) (Or.inl ⟨by rfl, ?y17⟩) hH0 ?_
            case y17 => intro w hSw; go_simp; try with_reducible rfl
            try simp only [Act.put, List.setIfInBounds_toArray, List.set_cons_zero, List.set_cons_succ]
            refine wpAnyH_done (by kernel_rfl) ?_ _
            clear hH0
            gi_wp2
            exact ⟨((KeepsOthers.setCell W ⟨w.heap.size + 1, 0, none⟩ _).from _).trans (keeps_below (Below.drew (Below.refl _ _))), HXR.out _⟩
        case hend =>
          rintro D2 nn U2 hD2 hnn hor ⟨bN, hkd, hBW⟩ hK
          have bL : Boxed U2 w1.heap.size 27 (.slice al l.length cap) := (hBW.block _ (by omega)).trans HL2.out
          have bM : Boxed U2 w.heap.size 5 (.int .u8 most) := (hBW.block _ (by omega)).trans HM2.out
          have HU2 := Lib.hid hBW
          have HKK2 : Hid (KD (some D2) U2) := Lib.hid (fun d e => by cases e; exact hK)
          have HKE2 := Lib.hid hkd
          have cN := bN.cell
          have cL := bL.cell
          have cM := bM.cell
          have hDs2 : D2 < U2.heap.size := (Array.getElem?_eq_some_iff.1 hK).1
          have hVD2 : V2.heap.size ≤ D2 := hD2
          have hwm : IntKind.i64.wrap most = most := by rw [IntKind.wrap_i64] <;> omega
          clear hBW hK bN bL bM hkd
          by_cases hnl : nn = l.length
          · have hd : ((nn : Int) != (l.length : Int)) = false := by simp; omega
            have hd' : (nn != l.length) = false := by simp; omega
            subst hnl
            clear hor
            gi_wp2
            all_goals (try (rename_i hz _; exact absurd hz (by simp [undef])))
            clear cN cL cM hwm

            rw [roundsIn_succ]
            gi_wp2
            refine ⟨trivial, (callsIn_wide.2 (repeat_any (65537 - t.size) _ (by omega) (by omega))).mono ?_⟩
            rintro y w3 ⟨r, rfl, hr, hb⟩
            have HU3 := Lib.hid (HU2.out.trans (hb.mono HU2.out.size))
            have HKK3 := Lib.hid (HKK2.out.below hb)
            have HKE3 := Lib.hid (HKE2.out.below hb)
            have hs3 := hb.size
            have hrs : r.size ≤ 65537 := by omega
            have hts : t.size ≤ 1500 := hts0
            have hdl := pdecD_any (t ++ r)
            have hbig : decD (t ++ r).data.toList = ([], 0, 5) := by
              unfold decD
              rw [if_pos (by rw [show (t ++ r).data.toList.length = (t ++ r).size from by simp, ByteArray.size_append]; omega)]
            have HDl := Lib.hid (fun W => hdl W (by rw [ByteArray.size_append]; unfold maxLen; omega))
            simp only [hbig] at HDl
            clear hb hdl hbig
            gi_wp2
            refine ⟨trivial, (callsIn_wide.2 (HDl.out _)).mono ?_⟩
            rintro y w4 ⟨v5, rfl, -, hb⟩
            have HU4 := Lib.hid (HU3.out.trans (hb.mono HU3.out.size))
            have HKK4 := Lib.hid (HKK3.out.below hb)
            have HKE4 := Lib.hid (HKE3.out.below hb)
            have hs4 := hb.size
            have bL4 : Boxed w4 w1.heap.size 27 (.slice al l.length cap) := (HU4.out.block _ (by omega)).trans HL2.out
            have cL := bL4.cell
            clear hb bL4
            by_cases he0 : e = 0
            · have hde : (e == 0) = true := by simpa using he0
              gi_wp2
              refine ⟨trivial, (callsIn_wide.2 (HA.out _)).mono ?_⟩
              rintro y w5 ⟨rfl, hb⟩
              have HU5 := Lib.hid (HU4.out.trans (hb.mono HU4.out.size))
              have HKK5 := Lib.hid (HKK4.out.below hb)
              have HKE5 := Lib.hid (HKE4.out.below hb)
              have hs5 := hb.size
              have bR5 : Boxed w5 (w.heap.size + 1) 4 (.bool false) := (HU5.out.block _ (by omega)).trans HR2.out
              have cR := bR5.cell
              have fR := bR5.frozen
              have HR5 := Lib.hid bR5
              have hBf : Below w.heap.size w (w5.setCell ⟨w.heap.size + 1, 0, none⟩ (.bool true)) := (HB2.out.trans (HU5.out.mono HB2.out.size)).setCell (p := ⟨w.heap.size + 1, 0, none⟩) (by show w.heap.size ≤ w.heap.size + 1; omega) _
              have hK2 := (HKK5.out.setCell (w.heap.size + 1) (.bool true) (fun e => by have := Option.some.inj e; omega)) D2 rfl
              have hK1' := (HKE5.out.setCell (w.heap.size + 1) (.bool true) (fun e => by have := Option.some.inj e; omega)) D1 rfl
              have hK1 : ((w5.setCell ⟨w.heap.size + 1, 0, none⟩ (.bool true)).putObj D2 (.deferred none)).heap[D1]? = some (.deferred (some [])) := (World.putObj_heap_other (by omega)).trans hK1'
              have hbx : Boxed (((w5.setCell ⟨w.heap.size + 1, 0, none⟩ (.bool true)).putObj D2 (.deferred none)).putObj D1 (.deferred none)) (w.heap.size + 1) 4 (.bool true) := (World.putObj_heap_other (by omega)).trans ((World.putObj_heap_other (by omega)).trans (HR5.out.set _))
              have hB6 := hBf.trans (belowK_b (w := w) (Nat.le_refl _) _ D2 _ (.deferred none) (by omega) hK2 rfl rfl)
              have hB7 := hB6.trans (belowK_b (w := w) (Nat.le_refl _) _ D1 _ (.deferred none) (by omega) hK1 rfl rfl)
              have HF := Lib.hid (And.intro hK2 (And.intro hK1 (And.intro hbx hB7)))
              clear hb bR5 hBf hK2 hK1' hK1 hbx hB6 hB7
              gi_wp2
              refine ⟨by simp, .inl ⟨D2, _, rfl, run_takeDeferred HF.out.1, ?_⟩⟩
              refine ⟨by simp, .inl ⟨D1, _, rfl, run_takeDeferred HF.out.2.1, ?_⟩⟩
              exact ⟨_, res_cell rfl _ _ (w.heap.size + 1) true rfl HF.out.2.2.1, rfl, HF.out.2.2.2⟩
            · have hln : l = [] := HBD.out he0
              have hde : (e == 0) = false := by simpa using he0
              have hl0 : ((l.length : Int) == 0) = true := by rw [hln]; rfl
              have hl0' : (l.length == 0) = true := by rw [hln]; rfl
              gi_wp2
              refine ⟨trivial, (callsIn_wide.2 (HA.out _)).mono ?_⟩
              rintro y w5 ⟨rfl, hb⟩
              have HU5 := Lib.hid (HU4.out.trans (hb.mono HU4.out.size))
              have HKK5 := Lib.hid (HKK4.out.below hb)
              have HKE5 := Lib.hid (HKE4.out.below hb)
              have hs5 := hb.size
              have bR5 : Boxed w5 (w.heap.size + 1) 4 (.bool false) := (HU5.out.block _ (by omega)).trans HR2.out
              have cR := bR5.cell
              have fR := bR5.frozen
              have HR5 := Lib.hid bR5
              have hBf : Below w.heap.size w (w5.setCell ⟨w.heap.size + 1, 0, none⟩ (.bool true)) := (HB2.out.trans (HU5.out.mono HB2.out.size)).setCell (p := ⟨w.heap.size + 1, 0, none⟩) (by show w.heap.size ≤ w.heap.size + 1; omega) _
              have hK2 := (HKK5.out.setCell (w.heap.size + 1) (.bool true) (fun e => by have := Option.some.inj e; omega)) D2 rfl
              have hK1' := (HKE5.out.setCell (w.heap.size + 1) (.bool true) (fun e => by have := Option.some.inj e; omega)) D1 rfl
              have hK1 : ((w5.setCell ⟨w.heap.size + 1, 0, none⟩ (.bool true)).putObj D2 (.deferred none)).heap[D1]? = some (.deferred (some [])) := (World.putObj_heap_other (by omega)).trans hK1'
              have hbx : Boxed (((w5.setCell ⟨w.heap.size + 1, 0, none⟩ (.bool true)).putObj D2 (.deferred none)).putObj D1 (.deferred none)) (w.heap.size + 1) 4 (.bool true) := (World.putObj_heap_other (by omega)).trans ((World.putObj_heap_other (by omega)).trans (HR5.out.set _))
              have hB6 := hBf.trans (belowK_b (w := w) (Nat.le_refl _) _ D2 _ (.deferred none) (by omega) hK2 rfl rfl)
              have hB7 := hB6.trans (belowK_b (w := w) (Nat.le_refl _) _ D1 _ (.deferred none) (by omega) hK1 rfl rfl)
              have HF := Lib.hid (And.intro hK2 (And.intro hK1 (And.intro hbx hB7)))
              clear hb bR5 hBf hK2 hK1' hK1 hbx hB6 hB7
              gi_wp2
              refine ⟨by simp, .inl ⟨D2, _, rfl, run_takeDeferred HF.out.1, ?_⟩⟩
              refine ⟨by simp, .inl ⟨D1, _, rfl, run_takeDeferred HF.out.2.1, ?_⟩⟩
              exact ⟨_, res_cell rfl _ _ (w.heap.size + 1) true rfl HF.out.2.2.1, rfl, HF.out.2.2.2⟩
          · have hmo : (nn : Int) = most := by rcases hor with h | h <;> omega
            have hd : ((nn : Int) != (l.length : Int)) = true := by simp; omega
            have hd' : (nn != l.length) = true := by simp; omega
            have hd2 : ((nn : Int) != most) = false := by simp; omega
            have hd3 : decide ((l.length : Int) < (nn : Int)) = false := by simp; omega
            have hd3' : decide (l.length < nn) = false := by simp; omega
            clear hor hnl hmo
            gi_wp2
            clear cN cL cM hwm

            rw [roundsIn_succ]
            gi_wp2
            refine ⟨trivial, (callsIn_wide.2 (repeat_any (65537 - t.size) _ (by omega) (by omega))).mono ?_⟩
            rintro y w3 ⟨r, rfl, hr, hb⟩
            have HU3 := Lib.hid (HU2.out.trans (hb.mono HU2.out.size))
            have HKK3 := Lib.hid (HKK2.out.below hb)
            have HKE3 := Lib.hid (HKE2.out.below hb)
            have hs3 := hb.size
            have hrs : r.size ≤ 65537 := by omega
            have hts : t.size ≤ 1500 := hts0
            have hdl := pdecD_any (t ++ r)
            have hbig : decD (t ++ r).data.toList = ([], 0, 5) := by
              unfold decD
              rw [if_pos (by rw [show (t ++ r).data.toList.length = (t ++ r).size from by simp, ByteArray.size_append]; omega)]
            have HDl := Lib.hid (fun W => hdl W (by rw [ByteArray.size_append]; unfold maxLen; omega))
            simp only [hbig] at HDl
            clear hb hdl hbig
            gi_wp2
            refine ⟨trivial, (callsIn_wide.2 (HDl.out _)).mono ?_⟩
            rintro y w4 ⟨v5, rfl, -, hb⟩
            have HU4 := Lib.hid (HU3.out.trans (hb.mono HU3.out.size))
            have HKK4 := Lib.hid (HKK3.out.below hb)
            have HKE4 := Lib.hid (HKE3.out.below hb)
            have hs4 := hb.size
            have bL4 : Boxed w4 w1.heap.size 27 (.slice al l.length cap) := (HU4.out.block _ (by omega)).trans HL2.out
            have cL := bL4.cell
            clear hb bL4
            by_cases he0 : e = 0
            · have hde : (e == 0) = true := by simpa using he0
              gi_wp2
              refine ⟨trivial, (callsIn_wide.2 (HA.out _)).mono ?_⟩
              rintro y w5 ⟨rfl, hb⟩
              have HU5 := Lib.hid (HU4.out.trans (hb.mono HU4.out.size))
              have HKK5 := Lib.hid (HKK4.out.below hb)
              have HKE5 := Lib.hid (HKE4.out.below hb)
              have hs5 := hb.size
              have bR5 : Boxed w5 (w.heap.size + 1) 4 (.bool false) := (HU5.out.block _ (by omega)).trans HR2.out
              have cR := bR5.cell
              have fR := bR5.frozen
              have HR5 := Lib.hid bR5
              have hBf : Below w.heap.size w (w5.setCell ⟨w.heap.size + 1, 0, none⟩ (.bool true)) := (HB2.out.trans (HU5.out.mono HB2.out.size)).setCell (p := ⟨w.heap.size + 1, 0, none⟩) (by show w.heap.size ≤ w.heap.size + 1; omega) _
              have hK2 := (HKK5.out.setCell (w.heap.size + 1) (.bool true) (fun e => by have := Option.some.inj e; omega)) D2 rfl
              have hK1' := (HKE5.out.setCell (w.heap.size + 1) (.bool true) (fun e => by have := Option.some.inj e; omega)) D1 rfl
              have hK1 : ((w5.setCell ⟨w.heap.size + 1, 0, none⟩ (.bool true)).putObj D2 (.deferred none)).heap[D1]? = some (.deferred (some [])) := (World.putObj_heap_other (by omega)).trans hK1'
              have hbx : Boxed (((w5.setCell ⟨w.heap.size + 1, 0, none⟩ (.bool true)).putObj D2 (.deferred none)).putObj D1 (.deferred none)) (w.heap.size + 1) 4 (.bool true) := (World.putObj_heap_other (by omega)).trans ((World.putObj_heap_other (by omega)).trans (HR5.out.set _))
              have hB6 := hBf.trans (belowK_b (w := w) (Nat.le_refl _) _ D2 _ (.deferred none) (by omega) hK2 rfl rfl)
              have hB7 := hB6.trans (belowK_b (w := w) (Nat.le_refl _) _ D1 _ (.deferred none) (by omega) hK1 rfl rfl)
              have HF := Lib.hid (And.intro hK2 (And.intro hK1 (And.intro hbx hB7)))
              clear hb bR5 hBf hK2 hK1' hK1 hbx hB6 hB7
              gi_wp2
              refine ⟨by simp, .inl ⟨D2, _, rfl, run_takeDeferred HF.out.1, ?_⟩⟩
              refine ⟨by simp, .inl ⟨D1, _, rfl, run_takeDeferred HF.out.2.1, ?_⟩⟩
              exact ⟨_, res_cell rfl _ _ (w.heap.size + 1) true rfl HF.out.2.2.1, rfl, HF.out.2.2.2⟩
            · have hln : l = [] := HBD.out he0
              have hde : (e == 0) = false := by simpa using he0
              have hl0 : ((l.length : Int) == 0) = true := by rw [hln]; rfl
              have hl0' : (l.length == 0) = true := by rw [hln]; rfl
              gi_wp2
              refine ⟨trivial, (callsIn_wide.2 (HA.out _)).mono ?_⟩
              rintro y w5 ⟨rfl, hb⟩
              have HU5 := Lib.hid (HU4.out.trans (hb.mono HU4.out.size))
              have HKK5 := Lib.hid (HKK4.out.below hb)
              have HKE5 := Lib.hid (HKE4.out.below hb)
              have hs5 := hb.size
              have bR5 : Boxed w5 (w.heap.size + 1) 4 (.bool false) := (HU5.out.block _ (by omega)).trans HR2.out
              have cR := bR5.cell
              have fR := bR5.frozen
              have HR5 := Lib.hid bR5
              have hBf : Below w.heap.size w (w5.setCell ⟨w.heap.size + 1, 0, none⟩ (.bool true)) := (HB2.out.trans (HU5.out.mono HB2.out.size)).setCell (p := ⟨w.heap.size + 1, 0, none⟩) (by show w.heap.size ≤ w.heap.size + 1; omega) _
              have hK2 := (HKK5.out.setCell (w.heap.size + 1) (.bool true) (fun e => by have := Option.some.inj e; omega)) D2 rfl
              have hK1' := (HKE5.out.setCell (w.heap.size + 1) (.bool true) (fun e => by have := Option.some.inj e; omega)) D1 rfl
              have hK1 : ((w5.setCell ⟨w.heap.size + 1, 0, none⟩ (.bool true)).putObj D2 (.deferred none)).heap[D1]? = some (.deferred (some [])) := (World.putObj_heap_other (by omega)).trans hK1'
              have hbx : Boxed (((w5.setCell ⟨w.heap.size + 1, 0, none⟩ (.bool true)).putObj D2 (.deferred none)).putObj D1 (.deferred none)) (w.heap.size + 1) 4 (.bool true) := (World.putObj_heap_other (by omega)).trans ((World.putObj_heap_other (by omega)).trans (HR5.out.set _))
              have hB6 := hBf.trans (belowK_b (w := w) (Nat.le_refl _) _ D2 _ (.deferred none) (by omega) hK2 rfl rfl)
              have hB7 := hB6.trans (belowK_b (w := w) (Nat.le_refl _) _ D1 _ (.deferred none) (by omega) hK1 rfl rfl)
              have HF := Lib.hid (And.intro hK2 (And.intro hK1 (And.intro hbx hB7)))
              clear hb bR5 hBf hK2 hK1' hK1 hbx hB6 hB7
              gi_wp2
              refine ⟨by simp, .inl ⟨D2, _, rfl, run_takeDeferred HF.out.1, ?_⟩⟩
              refine ⟨by simp, .inl ⟨D1, _, rfl, run_takeDeferred HF.out.2.1, ?_⟩⟩
              exact ⟨_, res_cell rfl _ _ (w.heap.size + 1) true rfl HF.out.2.2.1, rfl, HF.out.2.2.2⟩
      · have hmo : (nn : Int) = most := by rcases hor with h | h <;> omega
        have hd : ((nn : Int) != (l.length : Int)) = true := by simp; omega
        have hd' : (nn != l.length) = true := by simp; omega
        have hd2 : ((nn : Int) != most) = false := by simp; omega
        have hd3 : decide ((l.length : Int) < (nn : Int)) = false := by simp; omega
        have hd3' : decide (l.length < nn) = false := by simp; omega
        clear hor hnl hmo
        gi_wp2
        clear cN cL cM hwm
        rw [roundsIn_succ]
        gi_wp2
        have hA2 := (Below.refl U1.heap.size U1).alloc (Nat.le_refl _) (.cells #[.int .i64 0] 3)
        have HW2 := Lib.hid (HU1.out.trans (hA2.mono HU1.out.size))
        have HD2 := Lib.hid (KD.below (D := (some D1)) HKK1.out hA2)
        have HN2 := Lib.hid (Boxed.new U1 3 (.int .i64 0))
        obtain ⟨V2, hV2⟩ : ∃ V, U1.alloc (.cells #[.int .i64 0] 3) = V := ⟨_, rfl⟩
        have hszV2 : V2.heap.size = U1.heap.size + 1 := by rw [← hV2]; simp
        have hszr2 : w2.heap.size ≤ U1.heap.size := HU1.out.size
        rw [hV2] at HW2 HN2 HD2 ⊢
        clear hV2 hA2
        refine range_each (n := 10) (p := 35) (q := 36) (r := 11) (s := 12) (by omega) rfl HEG.out U1.heap.size U1.heap.size l most (HSQ.out 9 V2 U1.heap.size (by omega) HW2.out (by omega) (.inr (by omega))) (Below.refl _ _)
          (fun nn W => Boxed W U1.heap.size 3 (.int .i64 (nn : Int)) ∧ (KD (some D1) W ∧ Below w2.heap.size w2 W))
          (OwnFrom.and (Own.from (boxed_own _ _ _) _) (OwnFrom.and (kd_own (some D1) (fun d e => by cases e; omega)) (ownFrom_below (Nat.le_refl _) (by omega))))
          ⟨HN2.out, HD2.out, HW2.out⟩ (fun _ _ h => h) ?assign ?body ?hend
        case assign =>
          rintro lp nn x W K ⟨bN, hkd, hBW⟩ hK
          have hA := (Below.refl W.heap.size W).alloc (Nat.le_refl _) (.cells (eC x.1.2) 51)
          have HK := Lib.hid (hK W.heap.size _ bN.lt ((KeepsOthers.alloc _ _).from _) (KC.below hA) ⟨bN.alloc _, hkd.below hA, hBW.trans (hA.mono hBW.size)⟩ (EAt.made W x.1.2 51))
          clear hK hA hBW bN hkd
          simp only [tE, List.setIfInBounds_toArray, List.set_cons_zero, List.set_cons_succ] at HK ⊢
          unfold eC at HK ⊢
          gi_wp2
          exact HK.out
        case body =>
          rintro lp pre x Bx W hlp hi hBx bX
          have hlen5 : l.length ≤ 5000 := by have := HL.out; omega
          have HI := Lib.hid hi
          obtain ⟨⟨bN, hkd, hBW⟩, -, hlen⟩ := hi
          have HKDb := Lib.hid hkd
          clear hkd
          have HXR0 := fun (hn : ¬ (x.1.1 = pre.length ∧ pre.length < l.length ∧ x.1.2 = gE l pre.length)) (W' : World) => ix_ret (J := fun nn W => Boxed W U1.heap.size 3 (.int .i64 (nn : Int)) ∧ (KD (some D1) W ∧ Below w2.heap.size w2 W)) (most := most) (W' := W') hlen5 HI.out hn
          have HST0 := fun (h1 : x.1.1 = pre.length) (h2 : pre.length < l.length) (h3 : x.1.2 = gE l pre.length) (W' : World) hJ => ie_step (J := fun nn W => Boxed W U1.heap.size 3 (.int .i64 (nn : Int)) ∧ (KD (some D1) W ∧ Below w2.heap.size w2 W)) (W' := W') hlen5 HI.out h1 h2 h3 hJ
          have HEX0 := fun (hm : ((pre.length + 1 : Nat) : Int) = most) (W' : World) hJ => ix_exit (J := fun nn W => Boxed W U1.heap.size 3 (.int .i64 (nn : Int)) ∧ (KD (some D1) W ∧ Below w2.heap.size w2 W)) (l := l) (pre := pre) (x := x) (W' := W') hJ hm
          have HXR1 := Lib.hid HXR0
          have HST1 := Lib.hid HST0
          have HEX1 := Lib.hid HEX0
          clear HXR0 HST0 HEX0
          obtain ⟨c, hcE⟩ : ∃ c, pre.length = c := ⟨_, rfl⟩
          rw [hcE] at bN hlen HXR1 HST1 HEX1
          clear hcE
          have HBN := Lib.hid bN
          have HBW := Lib.hid hBW
          have bL : Boxed W w1.heap.size 27 (.slice al l.length cap) := (hBW.block _ (by omega)).trans HL2.out
          have bR : Boxed W (w.heap.size + 1) 4 (.bool false) := (hBW.block _ (by omega)).trans HR2.out
          have bM : Boxed W w.heap.size 5 (.int .u8 most) := (hBW.block _ (by omega)).trans HM2.out
          have hE := HV2.out.below hBW
          have hdr : Below W.heap.size W W.drew := Below.drew (Below.refl _ _)
          have cN := (boxed_later bN hdr).cell
          have cL := (boxed_later bL hdr).cell
          have cR := (boxed_later bR hdr).cell
          have fR := (boxed_later bR hdr).frozen
          have cM := (boxed_later bM hdr).cell
          have fN := (boxed_later bN hdr).frozen
          have hxi := x.2
          have hlm := HL.out
          have hwu : IntKind.u64.wrap (c : Int) = (c : Int) := by rw [IntKind.wrap_u64] <;> omega
          have hmx : Try.prog.follows .mixedOrders = true := by kernel_rfl
          simp only [tE, List.setIfInBounds_toArray, List.set_cons_zero, List.set_cons_succ]
          unfold eC
          by_cases h1 : c < l.length
          · have hd1 : decide ((l.length : Int) ≤ (c : Int)) = false := by simp; omega
            have hd1' : decide (l.length ≤ c) = false := by simp; omega
            by_cases h2 : x.1.1 = c
            · have hd2 : ((x.1.1 : Int) != (c : Int)) = false := by simp; omega
              obtain ⟨f, hf⟩ : ∃ t, l[c]? = some t := ⟨_, List.getElem?_eq_getElem h1⟩
              have hgf := gE_at hf
              obtain ⟨g', off', cap', hs, _, _, hcell⟩ := ens_at hE c h1
              obtain ⟨f0, f1, f2, f3⟩ := hcell c f hf
              simp only [Value.slice.injEq, true_and] at hs
              obtain ⟨rfl, rfl⟩ := hs
              obtain ⟨x0, x1, x2, x3⟩ := bX
              have hbd : (c : Int) < (l.length : Int) := by omega
              have hb0 : (0 : Int) ≤ (c : Int) := by omega
              have hq := fun W => eq_entP x.1.2 f _ W rfl
              have HS0 : (fun w' : World => ((w'.cell? ⟨Bx, 0, none⟩ = some (.int .u64 x.1.2.id) ∧ w'.cell? ⟨Bx, 1, none⟩ = some (.int .u64 x.1.2.off) ∧ w'.cell? ⟨Bx, 2, none⟩ = some (.int .u32 x.1.2.ln) ∧ w'.cell? ⟨Bx, 3, none⟩ = some (.int .u32 x.1.2.rn)) ∧ (w'.cell? ⟨g', off' + c * 4, none⟩ = some (.int .u64 f.id) ∧ w'.cell? ⟨g', off' + c * 4 + 1, none⟩ = some (.int .u64 f.off) ∧ w'.cell? ⟨g', off' + c * 4 + 2, none⟩ = some (.int .u32 f.ln) ∧ w'.cell? ⟨g', off' + c * 4 + 3, none⟩ = some (.int .u32 f.rn))) ∧ w'.cell? ⟨U1.heap.size, 0, none⟩ = some (.int .i64 (c : Int)) ∧ w'.cell? ⟨w1.heap.size, 0, none⟩ = some (.slice (some ⟨g', off', none⟩) l.length cap)) W.drew := ⟨⟨⟨ecell_later hdr x0, ecell_later hdr x1, ecell_later hdr x2, ecell_later hdr x3⟩, ⟨ecell_later hdr f0, ecell_later hdr f1, ecell_later hdr f2, ecell_later hdr f3⟩⟩, cN, cL⟩
              have HcM2 := Lib.hid ((Boxed.other (B' := U1.heap.size) bM (by omega) (.int .i64 ((c : Int) + 1))).cell)
              have HcS := Lib.hid ((bN.set (.int .i64 ((c : Int) + 1))).cell)
              clear hE bN bL bR bM hcell x0 x1 x2 x3 f0 f1 f2 f3 cN cL hBW
              by_cases h3 : x.1.2 = f
              · rw [decide_eq_true h3] at hq
                have hwm : IntKind.i64.wrap most = most := by rw [IntKind.wrap_i64] <;> omega
                have hwc : IntKind.i64.wrap ((c : Int) + 1) = ((c + 1 : Nat) : Int) := by rw [IntKind.wrap_i64] <;> omega
                have hJ : (fun nn W => Boxed W U1.heap.size 3 (.int .i64 (nn : Int)) ∧ (KD (some D1) W ∧ Below w2.heap.size w2 W)) (c + 1) (W.setCell ⟨U1.heap.size, 0, none⟩ (.int .i64 ((c : Int) + 1))).drew := by
                  have hdr2 : Below (W.setCell ⟨U1.heap.size, 0, none⟩ (.int .i64 ((c : Int) + 1))).heap.size (W.setCell ⟨U1.heap.size, 0, none⟩ (.int .i64 ((c : Int) + 1))) (W.setCell ⟨U1.heap.size, 0, none⟩ (.int .i64 ((c : Int) + 1))).drew := Below.drew (Below.refl _ _)
                  have h5 := HBW.out.setCell (p := ⟨U1.heap.size, 0, none⟩) hszr2 (.int .i64 ((c : Int) + 1))
                  refine ⟨?_, (HKDb.out.setCell _ _ (fun e => by have := Option.some.inj e; omega)).below hdr2, h5.trans (hdr2.mono h5.size)⟩
                  show Boxed _ _ _ (.int .i64 ((c + 1 : Nat) : Int))
                  rw [show ((c + 1 : Nat) : Int) = (c : Int) + 1 from by omega]
                  exact boxed_later (HBN.out.set _) hdr2
                have HJ := Lib.hid hJ
                have hgf3 := h3.trans hgf.symm
                have HSTa := Lib.hid (HST1.out h2 h1 hgf3 _ hJ)
                by_cases h4 : ((c + 1 : Nat) : Int) = most
                · have HEXa := Lib.hid (HEX1.out h4 _ hJ)
                  have hde : ((c : Int) + 1 == most) = true := by simp; omega
                  clear hJ h1 h2 h3 h4 hf hgf hgf3 hxi hdr HXR1 HST1 HEX1
                  gi_wp2
                  refine round_held (S := fun w' => ((w'.cell? ⟨Bx, 0, none⟩ = some (.int .u64 x.1.2.id) ∧ w'.cell? ⟨Bx, 1, none⟩ = some (.int .u64 x.1.2.off) ∧ w'.cell? ⟨Bx, 2, none⟩ = some (.int .u32 x.1.2.ln) ∧ w'.cell? ⟨Bx, 3, none⟩ = some (.int .u32 x.1.2.rn)) ∧ (w'.cell? ⟨g', off' + c * 4, none⟩ = some (.int .u64 f.id) ∧ w'.cell? ⟨g', off' + c * 4 + 1, none⟩ = some (.int .u64 f.off) ∧ w'.cell? ⟨g', off' + c * 4 + 2, none⟩ = some (.int .u32 f.ln) ∧ w'.cell? ⟨g', off' + c * 4 + 3, none⟩ = some (.int .u32 f.rn))) ∧ w'.cell? ⟨U1.heap.size, 0, none⟩ = some (.int .i64 (c : Int)) ∧ w'.cell? ⟨w1.heap.size, 0, none⟩ = some (.slice (some ⟨g', off', none⟩) l.length cap)) hmx (by kernel_rfl) (by rintro ⟨_, _, h⟩; exact h) HS0 (fun hH0 => ?_)
                  refine takeH (i := 0) (d := 37) (v := ?_) rfl rfl (by kernel_rfl) (by kernel_rfl) (by kernel_rfl) (fun _ _ _ h => h) (Or.inl ⟨by rfl, ?y0⟩) hH0 ?_
                  case y0 => intro w hSw; go_simp; try with_reducible rfl
                  try simp only [Act.put, List.setIfInBounds_toArray, List.set_cons_zero, List.set_cons_succ]
                  refine takeH (i := 1) (d := 38) (v := ?_) rfl rfl (by kernel_rfl) (by kernel_rfl) (by kernel_rfl) (fun _ _ _ h => h) (Or.inl ⟨by rfl, ?y1⟩) hH0 ?_
                  case y1 => intro w hSw; go_simp; try with_reducible rfl
                  try simp only [Act.put, List.setIfInBounds_toArray, List.set_cons_zero, List.set_cons_succ]
                  refine takeH (i := 2) (d := 39) (v := ?_) rfl rfl (by kernel_rfl) (by kernel_rfl) (by kernel_rfl) (fun _ _ _ h => h) (Or.inl ⟨by rfl, ?y2⟩) hH0 ?_
                  case y2 => intro w hSw; go_simp; try with_reducible rfl
                  try simp only [Act.put, List.setIfInBounds_toArray, List.set_cons_zero, List.set_cons_succ]
                  refine takeH (i := 3) (d := 40) (v := ?_) rfl rfl (by kernel_rfl) (by kernel_rfl) (by kernel_rfl) (fun _ _ _ h => h) (Or.inl ⟨by rfl, ?y3⟩) hH0 ?_
                  case y3 => intro w hSw; go_simp; try with_reducible rfl
                  try simp only [Act.put, List.setIfInBounds_toArray, List.set_cons_zero, List.set_cons_succ]
                  refine takeH (i := 4) (d := 41) (v := ?_) rfl rfl (by kernel_rfl) (by kernel_rfl) (by kernel_rfl) (fun _ _ _ h => h) (Or.inl ⟨by rfl, ?y4⟩) hH0 ?_
                  case y4 => intro w hSw; go_simp; try with_reducible rfl
                  try simp only [Act.put, List.setIfInBounds_toArray, List.set_cons_zero, List.set_cons_succ]
                  refine takeH (i := 5) (d := 42) (v := ?_) rfl rfl (by kernel_rfl) (by kernel_rfl) (by kernel_rfl) (fun _ _ _ h => h) (Or.inl ⟨by rfl, ?y5⟩) hH0 ?_
                  case y5 => intro w hSw; go_simp; try with_reducible rfl
                  try simp only [Act.put, List.setIfInBounds_toArray, List.set_cons_zero, List.set_cons_succ]
                  refine takeH (i := 6) (d := 43) (v := ?_) rfl rfl (by kernel_rfl) (by kernel_rfl) (by kernel_rfl) (fun _ _ _ h => h) (Or.inl ⟨by rfl, ?y6⟩) hH0 ?_
                  case y6 => intro w hSw; go_simp; try with_reducible rfl
                  try simp only [Act.put, List.setIfInBounds_toArray, List.set_cons_zero, List.set_cons_succ]
                  refine takeH (i := 7) (d := 44) (v := ?_) rfl rfl (by kernel_rfl) (by kernel_rfl) (by kernel_rfl) (fun _ _ _ h => h) (Or.inl ⟨by rfl, ?y7⟩) hH0 ?_
                  case y7 => intro w hSw; go_simp; try with_reducible rfl
                  try simp only [Act.put, List.setIfInBounds_toArray, List.set_cons_zero, List.set_cons_succ]
                  refine takeH (i := 8) (d := 45) (v := ?_) rfl rfl (by kernel_rfl) (by kernel_rfl) (by kernel_rfl) (fun _ _ _ h => h) (Or.inl ⟨by rfl, ?y8⟩) hH0 ?_
                  case y8 => intro w hSw; go_simp; try with_reducible rfl
                  try simp only [Act.put, List.setIfInBounds_toArray, List.set_cons_zero, List.set_cons_succ]
                  refine takeH (i := 9) (d := 46) (v := ?_) rfl rfl (by kernel_rfl) (by kernel_rfl) (by kernel_rfl) (fun _ _ _ h => h) (Or.inl ⟨by rfl, ?y9⟩) hH0 ?_
                  case y9 => intro w hSw; go_simp; try with_reducible rfl
                  try simp only [Act.put, List.setIfInBounds_toArray, List.set_cons_zero, List.set_cons_succ]
                  refine takeH (i := 10) (d := 47) (v := ?_) rfl rfl (by kernel_rfl) (by kernel_rfl) (by kernel_rfl) (fun _ _ _ h => h) (Or.inl ⟨by rfl, ?y10⟩) hH0 ?_
                  case y10 => intro w hSw; go_simp; try with_reducible rfl
                  try simp only [Act.put, List.setIfInBounds_toArray, List.set_cons_zero, List.set_cons_succ]
                  refine takeH (i := 11) (d := 48) (v := ?_) rfl rfl (by kernel_rfl) (by kernel_rfl) (by kernel_rfl) (fun _ _ _ h => h) (Or.inl ⟨by rfl, ?y11⟩) hH0 ?_
                  case y11 => intro w hSw; go_simp; try with_reducible rfl
                  try simp only [Act.put, List.setIfInBounds_toArray, List.set_cons_zero, List.set_cons_succ]
                  refine takeH (i := 12) (d := 49) (v := ?_) rfl rfl (by kernel_rfl) (by kernel_rfl) (by kernel_rfl) (fun _ _ _ h => h) (Or.inl ⟨by rfl, ?y12⟩) hH0 ?_
                  case y12 => intro w hSw; go_simp; try with_reducible rfl
                  try simp only [Act.put, List.setIfInBounds_toArray, List.set_cons_zero, List.set_cons_succ]
                  refine takeH (i := 13) (d := 50) (v := ?_) rfl rfl (by kernel_rfl) (by kernel_rfl) (by kernel_rfl) (fun _ _ _ h => h) (Or.inl ⟨by rfl, ?y13⟩) hH0 ?_
                  case y13 => intro w hSw; go_simp; try with_reducible rfl
                  try simp only [Act.put, List.setIfInBounds_toArray, List.set_cons_zero, List.set_cons_succ]
                  refine takeH (i := 14) (d := 51) (v := ?_) rfl rfl (by kernel_rfl) (by kernel_rfl) (by kernel_rfl) (fun _ _ _ h => h) (Or.inl ⟨by rfl, ?y14⟩) hH0 ?_
                  case y14 => intro w hSw; go_simp; try with_reducible rfl
                  try simp only [Act.put, List.setIfInBounds_toArray, List.set_cons_zero, List.set_cons_succ]
                  refine takeH (i := 15) (d := 52) (v := ?_) rfl rfl (by kernel_rfl) (by kernel_rfl) (by kernel_rfl) (fun _ _ _ h => h) (Or.inl ⟨by rfl, ?y15⟩) hH0 ?_
                  case y15 => intro w hSw; go_simp; try with_reducible rfl
                  try simp only [Act.put, List.setIfInBounds_toArray, List.set_cons_zero, List.set_cons_succ]
                  refine takeH (i := 16) (d := 53) (v := ?_) rfl rfl (by kernel_rfl) (by kernel_rfl) (by kernel_rfl) (fun _ _ _ h => h) (Or.inl ⟨by rfl, ?y16⟩) hH0 ?_
                  case y16 => intro w hSw; go_simp; try with_reducible rfl
                  try simp only [Act.put, List.setIfInBounds_toArray, List.set_cons_zero, List.set_cons_succ]
                  refine takeH (i := 17) (d := 54) (v := ?_) rfl rfl (by kernel_rfl) (by kernel_rfl) (by kernel_rfl) (fun _ _ _ h => h) (Or.inl ⟨by rfl, ?y17⟩) hH0 ?_
                  case y17 => intro w hSw; go_simp; try with_reducible rfl
                  try simp only [Act.put, List.setIfInBounds_toArray, List.set_cons_zero, List.set_cons_succ]
                  refine wpAnyH_done (by kernel_rfl) ?_ _
                  obtain ⟨-, cN, -⟩ := hH0
                  have cS := HcS.out
                  have cM2 := HcM2.out
                  gi_wp2
                  exact ⟨((KeepsOthers.setCell W ⟨U1.heap.size, 0, none⟩ _).from _).trans (keeps_below (Below.drew (Below.refl _ _))), HEXa.out⟩
                · have hde : ((c : Int) + 1 == most) = false := by simp; omega
                  clear hJ h1 h2 h3 h4 hf hgf hgf3 hxi hdr HXR1 HST1 HEX1
                  gi_wp2
                  refine round_held (S := fun w' => ((w'.cell? ⟨Bx, 0, none⟩ = some (.int .u64 x.1.2.id) ∧ w'.cell? ⟨Bx, 1, none⟩ = some (.int .u64 x.1.2.off) ∧ w'.cell? ⟨Bx, 2, none⟩ = some (.int .u32 x.1.2.ln) ∧ w'.cell? ⟨Bx, 3, none⟩ = some (.int .u32 x.1.2.rn)) ∧ (w'.cell? ⟨g', off' + c * 4, none⟩ = some (.int .u64 f.id) ∧ w'.cell? ⟨g', off' + c * 4 + 1, none⟩ = some (.int .u64 f.off) ∧ w'.cell? ⟨g', off' + c * 4 + 2, none⟩ = some (.int .u32 f.ln) ∧ w'.cell? ⟨g', off' + c * 4 + 3, none⟩ = some (.int .u32 f.rn))) ∧ w'.cell? ⟨U1.heap.size, 0, none⟩ = some (.int .i64 (c : Int)) ∧ w'.cell? ⟨w1.heap.size, 0, none⟩ = some (.slice (some ⟨g', off', none⟩) l.length cap)) hmx (by kernel_rfl) (by rintro ⟨_, _, h⟩; exact h) HS0 (fun hH0 => ?_)
                  refine takeH (i := 0) (d := 37) (v := ?_) rfl rfl (by kernel_rfl) (by kernel_rfl) (by kernel_rfl) (fun _ _ _ h => h) (Or.inl ⟨by rfl, ?y0⟩) hH0 ?_
                  case y0 => intro w hSw; go_simp; try with_reducible rfl
                  try simp only [Act.put, List.setIfInBounds_toArray, List.set_cons_zero, List.set_cons_succ]
                  refine takeH (i := 1) (d := 38) (v := ?_) rfl rfl (by kernel_rfl) (by kernel_rfl) (by kernel_rfl) (fun _ _ _ h => h) (Or.inl ⟨by rfl, ?y1⟩) hH0 ?_
                  case y1 => intro w hSw; go_simp; try with_reducible rfl
                  try simp only [Act.put, List.setIfInBounds_toArray, List.set_cons_zero, List.set_cons_succ]
                  refine takeH (i := 2) (d := 39) (v := ?_) rfl rfl (by kernel_rfl) (by kernel_rfl) (by kernel_rfl) (fun _ _ _ h => h) (Or.inl ⟨by rfl, ?y2⟩) hH0 ?_
                  case y2 => intro w hSw; go_simp; try with_reducible rfl
                  try simp only [Act.put, List.setIfInBounds_toArray, List.set_cons_zero, List.set_cons_succ]
                  refine takeH (i := 3) (d := 40) (v := ?_) rfl rfl (by kernel_rfl) (by kernel_rfl) (by kernel_rfl) (fun _ _ _ h => h) (Or.inl ⟨by rfl, ?y3⟩) hH0 ?_
                  case y3 => intro w hSw; go_simp; try with_reducible rfl
                  try simp only [Act.put, List.setIfInBounds_toArray, List.set_cons_zero, List.set_cons_succ]
                  refine takeH (i := 4) (d := 41) (v := ?_) rfl rfl (by kernel_rfl) (by kernel_rfl) (by kernel_rfl) (fun _ _ _ h => h) (Or.inl ⟨by rfl, ?y4⟩) hH0 ?_
                  case y4 => intro w hSw; go_simp; try with_reducible rfl
                  try simp only [Act.put, List.setIfInBounds_toArray, List.set_cons_zero, List.set_cons_succ]
                  refine takeH (i := 5) (d := 42) (v := ?_) rfl rfl (by kernel_rfl) (by kernel_rfl) (by kernel_rfl) (fun _ _ _ h => h) (Or.inl ⟨by rfl, ?y5⟩) hH0 ?_
                  case y5 => intro w hSw; go_simp; try with_reducible rfl
                  try simp only [Act.put, List.setIfInBounds_toArray, List.set_cons_zero, List.set_cons_succ]
                  refine takeH (i := 6) (d := 43) (v := ?_) rfl rfl (by kernel_rfl) (by kernel_rfl) (by kernel_rfl) (fun _ _ _ h => h) (Or.inl ⟨by rfl, ?y6⟩) hH0 ?_
                  case y6 => intro w hSw; go_simp; try with_reducible rfl
                  try simp only [Act.put, List.setIfInBounds_toArray, List.set_cons_zero, List.set_cons_succ]
                  refine takeH (i := 7) (d := 44) (v := ?_) rfl rfl (by kernel_rfl) (by kernel_rfl) (by kernel_rfl) (fun _ _ _ h => h) (Or.inl ⟨by rfl, ?y7⟩) hH0 ?_
                  case y7 => intro w hSw; go_simp; try with_reducible rfl
                  try simp only [Act.put, List.setIfInBounds_toArray, List.set_cons_zero, List.set_cons_succ]
                  refine takeH (i := 8) (d := 45) (v := ?_) rfl rfl (by kernel_rfl) (by kernel_rfl) (by kernel_rfl) (fun _ _ _ h => h) (Or.inl ⟨by rfl, ?y8⟩) hH0 ?_
                  case y8 => intro w hSw; go_simp; try with_reducible rfl
                  try simp only [Act.put, List.setIfInBounds_toArray, List.set_cons_zero, List.set_cons_succ]
                  refine takeH (i := 9) (d := 46) (v := ?_) rfl rfl (by kernel_rfl) (by kernel_rfl) (by kernel_rfl) (fun _ _ _ h => h) (Or.inl ⟨by rfl, ?y9⟩) hH0 ?_
                  case y9 => intro w hSw; go_simp; try with_reducible rfl
                  try simp only [Act.put, List.setIfInBounds_toArray, List.set_cons_zero, List.set_cons_succ]
                  refine takeH (i := 10) (d := 47) (v := ?_) rfl rfl (by kernel_rfl) (by kernel_rfl) (by kernel_rfl) (fun _ _ _ h => h) (Or.inl ⟨by rfl, ?y10⟩) hH0 ?_
                  case y10 => intro w hSw; go_simp; try with_reducible rfl
                  try simp only [Act.put, List.setIfInBounds_toArray, List.set_cons_zero, List.set_cons_succ]
                  refine takeH (i := 11) (d := 48) (v := ?_) rfl rfl (by kernel_rfl) (by kernel_rfl) (by kernel_rfl) (fun _ _ _ h => h) (Or.inl ⟨by rfl, ?y11⟩) hH0 ?_
                  case y11 => intro w hSw; go_simp; try with_reducible rfl
                  try simp only [Act.put, List.setIfInBounds_toArray, List.set_cons_zero, List.set_cons_succ]
                  refine takeH (i := 12) (d := 49) (v := ?_) rfl rfl (by kernel_rfl) (by kernel_rfl) (by kernel_rfl) (fun _ _ _ h => h) (Or.inl ⟨by rfl, ?y12⟩) hH0 ?_
                  case y12 => intro w hSw; go_simp; try with_reducible rfl
                  try simp only [Act.put, List.setIfInBounds_toArray, List.set_cons_zero, List.set_cons_succ]
                  refine takeH (i := 13) (d := 50) (v := ?_) rfl rfl (by kernel_rfl) (by kernel_rfl) (by kernel_rfl) (fun _ _ _ h => h) (Or.inl ⟨by rfl, ?y13⟩) hH0 ?_
                  case y13 => intro w hSw; go_simp; try with_reducible rfl
                  try simp only [Act.put, List.setIfInBounds_toArray, List.set_cons_zero, List.set_cons_succ]
                  refine takeH (i := 14) (d := 51) (v := ?_) rfl rfl (by kernel_rfl) (by kernel_rfl) (by kernel_rfl) (fun _ _ _ h => h) (Or.inl ⟨by rfl, ?y14⟩) hH0 ?_
                  case y14 => intro w hSw; go_simp; try with_reducible rfl
                  try simp only [Act.put, List.setIfInBounds_toArray, List.set_cons_zero, List.set_cons_succ]
                  refine takeH (i := 15) (d := 52) (v := ?_) rfl rfl (by kernel_rfl) (by kernel_rfl) (by kernel_rfl) (fun _ _ _ h => h) (Or.inl ⟨by rfl, ?y15⟩) hH0 ?_
                  case y15 => intro w hSw; go_simp; try with_reducible rfl
                  try simp only [Act.put, List.setIfInBounds_toArray, List.set_cons_zero, List.set_cons_succ]
                  refine takeH (i := 16) (d := 53) (v := ?_) rfl rfl (by kernel_rfl) (by kernel_rfl) (by kernel_rfl) (fun _ _ _ h => h) (Or.inl ⟨by rfl, ?y16⟩) hH0 ?_
                  case y16 => intro w hSw; go_simp; try with_reducible rfl
                  try simp only [Act.put, List.setIfInBounds_toArray, List.set_cons_zero, List.set_cons_succ]
                  refine takeH (i := 17) (d := 54) (v := ?_) rfl rfl (by kernel_rfl) (by kernel_rfl) (by kernel_rfl) (fun _ _ _ h => h) (Or.inl ⟨by rfl, ?y17⟩) hH0 ?_
                  case y17 => intro w hSw; go_simp; try with_reducible rfl
                  try simp only [Act.put, List.setIfInBounds_toArray, List.set_cons_zero, List.set_cons_succ]
                  refine wpAnyH_done (by kernel_rfl) ?_ _
                  obtain ⟨-, cN, -⟩ := hH0
                  have cS := HcS.out
                  have cM2 := HcM2.out
                  gi_wp2
                  exact ⟨((KeepsOthers.setCell W ⟨U1.heap.size, 0, none⟩ _).from _).trans (keeps_below (Below.drew (Below.refl _ _))), (KC.setCell U1.heap.size W _).trans (KC.below (Below.drew (Below.refl _ _))), HSTa.out⟩
              · rw [decide_eq_false h3] at hq
                have HXR := Lib.hid (HXR1.out (fun h => h3 (h.2.2.trans hgf)))
                clear h1 h2 h3 hf hgf hxi hdr HXR1 HST1 HEX1
                gi_wp2
                refine round_held (S := fun w' => ((w'.cell? ⟨Bx, 0, none⟩ = some (.int .u64 x.1.2.id) ∧ w'.cell? ⟨Bx, 1, none⟩ = some (.int .u64 x.1.2.off) ∧ w'.cell? ⟨Bx, 2, none⟩ = some (.int .u32 x.1.2.ln) ∧ w'.cell? ⟨Bx, 3, none⟩ = some (.int .u32 x.1.2.rn)) ∧ (w'.cell? ⟨g', off' + c * 4, none⟩ = some (.int .u64 f.id) ∧ w'.cell? ⟨g', off' + c * 4 + 1, none⟩ = some (.int .u64 f.off) ∧ w'.cell? ⟨g', off' + c * 4 + 2, none⟩ = some (.int .u32 f.ln) ∧ w'.cell? ⟨g', off' + c * 4 + 3, none⟩ = some (.int .u32 f.rn))) ∧ w'.cell? ⟨U1.heap.size, 0, none⟩ = some (.int .i64 (c : Int)) ∧ w'.cell? ⟨w1.heap.size, 0, none⟩ = some (.slice (some ⟨g', off', none⟩) l.length cap)) hmx (by kernel_rfl) (by rintro ⟨_, _, h⟩; exact h) HS0 (fun hH0 => ?_)
                refine takeH (i := 0) (d := 37) (v := ?_) rfl rfl (by kernel_rfl) (by kernel_rfl) (by kernel_rfl) (fun _ _ _ h => h) (Or.inl ⟨by rfl, ?y0⟩) hH0 ?_
                case y0 => intro w hSw; go_simp; try with_reducible rfl
                try simp only [Act.put, List.setIfInBounds_toArray, List.set_cons_zero, List.set_cons_succ]
                refine takeH (i := 1) (d := 38) (v := ?_) rfl rfl (by kernel_rfl) (by kernel_rfl) (by kernel_rfl) (fun _ _ _ h => h) (Or.inl ⟨by rfl, ?y1⟩) hH0 ?_
                case y1 => intro w hSw; go_simp; try with_reducible rfl
                try simp only [Act.put, List.setIfInBounds_toArray, List.set_cons_zero, List.set_cons_succ]
                refine takeH (i := 2) (d := 39) (v := ?_) rfl rfl (by kernel_rfl) (by kernel_rfl) (by kernel_rfl) (fun _ _ _ h => h) (Or.inl ⟨by rfl, ?y2⟩) hH0 ?_
                case y2 => intro w hSw; go_simp; try with_reducible rfl
                try simp only [Act.put, List.setIfInBounds_toArray, List.set_cons_zero, List.set_cons_succ]
                refine takeH (i := 3) (d := 40) (v := ?_) rfl rfl (by kernel_rfl) (by kernel_rfl) (by kernel_rfl) (fun _ _ _ h => h) (Or.inl ⟨by rfl, ?y3⟩) hH0 ?_
                case y3 => intro w hSw; go_simp; try with_reducible rfl
                try simp only [Act.put, List.setIfInBounds_toArray, List.set_cons_zero, List.set_cons_succ]
                refine takeH (i := 4) (d := 41) (v := ?_) rfl rfl (by kernel_rfl) (by kernel_rfl) (by kernel_rfl) (fun _ _ _ h => h) (Or.inl ⟨by rfl, ?y4⟩) hH0 ?_
                case y4 => intro w hSw; go_simp; try with_reducible rfl
                try simp only [Act.put, List.setIfInBounds_toArray, List.set_cons_zero, List.set_cons_succ]
                refine takeH (i := 5) (d := 42) (v := ?_) rfl rfl (by kernel_rfl) (by kernel_rfl) (by kernel_rfl) (fun _ _ _ h => h) (Or.inl ⟨by rfl, ?y5⟩) hH0 ?_
                case y5 => intro w hSw; go_simp; try with_reducible rfl
                try simp only [Act.put, List.setIfInBounds_toArray, List.set_cons_zero, List.set_cons_succ]
                refine takeH (i := 6) (d := 43) (v := ?_) rfl rfl (by kernel_rfl) (by kernel_rfl) (by kernel_rfl) (fun _ _ _ h => h) (Or.inl ⟨by rfl, ?y6⟩) hH0 ?_
                case y6 => intro w hSw; go_simp; try with_reducible rfl
                try simp only [Act.put, List.setIfInBounds_toArray, List.set_cons_zero, List.set_cons_succ]
                refine takeH (i := 7) (d := 44) (v := ?_) rfl rfl (by kernel_rfl) (by kernel_rfl) (by kernel_rfl) (fun _ _ _ h => h) (Or.inl ⟨by rfl, ?y7⟩) hH0 ?_
                case y7 => intro w hSw; go_simp; try with_reducible rfl
                try simp only [Act.put, List.setIfInBounds_toArray, List.set_cons_zero, List.set_cons_succ]
                refine takeH (i := 8) (d := 45) (v := ?_) rfl rfl (by kernel_rfl) (by kernel_rfl) (by kernel_rfl) (fun _ _ _ h => h) (Or.inl ⟨by rfl, ?y8⟩) hH0 ?_
                case y8 => intro w hSw; go_simp; try with_reducible rfl
                try simp only [Act.put, List.setIfInBounds_toArray, List.set_cons_zero, List.set_cons_succ]
                refine takeH (i := 9) (d := 46) (v := ?_) rfl rfl (by kernel_rfl) (by kernel_rfl) (by kernel_rfl) (fun _ _ _ h => h) (Or.inl ⟨by rfl, ?y9⟩) hH0 ?_
                case y9 => intro w hSw; go_simp; try with_reducible rfl
                try simp only [Act.put, List.setIfInBounds_toArray, List.set_cons_zero, List.set_cons_succ]
                refine takeH (i := 10) (d := 47) (v := ?_) rfl rfl (by kernel_rfl) (by kernel_rfl) (by kernel_rfl) (fun _ _ _ h => h) (Or.inl ⟨by rfl, ?y10⟩) hH0 ?_
                case y10 => intro w hSw; go_simp; try with_reducible rfl
                try simp only [Act.put, List.setIfInBounds_toArray, List.set_cons_zero, List.set_cons_succ]
                refine takeH (i := 11) (d := 48) (v := ?_) rfl rfl (by kernel_rfl) (by kernel_rfl) (by kernel_rfl) (fun _ _ _ h => h) (Or.inl ⟨by rfl, ?y11⟩) hH0 ?_
                case y11 => intro w hSw; go_simp; try with_reducible rfl
                try simp only [Act.put, List.setIfInBounds_toArray, List.set_cons_zero, List.set_cons_succ]
                refine takeH (i := 12) (d := 49) (v := ?_) rfl rfl (by kernel_rfl) (by kernel_rfl) (by kernel_rfl) (fun _ _ _ h => h) (Or.inl ⟨by rfl, ?y12⟩) hH0 ?_
                case y12 => intro w hSw; go_simp; try with_reducible rfl
                try simp only [Act.put, List.setIfInBounds_toArray, List.set_cons_zero, List.set_cons_succ]
                refine takeH (i := 13) (d := 50) (v := ?_) rfl rfl (by kernel_rfl) (by kernel_rfl) (by kernel_rfl) (fun _ _ _ h => h) (Or.inl ⟨by rfl, ?y13⟩) hH0 ?_
                case y13 => intro w hSw; go_simp; try with_reducible rfl
                try simp only [Act.put, List.setIfInBounds_toArray, List.set_cons_zero, List.set_cons_succ]
                refine takeH (i := 14) (d := 51) (v := ?_) rfl rfl (by kernel_rfl) (by kernel_rfl) (by kernel_rfl) (fun _ _ _ h => h) (Or.inl ⟨by rfl, ?y14⟩) hH0 ?_
                case y14 => intro w hSw; go_simp; try with_reducible rfl
                try simp only [Act.put, List.setIfInBounds_toArray, List.set_cons_zero, List.set_cons_succ]
                refine takeH (i := 15) (d := 52) (v := ?_) rfl rfl (by kernel_rfl) (by kernel_rfl) (by kernel_rfl) (fun _ _ _ h => h) (Or.inl ⟨by rfl, ?y15⟩) hH0 ?_
                case y15 => intro w hSw; go_simp; try with_reducible rfl
                try simp only [Act.put, List.setIfInBounds_toArray, List.set_cons_zero, List.set_cons_succ]
                refine takeH (i := 16) (d := 53) (v := ?_) rfl rfl (by kernel_rfl) (by kernel_rfl) (by kernel_rfl) (fun _ _ _ h => h) (Or.inl ⟨by rfl, ?y16⟩) hH0 ?_
                case y16 => intro w hSw; go_simp; try with_reducible rfl
                try simp only [Act.put, List.setIfInBounds_toArray, List.set_cons_zero, List.set_cons_succ]
                refine takeH (i := 17) (d := 54) (v := ?_) rfl rfl (by kernel_rfl) (by kernel_rfl) (by kernel_rfl) (fun _ _ _ h => h) (Or.inl ⟨by rfl, ?y17⟩) hH0 ?_
                case y17 => intro w hSw; go_simp; try with_reducible rfl
                try simp only [Act.put, List.setIfInBounds_toArray, List.set_cons_zero, List.set_cons_succ]
                refine wpAnyH_done (by kernel_rfl) ?_ _
                clear hH0
                gi_wp2
                exact ⟨((KeepsOthers.setCell W ⟨w.heap.size + 1, 0, none⟩ _).from _).trans (keeps_below (Below.drew (Below.refl _ _))), HXR.out _⟩
            · have hd2 : ((x.1.1 : Int) != (c : Int)) = true := by simp; omega
              have HXR := Lib.hid (HXR1.out (fun h => h2 h.1))
              have HS0 : (fun w' : World => w'.cell? ⟨U1.heap.size, 0, none⟩ = some (.int .i64 (c : Int)) ∧ w'.cell? ⟨w1.heap.size, 0, none⟩ = some (.slice al l.length cap)) W.drew := ⟨cN, cL⟩
              clear h1 h2 hxi hdr HXR1 HST1 HEX1 hE bN bL bR bM bX cN cL hBW
              gi_wp2
              refine round_held (S := fun w' => w'.cell? ⟨U1.heap.size, 0, none⟩ = some (.int .i64 (c : Int)) ∧ w'.cell? ⟨w1.heap.size, 0, none⟩ = some (.slice al l.length cap)) hmx (by kernel_rfl) (by rintro ⟨_, _, h⟩; exact h) HS0 (fun hH0 => ?_)
              refine takeH (i := 0) (d := 37) (v := ?_) rfl rfl (by kernel_rfl) (by kernel_rfl) (by kernel_rfl) (fun _ _ _ h => h) (Or.inl ⟨by rfl, ?y0⟩) hH0 ?_
              case y0 => intro w hSw; go_simp; try with_reducible rfl
              try simp only [Act.put, List.setIfInBounds_toArray, List.set_cons_zero, List.set_cons_succ]
              refine takeH (i := 1) (d := 38) (v := ?_) rfl rfl (by kernel_rfl) (by kernel_rfl) (by kernel_rfl) (fun _ _ _ h => h) (Or.inl ⟨by rfl, ?y1⟩) hH0 ?_
              case y1 => intro w hSw; go_simp; try with_reducible rfl
              try simp only [Act.put, List.setIfInBounds_toArray, List.set_cons_zero, List.set_cons_succ]
              refine takeH (i := 2) (d := 39) (v := ?_) rfl rfl (by kernel_rfl) (by kernel_rfl) (by kernel_rfl) (fun _ _ _ h => h) (Or.inl ⟨by rfl, ?y2⟩) hH0 ?_
              case y2 => intro w hSw; go_simp; try with_reducible rfl
              try simp only [Act.put, List.setIfInBounds_toArray, List.set_cons_zero, List.set_cons_succ]
              refine takeH (i := 3) (d := 40) (v := ?_) rfl rfl (by kernel_rfl) (by kernel_rfl) (by kernel_rfl) (fun _ _ _ h => h) (Or.inl ⟨by rfl, ?y3⟩) hH0 ?_
              case y3 => intro w hSw; go_simp; try with_reducible rfl
              try simp only [Act.put, List.setIfInBounds_toArray, List.set_cons_zero, List.set_cons_succ]
              refine takeH (i := 4) (d := 41) (v := ?_) rfl rfl (by kernel_rfl) (by kernel_rfl) (by kernel_rfl) (fun _ _ _ h => h) (Or.inl ⟨by rfl, ?y4⟩) hH0 ?_
              case y4 => intro w hSw; go_simp; try with_reducible rfl
              try simp only [Act.put, List.setIfInBounds_toArray, List.set_cons_zero, List.set_cons_succ]
              refine takeH (i := 5) (d := 42) (v := ?_) rfl rfl (by kernel_rfl) (by kernel_rfl) (by kernel_rfl) (fun _ _ _ h => h) (Or.inl ⟨by rfl, ?y5⟩) hH0 ?_
              case y5 => intro w hSw; go_simp; try with_reducible rfl
              try simp only [Act.put, List.setIfInBounds_toArray, List.set_cons_zero, List.set_cons_succ]
              refine takeH (i := 6) (d := 43) (v := ?_) rfl rfl (by kernel_rfl) (by kernel_rfl) (by kernel_rfl) (fun _ _ _ h => h) (Or.inl ⟨by rfl, ?y6⟩) hH0 ?_
              case y6 => intro w hSw; go_simp; try with_reducible rfl
              try simp only [Act.put, List.setIfInBounds_toArray, List.set_cons_zero, List.set_cons_succ]
              refine takeH (i := 7) (d := 44) (v := ?_) rfl rfl (by kernel_rfl) (by kernel_rfl) (by kernel_rfl) (fun _ _ _ h => h) (Or.inl ⟨by rfl, ?y7⟩) hH0 ?_
              case y7 => intro w hSw; go_simp; try with_reducible rfl
              try simp only [Act.put, List.setIfInBounds_toArray, List.set_cons_zero, List.set_cons_succ]
              refine takeH (i := 8) (d := 45) (v := ?_) rfl rfl (by kernel_rfl) (by kernel_rfl) (by kernel_rfl) (fun _ _ _ h => h) (Or.inl ⟨by rfl, ?y8⟩) hH0 ?_
              case y8 => intro w hSw; go_simp; try with_reducible rfl
              try simp only [Act.put, List.setIfInBounds_toArray, List.set_cons_zero, List.set_cons_succ]
              refine takeH (i := 9) (d := 46) (v := ?_) rfl rfl (by kernel_rfl) (by kernel_rfl) (by kernel_rfl) (fun _ _ _ h => h) (Or.inl ⟨by rfl, ?y9⟩) hH0 ?_
              case y9 => intro w hSw; go_simp; try with_reducible rfl
              try simp only [Act.put, List.setIfInBounds_toArray, List.set_cons_zero, List.set_cons_succ]
              refine takeH (i := 10) (d := 47) (v := ?_) rfl rfl (by kernel_rfl) (by kernel_rfl) (by kernel_rfl) (fun _ _ _ h => h) (Or.inl ⟨by rfl, ?y10⟩) hH0 ?_
              case y10 => intro w hSw; go_simp; try with_reducible rfl
              try simp only [Act.put, List.setIfInBounds_toArray, List.set_cons_zero, List.set_cons_succ]
              refine takeH (i := 11) (d := 48) (v := undef) rfl rfl (by kernel_rfl) (by kernel_rfl) (by kernel_rfl) (fun _ _ _ h => h) (Or.inr ⟨by rfl, rfl⟩) hH0 ?_
              try simp only [Act.put, List.setIfInBounds_toArray, List.set_cons_zero, List.set_cons_succ]
              refine takeH (i := 12) (d := 49) (v := undef) rfl rfl (by kernel_rfl) (by kernel_rfl) (by kernel_rfl) (fun _ _ _ h => h) (Or.inr ⟨by rfl, rfl⟩) hH0 ?_
              try simp only [Act.put, List.setIfInBounds_toArray, List.set_cons_zero, List.set_cons_succ]
              refine takeH (i := 13) (d := 50) (v := undef) rfl rfl (by kernel_rfl) (by kernel_rfl) (by kernel_rfl) (fun _ _ _ h => h) (Or.inr ⟨by rfl, rfl⟩) hH0 ?_
              try simp only [Act.put, List.setIfInBounds_toArray, List.set_cons_zero, List.set_cons_succ]
              refine takeH (i := 14) (d := 51) (v := undef) rfl rfl (by kernel_rfl) (by kernel_rfl) (by kernel_rfl) (fun _ _ _ h => h) (Or.inr ⟨by rfl, rfl⟩) hH0 ?_
              try simp only [Act.put, List.setIfInBounds_toArray, List.set_cons_zero, List.set_cons_succ]
              refine takeH (i := 15) (d := 52) (v := undef) rfl rfl (by kernel_rfl) (by kernel_rfl) (by kernel_rfl) (fun _ _ _ h => h) (Or.inr ⟨by rfl, rfl⟩) hH0 ?_
              try simp only [Act.put, List.setIfInBounds_toArray, List.set_cons_zero, List.set_cons_succ]
              refine takeH (i := 16) (d := 53) (v := undef) rfl rfl (by kernel_rfl) (by kernel_rfl) (by kernel_rfl) (fun _ _ _ h => h) (Or.inr ⟨by rfl, rfl⟩) hH0 ?_
              try simp only [Act.put, List.setIfInBounds_toArray, List.set_cons_zero, List.set_cons_succ]
              refine takeH (i := 17) (d := 54) (v := ?_) rfl rfl (by kernel_rfl) (by kernel_rfl) (by kernel_rfl) (fun _ _ _ h => h) (Or.inl ⟨by rfl, ?y17⟩) hH0 ?_
              case y17 => intro w hSw; go_simp; try with_reducible rfl
              try simp only [Act.put, List.setIfInBounds_toArray, List.set_cons_zero, List.set_cons_succ]
              refine wpAnyH_done (by kernel_rfl) ?_ _
              clear hH0
              gi_wp2
              exact ⟨((KeepsOthers.setCell W ⟨w.heap.size + 1, 0, none⟩ _).from _).trans (keeps_below (Below.drew (Below.refl _ _))), HXR.out _⟩
          · have hd1 : decide ((l.length : Int) ≤ (c : Int)) = true := by simp; omega
            have hd1' : decide (l.length ≤ c) = true := by simp; omega
            have HXR := Lib.hid (HXR1.out (fun h => h1 h.2.1))
            have HS0 : (fun w' : World => w'.cell? ⟨U1.heap.size, 0, none⟩ = some (.int .i64 (c : Int)) ∧ w'.cell? ⟨w1.heap.size, 0, none⟩ = some (.slice al l.length cap)) W.drew := ⟨cN, cL⟩
            clear h1 hxi hdr HXR1 HST1 HEX1 hE bN bL bR bM bX cN cL hBW
            gi_wp2
            refine round_held (S := fun w' => w'.cell? ⟨U1.heap.size, 0, none⟩ = some (.int .i64 (c : Int)) ∧ w'.cell? ⟨w1.heap.size, 0, none⟩ = some (.slice al l.length cap)) hmx (by kernel_rfl) (by rintro ⟨_, _, h⟩; exact h) HS0 (fun hH0 => ?_)
            refine takeH (i := 0) (d := 37) (v := ?_) rfl rfl (by kernel_rfl) (by kernel_rfl) (by kernel_rfl) (fun _ _ _ h => h) (Or.inl ⟨by rfl, ?y0⟩) hH0 ?_
            case y0 => intro w hSw; go_simp; try with_reducible rfl
            try simp only [Act.put, List.setIfInBounds_toArray, List.set_cons_zero, List.set_cons_succ]
            refine takeH (i := 1) (d := 38) (v := ?_) rfl rfl (by kernel_rfl) (by kernel_rfl) (by kernel_rfl) (fun _ _ _ h => h) (Or.inl ⟨by rfl, ?y1⟩) hH0 ?_
            case y1 => intro w hSw; go_simp; try with_reducible rfl
            try simp only [Act.put, List.setIfInBounds_toArray, List.set_cons_zero, List.set_cons_succ]
            refine takeH (i := 2) (d := 39) (v := ?_) rfl rfl (by kernel_rfl) (by kernel_rfl) (by kernel_rfl) (fun _ _ _ h => h) (Or.inl ⟨by rfl, ?y2⟩) hH0 ?_
            case y2 => intro w hSw; go_simp; try with_reducible rfl
            try simp only [Act.put, List.setIfInBounds_toArray, List.set_cons_zero, List.set_cons_succ]
            refine takeH (i := 3) (d := 40) (v := ?_) rfl rfl (by kernel_rfl) (by kernel_rfl) (by kernel_rfl) (fun _ _ _ h => h) (Or.inl ⟨by rfl, ?y3⟩) hH0 ?_
            case y3 => intro w hSw; go_simp; try with_reducible rfl
            try simp only [Act.put, List.setIfInBounds_toArray, List.set_cons_zero, List.set_cons_succ]
            refine takeH (i := 4) (d := 41) (v := ?_) rfl rfl (by kernel_rfl) (by kernel_rfl) (by kernel_rfl) (fun _ _ _ h => h) (Or.inl ⟨by rfl, ?y4⟩) hH0 ?_
            case y4 => intro w hSw; go_simp; try with_reducible rfl
            try simp only [Act.put, List.setIfInBounds_toArray, List.set_cons_zero, List.set_cons_succ]
            refine takeH (i := 5) (d := 42) (v := undef) rfl rfl (by kernel_rfl) (by kernel_rfl) (by kernel_rfl) (fun _ _ _ h => h) (Or.inr ⟨by rfl, rfl⟩) hH0 ?_
            try simp only [Act.put, List.setIfInBounds_toArray, List.set_cons_zero, List.set_cons_succ]
            refine takeH (i := 6) (d := 43) (v := undef) rfl rfl (by kernel_rfl) (by kernel_rfl) (by kernel_rfl) (fun _ _ _ h => h) (Or.inr ⟨by rfl, rfl⟩) hH0 ?_
            try simp only [Act.put, List.setIfInBounds_toArray, List.set_cons_zero, List.set_cons_succ]
            refine takeH (i := 7) (d := 44) (v := undef) rfl rfl (by kernel_rfl) (by kernel_rfl) (by kernel_rfl) (fun _ _ _ h => h) (Or.inr ⟨by rfl, rfl⟩) hH0 ?_
            try simp only [Act.put, List.setIfInBounds_toArray, List.set_cons_zero, List.set_cons_succ]
            refine takeH (i := 8) (d := 45) (v := undef) rfl rfl (by kernel_rfl) (by kernel_rfl) (by kernel_rfl) (fun _ _ _ h => h) (Or.inr ⟨by rfl, rfl⟩) hH0 ?_
            try simp only [Act.put, List.setIfInBounds_toArray, List.set_cons_zero, List.set_cons_succ]
            refine takeH (i := 9) (d := 46) (v := ?_) rfl rfl (by kernel_rfl) (by kernel_rfl) (by kernel_rfl) (fun _ _ _ h => h) (Or.inl ⟨by rfl, ?y9⟩) hH0 ?_
            case y9 => intro w hSw; go_simp; try with_reducible rfl
            try simp only [Act.put, List.setIfInBounds_toArray, List.set_cons_zero, List.set_cons_succ]
            refine takeH (i := 10) (d := 47) (v := ?_) rfl rfl (by kernel_rfl) (by kernel_rfl) (by kernel_rfl) (fun _ _ _ h => h) (Or.inl ⟨by rfl, ?y10⟩) hH0 ?_
            case y10 => intro w hSw; go_simp; try with_reducible rfl
            try simp only [Act.put, List.setIfInBounds_toArray, List.set_cons_zero, List.set_cons_succ]
            refine takeH (i := 11) (d := 48) (v := undef) rfl rfl (by kernel_rfl) (by kernel_rfl) (by kernel_rfl) (fun _ _ _ h => h) (Or.inr ⟨by rfl, rfl⟩) hH0 ?_
            try simp only [Act.put, List.setIfInBounds_toArray, List.set_cons_zero, List.set_cons_succ]
            refine takeH (i := 12) (d := 49) (v := undef) rfl rfl (by kernel_rfl) (by kernel_rfl) (by kernel_rfl) (fun _ _ _ h => h) (Or.inr ⟨by rfl, rfl⟩) hH0 ?_
            try simp only [Act.put, List.setIfInBounds_toArray, List.set_cons_zero, List.set_cons_succ]
            refine takeH (i := 13) (d := 50) (v := undef) rfl rfl (by kernel_rfl) (by kernel_rfl) (by kernel_rfl) (fun _ _ _ h => h) (Or.inr ⟨by rfl, rfl⟩) hH0 ?_
            try simp only [Act.put, List.setIfInBounds_toArray, List.set_cons_zero, List.set_cons_succ]
            refine takeH (i := 14) (d := 51) (v := undef) rfl rfl (by kernel_rfl) (by kernel_rfl) (by kernel_rfl) (fun _ _ _ h => h) (Or.inr ⟨by rfl, rfl⟩) hH0 ?_
            try simp only [Act.put, List.setIfInBounds_toArray, List.set_cons_zero, List.set_cons_succ]
            refine takeH (i := 15) (d := 52) (v := undef) rfl rfl (by kernel_rfl) (by kernel_rfl) (by kernel_rfl) (fun _ _ _ h => h) (Or.inr ⟨by rfl, rfl⟩) hH0 ?_
            try simp only [Act.put, List.setIfInBounds_toArray, List.set_cons_zero, List.set_cons_succ]
            refine takeH (i := 16) (d := 53) (v := undef) rfl rfl (by kernel_rfl) (by kernel_rfl) (by kernel_rfl) (fun _ _ _ h => h) (Or.inr ⟨by rfl, rfl⟩) hH0 ?_
            try simp only [Act.put, List.setIfInBounds_toArray, List.set_cons_zero, List.set_cons_succ]
            refine takeH (i := 17) (d := 54) (v := ?_) rfl rfl (by kernel_rfl) (by kernel_rfl) (by kernel_rfl) (fun _ _ _ h => h) (Or.inl ⟨by rfl, ?y17⟩) hH0 ?_
            case y17 => intro w hSw; go_simp; try with_reducible rfl
            try simp only [Act.put, List.setIfInBounds_toArray, List.set_cons_zero, List.set_cons_succ]
            refine wpAnyH_done (by kernel_rfl) ?_ _
            clear hH0
            gi_wp2
            exact ⟨((KeepsOthers.setCell W ⟨w.heap.size + 1, 0, none⟩ _).from _).trans (keeps_below (Below.drew (Below.refl _ _))), HXR.out _⟩
        case hend =>
          rintro D2 nn U2 hD2 hnn hor ⟨bN, hkd, hBW⟩ hK
          have bL : Boxed U2 w1.heap.size 27 (.slice al l.length cap) := (hBW.block _ (by omega)).trans HL2.out
          have bM : Boxed U2 w.heap.size 5 (.int .u8 most) := (hBW.block _ (by omega)).trans HM2.out
          have HU2 := Lib.hid hBW
          have HKK2 : Hid (KD (some D2) U2) := Lib.hid (fun d e => by cases e; exact hK)
          have HKE2 := Lib.hid hkd
          have cN := bN.cell
          have cL := bL.cell
          have cM := bM.cell
          have hDs2 : D2 < U2.heap.size := (Array.getElem?_eq_some_iff.1 hK).1
          have hVD2 : V2.heap.size ≤ D2 := hD2
          have hwm : IntKind.i64.wrap most = most := by rw [IntKind.wrap_i64] <;> omega
          clear hBW hK bN bL bM hkd
          by_cases hnl : nn = l.length
          · have hd : ((nn : Int) != (l.length : Int)) = false := by simp; omega
            have hd' : (nn != l.length) = false := by simp; omega
            subst hnl
            clear hor
            gi_wp2
            all_goals (try (rename_i hz _; exact absurd hz (by simp [undef])))
            clear cN cL cM hwm

            rw [roundsIn_succ]
            gi_wp2
            refine ⟨trivial, (callsIn_wide.2 (repeat_any (65537 - t.size) _ (by omega) (by omega))).mono ?_⟩
            rintro y w3 ⟨r, rfl, hr, hb⟩
            have HU3 := Lib.hid (HU2.out.trans (hb.mono HU2.out.size))
            have HKK3 := Lib.hid (HKK2.out.below hb)
            have HKE3 := Lib.hid (HKE2.out.below hb)
            have hs3 := hb.size
            have hrs : r.size ≤ 65537 := by omega
            have hts : t.size ≤ 1500 := hts0
            have hdl := pdecD_any (t ++ r)
            have hbig : decD (t ++ r).data.toList = ([], 0, 5) := by
              unfold decD
              rw [if_pos (by rw [show (t ++ r).data.toList.length = (t ++ r).size from by simp, ByteArray.size_append]; omega)]
            have HDl := Lib.hid (fun W => hdl W (by rw [ByteArray.size_append]; unfold maxLen; omega))
            simp only [hbig] at HDl
            clear hb hdl hbig
            gi_wp2
            refine ⟨trivial, (callsIn_wide.2 (HDl.out _)).mono ?_⟩
            rintro y w4 ⟨v5, rfl, -, hb⟩
            have HU4 := Lib.hid (HU3.out.trans (hb.mono HU3.out.size))
            have HKK4 := Lib.hid (HKK3.out.below hb)
            have HKE4 := Lib.hid (HKE3.out.below hb)
            have hs4 := hb.size
            have bL4 : Boxed w4 w1.heap.size 27 (.slice al l.length cap) := (HU4.out.block _ (by omega)).trans HL2.out
            have cL := bL4.cell
            clear hb bL4
            by_cases he0 : e = 0
            · have hde : (e == 0) = true := by simpa using he0
              gi_wp2
              refine ⟨trivial, (callsIn_wide.2 (HA.out _)).mono ?_⟩
              rintro y w5 ⟨rfl, hb⟩
              have HU5 := Lib.hid (HU4.out.trans (hb.mono HU4.out.size))
              have HKK5 := Lib.hid (HKK4.out.below hb)
              have HKE5 := Lib.hid (HKE4.out.below hb)
              have hs5 := hb.size
              have bR5 : Boxed w5 (w.heap.size + 1) 4 (.bool false) := (HU5.out.block _ (by omega)).trans HR2.out
              have cR := bR5.cell
              have fR := bR5.frozen
              have HR5 := Lib.hid bR5
              have hBf : Below w.heap.size w (w5.setCell ⟨w.heap.size + 1, 0, none⟩ (.bool true)) := (HB2.out.trans (HU5.out.mono HB2.out.size)).setCell (p := ⟨w.heap.size + 1, 0, none⟩) (by show w.heap.size ≤ w.heap.size + 1; omega) _
              have hK2 := (HKK5.out.setCell (w.heap.size + 1) (.bool true) (fun e => by have := Option.some.inj e; omega)) D2 rfl
              have hK1' := (HKE5.out.setCell (w.heap.size + 1) (.bool true) (fun e => by have := Option.some.inj e; omega)) D1 rfl
              have hK1 : ((w5.setCell ⟨w.heap.size + 1, 0, none⟩ (.bool true)).putObj D2 (.deferred none)).heap[D1]? = some (.deferred (some [])) := (World.putObj_heap_other (by omega)).trans hK1'
              have hbx : Boxed (((w5.setCell ⟨w.heap.size + 1, 0, none⟩ (.bool true)).putObj D2 (.deferred none)).putObj D1 (.deferred none)) (w.heap.size + 1) 4 (.bool true) := (World.putObj_heap_other (by omega)).trans ((World.putObj_heap_other (by omega)).trans (HR5.out.set _))
              have hB6 := hBf.trans (belowK_b (w := w) (Nat.le_refl _) _ D2 _ (.deferred none) (by omega) hK2 rfl rfl)
              have hB7 := hB6.trans (belowK_b (w := w) (Nat.le_refl _) _ D1 _ (.deferred none) (by omega) hK1 rfl rfl)
              have HF := Lib.hid (And.intro hK2 (And.intro hK1 (And.intro hbx hB7)))
              clear hb bR5 hBf hK2 hK1' hK1 hbx hB6 hB7
              gi_wp2
              refine ⟨by simp, .inl ⟨D2, _, rfl, run_takeDeferred HF.out.1, ?_⟩⟩
              refine ⟨by simp, .inl ⟨D1, _, rfl, run_takeDeferred HF.out.2.1, ?_⟩⟩
              exact ⟨_, res_cell rfl _ _ (w.heap.size + 1) true rfl HF.out.2.2.1, rfl, HF.out.2.2.2⟩
            · have hln : l = [] := HBD.out he0
              have hde : (e == 0) = false := by simpa using he0
              have hl0 : ((l.length : Int) == 0) = true := by rw [hln]; rfl
              have hl0' : (l.length == 0) = true := by rw [hln]; rfl
              gi_wp2
              refine ⟨trivial, (callsIn_wide.2 (HA.out _)).mono ?_⟩
              rintro y w5 ⟨rfl, hb⟩
              have HU5 := Lib.hid (HU4.out.trans (hb.mono HU4.out.size))
              have HKK5 := Lib.hid (HKK4.out.below hb)
              have HKE5 := Lib.hid (HKE4.out.below hb)
              have hs5 := hb.size
              have bR5 : Boxed w5 (w.heap.size + 1) 4 (.bool false) := (HU5.out.block _ (by omega)).trans HR2.out
              have cR := bR5.cell
              have fR := bR5.frozen
              have HR5 := Lib.hid bR5
              have hBf : Below w.heap.size w (w5.setCell ⟨w.heap.size + 1, 0, none⟩ (.bool true)) := (HB2.out.trans (HU5.out.mono HB2.out.size)).setCell (p := ⟨w.heap.size + 1, 0, none⟩) (by show w.heap.size ≤ w.heap.size + 1; omega) _
              have hK2 := (HKK5.out.setCell (w.heap.size + 1) (.bool true) (fun e => by have := Option.some.inj e; omega)) D2 rfl
              have hK1' := (HKE5.out.setCell (w.heap.size + 1) (.bool true) (fun e => by have := Option.some.inj e; omega)) D1 rfl
              have hK1 : ((w5.setCell ⟨w.heap.size + 1, 0, none⟩ (.bool true)).putObj D2 (.deferred none)).heap[D1]? = some (.deferred (some [])) := (World.putObj_heap_other (by omega)).trans hK1'
              have hbx : Boxed (((w5.setCell ⟨w.heap.size + 1, 0, none⟩ (.bool true)).putObj D2 (.deferred none)).putObj D1 (.deferred none)) (w.heap.size + 1) 4 (.bool true) := (World.putObj_heap_other (by omega)).trans ((World.putObj_heap_other (by omega)).trans (HR5.out.set _))
              have hB6 := hBf.trans (belowK_b (w := w) (Nat.le_refl _) _ D2 _ (.deferred none) (by omega) hK2 rfl rfl)
              have hB7 := hB6.trans (belowK_b (w := w) (Nat.le_refl _) _ D1 _ (.deferred none) (by omega) hK1 rfl rfl)
              have HF := Lib.hid (And.intro hK2 (And.intro hK1 (And.intro hbx hB7)))
              clear hb bR5 hBf hK2 hK1' hK1 hbx hB6 hB7
              gi_wp2
              refine ⟨by simp, .inl ⟨D2, _, rfl, run_takeDeferred HF.out.1, ?_⟩⟩
              refine ⟨by simp, .inl ⟨D1, _, rfl, run_takeDeferred HF.out.2.1, ?_⟩⟩
              exact ⟨_, res_cell rfl _ _ (w.heap.size + 1) true rfl HF.out.2.2.1, rfl, HF.out.2.2.2⟩
          · have hmo : (nn : Int) = most := by rcases hor with h | h <;> omega
            have hd : ((nn : Int) != (l.length : Int)) = true := by simp; omega
            have hd' : (nn != l.length) = true := by simp; omega
            have hd2 : ((nn : Int) != most) = false := by simp; omega
            have hd3 : decide ((l.length : Int) < (nn : Int)) = false := by simp; omega
            have hd3' : decide (l.length < nn) = false := by simp; omega
            clear hor hnl hmo
            gi_wp2
            clear cN cL cM hwm

            rw [roundsIn_succ]
            gi_wp2
            refine ⟨trivial, (callsIn_wide.2 (repeat_any (65537 - t.size) _ (by omega) (by omega))).mono ?_⟩
            rintro y w3 ⟨r, rfl, hr, hb⟩
            have HU3 := Lib.hid (HU2.out.trans (hb.mono HU2.out.size))
            have HKK3 := Lib.hid (HKK2.out.below hb)
            have HKE3 := Lib.hid (HKE2.out.below hb)
            have hs3 := hb.size
            have hrs : r.size ≤ 65537 := by omega
            have hts : t.size ≤ 1500 := hts0
            have hdl := pdecD_any (t ++ r)
            have hbig : decD (t ++ r).data.toList = ([], 0, 5) := by
              unfold decD
              rw [if_pos (by rw [show (t ++ r).data.toList.length = (t ++ r).size from by simp, ByteArray.size_append]; omega)]
            have HDl := Lib.hid (fun W => hdl W (by rw [ByteArray.size_append]; unfold maxLen; omega))
            simp only [hbig] at HDl
            clear hb hdl hbig
            gi_wp2
            refine ⟨trivial, (callsIn_wide.2 (HDl.out _)).mono ?_⟩
            rintro y w4 ⟨v5, rfl, -, hb⟩
            have HU4 := Lib.hid (HU3.out.trans (hb.mono HU3.out.size))
            have HKK4 := Lib.hid (HKK3.out.below hb)
            have HKE4 := Lib.hid (HKE3.out.below hb)
            have hs4 := hb.size
            have bL4 : Boxed w4 w1.heap.size 27 (.slice al l.length cap) := (HU4.out.block _ (by omega)).trans HL2.out
            have cL := bL4.cell
            clear hb bL4
            by_cases he0 : e = 0
            · have hde : (e == 0) = true := by simpa using he0
              gi_wp2
              refine ⟨trivial, (callsIn_wide.2 (HA.out _)).mono ?_⟩
              rintro y w5 ⟨rfl, hb⟩
              have HU5 := Lib.hid (HU4.out.trans (hb.mono HU4.out.size))
              have HKK5 := Lib.hid (HKK4.out.below hb)
              have HKE5 := Lib.hid (HKE4.out.below hb)
              have hs5 := hb.size
              have bR5 : Boxed w5 (w.heap.size + 1) 4 (.bool false) := (HU5.out.block _ (by omega)).trans HR2.out
              have cR := bR5.cell
              have fR := bR5.frozen
              have HR5 := Lib.hid bR5
              have hBf : Below w.heap.size w (w5.setCell ⟨w.heap.size + 1, 0, none⟩ (.bool true)) := (HB2.out.trans (HU5.out.mono HB2.out.size)).setCell (p := ⟨w.heap.size + 1, 0, none⟩) (by show w.heap.size ≤ w.heap.size + 1; omega) _
              have hK2 := (HKK5.out.setCell (w.heap.size + 1) (.bool true) (fun e => by have := Option.some.inj e; omega)) D2 rfl
              have hK1' := (HKE5.out.setCell (w.heap.size + 1) (.bool true) (fun e => by have := Option.some.inj e; omega)) D1 rfl
              have hK1 : ((w5.setCell ⟨w.heap.size + 1, 0, none⟩ (.bool true)).putObj D2 (.deferred none)).heap[D1]? = some (.deferred (some [])) := (World.putObj_heap_other (by omega)).trans hK1'
              have hbx : Boxed (((w5.setCell ⟨w.heap.size + 1, 0, none⟩ (.bool true)).putObj D2 (.deferred none)).putObj D1 (.deferred none)) (w.heap.size + 1) 4 (.bool true) := (World.putObj_heap_other (by omega)).trans ((World.putObj_heap_other (by omega)).trans (HR5.out.set _))
              have hB6 := hBf.trans (belowK_b (w := w) (Nat.le_refl _) _ D2 _ (.deferred none) (by omega) hK2 rfl rfl)
              have hB7 := hB6.trans (belowK_b (w := w) (Nat.le_refl _) _ D1 _ (.deferred none) (by omega) hK1 rfl rfl)
              have HF := Lib.hid (And.intro hK2 (And.intro hK1 (And.intro hbx hB7)))
              clear hb bR5 hBf hK2 hK1' hK1 hbx hB6 hB7
              gi_wp2
              refine ⟨by simp, .inl ⟨D2, _, rfl, run_takeDeferred HF.out.1, ?_⟩⟩
              refine ⟨by simp, .inl ⟨D1, _, rfl, run_takeDeferred HF.out.2.1, ?_⟩⟩
              exact ⟨_, res_cell rfl _ _ (w.heap.size + 1) true rfl HF.out.2.2.1, rfl, HF.out.2.2.2⟩
            · have hln : l = [] := HBD.out he0
              have hde : (e == 0) = false := by simpa using he0
              have hl0 : ((l.length : Int) == 0) = true := by rw [hln]; rfl
              have hl0' : (l.length == 0) = true := by rw [hln]; rfl
              gi_wp2
              refine ⟨trivial, (callsIn_wide.2 (HA.out _)).mono ?_⟩
              rintro y w5 ⟨rfl, hb⟩
              have HU5 := Lib.hid (HU4.out.trans (hb.mono HU4.out.size))
              have HKK5 := Lib.hid (HKK4.out.below hb)
              have HKE5 := Lib.hid (HKE4.out.below hb)
              have hs5 := hb.size
              have bR5 : Boxed w5 (w.heap.size + 1) 4 (.bool false) := (HU5.out.block _ (by omega)).trans HR2.out
              have cR := bR5.cell
              have fR := bR5.frozen
              have HR5 := Lib.hid bR5
              have hBf : Below w.heap.size w (w5.setCell ⟨w.heap.size + 1, 0, none⟩ (.bool true)) := (HB2.out.trans (HU5.out.mono HB2.out.size)).setCell (p := ⟨w.heap.size + 1, 0, none⟩) (by show w.heap.size ≤ w.heap.size + 1; omega) _
              have hK2 := (HKK5.out.setCell (w.heap.size + 1) (.bool true) (fun e => by have := Option.some.inj e; omega)) D2 rfl
              have hK1' := (HKE5.out.setCell (w.heap.size + 1) (.bool true) (fun e => by have := Option.some.inj e; omega)) D1 rfl
              have hK1 : ((w5.setCell ⟨w.heap.size + 1, 0, none⟩ (.bool true)).putObj D2 (.deferred none)).heap[D1]? = some (.deferred (some [])) := (World.putObj_heap_other (by omega)).trans hK1'
              have hbx : Boxed (((w5.setCell ⟨w.heap.size + 1, 0, none⟩ (.bool true)).putObj D2 (.deferred none)).putObj D1 (.deferred none)) (w.heap.size + 1) 4 (.bool true) := (World.putObj_heap_other (by omega)).trans ((World.putObj_heap_other (by omega)).trans (HR5.out.set _))
              have hB6 := hBf.trans (belowK_b (w := w) (Nat.le_refl _) _ D2 _ (.deferred none) (by omega) hK2 rfl rfl)
              have hB7 := hB6.trans (belowK_b (w := w) (Nat.le_refl _) _ D1 _ (.deferred none) (by omega) hK1 rfl rfl)
              have HF := Lib.hid (And.intro hK2 (And.intro hK1 (And.intro hbx hB7)))
              clear hb bR5 hBf hK2 hK1' hK1 hbx hB6 hB7
              gi_wp2
              refine ⟨by simp, .inl ⟨D2, _, rfl, run_takeDeferred HF.out.1, ?_⟩⟩
              refine ⟨by simp, .inl ⟨D1, _, rfl, run_takeDeferred HF.out.2.1, ?_⟩⟩
              exact ⟨_, res_cell rfl _ _ (w.heap.size + 1) true rfl HF.out.2.2.1, rfl, HF.out.2.2.2⟩
end Go.Proofs.Ytgnghnekckhcdaa
