/- awake. -/
import Derived.Test.YtgnghnekckhcdaaPs
import Derived.Test.YtgnghnekckhcdaaRd
namespace Go.Proofs.Ytgnghnekckhcdaa
open Go.RowKit Go.Shelf
set_option linter.unusedVariables false
set_option linter.unusedSimpArgs false
attribute [local go_sem] Oper.semAt_some
def l8 : List En := [⟨1, 0, 5, 1⟩, ⟨300, 5, 1, 0⟩]
def s8 : ByteArray := ByteArray.mk #[2, 1, 171, 2, 1, 0, 5, 1, 1, 0]
set_option maxRecDepth 100000 in
theorem enc8 : encB l8 = 0 ∧ encT l8 = s8 ∧ sizD l8 = 10 := by
  have h0 : rowN l8 = 0 := by decide
  have h1 : textI l8 = [2, 1, 171, 2, 1, 0, 5, 1, 1, 0] := by decide
  have h2 : encB l8 = 0 := by unfold encB; rw [if_pos h0, h1, if_neg (by decide)]
  refine ⟨h2, ?_, ?_⟩
  · unfold encT
    rw [if_pos h2, h1]
    decide
  · unfold sizD
    rw [if_pos h0, h1]
    rfl
theorem may8 : MaysN l8 := by
  intro e he
  simp only [l8, List.mem_cons, List.not_mem_nil, or_false] at he
  rcases he with rfl | rfl <;> (unfold MayN; decide)
theorem ens8 (w : World) (T : TypeId) : EnsAt (w.alloc (.cells #[.int .u64 1, .int .u64 0, .int .u32 5, .int .u32 1, .int .u64 300, .int .u64 5, .int .u32 1, .int .u32 0] T)) (.slice (some ⟨w.heap.size, 0, none⟩) 2 2) l8 := by
  refine ⟨_, 2, rfl, Nat.le_refl _, by unfold maxLen; omega, fun k t ht => ⟨w.heap.size, 0, rfl, by simp, ?_⟩⟩
  match k, ht with
  | 0, ht =>
    obtain rfl : (⟨1, 0, 5, 1⟩ : En) = t := by simpa [l8] using ht
    refine ⟨?_, ?_, ?_, ?_⟩ <;> rw [World.cell?_alloc_mark] <;> rfl
  | 1, ht =>
    obtain rfl : (⟨300, 5, 1, 0⟩ : En) = t := by simpa [l8] using ht
    refine ⟨?_, ?_, ?_, ?_⟩ <;> rw [World.cell?_alloc_mark] <;> rfl
  | k + 2, ht => simp [l8] at ht
/-- How far a row has been told as l8 has it. -/
def st8 (n : Nat) (p : PE) : Nat := if p.1.1 = n ∧ n < 2 ∧ p.1.2 = gE l8 n then n + 1 else n
def cnt8 (l : List PE) : Nat := l.foldl st8 0
theorem cnt8_snoc (l : List PE) (x : PE) : cnt8 (l ++ [x]) = st8 (cnt8 l) x := by simp [cnt8]
theorem st8_le (n : Nat) (p : PE) (h : n ≤ 2) : st8 n p ≤ 2 := by unfold st8; split <;> omega
theorem cnt8_le (l : List PE) : cnt8 l ≤ 2 := by
  have key : ∀ (l : List PE) (n : Nat), n ≤ 2 → l.foldl st8 n ≤ 2 := by
    intro l
    induction l with
    | nil => exact fun n h => h
    | cons x l ih => exact fun n h => ih _ (st8_le n x h)
  exact key l 0 (by omega)
theorem cnt8_all : cnt8 (upE l8 l8.length) = 2 := by decide
theorem dec8 : decD s8.data.toList = (l8, 10, 0) := by decide
theorem dec8b : decD [1, 1, 1, 5, 0] = ([], 4, 4) := by decide
theorem enc8n : encB [] = 0 ∧ encT [] = ByteArray.mk #[0] := by decide
set_option maxRecDepth 100000 in
set_option maxHeartbeats 2000000 in
theorem awakeD_any (w : World) : Calls Try.prog 8 #[] w fun x w' => x = .returned (.bool true) ∧ Below w.heap.size w w' := by
  refine (callsIn_wide (n := 10)).1 ?_
  refine callsIn_of_wp_marks Try.func8 rfl trivial ?_ rfl
  simp only [Try.ntmps8, List.size_toArray, List.length_cons, List.length_nil, Nat.reduceAdd, Nat.reduceSub, Array.replicate_succ, Array.replicate_zero, List.push_toArray, List.append_toArray, List.nil_append, List.cons_append]
  have henc := fun (v : Value) (W : World) (h : EnsAt W v l8) => pencD_any v l8 W h may8 (by decide)
  have hsiz := fun (v : Value) (W : World) (h : EnsAt W v l8) => psizD_any v l8 W h may8 (by decide)
  have hdec := fun (W : World) => pdecD_any s8 W (by decide)
  have hdec2 := fun (W : World) => pdecD_any (ByteArray.mk #[1, 1, 1, 5, 0]) W (by decide)
  have hencn := fun (W : World) => pencD_any (.slice none 0 0) [] W (ens_nil W) (fun e he => by simp at he) (by decide)
  have heach := fun (W : World) => peachD_any s8 W (by decide)
  simp only [enc8.1, enc8.2.1] at henc
  simp only [enc8.2.2] at hsiz
  simp only [dec8] at hdec
  simp only [show decD (ByteArray.mk #[1, 1, 1, 5, 0]).data.toList = ([], 4, 4) from dec8b] at hdec2
  simp only [enc8n.1, enc8n.2] at hencn
  simp only [dec8] at heach
  have hs8 : s8 = ByteArray.mk #[2, 1, 171, 2, 1, 0, 5, 1, 1, 0] := rfl
  rw [hs8] at henc hdec heach
  clear hs8
  have HEnc := Lib.hid henc
  have HSiz := Lib.hid hsiz
  have HDec := Lib.hid hdec
  have HDec2 := Lib.hid hdec2
  have HEncn := Lib.hid hencn
  have HEach := Lib.hid heach
  clear henc hsiz hdec hdec2 hencn heach
  have HE0 := Lib.hid (ens8 w 51)
  have bL0 := Boxed.new (w.alloc (.cells #[.int .u64 1, .int .u64 0, .int .u32 5, .int .u32 1, .int .u64 300, .int .u64 5, .int .u32 1, .int .u32 0] 51)) 27 (.slice (some ⟨w.heap.size, 0, none⟩) 2 2)
  have hB0 : Below w.heap.size w ((w.alloc (.cells #[.int .u64 1, .int .u64 0, .int .u32 5, .int .u32 1, .int .u64 300, .int .u64 5, .int .u32 1, .int .u32 0] 51)).alloc (.cells #[.slice (some ⟨w.heap.size, 0, none⟩) 2 2] 27)) := ((Below.refl _ w).alloc (Nat.le_refl _) _).alloc (by simp) _
  have HE1 := Lib.hid (HE0.out.below ((Below.refl _ _).alloc (Nat.le_refl _) (.cells #[.slice (some ⟨w.heap.size, 0, none⟩) 2 2] 27)))
  simp only [World.size_alloc] at bL0
  have hsz0 : ((w.alloc (.cells #[.int .u64 1, .int .u64 0, .int .u32 5, .int .u32 1, .int .u64 300, .int .u64 5, .int .u32 1, .int .u32 0] 51)).alloc (.cells #[.slice (some ⟨w.heap.size, 0, none⟩) 2 2] 27)).heap.size = w.heap.size + 2 := by simp
  clear HE0
  gi_wp2
  obtain ⟨WA, hWA⟩ : ∃ WA, (w.alloc (.cells #[.int .u64 1, .int .u64 0, .int .u32 5, .int .u32 1, .int .u64 300, .int .u64 5, .int .u32 1, .int .u32 0] 51)).alloc (.cells #[.slice (some ⟨w.heap.size, 0, none⟩) 2 2] 27) = WA := ⟨_, rfl⟩
  rw [hWA] at HE1 bL0 hB0 hsz0 ⊢
  clear hWA
  refine ⟨trivial, (callsIn_wide.2 (HEnc.out _ _ HE1.out)).mono ?_⟩
  rintro y w1 ⟨rfl, hb⟩
  have HL1 := Lib.hid (boxed_later bL0 hb)
  have HB1 := Lib.hid (hB0.trans (hb.mono hB0.size))
  have HE2 := Lib.hid (HE1.out.below hb)
  have hs1 : w.heap.size + 2 ≤ w1.heap.size := by have := hb.size; omega
  clear hb bL0 HE1 hB0 hsz0
  gi_wp2
  refine ⟨trivial, (callsIn_wide.2 (HDec.out _)).mono ?_⟩
  rintro y w2 ⟨v1, rfl, ho, hb⟩
  have HL2 := Lib.hid (boxed_later HL1.out hb)
  have HB2 := Lib.hid (HB1.out.trans (hb.mono HB1.out.size))
  have HE3 := Lib.hid (HE2.out.below hb)
  have HV2 := Lib.hid ho.ensAt
  have hs2 := Nat.le_trans hs1 hb.size
  clear hb ho HL1 HE2 HB1 hs1
  gi_wp2
  refine ⟨trivial, (callsIn_wide.2 (HDec2.out _)).mono ?_⟩
  rintro y w3 ⟨v2, rfl, -, hb⟩
  have HL3 := Lib.hid (boxed_later HL2.out hb)
  have HB3 := Lib.hid (HB2.out.trans (hb.mono HB2.out.size))
  have HE4 := Lib.hid (HE3.out.below hb)
  have HV3 := Lib.hid (HV2.out.below hb)
  have hs3 := Nat.le_trans hs2 hb.size
  clear hb HL2 HE3 HB2 HV2 hs2
  gi_wp2
  refine ⟨trivial, (callsIn_wide.2 (HEncn.out _)).mono ?_⟩
  rintro y w4 ⟨rfl, hb⟩
  have bN0 := Boxed.new w4 3 (.int .i64 0)
  have hA := (Below.refl w4.heap.size w4).alloc (Nat.le_refl _) (.cells #[.int .i64 0] 3)
  have HL4 := Lib.hid (boxed_later (boxed_later HL3.out hb) hA)
  have HB4 := Lib.hid ((HB3.out.trans (hb.mono HB3.out.size)).trans (hA.mono (Nat.le_trans HB3.out.size hb.size)))
  have HE5 := Lib.hid ((HE4.out.below hb).below hA)
  have HV4 := Lib.hid ((HV3.out.below hb).below hA)
  have hs4 := Nat.le_trans hs3 hb.size
  clear hb hA HL3 HE4 HB3 HV3 hs3
  gi_wp2
  obtain ⟨WB, hWB⟩ : ∃ WB, w4.alloc (.cells #[.int .i64 0] 3) = WB := ⟨_, rfl⟩
  have hszB : WB.heap.size = w4.heap.size + 1 := by rw [← hWB]; simp
  rw [hWB] at HL4 HB4 HE5 HV4 bN0 ⊢
  clear hWB
  refine ⟨trivial, (callsIn_wide.2 (HEach.out _)).mono ?_⟩
  rintro y w5 ⟨_, rfl, ⟨g, lb, rfl, heg, hseq⟩, hb⟩
  have bN5 := boxed_later bN0 hb
  have bL5 := boxed_later HL4.out hb
  have hB5 := HB4.out.trans (hb.mono HB4.out.size)
  have hE6 := HE5.out.below hb
  have hV5 := HV4.out.below hb
  have hs5 := hb.size
  have HSQ := Lib.hid hseq
  have HEG := Lib.hid heg
  have HF := Lib.hid (And.intro bN5 (And.intro bL5 (And.intro hB5 (And.intro hE6 hV5))))
  have hfn := fun W => fn_neq g lb W
  clear hseq heg hb HL4 HB4 HE5 HV4 bN5 bL5 hB5 hE6 hV5 bN0
  gi_wp2
  clear hfn
  obtain ⟨bN5, bL5, hB5, hE6, hV5⟩ := HF.out
  refine range_e (n := 10) (p := 44) (q := 45) (r := 14) (s := 15) (B := w4.heap.size) (n1 := w4.heap.size) (by omega) rfl HEG.out (HSQ.out 9 w5 w4.heap.size (by omega) (Below.refl _ _) (by omega) (.inl (by omega))) (Below.refl _ _)
    (fun pre W => ((Boxed W w4.heap.size 3 (.int .i64 (cnt8 pre : Nat)) ∧ Boxed W (w.heap.size + 1) 27 (.slice (some ⟨w.heap.size, 0, none⟩) 2 2)) ∧ (EnsAt W (.slice (some ⟨w.heap.size, 0, none⟩) 2 2) l8 ∧ EnsAt W v1 l8)) ∧ Below w.heap.size w W)
    (fun _ _ _ => False)
    (OwnFrom.and (OwnFrom.and (OwnFrom.and (Own.from (boxed_own _ _ _) _) (Own.from (boxed_own _ _ _) _)) (OwnFrom.and (ens_own _ _ _) (ens_own _ _ _))) (ownFrom_below (Nat.le_refl _) (by omega)))
    (fun _ _ _ _ _ hs _ _ => hs)
    ⟨⟨⟨bN5, bL5⟩, hE6, hV5⟩, hB5⟩ ?assign ?body ?done ?stop
  case assign =>
    clear HF bN5 bL5 hB5 hE6 hV5
    rintro lp pre x W K ⟨⟨⟨bN, bL⟩, hE, hV⟩, hB⟩ hK
    have hA := (Below.refl W.heap.size W).alloc (Nat.le_refl _) (.cells (eC x.1.2) 51)
    have HK := Lib.hid (hK W.heap.size _ bN.lt ((KeepsOthers.alloc _ _).from _) (KC.below hA) ⟨⟨⟨bN.alloc _, bL.alloc _⟩, hE.below hA, hV.below hA⟩, hB.trans (hA.mono hB.size)⟩ (EAt.made W x.1.2 51))
    clear hK hA hE hV hB bN bL
    simp only [tE, List.setIfInBounds_toArray, List.set_cons_zero, List.set_cons_succ] at HK ⊢
    unfold eC at HK ⊢
    gi_wp2
    exact HK.out
  case body =>
    clear HF bN5 bL5 hB5 hE6 hV5
    rintro lp pre x Bx W hlp ⟨⟨⟨bN, bL⟩, hE, hV⟩, hB⟩ hBx bX hlt
    have hc := cnt8_le pre
    have HSn := Lib.hid (cnt8_snoc pre x)
    obtain ⟨c, hcE⟩ : ∃ c, cnt8 pre = c := ⟨_, rfl⟩
    rw [hcE] at hc bN HSn
    clear hcE
    have cN := bN.cell
    have fN := bN.frozen
    have cL := bL.cell
    have hxi := x.2
    have hwx : IntKind.i64.wrap (x.1.1 : Int) = (x.1.1 : Int) := by rw [IntKind.wrap_i64] <;> omega
    simp only [tE, List.setIfInBounds_toArray, List.set_cons_zero, List.set_cons_succ]
    unfold eC
    have hmx : Try.prog.follows .mixedOrders = true := by kernel_rfl
    have HIv := Lib.hid (And.intro bN (And.intro bL (And.intro hE (And.intro hV hB))))
    have HKeep : ∀ c', Hid (cnt8 (pre ++ [x]) = c') → c' = c → KeepsFrom w5.heap.size W W.drew ∧ KC w4.heap.size W W.drew ∧ ((Boxed W.drew w4.heap.size 3 (.int .i64 (cnt8 (pre ++ [x]) : Nat)) ∧ Boxed W.drew (w.heap.size + 1) 27 (.slice (some ⟨w.heap.size, 0, none⟩) 2 2)) ∧ (EnsAt W.drew (.slice (some ⟨w.heap.size, 0, none⟩) 2 2) l8 ∧ EnsAt W.drew v1 l8)) ∧ Below w.heap.size w W.drew := by
      intro c' h1 h2
      have hdr : Below W.heap.size W W.drew := Below.drew (Below.refl _ _)
      rw [h1.out, h2]
      exact ⟨keeps_below hdr, KC.below hdr, ⟨⟨boxed_later HIv.out.1 hdr, boxed_later HIv.out.2.1 hdr⟩, HIv.out.2.2.1.below hdr, HIv.out.2.2.2.1.below hdr⟩, HIv.out.2.2.2.2.trans (hdr.mono HIv.out.2.2.2.2.size)⟩
    have HKP := Lib.hid HKeep
    clear HKeep
    by_cases h1 : x.1.1 = c
    · have hd1 : ((x.1.1 : Int) == (c : Int)) = true := by simp; omega
      by_cases h2 : c < 2
      · have hd2 : decide ((c : Int) < 2) = true := by simp; omega
        have hd2' : decide (c < 2) = true := by simp; omega
        obtain ⟨f, hf⟩ : ∃ t, l8[c]? = some t := ⟨_, List.getElem?_eq_getElem (by show c < 2; exact h2)⟩
        have hgf := gE_at hf
        obtain ⟨g', off', cap', hs, _, _, hcell⟩ := ens_at hE c (by show c < 2; exact h2)
        obtain ⟨f0, f1, f2, f3⟩ := hcell c f hf
        simp only [Value.slice.injEq, Option.some.injEq, Addr.mk.injEq, and_true] at hs
        obtain ⟨⟨rfl, rfl⟩, -, rfl⟩ := hs
        rw [Nat.zero_add] at f0 f1 f2 f3
        obtain ⟨x0, x1, x2, x3⟩ := bX
        have hbd : (c : Int) < 2 := by omega
        have hb0 : (0 : Int) ≤ (c : Int) := by omega
        have hq := fun W => eq_entP x.1.2 f _ W rfl
        clear hE hV hB bN bL hcell
        have HS0 : (fun w' : World => ((w'.cell? ⟨Bx, 0, none⟩ = some (.int .u64 x.1.2.id) ∧ w'.cell? ⟨Bx, 1, none⟩ = some (.int .u64 x.1.2.off) ∧ w'.cell? ⟨Bx, 2, none⟩ = some (.int .u32 x.1.2.ln) ∧ w'.cell? ⟨Bx, 3, none⟩ = some (.int .u32 x.1.2.rn)) ∧ (w'.cell? ⟨w.heap.size, c * 4, none⟩ = some (.int .u64 f.id) ∧ w'.cell? ⟨w.heap.size, c * 4 + 1, none⟩ = some (.int .u64 f.off) ∧ w'.cell? ⟨w.heap.size, c * 4 + 2, none⟩ = some (.int .u32 f.ln) ∧ w'.cell? ⟨w.heap.size, c * 4 + 3, none⟩ = some (.int .u32 f.rn))) ∧ w'.cell? ⟨w4.heap.size, 0, none⟩ = some (.int .i64 (c : Int)) ∧ w'.cell? ⟨w.heap.size + 1, 0, none⟩ = some (.slice (some ⟨w.heap.size, 0, none⟩) 2 2)) W.drew := by
          have hdr : Below W.heap.size W W.drew := Below.drew (Below.refl _ _)
          exact ⟨⟨⟨ecell_later hdr x0, ecell_later hdr x1, ecell_later hdr x2, ecell_later hdr x3⟩, ⟨ecell_later hdr f0, ecell_later hdr f1, ecell_later hdr f2, ecell_later hdr f3⟩⟩, ecell_later hdr cN, ecell_later hdr cL⟩
        by_cases h3 : x.1.2 = f
        · rw [decide_eq_true h3] at hq
          have HC : Hid (cnt8 (pre ++ [x]) = c + 1) := Lib.hid (by rw [HSn.out]; unfold st8; rw [if_pos ⟨h1, h2, h3.trans hgf.symm⟩])
          have hwc : IntKind.i64.wrap ((c : Int) + 1) = ((c + 1 : Nat) : Int) := by rw [IntKind.wrap_i64] <;> omega
          have fN2 : W.drew.frozen? ⟨w4.heap.size, 0, none⟩ = false := by rw [frozen_later (Below.drew (Below.refl _ _)) HIv.out.1.lt]; exact fN
          clear h1 h2 h3 hf hgf hxi HSn cN cL fN x0 x1 x2 x3 f0 f1 f2 f3
          gi_wp2
          refine round_held (S := fun w' => ((w'.cell? ⟨Bx, 0, none⟩ = some (.int .u64 x.1.2.id) ∧ w'.cell? ⟨Bx, 1, none⟩ = some (.int .u64 x.1.2.off) ∧ w'.cell? ⟨Bx, 2, none⟩ = some (.int .u32 x.1.2.ln) ∧ w'.cell? ⟨Bx, 3, none⟩ = some (.int .u32 x.1.2.rn)) ∧ (w'.cell? ⟨w.heap.size, c * 4, none⟩ = some (.int .u64 f.id) ∧ w'.cell? ⟨w.heap.size, c * 4 + 1, none⟩ = some (.int .u64 f.off) ∧ w'.cell? ⟨w.heap.size, c * 4 + 2, none⟩ = some (.int .u32 f.ln) ∧ w'.cell? ⟨w.heap.size, c * 4 + 3, none⟩ = some (.int .u32 f.rn))) ∧ w'.cell? ⟨w4.heap.size, 0, none⟩ = some (.int .i64 (c : Int)) ∧ w'.cell? ⟨w.heap.size + 1, 0, none⟩ = some (.slice (some ⟨w.heap.size, 0, none⟩) 2 2)) hmx (by kernel_rfl) (by rintro ⟨_, _, h⟩; exact h) HS0 (fun hH0 => ?_)
          refine takeH (i := 0) (d := 46) (v := ?_) rfl rfl (by kernel_rfl) (by kernel_rfl) (by kernel_rfl) (fun _ _ _ h => h) (Or.inl ⟨by rfl, ?y0⟩) hH0 ?_
          case y0 => intro w hSw; go_simp; try with_reducible rfl
          try simp only [Act.put, List.setIfInBounds_toArray, List.set_cons_zero, List.set_cons_succ]
          refine takeH (i := 1) (d := 47) (v := ?_) rfl rfl (by kernel_rfl) (by kernel_rfl) (by kernel_rfl) (fun _ _ _ h => h) (Or.inl ⟨by rfl, ?y1⟩) hH0 ?_
          case y1 => intro w hSw; go_simp; try with_reducible rfl
          try simp only [Act.put, List.setIfInBounds_toArray, List.set_cons_zero, List.set_cons_succ]
          refine takeH (i := 2) (d := 48) (v := ?_) rfl rfl (by kernel_rfl) (by kernel_rfl) (by kernel_rfl) (fun _ _ _ h => h) (Or.inl ⟨by rfl, ?y2⟩) hH0 ?_
          case y2 => intro w hSw; go_simp; try with_reducible rfl
          try simp only [Act.put, List.setIfInBounds_toArray, List.set_cons_zero, List.set_cons_succ]
          refine takeH (i := 3) (d := 49) (v := ?_) rfl rfl (by kernel_rfl) (by kernel_rfl) (by kernel_rfl) (fun _ _ _ h => h) (Or.inl ⟨by rfl, ?y3⟩) hH0 ?_
          case y3 => intro w hSw; go_simp; try with_reducible rfl
          try simp only [Act.put, List.setIfInBounds_toArray, List.set_cons_zero, List.set_cons_succ]
          refine takeH (i := 4) (d := 50) (v := ?_) rfl rfl (by kernel_rfl) (by kernel_rfl) (by kernel_rfl) (fun _ _ _ h => h) (Or.inl ⟨by rfl, ?y4⟩) hH0 ?_
          case y4 => intro w hSw; go_simp; try with_reducible rfl
          try simp only [Act.put, List.setIfInBounds_toArray, List.set_cons_zero, List.set_cons_succ]
          refine takeH (i := 5) (d := 51) (v := ?_) rfl rfl (by kernel_rfl) (by kernel_rfl) (by kernel_rfl) (fun _ _ _ h => h) (Or.inl ⟨by rfl, ?y5⟩) hH0 ?_
          case y5 => intro w hSw; go_simp; try with_reducible rfl
          try simp only [Act.put, List.setIfInBounds_toArray, List.set_cons_zero, List.set_cons_succ]
          refine takeH (i := 6) (d := 52) (v := ?_) rfl rfl (by kernel_rfl) (by kernel_rfl) (by kernel_rfl) (fun _ _ _ h => h) (Or.inl ⟨by rfl, ?y6⟩) hH0 ?_
          case y6 => intro w hSw; go_simp; try with_reducible rfl
          try simp only [Act.put, List.setIfInBounds_toArray, List.set_cons_zero, List.set_cons_succ]
          refine takeH (i := 7) (d := 53) (v := ?_) rfl rfl (by kernel_rfl) (by kernel_rfl) (by kernel_rfl) (fun _ _ _ h => h) (Or.inl ⟨by rfl, ?y7⟩) hH0 ?_
          case y7 => intro w hSw; go_simp; try with_reducible rfl
          try simp only [Act.put, List.setIfInBounds_toArray, List.set_cons_zero, List.set_cons_succ]
          refine takeH (i := 8) (d := 54) (v := ?_) rfl rfl (by kernel_rfl) (by kernel_rfl) (by kernel_rfl) (fun _ _ _ h => h) (Or.inl ⟨by rfl, ?y8⟩) hH0 ?_
          case y8 => intro w hSw; go_simp; try with_reducible rfl
          try simp only [Act.put, List.setIfInBounds_toArray, List.set_cons_zero, List.set_cons_succ]
          refine takeH (i := 9) (d := 55) (v := ?_) rfl rfl (by kernel_rfl) (by kernel_rfl) (by kernel_rfl) (fun _ _ _ h => h) (Or.inl ⟨by rfl, ?y9⟩) hH0 ?_
          case y9 => intro w hSw; go_simp; try with_reducible rfl
          try simp only [Act.put, List.setIfInBounds_toArray, List.set_cons_zero, List.set_cons_succ]
          refine takeH (i := 10) (d := 56) (v := ?_) rfl rfl (by kernel_rfl) (by kernel_rfl) (by kernel_rfl) (fun _ _ _ h => h) (Or.inl ⟨by rfl, ?y10⟩) hH0 ?_
          case y10 => intro w hSw; go_simp; try with_reducible rfl
          try simp only [Act.put, List.setIfInBounds_toArray, List.set_cons_zero, List.set_cons_succ]
          refine takeH (i := 11) (d := 57) (v := ?_) rfl rfl (by kernel_rfl) (by kernel_rfl) (by kernel_rfl) (fun _ _ _ h => h) (Or.inl ⟨by rfl, ?y11⟩) hH0 ?_
          case y11 => intro w hSw; go_simp; try with_reducible rfl
          try simp only [Act.put, List.setIfInBounds_toArray, List.set_cons_zero, List.set_cons_succ]
          refine takeH (i := 12) (d := 58) (v := ?_) rfl rfl (by kernel_rfl) (by kernel_rfl) (by kernel_rfl) (fun _ _ _ h => h) (Or.inl ⟨by rfl, ?y12⟩) hH0 ?_
          case y12 => intro w hSw; go_simp; try with_reducible rfl
          try simp only [Act.put, List.setIfInBounds_toArray, List.set_cons_zero, List.set_cons_succ]
          refine takeH (i := 13) (d := 59) (v := ?_) rfl rfl (by kernel_rfl) (by kernel_rfl) (by kernel_rfl) (fun _ _ _ h => h) (Or.inl ⟨by rfl, ?y13⟩) hH0 ?_
          case y13 => intro w hSw; go_simp; try with_reducible rfl
          try simp only [Act.put, List.setIfInBounds_toArray, List.set_cons_zero, List.set_cons_succ]
          refine takeH (i := 14) (d := 60) (v := ?_) rfl rfl (by kernel_rfl) (by kernel_rfl) (by kernel_rfl) (fun _ _ _ h => h) (Or.inl ⟨by rfl, ?y14⟩) hH0 ?_
          case y14 => intro w hSw; go_simp; try with_reducible rfl
          try simp only [Act.put, List.setIfInBounds_toArray, List.set_cons_zero, List.set_cons_succ]
          refine takeH (i := 15) (d := 61) (v := ?_) rfl rfl (by kernel_rfl) (by kernel_rfl) (by kernel_rfl) (fun _ _ _ h => h) (Or.inl ⟨by rfl, ?y15⟩) hH0 ?_
          case y15 => intro w hSw; go_simp; try with_reducible rfl
          try simp only [Act.put, List.setIfInBounds_toArray, List.set_cons_zero, List.set_cons_succ]
          refine wpAnyH_done (by kernel_rfl) ?_ _
          obtain ⟨⟨-, -⟩, cN, -⟩ := hH0
          gi_wp2
          have hset : Below w.heap.size W (W.setCell ⟨w4.heap.size, 0, none⟩ (.int .i64 ((c : Int) + 1))) := (Below.refl _ W).setCell (p := ⟨w4.heap.size, 0, none⟩) (by show w.heap.size ≤ w4.heap.size; omega) _
          have hdr : Below (W.setCell ⟨w4.heap.size, 0, none⟩ (.int .i64 ((c : Int) + 1))).heap.size (W.setCell ⟨w4.heap.size, 0, none⟩ (.int .i64 ((c : Int) + 1))) (W.setCell ⟨w4.heap.size, 0, none⟩ (.int .i64 ((c : Int) + 1))).drew := Below.drew (Below.refl _ _)
          refine ⟨((KeepsOthers.setCell W ⟨w4.heap.size, 0, none⟩ _).from _).trans (keeps_below hdr), (KC.setCell w4.heap.size W _).trans (KC.below hdr), ⟨⟨boxed_later ?_ hdr, boxed_later (Boxed.other HIv.out.2.1 (by omega) _) hdr⟩, (ens_set HIv.out.2.2.1 HIv.out.1 _).below hdr, (ens_set HIv.out.2.2.2.1 HIv.out.1 _).below hdr⟩, (HIv.out.2.2.2.2.trans hset).trans (hdr.mono (Nat.le_trans HIv.out.2.2.2.2.size hset.size))⟩
          rw [HC.out, show ((c + 1 : Nat) : Int) = (c : Int) + 1 from by omega]
          exact HIv.out.1.set _
        · rw [decide_eq_false h3] at hq
          have HC : Hid (cnt8 (pre ++ [x]) = c) := Lib.hid (by rw [HSn.out]; unfold st8; rw [if_neg (fun h => h3 (h.2.2.trans hgf))])
          clear h1 h2 h3 hf hgf hxi HSn cN cL fN x0 x1 x2 x3 f0 f1 f2 f3
          gi_wp2
          refine round_held (S := fun w' => ((w'.cell? ⟨Bx, 0, none⟩ = some (.int .u64 x.1.2.id) ∧ w'.cell? ⟨Bx, 1, none⟩ = some (.int .u64 x.1.2.off) ∧ w'.cell? ⟨Bx, 2, none⟩ = some (.int .u32 x.1.2.ln) ∧ w'.cell? ⟨Bx, 3, none⟩ = some (.int .u32 x.1.2.rn)) ∧ (w'.cell? ⟨w.heap.size, c * 4, none⟩ = some (.int .u64 f.id) ∧ w'.cell? ⟨w.heap.size, c * 4 + 1, none⟩ = some (.int .u64 f.off) ∧ w'.cell? ⟨w.heap.size, c * 4 + 2, none⟩ = some (.int .u32 f.ln) ∧ w'.cell? ⟨w.heap.size, c * 4 + 3, none⟩ = some (.int .u32 f.rn))) ∧ w'.cell? ⟨w4.heap.size, 0, none⟩ = some (.int .i64 (c : Int)) ∧ w'.cell? ⟨w.heap.size + 1, 0, none⟩ = some (.slice (some ⟨w.heap.size, 0, none⟩) 2 2)) hmx (by kernel_rfl) (by rintro ⟨_, _, h⟩; exact h) HS0 (fun hH0 => ?_)
          refine takeH (i := 0) (d := 46) (v := ?_) rfl rfl (by kernel_rfl) (by kernel_rfl) (by kernel_rfl) (fun _ _ _ h => h) (Or.inl ⟨by rfl, ?y0⟩) hH0 ?_
          case y0 => intro w hSw; go_simp; try with_reducible rfl
          try simp only [Act.put, List.setIfInBounds_toArray, List.set_cons_zero, List.set_cons_succ]
          refine takeH (i := 1) (d := 47) (v := ?_) rfl rfl (by kernel_rfl) (by kernel_rfl) (by kernel_rfl) (fun _ _ _ h => h) (Or.inl ⟨by rfl, ?y1⟩) hH0 ?_
          case y1 => intro w hSw; go_simp; try with_reducible rfl
          try simp only [Act.put, List.setIfInBounds_toArray, List.set_cons_zero, List.set_cons_succ]
          refine takeH (i := 2) (d := 48) (v := ?_) rfl rfl (by kernel_rfl) (by kernel_rfl) (by kernel_rfl) (fun _ _ _ h => h) (Or.inl ⟨by rfl, ?y2⟩) hH0 ?_
          case y2 => intro w hSw; go_simp; try with_reducible rfl
          try simp only [Act.put, List.setIfInBounds_toArray, List.set_cons_zero, List.set_cons_succ]
          refine takeH (i := 3) (d := 49) (v := ?_) rfl rfl (by kernel_rfl) (by kernel_rfl) (by kernel_rfl) (fun _ _ _ h => h) (Or.inl ⟨by rfl, ?y3⟩) hH0 ?_
          case y3 => intro w hSw; go_simp; try with_reducible rfl
          try simp only [Act.put, List.setIfInBounds_toArray, List.set_cons_zero, List.set_cons_succ]
          refine takeH (i := 4) (d := 50) (v := ?_) rfl rfl (by kernel_rfl) (by kernel_rfl) (by kernel_rfl) (fun _ _ _ h => h) (Or.inl ⟨by rfl, ?y4⟩) hH0 ?_
          case y4 => intro w hSw; go_simp; try with_reducible rfl
          try simp only [Act.put, List.setIfInBounds_toArray, List.set_cons_zero, List.set_cons_succ]
          refine takeH (i := 5) (d := 51) (v := ?_) rfl rfl (by kernel_rfl) (by kernel_rfl) (by kernel_rfl) (fun _ _ _ h => h) (Or.inl ⟨by rfl, ?y5⟩) hH0 ?_
          case y5 => intro w hSw; go_simp; try with_reducible rfl
          try simp only [Act.put, List.setIfInBounds_toArray, List.set_cons_zero, List.set_cons_succ]
          refine takeH (i := 6) (d := 52) (v := ?_) rfl rfl (by kernel_rfl) (by kernel_rfl) (by kernel_rfl) (fun _ _ _ h => h) (Or.inl ⟨by rfl, ?y6⟩) hH0 ?_
          case y6 => intro w hSw; go_simp; try with_reducible rfl
          try simp only [Act.put, List.setIfInBounds_toArray, List.set_cons_zero, List.set_cons_succ]
          refine takeH (i := 7) (d := 53) (v := ?_) rfl rfl (by kernel_rfl) (by kernel_rfl) (by kernel_rfl) (fun _ _ _ h => h) (Or.inl ⟨by rfl, ?y7⟩) hH0 ?_
          case y7 => intro w hSw; go_simp; try with_reducible rfl
          try simp only [Act.put, List.setIfInBounds_toArray, List.set_cons_zero, List.set_cons_succ]
          refine takeH (i := 8) (d := 54) (v := ?_) rfl rfl (by kernel_rfl) (by kernel_rfl) (by kernel_rfl) (fun _ _ _ h => h) (Or.inl ⟨by rfl, ?y8⟩) hH0 ?_
          case y8 => intro w hSw; go_simp; try with_reducible rfl
          try simp only [Act.put, List.setIfInBounds_toArray, List.set_cons_zero, List.set_cons_succ]
          refine takeH (i := 9) (d := 55) (v := ?_) rfl rfl (by kernel_rfl) (by kernel_rfl) (by kernel_rfl) (fun _ _ _ h => h) (Or.inl ⟨by rfl, ?y9⟩) hH0 ?_
          case y9 => intro w hSw; go_simp; try with_reducible rfl
          try simp only [Act.put, List.setIfInBounds_toArray, List.set_cons_zero, List.set_cons_succ]
          refine takeH (i := 10) (d := 56) (v := ?_) rfl rfl (by kernel_rfl) (by kernel_rfl) (by kernel_rfl) (fun _ _ _ h => h) (Or.inl ⟨by rfl, ?y10⟩) hH0 ?_
          case y10 => intro w hSw; go_simp; try with_reducible rfl
          try simp only [Act.put, List.setIfInBounds_toArray, List.set_cons_zero, List.set_cons_succ]
          refine takeH (i := 11) (d := 57) (v := ?_) rfl rfl (by kernel_rfl) (by kernel_rfl) (by kernel_rfl) (fun _ _ _ h => h) (Or.inl ⟨by rfl, ?y11⟩) hH0 ?_
          case y11 => intro w hSw; go_simp; try with_reducible rfl
          try simp only [Act.put, List.setIfInBounds_toArray, List.set_cons_zero, List.set_cons_succ]
          refine takeH (i := 12) (d := 58) (v := ?_) rfl rfl (by kernel_rfl) (by kernel_rfl) (by kernel_rfl) (fun _ _ _ h => h) (Or.inl ⟨by rfl, ?y12⟩) hH0 ?_
          case y12 => intro w hSw; go_simp; try with_reducible rfl
          try simp only [Act.put, List.setIfInBounds_toArray, List.set_cons_zero, List.set_cons_succ]
          refine takeH (i := 13) (d := 59) (v := ?_) rfl rfl (by kernel_rfl) (by kernel_rfl) (by kernel_rfl) (fun _ _ _ h => h) (Or.inl ⟨by rfl, ?y13⟩) hH0 ?_
          case y13 => intro w hSw; go_simp; try with_reducible rfl
          try simp only [Act.put, List.setIfInBounds_toArray, List.set_cons_zero, List.set_cons_succ]
          refine takeH (i := 14) (d := 60) (v := ?_) rfl rfl (by kernel_rfl) (by kernel_rfl) (by kernel_rfl) (fun _ _ _ h => h) (Or.inl ⟨by rfl, ?y14⟩) hH0 ?_
          case y14 => intro w hSw; go_simp; try with_reducible rfl
          try simp only [Act.put, List.setIfInBounds_toArray, List.set_cons_zero, List.set_cons_succ]
          refine takeH (i := 15) (d := 61) (v := ?_) rfl rfl (by kernel_rfl) (by kernel_rfl) (by kernel_rfl) (fun _ _ _ h => h) (Or.inl ⟨by rfl, ?y15⟩) hH0 ?_
          case y15 => intro w hSw; go_simp; try with_reducible rfl
          try simp only [Act.put, List.setIfInBounds_toArray, List.set_cons_zero, List.set_cons_succ]
          refine wpAnyH_done (by kernel_rfl) ?_ _
          gi_wp2
          exact HKP.out c HC rfl
      · have hd2 : decide ((c : Int) < 2) = false := by simp; omega
        have hd2' : decide (c < 2) = false := by simp; omega
        have HC : Hid (cnt8 (pre ++ [x]) = c) := Lib.hid (by rw [HSn.out]; unfold st8; rw [if_neg (fun h => h2 h.2.1)])
        have HS0 : (fun w' : World => w'.cell? ⟨w4.heap.size, 0, none⟩ = some (.int .i64 (c : Int))) W.drew := ecell_later (Below.drew (Below.refl _ _)) cN
        clear h1 h2 hxi HSn cN cL fN hE hV hB bN bL bX
        gi_wp2
        refine round_held (S := fun w' => w'.cell? ⟨w4.heap.size, 0, none⟩ = some (.int .i64 (c : Int))) hmx (by kernel_rfl) (by rintro ⟨_, _, h⟩; exact h) HS0 (fun hH0 => ?_)
        refine takeH (i := 0) (d := 46) (v := ?_) rfl rfl (by kernel_rfl) (by kernel_rfl) (by kernel_rfl) (fun _ _ _ h => h) (Or.inl ⟨by rfl, ?y0⟩) hH0 ?_
        case y0 => intro w hSw; go_simp; try with_reducible rfl
        try simp only [Act.put, List.setIfInBounds_toArray, List.set_cons_zero, List.set_cons_succ]
        refine takeH (i := 1) (d := 47) (v := ?_) rfl rfl (by kernel_rfl) (by kernel_rfl) (by kernel_rfl) (fun _ _ _ h => h) (Or.inl ⟨by rfl, ?y1⟩) hH0 ?_
        case y1 => intro w hSw; go_simp; try with_reducible rfl
        try simp only [Act.put, List.setIfInBounds_toArray, List.set_cons_zero, List.set_cons_succ]
        refine takeH (i := 2) (d := 48) (v := ?_) rfl rfl (by kernel_rfl) (by kernel_rfl) (by kernel_rfl) (fun _ _ _ h => h) (Or.inl ⟨by rfl, ?y2⟩) hH0 ?_
        case y2 => intro w hSw; go_simp; try with_reducible rfl
        try simp only [Act.put, List.setIfInBounds_toArray, List.set_cons_zero, List.set_cons_succ]
        refine takeH (i := 3) (d := 49) (v := ?_) rfl rfl (by kernel_rfl) (by kernel_rfl) (by kernel_rfl) (fun _ _ _ h => h) (Or.inl ⟨by rfl, ?y3⟩) hH0 ?_
        case y3 => intro w hSw; go_simp; try with_reducible rfl
        try simp only [Act.put, List.setIfInBounds_toArray, List.set_cons_zero, List.set_cons_succ]
        refine takeH (i := 4) (d := 50) (v := ?_) rfl rfl (by kernel_rfl) (by kernel_rfl) (by kernel_rfl) (fun _ _ _ h => h) (Or.inl ⟨by rfl, ?y4⟩) hH0 ?_
        case y4 => intro w hSw; go_simp; try with_reducible rfl
        try simp only [Act.put, List.setIfInBounds_toArray, List.set_cons_zero, List.set_cons_succ]
        refine takeH (i := 5) (d := 51) (v := ?_) rfl rfl (by kernel_rfl) (by kernel_rfl) (by kernel_rfl) (fun _ _ _ h => h) (Or.inl ⟨by rfl, ?y5⟩) hH0 ?_
        case y5 => intro w hSw; go_simp; try with_reducible rfl
        try simp only [Act.put, List.setIfInBounds_toArray, List.set_cons_zero, List.set_cons_succ]
        refine takeH (i := 6) (d := 52) (v := ?_) rfl rfl (by kernel_rfl) (by kernel_rfl) (by kernel_rfl) (fun _ _ _ h => h) (Or.inl ⟨by rfl, ?y6⟩) hH0 ?_
        case y6 => intro w hSw; go_simp; try with_reducible rfl
        try simp only [Act.put, List.setIfInBounds_toArray, List.set_cons_zero, List.set_cons_succ]
        refine takeH (i := 7) (d := 53) (v := ?_) rfl rfl (by kernel_rfl) (by kernel_rfl) (by kernel_rfl) (fun _ _ _ h => h) (Or.inl ⟨by rfl, ?y7⟩) hH0 ?_
        case y7 => intro w hSw; go_simp; try with_reducible rfl
        try simp only [Act.put, List.setIfInBounds_toArray, List.set_cons_zero, List.set_cons_succ]
        refine takeH (i := 8) (d := 54) (v := ?_) rfl rfl (by kernel_rfl) (by kernel_rfl) (by kernel_rfl) (fun _ _ _ h => h) (Or.inl ⟨by rfl, ?y8⟩) hH0 ?_
        case y8 => intro w hSw; go_simp; try with_reducible rfl
        try simp only [Act.put, List.setIfInBounds_toArray, List.set_cons_zero, List.set_cons_succ]
        refine takeH (i := 9) (d := 55) (v := undef) rfl rfl (by kernel_rfl) (by kernel_rfl) (by kernel_rfl) (fun _ _ _ h => h) (Or.inr ⟨by rfl, rfl⟩) hH0 ?_
        try simp only [Act.put, List.setIfInBounds_toArray, List.set_cons_zero, List.set_cons_succ]
        refine takeH (i := 10) (d := 56) (v := undef) rfl rfl (by kernel_rfl) (by kernel_rfl) (by kernel_rfl) (fun _ _ _ h => h) (Or.inr ⟨by rfl, rfl⟩) hH0 ?_
        try simp only [Act.put, List.setIfInBounds_toArray, List.set_cons_zero, List.set_cons_succ]
        refine takeH (i := 11) (d := 57) (v := undef) rfl rfl (by kernel_rfl) (by kernel_rfl) (by kernel_rfl) (fun _ _ _ h => h) (Or.inr ⟨by rfl, rfl⟩) hH0 ?_
        try simp only [Act.put, List.setIfInBounds_toArray, List.set_cons_zero, List.set_cons_succ]
        refine takeH (i := 12) (d := 58) (v := undef) rfl rfl (by kernel_rfl) (by kernel_rfl) (by kernel_rfl) (fun _ _ _ h => h) (Or.inr ⟨by rfl, rfl⟩) hH0 ?_
        try simp only [Act.put, List.setIfInBounds_toArray, List.set_cons_zero, List.set_cons_succ]
        refine takeH (i := 13) (d := 59) (v := undef) rfl rfl (by kernel_rfl) (by kernel_rfl) (by kernel_rfl) (fun _ _ _ h => h) (Or.inr ⟨by rfl, rfl⟩) hH0 ?_
        try simp only [Act.put, List.setIfInBounds_toArray, List.set_cons_zero, List.set_cons_succ]
        refine takeH (i := 14) (d := 60) (v := undef) rfl rfl (by kernel_rfl) (by kernel_rfl) (by kernel_rfl) (fun _ _ _ h => h) (Or.inr ⟨by rfl, rfl⟩) hH0 ?_
        try simp only [Act.put, List.setIfInBounds_toArray, List.set_cons_zero, List.set_cons_succ]
        refine takeH (i := 15) (d := 61) (v := ?_) rfl rfl (by kernel_rfl) (by kernel_rfl) (by kernel_rfl) (fun _ _ _ h => h) (Or.inl ⟨by rfl, ?y15⟩) hH0 ?_
        case y15 => intro w hSw; go_simp; try with_reducible rfl
        try simp only [Act.put, List.setIfInBounds_toArray, List.set_cons_zero, List.set_cons_succ]
        refine wpAnyH_done (by kernel_rfl) ?_ _
        gi_wp2
        exact HKP.out c HC rfl
    · have hd1 : ((x.1.1 : Int) == (c : Int)) = false := by simp; omega
      have HC : Hid (cnt8 (pre ++ [x]) = c) := Lib.hid (by rw [HSn.out]; unfold st8; rw [if_neg (fun h => h1 h.1)])
      have HS0 : (fun w' : World => w'.cell? ⟨w4.heap.size, 0, none⟩ = some (.int .i64 (c : Int))) W.drew := ecell_later (Below.drew (Below.refl _ _)) cN
      clear h1 hxi HSn cN cL fN hE hV hB bN bL bX
      gi_wp2
      refine round_held (S := fun w' => w'.cell? ⟨w4.heap.size, 0, none⟩ = some (.int .i64 (c : Int))) hmx (by kernel_rfl) (by rintro ⟨_, _, h⟩; exact h) HS0 (fun hH0 => ?_)
      refine takeH (i := 0) (d := 46) (v := ?_) rfl rfl (by kernel_rfl) (by kernel_rfl) (by kernel_rfl) (fun _ _ _ h => h) (Or.inl ⟨by rfl, ?y0⟩) hH0 ?_
      case y0 => intro w hSw; go_simp; try with_reducible rfl
      try simp only [Act.put, List.setIfInBounds_toArray, List.set_cons_zero, List.set_cons_succ]
      refine takeH (i := 1) (d := 47) (v := ?_) rfl rfl (by kernel_rfl) (by kernel_rfl) (by kernel_rfl) (fun _ _ _ h => h) (Or.inl ⟨by rfl, ?y1⟩) hH0 ?_
      case y1 => intro w hSw; go_simp; try with_reducible rfl
      try simp only [Act.put, List.setIfInBounds_toArray, List.set_cons_zero, List.set_cons_succ]
      refine takeH (i := 2) (d := 48) (v := ?_) rfl rfl (by kernel_rfl) (by kernel_rfl) (by kernel_rfl) (fun _ _ _ h => h) (Or.inl ⟨by rfl, ?y2⟩) hH0 ?_
      case y2 => intro w hSw; go_simp; try with_reducible rfl
      try simp only [Act.put, List.setIfInBounds_toArray, List.set_cons_zero, List.set_cons_succ]
      refine takeH (i := 3) (d := 49) (v := ?_) rfl rfl (by kernel_rfl) (by kernel_rfl) (by kernel_rfl) (fun _ _ _ h => h) (Or.inl ⟨by rfl, ?y3⟩) hH0 ?_
      case y3 => intro w hSw; go_simp; try with_reducible rfl
      try simp only [Act.put, List.setIfInBounds_toArray, List.set_cons_zero, List.set_cons_succ]
      refine takeH (i := 4) (d := 50) (v := ?_) rfl rfl (by kernel_rfl) (by kernel_rfl) (by kernel_rfl) (fun _ _ _ h => h) (Or.inl ⟨by rfl, ?y4⟩) hH0 ?_
      case y4 => intro w hSw; go_simp; try with_reducible rfl
      try simp only [Act.put, List.setIfInBounds_toArray, List.set_cons_zero, List.set_cons_succ]
      refine takeH (i := 5) (d := 51) (v := undef) rfl rfl (by kernel_rfl) (by kernel_rfl) (by kernel_rfl) (fun _ _ _ h => h) (Or.inr ⟨by rfl, rfl⟩) hH0 ?_
      try simp only [Act.put, List.setIfInBounds_toArray, List.set_cons_zero, List.set_cons_succ]
      refine takeH (i := 6) (d := 52) (v := undef) rfl rfl (by kernel_rfl) (by kernel_rfl) (by kernel_rfl) (fun _ _ _ h => h) (Or.inr ⟨by rfl, rfl⟩) hH0 ?_
      try simp only [Act.put, List.setIfInBounds_toArray, List.set_cons_zero, List.set_cons_succ]
      refine takeH (i := 7) (d := 53) (v := ?_) rfl rfl (by kernel_rfl) (by kernel_rfl) (by kernel_rfl) (fun _ _ _ h => h) (Or.inl ⟨by rfl, ?y7⟩) hH0 ?_
      case y7 => intro w hSw; go_simp; try with_reducible rfl
      try simp only [Act.put, List.setIfInBounds_toArray, List.set_cons_zero, List.set_cons_succ]
      refine takeH (i := 8) (d := 54) (v := ?_) rfl rfl (by kernel_rfl) (by kernel_rfl) (by kernel_rfl) (fun _ _ _ h => h) (Or.inl ⟨by rfl, ?y8⟩) hH0 ?_
      case y8 => intro w hSw; go_simp; try with_reducible rfl
      try simp only [Act.put, List.setIfInBounds_toArray, List.set_cons_zero, List.set_cons_succ]
      refine takeH (i := 9) (d := 55) (v := undef) rfl rfl (by kernel_rfl) (by kernel_rfl) (by kernel_rfl) (fun _ _ _ h => h) (Or.inr ⟨by rfl, rfl⟩) hH0 ?_
      try simp only [Act.put, List.setIfInBounds_toArray, List.set_cons_zero, List.set_cons_succ]
      refine takeH (i := 10) (d := 56) (v := undef) rfl rfl (by kernel_rfl) (by kernel_rfl) (by kernel_rfl) (fun _ _ _ h => h) (Or.inr ⟨by rfl, rfl⟩) hH0 ?_
      try simp only [Act.put, List.setIfInBounds_toArray, List.set_cons_zero, List.set_cons_succ]
      refine takeH (i := 11) (d := 57) (v := undef) rfl rfl (by kernel_rfl) (by kernel_rfl) (by kernel_rfl) (fun _ _ _ h => h) (Or.inr ⟨by rfl, rfl⟩) hH0 ?_
      try simp only [Act.put, List.setIfInBounds_toArray, List.set_cons_zero, List.set_cons_succ]
      refine takeH (i := 12) (d := 58) (v := undef) rfl rfl (by kernel_rfl) (by kernel_rfl) (by kernel_rfl) (fun _ _ _ h => h) (Or.inr ⟨by rfl, rfl⟩) hH0 ?_
      try simp only [Act.put, List.setIfInBounds_toArray, List.set_cons_zero, List.set_cons_succ]
      refine takeH (i := 13) (d := 59) (v := undef) rfl rfl (by kernel_rfl) (by kernel_rfl) (by kernel_rfl) (fun _ _ _ h => h) (Or.inr ⟨by rfl, rfl⟩) hH0 ?_
      try simp only [Act.put, List.setIfInBounds_toArray, List.set_cons_zero, List.set_cons_succ]
      refine takeH (i := 14) (d := 60) (v := undef) rfl rfl (by kernel_rfl) (by kernel_rfl) (by kernel_rfl) (fun _ _ _ h => h) (Or.inr ⟨by rfl, rfl⟩) hH0 ?_
      try simp only [Act.put, List.setIfInBounds_toArray, List.set_cons_zero, List.set_cons_succ]
      refine takeH (i := 15) (d := 61) (v := ?_) rfl rfl (by kernel_rfl) (by kernel_rfl) (by kernel_rfl) (fun _ _ _ h => h) (Or.inl ⟨by rfl, ?y15⟩) hH0 ?_
      case y15 => intro w hSw; go_simp; try with_reducible rfl
      try simp only [Act.put, List.setIfInBounds_toArray, List.set_cons_zero, List.set_cons_succ]
      refine wpAnyH_done (by kernel_rfl) ?_ _
      gi_wp2
      exact HKP.out c HC rfl
  case done =>
    rintro D ys W hD rfl ⟨⟨⟨bN, bL⟩, hE, hV⟩, hB⟩ hK
    rw [cnt8_all] at bN
    have cN := bN.cell
    have cL := bL.cell
    clear HF bN5 bL5 hB5 hE6 hV5
    have HBN := Lib.hid bN
    have HBL := Lib.hid bL
    have HK := Lib.hid hK
    have HB := Lib.hid hB
    have hsm := psame_any _ _ l8 l8 W hE hV
    rw [decide_eq_true rfl] at hsm
    have HSm := Lib.hid hsm
    clear hsm
    have HE := Lib.hid hE
    clear bN bL hE hV hB hK
    gi_wp2
    refine ⟨trivial, (callsIn_wide.2 HSm.out).mono ?_⟩
    rintro y w6 ⟨rfl, hb⟩
    have HBN6 := Lib.hid (boxed_later HBN.out hb)
    have HBL6 := Lib.hid (boxed_later HBL.out hb)
    have HK6 := Lib.hid ((hb.block D (Array.getElem?_eq_some_iff.1 HK.out).1).trans HK.out)
    have HB6 := Lib.hid (HB.out.trans (hb.mono HB.out.size))
    have HSz6 := Lib.hid (HSiz.out _ w6 (HE.out.below hb))
    clear hb cN cL
    have cN := HBN6.out.cell
    have cL := HBL6.out.cell
    gi_wp2
    refine ⟨trivial, (callsIn_wide.2 HSz6.out).mono ?_⟩
    rintro y w7 ⟨rfl, hb⟩
    have HBN7 := Lib.hid (boxed_later HBN6.out hb)
    have HK7 := Lib.hid ((hb.block D (Array.getElem?_eq_some_iff.1 HK6.out).1).trans HK6.out)
    have HB7 := Lib.hid (HB6.out.trans (hb.mono HB6.out.size))
    clear hb cN cL
    have cN := HBN7.out.cell
    gi_wp2
    refine ⟨by simp, .inl ⟨_, _, rfl, run_takeDeferred HK7.out, ?_⟩⟩
    refine ⟨_, results_tmp rfl _ _ _, ?_, HB7.out.trans (belowK_b (w := w) (Nat.le_refl _) w7 D _ _ (by omega) HK7.out rfl rfl)⟩
    rfl
  case stop =>
    rintro D c pre W _ _ h _
    exact h.elim
end Go.Proofs.Ytgnghnekckhcdaa
