/- awake of the law, over what Tiles hands, told ahead. -/
import Derived.Test.YthaembnfdkcheaaPt2
import Derived.Test.YthaembnfdkcheaaRe
namespace Go.Proofs.Ythaembnfdkcheaa
open Go.RowKit Go.Shelf
set_option linter.unusedVariables false
set_option linter.unusedSimpArgs false
attribute [local go_sem] Oper.semAt_some
def l9 : List En := [⟨5, 0, 1, 3⟩, ⟨9, 0, 2, 0⟩]
theorem fin9 : findN l9 7 = (⟨5, 0, 1, 3⟩, true) ∧ findN l9 8 = (zeroE, false) ∧ findN l9 99 = (⟨9, 0, 2, 0⟩, true) := by decide
theorem plc9 : placeN l9 4 = -1 ∧ placeN l9 8 = 0 ∧ leavesN l9 = [⟨9, 0, 2, 0⟩] := by decide
theorem may9 : MaysN l9 := by
  intro e he
  simp only [l9, List.mem_cons, List.not_mem_nil, or_false] at he
  rcases he with rfl | rfl <;> (unfold MayN; decide)
theorem til9 : tilesN l9 = [(5, ⟨5, 0, 1, 3⟩), (6, ⟨5, 0, 1, 3⟩), (7, ⟨5, 0, 1, 3⟩)] := by decide
theorem til9_len : (tilesN l9).length = 3 := by rw [til9]; rfl
theorem til9_at (k : Nat) (hk : k < 3) : idT (tilesN l9) k = 5 + (k : Int) ∧ enT (tilesN l9) k = ⟨5, 0, 1, 3⟩ := by
  unfold idT enT
  rw [til9]
  rcases (by omega : k = 0 ∨ k = 1 ∨ k = 2) with rfl | rfl | rfl <;> exact ⟨rfl, rfl⟩
theorem ens9 (w : World) (T : TypeId) : EnsAt (w.alloc (.cells #[.int .u64 5, .int .u64 0, .int .u32 1, .int .u32 3, .int .u64 9, .int .u64 0, .int .u32 2, .int .u32 0] T)) (.slice (some ⟨w.heap.size, 0, none⟩) 2 2) l9 := by
  refine ⟨_, 2, rfl, Nat.le_refl _, by unfold maxLen; omega, fun k t ht => ⟨w.heap.size, 0, rfl, by simp, ?_⟩⟩
  match k, ht with
  | 0, ht =>
    obtain rfl : (⟨5, 0, 1, 3⟩ : En) = t := by simpa [l9] using ht
    refine ⟨?_, ?_, ?_, ?_⟩ <;> rw [World.cell?_alloc_mark] <;> rfl
  | 1, ht =>
    obtain rfl : (⟨9, 0, 2, 0⟩ : En) = t := by simpa [l9] using ht
    refine ⟨?_, ?_, ?_, ?_⟩ <;> rw [World.cell?_alloc_mark] <;> rfl
  | k + 2, ht => simp [l9] at ht
/-- What must be achieved where a piece of code goes on as usual, and in no other way. -/
def normOnly (Q : Exit → Act → World → Prop) : Exit → Act → World → Prop
  | .normal, a, w => Q .normal a w
  | _, _, _ => False
theorem normOnly_to {Q : Exit → Act → World → Prop} : ∀ (e : Exit) (a : Act) (w : World), normOnly Q e a w → Q e a w
  | .normal, _, _, h => h
theorem normOnly_region {P : Program} {ops : Array Oper} {Q : Exit → Act → World → Prop} {S : World → Prop} {id : Nat} {a : Act} {w : World} (hm : P.follows .mixedOrders = true) (hS : S w.drew)
    (h : S w.drew → wpAnyH P .any ops (normOnly Q) S ops.size (Array.replicate ops.size false) a w.drew) : (Code.region id ops true).wp P (normOnly Q) a w := wp_region_held_drew hm hS h
theorem eat_far {W : World} {b B : Nat} {e : En} (h : EAt W b e) (hne : B ≠ b) (u : Value) : EAt (W.setCell ⟨B, 0, none⟩ u) b e :=
  ⟨(World.cell?_setCell_far W ⟨B, 0, none⟩ ⟨b, 0, none⟩ u hne).trans h.1, (World.cell?_setCell_far W ⟨B, 0, none⟩ ⟨b, 1, none⟩ u hne).trans h.2.1, (World.cell?_setCell_far W ⟨B, 0, none⟩ ⟨b, 2, none⟩ u hne).trans h.2.2.1, (World.cell?_setCell_far W ⟨B, 0, none⟩ ⟨b, 3, none⟩ u hne).trans h.2.2.2⟩
theorem eq_entS (a b : En) (T : TypeId) (w : World) (hT : T = 29) : (Op.equalIn 10000 T (.agg #[.int .u64 a.id, .int .u64 a.off, .int .u32 a.ln, .int .u32 a.rn]) (.agg #[.int .u64 b.id, .int .u64 b.off, .int .u32 b.ln, .int .u32 b.rn])).run Try.prog w = .ok (decide (a = b)) w := eq_entP a b T w hT
set_option maxRecDepth 100000 in
set_option maxHeartbeats 8000000 in
theorem awakeS_any (w : World) : Calls Try.prog 7 #[] w fun x w' => x = .returned (.bool true) ∧ Below w.heap.size w w' := by
  refine (callsIn_wide (n := 10)).1 ?_
  refine callsIn_of_wp_marks Try.func7 rfl trivial ?_ rfl
  simp only [Try.ntmps7, List.size_toArray, List.length_cons, List.length_nil, Nat.reduceAdd, Nat.reduceSub, Array.replicate_succ, Array.replicate_zero, List.push_toArray, List.append_toArray, List.nil_append, List.cons_append]
  have hf7 := fun (v : Value) (W : World) (h : EnsAt W v l9) => pfind_any v l9 7 W h may9 (by decide) (by decide) (by decide)
  have hf8 := fun (v : Value) (W : World) (h : EnsAt W v l9) => pfind_any v l9 8 W h may9 (by decide) (by decide) (by decide)
  have hf99 := fun (v : Value) (W : World) (h : EnsAt W v l9) => pfind_any v l9 99 W h may9 (by decide) (by decide) (by decide)
  have hp4 := fun (v : Value) (W : World) (h : EnsAt W v l9) => pplace_any v l9 4 W h may9 (by decide) (by decide) (by decide)
  have hp8 := fun (v : Value) (W : World) (h : EnsAt W v l9) => pplace_any v l9 8 W h may9 (by decide) (by decide) (by decide)
  have hlv := fun (v : Value) (W : World) (h : EnsAt W v l9) => pleaves_any v l9 W h may9 (by decide)
  have htl := fun (v : Value) (W : World) (h : EnsAt W v l9) => ptilD_any v l9 W h may9 (by decide)
  simp only [fin9.1] at hf7
  simp only [fin9.2.1] at hf8
  simp only [fin9.2.2] at hf99
  simp only [plc9.1] at hp4
  simp only [plc9.2.1] at hp8
  simp only [plc9.2.2] at hlv
  unfold eC at hf7 hf8 hf99
  simp only [zeroE] at hf8
  have HF7 := Lib.hid hf7
  have HF8 := Lib.hid hf8
  have HF99 := Lib.hid hf99
  have HP4 := Lib.hid hp4
  have HP8 := Lib.hid hp8
  have HLv := Lib.hid hlv
  have HTl := Lib.hid htl
  clear hf7 hf8 hf99 hp4 hp8 hlv htl
  have HE0 := Lib.hid ((ens9 w 29).below ((Below.refl _ _).alloc (Nat.le_refl _) (.cells #[(.slice (some ⟨w.heap.size, 0, none⟩) 2 2)] 25)))
  have bL0 := Boxed.new (w.alloc (.cells #[.int .u64 5, .int .u64 0, .int .u32 1, .int .u32 3, .int .u64 9, .int .u64 0, .int .u32 2, .int .u32 0] 29)) 25 (.slice (some ⟨w.heap.size, 0, none⟩) 2 2)
  have hB0 : Below w.heap.size w ((w.alloc (.cells #[.int .u64 5, .int .u64 0, .int .u32 1, .int .u32 3, .int .u64 9, .int .u64 0, .int .u32 2, .int .u32 0] 29)).alloc (.cells #[(.slice (some ⟨w.heap.size, 0, none⟩) 2 2)] 25)) := ((Below.refl _ w).alloc (Nat.le_refl _) _).alloc (by simp) _
  simp only [World.size_alloc] at bL0
  have hsz0 : ((w.alloc (.cells #[.int .u64 5, .int .u64 0, .int .u32 1, .int .u32 3, .int .u64 9, .int .u64 0, .int .u32 2, .int .u32 0] 29)).alloc (.cells #[(.slice (some ⟨w.heap.size, 0, none⟩) 2 2)] 25)).heap.size = w.heap.size + 2 := by simp
  gi_wp2
  obtain ⟨WA, hWA⟩ : ∃ WA, (w.alloc (.cells #[.int .u64 5, .int .u64 0, .int .u32 1, .int .u32 3, .int .u64 9, .int .u64 0, .int .u32 2, .int .u32 0] 29)).alloc (.cells #[(.slice (some ⟨w.heap.size, 0, none⟩) 2 2)] 25) = WA := ⟨_, rfl⟩
  rw [hWA] at HE0 bL0 hB0 hsz0 ⊢
  clear hWA
  have HL0 := Lib.hid bL0
  have HB0 := Lib.hid hB0
  clear bL0 hB0
  refine ⟨trivial, (callsIn_wide.2 (HF7.out _ _ HE0.out)).mono ?_⟩
  rintro y w1 ⟨rfl, hb⟩
  have hA := (Below.refl w1.heap.size w1).alloc (Nat.le_refl _) (.cells #[.int .u64 5, .int .u64 0, .int .u32 1, .int .u32 3] 29)
  have HL1 := Lib.hid (boxed_later (boxed_later HL0.out hb) hA)
  have HE1 := Lib.hid ((HE0.out.below hb).below hA)
  have HB1 := Lib.hid ((HB0.out.trans (hb.mono HB0.out.size)).trans (hA.mono (Nat.le_trans HB0.out.size hb.size)))
  have HXa1 : Hid (EAt (w1.alloc (.cells #[.int .u64 5, .int .u64 0, .int .u32 1, .int .u32 3] 29)) w1.heap.size ⟨5, 0, 1, 3⟩) := Lib.hid (EAt.made w1 ⟨5, 0, 1, 3⟩ 29)
  have hs1 : w.heap.size + 2 ≤ w1.heap.size := by have := hb.size; omega
  have hz1 := hb.size
  obtain ⟨V1, hV1⟩ : ∃ V, w1.alloc (.cells #[.int .u64 5, .int .u64 0, .int .u32 1, .int .u32 3] 29) = V := ⟨_, rfl⟩
  have hsV1 : V1.heap.size = w1.heap.size + 1 := by rw [← hV1]; simp
  rw [hV1] at HL1 HE1 HB1 HXa1 
  have cL := HL1.out.cell
  clear hb hA
  gi_wp2
  clear hV1
  refine ⟨trivial, (callsIn_wide.2 (HF8.out _ _ HE1.out)).mono ?_⟩
  rintro y w2 ⟨rfl, hb⟩
  have hA := (Below.refl w2.heap.size w2).alloc (Nat.le_refl _) (.cells #[.int .u64 0, .int .u64 0, .int .u32 0, .int .u32 0] 29)
  have HL2 := Lib.hid (boxed_later (boxed_later HL1.out hb) hA)
  have HE2 := Lib.hid ((HE1.out.below hb).below hA)
  have HB2 := Lib.hid ((HB1.out.trans (hb.mono HB1.out.size)).trans (hA.mono (Nat.le_trans HB1.out.size hb.size)))
  have HXa2 := Lib.hid ((HXa1.out.later hb).later hA)
  have HXz2 : Hid (EAt (w2.alloc (.cells #[.int .u64 0, .int .u64 0, .int .u32 0, .int .u32 0] 29)) w2.heap.size ⟨0, 0, 0, 0⟩) := Lib.hid (EAt.made w2 ⟨0, 0, 0, 0⟩ 29)
  have hs2 : w.heap.size + 2 ≤ w2.heap.size := by have := hb.size; omega
  have hz2 := hb.size
  have cL := HL2.out.cell
  clear hb hA
  gi_wp2
  obtain ⟨V2, hV2⟩ : ∃ V, w2.alloc (.cells #[.int .u64 0, .int .u64 0, .int .u32 0, .int .u32 0] 29) = V := ⟨_, rfl⟩
  have hsV2 : V2.heap.size = w2.heap.size + 1 := by rw [← hV2]; simp
  rw [hV2] at HL2 HE2 HB2 HXz2 HXa2 cL ⊢
  clear hV2
  refine ⟨trivial, (callsIn_wide.2 (HF99.out _ _ HE2.out)).mono ?_⟩
  rintro y w3 ⟨rfl, hb⟩
  have hA := (Below.refl w3.heap.size w3).alloc (Nat.le_refl _) (.cells #[.int .u64 9, .int .u64 0, .int .u32 2, .int .u32 0] 29)
  have HL3 := Lib.hid (boxed_later (boxed_later HL2.out hb) hA)
  have HE3 := Lib.hid ((HE2.out.below hb).below hA)
  have HB3 := Lib.hid ((HB2.out.trans (hb.mono HB2.out.size)).trans (hA.mono (Nat.le_trans HB2.out.size hb.size)))
  have HXa3 := Lib.hid ((HXa2.out.later hb).later hA)
  have HXb3 : Hid (EAt (w3.alloc (.cells #[.int .u64 9, .int .u64 0, .int .u32 2, .int .u32 0] 29)) w3.heap.size ⟨9, 0, 2, 0⟩) := Lib.hid (EAt.made w3 ⟨9, 0, 2, 0⟩ 29)
  have hs3 : w.heap.size + 2 ≤ w3.heap.size := by have := hb.size; omega
  have hz3 := hb.size
  have hN := (Below.refl (w3.alloc (.cells #[.int .u64 9, .int .u64 0, .int .u32 2, .int .u32 0] 29)).heap.size (w3.alloc (.cells #[.int .u64 9, .int .u64 0, .int .u32 2, .int .u32 0] 29))).alloc (Nat.le_refl _) (.cells #[.int .i64 0] 3)
  have HN := Lib.hid hN
  have cL := (boxed_later HL3.out hN).cell
  clear hb hA hN
  gi_wp2
  have HL4 := Lib.hid (boxed_later HL3.out HN.out)
  have HE4 := Lib.hid (HE3.out.below HN.out)
  have HB4 := Lib.hid (HB3.out.trans (HN.out.mono HB3.out.size))
  have HXa4 := Lib.hid (HXa3.out.later HN.out)
  have HXb4 := Lib.hid (HXb3.out.later HN.out)
  have bN0 := Boxed.new (w3.alloc (.cells #[.int .u64 9, .int .u64 0, .int .u32 2, .int .u32 0] 29)) 3 (.int .i64 0)
  obtain ⟨WB, hWB⟩ : ∃ WB, World.alloc (w3.alloc (.cells #[.int .u64 9, .int .u64 0, .int .u32 2, .int .u32 0] 29)) (.cells #[.int .i64 0] 3) = WB := ⟨_, rfl⟩
  have hszB : WB.heap.size = w3.heap.size + 2 := by rw [← hWB]; simp
  simp only [World.size_alloc] at bN0
  rw [hWB] at HL4 HE4 HB4 HXa4 HXb4 bN0 cL ⊢
  clear hWB HN
  refine ⟨trivial, (callsIn_wide.2 (HTl.out _ _ HE4.out)).mono ?_⟩
  rintro y w5 ⟨_, rfl, ⟨g, lb, V, rfl, heg, hV, hseq⟩, hb⟩
  have HF := Lib.hid (And.intro (boxed_later bN0 hb) (And.intro (boxed_later HL4.out hb) (And.intro (HB4.out.trans (hb.mono HB4.out.size)) (And.intro (HE4.out.below hb) (And.intro (HXa4.out.later hb) (HXb4.out.later hb))))))
  have hs5 := hb.size
  have HSQ := Lib.hid hseq
  have HEG := Lib.hid heg
  have HVV := Lib.hid hV
  have hfn := fun W => fnT_neq g lb W
  clear hb hseq heg hV bN0 HL4 HE4 HB4 HXa4 HXb4 cL
  gi_wp2
  clear hfn
  obtain ⟨bN5, bL5, hB5, hE5, hXa5, hXb5⟩ := HF.out
  refine range_d2b (n := 10) (val := fun k => .int .u64 (idT (tilesN l9) k)) (ent := enT (tilesN l9)) (E := 29) (r := 10) (s := 11) rfl HEG.out (HSQ.out w5 (Below.refl _ _)) (Below.refl _ _) (fun r hr => (HVV.out r hr).1)
    (fun k S W => (((Boxed W (w3.heap.size + 1) 3 (.int .i64 (k : Int)) ∧ Boxed W (w.heap.size + 1) 25 (.slice (some ⟨w.heap.size, 0, none⟩) 2 2)) ∧ (EnsAt W (.slice (some ⟨w.heap.size, 0, none⟩) 2 2) l9 ∧ (EAt W w1.heap.size ⟨5, 0, 1, 3⟩ ∧ EAt W w3.heap.size ⟨9, 0, 2, 0⟩))) ∧ (Below w.heap.size w W ∧ w5.heap.size ≤ W.heap.size)) ∧ ∀ b, S b ↔ b = w3.heap.size + 1)
    (fun _ _ _ => False) ?hI (fun _ _ _ _ _ h _ _ => h) ?hG (fun b => b = w3.heap.size + 1) ?hS0 ⟨⟨⟨⟨bN5, bL5⟩, hE5, hXa5, hXb5⟩, hB5, Nat.le_refl _⟩, fun b => Iff.rfl⟩ ?assign ?body ?done ?stop
  case hI =>
    rintro ⟨k, S⟩ X Y row ⟨⟨⟨⟨b1, b2⟩, h3, h4, h5⟩, h6, h7⟩, h8⟩ hgr hr
    exact ⟨⟨⟨⟨boxed_bears (β := Unit) _ _ (fun _ => _) w5.heap.size () X Y row b1 hgr hr, boxed_bears (β := Unit) _ _ (fun _ => _) w5.heap.size () X Y row b2 hgr hr⟩, ens_bears h3 hgr hr, eat_bears (T := fun _ => False) _ _ (fun _ h => h.elim) () X Y row h4 hgr hr, eat_bears (T := fun _ => False) _ _ (fun _ h => h.elim) () X Y row h5 hgr hr⟩,
      bears_below (β := Unit) (T := fun _ => False) (Nat.le_refl _) (B := w5.heap.size) (by have := hB5.size; omega) (fun _ h => h.elim) () X Y row h6 hgr hr, Nat.le_trans h7 hgr.size⟩, h8⟩
  case hG =>
    rintro k S W ⟨⟨⟨⟨b1, b2⟩, h3⟩, h6, h7⟩, h8⟩
    exact ⟨h7, fun b hb => by rw [(h8 b).1 hb]; exact b1.lt⟩
  case hS0 =>
    rintro b rfl
    refine ⟨bN5.lt, fun h => ?_⟩
    rcases (HVV.out _ h).2 with ⟨a, n, c, e1, e2⟩ | h1
    · cases e1
      simp at e2
      omega
    · omega
  case assign =>
    intro lq k W' K hK
    unfold eC at hK ⊢
    simp only [List.setIfInBounds_toArray, List.set_cons_zero, List.set_cons_succ] at hK ⊢
    gi_wp2
    exact hK
  case body =>
    clear HF bN5 bL5 hB5 hE5 hXa5 hXb5
    rintro lq k Bx S W hlq ⟨⟨⟨⟨bN, bL⟩, hE, hXa, hXb⟩, hB, h7⟩, hS⟩ hBx bX hlt
    rw [til9_len] at hlt
    obtain ⟨hx, he⟩ := til9_at k hlt
    generalize idT (tilesN l9) k = x at *
    generalize enT (tilesN l9) k = e at *
    have cN := bN.cell
    have fN := bN.frozen
    have cL := bL.cell
    have hw1 : IntKind.i64.wrap (5 + (k : Int)) = 5 + (k : Int) := by rw [IntKind.wrap_i64] <;> omega
    have hw2 : IntKind.u64.wrap (5 + (k : Int)) = 5 + (k : Int) := by rw [IntKind.wrap_u64] <;> omega
    have hwk : IntKind.i64.wrap ((k : Int) + 1) = (k : Int) + 1 := by rw [IntKind.wrap_i64] <;> omega
    simp only [List.setIfInBounds_toArray, List.set_cons_zero, List.set_cons_succ]
    unfold eC
    have hmx : Try.prog.follows .mixedOrders = true := by kernel_rfl
    have hdr : Below W.heap.size W W.drew := Below.drew (Below.refl _ _)
    have HIv := Lib.hid (And.intro bN (And.intro bL (And.intro hE (And.intro hXa (And.intro hXb (And.intro hB (And.intro h7 hS)))))))
    have hd1 : (x == 5 + (k : Int)) = true := by simpa using hx
    obtain ⟨g', off', cap', hs, _, _, hcell⟩ := ens_at hE 0 (by decide)
    obtain ⟨f0, f1, f2, f3⟩ := hcell 0 ⟨5, 0, 1, 3⟩ rfl
    simp only [Value.slice.injEq, Option.some.injEq, Addr.mk.injEq, and_true] at hs
    obtain ⟨⟨rfl, rfl⟩, -, rfl⟩ := hs
    obtain ⟨x0, x1, x2, x3⟩ := bX
    have HS0 : (fun w' : World => (w'.cell? ⟨Bx, 0, none⟩ = some (.int .u64 e.id) ∧ w'.cell? ⟨Bx, 1, none⟩ = some (.int .u64 e.off) ∧ w'.cell? ⟨Bx, 2, none⟩ = some (.int .u32 e.ln) ∧ w'.cell? ⟨Bx, 3, none⟩ = some (.int .u32 e.rn)) ∧ (w'.cell? ⟨w.heap.size, 0, none⟩ = some (.int .u64 5) ∧ w'.cell? ⟨w.heap.size, 1, none⟩ = some (.int .u64 0) ∧ w'.cell? ⟨w.heap.size, 2, none⟩ = some (.int .u32 1) ∧ w'.cell? ⟨w.heap.size, 3, none⟩ = some (.int .u32 3)) ∧ w'.cell? ⟨w3.heap.size + 1, 0, none⟩ = some (.int .i64 (k : Int)) ∧ w'.cell? ⟨w.heap.size + 1, 0, none⟩ = some (.slice (some ⟨w.heap.size, 0, none⟩) 2 2)) W.drew := ⟨⟨ecell_later hdr x0, ecell_later hdr x1, ecell_later hdr x2, ecell_later hdr x3⟩, ⟨ecell_later hdr f0, ecell_later hdr f1, ecell_later hdr f2, ecell_later hdr f3⟩, ecell_later hdr cN, ecell_later hdr cL⟩
    have hq := fun W => eq_entS e ⟨5, 0, 1, 3⟩ _ W rfl
    rw [decide_eq_true he] at hq
    have fN2 : W.drew.frozen? ⟨w3.heap.size + 1, 0, none⟩ = false := (boxed_later bN hdr).frozen
    clear hx he cN cL fN x0 x1 x2 x3 f0 f1 f2 f3 hcell hE hXa hXb hB bN bL hdr h7 hS
    gi_wp2
    refine round_held (S := fun w' => (w'.cell? ⟨Bx, 0, none⟩ = some (.int .u64 e.id) ∧ w'.cell? ⟨Bx, 1, none⟩ = some (.int .u64 e.off) ∧ w'.cell? ⟨Bx, 2, none⟩ = some (.int .u32 e.ln) ∧ w'.cell? ⟨Bx, 3, none⟩ = some (.int .u32 e.rn)) ∧ (w'.cell? ⟨w.heap.size, 0, none⟩ = some (.int .u64 5) ∧ w'.cell? ⟨w.heap.size, 1, none⟩ = some (.int .u64 0) ∧ w'.cell? ⟨w.heap.size, 2, none⟩ = some (.int .u32 1) ∧ w'.cell? ⟨w.heap.size, 3, none⟩ = some (.int .u32 3)) ∧ w'.cell? ⟨w3.heap.size + 1, 0, none⟩ = some (.int .i64 (k : Int)) ∧ w'.cell? ⟨w.heap.size + 1, 0, none⟩ = some (.slice (some ⟨w.heap.size, 0, none⟩) 2 2)) hmx (by kernel_rfl) (by rintro ⟨_, _, h⟩; exact h) HS0 (fun hH0 => ?_)
    refine takeH (i := 0) (d := 37) (v := ?_) rfl rfl (by kernel_rfl) (by kernel_rfl) (by kernel_rfl) (fun _ _ _ h => h) (Or.inl ⟨by rfl, ?y0⟩) hH0 ?_
    case y0 => intro w hSw; go_simp; try with_reducible rfl
    try simp only [Act.put, List.setIfInBounds_toArray, List.set_cons_zero, List.set_cons_succ]
    refine takeH (i := 1) (d := 38) (v := ?_) rfl rfl (by kernel_rfl) (by kernel_rfl) (by kernel_rfl) (fun _ _ _ h => h) (Or.inl ⟨by rfl, ?y1⟩) hH0 ?_
    case y1 => intro w hSw; go_simp; try with_reducible rfl
    try simp only [Act.put, List.setIfInBounds_toArray, List.set_cons_zero, List.set_cons_succ]
    refine takeH (i := 2) (d := 39) (v := ?_) rfl rfl (by kernel_rfl) (by kernel_rfl) (by kernel_rfl) (fun _ _ _ h => h) (Or.inl ⟨by rfl, ?y2⟩) hH0 ?_
    case y2 => intro w hSw; go_simp; try with_reducible rfl
    try simp only [Act.put, List.setIfInBounds_toArray, List.set_cons_zero, List.set_cons_succ]
    refine takeH (i := 3) (d := 40) (v := ?_) rfl rfl (by kernel_rfl) (by kernel_rfl) (by kernel_rfl) (fun _ _ _ h => h) (Or.inl ⟨by rfl, ?y3⟩) hH0 ?_
    case y3 => intro w hSw; go_simp; try with_reducible rfl
    try simp only [Act.put, List.setIfInBounds_toArray, List.set_cons_zero, List.set_cons_succ]
    refine takeH (i := 4) (d := 41) (v := ?_) rfl rfl (by kernel_rfl) (by kernel_rfl) (by kernel_rfl) (fun _ _ _ h => h) (Or.inl ⟨by rfl, ?y4⟩) hH0 ?_
    case y4 => intro w hSw; go_simp; try with_reducible rfl
    try simp only [Act.put, List.setIfInBounds_toArray, List.set_cons_zero, List.set_cons_succ]
    refine takeH (i := 5) (d := 42) (v := ?_) rfl rfl (by kernel_rfl) (by kernel_rfl) (by kernel_rfl) (fun _ _ _ h => h) (Or.inl ⟨by rfl, ?y5⟩) hH0 ?_
    case y5 => intro w hSw; go_simp; try with_reducible rfl
    try simp only [Act.put, List.setIfInBounds_toArray, List.set_cons_zero, List.set_cons_succ]
    refine takeH (i := 6) (d := 43) (v := ?_) rfl rfl (by kernel_rfl) (by kernel_rfl) (by kernel_rfl) (fun _ _ _ h => h) (Or.inl ⟨by rfl, ?y6⟩) hH0 ?_
    case y6 => intro w hSw; go_simp; try with_reducible rfl
    try simp only [Act.put, List.setIfInBounds_toArray, List.set_cons_zero, List.set_cons_succ]
    refine takeH (i := 7) (d := 44) (v := ?_) rfl rfl (by kernel_rfl) (by kernel_rfl) (by kernel_rfl) (fun _ _ _ h => h) (Or.inl ⟨by rfl, ?y7⟩) hH0 ?_
    case y7 => intro w hSw; go_simp; try with_reducible rfl
    try simp only [Act.put, List.setIfInBounds_toArray, List.set_cons_zero, List.set_cons_succ]
    refine takeH (i := 8) (d := 45) (v := ?_) rfl rfl (by kernel_rfl) (by kernel_rfl) (by kernel_rfl) (fun _ _ _ h => h) (Or.inl ⟨by rfl, ?y8⟩) hH0 ?_
    case y8 => intro w hSw; go_simp; try with_reducible rfl
    try simp only [Act.put, List.setIfInBounds_toArray, List.set_cons_zero, List.set_cons_succ]
    refine takeH (i := 9) (d := 46) (v := ?_) rfl rfl (by kernel_rfl) (by kernel_rfl) (by kernel_rfl) (fun _ _ _ h => h) (Or.inl ⟨by rfl, ?y9⟩) hH0 ?_
    case y9 => intro w hSw; go_simp; try with_reducible rfl
    try simp only [Act.put, List.setIfInBounds_toArray, List.set_cons_zero, List.set_cons_succ]
    refine takeH (i := 10) (d := 47) (v := ?_) rfl rfl (by kernel_rfl) (by kernel_rfl) (by kernel_rfl) (fun _ _ _ h => h) (Or.inl ⟨by rfl, ?y10⟩) hH0 ?_
    case y10 => intro w hSw; go_simp; try with_reducible rfl
    try simp only [Act.put, List.setIfInBounds_toArray, List.set_cons_zero, List.set_cons_succ]
    refine takeH (i := 11) (d := 48) (v := ?_) rfl rfl (by kernel_rfl) (by kernel_rfl) (by kernel_rfl) (fun _ _ _ h => h) (Or.inl ⟨by rfl, ?y11⟩) hH0 ?_
    case y11 => intro w hSw; go_simp; try with_reducible rfl
    try simp only [Act.put, List.setIfInBounds_toArray, List.set_cons_zero, List.set_cons_succ]
    refine wpAnyH_done (by kernel_rfl) ?_ _
    obtain ⟨-, -, cN, -⟩ := hH0
    gi_wp2
    have hset : Below w.heap.size W (W.setCell ⟨w3.heap.size + 1, 0, none⟩ (.int .i64 ((k : Int) + 1))) := (Below.refl _ W).setCell (p := ⟨w3.heap.size + 1, 0, none⟩) (by show w.heap.size ≤ w3.heap.size + 1; omega) _
    have hdr2 : Below (W.setCell ⟨w3.heap.size + 1, 0, none⟩ (.int .i64 ((k : Int) + 1))).heap.size (W.setCell ⟨w3.heap.size + 1, 0, none⟩ (.int .i64 ((k : Int) + 1))) (W.setCell ⟨w3.heap.size + 1, 0, none⟩ (.int .i64 ((k : Int) + 1))).drew := Below.drew (Below.refl _ _)
    refine ⟨S, ⟨⟨⟨⟨boxed_later ?_ hdr2, boxed_later (Boxed.other HIv.out.2.1 (by omega) _) hdr2⟩, (ens_set HIv.out.2.2.1 HIv.out.1 _).below hdr2, (eat_far HIv.out.2.2.2.1 (by omega) _).later hdr2, (eat_far HIv.out.2.2.2.2.1 (by omega) _).later hdr2⟩, (HIv.out.2.2.2.2.2.1.trans hset).trans (hdr2.mono (Nat.le_trans HIv.out.2.2.2.2.2.1.size hset.size)), ?_⟩, HIv.out.2.2.2.2.2.2.2⟩, (KeepsS.setCell S W ⟨w3.heap.size + 1, 0, none⟩ _ ((HIv.out.2.2.2.2.2.2.2 _).2 rfl)).trans (KeepsS.below S hdr2)⟩
    · rw [show ((k + 1 : Nat) : Int) = (k : Int) + 1 from by omega]
      exact HIv.out.1.set _
    · exact Nat.le_trans HIv.out.2.2.2.2.2.2.1 (Nat.le_trans hset.size hdr2.size)
  case done =>
    rintro D S W hD hSD ⟨⟨⟨⟨bN, bL⟩, hE, hXa, hXb⟩, hB, h7⟩, hS⟩ hK
    clear HF bN5 bL5 hB5 hE5 hXa5 hXb5
    rw [til9_len] at bN
    obtain ⟨g0, off0, cap0, hs0, _, _, hcell⟩ := ens_at hE 0 (by decide)
    have f0 := hcell 0 ⟨5, 0, 1, 3⟩ rfl
    have f1 := hcell 1 ⟨9, 0, 2, 0⟩ rfl
    simp only [Value.slice.injEq, Option.some.injEq, Addr.mk.injEq, and_true] at hs0
    obtain ⟨⟨rfl, rfl⟩, -, rfl⟩ := hs0
    have FX0 : ∀ w' : World, Below W.heap.size W w' → ((w'.cell? ⟨w1.heap.size, 0, none⟩ = some (.int .u64 5) ∧ w'.cell? ⟨w1.heap.size, 1, none⟩ = some (.int .u64 0) ∧ w'.cell? ⟨w1.heap.size, 2, none⟩ = some (.int .u32 1) ∧ w'.cell? ⟨w1.heap.size, 3, none⟩ = some (.int .u32 3)) ∧ (w'.cell? ⟨w3.heap.size, 0, none⟩ = some (.int .u64 9) ∧ w'.cell? ⟨w3.heap.size, 1, none⟩ = some (.int .u64 0) ∧ w'.cell? ⟨w3.heap.size, 2, none⟩ = some (.int .u32 2) ∧ w'.cell? ⟨w3.heap.size, 3, none⟩ = some (.int .u32 0)) ∧ (w'.cell? ⟨w.heap.size, 0, none⟩ = some (.int .u64 5) ∧ w'.cell? ⟨w.heap.size, 1, none⟩ = some (.int .u64 0) ∧ w'.cell? ⟨w.heap.size, 2, none⟩ = some (.int .u32 1) ∧ w'.cell? ⟨w.heap.size, 3, none⟩ = some (.int .u32 3)) ∧ (w'.cell? ⟨w.heap.size, 4, none⟩ = some (.int .u64 9) ∧ w'.cell? ⟨w.heap.size, 5, none⟩ = some (.int .u64 0) ∧ w'.cell? ⟨w.heap.size, 6, none⟩ = some (.int .u32 2) ∧ w'.cell? ⟨w.heap.size, 7, none⟩ = some (.int .u32 0)) ∧ w'.cell? ⟨w3.heap.size + 1, 0, none⟩ = some (.int .i64 3) ∧ w'.cell? ⟨w.heap.size + 1, 0, none⟩ = some (.slice (some ⟨w.heap.size, 0, none⟩) 2 2)) ∧ Below W.heap.size W w' := fun w' h => ⟨⟨⟨ecell_later h hXa.1, ecell_later h hXa.2.1, ecell_later h hXa.2.2.1, ecell_later h hXa.2.2.2⟩, ⟨ecell_later h hXb.1, ecell_later h hXb.2.1, ecell_later h hXb.2.2.1, ecell_later h hXb.2.2.2⟩, ⟨ecell_later h f0.1, ecell_later h f0.2.1, ecell_later h f0.2.2.1, ecell_later h f0.2.2.2⟩, ⟨ecell_later h f1.1, ecell_later h f1.2.1, ecell_later h f1.2.2.1, ecell_later h f1.2.2.2⟩, (boxed_later bN h).cell, (boxed_later bL h).cell⟩, h⟩
    have FX := Lib.hid FX0
    have HEw := Lib.hid hE
    have HKw := Lib.hid hK
    have HBw := Lib.hid hB
    have HS0 : (fun w' : World => ((w'.cell? ⟨w1.heap.size, 0, none⟩ = some (.int .u64 5) ∧ w'.cell? ⟨w1.heap.size, 1, none⟩ = some (.int .u64 0) ∧ w'.cell? ⟨w1.heap.size, 2, none⟩ = some (.int .u32 1) ∧ w'.cell? ⟨w1.heap.size, 3, none⟩ = some (.int .u32 3)) ∧ (w'.cell? ⟨w3.heap.size, 0, none⟩ = some (.int .u64 9) ∧ w'.cell? ⟨w3.heap.size, 1, none⟩ = some (.int .u64 0) ∧ w'.cell? ⟨w3.heap.size, 2, none⟩ = some (.int .u32 2) ∧ w'.cell? ⟨w3.heap.size, 3, none⟩ = some (.int .u32 0)) ∧ (w'.cell? ⟨w.heap.size, 0, none⟩ = some (.int .u64 5) ∧ w'.cell? ⟨w.heap.size, 1, none⟩ = some (.int .u64 0) ∧ w'.cell? ⟨w.heap.size, 2, none⟩ = some (.int .u32 1) ∧ w'.cell? ⟨w.heap.size, 3, none⟩ = some (.int .u32 3)) ∧ (w'.cell? ⟨w.heap.size, 4, none⟩ = some (.int .u64 9) ∧ w'.cell? ⟨w.heap.size, 5, none⟩ = some (.int .u64 0) ∧ w'.cell? ⟨w.heap.size, 6, none⟩ = some (.int .u32 2) ∧ w'.cell? ⟨w.heap.size, 7, none⟩ = some (.int .u32 0)) ∧ w'.cell? ⟨w3.heap.size + 1, 0, none⟩ = some (.int .i64 3) ∧ w'.cell? ⟨w.heap.size + 1, 0, none⟩ = some (.slice (some ⟨w.heap.size, 0, none⟩) 2 2)) ∧ Below W.heap.size W w') W.drew := FX.out _ (Below.drew (Below.refl _ _))
    have hq0 := fun W => eq_entS ⟨5, 0, 1, 3⟩ ⟨5, 0, 1, 3⟩ _ W rfl
    have hq1 := fun W => eq_entS ⟨9, 0, 2, 0⟩ ⟨9, 0, 2, 0⟩ _ W rfl
    rw [decide_eq_true rfl] at hq0 hq1
    clear bN bL hE hXa hXb hB hK f0 f1 hcell FX0
    gi_wp2
    refine wpIn_wide.2 (wp_mono (normOnly_region (S := fun w' => ((w'.cell? ⟨w1.heap.size, 0, none⟩ = some (.int .u64 5) ∧ w'.cell? ⟨w1.heap.size, 1, none⟩ = some (.int .u64 0) ∧ w'.cell? ⟨w1.heap.size, 2, none⟩ = some (.int .u32 1) ∧ w'.cell? ⟨w1.heap.size, 3, none⟩ = some (.int .u32 3)) ∧ (w'.cell? ⟨w3.heap.size, 0, none⟩ = some (.int .u64 9) ∧ w'.cell? ⟨w3.heap.size, 1, none⟩ = some (.int .u64 0) ∧ w'.cell? ⟨w3.heap.size, 2, none⟩ = some (.int .u32 2) ∧ w'.cell? ⟨w3.heap.size, 3, none⟩ = some (.int .u32 0)) ∧ (w'.cell? ⟨w.heap.size, 0, none⟩ = some (.int .u64 5) ∧ w'.cell? ⟨w.heap.size, 1, none⟩ = some (.int .u64 0) ∧ w'.cell? ⟨w.heap.size, 2, none⟩ = some (.int .u32 1) ∧ w'.cell? ⟨w.heap.size, 3, none⟩ = some (.int .u32 3)) ∧ (w'.cell? ⟨w.heap.size, 4, none⟩ = some (.int .u64 9) ∧ w'.cell? ⟨w.heap.size, 5, none⟩ = some (.int .u64 0) ∧ w'.cell? ⟨w.heap.size, 6, none⟩ = some (.int .u32 2) ∧ w'.cell? ⟨w.heap.size, 7, none⟩ = some (.int .u32 0)) ∧ w'.cell? ⟨w3.heap.size + 1, 0, none⟩ = some (.int .i64 3) ∧ w'.cell? ⟨w.heap.size + 1, 0, none⟩ = some (.slice (some ⟨w.heap.size, 0, none⟩) 2 2)) ∧ Below W.heap.size W w') (by kernel_rfl) HS0 (fun hH0 => ?_)) normOnly_to)
    refine takeH (i := 0) (d := 51) (v := ?_) rfl rfl (by kernel_rfl) (by kernel_rfl) (by kernel_rfl) (fun _ _ _ h => h) (Or.inl ⟨by rfl, ?y0⟩) hH0 ?_
    case y0 => intro w hSw; go_simp; try with_reducible rfl
    try simp only [Act.put, List.setIfInBounds_toArray, List.set_cons_zero, List.set_cons_succ]
    refine takeH (i := 1) (d := 52) (v := ?_) rfl rfl (by kernel_rfl) (by kernel_rfl) (by kernel_rfl) (fun _ _ _ h => h) (Or.inl ⟨by rfl, ?y1⟩) hH0 ?_
    case y1 => intro w hSw; go_simp; try with_reducible rfl
    try simp only [Act.put, List.setIfInBounds_toArray, List.set_cons_zero, List.set_cons_succ]
    refine takeH (i := 2) (d := 53) (v := ?_) rfl rfl (by kernel_rfl) (by kernel_rfl) (by kernel_rfl) (fun _ _ _ h => h) (Or.inl ⟨by rfl, ?y2⟩) hH0 ?_
    case y2 => intro w hSw; go_simp; try with_reducible rfl
    try simp only [Act.put, List.setIfInBounds_toArray, List.set_cons_zero, List.set_cons_succ]
    refine takeH (i := 3) (d := 54) (v := ?_) rfl rfl (by kernel_rfl) (by kernel_rfl) (by kernel_rfl) (fun _ _ _ h => h) (Or.inl ⟨by rfl, ?y3⟩) hH0 ?_
    case y3 => intro w hSw; go_simp; try with_reducible rfl
    try simp only [Act.put, List.setIfInBounds_toArray, List.set_cons_zero, List.set_cons_succ]
    refine takeH (i := 4) (d := 55) (v := ?_) rfl rfl (by kernel_rfl) (by kernel_rfl) (by kernel_rfl) (fun _ _ _ h => h) (Or.inl ⟨by rfl, ?y4⟩) hH0 ?_
    case y4 => intro w hSw; go_simp; try with_reducible rfl
    try simp only [Act.put, List.setIfInBounds_toArray, List.set_cons_zero, List.set_cons_succ]
    refine takeH (i := 5) (d := 56) (v := ?_) rfl rfl (by kernel_rfl) (by kernel_rfl) (by kernel_rfl) (fun _ _ _ h => h) (Or.inl ⟨by rfl, ?y5⟩) hH0 ?_
    case y5 => intro w hSw; go_simp; try with_reducible rfl
    try simp only [Act.put, List.setIfInBounds_toArray, List.set_cons_zero, List.set_cons_succ]
    refine takeH (i := 6) (d := 57) (v := ?_) rfl rfl (by kernel_rfl) (by kernel_rfl) (by kernel_rfl) (fun _ _ _ h => h) (Or.inl ⟨by rfl, ?y6⟩) hH0 ?_
    case y6 => intro w hSw; go_simp; try with_reducible rfl
    try simp only [Act.put, List.setIfInBounds_toArray, List.set_cons_zero, List.set_cons_succ]
    refine takeH (i := 7) (d := 58) (v := ?_) rfl rfl (by kernel_rfl) (by kernel_rfl) (by kernel_rfl) (fun _ _ _ h => h) (Or.inl ⟨by rfl, ?y7⟩) hH0 ?_
    case y7 => intro w hSw; go_simp; try with_reducible rfl
    try simp only [Act.put, List.setIfInBounds_toArray, List.set_cons_zero, List.set_cons_succ]
    refine takeH (i := 8) (d := 59) (v := ?_) rfl rfl (by kernel_rfl) (by kernel_rfl) (by kernel_rfl) (fun _ _ _ h => h) (Or.inl ⟨by rfl, ?y8⟩) hH0 ?_
    case y8 => intro w hSw; go_simp; try with_reducible rfl
    try simp only [Act.put, List.setIfInBounds_toArray, List.set_cons_zero, List.set_cons_succ]
    refine takeH (i := 9) (d := 60) (v := ?_) rfl rfl (by kernel_rfl) (by kernel_rfl) (by kernel_rfl) (fun _ _ _ h => h) (Or.inl ⟨by rfl, ?y9⟩) hH0 ?_
    case y9 => intro w hSw; go_simp; try with_reducible rfl
    try simp only [Act.put, List.setIfInBounds_toArray, List.set_cons_zero, List.set_cons_succ]
    refine takeH (i := 10) (d := 61) (v := ?_) rfl rfl (by kernel_rfl) (by kernel_rfl) (by kernel_rfl) (fun _ _ _ h => h) (Or.inl ⟨by rfl, ?y10⟩) hH0 ?_
    case y10 => intro w hSw; go_simp; try with_reducible rfl
    try simp only [Act.put, List.setIfInBounds_toArray, List.set_cons_zero, List.set_cons_succ]
    refine takeH (i := 11) (d := 62) (v := ?_) rfl rfl (by kernel_rfl) (by kernel_rfl) (by kernel_rfl) (fun _ _ _ h => h) (Or.inl ⟨by rfl, ?y11⟩) hH0 ?_
    case y11 => intro w hSw; go_simp; try with_reducible rfl
    try simp only [Act.put, List.setIfInBounds_toArray, List.set_cons_zero, List.set_cons_succ]
    refine takeH (i := 12) (d := 63) (v := ?_) rfl rfl (by kernel_rfl) (by kernel_rfl) (by kernel_rfl) (fun _ _ _ h => h) (Or.inl ⟨by rfl, ?y12⟩) hH0 ?_
    case y12 => intro w hSw; go_simp; try with_reducible rfl
    try simp only [Act.put, List.setIfInBounds_toArray, List.set_cons_zero, List.set_cons_succ]
    refine takeH (i := 13) (d := 64) (v := ?_) rfl rfl (by kernel_rfl) (by kernel_rfl) (by kernel_rfl) (fun _ _ _ h => h) (Or.inl ⟨by rfl, ?y13⟩) hH0 ?_
    case y13 => intro w hSw; go_simp; try with_reducible rfl
    try simp only [Act.put, List.setIfInBounds_toArray, List.set_cons_zero, List.set_cons_succ]
    refine takeH (i := 14) (d := 65) (v := ?_) rfl rfl (by kernel_rfl) (by kernel_rfl) (by kernel_rfl) (fun _ _ _ h => h) (Or.inl ⟨by rfl, ?y14⟩) hH0 ?_
    case y14 => intro w hSw; go_simp; try with_reducible rfl
    try simp only [Act.put, List.setIfInBounds_toArray, List.set_cons_zero, List.set_cons_succ]
    refine takeH (i := 15) (d := 66) (v := ?_) rfl rfl (by kernel_rfl) (by kernel_rfl) (by kernel_rfl) (fun _ _ _ h => h) (Or.inl ⟨by rfl, ?y15⟩) hH0 ?_
    case y15 => intro w hSw; go_simp; try with_reducible rfl
    try simp only [Act.put, List.setIfInBounds_toArray, List.set_cons_zero, List.set_cons_succ]
    refine takeH (i := 16) (d := 67) (v := ?_) rfl rfl (by kernel_rfl) (by kernel_rfl) (by kernel_rfl) (fun _ _ _ h => h) (Or.inl ⟨by rfl, ?y16⟩) hH0 ?_
    case y16 => intro w hSw; go_simp; try with_reducible rfl
    try simp only [Act.put, List.setIfInBounds_toArray, List.set_cons_zero, List.set_cons_succ]
    refine takeH (i := 17) (d := 68) (v := ?_) rfl rfl (by kernel_rfl) (by kernel_rfl) (by kernel_rfl) (fun _ _ _ h => h) (Or.inl ⟨by rfl, ?y17⟩) hH0 ?_
    case y17 => intro w hSw; go_simp; try with_reducible rfl
    try simp only [Act.put, List.setIfInBounds_toArray, List.set_cons_zero, List.set_cons_succ]
    refine takeH (i := 18) (d := 69) (v := ?_) rfl rfl (by kernel_rfl) (by kernel_rfl) (by kernel_rfl) (fun _ _ _ h => h) (Or.inl ⟨by rfl, ?y18⟩) hH0 ?_
    case y18 => intro w hSw; go_simp; try with_reducible rfl
    try simp only [Act.put, List.setIfInBounds_toArray, List.set_cons_zero, List.set_cons_succ]
    refine takeH (i := 19) (d := 70) (v := ?_) rfl rfl (by kernel_rfl) (by kernel_rfl) (by kernel_rfl) (fun _ _ _ h => h) (Or.inl ⟨by rfl, ?y19⟩) hH0 ?_
    case y19 => intro w hSw; go_simp; try with_reducible rfl
    try simp only [Act.put, List.setIfInBounds_toArray, List.set_cons_zero, List.set_cons_succ]
    refine takeH (i := 20) (d := 71) (v := ?_) rfl rfl (by kernel_rfl) (by kernel_rfl) (by kernel_rfl) (fun _ _ _ h => h) (Or.inl ⟨by rfl, ?y20⟩) hH0 ?_
    case y20 => intro w hSw; go_simp; try with_reducible rfl
    try simp only [Act.put, List.setIfInBounds_toArray, List.set_cons_zero, List.set_cons_succ]
    refine takeH (i := 21) (d := 72) (v := ?_) rfl rfl (by kernel_rfl) (by kernel_rfl) (by kernel_rfl) (fun _ _ _ h => h) (Or.inl ⟨by rfl, ?y21⟩) hH0 ?_
    case y21 => intro w hSw; go_simp; try with_reducible rfl
    try simp only [Act.put, List.setIfInBounds_toArray, List.set_cons_zero, List.set_cons_succ]
    refine takeH (i := 22) (d := 73) (v := ?_) rfl rfl (by kernel_rfl) (by kernel_rfl) (by kernel_rfl) (fun _ _ _ h => h) (Or.inl ⟨by rfl, ?y22⟩) hH0 ?_
    case y22 => intro w hSw; go_simp; try with_reducible rfl
    try simp only [Act.put, List.setIfInBounds_toArray, List.set_cons_zero, List.set_cons_succ]
    refine takeH (i := 23) (d := 74) (v := ?_) rfl rfl (by kernel_rfl) (by kernel_rfl) (by kernel_rfl) (fun _ _ _ h => h) (Or.inl ⟨by rfl, ?y23⟩) hH0 ?_
    case y23 => intro w hSw; go_simp; try with_reducible rfl
    try simp only [Act.put, List.setIfInBounds_toArray, List.set_cons_zero, List.set_cons_succ]
    refine wpAnyH_ready (rs := [24]) (by kernel_rfl) (by simp) ?_
    refine AllReadyH.cons rfl (fun K hK => ?_) AllReadyH.nil
    go_simp
    refine (HP4.out _ _ (HEw.out.below hH0.2)).mono ?_
    rintro e w' ⟨rfl, hb⟩
    go_wp2_with fail
    refine hK.out _ _ (FX.out _ (hH0.2.trans (hb.mono hH0.2.size))) (fun hH1 => ?_)
    clear hK K hb hH0
    try simp only [Act.put, List.setIfInBounds_toArray, List.set_cons_zero, List.set_cons_succ]
    refine takeH (i := 25) (d := 76) (v := ?_) rfl rfl (by kernel_rfl) (by kernel_rfl) (by kernel_rfl) (fun _ _ _ h => h) (Or.inl ⟨by rfl, ?y25⟩) hH1 ?_
    case y25 => intro w hSw; go_simp; try with_reducible rfl
    try simp only [Act.put, List.setIfInBounds_toArray, List.set_cons_zero, List.set_cons_succ]
    refine takeH (i := 26) (d := 77) (v := ?_) rfl rfl (by kernel_rfl) (by kernel_rfl) (by kernel_rfl) (fun _ _ _ h => h) (Or.inl ⟨by rfl, ?y26⟩) hH1 ?_
    case y26 => intro w hSw; go_simp; try with_reducible rfl
    try simp only [Act.put, List.setIfInBounds_toArray, List.set_cons_zero, List.set_cons_succ]
    refine takeH (i := 27) (d := 78) (v := ?_) rfl rfl (by kernel_rfl) (by kernel_rfl) (by kernel_rfl) (fun _ _ _ h => h) (Or.inl ⟨by rfl, ?y27⟩) hH1 ?_
    case y27 => intro w hSw; go_simp; try with_reducible rfl
    try simp only [Act.put, List.setIfInBounds_toArray, List.set_cons_zero, List.set_cons_succ]
    refine takeH (i := 28) (d := 79) (v := ?_) rfl rfl (by kernel_rfl) (by kernel_rfl) (by kernel_rfl) (fun _ _ _ h => h) (Or.inl ⟨by rfl, ?y28⟩) hH1 ?_
    case y28 => intro w hSw; go_simp; try with_reducible rfl
    try simp only [Act.put, List.setIfInBounds_toArray, List.set_cons_zero, List.set_cons_succ]
    refine wpAnyH_ready (rs := [29]) (by kernel_rfl) (by simp) ?_
    refine AllReadyH.cons rfl (fun K hK => ?_) AllReadyH.nil
    go_simp
    refine (HP8.out _ _ (HEw.out.below hH1.2)).mono ?_
    rintro e w' ⟨rfl, hb⟩
    go_wp2_with fail
    refine hK.out _ _ (FX.out _ (hH1.2.trans (hb.mono hH1.2.size))) (fun hH2 => ?_)
    clear hK K hb hH1
    try simp only [Act.put, List.setIfInBounds_toArray, List.set_cons_zero, List.set_cons_succ]
    refine takeH (i := 30) (d := 81) (v := ?_) rfl rfl (by kernel_rfl) (by kernel_rfl) (by kernel_rfl) (fun _ _ _ h => h) (Or.inl ⟨by rfl, ?y30⟩) hH2 ?_
    case y30 => intro w hSw; go_simp; try with_reducible rfl
    try simp only [Act.put, List.setIfInBounds_toArray, List.set_cons_zero, List.set_cons_succ]
    refine takeH (i := 31) (d := 82) (v := ?_) rfl rfl (by kernel_rfl) (by kernel_rfl) (by kernel_rfl) (fun _ _ _ h => h) (Or.inl ⟨by rfl, ?y31⟩) hH2 ?_
    case y31 => intro w hSw; go_simp; try with_reducible rfl
    try simp only [Act.put, List.setIfInBounds_toArray, List.set_cons_zero, List.set_cons_succ]
    refine takeH (i := 32) (d := 83) (v := ?_) rfl rfl (by kernel_rfl) (by kernel_rfl) (by kernel_rfl) (fun _ _ _ h => h) (Or.inl ⟨by rfl, ?y32⟩) hH2 ?_
    case y32 => intro w hSw; go_simp; try with_reducible rfl
    try simp only [Act.put, List.setIfInBounds_toArray, List.set_cons_zero, List.set_cons_succ]
    refine takeH (i := 33) (d := 84) (v := ?_) rfl rfl (by kernel_rfl) (by kernel_rfl) (by kernel_rfl) (fun _ _ _ h => h) (Or.inl ⟨by rfl, ?y33⟩) hH2 ?_
    case y33 => intro w hSw; go_simp; try with_reducible rfl
    try simp only [Act.put, List.setIfInBounds_toArray, List.set_cons_zero, List.set_cons_succ]
    refine takeH (i := 34) (d := 85) (v := ?_) rfl rfl (by kernel_rfl) (by kernel_rfl) (by kernel_rfl) (fun _ _ _ h => h) (Or.inl ⟨by rfl, ?y34⟩) hH2 ?_
    case y34 => intro w hSw; go_simp; try with_reducible rfl
    try simp only [Act.put, List.setIfInBounds_toArray, List.set_cons_zero, List.set_cons_succ]
    refine takeH (i := 35) (d := 86) (v := ?_) rfl rfl (by kernel_rfl) (by kernel_rfl) (by kernel_rfl) (fun _ _ _ h => h) (Or.inl ⟨by rfl, ?y35⟩) hH2 ?_
    case y35 => intro w hSw; go_simp; try with_reducible rfl
    try simp only [Act.put, List.setIfInBounds_toArray, List.set_cons_zero, List.set_cons_succ]
    refine takeH (i := 36) (d := 87) (v := ?_) rfl rfl (by kernel_rfl) (by kernel_rfl) (by kernel_rfl) (fun _ _ _ h => h) (Or.inl ⟨by rfl, ?y36⟩) hH2 ?_
    case y36 => intro w hSw; go_simp; try with_reducible rfl
    try simp only [Act.put, List.setIfInBounds_toArray, List.set_cons_zero, List.set_cons_succ]
    refine takeH (i := 37) (d := 88) (v := ?_) rfl rfl (by kernel_rfl) (by kernel_rfl) (by kernel_rfl) (fun _ _ _ h => h) (Or.inl ⟨by rfl, ?y37⟩) hH2 ?_
    case y37 => intro w hSw; go_simp; try with_reducible rfl
    try simp only [Act.put, List.setIfInBounds_toArray, List.set_cons_zero, List.set_cons_succ]
    refine wpAnyH_ready (rs := [38]) (by kernel_rfl) (by simp) ?_
    refine AllReadyH.cons rfl (fun K hK => ?_) AllReadyH.nil
    go_simp
    refine (HLv.out _ _ (HEw.out.below hH2.2)).mono ?_
    rintro e w' ⟨v9, rfl, ho, hb⟩
    obtain ⟨al9, cap9, hs9, -, -, -⟩ := ho.ensAt
    subst hs9
    clear ho
    go_wp2_with fail
    refine hK.out _ _ (FX.out _ (hH2.2.trans (hb.mono hH2.2.size))) (fun hH3 => ?_)
    clear hK K hb hH2
    try simp only [Act.put, List.setIfInBounds_toArray, List.set_cons_zero, List.set_cons_succ]
    refine takeH (i := 39) (d := 90) (v := ?_) rfl rfl (by kernel_rfl) (by kernel_rfl) (by kernel_rfl) (fun _ _ _ h => h) (Or.inl ⟨by rfl, ?y39⟩) hH3 ?_
    case y39 => intro w hSw; go_simp; try with_reducible rfl
    try simp only [Act.put, List.setIfInBounds_toArray, List.set_cons_zero, List.set_cons_succ]
    refine takeH (i := 40) (d := 91) (v := ?_) rfl rfl (by kernel_rfl) (by kernel_rfl) (by kernel_rfl) (fun _ _ _ h => h) (Or.inl ⟨by rfl, ?y40⟩) hH3 ?_
    case y40 => intro w hSw; go_simp; try with_reducible rfl
    try simp only [Act.put, List.setIfInBounds_toArray, List.set_cons_zero, List.set_cons_succ]
    refine takeH (i := 41) (d := 92) (v := ?_) rfl rfl (by kernel_rfl) (by kernel_rfl) (by kernel_rfl) (fun _ _ _ h => h) (Or.inl ⟨by rfl, ?y41⟩) hH3 ?_
    case y41 => intro w hSw; go_simp; try with_reducible rfl
    try simp only [Act.put, List.setIfInBounds_toArray, List.set_cons_zero, List.set_cons_succ]
    refine takeH (i := 42) (d := 0) (v := ?_) rfl rfl (by kernel_rfl) (by kernel_rfl) (by kernel_rfl) (fun _ _ _ h => h) (Or.inl ⟨by rfl, ?y42⟩) hH3 ?_
    case y42 => intro w hSw; go_simp; try with_reducible rfl
    try simp only [Act.put, List.setIfInBounds_toArray, List.set_cons_zero, List.set_cons_succ]
    refine wpAnyH_done (by kernel_rfl) ?_ _
    dsimp only [normOnly]
    gi_wp2
    have hK9 := (hH3.2.block D (Array.getElem?_eq_some_iff.1 HKw.out).1).trans HKw.out
    have hB9 := HBw.out.trans (hH3.2.mono HBw.out.size)
    refine ⟨by simp, .inl ⟨_, _, rfl, run_takeDeferred hK9, ?_⟩⟩
    refine ⟨_, results_tmp rfl _ _ _, ?_, hB9.trans (belowK_b (w := w) (Nat.le_refl _) _ D _ _ (by omega) hK9 rfl rfl)⟩
    rfl
  case stop =>
    rintro D c pre W _ _ h _
    exact h.elim
end Go.Proofs.Ythaembnfdkcheaa
