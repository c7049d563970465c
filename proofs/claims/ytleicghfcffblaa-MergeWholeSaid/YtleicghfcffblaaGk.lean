/- Find, Len; Add. -/
import Derived.Test.YtleicghfcffblaaGj
import Derived.Test.YtleicghfcffblaaMS
import Derived.Test.YtleicghfcffblaaKf
namespace Go.Proofs.Ytleicghfcffblaa
open Go.RowKit
set_option maxRecDepth 20000
set_option linter.unusedVariables false
set_option linter.unusedSimpArgs false
theorem PoolS.belowG {w w' : World} {v : Value} {l : List ByteArray} {S : Nat → Prop} (h : PoolS w v l S) (hb : Below w.heap.size w w') : PoolS w' v l S := h.keep hb.size (fun b hS => hb.block b (h.lt b hS))
theorem empty_yes {s : ByteArray} (h : s.size = 0) : s.toList.isEmpty = true := by
  have hse : s = { data := #[] } := ByteArray.ext (Array.eq_empty_of_size_eq_zero h)
  rw [ByteArray.toList_eq, hse]; rfl
theorem empty_no {s : ByteArray} (h : ¬ s.size = 0) : s.toList.isEmpty = false := by
  rw [ByteArray.toList_eq, List.isEmpty_eq_false_iff]
  intro e
  apply h
  show s.data.size = 0
  rw [← Array.length_toList, e]; rfl
theorem add_bad {l : List ByteArray} {s : ByteArray} {e : Nat} (h : eV l s = e) (h0 : e ≠ 0) : isNew l s = false ∧ newL l s = l ∧ offA l s = 0 ∧ lenA l s = 0 := by
  have h1 : isNew l s = false := by unfold isNew; rw [h, decide_eq_false h0]; rfl
  refine ⟨h1, by unfold newL; rw [h1]; rfl, ?_, ?_⟩
  · unfold offA; rw [h1, h, if_neg h0]; rfl
  · unfold lenA; rw [h, if_neg h0]
theorem add_old {l : List ByteArray} {s : ByteArray} {k : Nat} (h : eV l s = 0) (hf : findF s l 0 = some k) : isNew l s = false ∧ newL l s = l ∧ offA l s = k ∧ lenA l s = s.size := by
  have h1 : isNew l s = false := by unfold isNew; rw [hf]; simp
  refine ⟨h1, by unfold newL; rw [h1]; rfl, ?_, ?_⟩
  · unfold offA; rw [h1, h, hf]; rfl
  · unfold lenA; rw [h, if_pos rfl]
theorem add_new {l : List ByteArray} {s : ByteArray} (h : eV l s = 0) (hf : findF s l 0 = none) : isNew l s = true ∧ newL l s = l ++ [s] ∧ offA l s = totF l ∧ lenA l s = s.size := by
  have h1 : isNew l s = true := by unfold isNew; rw [h, hf]; rfl
  refine ⟨h1, by unfold newL; rw [h1]; rfl, ?_, ?_⟩
  · unfold offA; rw [h1]; rfl
  · unfold lenA; rw [h, if_pos rfl]
def AddR (l : List ByteArray) (s : ByteArray) : Value := .tuple #[.agg #[.int .u64 (offA l s : Nat), .int .u32 (lenA l s : Nat)], .bool (isNew l s), .int .i64 (eV l s : Nat)]
theorem addR_bad {l : List ByteArray} {s : ByteArray} {e : Nat} (h : eV l s = e) (h0 : e ≠ 0) : AddR l s = .tuple #[.agg #[.int .u64 0, .int .u32 0], .bool false, .int .i64 e] := by
  obtain ⟨h1, _, h3, h4⟩ := add_bad h h0
  unfold AddR; rw [h1, h3, h4, h]; rfl
set_option maxRecDepth 20000 in
set_option maxHeartbeats 2000000 in
theorem addR_any (v : Value) (l : List ByteArray) (S : Nat → Prop) (s : ByteArray) (w : World) (h : PoolS w v l S) (hs : s.size ≤ maxLen) :
    Calls Try.prog 36 #[v, .string s] w fun e w' => e = .returned (AddR l s) ∧ ∃ S', PoolS w' v (newL l s) S' ∧ Kept S S' w w' := by
  have hgood := h.good
  have hb0 := below_one w (.cells #[.int .u64 0, .int .u32 0] 77)
  have ht2 := two_new w (.int .u64 0) (.int .u32 0) 77
  have HS := Lib.hid h
  have HT := Lib.hid (And.intro ht2 hb0)
  have hsm := hs
  unfold maxLen at hsm
  by_cases h0 : s.size = 0
  · have he : eV l s = 2 := by unfold eV; rw [if_pos h0]
    have hd := empty_yes h0
    have HR := Lib.hid (addR_bad he (by omega))
    have HN := Lib.hid (add_bad he (by omega)).2.1
    obtain ⟨pb, va, vm, G, rfl, hP, hSS⟩ := h
    clear hP hSS he ht2 hb0 hgood
    go_enter Try.func36, Try.ntmps36
    go_wp2_with fail
    generalize w.alloc (.cells #[.int .u64 0, .int .u32 0] 77) = W at *
    refine bodyPost_ret (results_ct3 rfl _ _ w.heap.size _ _ _ _ _ rfl rfl rfl HT.out.1.1 HT.out.1.2.1 Try.underlying77 rfl pct_size) rfl ⟨by rw [HR.out]; rfl, S, ?_, ?_⟩
    · rw [HN.out]
      exact HS.out.belowG HT.out.2
    · exact Kept.below _ HT.out.2
  · have hd := empty_no h0
    by_cases h6 : 65536 < s.size
    · have he : eV l s = 5 := by unfold eV; rw [if_neg h0, if_pos h6]
      have h6' : (65536 : Int) < (s.size : Int) := by omega
      have HR := Lib.hid (addR_bad he (by omega))
      have HN := Lib.hid (add_bad he (by omega)).2.1
      obtain ⟨pb, va, vm, G, rfl, hP, hSS⟩ := h
      clear hP hSS he ht2 hb0 hgood
      go_enter Try.func36, Try.ntmps36
      go_wp2_with fail
      generalize w.alloc (.cells #[.int .u64 0, .int .u32 0] 77) = W at *
      refine bodyPost_ret (results_ct3 rfl _ _ w.heap.size _ _ _ _ _ rfl rfl rfl HT.out.1.1 HT.out.1.2.1 Try.underlying77 rfl pct_size) rfl ⟨by rw [HR.out]; rfl, S, ?_, ?_⟩
      · rw [HN.out]
        exact HS.out.belowG HT.out.2
      · exact Kept.below _ HT.out.2
    · have h6' : ¬ (65536 : Int) < (s.size : Int) := by omega
      have heq : eV l s = if (findF s l 0).isSome then 0 else if 2048 ≤ l.length then 7 else 0 := by unfold eV; rw [if_neg h0, if_neg h6]
      obtain ⟨pb, va, vm, G, rfl, hP, hSS⟩ := h
      obtain ⟨al, cap, hva⟩ : ∃ al cap, va = .slice al l.length cap := by
        obtain ⟨al, cap, hva, _⟩ := hP.all.ktsAt
        rw [plc_len] at hva
        exact ⟨al, cap, hva⟩
      subst hva
      have HB := Lib.hid (fun W => bucketOf_any s hs W)
      have HL := Lib.hid (fun X (hX : Below (w.alloc (.cells #[.int .u64 0, .int .u32 0] 77)).heap.size (w.alloc (.cells #[.int .u64 0, .int .u32 0] 77)) X) => look_any X pb _ vm G l ((hP.below hb0).below hX) s)
      have HP := Lib.hid (And.intro hP hSS)
      have hlen := hgood.few
      clear hP hSS ht2 hb0
      cases hfd : findF s l 0 with
      | some k =>
        rw [hfd] at heq
        have he : eV l s = 0 := heq
        have HA := Lib.hid (add_old he hfd)
        have HE := Lib.hid he
        have HLR : Hid (LookR l s = .tuple #[.agg #[.int .u64 (k : Nat), .int .u32 s.size], .bool true]) := Lib.hid (by unfold LookR; rw [hfd]; rfl)
        rw [HLR.out] at HL
        clear heq he hfd
        go_enter Try.func36, Try.ntmps36
        go_wp2_with fail
        generalize w.alloc (.cells #[.int .u64 0, .int .u32 0] 77) = W at *
        refine (HB.out _).mono ?_
        rintro e w1 ⟨rfl, hb1⟩
        have HB1 := Lib.hid hb1
        clear hb1
        go_wp2_with fail
        refine (HL.out _ HB1.out).mono ?_
        rintro e w2 ⟨rfl, hb2⟩
        have hbb := HB1.out.trans (hb2.mono HB1.out.size)
        have h2 := HT.out.1.below hbb
        have H2 := Lib.hid h2
        have HBB := Lib.hid (HT.out.2.trans (hbb.mono HT.out.2.size))
        obtain ⟨k0, k1, k2, k3⟩ := h2
        have hwl : w.heap.size < w2.heap.size := vcell_lt k0
        have hwn : w.heap.size ≠ w2.heap.size := by omega
        clear hb2 hbb
        go_wp2_with fail
        refine bodyPost_ret (results_ct3 rfl _ _ w.heap.size _ _ _ _ _ rfl rfl rfl ((H2.out.set _ _).alloc _).1 ((H2.out.set _ _).alloc _).2.1 Try.underlying77 rfl pct_size) rfl ⟨?_, S, ?_, ?_⟩
        · unfold AddR
          rw [HA.out.1, HA.out.2.2.1, HA.out.2.2.2, HE.out]; rfl
        · rw [HA.out.2.1]
          exact HS.out.belowG (((HBB.out.setCell (p := ⟨w.heap.size, 0, none⟩) (Nat.le_refl _) _).setCell (p := ⟨w.heap.size, 1, none⟩) (Nat.le_refl _) _).alloc (by simpa using HBB.out.size) _)
        · exact Kept.below _ (((HBB.out.setCell (p := ⟨w.heap.size, 0, none⟩) (Nat.le_refl _) _).setCell (p := ⟨w.heap.size, 1, none⟩) (Nat.le_refl _) _).alloc (by simpa using HBB.out.size) _)
      | none =>
        rw [hfd] at heq
        have HLR : Hid (LookR l s = .tuple #[.agg #[.int .u64 0, .int .u32 0], .bool false]) := Lib.hid (by unfold LookR; rw [hfd]; rfl)
        rw [HLR.out] at HL
        by_cases hfull : 2048 ≤ l.length
        · have he : eV l s = 7 := by rw [heq, if_pos hfull]; rfl
          have HR := Lib.hid (addR_bad he (by omega))
          have HN := Lib.hid (add_bad he (by omega)).2.1
          have hf' : (2048 : Int) ≤ (l.length : Int) := by omega
          clear heq he hfd
          go_enter Try.func36, Try.ntmps36
          go_wp2_with fail
          generalize w.alloc (.cells #[.int .u64 0, .int .u32 0] 77) = W at *
          refine (HB.out _).mono ?_
          rintro e w1 ⟨rfl, hb1⟩
          have HB1 := Lib.hid hb1
          clear hb1
          go_wp2_with fail
          refine (HL.out _ HB1.out).mono ?_
          rintro e w2 ⟨rfl, hb2⟩
          have hbb := HB1.out.trans (hb2.mono HB1.out.size)
          have H2 := Lib.hid (HT.out.1.below hbb)
          have hbw := HT.out.2.trans (hbb.mono HT.out.2.size)
          have HBB := Lib.hid hbw
          obtain ⟨c0, c1, c2, c3⟩ := (HP.out.1.below hbw).two
          obtain ⟨k0, k1, k2, k3⟩ := H2.out
          have hwl : w.heap.size < w2.heap.size := vcell_lt k0
          have hwn : w.heap.size ≠ w2.heap.size := by omega
          have hpn : pb < w.heap.size := HP.out.1.two.lt
          have hpn2 : pb ≠ w2.heap.size := by omega
          have dA : ∀ O, (w2.alloc O).cell? ⟨pb, 0, none⟩ = some (.slice al l.length cap) := fun O => vcell_later (below_one w2 O) c0
          clear hb2 hbb hbw
          go_wp2_with fail
          refine bodyPost_ret (results_ct3 rfl _ _ w.heap.size _ _ _ _ _ rfl rfl rfl ((H2.out.set _ _).alloc _).1 ((H2.out.set _ _).alloc _).2.1 Try.underlying77 rfl pct_size) rfl ⟨?_, S, ?_, ?_⟩
          · rw [HR.out]; rfl
          · rw [HN.out]
            exact HS.out.belowG (((HBB.out.setCell (p := ⟨w.heap.size, 0, none⟩) (Nat.le_refl _) _).setCell (p := ⟨w.heap.size, 1, none⟩) (Nat.le_refl _) _).alloc (by simpa using HBB.out.size) _)
          · exact Kept.below _ (((HBB.out.setCell (p := ⟨w.heap.size, 0, none⟩) (Nat.le_refl _) _).setCell (p := ⟨w.heap.size, 1, none⟩) (Nat.le_refl _) _).alloc (by simpa using HBB.out.size) _)
        · have he : eV l s = 0 := by rw [heq, if_neg hfull]; rfl
          have HA := Lib.hid (add_new he hfd)
          have HE := Lib.hid he
          have hf' : ¬ (2048 : Int) ≤ (l.length : Int) := by omega
          have hnl := (findF_none s l 0).1 hfd
          have hg2 : GoodP (l ++ [s]) := by
            refine ⟨fun t ht => ?_, fun t ht => ?_, ?_, by simp; omega⟩
            · rcases List.mem_append.1 ht with h | h
              · exact hgood.pos t h
              · rw [List.mem_singleton] at h; rw [h]; omega
            · rcases List.mem_append.1 ht with h | h
              · exact hgood.short t h
              · rw [List.mem_singleton] at h; rw [h]; omega
            · rw [List.nodup_append]
              exact ⟨hgood.once, by simp, fun a ha b hb => by rw [List.mem_singleton] at hb; rw [hb]; intro e; exact hnl (e ▸ ha)⟩
          have HG := Lib.hid hg2
          clear heq he hfd hnl hg2
          go_enter Try.func36, Try.ntmps36
          go_wp2_with fail
          generalize w.alloc (.cells #[.int .u64 0, .int .u32 0] 77) = W at *
          refine (HB.out _).mono ?_
          rintro e w1 ⟨rfl, hb1⟩
          have HB1 := Lib.hid hb1
          clear hb1
          go_wp2_with fail
          refine (HL.out _ HB1.out).mono ?_
          rintro e w2 ⟨rfl, hb2⟩
          have hbb := HB1.out.trans (hb2.mono HB1.out.size)
          have h2 := HT.out.1.below hbb
          have hbw := HT.out.2.trans (hbb.mono HT.out.2.size)
          have hp2 := HP.out.1.below hbw
          obtain ⟨c0, c1, c2, c3⟩ := hp2.two
          have hwl : w.heap.size < w2.heap.size := h2.lt
          have hpn : pb < w.heap.size := HP.out.1.two.lt
          have hpn2 : pb ≠ w2.heap.size := by omega
          have dA : ∀ O, (w2.alloc O).cell? ⟨pb, 0, none⟩ = some (.slice al l.length cap) := fun O => vcell_later (below_one w2 O) c0
          have HX := Lib.hid (fun O => And.intro (hp2.below (below_one w2 O)) (And.intro (h2.alloc O) (hbw.alloc hbw.size O)))
          have HLA := Lib.hid (fun O => lay_any (w2.alloc O) pb _ vm G l (hp2.below (below_one w2 O)) s HG.out)
          clear hb2 hbb hbw h2 hp2
          go_wp2_with fail
          refine (HLA.out _).mono ?_
          rintro e w3 ⟨rfl, va', vm', G', hp3, hk3⟩
          obtain ⟨hx1, hx2, hx3⟩ := HX.out (.cells #[.int .u64 0, .int .u32 0] 77)
          have hnS : ¬ blkS pb (.slice al l.length cap) vm G w.heap.size := fun hb => by have := HP.out.1.lt _ hb; omega
          have h3 := hx2.keep (hk3.same _ hx2.lt hnS)
          have hnS3 : ¬ blkS pb va' vm' G' w.heap.size := fun hb => by
            rcases hk3.own _ hb with h | h
            · exact hnS h
            · have : (w2.alloc (.cells #[.int .u64 0, .int .u32 0] 77)).heap.size = w2.heap.size + 1 := by simp
              omega
          have H3 := Lib.hid h3
          have HP3 := Lib.hid (hp3.set2 w.heap.size hnS3)
          have HK3 := Lib.hid (((Kept.below (blkS pb (.slice al l.length cap) vm G) hx3).trans hk3).set2 w.heap.size (Nat.le_refl _))
          obtain ⟨k0, k1, k2, k3⟩ := h3
          clear hp3 hk3 hx1 hx2 hx3 HX HLA
          go_wp2_with fail
          refine bodyPost_ret (results_ct3 rfl _ _ w.heap.size _ _ _ _ _ rfl rfl rfl (H3.out.set _ _).1 (H3.out.set _ _).2.1 Try.underlying77 rfl pct_size) rfl ⟨?_, blkS pb va' vm' G', ?_, ?_⟩
          · unfold AddR
            rw [HA.out.1, HA.out.2.2.1, HA.out.2.2.2, HE.out]; rfl
          · rw [HA.out.2.1]
            exact ⟨pb, va', vm', G', rfl, HP3.out _ _, fun b => Iff.rfl⟩
          · have hk := HK3.out (.int .u64 (totF l : Nat)) (.int .u32 s.size)
            exact ⟨hk.os, hk.tape, hk.output, hk.size, fun b hb hn => hk.same b hb (fun h => hn ((HP.out.2 b).2 h)), fun b hb => by
              rcases hk.own b hb with h | h
              · exact .inl ((HP.out.2 b).2 h)
              · exact .inr h⟩
end Go.Proofs.Ytleicghfcffblaa
