/- The walk of SeekTells. -/
import Derived.Test.YthaembnfdkcheaaAk9d
namespace Go.Proofs.Ythaembnfdkcheaa
open Go.RowKit
set_option linter.unusedVariables false
set_option linter.unusedSimpArgs false
set_option maxRecDepth 100000 in
set_option maxHeartbeats 2000000 in
theorem seektells_law (v : Value) (l : List En) (q : Int) (w : World) (h : EnsAt w v l) (m : MaysN l) (q0 : 0 ≤ q) (q1 : q ≤ 18446744073709551615) : Calls Try.prog 3 #[v, .int .u64 q] w fun x w' => x = .returned (.bool true) ∧ Below w.heap.size w w' := by
  have HA := Lib.hid awakeS_any
  have H0 := Lib.hid h
  have HM := Lib.hid m
  obtain ⟨al, cap, rfl, -, -, -⟩ := h
  clear m
  by_cases g1 : 300 < l.length
  · have d1 : decide (300 < (l.length : Int)) = true := by simp; omega
    clear g1
    go_enter Try.func3, Try.ntmps3
    go_wp2_with fail
    refine (HA.out _).mono ?_
    rintro y w1 ⟨rfl, hb⟩
    have HB1 := Lib.hid hb
    have HN1 := Lib.hid hb
    clear hb
    go_wp2_with fail
    go_ret
    exact ⟨rfl, HB1.out⟩
  · have d1 : decide (300 < (l.length : Int)) = false := by simp; omega
    have HL : Hid (l.length ≤ 300) := Lib.hid (by omega)
    have HF := Lib.hid (fun (v : Value) (W : World) (h : EnsAt W v l) => pfind_any v l q W h HM.out (by have := HL.out; omega) q0 q1)
    have HFr := Lib.hid (fun (v : Value) (W : World) (h : EnsAt W v l) => rfind_any v l q W h HM.out)
    obtain ⟨F, hF⟩ : ∃ F, findN l q = F := ⟨_, rfl⟩
    rw [hF] at HF HFr
    obtain ⟨f, b⟩ := F
    have hq := fun W => eq_ent f f _ W rfl
    rw [decide_eq_true rfl] at hq
    unfold eC at HF HFr
    clear g1 hF
    go_enter Try.func3, Try.ntmps3
    go_wp2_with fail
    refine (ownN_any _ l _ H0.out (by have := HL.out; omega)).mono ?_
    rintro y w1 ⟨v1, rfl, ho, hb⟩
    have HV1 := Lib.hid ho
    clear ho
    have HB1 := Lib.hid hb
    have HN1 := Lib.hid hb
    clear hb
    obtain ⟨al1, cap1, hs1, -, -, -⟩ := HV1.out.ensAt
    subst hs1
    go_wp2_with fail
    refine (HF.out _ _ HV1.out.ensAt).mono ?_
    rintro y w2 ⟨rfl, hb⟩
    have HB2 := Lib.hid (HB1.out.trans (hb.mono HB1.out.size))
    have HN2 := Lib.hid hb
    clear hb
    have hA := (Below.refl w2.heap.size w2).alloc (Nat.le_refl _) (.cells #[.int .u64 f.id, .int .u64 f.off, .int .u32 f.ln, .int .u32 f.rn] 29)
    have HXa := Lib.hid (EAt.made w2 f 29)
    have HBa := Lib.hid (HB2.out.trans (hA.mono HB2.out.size))
    have HN12 := Lib.hid (HN2.out.trans (hA.mono HN2.out.size))
    clear hA
    unfold eC at HXa
    go_wp2_with fail
    refine (HFr.out _ _ (H0.out.below HBa.out)).mono ?_
    rintro y w3 ⟨rfl, hb⟩
    have hA := (Below.refl w3.heap.size w3).alloc (Nat.le_refl _) (.cells #[.int .u64 f.id, .int .u64 f.off, .int .u32 f.ln, .int .u32 f.rn] 32)
    have HXb := Lib.hid (EAt.made w3 f 32)
    have HXa3 := Lib.hid ((HXa.out.later hb).later hA)
    have HB3 := Lib.hid ((HBa.out.trans (hb.mono HBa.out.size)).trans (hA.mono (Nat.le_trans HBa.out.size hb.size)))
    have HV13 := Lib.hid (((HV1.out.ensAt.below HN12.out).below hb).below hA)
    clear hb hA
    unfold eC at HXb
    go_wp2_with fail
    refine (pplace_any _ l q _ HV13.out HM.out (by have := HL.out; omega) q0 q1).mono ?_
    rintro y w4 ⟨rfl, hb⟩
    have HB4 := Lib.hid (HB3.out.trans (hb.mono HB3.out.size))
    have HN4 := Lib.hid hb
    clear hb
    go_wp2_with fail
    refine (rplace_any _ l q _ (H0.out.below HB4.out) HM.out).mono ?_
    rintro y w5 ⟨rfl, hb⟩
    have HB5 := Lib.hid (HB4.out.trans (hb.mono HB4.out.size))
    have HN5 := Lib.hid hb
    clear hb
    obtain ⟨a0, a1, a2, a3⟩ := (HXa3.out.later HN4.out).later HN5.out
    obtain ⟨b0, b1, b2, b3⟩ := (HXb.out.later HN4.out).later HN5.out
    go_wp2_with fail
    refine (pleaves_any _ l _ ((HV13.out.below HN4.out).below HN5.out) HM.out (by have := HL.out; omega)).mono ?_
    rintro y w6 ⟨v6, rfl, ho, hb⟩
    have HV6 := Lib.hid ho
    clear ho
    have HB6 := Lib.hid (HB5.out.trans (hb.mono HB5.out.size))
    have HN6 := Lib.hid hb
    clear hb
    clear a0 a1 a2 a3 b0 b1 b2 b3
    go_wp2_with fail
    refine (backN_any _ (leavesN l) _ HV6.out.ensAt (by have := HL.out; have := List.length_filter_le (fun e => decide (e.rn = 0)) l; unfold leavesN; omega)).mono ?_
    rintro y w7 ⟨v7, rfl, ho, hb⟩
    have HV7 := Lib.hid ho
    clear ho
    have HB7 := Lib.hid (HB6.out.trans (hb.mono HB6.out.size))
    have HN7 := Lib.hid hb
    clear hb
    go_wp2_with fail
    refine (rleaves_any _ l _ (H0.out.below HB7.out) (by have := HL.out; omega)).mono ?_
    rintro y w8 ⟨v8, rfl, ho, hb⟩
    have HV8 := Lib.hid ho
    clear ho
    have HB8 := Lib.hid (HB7.out.trans (hb.mono HB7.out.size))
    have HN8 := Lib.hid hb
    clear hb
    go_wp2_with fail
    refine (rsameN_any _ _ (leavesN l) (leavesN l) _ (HV7.out.ensAt.below HN8.out) HV8.out.ensAt).mono ?_
    rintro y w9 ⟨rfl, hb⟩
    have HB9 := Lib.hid (HB8.out.trans (hb.mono HB8.out.size))
    have HN9 := Lib.hid hb
    clear hb
    go_wp2_with fail
    refine (HA.out _).mono ?_
    rintro y w10 ⟨rfl, hb⟩
    have HB10 := Lib.hid (HB9.out.trans (hb.mono HB9.out.size))
    have HN10 := Lib.hid hb
    clear hb
    go_wp2_with fail
    go_ret
    exact ⟨rfl, HB10.out⟩
end Go.Proofs.Ythaembnfdkcheaa
