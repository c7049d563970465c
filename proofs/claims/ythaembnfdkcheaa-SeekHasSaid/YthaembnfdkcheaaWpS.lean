/- The walk of SeekParts. -/
import Derived.Test.YthaembnfdkcheaaAk9d
import Derived.Test.YthaembnfdkcheaaPc
namespace Go.Proofs.Ythaembnfdkcheaa
open Go.RowKit
set_option linter.unusedVariables false
set_option linter.unusedSimpArgs false
theorem ens_take {w : World} {a : Option Addr} {n cap : Nat} {l : List En} (h : EnsAt w (.slice a n cap) l) (k : Nat) (hk : k ≤ l.length) : EnsAt w (.slice a k cap) (l.take k) := by
  obtain ⟨a', cap', e, h1, h2, hc⟩ := h
  simp only [Value.slice.injEq] at e
  obtain ⟨rfl, rfl, rfl⟩ := e
  refine ⟨a, cap, by rw [List.length_take, Nat.min_eq_left hk], by rw [List.length_take]; omega, h2, fun j t ht => hc j t ?_⟩
  rw [List.getElem?_take] at ht
  split at ht
  · exact ht
  · simp at ht
theorem ens_drop {w : World} {g off n cap : Nat} {l : List En} (h : EnsAt w (.slice (some ⟨g, off, none⟩) n cap) l) (k : Nat) (hk : k ≤ l.length) : EnsAt w (.slice (some ⟨g, off + k * 4, none⟩) (l.length - k) (cap - k)) (l.drop k) := by
  obtain ⟨a', cap', e, h1, h2, hc⟩ := h
  simp only [Value.slice.injEq] at e
  obtain ⟨rfl, rfl, rfl⟩ := e
  refine ⟨_, _, by rw [List.length_drop], by rw [List.length_drop]; omega, by omega, fun j t ht => ?_⟩
  rw [List.getElem?_drop] at ht
  obtain ⟨g', off', ea, hg, c0, c1, c2, c3⟩ := hc (k + j) t ht
  simp only [Option.some.injEq, Addr.mk.injEq, and_true] at ea
  obtain ⟨rfl, rfl⟩ := ea
  have e1 : off + k * 4 + j * 4 = off + (k + j) * 4 := by omega
  exact ⟨g, off + k * 4, rfl, hg, by rw [e1]; exact c0, by rw [e1]; exact c1, by rw [e1]; exact c2, by rw [e1]; exact c3⟩
set_option maxRecDepth 100000 in
set_option maxHeartbeats 2000000 in
theorem seekparts_law (v : Value) (l : List En) (q : Int) (w : World) (h : EnsAt w v l) (m : MaysN l) (z : l.length * 24 ≤ 140737488351232) (q0 : 0 ≤ q) (q1 : q ≤ 18446744073709551615) : Calls Try.prog 6 #[v, .int .u64 q] w fun x w' => x = .returned (.bool true) ∧ Below w.heap.size w w' := by
  have HA := Lib.hid awakeS_any
  have H0 := Lib.hid h
  have HM := Lib.hid m
  have HZ := Lib.hid z
  obtain ⟨al, cap, rfl, -, -, -⟩ := h
  clear m z
  by_cases g2 : rowN l = 0 ∧ l.length ≤ 200
  · obtain ⟨hr, hl⟩ := g2
    obtain ⟨s1, s2, s3⟩ := place_spec HM.out hr q
    have ht1 := place_take HM.out hr q
    have ht2 := find_take HM.out hr q
    have ht3 := place_drop HM.out hr q
    have hpl := fun (v : Value) (W : World) (h : EnsAt W v l) => pplace_any v l q W h HM.out (by omega) q0 q1
    have hpt := fun (n : Nat) (v : Value) (W : World) (h : EnsAt W v (l.take n)) => pplace_any v (l.take n) q W h (fun e he => HM.out e (List.mem_of_mem_take he)) (by rw [List.length_take]; omega) q0 q1
    have hft := fun (n : Nat) (v : Value) (W : World) (h : EnsAt W v (l.take n)) => pfind_any v (l.take n) q W h (fun e he => HM.out e (List.mem_of_mem_take he)) (by rw [List.length_take]; omega) q0 q1
    have hpd := fun (n : Nat) (v : Value) (W : World) (h : EnsAt W v (l.drop n)) => pplace_any v (l.drop n) q W h (fun e he => HM.out e (List.mem_of_mem_drop he)) (by rw [List.length_drop]; omega) q0 q1
    have hfi := fun (v : Value) (W : World) (h : EnsAt W v l) => pfind_any v l q W h HM.out (by omega) q0 q1
    have HRow := Lib.hid (fun (v : Value) (W : World) (h : EnsAt W v l) => prow_any v l W h HM.out)
    simp only [hr] at HRow
    obtain ⟨F, hF⟩ : ∃ F, findN l q = F := ⟨_, rfl⟩
    rw [hF] at ht2
    simp only [hF] at hfi
    obtain ⟨p, hpE⟩ : ∃ p, placeN l q = p := ⟨_, rfl⟩
    simp only [hpE] at s1 s2 ht1 ht2 ht3 hpl
    obtain ⟨n1, hn1E⟩ : ∃ n1, (p + 1).toNat = n1 := ⟨_, rfl⟩
    rw [hn1E] at ht1 ht2
    have hn1 : n1 ≤ l.length := by omega
    have hpn : p + 1 = (n1 : Int) := by omega
    have hwp : IntKind.i64.wrap (n1 : Int) = (n1 : Int) := by rw [IntKind.wrap_i64] <;> omega
    have HPl := Lib.hid hpl
    have hpt1 := hpt n1
    simp only [ht1] at hpt1
    have HPt := Lib.hid hpt1
    have hft1 := hft n1
    simp only [ht2] at hft1
    have HFt := Lib.hid hft1
    have HPd0 := Lib.hid hpd
    have HFi := Lib.hid hfi
    obtain ⟨f, b⟩ := F
    have hq := fun W => eq_entS f f _ W rfl
    rw [decide_eq_true rfl] at hq
    unfold eC at HFi HFt
    have e1 : decide (p < -1) = false := by simp; omega
    have e2 : decide ((l.length : Int) ≤ p) = false := by simp; omega
    have h0n : (0 : Int) ≤ (n1 : Int) := by omega
    have d1 : decide (200 < (l.length : Int)) = false := by simp; omega
    clear hpl hpt hft hpd hfi s3 hF hpE hr hn1E ht1 ht2 hpt1 hft1
    by_cases hk : 0 ≤ p
    · obtain ⟨k, rfl⟩ : ∃ k : Nat, p = (k : Int) := ⟨p.toNat, by omega⟩
      have hkl : k < l.length := by omega
      have hpdk := HPd0.out k
      have h3 := ht3 hk
      rw [Int.toNat_natCast] at h3
      simp only [h3] at hpdk
      have HPd := Lib.hid hpdk
      have e3 : decide ((k : Int) < 0) = false := by simp
      have hk2 : (k : Int) ≤ (l.length : Int) := by omega
      clear h3 ht3 HPd0 s1 s2 hpdk
      go_enter Try.func6, Try.ntmps6
      go_wp2_with fail
      refine (ownN_any _ l _ H0.out HZ.out).mono ?_
      rintro y w1 ⟨v1, rfl, ho, hb⟩
      have HV1 := Lib.hid ho
      clear ho
      have HB1 := Lib.hid hb
      have HN1 := Lib.hid hb
      clear hb
      obtain ⟨gg, cap1, hs1, hcp⟩ : ∃ gg cap1, v1 = .slice (some ⟨gg, 0, none⟩) l.length cap1 ∧ l.length ≤ cap1 := by
        rcases HV1.out.form with ⟨_, h0⟩ | ⟨gg, cap1, e, _, _, hc, _⟩
        · rw [h0] at hkl; simp at hkl
        · exact ⟨gg, cap1, e, hc⟩
      subst hs1
      have hc1 : ¬ (cap1 : Int) < (n1 : Int) := by omega
      have hc2 : (n1 : Int) ≤ (cap1 : Int) := by omega
      go_wp2_with fail
      refine (HRow.out _ _ HV1.out.ensAt).mono ?_
      rintro y w2 ⟨rfl, hb⟩
      have HB2 := Lib.hid (HB1.out.trans (hb.mono HB1.out.size))
      have HN2 := Lib.hid hb
      clear hb
      go_wp2_with fail
      refine (HPl.out _ _ (HV1.out.ensAt.below HN2.out)).mono ?_
      rintro y w3 ⟨rfl, hb⟩
      have HB3 := Lib.hid (HB2.out.trans (hb.mono HB2.out.size))
      have HN3 := Lib.hid hb
      clear hb
      go_wp2_with fail
      refine (HFi.out _ _ ((HV1.out.ensAt.below HN2.out).below HN3.out)).mono ?_
      rintro y w4 ⟨rfl, hb⟩
      have HB4 := Lib.hid (HB3.out.trans (hb.mono HB3.out.size))
      have HN4 := Lib.hid hb
      clear hb
      have hA := (Below.refl w4.heap.size w4).alloc (Nat.le_refl _) (.cells #[.int .u64 f.id, .int .u64 f.off, .int .u32 f.ln, .int .u32 f.rn] 29)
      have HXa := Lib.hid (EAt.made w4 f 29)
      have HB4a := Lib.hid (HB4.out.trans (hA.mono HB4.out.size))
      have HE4 := Lib.hid ((((HV1.out.ensAt.below HN2.out).below HN3.out).below HN4.out).below hA)
      clear hA
      unfold eC at HXa HE4
      have HT4 := Lib.hid (ens_take HE4.out n1 hn1)
      go_wp2_with fail
      refine (HFt.out _ _ HT4.out).mono ?_
      rintro y w5 ⟨rfl, hb⟩
      have hA := (Below.refl w5.heap.size w5).alloc (Nat.le_refl _) (.cells #[.int .u64 f.id, .int .u64 f.off, .int .u32 f.ln, .int .u32 f.rn] 29)
      have HXb := Lib.hid (EAt.made w5 f 29)
      obtain ⟨a0, a1, a2, a3⟩ := (HXa.out.later hb).later hA
      have HB5 := Lib.hid ((HB4a.out.trans (hb.mono HB4a.out.size)).trans (hA.mono (Nat.le_trans HB4a.out.size hb.size)))
      have HE5 := Lib.hid ((HE4.out.below hb).below hA)
      clear hb hA
      unfold eC at HXb
      obtain ⟨b0, b1, b2, b3⟩ := HXb.out
      have HT5 := Lib.hid (ens_take HE5.out n1 hn1)
      go_wp2_with fail
      refine (HPt.out _ _ HT5.out).mono ?_
      rintro y w6 ⟨rfl, hb⟩
      have HB6 := Lib.hid (HB5.out.trans (hb.mono HB5.out.size))
      have HN6 := Lib.hid hb
      clear hb
      clear a0 a1 a2 a3 b0 b1 b2 b3
      have HT6 := Lib.hid (ens_drop (HE5.out.below HN6.out) k (by omega))
      rw [Nat.zero_add] at HT6
      go_wp2_with fail
      refine (HPd.out _ _ HT6.out).mono ?_
      rintro y w7 ⟨rfl, hb⟩
      have HB7 := Lib.hid (HB6.out.trans (hb.mono HB6.out.size))
      have HN7 := Lib.hid hb
      clear hb
      go_wp2_with fail
      refine (HA.out _).mono ?_
      rintro y w8 ⟨rfl, hb⟩
      have HB8 := Lib.hid (HB7.out.trans (hb.mono HB7.out.size))
      have HN8 := Lib.hid hb
      clear hb
      go_wp2_with fail
      go_ret
      exact ⟨rfl, HB8.out⟩
    · have hp : p = -1 := by omega
      subst hp
      clear ht3 HPd0 s1 s2
      go_enter Try.func6, Try.ntmps6
      go_wp2_with fail
      refine (ownN_any _ l _ H0.out HZ.out).mono ?_
      rintro y w1 ⟨v1, rfl, ho, hb⟩
      have HV1 := Lib.hid ho
      clear ho
      have HB1 := Lib.hid hb
      have HN1 := Lib.hid hb
      clear hb
      obtain ⟨al1, cap1, hs1, hcp, -, -⟩ := HV1.out.ensAt
      subst hs1
      have hc1 : ¬ (cap1 : Int) < (n1 : Int) := by omega
      have hc2 : (n1 : Int) ≤ (cap1 : Int) := by omega
      go_wp2_with fail
      refine (HRow.out _ _ HV1.out.ensAt).mono ?_
      rintro y w2 ⟨rfl, hb⟩
      have HB2 := Lib.hid (HB1.out.trans (hb.mono HB1.out.size))
      have HN2 := Lib.hid hb
      clear hb
      go_wp2_with fail
      refine (HPl.out _ _ (HV1.out.ensAt.below HN2.out)).mono ?_
      rintro y w3 ⟨rfl, hb⟩
      have HB3 := Lib.hid (HB2.out.trans (hb.mono HB2.out.size))
      have HN3 := Lib.hid hb
      clear hb
      go_wp2_with fail
      refine (HFi.out _ _ ((HV1.out.ensAt.below HN2.out).below HN3.out)).mono ?_
      rintro y w4 ⟨rfl, hb⟩
      have HB4 := Lib.hid (HB3.out.trans (hb.mono HB3.out.size))
      have HN4 := Lib.hid hb
      clear hb
      have hA := (Below.refl w4.heap.size w4).alloc (Nat.le_refl _) (.cells #[.int .u64 f.id, .int .u64 f.off, .int .u32 f.ln, .int .u32 f.rn] 29)
      have HXa := Lib.hid (EAt.made w4 f 29)
      have HB4a := Lib.hid (HB4.out.trans (hA.mono HB4.out.size))
      have HE4 := Lib.hid ((((HV1.out.ensAt.below HN2.out).below HN3.out).below HN4.out).below hA)
      clear hA
      unfold eC at HXa HE4
      have HT4 := Lib.hid (ens_take HE4.out n1 hn1)
      go_wp2_with fail
      refine (HFt.out _ _ HT4.out).mono ?_
      rintro y w5 ⟨rfl, hb⟩
      have hA := (Below.refl w5.heap.size w5).alloc (Nat.le_refl _) (.cells #[.int .u64 f.id, .int .u64 f.off, .int .u32 f.ln, .int .u32 f.rn] 29)
      have HXb := Lib.hid (EAt.made w5 f 29)
      obtain ⟨a0, a1, a2, a3⟩ := (HXa.out.later hb).later hA
      have HB5 := Lib.hid ((HB4a.out.trans (hb.mono HB4a.out.size)).trans (hA.mono (Nat.le_trans HB4a.out.size hb.size)))
      have HE5 := Lib.hid ((HE4.out.below hb).below hA)
      clear hb hA
      unfold eC at HXb
      obtain ⟨b0, b1, b2, b3⟩ := HXb.out
      have HT5 := Lib.hid (ens_take HE5.out n1 hn1)
      go_wp2_with fail
      refine (HPt.out _ _ HT5.out).mono ?_
      rintro y w6 ⟨rfl, hb⟩
      have HB6 := Lib.hid (HB5.out.trans (hb.mono HB5.out.size))
      have HN6 := Lib.hid hb
      clear hb
      clear a0 a1 a2 a3 b0 b1 b2 b3
      go_wp2_with fail
      refine (HA.out _).mono ?_
      rintro y w7 ⟨rfl, hb⟩
      have HB7 := Lib.hid (HB6.out.trans (hb.mono HB6.out.size))
      have HN7 := Lib.hid hb
      clear hb
      go_wp2_with fail
      go_ret
      exact ⟨rfl, HB7.out⟩
  · have hPl : ∀ (k : Nat) (v : Value) (W : World), k ≤ 1 → k ≤ l.length → EnsAt W v (l.take k) → Calls Try.prog 11 #[v, .int .u64 0] W fun x w' => x = .returned (.int .i64 (placeN (l.take k) 0)) ∧ Below W.heap.size W w' := fun k v W h1 h2 h => pplace_any v _ 0 W h (fun e he => HM.out e (List.mem_of_mem_take he)) (by rw [List.length_take]; omega) (by omega) (by omega)
    have hbd : ∀ k : Nat, k ≤ 1 → placeN (l.take k) 0 ≤ 0 := fun k hk => by
      have := (place_bd (l.take k) (fun e he => HM.out e (List.mem_of_mem_take he)) 0).2
      rw [List.length_take] at this
      split at this <;> omega
    by_cases g1 : 200 < l.length
    · have d1 : decide (200 < (l.length : Int)) = true := by simp; omega
      have hmin : min (1 : Int) (l.length : Int) = 1 := by omega
      obtain ⟨r, hr⟩ : ∃ r, placeN (l.take 1) 0 = r := ⟨_, rfl⟩
      have hp := hPl 1
      have hb1 := hbd 1 (by omega)
      rw [hr] at hb1
      simp only [hr] at hp
      have HP := Lib.hid hp
      have hd : decide (r ≤ 0) = true := by simp; omega
      have h1l : (1 : Int) ≤ (l.length : Int) := by omega
      have h1n : 1 ≤ l.length := by omega
      clear hp hPl hbd hr g2 hb1
      go_enter Try.func6, Try.ntmps6
      go_wp2_with fail
      refine (ownN_any _ l _ H0.out HZ.out).mono ?_
      rintro y w1 ⟨v1, rfl, ho, hb⟩
      have HV1 := Lib.hid ho
      clear ho
      have HB1 := Lib.hid hb
      have HN1 := Lib.hid hb
      clear hb
      obtain ⟨al1, cap1, hs1, hcp, -, -⟩ := HV1.out.ensAt
      subst hs1
      have hc1 : ¬ (cap1 : Int) < 1 := by omega
      have hc2 : (1 : Int) ≤ (cap1 : Int) := by omega
      clear hcp
      have HT := Lib.hid (ens_take HV1.out.ensAt 1 h1n)
      clear g1
      go_wp2_with fail
      refine (HP.out _ _ (by omega) h1n HT.out).mono ?_
      rintro y w2 ⟨rfl, hb⟩
      have HB2 := Lib.hid (HB1.out.trans (hb.mono HB1.out.size))
      have HN2 := Lib.hid hb
      clear hb
      go_wp2_with fail
      refine (HA.out _).mono ?_
      rintro y w3 ⟨rfl, hb⟩
      have HB3 := Lib.hid (HB2.out.trans (hb.mono HB2.out.size))
      have HN3 := Lib.hid hb
      clear hb
      go_wp2_with fail
      go_ret
      exact ⟨rfl, HB3.out⟩
    · have d1 : decide (200 < (l.length : Int)) = false := by simp; omega
      have hrn : rowN l ≠ 0 := fun h => g2 ⟨h, by omega⟩
      have h1n : 1 ≤ l.length := by
        cases l with
        | nil => exact absurd rfl hrn
        | cons e l => simp
      have hmin : min (1 : Int) (l.length : Int) = 1 := by omega
      obtain ⟨r, hr⟩ : ∃ r, placeN (l.take 1) 0 = r := ⟨_, rfl⟩
      have hp := hPl 1
      have hb1 := hbd 1 (by omega)
      rw [hr] at hb1
      simp only [hr] at hp
      have HP := Lib.hid hp
      have hd : decide (r ≤ 0) = true := by simp; omega
      have h1l : (1 : Int) ≤ (l.length : Int) := by omega
      obtain ⟨rr, hrr⟩ : ∃ rr, rowN l = rr := ⟨_, rfl⟩
      have hne : (rr != 0) = true := by rw [← hrr]; simpa using hrn
      have HRow := Lib.hid (fun (v : Value) (W : World) (h : EnsAt W v l) => prow_any v l W h HM.out)
      simp only [hrr] at HRow
      clear hp hPl hbd hr g2 hb1 hrn hrr
      go_enter Try.func6, Try.ntmps6
      go_wp2_with fail
      refine (ownN_any _ l _ H0.out HZ.out).mono ?_
      rintro y w1 ⟨v1, rfl, ho, hb⟩
      have HV1 := Lib.hid ho
      clear ho
      have HB1 := Lib.hid hb
      have HN1 := Lib.hid hb
      clear hb
      obtain ⟨al1, cap1, hs1, hcp, -, -⟩ := HV1.out.ensAt
      subst hs1
      have hc1 : ¬ (cap1 : Int) < 1 := by omega
      have hc2 : (1 : Int) ≤ (cap1 : Int) := by omega
      clear hcp
      clear g1
      go_wp2_with fail
      refine (HRow.out _ _ HV1.out.ensAt).mono ?_
      rintro y w2 ⟨rfl, hb⟩
      have HB2 := Lib.hid (HB1.out.trans (hb.mono HB1.out.size))
      have HN2 := Lib.hid hb
      clear hb
      have HT := Lib.hid (ens_take (HV1.out.ensAt.below HN2.out) 1 h1n)
      go_wp2_with fail
      refine (HP.out _ _ (by omega) h1n HT.out).mono ?_
      rintro y w3 ⟨rfl, hb⟩
      have HB3 := Lib.hid (HB2.out.trans (hb.mono HB2.out.size))
      have HN3 := Lib.hid hb
      clear hb
      go_wp2_with fail
      refine (HA.out _).mono ?_
      rintro y w4 ⟨rfl, hb⟩
      have HB4 := Lib.hid (HB3.out.trans (hb.mono HB3.out.size))
      have HN4 := Lib.hid hb
      clear hb
      go_wp2_with fail
      go_ret
      exact ⟨rfl, HB4.out⟩
end Go.Proofs.Ythaembnfdkcheaa
