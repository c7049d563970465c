/- Contracts of the program's Has: what its plain function says. -/
import Derived.Test.YtdgohnpkpijmbaaPa
namespace Go.Proofs.Ytdgohnpkpijmbaa
open Go.RowKit
set_option linter.unusedVariables false
set_option linter.unusedSimpArgs false
set_option maxRecDepth 20000 in
set_option maxHeartbeats 1000000 in
theorem phas_any (e : En) (q : Int) (w : World) (hm : MayN e) : Calls Try.prog 11 #[.agg (eC e), .int .u64 q] w fun x w' => x = .returned (.bool (hasN e q)) ∧ Below w.heap.size w w' := by
  have HL := Lib.hid (fun W => plast_any e W hm)
  have HC := Lib.hid (fun W => pcheck_any e W hm)
  have HP := Lib.hid (fun W => pptr_any e W)
  have H0 := EAt.made w e 26
  have HB : Below w.heap.size w (w.alloc (.cells (eC e) 26)) := (Below.refl _ _).alloc (Nat.le_refl _) _
  have hz : Hid (0 ≤ e.rn) := Lib.hid hm.2.2.2.1
  obtain ⟨r, hr⟩ : ∃ r, ckN e = r := ⟨_, rfl⟩
  obtain ⟨la, hla⟩ : ∃ la, laN e = la := ⟨_, rfl⟩
  have hh : Hid ((decide (r = 0) && (decide (0 < e.rn) && (decide (e.id ≤ q) && decide (q ≤ la)))) = hasN e q) := Lib.hid (by unfold hasN; rw [hr, hla])
  obtain ⟨b, hb⟩ : ∃ b, hasN e q = b := ⟨_, rfl⟩
  rw [hb] at hh ⊢
  rw [hr] at HC
  rw [hla] at HL
  clear hb hr hla hm
  unfold eC at HB HC HL HP ⊢
  obtain ⟨c0, c1, c2, c3⟩ := H0
  unfold eC at c0 c1 c2 c3
  by_cases h0 : r = 0
  · subst h0
    by_cases h1 : e.rn = 0
    · have d1 : decide (0 < e.rn) = false := by simp; omega
      have d0 : decide (e.rn = 0) = true := by simpa using h1
      rw [d0] at HP
      clear h1 d0
      go_enter Try.func11, Try.ntmps11
      go_wp2_with fail
      refine (HC.out _).mono ?_
      rintro x w1 ⟨rfl, hb⟩
      obtain ⟨⟨k0, k1, k2, k3⟩, hU⟩ := keepE hb ⟨⟨c0, c1, c2, c3⟩, HB⟩
      have HU := Lib.hid hU
      clear hb c0 c1 c2 c3 HB hU
      go_wp2_with fail
      refine (HP.out _).mono ?_
      rintro x w2 ⟨rfl, hb⟩
      obtain ⟨⟨c0, c1, c2, c3⟩, hU⟩ := keepE hb ⟨⟨k0, k1, k2, k3⟩, HU.out⟩
      have HU2 := Lib.hid hU
      clear hb k0 k1 k2 k3 HU hU
      go_wp2_with fail
      go_ret
      exact ⟨ret_b (by rw [← hh.out, d1]; simp), HU2.out⟩
    · have d1 : decide (0 < e.rn) = true := by have := hz.out; simp; omega
      have d0 : decide (e.rn = 0) = false := by simpa using h1
      rw [d0] at HP
      clear h1 d0
      by_cases h2 : e.id ≤ q
      · have d2 : decide (e.id ≤ q) = true := by simpa using h2
        clear h2
        go_enter Try.func11, Try.ntmps11
        go_wp2_with fail
        refine (HC.out _).mono ?_
        rintro x w1 ⟨rfl, hb⟩
        obtain ⟨⟨k0, k1, k2, k3⟩, hU⟩ := keepE hb ⟨⟨c0, c1, c2, c3⟩, HB⟩
        have HU := Lib.hid hU
        clear hb c0 c1 c2 c3 HB hU
        go_wp2_with fail
        refine (HP.out _).mono ?_
        rintro x w2 ⟨rfl, hb⟩
        obtain ⟨⟨c0, c1, c2, c3⟩, hU⟩ := keepE hb ⟨⟨k0, k1, k2, k3⟩, HU.out⟩
        have HU2 := Lib.hid hU
        clear hb k0 k1 k2 k3 HU hU
        go_wp2_with fail
        refine (HL.out _).mono ?_
        rintro x w3 ⟨rfl, hb⟩
        have HU3 := Lib.hid (HU2.out.trans (hb.mono HU2.out.size))
        clear hb c0 c1 c2 c3
        go_wp2_with fail
        go_ret
        exact ⟨ret_b (by rw [← hh.out, d1, d2]; simp), HU3.out⟩
      · have d2 : decide (e.id ≤ q) = false := by simpa using h2
        clear h2
        go_enter Try.func11, Try.ntmps11
        go_wp2_with fail
        refine (HC.out _).mono ?_
        rintro x w1 ⟨rfl, hb⟩
        obtain ⟨⟨k0, k1, k2, k3⟩, hU⟩ := keepE hb ⟨⟨c0, c1, c2, c3⟩, HB⟩
        have HU := Lib.hid hU
        clear hb c0 c1 c2 c3 HB hU
        go_wp2_with fail
        refine (HP.out _).mono ?_
        rintro x w2 ⟨rfl, hb⟩
        obtain ⟨⟨c0, c1, c2, c3⟩, hU⟩ := keepE hb ⟨⟨k0, k1, k2, k3⟩, HU.out⟩
        have HU2 := Lib.hid hU
        clear hb k0 k1 k2 k3 HU hU
        go_wp2_with fail
        go_ret
        exact ⟨ret_b (by rw [← hh.out, d1, d2]; simp), HU2.out⟩
  · have hne : (r == 0) = false := by simpa using h0
    have hne2 : decide (r = 0) = false := by simpa using h0
    clear h0
    go_enter Try.func11, Try.ntmps11
    go_wp2_with fail
    refine (HC.out _).mono ?_
    rintro x w1 ⟨rfl, hb⟩
    obtain ⟨⟨k0, k1, k2, k3⟩, hU⟩ := keepE hb ⟨⟨c0, c1, c2, c3⟩, HB⟩
    have HU := Lib.hid hU
    clear hb c0 c1 c2 c3 HB hU
    go_wp2_with fail
    go_ret
    exact ⟨ret_b (by rw [← hh.out, hne2]; simp), HU.out⟩
end Go.Proofs.Ytdgohnpkpijmbaa
