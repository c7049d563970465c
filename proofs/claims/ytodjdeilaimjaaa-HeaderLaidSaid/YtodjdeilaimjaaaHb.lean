/- Contracts of sections, zoomsFit and degreesFit, and of Check, the program's and the document's: each computes what its plain function says. -/
import Derived.Test.YtodjdeilaimjaaaHa
import Derived.Handy
namespace Go.Proofs.Ytodjdeilaimjaaa
open Go.RowKit
set_option linter.unusedVariables false
theorem nums_built (k : IntKind) (w : World) (l : List Int) (T : TypeId) (n : Nat) (f : Nat × Nat) (hn : n = w.heap.size) (h : l.length ≤ maxLen) : NumsAt k (w.alloc (.cells (l.map (Value.int k)).toArray T f)) (.slice (some ⟨n, 0, none⟩) l.length l.length) l := by
  subst hn
  refine ⟨_, _, rfl, Nat.le_refl _, h, by rw [World.size_alloc]; omega, fun i hi => ?_⟩
  rw [World.cell?_alloc_mark]
  simp [hi]
set_option maxRecDepth 20000 in
theorem sections_any (h : Hd) (w : World) : Calls Try.prog 20 #[.agg #[.int .u64 h.rf, .int .u64 h.rl, .int .u64 h.mf, .int .u64 h.ml, .int .u64 h.lf, .int .u64 h.ll, .int .u64 h.df, .int .u64 h.dl, .int .u64 h.ad, .int .u64 h.en, .int .u64 h.co, .bool h.cl, .int .u8 h.inn, .int .u8 h.out, .int .u8 h.knd, .int .i64 h.z0, .int .i64 h.z1, .int .i64 h.lo0, .int .i64 h.la0, .int .i64 h.lo1, .int .i64 h.la1, .int .i64 h.zm, .int .i64 h.lon, .int .i64 h.lat]] w fun e w' => e = .returned (.agg #[.int .u64 h.rf, .int .u64 h.rl, .int .u64 h.mf, .int .u64 h.ml, .int .u64 h.lf, .int .u64 h.ll, .int .u64 h.df, .int .u64 h.dl]) ∧ Below w.heap.size w w' := by
  go_enter Try.func20, Try.ntmps20
  go_wp2_with fail
  refine bodyPost_ret (v := .agg #[.int .u64 h.rf, .int .u64 h.rl, .int .u64 h.mf, .int .u64 h.ml, .int .u64 h.lf, .int .u64 h.ll, .int .u64 h.df, .int .u64 h.dl]) (by simp [results, Try.results20, go_sem]) rfl ⟨rfl, by go_grown⟩
theorem rise3 (a b c : Int) : riseP [a, b, c] ↔ a ≤ b ∧ b ≤ c := by
  constructor
  · intro h
    exact ⟨h 0 (by simp), h 1 (by simp)⟩
  · rintro ⟨h0, h1⟩ i hi
    simp only [List.length_cons, List.length_nil] at hi
    rcases (by omega : i = 0 ∨ i = 1) with rfl | rfl
    · exact h0
    · exact h1
theorem rise4 (a b c d : Int) : riseP [a, b, c, d] ↔ a ≤ b ∧ b ≤ c ∧ c ≤ d := by
  constructor
  · intro h
    exact ⟨h 0 (by simp), h 1 (by simp), h 2 (by simp)⟩
  · rintro ⟨h0, h1, h2⟩ i hi
    simp only [List.length_cons, List.length_nil] at hi
    rcases (by omega : i = 0 ∨ i = 1 ∨ i = 2) with rfl | rfl | rfl
    · exact h0
    · exact h1
    · exact h2
/-- Four sorted, three sorted, behind whatever the world, as the walk spells it. -/
theorem rises4 (a b c d : Int) (w : World) (n : Nat) (hn : n = w.heap.size) : Calls Try.prog 41 #[.slice (some ⟨n, 0, none⟩) 4 4] (w.alloc (.cells #[.int .i64 a, .int .i64 b, .int .i64 c, .int .i64 d] 3)) fun e w' => e = .returned (.bool (decide (a ≤ b) && (decide (b ≤ c) && decide (c ≤ d)))) ∧ Below w.heap.size w w' := by
  refine (rises_any _ [a, b, c, d] _ (nums_built .i64 w [a, b, c, d] 3 n (0, 0) hn (by simp [maxLen]))).mono ?_
  rintro e w' ⟨r, rfl, hr, hb⟩
  refine ⟨?_, ((Below.refl _ _).alloc (Nat.le_refl _) _).trans (hb.mono (by rw [World.size_alloc]; omega))⟩
  congr 2
  rw [rise4] at hr
  rw [Bool.eq_iff_iff, hr]
  simp
theorem rises3 (a b c : Int) (w : World) (n : Nat) (hn : n = w.heap.size) : Calls Try.prog 41 #[.slice (some ⟨n, 0, none⟩) 3 3] (w.alloc (.cells #[.int .i64 a, .int .i64 b, .int .i64 c] 3)) fun e w' => e = .returned (.bool (decide (a ≤ b) && decide (b ≤ c))) ∧ Below w.heap.size w w' := by
  refine (rises_any _ [a, b, c] _ (nums_built .i64 w [a, b, c] 3 n (0, 0) hn (by simp [maxLen]))).mono ?_
  rintro e w' ⟨r, rfl, hr, hb⟩
  refine ⟨?_, ((Below.refl _ _).alloc (Nat.le_refl _) _).trans (hb.mono (by rw [World.size_alloc]; omega))⟩
  congr 2
  rw [rise3] at hr
  rw [Bool.eq_iff_iff, hr]
  simp
set_option maxRecDepth 20000 in
theorem zooms_any (h : Hd) (w : World) : Calls Try.prog 28 #[.agg #[.int .u64 h.rf, .int .u64 h.rl, .int .u64 h.mf, .int .u64 h.ml, .int .u64 h.lf, .int .u64 h.ll, .int .u64 h.df, .int .u64 h.dl, .int .u64 h.ad, .int .u64 h.en, .int .u64 h.co, .bool h.cl, .int .u8 h.inn, .int .u8 h.out, .int .u8 h.knd, .int .i64 h.z0, .int .i64 h.z1, .int .i64 h.lo0, .int .i64 h.la0, .int .i64 h.lo1, .int .i64 h.la1, .int .i64 h.zm, .int .i64 h.lon, .int .i64 h.lat]] w fun e w' => e = .returned (.bool (ZoomsB h)) ∧ Below w.heap.size w w' := by
  obtain ⟨b1, hb1⟩ : ∃ b, (decide (0 ≤ h.z0) && (decide (h.z0 ≤ h.z1) && decide (h.z1 ≤ 26))) = b := ⟨_, rfl⟩
  obtain ⟨b2, hb2⟩ : ∃ b, (decide (0 ≤ h.zm) && decide (h.zm ≤ 26)) = b := ⟨_, rfl⟩
  have he : Hid ((b1 && b2) = ZoomsB h) := by
    apply Lib.hid
    unfold ZoomsB
    rw [← hb1, ← hb2]
    simp only [Bool.and_assoc]
  have R4 : ∀ W n, n = W.heap.size → Calls Try.prog 41 #[.slice (some ⟨n, 0, none⟩) 4 4] (W.alloc (.cells #[.int .i64 0, .int .i64 h.z0, .int .i64 h.z1, .int .i64 26] 3)) fun e w' => e = .returned (.bool b1) ∧ Below W.heap.size W w' := fun W n hn => hb1 ▸ rises4 0 h.z0 h.z1 26 W n hn
  have R3 : ∀ W n, n = W.heap.size → Calls Try.prog 41 #[.slice (some ⟨n, 0, none⟩) 3 3] (W.alloc (.cells #[.int .i64 0, .int .i64 h.zm, .int .i64 26] 3)) fun e w' => e = .returned (.bool b2) ∧ Below W.heap.size W w' := fun W n hn => hb2 ▸ rises3 0 h.zm 26 W n hn
  have H4 := Lib.hid R4
  have H3 := Lib.hid R3
  clear R4 R3 hb1 hb2
  cases b1
  · go_enter Try.func28, Try.ntmps28
    go_wp2_with fail
    refine (H4.out _ _ (by simp)).mono ?_
    rintro e w1 ⟨rfl, hb⟩
    have hbw : Below w.heap.size w w1 := Below.trans (by go_grown) (hb.mono (by rw [World.size_alloc]; omega))
    clear hb
    go_wp2_with fail
    go_ret
    exact ⟨ret_bool he.out, hbw⟩
  · go_enter Try.func28, Try.ntmps28
    go_wp2_with fail
    refine (H4.out _ _ (by simp)).mono ?_
    rintro e w1 ⟨rfl, hb⟩
    have hbw : Below w.heap.size w w1 := Below.trans (by go_grown) (hb.mono (by rw [World.size_alloc]; omega))
    have c1 : w1.cell? ⟨w.heap.size, 21, none⟩ = some (.int .i64 h.zm) := (hb.cell (p := ⟨w.heap.size, 21, none⟩) (by simp)).trans (by simp [go_sem])
    clear hb
    go_wp2_with fail
    refine (H3.out _ _ (by simp)).mono ?_
    rintro e w2 ⟨rfl, hb⟩
    have hbw2 : Below w.heap.size w w2 := hbw.trans (hb.mono hbw.size)
    clear hb hbw
    go_wp2_with fail
    go_ret
    exact ⟨ret_bool he.out, hbw2⟩
set_option maxRecDepth 20000 in
theorem degrees_any (h : Hd) (w : World) : Calls Try.prog 29 #[.agg #[.int .u64 h.rf, .int .u64 h.rl, .int .u64 h.mf, .int .u64 h.ml, .int .u64 h.lf, .int .u64 h.ll, .int .u64 h.df, .int .u64 h.dl, .int .u64 h.ad, .int .u64 h.en, .int .u64 h.co, .bool h.cl, .int .u8 h.inn, .int .u8 h.out, .int .u8 h.knd, .int .i64 h.z0, .int .i64 h.z1, .int .i64 h.lo0, .int .i64 h.la0, .int .i64 h.lo1, .int .i64 h.la1, .int .i64 h.zm, .int .i64 h.lon, .int .i64 h.lat]] w fun e w' => e = .returned (.bool (DegB h)) ∧ Below w.heap.size w w' := by
  obtain ⟨b0, hb0⟩ : ∃ b, (decide (-1800000000 ≤ h.lo0) && (decide (h.lo0 ≤ h.lo1) && decide (h.lo1 ≤ 1800000000))) = b := ⟨_, rfl⟩
  obtain ⟨b1, hb1⟩ : ∃ b, (decide (-900000000 ≤ h.la0) && (decide (h.la0 ≤ h.la1) && decide (h.la1 ≤ 900000000))) = b := ⟨_, rfl⟩
  obtain ⟨b2, hb2⟩ : ∃ b, (decide (-1800000000 ≤ h.lon) && decide (h.lon ≤ 1800000000)) = b := ⟨_, rfl⟩
  obtain ⟨b3, hb3⟩ : ∃ b, (decide (-900000000 ≤ h.lat) && decide (h.lat ≤ 900000000)) = b := ⟨_, rfl⟩
  have he : Hid ((b0 && (b1 && (b2 && b3))) = DegB h) := by
    apply Lib.hid
    unfold DegB
    rw [← hb0, ← hb1, ← hb2, ← hb3]
    simp only [Bool.and_assoc]
  have R0 : ∀ W n, n = W.heap.size → Calls Try.prog 41 #[.slice (some ⟨n, 0, none⟩) 4 4] (W.alloc (.cells #[.int .i64 (-1800000000), .int .i64 h.lo0, .int .i64 h.lo1, .int .i64 1800000000] 3)) fun e w' => e = .returned (.bool b0) ∧ Below W.heap.size W w' := fun W n hn => hb0 ▸ rises4 (-1800000000) h.lo0 h.lo1 1800000000 W n hn
  have H0 := Lib.hid R0; clear R0 hb0
  have R1 : ∀ W n, n = W.heap.size → Calls Try.prog 41 #[.slice (some ⟨n, 0, none⟩) 4 4] (W.alloc (.cells #[.int .i64 (-900000000), .int .i64 h.la0, .int .i64 h.la1, .int .i64 900000000] 3)) fun e w' => e = .returned (.bool b1) ∧ Below W.heap.size W w' := fun W n hn => hb1 ▸ rises4 (-900000000) h.la0 h.la1 900000000 W n hn
  have H1 := Lib.hid R1; clear R1 hb1
  have R2 : ∀ W n, n = W.heap.size → Calls Try.prog 41 #[.slice (some ⟨n, 0, none⟩) 3 3] (W.alloc (.cells #[.int .i64 (-1800000000), .int .i64 h.lon, .int .i64 1800000000] 3)) fun e w' => e = .returned (.bool b2) ∧ Below W.heap.size W w' := fun W n hn => hb2 ▸ rises3 (-1800000000) h.lon 1800000000 W n hn
  have H2 := Lib.hid R2; clear R2 hb2
  have R3 : ∀ W n, n = W.heap.size → Calls Try.prog 41 #[.slice (some ⟨n, 0, none⟩) 3 3] (W.alloc (.cells #[.int .i64 (-900000000), .int .i64 h.lat, .int .i64 900000000] 3)) fun e w' => e = .returned (.bool b3) ∧ Below W.heap.size W w' := fun W n hn => hb3 ▸ rises3 (-900000000) h.lat 900000000 W n hn
  have H3 := Lib.hid R3; clear R3 hb3
  cases b0
  · go_enter Try.func29, Try.ntmps29
    go_wp2_with fail
    refine (H0.out _ _ (by simp)).mono ?_
    rintro e w1 ⟨rfl, hb⟩
    have u1 : Below w.heap.size w w1 := Below.trans (by go_grown) (hb.mono (by rw [World.size_alloc]; omega))
    have c18 : w1.cell? ⟨w.heap.size, 18, none⟩ = some (.int .i64 h.la0) := (hb.cell (p := ⟨w.heap.size, 18, none⟩) (by simp)).trans (by simp [go_sem])
    have c20 : w1.cell? ⟨w.heap.size, 20, none⟩ = some (.int .i64 h.la1) := (hb.cell (p := ⟨w.heap.size, 20, none⟩) (by simp)).trans (by simp [go_sem])
    have c22 : w1.cell? ⟨w.heap.size, 22, none⟩ = some (.int .i64 h.lon) := (hb.cell (p := ⟨w.heap.size, 22, none⟩) (by simp)).trans (by simp [go_sem])
    have c23 : w1.cell? ⟨w.heap.size, 23, none⟩ = some (.int .i64 h.lat) := (hb.cell (p := ⟨w.heap.size, 23, none⟩) (by simp)).trans (by simp [go_sem])
    clear hb
    go_wp2_with fail
    go_ret
    exact ⟨ret_bool he.out, u1⟩
  · cases b1
    · go_enter Try.func29, Try.ntmps29
      go_wp2_with fail
      refine (H0.out _ _ (by simp)).mono ?_
      rintro e w1 ⟨rfl, hb⟩
      have u1 : Below w.heap.size w w1 := Below.trans (by go_grown) (hb.mono (by rw [World.size_alloc]; omega))
      have c18 : w1.cell? ⟨w.heap.size, 18, none⟩ = some (.int .i64 h.la0) := (hb.cell (p := ⟨w.heap.size, 18, none⟩) (by simp)).trans (by simp [go_sem])
      have c20 : w1.cell? ⟨w.heap.size, 20, none⟩ = some (.int .i64 h.la1) := (hb.cell (p := ⟨w.heap.size, 20, none⟩) (by simp)).trans (by simp [go_sem])
      have c22 : w1.cell? ⟨w.heap.size, 22, none⟩ = some (.int .i64 h.lon) := (hb.cell (p := ⟨w.heap.size, 22, none⟩) (by simp)).trans (by simp [go_sem])
      have c23 : w1.cell? ⟨w.heap.size, 23, none⟩ = some (.int .i64 h.lat) := (hb.cell (p := ⟨w.heap.size, 23, none⟩) (by simp)).trans (by simp [go_sem])
      clear hb
      go_wp2_with fail
      refine (H1.out _ _ (by simp)).mono ?_
      rintro e w2 ⟨rfl, hb⟩
      have u2 := u1.trans (hb.mono u1.size)
      replace c18 := cell_later hb c18
      replace c20 := cell_later hb c20
      replace c22 := cell_later hb c22
      replace c23 := cell_later hb c23
      clear u1
      clear hb
      go_wp2_with fail
      go_ret
      exact ⟨ret_bool he.out, u2⟩
    · cases b2
      · go_enter Try.func29, Try.ntmps29
        go_wp2_with fail
        refine (H0.out _ _ (by simp)).mono ?_
        rintro e w1 ⟨rfl, hb⟩
        have u1 : Below w.heap.size w w1 := Below.trans (by go_grown) (hb.mono (by rw [World.size_alloc]; omega))
        have c18 : w1.cell? ⟨w.heap.size, 18, none⟩ = some (.int .i64 h.la0) := (hb.cell (p := ⟨w.heap.size, 18, none⟩) (by simp)).trans (by simp [go_sem])
        have c20 : w1.cell? ⟨w.heap.size, 20, none⟩ = some (.int .i64 h.la1) := (hb.cell (p := ⟨w.heap.size, 20, none⟩) (by simp)).trans (by simp [go_sem])
        have c22 : w1.cell? ⟨w.heap.size, 22, none⟩ = some (.int .i64 h.lon) := (hb.cell (p := ⟨w.heap.size, 22, none⟩) (by simp)).trans (by simp [go_sem])
        have c23 : w1.cell? ⟨w.heap.size, 23, none⟩ = some (.int .i64 h.lat) := (hb.cell (p := ⟨w.heap.size, 23, none⟩) (by simp)).trans (by simp [go_sem])
        clear hb
        go_wp2_with fail
        refine (H1.out _ _ (by simp)).mono ?_
        rintro e w2 ⟨rfl, hb⟩
        have u2 := u1.trans (hb.mono u1.size)
        replace c18 := cell_later hb c18
        replace c20 := cell_later hb c20
        replace c22 := cell_later hb c22
        replace c23 := cell_later hb c23
        clear u1
        clear hb
        go_wp2_with fail
        refine (H2.out _ _ (by simp)).mono ?_
        rintro e w3 ⟨rfl, hb⟩
        have u3 := u2.trans (hb.mono u2.size)
        replace c18 := cell_later hb c18
        replace c20 := cell_later hb c20
        replace c22 := cell_later hb c22
        replace c23 := cell_later hb c23
        clear u2
        clear hb
        go_wp2_with fail
        go_ret
        exact ⟨ret_bool he.out, u3⟩
      · go_enter Try.func29, Try.ntmps29
        go_wp2_with fail
        refine (H0.out _ _ (by simp)).mono ?_
        rintro e w1 ⟨rfl, hb⟩
        have u1 : Below w.heap.size w w1 := Below.trans (by go_grown) (hb.mono (by rw [World.size_alloc]; omega))
        have c18 : w1.cell? ⟨w.heap.size, 18, none⟩ = some (.int .i64 h.la0) := (hb.cell (p := ⟨w.heap.size, 18, none⟩) (by simp)).trans (by simp [go_sem])
        have c20 : w1.cell? ⟨w.heap.size, 20, none⟩ = some (.int .i64 h.la1) := (hb.cell (p := ⟨w.heap.size, 20, none⟩) (by simp)).trans (by simp [go_sem])
        have c22 : w1.cell? ⟨w.heap.size, 22, none⟩ = some (.int .i64 h.lon) := (hb.cell (p := ⟨w.heap.size, 22, none⟩) (by simp)).trans (by simp [go_sem])
        have c23 : w1.cell? ⟨w.heap.size, 23, none⟩ = some (.int .i64 h.lat) := (hb.cell (p := ⟨w.heap.size, 23, none⟩) (by simp)).trans (by simp [go_sem])
        clear hb
        go_wp2_with fail
        refine (H1.out _ _ (by simp)).mono ?_
        rintro e w2 ⟨rfl, hb⟩
        have u2 := u1.trans (hb.mono u1.size)
        replace c18 := cell_later hb c18
        replace c20 := cell_later hb c20
        replace c22 := cell_later hb c22
        replace c23 := cell_later hb c23
        clear u1
        clear hb
        go_wp2_with fail
        refine (H2.out _ _ (by simp)).mono ?_
        rintro e w3 ⟨rfl, hb⟩
        have u3 := u2.trans (hb.mono u2.size)
        replace c18 := cell_later hb c18
        replace c20 := cell_later hb c20
        replace c22 := cell_later hb c22
        replace c23 := cell_later hb c23
        clear u2
        clear hb
        go_wp2_with fail
        refine (H3.out _ _ (by simp)).mono ?_
        rintro e w4 ⟨rfl, hb⟩
        have u4 := u3.trans (hb.mono u3.size)
        replace c18 := cell_later hb c18
        replace c20 := cell_later hb c20
        replace c22 := cell_later hb c22
        replace c23 := cell_later hb c23
        clear u3
        clear hb
        go_wp2_with fail
        go_ret
        exact ⟨ret_bool he.out, u4⟩
end Go.Proofs.Ytodjdeilaimjaaa
