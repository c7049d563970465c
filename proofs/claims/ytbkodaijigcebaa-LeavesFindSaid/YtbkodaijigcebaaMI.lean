/- Several texts, one behind the other: Dx, Dy, Dz, Db. -/
import Derived.Test.YtbkodaijigcebaaMH
import Derived.Test.YtbkodaijigcebaaMC
import Derived.Test.YtbkodaijigcebaaMF
/- The contract of the document's put: a number of a column is put into a row of the call's own. -/
namespace Go.Proofs.Ytbkodaijigcebaa
open Go.RowKit
set_option maxRecDepth 20000
set_option linter.unusedVariables false
set_option linter.unusedSimpArgs false
theorem flat4_set0 : ∀ (l : List En) (k : Nat) (e : En) (x : Int), l[k]? = some e → (flat4 l).set (k * 4) (.int .u64 x) = flat4 (l.set k { e with id := x })
  | [], k, e, x, h => by simp at h
  | a :: l, 0, e, x, h => by
    obtain rfl : a = e := by simpa using h
    rfl
  | a :: l, k + 1, e, x, h => by
    have ih := flat4_set0 l k e x (by simpa using h)
    show (cE a ++ flat4 l).set _ _ = cE a ++ flat4 (l.set k { e with id := x })
    rw [← ih, show (k + 1) * 4 = (k * 4) + 1 + 1 + 1 + 1 from by omega]
    rfl
theorem flat4_set1 : ∀ (l : List En) (k : Nat) (e : En) (x : Int), l[k]? = some e → (flat4 l).set (k * 4 + 1) (.int .u64 x) = flat4 (l.set k { e with off := x })
  | [], k, e, x, h => by simp at h
  | a :: l, 0, e, x, h => by
    obtain rfl : a = e := by simpa using h
    rfl
  | a :: l, k + 1, e, x, h => by
    have ih := flat4_set1 l k e x (by simpa using h)
    show (cE a ++ flat4 l).set _ _ = cE a ++ flat4 (l.set k { e with off := x })
    rw [← ih, show (k + 1) * 4 + 1 = (k * 4 + 1) + 1 + 1 + 1 + 1 from by omega]
    rfl
theorem flat4_set2 : ∀ (l : List En) (k : Nat) (e : En) (x : Int), l[k]? = some e → (flat4 l).set (k * 4 + 2) (.int .u32 x) = flat4 (l.set k { e with ln := x })
  | [], k, e, x, h => by simp at h
  | a :: l, 0, e, x, h => by
    obtain rfl : a = e := by simpa using h
    rfl
  | a :: l, k + 1, e, x, h => by
    have ih := flat4_set2 l k e x (by simpa using h)
    show (cE a ++ flat4 l).set _ _ = cE a ++ flat4 (l.set k { e with ln := x })
    rw [← ih, show (k + 1) * 4 + 2 = (k * 4 + 2) + 1 + 1 + 1 + 1 from by omega]
    rfl
theorem flat4_set3 : ∀ (l : List En) (k : Nat) (e : En) (x : Int), l[k]? = some e → (flat4 l).set (k * 4 + 3) (.int .u32 x) = flat4 (l.set k { e with rn := x })
  | [], k, e, x, h => by simp at h
  | a :: l, 0, e, x, h => by
    obtain rfl : a = e := by simpa using h
    rfl
  | a :: l, k + 1, e, x, h => by
    have ih := flat4_set3 l k e x (by simpa using h)
    show (cE a ++ flat4 l).set _ _ = cE a ++ flat4 (l.set k { e with rn := x })
    rw [← ih, show (k + 1) * 4 + 3 = (k * 4 + 3) + 1 + 1 + 1 + 1 from by omega]
    rfl
theorem grown_then {a w w' : World} {row : Option Nat} (h : a.grownBy w row) (hb : Below w.heap.size w w') : a.grownBy w' row :=
  ⟨hb.os.trans h.os, hb.tape.trans h.tape, hb.output.trans h.output, Nat.le_trans h.size hb.size, fun k hk hg => (hb.block k (Nat.lt_of_lt_of_le hk h.size)).trans (h.block k hk hg)⟩
theorem grown_both {w w1 w2 : World} {g : Nat} (h : w.grownBy w1 (some g)) (h' : w1.grownBy w2 (some g)) : w.grownBy w2 (some g) :=
  ⟨h'.os.trans h.os, h'.tape.trans h.tape, h'.output.trans h.output, Nat.le_trans h.size h'.size, fun k hk hg => (h'.block k (Nat.lt_of_lt_of_le hk h.size) hg).trans (h.block k hk hg)⟩
set_option maxRecDepth 20000 in
set_option maxHeartbeats 1000000 in
theorem rp_00 (v : Value) (B : Nat) (E : TypeId) (l : List En) (k : Nat) (e : En) (x : Int) (w : World) (hv : OwnE w B E v l) (x0 : 0 ≤ x) (x1 : x ≤ 18446744073709551615) (he : l[k]? = some e) (hz : k = 0) : Calls Try.prog 85 #[v, .int .i64 0, .int .i64 k, .int .u64 x] w fun y w' => (∃ u, y = .returned u) ∧ OwnE w' B E v (l.set k { e with id := x }) ∧ w.grownBy w' v.ownBlock := by
  have hl : k < l.length := (List.getElem?_eq_some_iff.1 he).1
  have hkl : (k : Int) < (l.length : Int) := by omega
  obtain ⟨g, cap, rfl, hB, hg, hle, hcm, hc, fr⟩ : ∃ g cap, v = .slice (some ⟨g, 0, none⟩) l.length cap ∧ B ≤ g ∧ g < w.heap.size ∧ l.length ≤ cap ∧ cap ≤ maxLen ∧ (∀ j, j < l.length * 4 → w.cell? ⟨g, j, none⟩ = (flat4 l)[j]?) ∧ ∀ j, w.frozen? ⟨g, j, none⟩ = false := by
    rcases hv.form with ⟨_, rfl⟩ | h
    · simp at hl
    · exact h
  obtain ⟨a0, a1, a2, a3⟩ := flat4_at l k e he
  have c0 := (hc (k * 4) (by omega)).trans a0
  have c1 := (hc (k * 4 + 1) (by omega)).trans a1
  have c2 := (hc (k * 4 + 2) (by omega)).trans a2
  have c3 := (hc (k * 4 + 3) (by omega)).trans a3
  have HV := Lib.hid hv
  unfold maxLen at hcm
  have hd : decide (0 < (k : Int)) = false := by simp; omega
  have hdn : decide (0 < k) = false := by simp; omega
  clear hz hc
  go_enter Try.func85, Try.ntmps85
  go_wp2_with fail
  have q0 := World.ownsRow.stored HV.out (k * 4) (.int .u64 (x))
  rw [flat4_set0 l k e _ he] at q0
  go_end0
  exact ⟨⟨_, rfl⟩, owne_conv q0.1 (by simp) rfl, q0.2⟩
set_option maxRecDepth 20000 in
set_option maxHeartbeats 1000000 in
theorem rp_0k (v : Value) (B : Nat) (E : TypeId) (l : List En) (k : Nat) (e : En) (j : Nat) (f : En) (x : Int) (w : World) (hv : OwnE w B E v l) (x0 : 0 ≤ x) (x1 : x ≤ 18446744073709551615) (he : l[k]? = some e) (hj : k = j + 1) (hf : l[j]? = some f) (hmf : MayN f) : Calls Try.prog 85 #[v, .int .i64 0, .int .i64 k, .int .u64 x] w fun y w' => (∃ u, y = .returned u) ∧ OwnE w' B E v (l.set k { e with id := IntKind.u64.wrap (f.id + x) }) ∧ w.grownBy w' v.ownBlock := by
  have hl : k < l.length := (List.getElem?_eq_some_iff.1 he).1
  have hkl : (k : Int) < (l.length : Int) := by omega
  obtain ⟨g, cap, rfl, hB, hg, hle, hcm, hc, fr⟩ : ∃ g cap, v = .slice (some ⟨g, 0, none⟩) l.length cap ∧ B ≤ g ∧ g < w.heap.size ∧ l.length ≤ cap ∧ cap ≤ maxLen ∧ (∀ j, j < l.length * 4 → w.cell? ⟨g, j, none⟩ = (flat4 l)[j]?) ∧ ∀ j, w.frozen? ⟨g, j, none⟩ = false := by
    rcases hv.form with ⟨_, rfl⟩ | h
    · simp at hl
    · exact h
  obtain ⟨a0, a1, a2, a3⟩ := flat4_at l k e he
  have c0 := (hc (k * 4) (by omega)).trans a0
  have c1 := (hc (k * 4 + 1) (by omega)).trans a1
  have c2 := (hc (k * 4 + 2) (by omega)).trans a2
  have c3 := (hc (k * 4 + 3) (by omega)).trans a3
  have HV := Lib.hid hv
  unfold maxLen at hcm
  have hjl' : j < l.length := by omega
  obtain ⟨b0, b1, b2, b3⟩ := flat4_at l j f hf
  have m0 := (hc (j * 4) (by omega)).trans b0
  have m1 := (hc (j * 4 + 1) (by omega)).trans b1
  have m2 := (hc (j * 4 + 2) (by omega)).trans b2
  have m3 := (hc (j * 4 + 3) (by omega)).trans b3
  have hd : decide (0 < (k : Int)) = true := by simp; omega
  have hdn : decide (0 < k) = true := by simp; omega
  have hk1 : (k : Int) - 1 = (j : Int) := by omega
  have hjl : (j : Int) < (l.length : Int) := by omega
  have hk2 : IntKind.i64.wrap (j : Int) = (j : Int) := by rw [IntKind.wrap_i64] <;> omega
  have r3 : IntKind.u64.wrap f.ln = f.ln := by unfold MayN at hmf; rw [wrap_u64]; omega
  have hne : ∀ y z : Nat, y < 4 → z < 4 → j * 4 + y ≠ k * 4 + z := by omega
  clear hc hmf hj hf
  go_enter Try.func85, Try.ntmps85
  go_wp2_with fail
  have q0 := World.ownsRow.stored HV.out (k * 4) (.int .u64 (x))
  have q1 := World.ownsRow.stored q0.1 (k * 4) (.int .u64 (IntKind.u64.wrap (f.id + x)))
  rw [flat4_set0 l k e _ he] at q0 q1
  rw [flat4_set0 (l.set k { e with id := x }) k { e with id := x } _ (by rw [List.getElem?_set, if_pos rfl, if_pos hl])] at q1
  rw [List.set_set] at q1
  go_end0
  exact ⟨⟨_, rfl⟩, owne_conv q1.1 (by simp) rfl, grown_both q0.2 q1.2⟩
set_option maxRecDepth 20000 in
set_option maxHeartbeats 1000000 in
theorem rp_1 (v : Value) (B : Nat) (E : TypeId) (l : List En) (k : Nat) (e : En) (x : Int) (w : World) (hv : OwnE w B E v l) (x0 : 0 ≤ x) (x1 : x ≤ 18446744073709551615) (he : l[k]? = some e) : Calls Try.prog 85 #[v, .int .i64 1, .int .i64 k, .int .u64 x] w fun y w' => (∃ u, y = .returned u) ∧ OwnE w' B E v (l.set k { e with rn := IntKind.u32.wrap x }) ∧ w.grownBy w' v.ownBlock := by
  have hl : k < l.length := (List.getElem?_eq_some_iff.1 he).1
  have hkl : (k : Int) < (l.length : Int) := by omega
  obtain ⟨g, cap, rfl, hB, hg, hle, hcm, hc, fr⟩ : ∃ g cap, v = .slice (some ⟨g, 0, none⟩) l.length cap ∧ B ≤ g ∧ g < w.heap.size ∧ l.length ≤ cap ∧ cap ≤ maxLen ∧ (∀ j, j < l.length * 4 → w.cell? ⟨g, j, none⟩ = (flat4 l)[j]?) ∧ ∀ j, w.frozen? ⟨g, j, none⟩ = false := by
    rcases hv.form with ⟨_, rfl⟩ | h
    · simp at hl
    · exact h
  obtain ⟨a0, a1, a2, a3⟩ := flat4_at l k e he
  have c0 := (hc (k * 4) (by omega)).trans a0
  have c1 := (hc (k * 4 + 1) (by omega)).trans a1
  have c2 := (hc (k * 4 + 2) (by omega)).trans a2
  have c3 := (hc (k * 4 + 3) (by omega)).trans a3
  have HV := Lib.hid hv
  unfold maxLen at hcm
  clear hc
  go_enter Try.func85, Try.ntmps85
  go_wp2_with fail
  have q0 := World.ownsRow.stored HV.out (k * 4 + 3) (.int .u32 (IntKind.u32.wrap x))
  rw [flat4_set3 l k e _ he] at q0
  go_end0
  exact ⟨⟨_, rfl⟩, owne_conv q0.1 (by simp) rfl, q0.2⟩
set_option maxRecDepth 20000 in
set_option maxHeartbeats 1000000 in
theorem rp_2 (v : Value) (B : Nat) (E : TypeId) (l : List En) (k : Nat) (e : En) (x : Int) (w : World) (hv : OwnE w B E v l) (x0 : 0 ≤ x) (x1 : x ≤ 18446744073709551615) (he : l[k]? = some e) : Calls Try.prog 85 #[v, .int .i64 2, .int .i64 k, .int .u64 x] w fun y w' => (∃ u, y = .returned u) ∧ OwnE w' B E v (l.set k { e with ln := IntKind.u32.wrap x }) ∧ w.grownBy w' v.ownBlock := by
  have hl : k < l.length := (List.getElem?_eq_some_iff.1 he).1
  have hkl : (k : Int) < (l.length : Int) := by omega
  obtain ⟨g, cap, rfl, hB, hg, hle, hcm, hc, fr⟩ : ∃ g cap, v = .slice (some ⟨g, 0, none⟩) l.length cap ∧ B ≤ g ∧ g < w.heap.size ∧ l.length ≤ cap ∧ cap ≤ maxLen ∧ (∀ j, j < l.length * 4 → w.cell? ⟨g, j, none⟩ = (flat4 l)[j]?) ∧ ∀ j, w.frozen? ⟨g, j, none⟩ = false := by
    rcases hv.form with ⟨_, rfl⟩ | h
    · simp at hl
    · exact h
  obtain ⟨a0, a1, a2, a3⟩ := flat4_at l k e he
  have c0 := (hc (k * 4) (by omega)).trans a0
  have c1 := (hc (k * 4 + 1) (by omega)).trans a1
  have c2 := (hc (k * 4 + 2) (by omega)).trans a2
  have c3 := (hc (k * 4 + 3) (by omega)).trans a3
  have HV := Lib.hid hv
  unfold maxLen at hcm
  clear hc
  go_enter Try.func85, Try.ntmps85
  go_wp2_with fail
  have q0 := World.ownsRow.stored HV.out (k * 4 + 2) (.int .u32 (IntKind.u32.wrap x))
  rw [flat4_set2 l k e _ he] at q0
  go_end0
  exact ⟨⟨_, rfl⟩, owne_conv q0.1 (by simp) rfl, q0.2⟩
set_option maxRecDepth 20000 in
set_option maxHeartbeats 1000000 in
theorem rp_3n (v : Value) (B : Nat) (E : TypeId) (l : List En) (k : Nat) (e : En) (x : Int) (w : World) (hv : OwnE w B E v l) (x0 : 0 ≤ x) (x1 : x ≤ 18446744073709551615) (he : l[k]? = some e) (hz : ¬ x = 0) : Calls Try.prog 85 #[v, .int .i64 3, .int .i64 k, .int .u64 x] w fun y w' => (∃ u, y = .returned u) ∧ OwnE w' B E v (l.set k { e with off := IntKind.u64.wrap (x - 1) }) ∧ w.grownBy w' v.ownBlock := by
  have hl : k < l.length := (List.getElem?_eq_some_iff.1 he).1
  have hkl : (k : Int) < (l.length : Int) := by omega
  obtain ⟨g, cap, rfl, hB, hg, hle, hcm, hc, fr⟩ : ∃ g cap, v = .slice (some ⟨g, 0, none⟩) l.length cap ∧ B ≤ g ∧ g < w.heap.size ∧ l.length ≤ cap ∧ cap ≤ maxLen ∧ (∀ j, j < l.length * 4 → w.cell? ⟨g, j, none⟩ = (flat4 l)[j]?) ∧ ∀ j, w.frozen? ⟨g, j, none⟩ = false := by
    rcases hv.form with ⟨_, rfl⟩ | h
    · simp at hl
    · exact h
  obtain ⟨a0, a1, a2, a3⟩ := flat4_at l k e he
  have c0 := (hc (k * 4) (by omega)).trans a0
  have c1 := (hc (k * 4 + 1) (by omega)).trans a1
  have c2 := (hc (k * 4 + 2) (by omega)).trans a2
  have c3 := (hc (k * 4 + 3) (by omega)).trans a3
  have HV := Lib.hid hv
  unfold maxLen at hcm
  have hd : (x == 0) = false := by simpa using hz
  clear hz hc
  go_enter Try.func85, Try.ntmps85
  go_wp2_with fail
  have q0 := World.ownsRow.stored HV.out (k * 4 + 1) (.int .u64 (IntKind.u64.wrap (x - 1)))
  rw [flat4_set1 l k e _ he] at q0
  go_end0
  exact ⟨⟨_, rfl⟩, owne_conv q0.1 (by simp) rfl, q0.2⟩
set_option maxRecDepth 20000 in
set_option maxHeartbeats 1000000 in
theorem rp_3z (v : Value) (B : Nat) (E : TypeId) (l : List En) (k : Nat) (e : En) (j : Nat) (f : En) (x : Int) (w : World) (hv : OwnE w B E v l) (x0 : 0 ≤ x) (x1 : x ≤ 18446744073709551615) (he : l[k]? = some e) (hj : k = j + 1) (hf : l[j]? = some f) (hmf : MayN f) (hz : x = 0) : Calls Try.prog 85 #[v, .int .i64 3, .int .i64 k, .int .u64 x] w fun y w' => (∃ u, y = .returned u) ∧ OwnE w' B E v (l.set k { e with off := IntKind.u64.wrap (f.off + f.ln) }) ∧ w.grownBy w' v.ownBlock := by
  have hl : k < l.length := (List.getElem?_eq_some_iff.1 he).1
  have hkl : (k : Int) < (l.length : Int) := by omega
  obtain ⟨g, cap, rfl, hB, hg, hle, hcm, hc, fr⟩ : ∃ g cap, v = .slice (some ⟨g, 0, none⟩) l.length cap ∧ B ≤ g ∧ g < w.heap.size ∧ l.length ≤ cap ∧ cap ≤ maxLen ∧ (∀ j, j < l.length * 4 → w.cell? ⟨g, j, none⟩ = (flat4 l)[j]?) ∧ ∀ j, w.frozen? ⟨g, j, none⟩ = false := by
    rcases hv.form with ⟨_, rfl⟩ | h
    · simp at hl
    · exact h
  obtain ⟨a0, a1, a2, a3⟩ := flat4_at l k e he
  have c0 := (hc (k * 4) (by omega)).trans a0
  have c1 := (hc (k * 4 + 1) (by omega)).trans a1
  have c2 := (hc (k * 4 + 2) (by omega)).trans a2
  have c3 := (hc (k * 4 + 3) (by omega)).trans a3
  have HV := Lib.hid hv
  unfold maxLen at hcm
  have hjl' : j < l.length := by omega
  obtain ⟨b0, b1, b2, b3⟩ := flat4_at l j f hf
  have m0 := (hc (j * 4) (by omega)).trans b0
  have m1 := (hc (j * 4 + 1) (by omega)).trans b1
  have m2 := (hc (j * 4 + 2) (by omega)).trans b2
  have m3 := (hc (j * 4 + 3) (by omega)).trans b3
  have hd : decide (0 < (k : Int)) = true := by simp; omega
  have hdn : decide (0 < k) = true := by simp; omega
  have hk1 : (k : Int) - 1 = (j : Int) := by omega
  have hjl : (j : Int) < (l.length : Int) := by omega
  have hk2 : IntKind.i64.wrap (j : Int) = (j : Int) := by rw [IntKind.wrap_i64] <;> omega
  have r3 : IntKind.u64.wrap f.ln = f.ln := by unfold MayN at hmf; rw [wrap_u64]; omega
  have hne : ∀ y z : Nat, y < 4 → z < 4 → j * 4 + y ≠ k * 4 + z := by omega
  subst hz
  clear hc hmf hj hf
  go_enter Try.func85, Try.ntmps85
  go_wp2_with fail
  go_region
  go_wp2_with fail
  have q0 := World.ownsRow.stored HV.out (k * 4 + 1) (.int .u64 (IntKind.u64.wrap (-1)))
  have q1 := World.ownsRow.stored q0.1 (k * 4 + 1) (.int .u64 (IntKind.u64.wrap (f.off + f.ln)))
  rw [flat4_set1 l k e _ he] at q0 q1
  rw [flat4_set1 (l.set k { e with off := IntKind.u64.wrap (-1) }) k { e with off := IntKind.u64.wrap (-1) } _ (by rw [List.getElem?_set, if_pos rfl, if_pos hl])] at q1
  rw [List.set_set] at q1
  go_end0
  exact ⟨⟨_, rfl⟩, OwnE.below (owne_conv q1.1 (by simp) rfl) (Below.drew (Below.refl _ _)), grown_then (grown_both q0.2 q1.2) (Below.drew (Below.refl _ _))⟩
theorem wrap_u32' (x : Int) : IntKind.u32.wrap x = x % 4294967296 := by simp [IntKind.wrap, IntKind.signed, IntKind.bits]
theorem rput_any (v : Value) (B : Nat) (E : TypeId) (l : List En) (c k : Nat) (x : Int) (w : World) (hv : OwnE w B E v l) (hm : MaysN l) (hc : c < 4) (hk : k < l.length) (x0 : 0 ≤ x) (x1 : x ≤ 18446744073709551615) (hz : ¬ (c = 3 ∧ k = 0 ∧ x = 0)) :
    Calls Try.prog 85 #[v, .int .i64 (c : Int), .int .i64 (k : Int), .int .u64 x] w fun y w' => (∃ u, y = .returned u) ∧ OwnE w' B E v (putN l c k x) ∧ w.grownBy w' v.ownBlock := by
  obtain ⟨e, he⟩ : ∃ t, l[k]? = some t := ⟨_, List.getElem?_eq_getElem hk⟩
  have hg := gE_at he
  unfold putN
  rcases (show c = 0 ∨ c = 1 ∨ c = 2 ∨ c = 3 by omega) with rfl | rfl | rfl | rfl
  · rw [put0, hg]
    by_cases h : k = 0
    · rw [if_neg (by omega)]
      exact rp_00 v B E l k e x w hv x0 x1 he h
    · obtain ⟨j, hj⟩ : ∃ j : Nat, k = j + 1 := ⟨k - 1, by omega⟩
      obtain ⟨f, hf⟩ : ∃ t, l[j]? = some t := ⟨_, List.getElem?_eq_getElem (by omega)⟩
      rw [if_pos (by omega), show k - 1 = j from by omega, gE_at hf, ← wrap_u64]
      exact rp_0k v B E l k e j f x w hv x0 x1 he hj hf (hm f (List.mem_of_getElem? hf))
  · rw [put1, hg, ← wrap_u32']
    exact rp_1 v B E l k e x w hv x0 x1 he
  · rw [put2, hg, ← wrap_u32']
    exact rp_2 v B E l k e x w hv x0 x1 he
  · rw [put3, hg]
    by_cases h : x = 0
    · obtain ⟨j, hj⟩ : ∃ j : Nat, k = j + 1 := ⟨k - 1, by omega⟩
      obtain ⟨f, hf⟩ : ∃ t, l[j]? = some t := ⟨_, List.getElem?_eq_getElem (by omega)⟩
      rw [if_pos h, show k - 1 = j from by omega]
      unfold nxE
      rw [gE_at hf, ← wrap_u64]
      exact rp_3z v B E l k e j f x w hv x0 x1 he hj hf (hm f (List.mem_of_getElem? hf)) h
    · rw [if_neg h, show x - 1 = IntKind.u64.wrap (x - 1) from by rw [IntKind.wrap_u64] <;> omega]
      exact rp_3n v B E l k e x w hv x0 x1 he h
end Go.Proofs.Ytbkodaijigcebaa
/- The contract of the document's Decode. -/
namespace Go.Proofs.Ytbkodaijigcebaa
open Go.RowKit
set_option maxRecDepth 20000
set_option linter.unusedVariables false
set_option linter.unusedSimpArgs false
theorem rst_nat (t : ByteArray) (a : Nat) : rst t (a : Int) = t.data.toList.drop a := by unfold rst; rw [Int.toNat_natCast]
theorem rgetL_no (t : ByteArray) (a : Nat) (r : Int) (w : World) (hm : t.size ≤ maxLen) (ha : a ≤ t.size) (hr : errV (t.data.toList.drop a) = r) (h : r ≠ 0) : Calls Try.prog 83 #[.agg #[.string t, .int .i64 (a : Int), .int .i64 0]] w (GetEnd t 0 (a : Int) r w) :=
  rget_3 t a r w hm (by omega) (by omega) (by rw [rst_nat]; exact hr) h
theorem rgetL_yes (t : ByteArray) (a : Nat) (w : World) (hm : t.size ≤ maxLen) (ha : a ≤ t.size) (hr : errV (t.data.toList.drop a) = 0) : Calls Try.prog 83 #[.agg #[.string t, .int .i64 (a : Int), .int .i64 0]] w (GetEnd t (valV (t.data.toList.drop a)) ((a + (lead 10 (t.data.toList.drop a) + 1) : Nat) : Int) 0 w) := by
  have := rget_4 t a w hm (by omega) (by omega) (by rw [rst_nat]; exact hr)
  rw [rst_nat] at this
  unfold cntV at this
  rw [show ((a + (lead 10 (t.data.toList.drop a) + 1) : Nat) : Int) = (a : Int) + ((lead 10 (t.data.toList.drop a) + 1 : Nat) : Int) from by omega]
  exact this
theorem adv_le (t : ByteArray) (a : Nat) (ha : a ≤ t.size) (hr : errV (t.data.toList.drop a) = 0) : a + (lead 10 (t.data.toList.drop a) + 1) ≤ t.size := by
  have h := (errV_ok _ hr).2.1
  rw [List.length_drop] at h
  have : t.data.toList.length = t.size := by simp
  omega
theorem mays_ge {n : Nat} {l : List En} (hl : l.length = n) : MaysN l ↔ ∀ j, j < n → MayN (gE l j) := by
  constructor
  · exact fun h j hj => h _ (gE_mem l j (by omega))
  · intro h e he
    obtain ⟨j, hj, rfl⟩ := List.getElem_of_mem he
    have := h j (by omega)
    unfold gE at this
    rwa [List.getD_eq_getElem?_getD, List.getElem?_eq_getElem hj] at this
/-- A scan in a box. -/
def SpotD (wx : World) (h : Nat) (t : ByteArray) (p q : Int) : Prop :=
  wx.cell? ⟨h, 0, none⟩ = some (.string t) ∧ wx.cell? ⟨h, 1, none⟩ = some (.int .i64 p) ∧ wx.cell? ⟨h, 2, none⟩ = some (.int .i64 q) ∧ ∀ o, wx.frozen? ⟨h, o, none⟩ = false
theorem frozen_later {w w' : World} {h o : Nat} (hb : Below w.heap.size w w') (hl : h < w.heap.size) : w'.frozen? ⟨h, o, none⟩ = w.frozen? ⟨h, o, none⟩ := by simp [World.frozen?, hb.block h hl]
theorem SpotD.later {w w' : World} {h : Nat} {t : ByteArray} {p q : Int} (s : SpotD w h t p q) (hb : Below w.heap.size w w') : SpotD w' h t p q :=
  ⟨ecell_later hb s.1, ecell_later hb s.2.1, ecell_later hb s.2.2.1, fun o => (frozen_later hb (ecell_lt (a := ⟨h, 0, none⟩) s.1)).trans (s.2.2.2 o)⟩
theorem SpotD.grown {w w' : World} {h : Nat} {r : Option Nat} {t : ByteArray} {p q : Int} (s : SpotD w h t p q) (hg : w.grownBy w' r) (hr : r ≠ some h) : SpotD w' h t p q := by
  have hl := ecell_lt (a := ⟨h, 0, none⟩) s.1
  have hb := hg.block h hl (fun e => hr e.symm)
  refine ⟨?_, ?_, ?_, fun o => ?_⟩
  · simpa [World.cell?, hb] using s.1
  · simpa [World.cell?, hb] using s.2.1
  · simpa [World.cell?, hb] using s.2.2.1
  · simpa [World.frozen?, hb] using s.2.2.2 o
theorem SpotD.made (w : World) (t : ByteArray) (p q : Int) (T : TypeId) : SpotD (w.alloc (.cells #[.string t, .int .i64 p, .int .i64 q] T)) w.heap.size t p q := by
  refine ⟨?_, ?_, ?_, fun o => ?_⟩
  · rw [World.cell?_alloc_mark]; rfl
  · rw [World.cell?_alloc_mark]; rfl
  · rw [World.cell?_alloc_mark]; rfl
  · simp only [World.frozen?]
    rw [heap_alloc_new]
    simp
theorem spotd_set {w : World} {h : Nat} {t t' : ByteArray} {p p' q q' : Int} (s : SpotD w h t p q) : SpotD (((w.setCell ⟨h, 0, none⟩ (.string t')).setCell ⟨h, 1, none⟩ (.int .i64 p')).setCell ⟨h, 2, none⟩ (.int .i64 q')) h t' p' q' := by
  obtain ⟨c0, c1, c2, f0⟩ := s
  exact ⟨by simp [go_sem, c0], by simp [go_sem, c1], by simp [go_sem, c2], fun o => by simp [go_sem, f0]⟩
theorem OwnE.setCell {w : World} {B : Nat} {E : TypeId} {v : Value} {l : List En} (h : OwnE w B E v l) (a : Addr) (u : Value) (ha : a.block < B) : OwnE (w.setCell a u) B E v l := by
  obtain ⟨h1, h2⟩ := h
  refine ⟨h1, ?_⟩
  rcases h2 with h2 | ⟨g, cap, cur, hv, hg, hh, r⟩
  · exact .inl h2
  · refine .inr ⟨g, cap, cur, hv, hg, ?_, r⟩
    rw [Below.heap_setCell w a u g (by omega)]; exact hh
/-- What make lays reads as that many zero entries. -/
theorem flat_zeros (n : Nat) : flat4 (zerosE n) = (madeCells (eC zeroE) (n * 4)).toList := by
  apply List.ext_getElem?
  intro i
  have hl : (flat4 (zerosE n)).length = n * 4 := by rw [flat4_len]; simp [zerosE]
  by_cases h : i < n * 4
  · have hj : (zerosE n)[i / 4]? = some zeroE := by unfold zerosE; rw [List.getElem?_replicate, if_pos (by omega)]
    obtain ⟨a0, a1, a2, a3⟩ := flat4_at _ _ _ hj
    have hr : (madeCells (eC zeroE) (n * 4)).toList[i]? = some ((eC zeroE)[i % 4]!) := by
      unfold madeCells
      simp [h, eC]
    rw [hr]
    rcases (show i % 4 = 0 ∨ i % 4 = 1 ∨ i % 4 = 2 ∨ i % 4 = 3 by omega) with e | e | e | e
    · rw [e, show i = i / 4 * 4 from by omega, a0]; rfl
    · rw [e, show i = i / 4 * 4 + 1 from by omega, a1]; rfl
    · rw [e, show i = i / 4 * 4 + 2 from by omega, a2]; rfl
    · rw [e, show i = i / 4 * 4 + 3 from by omega, a3]; rfl
  · rw [List.getElem?_eq_none (by omega), List.getElem?_eq_none (by rw [Array.length_toList, size_madeCells]; omega)]
theorem info_rent : (Try.prog.info? 58).map (fun i => (i.zero, i.size, i.bytes)) = some (some (.agg #[.int .u64 0, .int .u64 0, .int .u32 0, .int .u32 0]), 4, 24) := by kernel_rfl
theorem make_ents (n : Nat) (W : World) (h : n ≤ 4096) : (Instr.makeSlice 22 (.int .u64 (n : Int)) (.int .u64 (n : Int))).run Try.prog W = .ok (.slice (some ⟨W.heap.size, 0, none⟩) n n) (W.alloc (.cells (madeCells (eC zeroE) (n * 4)) 58)) := by
  obtain ⟨i0, hi, hz0, hz1, hz2⟩ := info_parts info_rent
  have := run_make (P := Try.prog) W 22 58 i0 _ Try.underlying22 hi hz0 .u64 .u64 (n : Int) (n : Int) (by omega) (by omega) (by rw [hz2]; omega) (by omega)
  rw [this, hz1]
  simp only [Int.toNat_natCast]
  rfl
theorem own_ents (w : World) (n : Nat) (h : n ≤ 4096) : OwnE (w.alloc (.cells (madeCells (eC zeroE) (n * 4)) 58)) w.heap.size 58 (.slice (some ⟨w.heap.size, 0, none⟩) n n) (zerosE n) := by
  have := World.ownsRow_lit (e := 58) (size := 4) w (madeCells (eC zeroE) (n * 4)) n (Nat.le_refl _) (by unfold maxLen; omega) (size_madeCells _ _)
  exact owne_conv this (by simp [zerosE]) (flat_zeros n).symm
/-- What Decode leaves. -/
def DecEnd (D : List En × Nat × Int) (E : TypeId) (w : World) (x : Ending) (w' : World) : Prop := ∃ v', x = .returned (.tuple #[v', .int .i64 (D.2.1 : Int), .int .i64 D.2.2]) ∧ OwnE w' w.heap.size E v' D.1 ∧ Below w.heap.size w w'
end Go.Proofs.Ytbkodaijigcebaa
/- The contract of the document's Decode: its loop. -/
namespace Go.Proofs.Ytbkodaijigcebaa
open Go.RowKit
set_option maxRecDepth 20000
set_option linter.unusedVariables false
set_option linter.unusedSimpArgs false
def zend (G : List En × Nat × Int) (n : Nat) : List En × Nat × Int := if G.2.2 ≠ 0 then G else if G.2.1 < n then ([], G.2.1, 4) else if rowN G.1 ≠ 0 then ([], n, rowN G.1) else (G.1, n, 0)
set_option maxRecDepth 100000 in
set_option maxHeartbeats 2000000 in
theorem rdec_loop (t : ByteArray) (n a0 : Nat) (w : World) (hs : t.size ≤ 65536) (hn : n ≤ 4096) (he : errV t.data.toList = 0) (hv : valV t.data.toList = n) (ha : lead 10 t.data.toList + 1 = a0) :
    Calls Try.prog 58 #[.string t] w (DecEnd (zend (goD t.data.toList n (4 * n) 0 (zerosE n) a0) t.size) 58 w) := by
  have hmx : t.size ≤ maxLen := by unfold maxLen; omega
  have hg0 := rgetL_yes t 0 w hmx (Nat.zero_le _) (by rw [List.drop_zero]; exact he)
  rw [List.drop_zero, hv, Nat.zero_add, ha] at hg0
  have ha0 : a0 ≤ t.size := by
    have := adv_le t 0 (Nat.zero_le _) (by rw [List.drop_zero]; exact he)
    rw [List.drop_zero] at this
    omega
  have HG0 := Lib.hid hg0
  have HMX := Lib.hid hmx
  obtain ⟨G, hG⟩ : ∃ G, goD t.data.toList n (4 * n) 0 (zerosE n) a0 = G := ⟨_, rfl⟩
  rw [hG]
  have HG := Lib.hid hG
  clear hg0 hmx he hv ha hG
  have hd1 : decide (65536 < (t.size : Int)) = false := by simp; omega
  have hd2 : decide (4096 < (n : Int)) = false := by simp; omega
  have hd3 : decide (4096 < n) = false := by simp; omega
  go_enter Try.func58, Try.ntmps58
  go_wp2_with fail
  refine (HG0.out).mono ?_
  rintro y w1 ⟨rfl, hb⟩
  have S0 := SpotD.made w1 t (a0 : Int) 0 124
  have hB1 := hb.trans (((Below.refl w1.heap.size w1).alloc (Nat.le_refl _) (.cells #[.string t, .int .i64 (a0 : Int), .int .i64 0] 124)).mono hb.size)
  have hs1 := hb.size
  have HB1 := Lib.hid hB1
  have HS0 := Lib.hid S0
  have HO0 := Lib.hid (own_ents (w1.alloc (.cells #[.string t, .int .i64 (a0 : Int), .int .i64 0] 124)) n hn)
  have hmk := fun W => make_ents n W hn
  clear hb hB1 S0
  go_wp2_with fail
  clear hmk
  have hO1 := HO0.out
  rw [World.size_alloc] at hO1
  have HO1 := Lib.hid hO1
  clear hO1 HO0
  go_loopw [8] (fun s wr => ∃ i : Nat, i ≤ 4 * n ∧ s = .int .i64 i ∧ ∃ (l : List En) (a : Nat), Hid (l.length = n ∧ (∀ j, j < n → MayN (gE l j)) ∧ a ≤ t.size ∧ goD t.data.toList n (4 * n - i) i l a = G) ∧ Hid (OwnE wr (w1.heap.size + 1) 58 (.slice (some ⟨w1.heap.size + 1, 0, none⟩) n n) l) ∧ Hid (SpotD wr w1.heap.size t a 0) ∧ Hid (Below w.heap.size w wr)) (fun s _ => 4 * n - (intOf s).toNat)
  case atStart =>
    refine ⟨0, Nat.zero_le _, rfl, zerosE n, a0, Lib.hid ⟨by simp [zerosE], zeros_may n, ha0, by rw [Nat.sub_zero]; exact HG.out⟩, HO1, Lib.hid (HS0.out.later (((Below.refl _ _).alloc (Nat.le_refl _) _))), Lib.hid (HB1.out.trans (((Below.refl _ _).alloc (Nat.le_refl _) _).mono HB1.out.size))⟩
  case round =>
    clear HO1 HS0 HB1 HG0
    obtain ⟨i, hi, rfl, l, a, HL, HO, HS, HB⟩ := hrel
    obtain ⟨c0, c1, c2, f0⟩ := HS.out
    have hf0 := f0 0
    have hf1 := f0 1
    have hf2 := f0 2
    have hw4 : IntKind.i64.wrap (4 * (n : Int)) = 4 * (n : Int) := by rw [IntKind.wrap_i64] <;> omega
    by_cases hlt : i < 4 * n
    · have hn0 : 0 < n := by omega
      have hi4 : (i : Int) < 4 * (n : Int) := by omega
      have hne : ¬ (n : Int) = 0 := by omega
      have hne2 : ¬ n = 0 := by omega
      have hcl : i / n < 4 := (Nat.div_lt_iff_lt_mul hn0).2 (by omega)
      have hkl : i % n < n := Nat.mod_lt _ hn0
      have HST : Hid (G = if errV (t.data.toList.drop a) ≠ 0 then ([], a, errV (t.data.toList.drop a)) else if wrgN l (i / n) (i % n) (valV (t.data.toList.drop a)) ≠ 0 then ([], a, wrgN l (i / n) (i % n) (valV (t.data.toList.drop a))) else goD t.data.toList n (4 * n - (i + 1)) (i + 1) (putN l (i / n) (i % n) (valV (t.data.toList.drop a))) (a + (lead 10 (t.data.toList.drop a) + 1))) :=
        Lib.hid (by rw [← HL.out.2.2.2, show 4 * n - i = (4 * n - (i + 1)) + 1 from by omega]; rfl)
      have HAL := Lib.hid HL.out.2.2.1
      have HMA := Lib.hid ((mays_ge HL.out.1).2 HL.out.2.1)
      have HLE := Lib.hid HL.out.1
      have HPM := Lib.hid (fun x hx => put_may (x := x) HL.out.1 hlt HL.out.2.1 hx)
      have hq' : (i : Int) / (n : Int) = ((i / n : Nat) : Int) := by simp
      have hr' : (i : Int) % (n : Int) = ((i % n : Nat) : Int) := by simp
      obtain ⟨c, hcE⟩ : ∃ c, i / n = c := ⟨_, rfl⟩
      obtain ⟨k, hkE⟩ : ∃ k, i % n = k := ⟨_, rfl⟩
      rw [hcE] at hq' hcl HST HPM
      rw [hkE] at hr' hkl HST HPM
      clear hcE hkE
      have hq2 : (i : Int).tdiv (n : Int) = (c : Int) := by rw [Int.tdiv_eq_ediv_of_nonneg (by omega)]; exact hq'
      have hr2 : (i : Int).tmod (n : Int) = (k : Int) := by rw [Int.tmod_eq_emod_of_nonneg (by omega)]; exact hr'
      have hwc : IntKind.i64.wrap (c : Int) = (c : Int) := by rw [IntKind.wrap_i64] <;> omega
      have hwk : IntKind.i64.wrap (k : Int) = (k : Int) := by rw [IntKind.wrap_i64] <;> omega
      go_upto_region 12 with fail
      go_cut [9, 10] (fun cc kk wx => cc = .int .i64 (c : Int) ∧ kk = .int .i64 (k : Int) ∧ Below wr.heap.size wr wx)
      case first =>
        clear hcl hkl
        go_region
        all_goals (go_wp2_with fail; go_meet; case rel => exact ⟨rfl, rfl, Below.drew (Below.refl _ _)⟩)
      case rest =>
        obtain ⟨rfl, rfl, hX⟩ := hcut
        generalize wc = wx at *
        have HO1 := Lib.hid (HO.out.below hX)
        have HS1 := Lib.hid (HS.out.later hX)
        have HB1 := Lib.hid (HB.out.trans (hX.mono HB.out.size))
        clear c0 c1 c2 hf0 hf1 hf2 f0 hX HO HS HB hq' hr' hq2 hr2 hwc hwk
        obtain ⟨c0, c1, c2, f0⟩ := HS1.out
        by_cases hr : errV (t.data.toList.drop a) = 0
        · have hx := valV_bd _ hr
          obtain ⟨x, hxE⟩ : ∃ x, valV (t.data.toList.drop a) = x := ⟨_, rfl⟩
          obtain ⟨a', ha'⟩ : ∃ a', a + (lead 10 (t.data.toList.drop a) + 1) = a' := ⟨_, rfl⟩
          have hgt := fun W => rgetL_yes t a W HMX.out HAL.out hr
          have hle := adv_le t a HAL.out hr
          rw [hxE, ha'] at hgt
          rw [ha'] at hle
          rw [hxE] at hx
          have HPX := Lib.hid (HPM.out x hx)
          have HGT := Lib.hid hgt
          have HSX : Hid (G = if wrgN l c k x ≠ 0 then ([], a, wrgN l c k x) else goD t.data.toList n (4 * n - (i + 1)) (i + 1) (putN l c k x) a') := Lib.hid (by rw [HST.out, if_neg (fun h => h hr), hxE, ha'])
          have HW := Lib.hid (fun (W : World) (hE : EnsAt W (.slice (some ⟨w1.heap.size + 1, 0, none⟩) n n) l) => rwrong_any _ l c k x W hE HMA.out hcl (by rw [HLE.out]; exact hkl) hx.1 hx.2)
          clear hgt hr hxE ha' HST HPM
          go_wp2_with fail
          refine (HGT.out _).mono ?_
          rintro y w3 ⟨rfl, hb⟩
          have hA := (Below.refl w3.heap.size w3).alloc (Nat.le_refl _) (.cells #[.string t, .int .i64 (a' : Int), .int .i64 0] 124)
          have hB3 := HB1.out.trans (hb.mono HB1.out.size)
          have HB3 := Lib.hid (hB3.trans (hA.mono hB3.size))
          have HS3 := Lib.hid ((HS1.out.later hb).later hA)
          have HU3 := Lib.hid (SpotD.made w3 t (a' : Int) 0 124)
          have HO3 := Lib.hid ((HO1.out.below hb).below hA)
          have hgt3 : w1.heap.size + 1 < w3.heap.size := by
            have h1 : w1.heap.size + 1 < wx.heap.size := (HO1.out.lt (w1.heap.size + 1) rfl).2
            have := hb.size
            omega
          obtain ⟨k0, k1, k2, g0⟩ := HS3.out
          obtain ⟨u0, u1, u2, h0⟩ := HU3.out
          clear hb hB3 hA c0 c1 c2 f0
          go_wp2_with fail
          refine (HW.out _ HO3.out.ensAt).mono ?_
          rintro y w4 ⟨rfl, hb⟩
          have HS4 := Lib.hid (HS3.out.later hb)
          have HU4 := Lib.hid (HU3.out.later hb)
          have HO4 := Lib.hid (HO3.out.below hb)
          have HB4 := Lib.hid (HB3.out.trans (hb.mono HB3.out.size))
          have hs4 := hb.size
          rw [World.size_alloc] at hs4
          clear hb k0 k1 k2 g0 u0 u1 u2 h0
          by_cases hw : wrgN l c k x = 0
          · have hnz : ¬ (c = 3 ∧ k = 0 ∧ x = 0) := by
              rintro ⟨rfl, rfl, rfl⟩
              unfold wrgN at hw
              simp at hw
            have HPT := Lib.hid (rput_any _ _ _ l c k x w4 HO4.out HMA.out hcl (by rw [HLE.out]; exact hkl) hx.1 hx.2 hnz)
            have hst : goD t.data.toList n (4 * n - (i + 1)) (i + 1) (putN l c k x) a' = G := by rw [HSX.out, if_neg (fun h => h hw)]
            have HL1 := Lib.hid (And.intro (show (putN l c k x).length = n by rw [putN_len]; exact HLE.out) (And.intro HPX.out (And.intro hle hst)))
            rw [hw]
            clear hw hnz hst HSX HPX
            go_wp2_with fail
            refine (HPT.out).mono ?_
            rintro y w5 ⟨⟨uu, rfl⟩, ho5, hg5'⟩
            have hg5 : w4.grownBy w5 (some (w1.heap.size + 1)) := hg5'
            clear hg5'
            have HO5 := Lib.hid ho5
            have HS5 := Lib.hid (HS4.out.grown hg5 (fun e => by have := Option.some.inj e; omega))
            have HU5 := Lib.hid (HU4.out.grown hg5 (fun e => by have := Option.some.inj e; omega))
            have HB5 := Lib.hid (HB4.out.grown hg5 HB4.out.size (fun k e => by have := Option.some.inj e; omega))
            clear ho5 hg5
            obtain ⟨k0, k1, k2, g0⟩ := HS5.out
            obtain ⟨u0, u1, u2, h0⟩ := HU5.out
            have hf0 := g0 0
            have hf1 := g0 1
            have hf2 := g0 2
            clear g0 h0
            go_wp2_with fail
            go_roundw
            case rel => exact ⟨i + 1, by omega, by go_num, _, _, HL1, Lib.hid (OwnE.setCell (OwnE.setCell (OwnE.setCell HO5.out _ _ (by show w1.heap.size < w1.heap.size + 1; omega)) _ _ (by show w1.heap.size < w1.heap.size + 1; omega)) _ _ (by show w1.heap.size < w1.heap.size + 1; omega)), Lib.hid (spotd_set HS5.out), Lib.hid (((HB5.out.setCell (p := ⟨w1.heap.size, 0, none⟩) hs1 _).setCell (p := ⟨w1.heap.size, 1, none⟩) hs1 _).setCell (p := ⟨w1.heap.size, 2, none⟩) hs1 _)⟩
            case measure => simp [intOf]; omega
          · obtain ⟨r, hre⟩ : ∃ r, wrgN l c k x = r := ⟨_, rfl⟩
            have hz : G = ([], a, r) := by rw [HSX.out, if_pos hw, hre]
            rw [hre] at hw ⊢
            have hne : (r != 0) = true := by simpa using hw
            have HZ : Hid (zend G t.size = ([], a, r)) := Lib.hid (by unfold zend; rw [hz, if_pos hw])
            clear hz hw hre HSX
            obtain ⟨k0, k1, k2, g0⟩ := HS4.out
            go_wp2_with fail
            go_region
            all_goals
              go_wp2_with fail
              go_ret3
              rw [HZ.out]
              exact ⟨_, rfl, ownE_nil _ _ _, HB4.out.trans ((Below.drew (Below.refl _ _)).mono HB4.out.size)⟩
        · obtain ⟨r, hre⟩ : ∃ r, errV (t.data.toList.drop a) = r := ⟨_, rfl⟩
          have HGT := Lib.hid (fun W => rgetL_no t a r W HMX.out HAL.out hre (by rw [← hre]; exact hr))
          have hz : G = ([], a, r) := by rw [HST.out, if_pos hr, hre]
          have hr0 : r ≠ 0 := by rw [← hre]; exact hr
          have hne : (r != 0) = true := by simpa using hr0
          have HZ : Hid (zend G t.size = ([], a, r)) := Lib.hid (by unfold zend; rw [hz, if_pos hr0])
          clear hz hr hre hr0
          go_wp2_with fail
          refine (HGT.out _).mono ?_
          rintro y w3 ⟨rfl, hb⟩
          have hB3 := HB1.out.trans (hb.mono HB1.out.size)
          have HB3 := Lib.hid (hB3.trans (((Below.refl w3.heap.size w3).alloc (Nat.le_refl _) (.cells #[.string t, .int .i64 (a : Int), .int .i64 r] 124)).mono hB3.size))
          obtain ⟨k0, k1, k2, g0⟩ := (HS1.out.later hb).later ((Below.refl w3.heap.size w3).alloc (Nat.le_refl _) (.cells #[.string t, .int .i64 (a : Int), .int .i64 r] 124))
          obtain ⟨u0, u1, u2, h0⟩ := SpotD.made w3 t (a : Int) r 124
          clear hb hB3 c0 c1 c2 f0
          go_wp2_with fail
          go_region
          all_goals
            go_wp2_with fail
            go_ret3
            rw [HZ.out]
            exact ⟨_, rfl, ownE_nil _ _ _, HB3.out.trans ((Below.drew (Below.refl _ _)).mono HB3.out.size)⟩
    · obtain rfl : i = 4 * n := by omega
      have hG : G = (l, a, 0) := by rw [← HL.out.2.2.2, Nat.sub_self]; rfl
      have HAL := Lib.hid HL.out.2.2.1
      have HMA := Lib.hid ((mays_ge HL.out.1).2 HL.out.2.1)
      have HLE := Lib.hid HL.out.1
      clear HL HG
      by_cases hlt2 : a < t.size
      · have hd : decide ((a : Int) < (t.size : Int)) = true := by simp; omega
        have hd' : decide (a < t.size) = true := by simp; omega
        have HZ : Hid (zend G t.size = ([], a, 4)) := Lib.hid (by unfold zend; rw [hG]; simp only [ne_eq, not_true, if_false]; rw [if_pos hlt2])
        clear hG hlt2
        go_wp2_with fail
        go_region
        all_goals
          go_wp2_with fail
          go_ret3
          rw [HZ.out]
          exact ⟨_, rfl, ownE_nil _ _ _, HB.out.trans ((Below.drew (Below.refl _ _)).mono HB.out.size)⟩
      · have hd : decide ((a : Int) < (t.size : Int)) = false := by simp; omega
        have hd' : decide (a < t.size) = false := by simp; omega
        have HR := Lib.hid (rrowN_any _ l wr HO.out.ensAt HMA.out)
        by_cases hw : rowN l = 0
        · have HZ : Hid (zend G t.size = (l, t.size, 0)) := Lib.hid (by unfold zend; rw [hG]; simp only [ne_eq, not_true, if_false]; rw [if_neg hlt2, hw]; simp)
          rw [hw] at HR
          clear hG hlt2 hw
          go_wp2_with fail
          refine (HR.out).mono ?_
          rintro y w4 ⟨rfl, hb⟩
          have HO4 := Lib.hid (OwnE.mono (HO.out.below hb) (B' := w.heap.size) (by omega))
          have HB4 := Lib.hid (HB.out.trans (hb.mono HB.out.size))
          have HLE2 := HLE.out
          subst HLE2
          clear hb c0 c1 c2 f0 hf0 hf1 hf2
          go_wp2_with fail
          go_ret3
          rw [HZ.out]
          exact ⟨_, rfl, HO4.out, HB4.out⟩
        · obtain ⟨r, hre⟩ : ∃ r, rowN l = r := ⟨_, rfl⟩
          have HZ : Hid (zend G t.size = ([], t.size, r)) := Lib.hid (by unfold zend; rw [hG]; simp only [ne_eq, not_true, if_false]; rw [if_neg hlt2]; simp only [hw, not_false_eq_true, if_true]; rw [hre])
          rw [hre] at HR hw
          have hne : (r != 0) = true := by simpa using hw
          clear hG hlt2 hw hre
          go_wp2_with fail
          refine (HR.out).mono ?_
          rintro y w4 ⟨rfl, hb⟩
          have HB4 := Lib.hid (HB.out.trans (hb.mono HB.out.size))
          clear hb c0 c1 c2 f0 hf0 hf1 hf2
          go_wp2_with fail
          go_ret3
          rw [HZ.out]
          exact ⟨_, rfl, ownE_nil _ _ _, HB4.out⟩
set_option maxRecDepth 100000 in
set_option maxHeartbeats 2000000 in
theorem rdecD_any (t : ByteArray) (w : World) (hm : t.size ≤ maxLen) : Calls Try.prog 58 #[.string t] w (DecEnd (decD t.data.toList) 58 w) := by
  have hl : t.data.toList.length = t.size := by simp
  by_cases h1 : 65536 < t.size
  · have hD : decD t.data.toList = ([], 0, 5) := by unfold decD; rw [if_pos (by rw [hl]; exact h1)]
    rw [hD]
    have hd : decide (65536 < (t.size : Int)) = true := by simp; omega
    go_enter Try.func58, Try.ntmps58
    go_wp2_with fail
    go_ret3
    exact ⟨_, rfl, ownE_nil _ _ _, by go_grown⟩
  have hd : decide (65536 < (t.size : Int)) = false := by simp; omega
  by_cases h2 : errV t.data.toList = 0
  · have hv := valV_bd _ h2
    by_cases h3 : 4096 < valV t.data.toList
    · have hD : decD t.data.toList = ([], 0, 21) := by unfold decD; rw [if_neg (by rw [hl]; exact h1), if_neg (fun h => h h2), if_pos h3]
      rw [hD]
      have hg := rgetL_yes t 0 w hm (Nat.zero_le _) (by rw [List.drop_zero]; exact h2)
      rw [List.drop_zero, Nat.zero_add] at hg
      obtain ⟨x, hx⟩ : ∃ x, valV t.data.toList = x := ⟨_, rfl⟩
      obtain ⟨p, hp⟩ : ∃ p, lead 10 t.data.toList + 1 = p := ⟨_, rfl⟩
      rw [hx] at hg h3
      rw [hp] at hg
      have hd2 : decide (4096 < x) = true := by simpa using h3
      have HG := Lib.hid hg
      clear hg hx hp hD hv h3 h2
      go_enter Try.func58, Try.ntmps58
      go_wp2_with fail
      refine (HG.out).mono ?_
      rintro y w1 ⟨rfl, hb⟩
      have HB := Lib.hid hb
      clear hb
      go_wp2_with fail
      go_ret3
      exact ⟨_, rfl, ownE_nil _ _ _, HB.out.trans (((Below.refl _ _).alloc (Nat.le_refl _) _).mono HB.out.size)⟩
    · have hn : valV t.data.toList = ((valV t.data.toList).toNat : Int) := by omega
      have h := rdec_loop t (valV t.data.toList).toNat _ w (by omega) (by omega) h2 hn rfl
      have hD : decD t.data.toList = zend (goD t.data.toList (valV t.data.toList).toNat (4 * (valV t.data.toList).toNat) 0 (zerosE (valV t.data.toList).toNat) (lead 10 t.data.toList + 1)) t.size := by
        unfold decD zend
        rw [if_neg (by rw [hl]; exact h1), if_neg (fun h => h h2), if_neg h3, hl]
      rw [hD]
      exact h
  · have hg := fun r h3 h4 => rgetL_no t 0 r w hm (Nat.zero_le _) (by rw [List.drop_zero]; exact h3) h4
    obtain ⟨r, hr⟩ : ∃ r, errV t.data.toList = r := ⟨_, rfl⟩
    have hD : decD t.data.toList = ([], 0, r) := by unfold decD; rw [if_neg (by rw [hl]; exact h1), if_pos h2, hr]
    rw [hD]
    have hr0 : r ≠ 0 := by rw [← hr]; exact h2
    have hne : (r != 0) = true := by simpa using hr0
    have HG := Lib.hid (hg r hr hr0)
    clear hg hD hr h2 hr0
    go_enter Try.func58, Try.ntmps58
    go_wp2_with fail
    refine (HG.out).mono ?_
    rintro y w1 ⟨rfl, hb⟩
    have HB := Lib.hid hb
    clear hb
    go_wp2_with fail
    go_region
    all_goals
      go_wp2_with fail
      go_ret3
      exact ⟨_, rfl, ownE_nil _ _ _, Below.drew (HB.out.trans (((Below.refl _ _).alloc (Nat.le_refl _) _).mono HB.out.size))⟩
end Go.Proofs.Ytbkodaijigcebaa
/- The law's Back: a row of the document's entries of one's own. -/
namespace Go.Proofs.Ytbkodaijigcebaa
open Go.RowKit
set_option maxRecDepth 20000
set_option linter.unusedVariables false
set_option linter.unusedSimpArgs false
set_option maxHeartbeats 1000000 in
theorem backN_any (v : Value) (l : List En) (w : World) (hv : EnsAt w v l) (hl : l.length * 24 ≤ 140737488351232) : Calls Try.prog 12 #[v] w (EnsEnd l 58 w) := by
  obtain ⟨a, cap, rfl, h1, h2, hc⟩ := hv
  have HC := Lib.hid hc
  clear hc
  obtain ⟨i0, hi, hz0, hz1, hz2⟩ := info_parts info_rent
  have HI0 := Lib.hid hi
  have HZ0 := Lib.hid hz0
  have HZ1 := Lib.hid hz1
  have HZ2 := Lib.hid hz2
  clear hi hz0 hz1 hz2
  go_enter Try.func12, Try.ntmps12
  go_wp2_with fail
  go_loopw [3, 4] (fun v s wr => ∃ i : Nat, i ≤ l.length ∧ s = .int .i64 i ∧ OwnE wr w.heap.size 58 v (l.take i) ∧ Below w.heap.size w wr) (fun _ s _ => l.length - (intOf s).toNat)
  case atStart => exact ⟨0, Nat.zero_le _, rfl, ownE_nil _ _ _, Below.refl _ _⟩
  case round =>
    obtain ⟨i, hi, rfl, hown, hbw⟩ := hrel
    by_cases hlt : i < l.length
    · obtain ⟨t, ht⟩ : ∃ t, l[i]? = some t := ⟨_, List.getElem?_eq_getElem hlt⟩
      obtain ⟨g, off, rfl, hg, l0, l1, l2, l3⟩ := HC.out i t ht
      replace l0 := ecell_later hbw l0
      replace l1 := ecell_later hbw l1
      replace l2 := ecell_later hbw l2
      replace l3 := ecell_later hbw l3
      have hsz := hbw.size
      have HTK := Lib.hid (take_one l i t ht)
      have HOWN : Hid (wr.ownsRow w.heap.size 58 4 u3 (l.take i).length (flat4 (l.take i))) := Lib.hid hown
      have hlen : (l.take i).length = i := by rw [List.length_take]; omega
      have HLEN := Lib.hid hlen
      have hi2 : (i : Int) < (l.length : Int) := by omega
      clear ht hown hlen
      obtain ⟨p, q, r, s⟩ := t
      dsimp only at l0 l1 l2 l3
      go_wp2_with (first | (at_builtin; refine wpList_append_own _ rfl _ _ 22 rfl w.heap.size 58 i0 (.agg #[.int .u64 0, .int .u64 0, .int .u32 0, .int .u32 0]) 4 24 Try.underlying22 HI0.out HZ0.out HZ1.out HZ2.out rfl (by decide) _ _ _ rfl (World.ownsRow.alloc HOWN.out _) ⟨wr.heap.size, 0, none⟩ 1 1 [.int .u64 p, .int .u64 q, .int .u32 r, .int .u32 s] rfl rfl ?c2 ?c3 ?c4 ?c5 ?c6 ?_) | fail)
      case c2 =>
        intro j u hu
        match j, hu with
        | 0, hu => simp at hu; subst hu; simp [Addr.add, go_sem]
        | 1, hu => simp at hu; subst hu; simp [Addr.add, go_sem]
        | 2, hu => simp at hu; subst hu; simp [Addr.add, go_sem]
        | 3, hu => simp at hu; subst hu; simp [Addr.add, go_sem]
      case c3 => intro u hu; simp at hu; rcases hu with rfl | rfl | rfl | rfl <;> rfl
      case c4 => rw [HLEN.out]; unfold maxLen; omega
      case c5 => rw [HLEN.out]; omega
      case c6 => simp; omega
      intro v' w5 hown' hgr _
      have hb5 : Below w.heap.size w w5 := (hbw.alloc hsz _).grown hgr (by simp; omega) (fun g hg => (World.ownsRow.lt HOWN.out g hg).1)
      have hO' : OwnE w5 w.heap.size 58 v' (l.take (i + 1)) := owne_conv hown' (by rw [HTK.out, List.length_append, HLEN.out]; rfl) (by rw [HTK.out, flat4_append]; rfl)
      have HO' := Lib.hid hO'
      clear hown' hgr HOWN hO' l0 l1 l2 l3 hbw
      go_wp2_with fail
      go_roundw
      case rel => exact ⟨i + 1, by omega, by go_num, HO'.out, hb5⟩
      case measure => simp [intOf]; omega
    · obtain rfl : i = l.length := by omega
      rw [List.take_length] at hown
      go_wp2_with fail
      go_ret
      exact ⟨_, rfl, hown, hbw⟩
end Go.Proofs.Ytbkodaijigcebaa
