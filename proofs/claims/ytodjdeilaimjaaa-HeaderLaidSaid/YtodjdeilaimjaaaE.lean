/- Contracts of little's Num and of first at the rows that Num, Bytes, Rest and End hand it, for every scan and every number. -/
import Derived.Test.YtodjdeilaimjaaaD
import Derived.Deep.RegionWith
namespace Go.Proofs.Ytodjdeilaimjaaa
open Go.RowKit
set_option linter.unusedVariables false
theorem asks_held (w : World) (b i : Nat) (t : ByteArray) (p q : Int) (h : w.cell? ⟨b, i, none⟩ = some (.func (.func 43) #[.agg #[.string t, .int .i64 p, .int .i64 q]] #[])) : Asks w b i q :=
  ⟨43, _, h, fun _ => by kernel_rfl, fun W => held_any t p q W⟩
theorem asks_placed (w : World) (b i : Nat) (t : ByteArray) (p q : Int) (h : w.cell? ⟨b, i, none⟩ = some (.func (.func 44) #[.agg #[.string t, .int .i64 p, .int .i64 q]] #[])) : Asks w b i (placedV t p) :=
  ⟨44, _, h, fun _ => by kernel_rfl, fun W => placed_any t p q W⟩
theorem asks_wide (w : World) (b i : Nat) (t : ByteArray) (p q n : Int) (h : w.cell? ⟨b, i, none⟩ = some (.func (.func 48) #[.agg #[.string t, .int .i64 p, .int .i64 q, .int .i64 n]] #[])) : Asks w b i (wideV n) :=
  ⟨48, _, h, fun _ => by kernel_rfl, fun W => wide_any t p q n W⟩
theorem asks_left (w : World) (b i : Nat) (t : ByteArray) (p q n : Int) (h : w.cell? ⟨b, i, none⟩ = some (.func (.func 46) #[.agg #[.string t, .int .i64 p, .int .i64 q, .int .i64 n]] #[])) : Asks w b i (leftV t p n) :=
  ⟨46, _, h, fun _ => by kernel_rfl, fun W => left_any t p q n W⟩
theorem asks_counted (w : World) (b i : Nat) (t : ByteArray) (p q n : Int) (h : w.cell? ⟨b, i, none⟩ = some (.func (.func 45) #[.agg #[.string t, .int .i64 p, .int .i64 q, .int .i64 n]] #[])) : Asks w b i (countedV n) :=
  ⟨45, _, h, fun _ => by kernel_rfl, fun W => counted_any t p q n W⟩
theorem cell_new (W : World) (b : Nat) (cs : Array Value) (T : TypeId) (hb : b = W.heap.size) (i : Nat) (v : Value) (h : cs[i]? = some v) : (W.alloc (.cells cs T)).cell? ⟨b, i, none⟩ = some v := by
  rw [World.cell?_alloc_at _ _ _ _ hb]; exact h
theorem bcell {B : Nat} {W w1 : World} (hb : Below B W w1) : (∀ b o, b < B → w1.cell? ⟨b, o, none⟩ = W.cell? ⟨b, o, none⟩) ∧ (∀ b o, b < B → w1.frozen? ⟨b, o, none⟩ = W.frozen? ⟨b, o, none⟩) :=
  ⟨fun b o h => hb.cell (p := ⟨b, o, none⟩) h, fun b o h => hb.frozen (p := ⟨b, o, none⟩) h⟩
def scanV (t : ByteArray) (p q : Int) : Value := .agg #[.string t, .int .i64 p, .int .i64 q]
def wishV (t : ByteArray) (p q n : Int) : Value := .agg #[.string t, .int .i64 p, .int .i64 q, .int .i64 n]
def numBad (t : ByteArray) (p q n : Int) : Int := firstOf [q, placedV t p, wideV n, leftV t p n]
def bytesBad (t : ByteArray) (p q n : Int) : Int := firstOf [q, placedV t p, countedV n, leftV t p n]
def restBad (t : ByteArray) (p q : Int) : Int := firstOf [q, placedV t p]
def endV (t : ByteArray) (p q : Int) : Int := firstOf [q, placedV t p, spentV t p]
theorem first_num (W : World) (b : Nat) (hb : b = W.heap.size) (t : ByteArray) (p q n : Int) :
    Calls Try.prog 42 #[.slice (some ⟨b, 0, none⟩) 4 4] (W.alloc (.cells #[.func (.func 43) #[.agg #[.string t, .int .i64 p, .int .i64 q]] #[], .func (.func 44) #[.agg #[.string t, .int .i64 p, .int .i64 q]] #[], .func (.func 48) #[.agg #[.string t, .int .i64 p, .int .i64 q, .int .i64 n]] #[], .func (.func 46) #[.agg #[.string t, .int .i64 p, .int .i64 q, .int .i64 n]] #[]] 85))
      fun e w' => e = .returned (.int .i64 (numBad t p q n)) ∧ Below (b + 1) (W.alloc (.cells #[.func (.func 43) #[.agg #[.string t, .int .i64 p, .int .i64 q]] #[], .func (.func 44) #[.agg #[.string t, .int .i64 p, .int .i64 q]] #[], .func (.func 48) #[.agg #[.string t, .int .i64 p, .int .i64 q, .int .i64 n]] #[], .func (.func 46) #[.agg #[.string t, .int .i64 p, .int .i64 q, .int .i64 n]] #[]] 85)) w' := by
  refine (first_any b 4 [q, placedV t p, wideV n, leftV t p n] _ (by rw [World.size_alloc]; omega) rfl (by omega) ?_).mono ?_
  · intro i hi
    rcases (by omega : i = 0 ∨ i = 1 ∨ i = 2 ∨ i = 3) with rfl | rfl | rfl | rfl
    · exact asks_held _ _ _ t p q (cell_new _ _ _ _ hb _ _ rfl)
    · exact asks_placed _ _ _ t p q (cell_new _ _ _ _ hb _ _ rfl)
    · exact asks_wide _ _ _ t p q n (cell_new _ _ _ _ hb _ _ rfl)
    · exact asks_left _ _ _ t p q n (cell_new _ _ _ _ hb _ _ rfl)
  · rintro e w' ⟨rfl, h⟩
    exact ⟨rfl, h.mono (by rw [World.size_alloc]; omega)⟩
theorem first_bytes (W : World) (b : Nat) (hb : b = W.heap.size) (t : ByteArray) (p q n : Int) :
    Calls Try.prog 42 #[.slice (some ⟨b, 0, none⟩) 4 4] (W.alloc (.cells #[.func (.func 43) #[.agg #[.string t, .int .i64 p, .int .i64 q]] #[], .func (.func 44) #[.agg #[.string t, .int .i64 p, .int .i64 q]] #[], .func (.func 45) #[.agg #[.string t, .int .i64 p, .int .i64 q, .int .i64 n]] #[], .func (.func 46) #[.agg #[.string t, .int .i64 p, .int .i64 q, .int .i64 n]] #[]] 85))
      fun e w' => e = .returned (.int .i64 (bytesBad t p q n)) ∧ Below (b + 1) (W.alloc (.cells #[.func (.func 43) #[.agg #[.string t, .int .i64 p, .int .i64 q]] #[], .func (.func 44) #[.agg #[.string t, .int .i64 p, .int .i64 q]] #[], .func (.func 45) #[.agg #[.string t, .int .i64 p, .int .i64 q, .int .i64 n]] #[], .func (.func 46) #[.agg #[.string t, .int .i64 p, .int .i64 q, .int .i64 n]] #[]] 85)) w' := by
  refine (first_any b 4 [q, placedV t p, countedV n, leftV t p n] _ (by rw [World.size_alloc]; omega) rfl (by omega) ?_).mono ?_
  · intro i hi
    rcases (by omega : i = 0 ∨ i = 1 ∨ i = 2 ∨ i = 3) with rfl | rfl | rfl | rfl
    · exact asks_held _ _ _ t p q (cell_new _ _ _ _ hb _ _ rfl)
    · exact asks_placed _ _ _ t p q (cell_new _ _ _ _ hb _ _ rfl)
    · exact asks_counted _ _ _ t p q n (cell_new _ _ _ _ hb _ _ rfl)
    · exact asks_left _ _ _ t p q n (cell_new _ _ _ _ hb _ _ rfl)
  · rintro e w' ⟨rfl, h⟩
    exact ⟨rfl, h.mono (by rw [World.size_alloc]; omega)⟩
theorem first_rest (W : World) (b : Nat) (hb : b = W.heap.size) (t : ByteArray) (p q : Int) :
    Calls Try.prog 42 #[.slice (some ⟨b, 0, none⟩) 2 2] (W.alloc (.cells #[.func (.func 43) #[.agg #[.string t, .int .i64 p, .int .i64 q]] #[], .func (.func 44) #[.agg #[.string t, .int .i64 p, .int .i64 q]] #[]] 85))
      fun e w' => e = .returned (.int .i64 (restBad t p q)) ∧ Below (b + 1) (W.alloc (.cells #[.func (.func 43) #[.agg #[.string t, .int .i64 p, .int .i64 q]] #[], .func (.func 44) #[.agg #[.string t, .int .i64 p, .int .i64 q]] #[]] 85)) w' := by
  refine (first_any b 2 [q, placedV t p] _ (by rw [World.size_alloc]; omega) rfl (by omega) ?_).mono ?_
  · intro i hi
    rcases (by omega : i = 0 ∨ i = 1) with rfl | rfl
    · exact asks_held _ _ _ t p q (cell_new _ _ _ _ hb _ _ rfl)
    · exact asks_placed _ _ _ t p q (cell_new _ _ _ _ hb _ _ rfl)
  · rintro e w' ⟨rfl, h⟩
    exact ⟨rfl, h.mono (by rw [World.size_alloc]; omega)⟩
theorem num_no (t : ByteArray) (p q n : Int) (w : World) (h : numBad t p q n ≠ 0) : Calls Try.prog 33 #[.agg #[.string t, .int .i64 p, .int .i64 q], .int .i64 n] w
    fun e w' => e = .returned (.tuple #[.int .u64 0, .agg #[.string t, .int .i64 p, .int .i64 (numBad t p q n)]]) ∧ Below w.heap.size w w' := by
  have hne : (numBad t p q n != 0) = true := by simp only [bne_iff_ne, ne_eq]; exact h
  clear h
  go_enter Try.func33, Try.ntmps33
  go_wp2_with fail
  refine (first_num _ _ (by simp) t p q n).mono ?_
  rintro e w1 ⟨rfl, hb⟩
  have hz : w.heap.size + 4 ≤ w1.heap.size := by have := hb.size; simp at this; omega
  have hbw : Below w.heap.size w w1 := Below.trans (by go_grown) (hb.mono (by omega))
  have c0 : w1.cell? ⟨w.heap.size, 0, none⟩ = some (.string t) := ((bcell hb).1 _ _ (by omega)).trans (by simp [go_sem])
  have c1 : w1.cell? ⟨w.heap.size, 1, none⟩ = some (.int .i64 p) := ((bcell hb).1 _ _ (by omega)).trans (by simp [go_sem])
  have c2 : w1.cell? ⟨w.heap.size, 2, none⟩ = some (.int .i64 q) := ((bcell hb).1 _ _ (by omega)).trans (by simp [go_sem])
  have c3 : w1.cell? ⟨w.heap.size + 1, 0, none⟩ = some (.string { data := #[] }) := ((bcell hb).1 _ _ (by omega)).trans (by simp [go_sem])
  have c4 : w1.cell? ⟨w.heap.size + 1, 1, none⟩ = some (.int .i64 0) := ((bcell hb).1 _ _ (by omega)).trans (by simp [go_sem])
  have c5 : w1.cell? ⟨w.heap.size + 1, 2, none⟩ = some (.int .i64 0) := ((bcell hb).1 _ _ (by omega)).trans (by simp [go_sem])
  have f0 : ∀ o, w1.frozen? ⟨w.heap.size, o, none⟩ = false := fun o => ((bcell hb).2 _ _ (by omega)).trans (by simp [go_sem])
  have f1 : ∀ o, w1.frozen? ⟨w.heap.size + 1, o, none⟩ = false := fun o => ((bcell hb).2 _ _ (by omega)).trans (by simp [go_sem])
  clear hb
  obtain ⟨r, hr⟩ : ∃ r, numBad t p q n = r := ⟨_, rfl⟩
  have HR := Lib.hid hr
  rw [hr] at hne ⊢
  clear hr
  go_wp2_with fail
  go_region
  go_wp2
  refine bodyPost_ret (v := .tuple #[.int .u64 0, .agg #[.string t, .int .i64 p, .int .i64 r]]) (by simp [results, Try.results33, go_sem, c3, c4, c5]) rfl ⟨by rw [HR.out], ?_⟩
  go_grown
set_option maxHeartbeats 1000000 in
theorem num_yes (t : ByteArray) (p n : Int) (w : World) (hm : t.size ≤ maxLen) (h : numBad t p 0 n = 0) (p0 : 0 ≤ p) (n0 : 1 ≤ n) (n1 : n ≤ 8) (hp : p + n ≤ t.size) : Calls Try.prog 33 #[.agg #[.string t, .int .i64 p, .int .i64 0], .int .i64 n] w
    fun e w' => e = .returned (.tuple #[.int .u64 (numB (t.extract p.toNat (p + n).toNat).data.toList), .agg #[.string t, .int .i64 (p + n), .int .i64 0]]) ∧ Below w.heap.size w w' := by
  have H := Lib.hid h; clear h
  have HM := Lib.hid hm; clear hm
  go_enter Try.func33, Try.ntmps33
  go_wp2_with fail
  refine (first_num _ _ (by simp) t p 0 n).mono ?_
  rintro e w1 ⟨rfl, hb⟩
  have hz : w.heap.size + 4 ≤ w1.heap.size := by have := hb.size; simp at this; omega
  have hbw : Below w.heap.size w w1 := Below.trans (by go_grown) (hb.mono (by omega))
  have c0 : w1.cell? ⟨w.heap.size, 0, none⟩ = some (.string t) := ((bcell hb).1 _ _ (by omega)).trans (by simp [go_sem])
  have c1 : w1.cell? ⟨w.heap.size, 1, none⟩ = some (.int .i64 p) := ((bcell hb).1 _ _ (by omega)).trans (by simp [go_sem])
  have c2 : w1.cell? ⟨w.heap.size, 2, none⟩ = some (.int .i64 0) := ((bcell hb).1 _ _ (by omega)).trans (by simp [go_sem])
  have c3 : w1.cell? ⟨w.heap.size + 1, 0, none⟩ = some (.string { data := #[] }) := ((bcell hb).1 _ _ (by omega)).trans (by simp [go_sem])
  have c4 : w1.cell? ⟨w.heap.size + 1, 1, none⟩ = some (.int .i64 0) := ((bcell hb).1 _ _ (by omega)).trans (by simp [go_sem])
  have c5 : w1.cell? ⟨w.heap.size + 1, 2, none⟩ = some (.int .i64 0) := ((bcell hb).1 _ _ (by omega)).trans (by simp [go_sem])
  have f0 : ∀ o, w1.frozen? ⟨w.heap.size, o, none⟩ = false := fun o => ((bcell hb).2 _ _ (by omega)).trans (by simp [go_sem])
  have f1 : ∀ o, w1.frozen? ⟨w.heap.size + 1, o, none⟩ = false := fun o => ((bcell hb).2 _ _ (by omega)).trans (by simp [go_sem])
  clear hb
  rw [H.out]
  go_wp2_with fail
  refine (step_any t p 0 n _ (by omega) (by omega) (by omega) HM.out).mono ?_
  rintro e w2 ⟨rfl, hb⟩
  have hz2 : w1.heap.size ≤ w2.heap.size := by have := hb.size; rw [World.size_setCell] at this; exact this
  have hbw2 : Below w.heap.size w w2 := Below.trans (by go_grown) (hb.mono (by rw [World.size_setCell]; omega))
  have d0 : w2.cell? ⟨w.heap.size, 0, none⟩ = some (.string t) := ((bcell hb).1 _ _ (by rw [World.size_setCell]; omega)).trans (by simp [go_sem, c0])
  have d1 : w2.cell? ⟨w.heap.size, 1, none⟩ = some (.int .i64 p) := ((bcell hb).1 _ _ (by rw [World.size_setCell]; omega)).trans (by simp [go_sem, c1])
  have d2 : w2.cell? ⟨w.heap.size, 2, none⟩ = some (.int .i64 0) := ((bcell hb).1 _ _ (by rw [World.size_setCell]; omega)).trans (by simp [go_sem, c2])
  have d3 : w2.cell? ⟨w.heap.size + 1, 0, none⟩ = some (.string { data := #[] }) := ((bcell hb).1 _ _ (by rw [World.size_setCell]; omega)).trans (by simp [go_sem, c3])
  have d4 : w2.cell? ⟨w.heap.size + 1, 1, none⟩ = some (.int .i64 0) := ((bcell hb).1 _ _ (by rw [World.size_setCell]; omega)).trans (by simp [go_sem, c4])
  have d5 : w2.cell? ⟨w.heap.size + 1, 2, none⟩ = some (.int .i64 0) := ((bcell hb).1 _ _ (by rw [World.size_setCell]; omega)).trans (by simp [go_sem, c5])
  have g0 : ∀ o, w2.frozen? ⟨w.heap.size, o, none⟩ = false := fun o => ((bcell hb).2 _ _ (by rw [World.size_setCell]; omega)).trans (by simp [go_sem, f0])
  have g1 : ∀ o, w2.frozen? ⟨w.heap.size + 1, o, none⟩ = false := fun o => ((bcell hb).2 _ _ (by rw [World.size_setCell]; omega)).trans (by simp [go_sem, f1])
  clear hb c0 c1 c2 c3 c4 c5 f0 f1 hbw
  have hx : (t.extract p.toNat (p + n).toNat).size ≤ 8 := by simp; omega
  obtain ⟨x, he⟩ : ∃ x, t.extract p.toNat (p + n).toNat = x := ⟨_, rfl⟩
  rw [he] at hx ⊢
  have HE := Lib.hid he; clear he
  go_wp2_with fail
  go_region_with (go_at_call 49; refine (number_any x _ hx).mono ?_; rintro e w' ⟨rfl, rfl⟩)
  all_goals
    go_wp2
    refine bodyPost_ret (v := .tuple #[.int .u64 (numB x.data.toList), .agg #[.string t, .int .i64 (p + n), .int .i64 0]]) (by simp [results, Try.results33, go_sem, d3, d4, d5]) rfl ⟨by rw [HE.out], ?_⟩
    go_grown
end Go.Proofs.Ytodjdeilaimjaaa
