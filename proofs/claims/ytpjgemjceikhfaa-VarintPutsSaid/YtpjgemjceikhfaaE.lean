/- Contracts of little's Num and of first at the rows that Num, Bytes, Rest and End hand it, for every scan and every number. -/
import Derived.Test.YtpjgemjceikhfaaD
import Derived.Deep.RegionWith
namespace Go.Proofs.Ytpjgemjceikhfaa
open Go.RowKit
set_option linter.unusedVariables false
theorem asks_held (w : World) (b i : Nat) (t : ByteArray) (p q : Int) (h : w.cell? ⟨b, i, none⟩ = some (.func (.func 29) #[.agg #[.string t, .int .i64 p, .int .i64 q]] #[])) : Asks w b i q :=
  ⟨29, _, h, fun _ => by kernel_rfl, fun W => held_any t p q W⟩
theorem asks_placed (w : World) (b i : Nat) (t : ByteArray) (p q : Int) (h : w.cell? ⟨b, i, none⟩ = some (.func (.func 30) #[.agg #[.string t, .int .i64 p, .int .i64 q]] #[])) : Asks w b i (placedV t p) :=
  ⟨30, _, h, fun _ => by kernel_rfl, fun W => placed_any t p q W⟩
theorem asks_left (w : World) (b i : Nat) (t : ByteArray) (p q n : Int) (h : w.cell? ⟨b, i, none⟩ = some (.func (.func 34) #[.agg #[.string t, .int .i64 p, .int .i64 q, .int .i64 n]] #[])) : Asks w b i (leftV t p n) :=
  ⟨34, _, h, fun _ => by kernel_rfl, fun W => left_any t p q n W⟩
theorem asks_counted (w : World) (b i : Nat) (t : ByteArray) (p q n : Int) (h : w.cell? ⟨b, i, none⟩ = some (.func (.func 33) #[.agg #[.string t, .int .i64 p, .int .i64 q, .int .i64 n]] #[])) : Asks w b i (countedV n) :=
  ⟨33, _, h, fun _ => by kernel_rfl, fun W => counted_any t p q n W⟩
theorem asks_spent (w : World) (b i : Nat) (t : ByteArray) (p q : Int) (h : w.cell? ⟨b, i, none⟩ = some (.func (.func 31) #[.agg #[.string t, .int .i64 p, .int .i64 q]] #[])) : Asks w b i (spentV t p) :=
  ⟨31, _, h, fun _ => by kernel_rfl, fun W => spent_any t p q W⟩
theorem cell_new (W : World) (b : Nat) (cs : Array Value) (T : TypeId) (hb : b = W.heap.size) (i : Nat) (v : Value) (h : cs[i]? = some v) : (W.alloc (.cells cs T)).cell? ⟨b, i, none⟩ = some v := by
  rw [World.cell?_alloc_at _ _ _ _ hb]; exact h
theorem bcell {B : Nat} {W w1 : World} (hb : Below B W w1) : (∀ b o, b < B → w1.cell? ⟨b, o, none⟩ = W.cell? ⟨b, o, none⟩) ∧ (∀ b o, b < B → w1.frozen? ⟨b, o, none⟩ = W.frozen? ⟨b, o, none⟩) :=
  ⟨fun b o h => hb.cell (p := ⟨b, o, none⟩) h, fun b o h => hb.frozen (p := ⟨b, o, none⟩) h⟩
def scanV (t : ByteArray) (p q : Int) : Value := .agg #[.string t, .int .i64 p, .int .i64 q]
def wishV (t : ByteArray) (p q n : Int) : Value := .agg #[.string t, .int .i64 p, .int .i64 q, .int .i64 n]
def numBad (t : ByteArray) (p q n : Int) : Int := firstOf [q, placedV t p, wideV n, leftV t p n]
def bytesBad (t : ByteArray) (p q n : Int) : Int := firstOf [q, placedV t p, countedV n, leftV t p n]
def restBad (t : ByteArray) (p q : Int) : Int := firstOf [q, placedV t p]
def endV (t : ByteArray) (p q : Int) : Int := firstOf [q, placedV t p, spentV t p]
theorem first_bytes (W : World) (b : Nat) (hb : b = W.heap.size) (t : ByteArray) (p q n : Int) :
    Calls Try.prog 28 #[.slice (some ⟨b, 0, none⟩) 4 4] (W.alloc (.cells #[.func (.func 29) #[.agg #[.string t, .int .i64 p, .int .i64 q]] #[], .func (.func 30) #[.agg #[.string t, .int .i64 p, .int .i64 q]] #[], .func (.func 33) #[.agg #[.string t, .int .i64 p, .int .i64 q, .int .i64 n]] #[], .func (.func 34) #[.agg #[.string t, .int .i64 p, .int .i64 q, .int .i64 n]] #[]] 49))
      fun e w' => e = .returned (.int .i64 (bytesBad t p q n)) ∧ Below (b + 1) (W.alloc (.cells #[.func (.func 29) #[.agg #[.string t, .int .i64 p, .int .i64 q]] #[], .func (.func 30) #[.agg #[.string t, .int .i64 p, .int .i64 q]] #[], .func (.func 33) #[.agg #[.string t, .int .i64 p, .int .i64 q, .int .i64 n]] #[], .func (.func 34) #[.agg #[.string t, .int .i64 p, .int .i64 q, .int .i64 n]] #[]] 49)) w' := by
  refine (first_any b 4 [q, placedV t p, countedV n, leftV t p n] _ (by rw [World.size_alloc]; omega) rfl (by omega) ?_).mono ?_
  · intro i hi
    rcases (by omega : i = 0 ∨ i = 1 ∨ i = 2 ∨ i = 3) with rfl | rfl | rfl | rfl
    · exact asks_held _ _ _ t p q (cell_new _ _ _ _ hb _ _ rfl)
    · exact asks_placed _ _ _ t p q (cell_new _ _ _ _ hb _ _ rfl)
    · exact asks_counted _ _ _ t p q n (cell_new _ _ _ _ hb _ _ rfl)
    · exact asks_left _ _ _ t p q n (cell_new _ _ _ _ hb _ _ rfl)
  · rintro e w' ⟨rfl, h⟩
    exact ⟨rfl, h.mono (by rw [World.size_alloc]; omega)⟩
theorem first_rest (W : World) (b : Nat) (hb : b = W.heap.size) (t : ByteArray) (p q : Int) :
    Calls Try.prog 28 #[.slice (some ⟨b, 0, none⟩) 2 2] (W.alloc (.cells #[.func (.func 29) #[.agg #[.string t, .int .i64 p, .int .i64 q]] #[], .func (.func 30) #[.agg #[.string t, .int .i64 p, .int .i64 q]] #[]] 49))
      fun e w' => e = .returned (.int .i64 (restBad t p q)) ∧ Below (b + 1) (W.alloc (.cells #[.func (.func 29) #[.agg #[.string t, .int .i64 p, .int .i64 q]] #[], .func (.func 30) #[.agg #[.string t, .int .i64 p, .int .i64 q]] #[]] 49)) w' := by
  refine (first_any b 2 [q, placedV t p] _ (by rw [World.size_alloc]; omega) rfl (by omega) ?_).mono ?_
  · intro i hi
    rcases (by omega : i = 0 ∨ i = 1) with rfl | rfl
    · exact asks_held _ _ _ t p q (cell_new _ _ _ _ hb _ _ rfl)
    · exact asks_placed _ _ _ t p q (cell_new _ _ _ _ hb _ _ rfl)
  · rintro e w' ⟨rfl, h⟩
    exact ⟨rfl, h.mono (by rw [World.size_alloc]; omega)⟩
theorem first_end (W : World) (b : Nat) (hb : b = W.heap.size) (t : ByteArray) (p q : Int) :
    Calls Try.prog 28 #[.slice (some ⟨b, 0, none⟩) 3 3] (W.alloc (.cells #[.func (.func 29) #[.agg #[.string t, .int .i64 p, .int .i64 q]] #[], .func (.func 30) #[.agg #[.string t, .int .i64 p, .int .i64 q]] #[], .func (.func 31) #[.agg #[.string t, .int .i64 p, .int .i64 q]] #[]] 49))
      fun e w' => e = .returned (.int .i64 (endV t p q)) ∧ Below (b + 1) (W.alloc (.cells #[.func (.func 29) #[.agg #[.string t, .int .i64 p, .int .i64 q]] #[], .func (.func 30) #[.agg #[.string t, .int .i64 p, .int .i64 q]] #[], .func (.func 31) #[.agg #[.string t, .int .i64 p, .int .i64 q]] #[]] 49)) w' := by
  refine (first_any b 3 [q, placedV t p, spentV t p] _ (by rw [World.size_alloc]; omega) rfl (by omega) ?_).mono ?_
  · intro i hi
    rcases (by omega : i = 0 ∨ i = 1 ∨ i = 2) with rfl | rfl | rfl
    · exact asks_held _ _ _ t p q (cell_new _ _ _ _ hb _ _ rfl)
    · exact asks_placed _ _ _ t p q (cell_new _ _ _ _ hb _ _ rfl)
    · exact asks_spent _ _ _ t p q (cell_new _ _ _ _ hb _ _ rfl)
  · rintro e w' ⟨rfl, h⟩
    exact ⟨rfl, h.mono (by rw [World.size_alloc]; omega)⟩
end Go.Proofs.Ytpjgemjceikhfaa
