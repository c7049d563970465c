/- A pool of the law's own, and the law's frame: what stays, whatever comes. -/
import Derived.Test.YtegboojhebhlnaaKp
namespace Go.Proofs.Ytegboojhebhlnaa
open Go.RowKit
set_option linter.unusedVariables false
/-- A pool of one's own: all its blocks lie behind B, and what lies below B is as it was. -/
structure Awk (B : Nat) (w W : World) (v : Value) (l : List ByteArray) (S : Nat → Prop) : Prop where
  pool : PoolS W v l S
  base : ∀ b, S b → B ≤ b
  bel : Below B w W
  room : B ≤ W.heap.size
theorem PoolS.below {W W' : World} {v : Value} {l : List ByteArray} {S : Nat → Prop} (h : PoolS W v l S) (hb : Below W.heap.size W W') : PoolS W' v l S := h.keep hb.size (fun b hs => hb.block b (h.lt b hs))
theorem PoolS.alloc {W : World} {v : Value} {l : List ByteArray} {S : Nat → Prop} (h : PoolS W v l S) (o : Obj) : PoolS (W.alloc o) v l S := h.below (Below.alloc (Below.refl _ _) (Nat.le_refl _) _)
theorem Awk.later {B : Nat} {w W W' : World} {v : Value} {l : List ByteArray} {S : Nat → Prop} (h : Awk B w W v l S) (hb : Below W.heap.size W W') : Awk B w W' v l S :=
  ⟨h.pool.below hb, h.base, h.bel.trans (hb.mono h.room), Nat.le_trans h.room hb.size⟩
theorem Awk.alloc {B : Nat} {w W : World} {v : Value} {l : List ByteArray} {S : Nat → Prop} (h : Awk B w W v l S) (o : Obj) : Awk B w (W.alloc o) v l S := h.later (Below.alloc (Below.refl _ _) (Nat.le_refl _) _)
theorem Awk.step {B : Nat} {w W W' : World} {v : Value} {l l' : List ByteArray} {S S' : Nat → Prop} (h : Awk B w W v l S) (hp : PoolS W' v l' S') (hk : Kept S S' W W') : Awk B w W' v l' S' :=
  ⟨hp, hk.base h.base h.room, Below.kept h.bel hk h.base h.room, Nat.le_trans h.room hk.size⟩
theorem Awk.new {B : Nat} {w W W' : World} {v : Value} {l : List ByteArray} {S : Nat → Prop} (hw : Below B w W) (hB : B ≤ W.heap.size) (hp : PoolS W' v l S) (hs : ∀ b, S b → W.heap.size ≤ b) (hb : Below W.heap.size W W') : Awk B w W' v l S :=
  ⟨hp, fun b hx => Nat.le_trans hB (hs b hx), hw.trans (hb.mono hB), Nat.le_trans hB hb.size⟩
def AddEnd (B : Nat) (w W : World) (v : Value) (l : List ByteArray) (S : Nat → Prop) (x y : Int) (b : Bool) (n : Int) (l' : List ByteArray) (e : Ending) (w' : World) : Prop :=
  e = .returned (.tuple #[.agg #[.int .u64 x, .int .u32 y], .bool b, .int .i64 n]) ∧ ∃ S', Awk B w w' v l' S' ∧ Kept S S' W w'
theorem Awk.add {B : Nat} {w W : World} {v : Value} {l : List ByteArray} {S : Nat → Prop} (h : Awk B w W v l S) (s : ByteArray) (hs : s.size ≤ maxLen) :
    Calls Try.prog 11 #[v, .string s] W (AddEnd B w W v l S (offA l s : Nat) (lenA l s : Nat) (isNew l s) (eV l s : Nat) (newL l s)) := by
  refine (add_any v l S s W h.pool hs).mono ?_
  rintro e w' ⟨rfl, S', hp, hk⟩
  exact ⟨rfl, S', h.step hp hk, hk⟩
theorem Awk.grown {B : Nat} {w W W' : World} {v : Value} {l : List ByteArray} {S : Nat → Prop} {row : Option Nat} (h : Awk B w W v l S) (hg : W.grownBy W' row) (hr : ∀ k, row = some k → ¬ S k ∧ B ≤ k) : Awk B w W' v l S :=
  ⟨h.pool.keep hg.size (fun b hs => hg.block b (h.pool.lt b hs) (fun e => (hr b e.symm).1 hs)), h.base, Below.grown h.bel hg h.room (fun k hk => (hr k hk).2), Nat.le_trans h.room hg.size⟩
def Disj (S T : Nat → Prop) : Prop := ∀ b, S b → ¬ T b
theorem Disj.symm {S T : Nat → Prop} (h : Disj S T) : Disj T S := fun b ht hs => h b hs ht
theorem Awk.other {B : Nat} {w W W' : World} {v : Value} {l : List ByteArray} {S S' T : Nat → Prop} (h : Awk B w W v l T) (hk : Kept S S' W W') (hd : Disj S T) (hS : ∀ b, S b → B ≤ b) : Awk B w W' v l T :=
  ⟨h.pool.keep hk.size (fun b hb => hk.same b (h.pool.lt b hb) (fun hs => hd b hs hb)), h.base, Below.kept h.bel hk hS h.room, Nat.le_trans h.room hk.size⟩
theorem Awk.apart {B : Nat} {w W W' : World} {v : Value} {l : List ByteArray} {S S' T : Nat → Prop} (h : Awk B w W v l T) (hk : Kept S S' W W') (hd : Disj S T) : Disj S' T := hk.apart h.pool.lt hd
theorem disj_new {S T : Nat → Prop} {W : World} {v : Value} {l : List ByteArray} (h : PoolS W v l T) (hS : ∀ b, S b → W.heap.size ≤ b) : Disj S T := fun b hs ht => by
  have h1 := hS b hs
  have h2 := h.lt b ht
  omega
def tAB : ByteArray := { data := #[97, 98] }
def tC : ByteArray := { data := #[99] }
def tO : ByteArray := { data := #[] }
theorem aw1 {B : Nat} {w W : World} {v : Value} {S : Nat → Prop} (h : Awk B w W v [] S) : Calls Try.prog 11 #[v, .string { data := #[97, 98] }] W (AddEnd B w W v [] S 0 2 true 0 [tAB]) := by
  have h1 := h.add tAB (by decide +kernel)
  rw [show ((offA [] tAB : Nat) : Int) = 0 from by decide +kernel, show ((lenA [] tAB : Nat) : Int) = 2 from by decide +kernel, show isNew [] tAB = true from by decide +kernel, show ((eV [] tAB : Nat) : Int) = 0 from by decide +kernel, show newL [] tAB = [tAB] from by decide +kernel] at h1
  exact h1
theorem aw2 {B : Nat} {w W : World} {v : Value} {S : Nat → Prop} (h : Awk B w W v [tAB] S) : Calls Try.prog 11 #[v, .string { data := #[99] }] W (AddEnd B w W v [tAB] S 2 1 true 0 [tAB, tC]) := by
  have h1 := h.add tC (by decide +kernel)
  rw [show ((offA [tAB] tC : Nat) : Int) = 2 from by decide +kernel, show ((lenA [tAB] tC : Nat) : Int) = 1 from by decide +kernel, show isNew [tAB] tC = true from by decide +kernel, show ((eV [tAB] tC : Nat) : Int) = 0 from by decide +kernel, show newL [tAB] tC = [tAB, tC] from by decide +kernel] at h1
  exact h1
theorem aw3 {B : Nat} {w W : World} {v : Value} {S : Nat → Prop} (h : Awk B w W v [tAB, tC] S) : Calls Try.prog 11 #[v, .string { data := #[97, 98] }] W (AddEnd B w W v [tAB, tC] S 0 2 false 0 [tAB, tC]) := by
  have h1 := h.add tAB (by decide +kernel)
  rw [show ((offA [tAB, tC] tAB : Nat) : Int) = 0 from by decide +kernel, show ((lenA [tAB, tC] tAB : Nat) : Int) = 2 from by decide +kernel, show isNew [tAB, tC] tAB = false from by decide +kernel, show ((eV [tAB, tC] tAB : Nat) : Int) = 0 from by decide +kernel, show newL [tAB, tC] tAB = [tAB, tC] from by decide +kernel] at h1
  exact h1
theorem aw4 {B : Nat} {w W : World} {v : Value} {S : Nat → Prop} (h : Awk B w W v [tAB, tC] S) : Calls Try.prog 11 #[v, .string { data := #[] }] W (AddEnd B w W v [tAB, tC] S 0 0 false 2 [tAB, tC]) := by
  have h1 := h.add tO (by decide +kernel)
  rw [show ((offA [tAB, tC] tO : Nat) : Int) = 0 from by decide +kernel, show ((lenA [tAB, tC] tO : Nat) : Int) = 0 from by decide +kernel, show isNew [tAB, tC] tO = false from by decide +kernel, show ((eV [tAB, tC] tO : Nat) : Int) = 2 from by decide +kernel, show newL [tAB, tC] tO = [tAB, tC] from by decide +kernel] at h1
  exact h1
theorem aw5 {B : Nat} {w W : World} {v : Value} {S : Nat → Prop} (h : Awk B w W v [tAB, tC] S) : Calls Try.prog 13 #[v, .string { data := #[99] }] W fun e w' => e = .returned (.tuple #[.agg #[.int .u64 2, .int .u32 1], .bool true]) ∧ Below W.heap.size W w' := by
  have h1 := find_any v _ S tC W h.pool (by decide +kernel)
  rw [show ((offV (findF tC [tAB, tC] 0) : Nat) : Int) = 2 from by decide +kernel, show ((lenV (findF tC [tAB, tC] 0) tC : Nat) : Int) = 1 from by decide +kernel, show (findF tC [tAB, tC] 0).isSome = true from by decide +kernel] at h1
  exact h1
theorem aw6 {B : Nat} {w W : World} {v : Value} {S : Nat → Prop} (h : Awk B w W v [tAB, tC] S) : Calls Try.prog 16 #[v, .agg #[.int .u64 2, .int .u32 1]] W fun e w' => e = .returned (.tuple #[.string { data := #[99] }, .bool true]) ∧ Below W.heap.size W w' := by
  have h1 := get_any v _ S 2 1 W h.pool (by omega) (by omega) (by omega) (by omega)
  rw [show getS (getG 2 1 [tAB, tC] 0) = tC from by decide +kernel, show (getG 2 1 [tAB, tC] 0).isSome = true from by decide +kernel] at h1
  exact h1
theorem aw7 {B : Nat} {w W : World} {v : Value} {S : Nat → Prop} (h : Awk B w W v [tAB, tC] S) : Calls Try.prog 16 #[v, .agg #[.int .u64 1, .int .u32 1]] W fun e w' => e = .returned (.tuple #[.string { data := #[] }, .bool false]) ∧ Below W.heap.size W w' := by
  have h1 := get_any v _ S 1 1 W h.pool (by omega) (by omega) (by omega) (by omega)
  rw [show getS (getG 1 1 [tAB, tC] 0) = tO from by decide +kernel, show (getG 1 1 [tAB, tC] 0).isSome = false from by decide +kernel] at h1
  exact h1
theorem aw8 {B : Nat} {w W : World} {v : Value} {S : Nat → Prop} (h : Awk B w W v [tAB, tC] S) : Calls Try.prog 15 #[v] W fun e w' => e = .returned (.int .i64 2) ∧ Below W.heap.size W w' := len_any v _ S W h.pool
theorem aw9 {B : Nat} {w W : World} {v : Value} {S : Nat → Prop} (h : Awk B w W v [tAB, tC] S) : Calls Try.prog 18 #[v] W fun e w' => e = .returned (.string { data := #[97, 98, 99] }) ∧ Below W.heap.size W w' := by
  have h1 := text_any v _ S W h.pool
  rw [show catF [tAB, tC] = { data := #[97, 98, 99] } from by decide +kernel] at h1
  exact h1
end Go.Proofs.Ytegboojhebhlnaa
