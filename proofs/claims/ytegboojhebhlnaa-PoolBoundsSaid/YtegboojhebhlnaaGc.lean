/- A map of slices, its elements told as they are; what a pool is. -/
import Derived.Test.YtegboojhebhlnaaGb
import Derived.Maps.OwnSet
import Derived.Maps.Range
import Derived.Maps.RangeWalk
namespace Go.Proofs.Ytegboojhebhlnaa
open Go.RowKit
set_option linter.unusedVariables false
set_option linter.unusedSimpArgs false
/-- An element of the map, told as it is: through no place, in whatever world. -/
def tokE : Value → Option (DataW Value × List MemPlace)
  | .slice a n c => some (.held (.slice a n c), [])
  | _ => none
def nilS : Value := .slice none 0 0
theorem lawI : Maps.Keyed Try.prog 3 := Maps.int_keyed Try.underlying3
theorem keyI {k : Int} (h : (Lit.int .i64 k).wf = true) : keyOf Try.prog 3 (.int .i64 k) = some (.int .i64 k) := Maps.keyOf_int_mk Try.underlying3 h
theorem zeroK (w : World) : (zeroValue 56).run Try.prog w = .ok nilS w := by
  have h : ((Try.prog.info? 56).map (·.zero)) = some (some nilS) := by kernel_rfl
  cases hq : Try.prog.info? 56 with
  | none => simp [hq] at h
  | some i =>
    have hz : i.zero = some nilS := by simpa [hq] using h
    simp [zeroValue, typeInfo, hq, hz]
/-- Block mb is a map of at most n entries whose element at k is G k. -/
def MapG (w : World) (mb n : Nat) (G : Int → Value) : Prop := ∃ D : DataW Value, w.ownsMap Try.prog 3 tokE mb n D ∧ ∀ k, (Lit.int .i64 k).wf = true → D.atKey (.int .i64 k) (.held nilS) = .held (G k)
theorem MapG.keep {w w' : World} {mb n : Nat} {G : Int → Value} (h : MapG w mb n G) (hk : w'.heap[mb]? = w.heap[mb]?) : MapG w' mb n G := by
  obtain ⟨D, ⟨es, clock, hb, r⟩, hG⟩ := h
  exact ⟨D, ⟨es, clock, hk.trans hb, r⟩, hG⟩
theorem MapG.lt {w : World} {mb n : Nat} {G : Int → Value} (h : MapG w mb n G) : mb < w.heap.size := by
  obtain ⟨D, h, _⟩ := h
  exact h.lt
theorem MapG.below {w w' : World} {mb n : Nat} {G : Int → Value} (h : MapG w mb n G) (hb : Below w.heap.size w w') : MapG w' mb n G := h.keep (hb.block mb h.lt)
theorem MapG.block {w : World} {mb n : Nat} {G : Int → Value} (h : MapG w mb n G) : ∃ es clock, w.heap[mb]? = some (.map es clock) := by
  obtain ⟨D, ⟨es, clock, hb, _⟩, _⟩ := h
  exact ⟨es, clock, hb⟩
theorem tok_inv {v : Value} {y : DataW Value × List MemPlace} (h : tokE v = some y) : (∃ a n c, v = .slice a n c) ∧ y = (.held v, []) := by
  cases v <;> simp [tokE] at h
  exact ⟨⟨_, _, _, rfl⟩, h.symm⟩
theorem MapG.look {w : World} {mb n : Nat} {G : Int → Value} (h : MapG w mb n G) (k : Int) (hk : (Lit.int .i64 k).wf = true) : (Instr.lookup 57 (.map (some mb)) (.int .i64 k) false).run Try.prog w = .ok (G k) w := by
  obtain ⟨D, hD, hG⟩ := h
  obtain ⟨v, ps, hrun, hv⟩ := hD.lookup lawI Try.underlying57 (zeroK w) (zd := .held nilS) (zp := []) rfl (keyI hk)
  rw [hG k hk] at hv
  obtain ⟨_, he⟩ := tok_inv hv
  injection he with h1 h2
  injection h1 with h1
  rw [hrun, h1]
theorem look_none (w : World) (k : Int) (hk : (Lit.int .i64 k).wf = true) : (Instr.lookup 57 (.map none) (.int .i64 k) false).run Try.prog w = .ok nilS w := by
  have h := Maps.look_nil (w := w) (P := Try.prog) false lawI Try.underlying57 (zeroK w) (keyI hk)
  simpa using h
def putG (G : Int → Value) (k : Int) (v : Value) : Int → Value := fun j => if j = k then v else G j
theorem putG_same (G : Int → Value) (k : Int) (v : Value) : putG G k v k = v := by simp [putG]
theorem putG_other (G : Int → Value) (k j : Int) (v : Value) (h : j ≠ k) : putG G k v j = G j := by simp [putG, h]
theorem MapG.put {w : World} {mb n : Nat} {G : Int → Value} (h : MapG w mb n G) (hn : n < maxLen) (k : Int) (hk : (Lit.int .i64 k).wf = true) (v : Value) (hv : ∃ a n c, v = .slice a n c) :
    ∃ w', (Instr.mapUpdate 57 (.map (some mb)) (.int .i64 k) v).run Try.prog w = .ok () w' ∧ MapG w' mb (n + 1) (putG G k v) ∧ w.grownBy w' (some mb) := by
  obtain ⟨D, hD, hG⟩ := h
  obtain ⟨a, m, c, rfl⟩ := hv
  obtain ⟨w', hrun, hD', hgr⟩ := hD.update lawI Try.underlying57 hn (keyI hk) (val := .slice a m c) (d := .held (.slice a m c)) (ps := []) rfl
  refine ⟨w', hrun, ⟨_, hD', fun j hj => ?_⟩, hgr⟩
  by_cases e : j = k
  · subst e
    rw [putG_same]
    exact Maps.atKey_put_same hD.isMap (lawI.key (keyI hk)) _ _
  · rw [putG_other G k j _ e, ← hG j hj]
    exact Maps.atKey_put_other (by intro h; injection h with _ h; exact e h) _ _
theorem MapG.made (w : World) : MapG (w.alloc (.map #[] 0)) w.heap.size 0 (fun _ => nilS) := ⟨_, World.ownsMap_made w Try.prog 3 tokE, fun k _ => rfl⟩
/-- A pool's two cells, its row, its map and the rows of its buckets. -/
structure PoolAt (w : World) (pb : Nat) (va vm : Value) (G : Int → Value) (l : List ByteArray) : Prop where
  good : GoodP l
  two : Two w pb va vm
  all : OwnK w 0 va (plc l 0)
  map : (vm = .map none ∧ l = [] ∧ ∀ k, G k = nilS) ∨ ∃ mb, vm = .map (some mb) ∧ MapG w mb l.length G
  grps : ∀ k, OwnK w 0 (G k) (grp k (plc l 0))
  n1 : va.ownBlock ≠ some pb
  n2 : ∀ k, (G k).ownBlock ≠ some pb
  n3 : ∀ k g, (G k).ownBlock = some g → va.ownBlock ≠ some g
  n4 : ∀ k j g, (G k).ownBlock = some g → (G j).ownBlock = some g → k = j
  n5 : ∀ mb, vm = .map (some mb) → mb ≠ pb
/-- The pool's blocks. -/
def blkS (pb : Nat) (va vm : Value) (G : Int → Value) (b : Nat) : Prop := b = pb ∨ va.ownBlock = some b ∨ vm = .map (some b) ∨ ∃ k, (G k).ownBlock = some b
theorem PoolAt.lt {w : World} {pb : Nat} {va vm : Value} {G : Int → Value} {l : List ByteArray} (h : PoolAt w pb va vm G l) : ∀ b, blkS pb va vm G b → b < w.heap.size := by
  rintro b (rfl | hb | rfl | ⟨k, hb⟩)
  · exact h.two.lt
  · exact (h.all.lt b hb).2
  · rcases h.map with ⟨e, _⟩ | ⟨mb, e, hm⟩
    · cases e
    · cases e; exact hm.lt
  · exact ((h.grps k).lt b hb).2
theorem PoolAt.keep {w w' : World} {pb : Nat} {va vm : Value} {G : Int → Value} {l : List ByteArray} (h : PoolAt w pb va vm G l) (hk : ∀ b, blkS pb va vm G b → w'.heap[b]? = w.heap[b]?) : PoolAt w' pb va vm G l := by
  have hp := hk pb (.inl rfl)
  obtain ⟨t0, t1, t2, t3⟩ := h.two
  refine ⟨h.good, ⟨(World.cell?_of_block (a := ⟨pb, 0, none⟩) hp).trans t0, (World.cell?_of_block (a := ⟨pb, 1, none⟩) hp).trans t1, (World.frozen?_of_block (a := ⟨pb, 0, none⟩) hp).trans t2, (World.frozen?_of_block (a := ⟨pb, 1, none⟩) hp).trans t3⟩, h.all.keep (fun b hb => hk b (.inr (.inl hb))), ?_, fun k => (h.grps k).keep (fun b hb => hk b (.inr (.inr (.inr ⟨k, hb⟩)))), h.n1, h.n2, h.n3, h.n4, h.n5⟩
  rcases h.map with e | ⟨mb, e, hm⟩
  · exact .inl e
  · exact .inr ⟨mb, e, hm.keep (hk mb (.inr (.inr (.inl e))))⟩
theorem PoolAt.below {w w' : World} {pb : Nat} {va vm : Value} {G : Int → Value} {l : List ByteArray} (h : PoolAt w pb va vm G l) (hb : Below w.heap.size w w') : PoolAt w' pb va vm G l :=
  h.keep (fun b hS => hb.block b (h.lt b hS))
/-- What a bucket holds, looked up. -/
theorem PoolAt.look {w : World} {pb : Nat} {va vm : Value} {G : Int → Value} {l : List ByteArray} (h : PoolAt w pb va vm G l) (k : Int) (hk : (Lit.int .i64 k).wf = true) : (Instr.lookup 57 vm (.int .i64 k) false).run Try.prog w = .ok (G k) w := by
  rcases h.map with ⟨rfl, _, hG⟩ | ⟨mb, rfl, hm⟩
  · rw [hG k]; exact look_none w k hk
  · exact hm.look k hk
/-- A map's block is no row. -/
theorem map_row {w : World} {mb n : Nat} {G : Int → Value} (h : MapG w mb n G) {B : Nat} {v : Value} {l : List Kt} (hv : OwnK w B v l) : v.ownBlock ≠ some mb := by
  intro e
  obtain ⟨es, clock, h1⟩ := h.block
  obtain ⟨cur, T, fz, h2⟩ := hv.cells e
  rw [h1] at h2
  cases h2
theorem wf_i64 {k : Int} (h0 : -9223372036854775808 ≤ k) (h1 : k ≤ 9223372036854775807) : (Lit.int .i64 k).wf = true := WalkArith.wf_i64 ⟨h0, h1⟩
def PoolS (w : World) (v : Value) (l : List ByteArray) (S : Nat → Prop) : Prop := ∃ pb va vm G, v = .pointer (some ⟨pb, 0, none⟩) ∧ PoolAt w pb va vm G l ∧ ∀ b, S b ↔ blkS pb va vm G b
theorem PoolS.ptr {w : World} {v : Value} {l : List ByteArray} {S : Nat → Prop} (h : PoolS w v l S) : ∃ a, v = .pointer (some a) := by
  obtain ⟨pb, va, vm, G, rfl, _⟩ := h
  exact ⟨_, rfl⟩
theorem PoolS.good {w : World} {v : Value} {l : List ByteArray} {S : Nat → Prop} (h : PoolS w v l S) : GoodP l := by
  obtain ⟨pb, va, vm, G, rfl, h, _⟩ := h
  exact h.good
theorem PoolS.lt {w : World} {v : Value} {l : List ByteArray} {S : Nat → Prop} (h : PoolS w v l S) : ∀ b, S b → b < w.heap.size := by
  obtain ⟨pb, va, vm, G, rfl, h, hS⟩ := h
  exact fun b hb => h.lt b ((hS b).1 hb)
theorem PoolS.keep {w w' : World} {v : Value} {l : List ByteArray} {S : Nat → Prop} (h : PoolS w v l S) (hs : w.heap.size ≤ w'.heap.size) (hk : ∀ b, S b → w'.heap[b]? = w.heap[b]?) : PoolS w' v l S := by
  obtain ⟨pb, va, vm, G, rfl, h, hS⟩ := h
  exact ⟨pb, va, vm, G, rfl, h.keep (fun b hb => hk b ((hS b).2 hb)), hS⟩
/-- A pool that holds nothing yet. -/
def zeroObj : Obj := .cells #[.slice none 0 0, .map none] 59
theorem zero_at (w : World) (T : TypeId) : PoolAt (w.alloc (.cells #[.slice none 0 0, .map none] T)) w.heap.size (.slice none 0 0) (.map none) (fun _ => nilS) [] :=
  ⟨goodP_nil, two_new w _ _ _, ownK_nil _ _, .inl ⟨rfl, rfl, fun _ => rfl⟩, fun k => ownK_nil _ _, (by simp [Value.ownBlock]), (by simp [Value.ownBlock, nilS]), (by simp [Value.ownBlock, nilS]), (by simp [Value.ownBlock, nilS]), (by simp)⟩
theorem zero_blk {pb b : Nat} (h : blkS pb (.slice none 0 0) (.map none) (fun _ => nilS) b) : b = pb := by
  rcases h with h | h | h | ⟨k, h⟩
  · exact h
  · cases h
  · cases h
  · cases h
theorem zero_pool (w : World) : ∃ S, PoolS (w.alloc zeroObj) (.pointer (some ⟨w.heap.size, 0, none⟩)) [] S ∧ ∀ b, S b → w.heap.size ≤ b :=
  ⟨_, ⟨w.heap.size, _, _, _, rfl, zero_at w _, fun _ => Iff.rfl⟩, fun b hb => by rw [zero_blk hb]; exact Nat.le_refl _⟩
theorem new_any (w : World) : Calls Try.prog 8 #[] w fun e w' => ∃ v S, e = .returned v ∧ PoolS w' v [] S ∧ (∀ b, S b → w.heap.size ≤ b) ∧ Below w.heap.size w w' := by
  go_enter Try.func8, Try.ntmps8
  go_wp2_with fail
  go_ret
  exact ⟨_, _, rfl, ⟨w.heap.size, _, _, _, rfl, zero_at w _, fun _ => Iff.rfl⟩, fun b hb => (by rw [zero_blk hb]; exact Nat.le_refl _), (Below.refl _ _).alloc (Nat.le_refl _) _⟩
end Go.Proofs.Ytegboojhebhlnaa
