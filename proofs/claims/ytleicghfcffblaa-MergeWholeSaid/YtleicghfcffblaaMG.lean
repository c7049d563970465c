/- Several texts, one behind the other: Ga, Gb, Gc. -/
import Derived.Test.YtleicghfcffblaaMJ
import Derived.Test.YtleicghfcffblaaMA
import Derived.Test.YtleicghfcffblaaMR
import Derived.Maps.OwnSet
import Derived.Maps.Range
import Derived.Maps.RangeWalk
/- Plain words of the landed pool, no Go: contents with their places, a bucket's contents, a sought text in its bucket. -/
namespace Go.Proofs.Ytleicghfcffblaa
abbrev Kt := Nat × ByteArray
def plc : List ByteArray → Nat → List Kt
  | [], _ => []
  | t :: l, n => (n, t) :: plc l (n + t.size)
def bkt (s : ByteArray) : Int := bktF (sumF fSt s.data.toList) 2048
theorem bkt_range (s : ByteArray) : 0 ≤ bkt s ∧ bkt s < 2048 := by
  unfold bkt bktF
  rw [if_neg (by omega)]
  omega
def grp (k : Int) (l : List Kt) : List Kt := l.filter (fun t => decide (bkt t.2 = k))
theorem plc_len (l : List ByteArray) : ∀ n, (plc l n).length = l.length := by
  induction l with
  | nil => intro n; rfl
  | cons t l ih => intro n; simp [plc, ih]
theorem plc_append (a b : List ByteArray) : ∀ n, plc (a ++ b) n = plc a n ++ plc b (n + totF a) := by
  induction a with
  | nil => intro n; simp [plc, totF]
  | cons t l ih => intro n; simp [plc, ih, totF, Nat.add_assoc]
theorem plc_snoc (l : List ByteArray) (s : ByteArray) : plc (l ++ [s]) 0 = plc l 0 ++ [(totF l, s)] := by
  rw [plc_append]; simp [plc]
theorem plc_at (l : List ByteArray) : ∀ (n k : Nat) (t : ByteArray), l[k]? = some t → (plc l n)[k]? = some (n + totF (l.take k), t) := by
  induction l with
  | nil => intro n k t h; simp at h
  | cons x l ih =>
    intro n k t h
    cases k with
    | zero => simp at h; subst h; simp [plc, totF]
    | succ k => rw [plc, List.getElem?_cons_succ, ih _ k t (by simpa using h)]; simp [totF, Nat.add_assoc]
theorem plc_mem (l : List ByteArray) : ∀ (n : Nat) (t : Kt), t ∈ plc l n → t.2 ∈ l ∧ n ≤ t.1 ∧ t.1 + t.2.size ≤ n + totF l := by
  induction l with
  | nil => intro n t h; simp [plc] at h
  | cons x l ih =>
    intro n t h
    rw [plc] at h
    rw [totF]
    rcases List.mem_cons.1 h with rfl | h
    · exact ⟨by simp, Nat.le_refl _, by show n + x.size ≤ n + (x.size + totF l); omega⟩
    · have := ih _ t h
      exact ⟨List.mem_cons_of_mem _ this.1, by omega, by omega⟩
theorem grp_mem (k : Int) (l : List Kt) (t : Kt) (h : t ∈ grp k l) : t ∈ l ∧ bkt t.2 = k := by
  unfold grp at h
  rw [List.mem_filter] at h
  exact ⟨h.1, by simpa using h.2⟩
theorem grp_append (k : Int) (a b : List Kt) : grp k (a ++ b) = grp k a ++ grp k b := by simp [grp]
theorem grp_nil (k : Int) : grp k [] = [] := rfl
theorem grp_one (k : Int) (t : Kt) : grp k [t] = if bkt t.2 = k then [t] else [] := by
  unfold grp
  by_cases h : bkt t.2 = k <;> simp [h]
theorem grp_len (k : Int) (l : List Kt) : (grp k l).length ≤ l.length := List.length_filter_le _ _
/-- A sought text is looked for in its own bucket alone. -/
theorem find_grp (s : ByteArray) (l : List ByteArray) : ∀ n, ((grp (bkt s) (plc l n)).find? (fun t => decide (t.2 = s))).map (·.1) = findF s l n := by
  induction l with
  | nil => intro n; rfl
  | cons t l ih =>
    intro n
    rw [plc, findF]
    by_cases h : t = s
    · subst h
      rw [if_pos rfl]
      simp [grp]
    · rw [if_neg h, ← ih]
      unfold grp
      by_cases hb : bkt t = bkt s
      · rw [List.filter_cons_of_pos (by simpa using hb), List.find?_cons_of_neg (by simpa using h)]
      · rw [List.filter_cons_of_neg (by simpa using hb)]
theorem find_first (p : Kt → Bool) (l : List Kt) (i : Nat) (t : Kt) (hi : l[i]? = some t) (hp : p t = true) (hn : ∀ x ∈ l.take i, p x = false) : l.find? p = some t := by
  have e : l = l.take i ++ t :: l.drop (i + 1) := by rw [← drop_at l i t hi, List.take_append_drop]
  rw [e, List.find?_append]
  have h0 : (l.take i).find? p = none := by rw [List.find?_eq_none]; intro x hx; rw [hn x hx]; simp
  rw [h0]
  simp [hp]
theorem find_no (p : Kt → Bool) (l : List Kt) (hn : ∀ x ∈ l, p x = false) : l.find? p = none := by
  rw [List.find?_eq_none]; intro x hx; rw [hn x hx]; simp
/-- The place at which a text is sought: behind how many contents that begin ahead of it. -/
def loG (a : Int) : List ByteArray → Nat → Nat
  | [], _ => 0
  | t :: l, n => if (n : Int) < a then loG a l (n + t.size) + 1 else 0
theorem loG_le (a : Int) (l : List ByteArray) : ∀ n, loG a l n ≤ l.length := by
  induction l with
  | nil => intro n; exact Nat.le_refl _
  | cons t l ih =>
    intro n
    rw [loG]
    split
    · have := ih (n + t.size); simp; omega
    · simp
theorem loG_spec (a : Int) (l : List ByteArray) : ∀ n k, k < l.length → (((n + totF (l.take k) : Nat) : Int) < a ↔ k < loG a l n) := by
  induction l with
  | nil => intro n k h; simp at h
  | cons t l ih =>
    intro n k h
    rw [loG]
    cases k with
    | zero =>
      simp only [List.take_zero, totF, Nat.add_zero]
      split
      · rename_i hh; exact ⟨fun _ => by omega, fun _ => hh⟩
      · rename_i hh; exact ⟨fun g => absurd g hh, fun g => by omega⟩
    | succ k =>
      have := ih (n + t.size) k (by simpa using h)
      rw [List.take_succ_cons, totF, ← Nat.add_assoc]
      split
      · rw [this]; omega
      · rename_i hh
        constructor
        · intro g; exfalso; omega
        · intro g; omega
theorem getG_none (a b : Int) (l : List ByteArray) : ∀ n : Nat, a < n → getG a b l n = none := by
  induction l with
  | nil => intro n h; rfl
  | cons t l ih =>
    intro n h
    rw [getG, if_neg (by omega), ih _ (by omega)]
/-- What stands at a place: it hangs on the one content that the halving comes to. -/
theorem getG_lo (a b : Int) (l : List ByteArray) (hp : ∀ t ∈ l, 0 < t.size) : ∀ n : Nat, getG a b l n = match l[loG a l n]? with
    | some t => if ((n + totF (l.take (loG a l n)) : Nat) : Int) = a ∧ (t.size : Int) = b then some t else none
    | none => none := by
  induction l with
  | nil => intro n; rfl
  | cons t l ih =>
    intro n
    rw [getG, loG]
    by_cases h : (n : Int) < a
    · rw [if_pos h, if_neg (by omega), ih (fun x hx => hp x (by simp [hx])), List.getElem?_cons_succ, List.take_succ_cons, totF, ← Nat.add_assoc]
    · rw [if_neg h]
      simp only [List.getElem?_cons_zero, List.take_zero, totF, Nat.add_zero]
      by_cases e : (n : Int) = a ∧ (t.size : Int) = b
      · rw [if_pos e, if_pos e]
      · rw [if_neg e, if_neg e]
        have := hp t (by simp)
        exact getG_none a b l _ (by omega)
end Go.Proofs.Ytleicghfcffblaa
/- Rows of kept contents (three cells each): a slice that reads as a list of them (KtsAt), a row of one's own (OwnK); an append. -/
namespace Go.Proofs.Ytleicghfcffblaa
open Go.RowKit
set_option maxRecDepth 20000
set_option linter.unusedVariables false
set_option linter.unusedSimpArgs false
def ktC (t : Kt) : List Value := [.int .u64 t.1, .int .u32 t.2.size, .string t.2]
def flatK : List Kt → List Value
  | [] => []
  | t :: l => .int .u64 t.1 :: .int .u32 t.2.size :: .string t.2 :: flatK l
theorem flatK_len (l : List Kt) : (flatK l).length = l.length * 3 := by
  induction l with
  | nil => rfl
  | cons t l ih => simp [flatK, ih]; omega
theorem flatK_append (a b : List Kt) : flatK (a ++ b) = flatK a ++ flatK b := by
  induction a with
  | nil => rfl
  | cons t l ih => simp [flatK, ih]
theorem flatK_at (l : List Kt) : ∀ (k : Nat) (t : Kt), l[k]? = some t → (flatK l)[k * 3]? = some (.int .u64 t.1) ∧ (flatK l)[k * 3 + 1]? = some (.int .u32 t.2.size) ∧ (flatK l)[k * 3 + 2]? = some (.string t.2) := by
  induction l with
  | nil => intro k t h; simp at h
  | cons s l ih =>
    intro k t h
    cases k with
    | zero => simp at h; subst h; simp [flatK]
    | succ k =>
      have := ih k t (by simpa using h)
      rw [show (k + 1) * 3 = k * 3 + 1 + 1 + 1 by omega]
      simpa [flatK] using this
theorem flatK_one (l : List Kt) : ∀ u ∈ flatK l, u.oneCell' = true := by
  induction l with
  | nil => intro u h; simp [flatK] at h
  | cons t l ih =>
    intro u h
    simp only [flatK, List.mem_cons] at h
    rcases h with rfl | rfl | rfl | h
    · rfl
    · rfl
    · rfl
    · exact ih u h
def KtsAt (w : World) (v : Value) (l : List Kt) : Prop := ∃ a cap, v = .slice a l.length cap ∧ l.length ≤ cap ∧ cap ≤ maxLen ∧ ∀ k t, l[k]? = some t → ∃ g off, a = some ⟨g, off, none⟩ ∧ g < w.heap.size ∧ w.cell? ⟨g, off + k * 3, none⟩ = some (.int .u64 t.1) ∧ w.cell? ⟨g, off + k * 3 + 1, none⟩ = some (.int .u32 t.2.size) ∧ w.cell? ⟨g, off + k * 3 + 2, none⟩ = some (.string t.2)
theorem KtsAt.below {w w' : World} {v : Value} {l : List Kt} (h : KtsAt w v l) (hb : Below w.heap.size w w') : KtsAt w' v l := by
  obtain ⟨a, cap, rfl, h1, h2, hc⟩ := h
  refine ⟨a, cap, rfl, h1, h2, fun k t ht => ?_⟩
  obtain ⟨g, off, ha, hg, c0, c1, c2⟩ := hc k t ht
  exact ⟨g, off, ha, Nat.lt_of_lt_of_le hg hb.size, vcell_later hb c0, vcell_later hb c1, vcell_later hb c2⟩
def OwnK (w : World) (B : Nat) (v : Value) (l : List Kt) : Prop := w.ownsRow B 128 3 v l.length (flatK l)
theorem ownK_nil (w : World) (B : Nat) : OwnK w B (.slice none 0 0) [] := World.ownsRow_nil _ _ _ _
theorem OwnK.lt {w : World} {B : Nat} {v : Value} {l : List Kt} (h : OwnK w B v l) : ∀ k, v.ownBlock = some k → B ≤ k ∧ k < w.heap.size := World.ownsRow.lt h
theorem OwnK.keep {w w' : World} {B : Nat} {v : Value} {l : List Kt} (h : OwnK w B v l) (hk : ∀ k, v.ownBlock = some k → w'.heap[k]? = w.heap[k]?) : OwnK w' B v l := by
  obtain ⟨h1, h2⟩ := h
  refine ⟨h1, ?_⟩
  rcases h2 with h2 | ⟨g, cap, cur, hv, hg, hh, r⟩
  · exact .inl h2
  · refine .inr ⟨g, cap, cur, hv, hg, ?_, r⟩
    rw [hk g (by rw [hv]; rfl)]; exact hh
theorem OwnK.below {w w' : World} {B : Nat} {v : Value} {l : List Kt} (h : OwnK w B v l) (hb : Below w.heap.size w w') : OwnK w' B v l :=
  h.keep (fun k hk => hb.block k (h.lt k hk).2)
theorem OwnK.mono {w : World} {B B' : Nat} {v : Value} {l : List Kt} (h : OwnK w B v l) (hb : B' ≤ B) : OwnK w B' v l := by
  obtain ⟨h1, h2⟩ := h
  refine ⟨h1, ?_⟩
  rcases h2 with h2 | ⟨g, cap, cur, hv, hg, r⟩
  · exact .inl h2
  · exact .inr ⟨g, cap, cur, hv, Nat.le_trans hb hg, r⟩
/-- A row is no map. -/
theorem OwnK.cells {w : World} {B : Nat} {v : Value} {l : List Kt} (h : OwnK w B v l) {g : Nat} (hg : v.ownBlock = some g) : ∃ cur T fz, w.heap[g]? = some (.cells cur T fz) := by
  rcases h.2 with ⟨rfl, _⟩ | ⟨g', cap, cur, rfl, _, hh, _⟩
  · cases hg
  · cases hg
    exact ⟨_, _, _, hh⟩
theorem OwnK.ktsAt {w : World} {B : Nat} {v : Value} {l : List Kt} (h : OwnK w B v l) : KtsAt w v l := by
  have hlt := h.lt
  have h' := h
  obtain ⟨h1, h2⟩ := h
  rcases h2 with ⟨rfl, hn⟩ | ⟨g, cap, cur, rfl, hg, hh, hle, hm, _⟩
  · obtain rfl : l = [] := List.eq_nil_of_length_eq_zero hn
    exact ⟨none, 0, rfl, Nat.le_refl _, by simp, fun k t h => by simp at h⟩
  · refine ⟨_, cap, rfl, hle, hm, fun k t ht => ⟨g, 0, rfl, (hlt g rfl).2, ?_⟩⟩
    have hk := (List.getElem?_eq_some_iff.1 ht).1
    obtain ⟨f0, f1, f2⟩ := flatK_at l k t ht
    rw [Nat.zero_add]
    exact ⟨(World.ownsRow.cellAt h' (k * 3) (by omega)).trans f0, (World.ownsRow.cellAt h' (k * 3 + 1) (by omega)).trans f1, (World.ownsRow.cellAt h' (k * 3 + 2) (by omega)).trans f2⟩
theorem OwnK.slice {w : World} {B : Nat} {v : Value} {l : List Kt} (h : OwnK w B v l) : ∃ a cap, v = .slice a l.length cap := by
  obtain ⟨a, cap, hv, _⟩ := h.ktsAt
  exact ⟨a, cap, hv⟩
theorem ownk_conv {w : World} {B : Nat} {v : Value} {n : Nat} {l : List Kt} {ys : List Value} (h : w.ownsRow B 128 3 v n ys) (hn : n = l.length) (he : ys = flatK l) : OwnK w B v l := by
  subst hn; subst he; exact h
theorem infoKt : (Try.prog.info? 128).map (fun i => (i.zero, i.size, i.bytes)) = some (some (.agg #[.int .u64 0, .int .u32 0, .string { data := #[] }]), 3, 32) := by kernel_rfl
/-- Three cells of a block. -/
def Three (w : World) (g : Nat) (t : Kt) : Prop := w.cell? ⟨g, 0, none⟩ = some (.int .u64 t.1) ∧ w.cell? ⟨g, 1, none⟩ = some (.int .u32 t.2.size) ∧ w.cell? ⟨g, 2, none⟩ = some (.string t.2)
theorem Three.lt {w : World} {g : Nat} {t : Kt} (h : Three w g t) : g < w.heap.size := vcell_lt h.1
theorem Three.below {w w' : World} {g : Nat} {t : Kt} (h : Three w g t) (hb : Below w.heap.size w w') : Three w' g t := ⟨vcell_later hb h.1, vcell_later hb h.2.1, vcell_later hb h.2.2⟩
theorem three_new (w : World) (t : Kt) (T : TypeId) : Three (w.alloc (.cells #[.int .u64 t.1, .int .u32 t.2.size, .string t.2] T)) w.heap.size t := ⟨by simp [go_sem], by simp [go_sem], by simp [go_sem]⟩
/-- An append of one. -/
theorem kappend_run (W : World) (ty : TypeId) (v : Value) (L : List Kt) (t : Kt) (g c : Nat) (hown : OwnK W 0 v L) (hx : Three W g t) (hl : L.length ≤ 1000000) :
    ∃ v' w', (Builtin.append_ #[112, 112] ty #[v, .slice (some ⟨g, 0, none⟩) 1 c]).run Try.prog W = .ok v' w' ∧ OwnK w' 0 v' (L ++ [t]) ∧ W.grownBy w' v.ownBlock ∧ (v'.ownBlock = v.ownBlock ∨ ∃ g, v'.ownBlock = some g ∧ W.heap.size ≤ g) := by
  obtain ⟨v', w', hr, h2, h3, h4⟩ := rappend_run 3 32 W 0 112 128 ty _ Try.underlying112 infoKt rfl (by omega) (by omega) v L.length (flatK L) hown ⟨g, 0, none⟩ 1 c (ktC t) rfl (by
    intro j u hu
    match j, hu with
    | 0, hu => simp only [ktC, List.getElem?_cons_zero, Option.some.injEq] at hu; rw [← hu]; exact hx.1
    | 1, hu => simp only [ktC, List.getElem?_cons_succ, List.getElem?_cons_zero, Option.some.injEq] at hu; rw [← hu]; exact hx.2.1
    | 2, hu => simp only [ktC, List.getElem?_cons_succ, List.getElem?_cons_zero, Option.some.injEq] at hu; rw [← hu]; exact hx.2.2
    | j + 3, hu => simp [ktC] at hu) (by
    intro u hu
    simp only [ktC, List.mem_cons, List.not_mem_nil, or_false] at hu
    rcases hu with rfl | rfl | rfl <;> rfl) (by omega) (by omega) (Nat.zero_le _)
  refine ⟨v', w', hr, ?_, h3, h4⟩
  exact ownk_conv h2 (by simp) (by rw [flatK_append]; rfl)
end Go.Proofs.Ytleicghfcffblaa
/- A map of slices, its elements told as they are; what a pool is. -/
namespace Go.Proofs.Ytleicghfcffblaa
open Go.RowKit
set_option maxRecDepth 20000
set_option linter.unusedVariables false
set_option linter.unusedSimpArgs false
/-- An element of the map, told as it is: through no place, in whatever world. -/
def tokE : Value → Option (DataW Value × List MemPlace)
  | .slice a n c => some (.held (.slice a n c), [])
  | _ => none
def nilS : Value := .slice none 0 0
theorem lawI : Maps.Keyed Try.prog 3 := Maps.int_keyed Try.underlying3
theorem keyI {k : Int} (h : (Lit.int .i64 k).wf = true) : keyOf Try.prog 3 (.int .i64 k) = some (.int .i64 k) := Maps.keyOf_int_mk Try.underlying3 h
theorem zeroK (w : World) : (zeroValue 112).run Try.prog w = .ok nilS w := by
  have h : ((Try.prog.info? 112).map (·.zero)) = some (some nilS) := by kernel_rfl
  cases hq : Try.prog.info? 112 with
  | none => simp [hq] at h
  | some i =>
    have hz : i.zero = some nilS := by simpa [hq] using h
    simp [zeroValue, typeInfo, hq, hz]
/-- Block mb is a map of at most n entries whose element at k is G k. -/
def MapG (w : World) (mb n : Nat) (G : Int → Value) : Prop := ∃ D : DataW Value, w.ownsMap Try.prog 3 tokE mb n D ∧ ∀ k, (Lit.int .i64 k).wf = true → D.atKey (.int .i64 k) (.held nilS) = .held (G k)
theorem MapG.keep {w w' : World} {mb n : Nat} {G : Int → Value} (h : MapG w mb n G) (hk : w'.heap[mb]? = w.heap[mb]?) : MapG w' mb n G := by
  obtain ⟨D, ⟨es, clock, hb, r⟩, hG⟩ := h
  exact ⟨D, ⟨es, clock, hk.trans hb, r⟩, hG⟩
theorem MapG.lt {w : World} {mb n : Nat} {G : Int → Value} (h : MapG w mb n G) : mb < w.heap.size := by
  obtain ⟨D, h, _⟩ := h
  exact h.lt
theorem MapG.below {w w' : World} {mb n : Nat} {G : Int → Value} (h : MapG w mb n G) (hb : Below w.heap.size w w') : MapG w' mb n G := h.keep (hb.block mb h.lt)
theorem MapG.block {w : World} {mb n : Nat} {G : Int → Value} (h : MapG w mb n G) : ∃ es clock, w.heap[mb]? = some (.map es clock) := by
  obtain ⟨D, ⟨es, clock, hb, _⟩, _⟩ := h
  exact ⟨es, clock, hb⟩
theorem tok_inv {v : Value} {y : DataW Value × List MemPlace} (h : tokE v = some y) : (∃ a n c, v = .slice a n c) ∧ y = (.held v, []) := by
  cases v <;> simp [tokE] at h
  exact ⟨⟨_, _, _, rfl⟩, h.symm⟩
theorem MapG.look {w : World} {mb n : Nat} {G : Int → Value} (h : MapG w mb n G) (k : Int) (hk : (Lit.int .i64 k).wf = true) : (Instr.lookup 113 (.map (some mb)) (.int .i64 k) false).run Try.prog w = .ok (G k) w := by
  obtain ⟨D, hD, hG⟩ := h
  obtain ⟨v, ps, hrun, hv⟩ := hD.lookup lawI Try.underlying113 (zeroK w) (zd := .held nilS) (zp := []) rfl (keyI hk)
  rw [hG k hk] at hv
  obtain ⟨_, he⟩ := tok_inv hv
  injection he with h1 h2
  injection h1 with h1
  rw [hrun, h1]
theorem look_none (w : World) (k : Int) (hk : (Lit.int .i64 k).wf = true) : (Instr.lookup 113 (.map none) (.int .i64 k) false).run Try.prog w = .ok nilS w := by
  have h := Maps.look_nil (w := w) (P := Try.prog) false lawI Try.underlying113 (zeroK w) (keyI hk)
  simpa using h
def putG (G : Int → Value) (k : Int) (v : Value) : Int → Value := fun j => if j = k then v else G j
theorem putG_same (G : Int → Value) (k : Int) (v : Value) : putG G k v k = v := by simp [putG]
theorem putG_other (G : Int → Value) (k j : Int) (v : Value) (h : j ≠ k) : putG G k v j = G j := by simp [putG, h]
theorem MapG.put {w : World} {mb n : Nat} {G : Int → Value} (h : MapG w mb n G) (hn : n < maxLen) (k : Int) (hk : (Lit.int .i64 k).wf = true) (v : Value) (hv : ∃ a n c, v = .slice a n c) :
    ∃ w', (Instr.mapUpdate 113 (.map (some mb)) (.int .i64 k) v).run Try.prog w = .ok () w' ∧ MapG w' mb (n + 1) (putG G k v) ∧ w.grownBy w' (some mb) := by
  obtain ⟨D, hD, hG⟩ := h
  obtain ⟨a, m, c, rfl⟩ := hv
  obtain ⟨w', hrun, hD', hgr⟩ := hD.update lawI Try.underlying113 hn (keyI hk) (val := .slice a m c) (d := .held (.slice a m c)) (ps := []) rfl
  refine ⟨w', hrun, ⟨_, hD', fun j hj => ?_⟩, hgr⟩
  by_cases e : j = k
  · subst e
    rw [putG_same]
    exact Maps.atKey_put_same hD.isMap (lawI.key (keyI hk)) _ _
  · rw [putG_other G k j _ e, ← hG j hj]
    exact Maps.atKey_put_other (by intro h; injection h with _ h; exact e h) _ _
theorem MapG.made (w : World) : MapG (w.alloc (.map #[] 0)) w.heap.size 0 (fun _ => nilS) := ⟨_, World.ownsMap_made w Try.prog 3 tokE, fun k _ => rfl⟩
/-- A pool's two cells, its row, its map and the rows of its buckets. -/
structure PoolAt (w : World) (pb : Nat) (va vm : Value) (G : Int → Value) (l : List ByteArray) : Prop where
  good : GoodP l
  two : Two w pb va vm
  all : OwnK w 0 va (plc l 0)
  map : (vm = .map none ∧ l = [] ∧ ∀ k, G k = nilS) ∨ ∃ mb, vm = .map (some mb) ∧ MapG w mb l.length G
  grps : ∀ k, OwnK w 0 (G k) (grp k (plc l 0))
  n1 : va.ownBlock ≠ some pb
  n2 : ∀ k, (G k).ownBlock ≠ some pb
  n3 : ∀ k g, (G k).ownBlock = some g → va.ownBlock ≠ some g
  n4 : ∀ k j g, (G k).ownBlock = some g → (G j).ownBlock = some g → k = j
  n5 : ∀ mb, vm = .map (some mb) → mb ≠ pb
/-- The pool's blocks. -/
def blkS (pb : Nat) (va vm : Value) (G : Int → Value) (b : Nat) : Prop := b = pb ∨ va.ownBlock = some b ∨ vm = .map (some b) ∨ ∃ k, (G k).ownBlock = some b
theorem PoolAt.lt {w : World} {pb : Nat} {va vm : Value} {G : Int → Value} {l : List ByteArray} (h : PoolAt w pb va vm G l) : ∀ b, blkS pb va vm G b → b < w.heap.size := by
  rintro b (rfl | hb | rfl | ⟨k, hb⟩)
  · exact h.two.lt
  · exact (h.all.lt b hb).2
  · rcases h.map with ⟨e, _⟩ | ⟨mb, e, hm⟩
    · cases e
    · cases e; exact hm.lt
  · exact ((h.grps k).lt b hb).2
theorem PoolAt.keep {w w' : World} {pb : Nat} {va vm : Value} {G : Int → Value} {l : List ByteArray} (h : PoolAt w pb va vm G l) (hk : ∀ b, blkS pb va vm G b → w'.heap[b]? = w.heap[b]?) : PoolAt w' pb va vm G l := by
  have hp := hk pb (.inl rfl)
  obtain ⟨t0, t1, t2, t3⟩ := h.two
  refine ⟨h.good, ⟨(World.cell?_of_block (a := ⟨pb, 0, none⟩) hp).trans t0, (World.cell?_of_block (a := ⟨pb, 1, none⟩) hp).trans t1, (World.frozen?_of_block (a := ⟨pb, 0, none⟩) hp).trans t2, (World.frozen?_of_block (a := ⟨pb, 1, none⟩) hp).trans t3⟩, h.all.keep (fun b hb => hk b (.inr (.inl hb))), ?_, fun k => (h.grps k).keep (fun b hb => hk b (.inr (.inr (.inr ⟨k, hb⟩)))), h.n1, h.n2, h.n3, h.n4, h.n5⟩
  rcases h.map with e | ⟨mb, e, hm⟩
  · exact .inl e
  · exact .inr ⟨mb, e, hm.keep (hk mb (.inr (.inr (.inl e))))⟩
theorem PoolAt.below {w w' : World} {pb : Nat} {va vm : Value} {G : Int → Value} {l : List ByteArray} (h : PoolAt w pb va vm G l) (hb : Below w.heap.size w w') : PoolAt w' pb va vm G l :=
  h.keep (fun b hS => hb.block b (h.lt b hS))
/-- What a bucket holds, looked up. -/
theorem PoolAt.look {w : World} {pb : Nat} {va vm : Value} {G : Int → Value} {l : List ByteArray} (h : PoolAt w pb va vm G l) (k : Int) (hk : (Lit.int .i64 k).wf = true) : (Instr.lookup 113 vm (.int .i64 k) false).run Try.prog w = .ok (G k) w := by
  rcases h.map with ⟨rfl, _, hG⟩ | ⟨mb, rfl, hm⟩
  · rw [hG k]; exact look_none w k hk
  · exact hm.look k hk
/-- A map's block is no row. -/
theorem map_row {w : World} {mb n : Nat} {G : Int → Value} (h : MapG w mb n G) {B : Nat} {v : Value} {l : List Kt} (hv : OwnK w B v l) : v.ownBlock ≠ some mb := by
  intro e
  obtain ⟨es, clock, h1⟩ := h.block
  obtain ⟨cur, T, fz, h2⟩ := hv.cells e
  rw [h1] at h2
  cases h2
theorem wf_i64 {k : Int} (h0 : -9223372036854775808 ≤ k) (h1 : k ≤ 9223372036854775807) : (Lit.int .i64 k).wf = true := WalkArith.wf_i64 ⟨h0, h1⟩
def PoolS (w : World) (v : Value) (l : List ByteArray) (S : Nat → Prop) : Prop := ∃ pb va vm G, v = .pointer (some ⟨pb, 0, none⟩) ∧ PoolAt w pb va vm G l ∧ ∀ b, S b ↔ blkS pb va vm G b
theorem PoolS.ptr {w : World} {v : Value} {l : List ByteArray} {S : Nat → Prop} (h : PoolS w v l S) : ∃ a, v = .pointer (some a) := by
  obtain ⟨pb, va, vm, G, rfl, _⟩ := h
  exact ⟨_, rfl⟩
theorem PoolS.good {w : World} {v : Value} {l : List ByteArray} {S : Nat → Prop} (h : PoolS w v l S) : GoodP l := by
  obtain ⟨pb, va, vm, G, rfl, h, _⟩ := h
  exact h.good
theorem PoolS.lt {w : World} {v : Value} {l : List ByteArray} {S : Nat → Prop} (h : PoolS w v l S) : ∀ b, S b → b < w.heap.size := by
  obtain ⟨pb, va, vm, G, rfl, h, hS⟩ := h
  exact fun b hb => h.lt b ((hS b).1 hb)
theorem PoolS.keep {w w' : World} {v : Value} {l : List ByteArray} {S : Nat → Prop} (h : PoolS w v l S) (hs : w.heap.size ≤ w'.heap.size) (hk : ∀ b, S b → w'.heap[b]? = w.heap[b]?) : PoolS w' v l S := by
  obtain ⟨pb, va, vm, G, rfl, h, hS⟩ := h
  exact ⟨pb, va, vm, G, rfl, h.keep (fun b hb => hk b ((hS b).2 hb)), hS⟩
/-- A pool that holds nothing yet. -/
def zeroObj : Obj := .cells #[.slice none 0 0, .map none] 115
theorem zero_at (w : World) (T : TypeId) : PoolAt (w.alloc (.cells #[.slice none 0 0, .map none] T)) w.heap.size (.slice none 0 0) (.map none) (fun _ => nilS) [] :=
  ⟨goodP_nil, two_new w _ _ _, ownK_nil _ _, .inl ⟨rfl, rfl, fun _ => rfl⟩, fun k => ownK_nil _ _, (by simp [Value.ownBlock]), (by simp [Value.ownBlock, nilS]), (by simp [Value.ownBlock, nilS]), (by simp [Value.ownBlock, nilS]), (by simp)⟩
theorem zero_blk {pb b : Nat} (h : blkS pb (.slice none 0 0) (.map none) (fun _ => nilS) b) : b = pb := by
  rcases h with h | h | h | ⟨k, h⟩
  · exact h
  · cases h
  · cases h
  · cases h
theorem zero_pool (w : World) : ∃ S, PoolS (w.alloc zeroObj) (.pointer (some ⟨w.heap.size, 0, none⟩)) [] S ∧ ∀ b, S b → w.heap.size ≤ b :=
  ⟨_, ⟨w.heap.size, _, _, _, rfl, zero_at w _, fun _ => Iff.rfl⟩, fun b hb => by rw [zero_blk hb]; exact Nat.le_refl _⟩
theorem new_any (w : World) : Calls Try.prog 34 #[] w fun e w' => ∃ v S, e = .returned v ∧ PoolS w' v [] S ∧ (∀ b, S b → w.heap.size ≤ b) ∧ Below w.heap.size w w' := by
  go_enter Try.func34, Try.ntmps34
  go_wp2_with fail
  go_ret
  exact ⟨_, _, rfl, ⟨w.heap.size, _, _, _, rfl, zero_at w _, fun _ => Iff.rfl⟩, fun b hb => (by rw [zero_blk hb]; exact Nat.le_refl _), (Below.refl _ _).alloc (Nat.le_refl _) _⟩
end Go.Proofs.Ytleicghfcffblaa
