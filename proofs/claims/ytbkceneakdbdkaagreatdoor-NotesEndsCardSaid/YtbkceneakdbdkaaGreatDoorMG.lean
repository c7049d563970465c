/- Several texts, one behind the other: Na, Nb, Nc, Nd. -/
import Derived.Test.YtbkceneakdbdkaaGreatDoorMC
import Derived.Test.YtbkceneakdbdkaaGreatDoorMB
import Derived.Deep.Slices
/- A value of the document's, as it lies in memory: opened into a tree of its own. -/
namespace Go.Proofs.YtbkceneakdbdkaaGreatDoor
open Go.RowKit Go.ChangeShapes Go.WideShapes Go.Deep
set_option maxRecDepth 20000
set_option linter.unusedVariables false
set_option linter.unusedSimpArgs false
/-! ### The tree -/
mutual
/-- A value: its parts; the names and the values within, each with the slice that leads there. -/
inductive Nt
  | mk (kind n : Int) (s : ByteArray) (nv : Value) (names : List ByteArray) (kv : Value) (kids : Nl)
inductive Nl
  | nil
  | cons (h : Nt) (t : Nl)
end
instance : Inhabited Nt := ⟨.mk 0 0 ByteArray.empty (.slice none 0 0) [] (.slice none 0 0) .nil⟩
def Nl.len : Nl → Nat
  | .nil => 0
  | .cons _ t => t.len + 1
def Nl.at? : Nl → Nat → Option Nt
  | .nil, _ => none
  | .cons h _, 0 => some h
  | .cons _ t, i + 1 => t.at? i
def ntCells : Nt → List Value
  | .mk k n s nv _ kv _ => [.int .u8 k, .int .i64 n, .string s, nv, kv]
/-- Texts, one cell each, where a slice leads. -/
def StrsAt (w : World) (v : Value) (l : List ByteArray) : Prop :=
  ∃ a cap, v = .slice a l.length cap ∧ l.length ≤ cap ∧ cap ≤ maxLen ∧ ∀ k s, l[k]? = some s → ∃ g off, a = some ⟨g, off, none⟩ ∧ g < w.heap.size ∧ w.cell? ⟨g, off + k, none⟩ = some (.string s) ∧ s.size ≤ maxLen
/-- The five cells of the i-th value of a row. -/
def CellsN (w : World) (a : Option Addr) (i : Nat) (v : Nt) : Prop :=
  ∃ g off, a = some ⟨g, off, none⟩ ∧ g < w.heap.size ∧ ∀ j, j < 5 → w.cell? ⟨g, off + i * 5 + j, none⟩ = (ntCells v)[j]?
mutual
def Nt.In (w : World) : Nt → Prop
  | .mk k n s nv names kv kids => (0 ≤ k ∧ k < 256) ∧ (-9223372036854775808 ≤ n ∧ n < 9223372036854775808) ∧ s.size ≤ maxLen ∧ StrsAt w nv names ∧ ∃ a cap, kv = .slice a kids.len cap ∧ kids.len ≤ cap ∧ cap ≤ maxLen ∧ Nl.In w a 0 kids
def Nl.In (w : World) (a : Option Addr) (i : Nat) : Nl → Prop
  | .nil => True
  | .cons h t => CellsN w a i h ∧ Nt.In w h ∧ Nl.In w a (i + 1) t
end
theorem Nl.at_lt : ∀ (l : Nl) (k : Nat) (v : Nt), l.at? k = some v → k < l.len
  | .nil, _, _, h => by cases h
  | .cons h t, 0, _, _ => Nat.succ_pos _
  | .cons h t, k + 1, v, e => Nat.succ_lt_succ (Nl.at_lt t k v e)
theorem Nl.lt_at : ∀ (l : Nl) (k : Nat), k < l.len → ∃ v, l.at? k = some v
  | .nil, _, h => absurd h (Nat.not_lt_zero _)
  | .cons h t, 0, _ => ⟨h, rfl⟩
  | .cons h t, k + 1, e => Nl.lt_at t k (Nat.lt_of_succ_lt_succ e)
theorem Nl.in_at {w : World} {a : Option Addr} : ∀ (l : Nl) (i k : Nat) (v : Nt), Nl.In w a i l → l.at? k = some v → CellsN w a (i + k) v ∧ v.In w
  | .nil, _, _, _, _, h => by cases h
  | .cons h t, i, 0, v, hin, e => by
    rw [Nl.In] at hin
    obtain rfl : h = v := by simpa [Nl.at?] using e
    exact ⟨hin.1, hin.2.1⟩
  | .cons h t, i, k + 1, v, hin, e => by
    rw [Nl.In] at hin
    have := Nl.in_at t (i + 1) k v hin.2.2 e
    rwa [show i + 1 + k = i + (k + 1) by omega] at this
/-! ### It stays -/
theorem StrsAt.below {w w' : World} {v : Value} {l : List ByteArray} (h : StrsAt w v l) (hb : Below w.heap.size w w') : StrsAt w' v l := by
  obtain ⟨a, cap, rfl, h1, h2, hc⟩ := h
  refine ⟨a, cap, rfl, h1, h2, fun k s hk => ?_⟩
  obtain ⟨g, off, e, hg, hc, hs⟩ := hc k s hk
  exact ⟨g, off, e, Nat.lt_of_lt_of_le hg hb.size, (hb.cell hg).trans hc, hs⟩
theorem CellsN.below {w w' : World} {a : Option Addr} {i : Nat} {v : Nt} (h : CellsN w a i v) (hb : Below w.heap.size w w') : CellsN w' a i v := by
  obtain ⟨g, off, e, hg, hc⟩ := h
  exact ⟨g, off, e, Nat.lt_of_lt_of_le hg hb.size, fun j hj => (hb.cell hg).trans (hc j hj)⟩
mutual
theorem Nt.In.below {w w' : World} (hb : Below w.heap.size w w') : ∀ {v : Nt}, v.In w → v.In w'
  | .mk k n s nv names kv kids, h => by
    rw [Nt.In] at h ⊢
    obtain ⟨h1, h2, h3, h4, a, cap, h5, h6, h7, h8⟩ := h
    exact ⟨h1, h2, h3, h4.below hb, a, cap, h5, h6, h7, Nl.In.below hb h8⟩
theorem Nl.In.below {w w' : World} (hb : Below w.heap.size w w') : ∀ {l : Nl} {a : Option Addr} {i : Nat}, l.In w a i → l.In w' a i
  | .nil, _, _, _ => by rw [Nl.In]; trivial
  | .cons h t, a, i, e => by
    rw [Nl.In] at e ⊢
    exact ⟨e.1.below hb, Nt.In.below hb e.2.1, Nl.In.below hb e.2.2⟩
end
/-! ### Opened -/
/-- So many, from a place on. -/
def Nl.gen (f : Nat → Nt) : Nat → Nat → Nl
  | 0, _ => .nil
  | c + 1, i => .cons (f i) (Nl.gen f c (i + 1))
theorem Nl.gen_len (f : Nat → Nt) : ∀ c i, (Nl.gen f c i).len = c
  | 0, _ => rfl
  | c + 1, i => by rw [Nl.gen, Nl.len, Nl.gen_len f c (i + 1)]
theorem Nl.gen_in {w : World} {a : Option Addr} {f : Nat → Nt} : ∀ (c i : Nat), (∀ j, i ≤ j → j < i + c → CellsN w a j (f j) ∧ (f j).In w) → Nl.In w a i (Nl.gen f c i)
  | 0, _, _ => by rw [Nl.gen, Nl.In]; trivial
  | c + 1, i, h => by
    rw [Nl.gen, Nl.In]
    exact ⟨(h i (Nat.le_refl _) (by omega)).1, (h i (Nat.le_refl _) (by omega)).2, Nl.gen_in c (i + 1) fun j h1 h2 => h j (by omega) (by omega)⟩
section
variable {H : Type} {enc : TypeId × Value → H} {w : World} {base : Nat} {spare : Nat → Bool} {held : Bool}
theorem plain_at {a : Addr} {v : Value} (h : w.cell? (a.add 0) = some v) : a.spot = none ∧ a.block < w.heap.size := by
  have e : a.add 0 = a := by unfold Addr.add; rw [if_pos rfl]
  rw [e] at h
  exact ⟨World.cell?_spot h, World.block_lt_of_cell? _ _ h⟩
theorem open_strs {fuel : Nat} {cs : List Value} {x : DataW H × List MemPlace} (h : DataW.trod enc Tryz.prog w base spare held fuel 22 cs = some x) : ∃ v l, cs = [v] ∧ StrsAt w v l := by
  rcases DataW.trod_slice Tryz.underlying22 h with ⟨rfl, _⟩ | ⟨a, len, cap, elems, rest, n, rfl, rfl, _, hb, hl, hm, hlen, hel, _, _⟩
  · exact ⟨_, [], rfl, none, 0, rfl, Nat.le_refl _, Nat.zero_le _, fun k s hk => by simp at hk⟩
  · have hc : Tryz.prog.cellsOf 9 = 1 := by kernel_rfl
    rw [hc] at hel
    have hx : ∀ i, i < len → ∃ s : ByteArray, w.cell? (a.add i) = some (.string s) ∧ s.size ≤ maxLen := by
      intro i hi
      have := hel i hi
      rw [List.getElem?_eq_getElem (by omega), Nat.mul_one] at this
      obtain ⟨cs', h1, h2⟩ := Option.bind_eq_some_iff.1 this
      obtain ⟨s, rfl, _, hs⟩ := DataW.trod_string Tryz.underlying9 h2
      obtain ⟨_, _, h3⟩ := World.cells?_some h1
      have := h3 0 (by omega)
      rw [add_add] at this
      exact ⟨s, this, hs⟩
    obtain ⟨f, hf⟩ := choose_lt hx
    refine ⟨_, (List.range len).map f, rfl, some a, cap, by simp, by simpa using hl, hm, fun k s hk => ?_⟩
    have hk2 : k < len := by have := (List.getElem?_eq_some_iff.1 hk).1; simpa using this
    have hks : f k = s := by simpa [hk2] using hk
    obtain ⟨f1, f2⟩ := hf k hk2
    obtain ⟨p1, p2⟩ := plain_at (hf 0 (by omega)).1
    obtain ⟨g, off, sp⟩ := a
    obtain rfl : sp = none := p1
    rw [add_plain, hks] at f1
    exact ⟨g, off, rfl, p2, f1, by rw [← hks]; exact f2⟩
theorem open_node : ∀ (fuel : Nat) (cs : List Value) (x : DataW H × List MemPlace), DataW.trod enc Tryz.prog w base spare held fuel 25 cs = some x → ∃ v : Nt, cs = ntCells v ∧ v.In w := by
  intro fuel
  induction fuel using Nat.strongRecOn with
  | _ fuel ih =>
    intro cs x h
    obtain ⟨xs, n, rfl, rfl, hl, hlen, hf⟩ := DataW.trod_struct Tryz.underlying25 h
    have hc : Tryz.prog.cellsOf 25 = 5 := by kernel_rfl
    have e8 : Tryz.prog.cellsOf 5 = 1 := by kernel_rfl
    have e64 : Tryz.prog.cellsOf 3 = 1 := by kernel_rfl
    have es : Tryz.prog.cellsOf 9 = 1 := by kernel_rfl
    have en : Tryz.prog.cellsOf 22 = 1 := by kernel_rfl
    have ek : Tryz.prog.cellsOf 23 = 1 := by kernel_rfl
    rw [hc] at hl
    match cs, hl, xs, hlen with
    | [c0, c1, c2, c3, c4], _, [x0, x1, x2, x3, x4], _ =>
      have g0 := hf 0 _ rfl
      have g1 := hf 1 _ rfl
      have g2 := hf 2 _ rfl
      have g3 := hf 3 _ rfl
      have g4 := hf 4 _ rfl
      simp [e8, e64, es, en, ek] at g0 g1 g2 g3 g4
      obtain ⟨k, hk, _, wk⟩ := DataW.trod_int Tryz.underlying5 g0
      obtain ⟨m, hm, _, wm⟩ := DataW.trod_int Tryz.underlying3 g1
      obtain ⟨s, hs, _, ws⟩ := DataW.trod_string Tryz.underlying9 g2
      obtain ⟨nv, names, hn, wn⟩ := open_strs g3
      simp at hk hm hs hn
      subst hk hm hs hn
      have wk : 0 ≤ k ∧ k < 256 := by simp [Lit.wf, IntKind.min, IntKind.max, IntKind.bits, IntKind.signed] at wk; omega
      have wm : -9223372036854775808 ≤ m ∧ m < 9223372036854775808 := by simp [Lit.wf, IntKind.min, IntKind.max, IntKind.bits, IntKind.signed] at wm; omega
      rcases DataW.trod_slice Tryz.underlying23 g4 with ⟨hv, _⟩ | ⟨a, len, cap, elems, rest, q, hq, hv, _, hb, hl, hcap, hlen, hel, _, _⟩
      · simp at hv
        subst hv
        exact ⟨.mk k m s c3 names (.slice none 0 0) .nil, rfl, by rw [Nt.In]; exact ⟨wk, wm, ws, wn, none, 0, rfl, Nat.le_refl _, Nat.zero_le _, by rw [Nl.In]; trivial⟩⟩
      · simp at hv
        subst hv
        rw [hc] at hel
        have hsp : 0 < len → a.spot = none ∧ a.block < w.heap.size := by
          intro hi
          have := hel 0 hi
          rw [List.getElem?_eq_getElem (by omega)] at this
          obtain ⟨cs', h1, h2⟩ := Option.bind_eq_some_iff.1 this
          obtain ⟨v, rfl, hv⟩ := ih q (by omega) _ _ h2
          obtain ⟨_, _, h3⟩ := World.cells?_some h1
          have h0 := h3 0 (by omega)
          rw [add_add] at h0
          cases v
          exact plain_at h0
        have hx : ∀ i, i < len → ∃ v : Nt, CellsN w (some a) i v ∧ v.In w := by
          intro i hi
          have := hel i hi
          rw [List.getElem?_eq_getElem (by omega)] at this
          obtain ⟨cs', h1, h2⟩ := Option.bind_eq_some_iff.1 this
          obtain ⟨v, rfl, hv⟩ := ih q (by omega) _ _ h2
          obtain ⟨_, _, h3⟩ := World.cells?_some h1
          obtain ⟨p1, p2⟩ := hsp (by omega)
          obtain ⟨g, off, sp⟩ := a
          obtain rfl : sp = none := p1
          refine ⟨v, ⟨g, off, rfl, p2, fun j hj => ?_⟩, hv⟩
          have := h3 j hj
          rwa [add_add, add_plain, ← Nat.add_assoc] at this
        obtain ⟨f, hf⟩ := choose_lt hx
        refine ⟨.mk k m s c3 names (.slice (some a) len cap) (Nl.gen f len 0), rfl, ?_⟩
        rw [Nt.In]
        refine ⟨wk, wm, ws, wn, some a, cap, ?_, ?_, hcap, Nl.gen_in len 0 fun j _ hj => hf j (by omega)⟩
        · rw [Nl.gen_len]
        · rw [Nl.gen_len]; exact hl
end
end Go.Proofs.YtbkceneakdbdkaaGreatDoor
/- Plain: how many parts are left; a value of the document's as JSON has it. -/
namespace Go.Proofs.YtbkceneakdbdkaaGreatDoor
set_option maxRecDepth 20000
set_option linter.unusedVariables false
set_option linter.unusedSimpArgs false
def Nl.drop : Nl → Nat → Nl
  | l, 0 => l
  | .nil, _ + 1 => .nil
  | .cons _ t, i + 1 => t.drop i
theorem Nl.drop_zero (l : Nl) : l.drop 0 = l := by cases l <;> rfl
theorem Nl.drop_at : ∀ (l : Nl) (i : Nat) (v : Nt), l.at? i = some v → l.drop i = .cons v (l.drop (i + 1))
  | .nil, _, _, h => by cases h
  | .cons h t, 0, v, e => by
    obtain rfl : h = v := by simpa [Nl.at?] using e
    rw [Nl.drop_zero]
    show Nl.cons h t = .cons h (t.drop 0)
    rw [Nl.drop_zero]
  | .cons h t, i + 1, v, e => Nl.drop_at t i v e
theorem Nl.drop_len : ∀ l : Nl, l.drop l.len = .nil
  | .nil => rfl
  | .cons h t => Nl.drop_len t
mutual
/-- How many parts are left behind a value. -/
def wgV (left : Int) : Nt → Int
  | .mk k n s _ names _ kids => if left < 1 ∨ 300 < s.size ∨ (k = 6 ∧ names.length ≠ kids.len) ∨ n < -4611686018427387904 then -1 else if ∃ x ∈ names, 300 < x.size then -1 else wgL (left - 1) kids
def wgL (left : Int) : Nl → Int
  | .nil => left
  | .cons h t => if wgV left h < 0 then -1 else wgL (wgV left h) t
end
mutual
theorem wgV_le (left : Int) (h0 : 0 ≤ left) : ∀ v : Nt, -1 ≤ wgV left v ∧ wgV left v ≤ left
  | .mk k n s _ names _ kids => by
    rw [wgV]
    split
    · omega
    · split
      · omega
      · rename_i h1 _
        have := wgL_le (left - 1) (by omega) kids
        omega
theorem wgL_le (left : Int) (h0 : 0 ≤ left) : ∀ l : Nl, -1 ≤ wgL left l ∧ wgL left l ≤ left
  | .nil => by rw [wgL]; omega
  | .cons h t => by
    rw [wgL]
    have := wgV_le left h0 h
    split
    · omega
    · have := wgL_le (wgV left h) (by omega) t
      omega
end
mutual
/-- What a value of the document's is. -/
def toJ : Nt → Js
  | .mk k n s _ names _ kids => if k = 0 then .nul else if k = 1 then .bool false else if k = 2 then .bool true else if k = 3 then .num n else if k = 4 then .str (bI s) else if k = 5 then .arr (toL false [] kids) else if k = 6 then .obj (toL true names kids) else .bad
def toL (ob : Bool) (names : List ByteArray) : Nl → Jl
  | .nil => .nil
  | .cons h t => .cons (if ob = true then bI (names.headD ByteArray.empty) else []) (toJ h) (toL ob names.tail t)
end
theorem toL_len (ob : Bool) : ∀ (l : Nl) (names : List ByteArray), (toL ob names l).length = l.len
  | .nil, _ => by rw [toL]; rfl
  | .cons h t, names => by rw [toL, Jl.length, toL_len ob t, Nl.len]
mutual
theorem bare_toJ : ∀ v : Nt, bareV (toJ v)
  | .mk k n s _ names _ kids => by
    rw [toJ]
    repeat' split
    all_goals first | (simp only [bareV]; done) | (rw [bareV]; exact bare_toL _ _ kids) | skip
theorem bare_toL (ob : Bool) (names : List ByteArray) : ∀ l : Nl, bareL ob (toL ob names l)
  | .nil => by rw [toL, bareL]; trivial
  | .cons h t => by
    rw [toL, bareL]
    exact ⟨fun e => by rw [e]; rfl, bare_toJ h, bare_toL ob names.tail t⟩
end
theorem wgL_len : ∀ (l : Nl) (left : Int), 0 ≤ left → 0 ≤ wgL left l → (l.len : Int) ≤ left - wgL left l
  | .nil, left, _, _ => by rw [wgL, Nl.len]; simp
  | .cons v t, left, h0, h => by
    rw [wgL] at h ⊢
    by_cases h1 : wgV left v < 0
    · rw [if_pos h1] at h; omega
    rw [if_neg h1] at h ⊢
    have hv : wgV left v ≤ left - 1 := by
      obtain ⟨k, n, s, nv, names, kv, kids⟩ := v
      rw [wgV] at h1 ⊢
      split at h1
      · omega
      · rename_i h2
        rw [if_neg h2]
        split at h1
        · omega
        · rename_i h3
          rw [if_neg h3]
          exact (wgL_le (left - 1) (by omega) kids).2
    have := wgL_len t (wgV left v) (by omega) h
    rw [Nl.len]
    omega
mutual
/-- What is light is built as it should be. -/
def Fit : Nt → Prop
  | .mk k n s _ names _ kids => s.size ≤ 300 ∧ (k = 6 → names.length = kids.len) ∧ (-4611686018427387904 ≤ n ∧ kids.len ≤ 100000) ∧ (∀ x ∈ names, x.size ≤ 300) ∧ FitL kids
def FitL : Nl → Prop
  | .nil => True
  | .cons h t => Fit h ∧ FitL t
end
mutual
theorem fit_gen (left : Int) (hl : left ≤ 100000) : ∀ v : Nt, 0 ≤ wgV left v → Fit v
  | .mk k n s _ names _ kids, h => by
    rw [wgV] at h
    rw [Fit]
    by_cases h1 : left < 1 ∨ 300 < s.size ∨ (k = 6 ∧ names.length ≠ kids.len) ∨ n < -4611686018427387904
    · rw [if_pos h1] at h; omega
    rw [if_neg h1] at h
    by_cases h2 : ∃ x ∈ names, 300 < x.size
    · rw [if_pos h2] at h; omega
    rw [if_neg h2] at h
    have hk := wgL_len kids (left - 1) (by omega) h
    refine ⟨by omega, fun e => ?_, ⟨by omega, by omega⟩, fun x hx => ?_, fit_genL _ (by omega) kids h⟩
    · by_cases e2 : names.length = kids.len
      · exact e2
      · exact absurd (.inr (.inr (.inl ⟨e, e2⟩))) h1
    · exact Nat.le_of_not_lt fun e => h2 ⟨x, hx, e⟩
theorem fit_genL (left : Int) (hl : left ≤ 100000) : ∀ l : Nl, 0 ≤ wgL left l → FitL l
  | .nil, _ => by rw [FitL]; trivial
  | .cons h t, e => by
    rw [wgL] at e
    rw [FitL]
    by_cases h1 : wgV left h < 0
    · rw [if_pos h1] at e; omega
    rw [if_neg h1] at e
    have h2 : wgV left h ≤ 100000 := by
      by_cases h0 : 0 ≤ left
      · have := (wgV_le left h0 h).2; omega
      · obtain ⟨k, n, s, nv, names, kv, kids⟩ := h
        rw [wgV, if_pos (.inl (by omega))]
        omega
    exact ⟨fit_gen left hl h (by omega), fit_genL _ h2 t e⟩
end
theorem fit_of (left : Int) (v : Nt) (h : 0 ≤ wgV left v) (hl : left ≤ 100000 := by omega) : Fit v := fit_gen left hl v h
end Go.Proofs.YtbkceneakdbdkaaGreatDoor
/- The document's weigh. -/
namespace Go.Proofs.YtbkceneakdbdkaaGreatDoor
open Go.RowKit
set_option maxRecDepth 20000
set_option linter.unusedVariables false
set_option linter.unusedSimpArgs false
theorem maxL : maxLen = 9223372036854775807 := by decide
def ntA (v : Nt) : Value := .agg (ntCells v).toArray
def BoxAt (w : World) (b : Nat) (k n : Int) (s : ByteArray) (nv kv : Value) : Prop := w.cell? ⟨b, 0, none⟩ = some (.int .u8 k) ∧ w.cell? ⟨b, 1, none⟩ = some (.int .i64 n) ∧ w.cell? ⟨b, 2, none⟩ = some (.string s) ∧ w.cell? ⟨b, 3, none⟩ = some nv ∧ w.cell? ⟨b, 4, none⟩ = some kv
theorem BoxAt.made (w : World) (k n : Int) (s : ByteArray) (nv kv : Value) (T : TypeId) : BoxAt (w.alloc (.cells #[.int .u8 k, .int .i64 n, .string s, nv, kv] T)) w.heap.size k n s nv kv := by
  refine ⟨?_, ?_, ?_, ?_, ?_⟩ <;> rw [World.cell?_alloc_mark] <;> rfl
theorem cell_kept {w w' : World} {a : Addr} {v : Value} (hb : Below w.heap.size w w') (h : w.cell? a = some v) : w'.cell? a = some v := (hb.cell (World.block_lt_of_cell? _ _ h)).trans h
theorem BoxAt.later {w w' : World} {b : Nat} {k n : Int} {s : ByteArray} {nv kv : Value} (h : BoxAt w b k n s nv kv) (hb : Below w.heap.size w w') : BoxAt w' b k n s nv kv :=
  ⟨cell_kept hb h.1, cell_kept hb h.2.1, cell_kept hb h.2.2.1, cell_kept hb h.2.2.2.1, cell_kept hb h.2.2.2.2⟩
def WeighOk (v : Nt) : Prop := ∀ (left : Int) (w : World), v.In w → 0 ≤ left → left ≤ 100000 → Calls Tryz.prog 22 #[ntA v, .int .i64 left] w fun x w' => x = .returned (.int .i64 (wgV left v)) ∧ Below w.heap.size w w'
set_option maxHeartbeats 1000000 in
theorem weigh_step (k n : Int) (s : ByteArray) (nv : Value) (names : List ByteArray) (kv : Value) (kids : Nl) (HK : ∀ i v, kids.at? i = some v → WeighOk v) : WeighOk (.mk k n s nv names kv kids) := by
  intro left w hin h0 h1
  rw [Nt.In] at hin
  obtain ⟨⟨k0, k1⟩, ⟨n0, n1⟩, hs, ⟨na, ncap, rfl, nl, nm, hn⟩, a, cap, rfl, kl, km, hk⟩ := hin
  have HK := Lib.hid HK
  have HN := Lib.hid hn
  have HI := Lib.hid hk
  obtain ⟨R, hR⟩ : ∃ R, wgV left (.mk k n s (.slice na names.length ncap) names (.slice a kids.len cap) kids) = R := ⟨_, rfl⟩
  rw [hR]
  rw [wgV] at hR
  unfold ntA ntCells
  have hns : (names.length : Int) ≤ 9223372036854775807 := by rw [maxL] at *; omega
  have hks : (kids.len : Int) ≤ 9223372036854775807 := by rw [maxL] at *; omega
  clear hn hk
  by_cases c1 : left < 1
  · have : R = -1 := by rw [← hR, if_pos (.inl c1)]
    subst this
    clear hR
    have d1 : decide (left < 1) = true := by simpa using c1
    go_enter Tryz.func22, Tryz.ntmps22
    go_wp2_with fail
    go_ret
    exact ⟨rfl, by go_grown⟩
  have d1 : decide (left < 1) = false := by simpa using c1
  by_cases c2 : 300 < s.size
  · have : R = -1 := by rw [← hR, if_pos (.inr (.inl c2))]
    subst this
    clear hR
    have d2 : decide (300 < (s.size : Int)) = true := by simp; omega
    go_enter Tryz.func22, Tryz.ntmps22
    go_wp2_with fail
    go_ret
    exact ⟨rfl, by go_grown⟩
  have d2 : decide (300 < (s.size : Int)) = false := by simp; omega
  by_cases c3 : k = 6 ∧ names.length ≠ kids.len
  · have : R = -1 := by rw [← hR, if_pos (.inr (.inr (.inl c3)))]
    subst this
    clear hR
    obtain ⟨rfl, c3⟩ := c3
    have d3 : ((names.length : Int) != (kids.len : Int)) = true := by simp; omega
    clear c3
    go_enter Tryz.func22, Tryz.ntmps22
    go_wp2_with fail
    go_ret
    exact ⟨rfl, by go_grown⟩
  have hp : (k == 6) = false ∨ k = 6 ∧ ((names.length : Int) != (kids.len : Int)) = false := by
    by_cases e : k = 6
    · refine .inr ⟨e, ?_⟩
      have : names.length = kids.len := by
        by_cases e2 : names.length = kids.len
        · exact e2
        · exact absurd ⟨e, e2⟩ c3
      simp; omega
    · exact .inl (by simpa using e)
  by_cases c4 : n < -4611686018427387904
  · have : R = -1 := by rw [← hR, if_pos (.inr (.inr (.inr c4)))]
    subst this
    clear hR c3
    have d4 : decide (n < -4611686018427387904) = true := by simpa using c4
    rcases hp with hp | ⟨rfl, hp⟩
    · go_enter Tryz.func22, Tryz.ntmps22
      go_wp2_with fail
      go_ret
      exact ⟨rfl, by go_grown⟩
    · go_enter Tryz.func22, Tryz.ntmps22
      go_wp2_with fail
      go_ret
      exact ⟨rfl, by go_grown⟩
  have d4 : decide (n < -4611686018427387904) = false := by simpa using c4
  rw [if_neg (by rintro (e | e | e | e); exact c1 e; exact c2 e; exact c3 e; exact c4 e)] at hR
  clear c1 c2 c3 c4
  have HR := Lib.hid hR
  clear hR
  rcases hp with hp | ⟨rfl, hp⟩
  · go_enter Tryz.func22, Tryz.ntmps22
    go_wp2_with fail
    go_loop [5] (fun z => ∃ i : Nat, i ≤ names.length ∧ z = .int .i64 i ∧ Hid (∀ j x, j < i → names[j]? = some x → ¬ 300 < x.size)) (fun z => names.length - (intOf z).toNat)
    case atStart => exact ⟨0, Nat.zero_le _, rfl, Lib.hid fun j x h _ => absurd h (Nat.not_lt_zero _)⟩
    case round =>
      obtain ⟨i, hi, rfl, HJ⟩ := hrel
      by_cases hlt : i < names.length
      · have hi2 : (i : Int) < (names.length : Int) := by omega
        obtain ⟨t, ht⟩ : ∃ t, names[i]? = some t := ⟨_, List.getElem?_eq_getElem hlt⟩
        obtain ⟨g, off, rfl, hg, hc, _⟩ := HN.out i t ht
        have HT := Lib.hid ht
        clear ht
        by_cases hb : 300 < t.size
        · have hR1 : R = -1 := by rw [← HR.out, if_pos ⟨t, List.mem_of_getElem? HT.out, hb⟩]
          subst hR1
          have hd : decide (300 < (t.size : Int)) = true := by simp; omega
          go_wp2_with fail
          go_ret
          exact ⟨rfl, by go_grown⟩
        · have hd : decide (300 < (t.size : Int)) = false := by simp; omega
          go_wp2_with fail
          go_roundw
          case rel =>
            refine ⟨i + 1, by omega, by go_num, Lib.hid fun j x hj hx => ?_⟩
            rcases Nat.lt_or_ge j i with e | e
            · exact HJ.out j x e hx
            · obtain rfl : j = i := by omega
              rw [HT.out] at hx
              obtain rfl : t = x := by simpa using hx
              exact hb
          case measure => simp [intOf]; omega
      · obtain rfl : i = names.length := by omega
        have HR2 : Hid (wgL (left - 1) kids = R) := Lib.hid (by
          have := HR.out
          rwa [if_neg] at this
          rintro ⟨x, hx, hb⟩
          obtain ⟨j, hj⟩ := List.getElem?_of_mem hx
          exact HJ.out j x (List.getElem?_eq_some_iff.1 hj).1 hj hb)
        have l1 : 1 ≤ left := by simpa using d1
        have hwl : IntKind.i64.wrap (left - 1) = left - 1 := by rw [IntKind.wrap_i64] <;> omega
        clear HJ HR HN hi hlt
        have HX := Lib.hid (BoxAt.made w k n s (.slice na names.length ncap) (.slice a kids.len cap) 25)
        go_wp2_with fail
        go_loopw [1, 6] (fun l z wr => ∃ (i : Nat) (x : Int), i ≤ kids.len ∧ z = .int .i64 i ∧ l = .int .i64 x ∧ 0 ≤ x ∧ x ≤ 100000 ∧ Hid (wgL x (kids.drop i) = R) ∧ BoxAt wr w.heap.size k n s (.slice na names.length ncap) (.slice a kids.len cap) ∧ Below w.heap.size w wr) (fun _ z _ => kids.len - (intOf z).toNat)
        case atStart => exact ⟨0, left - 1, Nat.zero_le _, rfl, rfl, by omega, by omega, Lib.hid (by rw [Nl.drop_zero]; exact HR2.out), HX.out, (Below.refl _ _).alloc (Nat.le_refl _) _⟩
        case round =>
          obtain ⟨i, x, hi, rfl, rfl, x0, x1, HW, hbx, hbw⟩ := hrel
          by_cases hlt : i < kids.len
          · have hi2 : (i : Int) < (kids.len : Int) := by omega
            obtain ⟨v, hv⟩ := Nl.lt_at kids i hlt
            obtain ⟨⟨g, off, rfl, hg, hc⟩, hin⟩ := Nl.in_at kids 0 i v HI.out hv
            rw [Nat.zero_add] at hc
            have HC := HK.out i v hv x wr (hin.below hbw) x0 x1
            have HD : Hid (wgL x (kids.drop i) = if wgV x v < 0 then -1 else wgL (wgV x v) (kids.drop (i + 1))) := Lib.hid (by rw [Nl.drop_at kids i v hv, wgL])
            have hle := wgV_le x x0 v
            obtain ⟨y, hy⟩ : ∃ y, wgV x v = y := ⟨_, rfl⟩
            rw [hy] at HC HD hle
            obtain ⟨k', n', s', nv', names', kv', kids'⟩ := v
            have e0 := (hbw.cell hg).trans (hc 0 (by omega))
            have e1 := (hbw.cell hg).trans (hc 1 (by omega))
            have e2 := (hbw.cell hg).trans (hc 2 (by omega))
            have e3 := (hbw.cell hg).trans (hc 3 (by omega))
            have e4 := (hbw.cell hg).trans (hc 4 (by omega))
            simp only [ntCells, Nat.add_zero, List.getElem?_cons_zero, List.getElem?_cons_succ] at e0 e1 e2 e3 e4
            unfold ntA ntCells at HC
            have HC := Lib.hid HC
            have HBX := Lib.hid hbx
            have HBW := Lib.hid hbw
            obtain ⟨b0, b1, b2, b3, b4⟩ := hbx
            clear hc hin hv hy hbw
            go_wp2_with fail
            refine HC.out.mono ?_
            rintro e w1 ⟨rfl, hb⟩
            have hbx1 := HBX.out.later hb
            have hbw1 := HBW.out.trans (hb.mono HBW.out.size)
            have HX1 := Lib.hid hbx1
            have HW1 := Lib.hid hbw1
            clear b0 b1 b2 b3 b4 e0 e1 e2 e3 e4 hb hbw1
            obtain ⟨b0, b1, b2, b3, b4⟩ := hbx1
            by_cases hy : y < 0
            · have hR1 : R = -1 := by rw [← HW.out, HD.out, if_pos (by omega)]
              subst hR1
              have hd : decide (y < 0) = true := by simpa using hy
              go_wp2_with fail
              go_ret
              exact ⟨rfl, HW1.out⟩
            · have hd : decide (y < 0) = false := by simpa using hy
              go_wp2_with fail
              go_roundw
              case rel => exact ⟨i + 1, y, by omega, by go_num, rfl, by omega, by omega, Lib.hid (by rw [← HW.out, HD.out, if_neg (by omega)]), HX1.out, HW1.out⟩
              case measure => simp [intOf]; omega
          · obtain rfl : i = kids.len := by omega
            have hx : x = R := by have := HW.out; rwa [Nl.drop_len, wgL] at this
            obtain ⟨b0, b1, b2, b3, b4⟩ := hbx
            have HBW := Lib.hid hbw
            clear hbw
            go_wp2_with fail
            go_ret
            exact ⟨by rw [hx]; rfl, HBW.out⟩
  · go_enter Tryz.func22, Tryz.ntmps22
    go_wp2_with fail
    go_loop [5] (fun z => ∃ i : Nat, i ≤ names.length ∧ z = .int .i64 i ∧ Hid (∀ j x, j < i → names[j]? = some x → ¬ 300 < x.size)) (fun z => names.length - (intOf z).toNat)
    case atStart => exact ⟨0, Nat.zero_le _, rfl, Lib.hid fun j x h _ => absurd h (Nat.not_lt_zero _)⟩
    case round =>
      obtain ⟨i, hi, rfl, HJ⟩ := hrel
      by_cases hlt : i < names.length
      · have hi2 : (i : Int) < (names.length : Int) := by omega
        obtain ⟨t, ht⟩ : ∃ t, names[i]? = some t := ⟨_, List.getElem?_eq_getElem hlt⟩
        obtain ⟨g, off, rfl, hg, hc, _⟩ := HN.out i t ht
        have HT := Lib.hid ht
        clear ht
        by_cases hb : 300 < t.size
        · have hR1 : R = -1 := by rw [← HR.out, if_pos ⟨t, List.mem_of_getElem? HT.out, hb⟩]
          subst hR1
          have hd : decide (300 < (t.size : Int)) = true := by simp; omega
          go_wp2_with fail
          go_ret
          exact ⟨rfl, by go_grown⟩
        · have hd : decide (300 < (t.size : Int)) = false := by simp; omega
          go_wp2_with fail
          go_roundw
          case rel =>
            refine ⟨i + 1, by omega, by go_num, Lib.hid fun j x hj hx => ?_⟩
            rcases Nat.lt_or_ge j i with e | e
            · exact HJ.out j x e hx
            · obtain rfl : j = i := by omega
              rw [HT.out] at hx
              obtain rfl : t = x := by simpa using hx
              exact hb
          case measure => simp [intOf]; omega
      · obtain rfl : i = names.length := by omega
        have HR2 : Hid (wgL (left - 1) kids = R) := Lib.hid (by
          have := HR.out
          rwa [if_neg] at this
          rintro ⟨x, hx, hb⟩
          obtain ⟨j, hj⟩ := List.getElem?_of_mem hx
          exact HJ.out j x (List.getElem?_eq_some_iff.1 hj).1 hj hb)
        have l1 : 1 ≤ left := by simpa using d1
        have hwl : IntKind.i64.wrap (left - 1) = left - 1 := by rw [IntKind.wrap_i64] <;> omega
        clear HJ HR HN hi hlt
        have HX := Lib.hid (BoxAt.made w 6 n s (.slice na names.length ncap) (.slice a kids.len cap) 25)
        go_wp2_with fail
        go_loopw [1, 6] (fun l z wr => ∃ (i : Nat) (x : Int), i ≤ kids.len ∧ z = .int .i64 i ∧ l = .int .i64 x ∧ 0 ≤ x ∧ x ≤ 100000 ∧ Hid (wgL x (kids.drop i) = R) ∧ BoxAt wr w.heap.size 6 n s (.slice na names.length ncap) (.slice a kids.len cap) ∧ Below w.heap.size w wr) (fun _ z _ => kids.len - (intOf z).toNat)
        case atStart => exact ⟨0, left - 1, Nat.zero_le _, rfl, rfl, by omega, by omega, Lib.hid (by rw [Nl.drop_zero]; exact HR2.out), HX.out, (Below.refl _ _).alloc (Nat.le_refl _) _⟩
        case round =>
          obtain ⟨i, x, hi, rfl, rfl, x0, x1, HW, hbx, hbw⟩ := hrel
          by_cases hlt : i < kids.len
          · have hi2 : (i : Int) < (kids.len : Int) := by omega
            obtain ⟨v, hv⟩ := Nl.lt_at kids i hlt
            obtain ⟨⟨g, off, rfl, hg, hc⟩, hin⟩ := Nl.in_at kids 0 i v HI.out hv
            rw [Nat.zero_add] at hc
            have HC := HK.out i v hv x wr (hin.below hbw) x0 x1
            have HD : Hid (wgL x (kids.drop i) = if wgV x v < 0 then -1 else wgL (wgV x v) (kids.drop (i + 1))) := Lib.hid (by rw [Nl.drop_at kids i v hv, wgL])
            have hle := wgV_le x x0 v
            obtain ⟨y, hy⟩ : ∃ y, wgV x v = y := ⟨_, rfl⟩
            rw [hy] at HC HD hle
            obtain ⟨k', n', s', nv', names', kv', kids'⟩ := v
            have e0 := (hbw.cell hg).trans (hc 0 (by omega))
            have e1 := (hbw.cell hg).trans (hc 1 (by omega))
            have e2 := (hbw.cell hg).trans (hc 2 (by omega))
            have e3 := (hbw.cell hg).trans (hc 3 (by omega))
            have e4 := (hbw.cell hg).trans (hc 4 (by omega))
            simp only [ntCells, Nat.add_zero, List.getElem?_cons_zero, List.getElem?_cons_succ] at e0 e1 e2 e3 e4
            unfold ntA ntCells at HC
            have HC := Lib.hid HC
            have HBX := Lib.hid hbx
            have HBW := Lib.hid hbw
            obtain ⟨b0, b1, b2, b3, b4⟩ := hbx
            clear hc hin hv hy hbw
            go_wp2_with fail
            refine HC.out.mono ?_
            rintro e w1 ⟨rfl, hb⟩
            have hbx1 := HBX.out.later hb
            have hbw1 := HBW.out.trans (hb.mono HBW.out.size)
            have HX1 := Lib.hid hbx1
            have HW1 := Lib.hid hbw1
            clear b0 b1 b2 b3 b4 e0 e1 e2 e3 e4 hb hbw1
            obtain ⟨b0, b1, b2, b3, b4⟩ := hbx1
            by_cases hy : y < 0
            · have hR1 : R = -1 := by rw [← HW.out, HD.out, if_pos (by omega)]
              subst hR1
              have hd : decide (y < 0) = true := by simpa using hy
              go_wp2_with fail
              go_ret
              exact ⟨rfl, HW1.out⟩
            · have hd : decide (y < 0) = false := by simpa using hy
              go_wp2_with fail
              go_roundw
              case rel => exact ⟨i + 1, y, by omega, by go_num, rfl, by omega, by omega, Lib.hid (by rw [← HW.out, HD.out, if_neg (by omega)]), HX1.out, HW1.out⟩
              case measure => simp [intOf]; omega
          · obtain rfl : i = kids.len := by omega
            have hx : x = R := by have := HW.out; rwa [Nl.drop_len, wgL] at this
            obtain ⟨b0, b1, b2, b3, b4⟩ := hbx
            have HBW := Lib.hid hbw
            clear hbw
            go_wp2_with fail
            go_ret
            exact ⟨by rw [hx]; rfl, HBW.out⟩
mutual
theorem weigh_any : ∀ v : Nt, WeighOk v
  | .mk k n s nv names kv kids => weigh_step k n s nv names kv kids (weigh_kids kids)
theorem weigh_kids : ∀ (l : Nl) (i : Nat) (v : Nt), l.at? i = some v → WeighOk v
  | .nil, _, _, h => by cases h
  | .cons h t, 0, v, e => by
    obtain rfl : h = v := by simpa [Nl.at?] using e
    exact weigh_any h
  | .cons h t, i + 1, v, e => weigh_kids t i v e
end
end Go.Proofs.YtbkceneakdbdkaaGreatDoor
/- The document's Light and Digits. -/
namespace Go.Proofs.YtbkceneakdbdkaaGreatDoor
open Go.RowKit
set_option maxRecDepth 20000
set_option linter.unusedVariables false
set_option linter.unusedSimpArgs false
set_option maxHeartbeats 1000000 in
theorem light_any (v : Nt) (most : Int) (w : World) (hin : v.In w) (h0 : 0 ≤ most) (h1 : most ≤ 100000) : Calls Tryz.prog 6 #[ntA v, .int .i64 most] w fun x w' => x = .returned (.bool (decide (0 ≤ wgV most v))) ∧ Below w.heap.size w w' := by
  have hal : ∀ T : TypeId, Below w.heap.size w (w.alloc (.cells (ntCells v).toArray T)) := fun T => (Below.refl _ _).alloc (Nat.le_refl _) _
  have HC := Lib.hid (fun T => weigh_any v most (w.alloc (.cells (ntCells v).toArray T)) (hin.below (hal T)) h0 h1)
  have HB := Lib.hid hal
  clear hal
  obtain ⟨k, n, s, nv, names, kv, kids⟩ := v
  obtain ⟨y, hy⟩ : ∃ y, wgV most (.mk k n s nv names kv kids) = y := ⟨_, rfl⟩
  rw [hy] at HC ⊢
  clear hy hin
  unfold ntA at HC ⊢
  simp only [ntCells] at HC HB ⊢
  go_enter Tryz.func6, Tryz.ntmps6
  go_wp2_with fail
  refine (HC.out _).mono ?_
  rintro e w1 ⟨rfl, hb⟩
  go_wp2_with fail
  go_ret
  exact ⟨rfl, (HB.out _).trans (hb.mono (HB.out _).size)⟩
theorem digI_10 {n : Int} (h0 : 0 ≤ n) (h : n < 10) : digI n = [48 + n] := by
  rw [digI_pos (by omega), digN_lt (by omega), Int.toNat_of_nonneg h0]
theorem digI_more {n : Int} (h : 10 ≤ n) : digI n = digI (n / 10) ++ digI (n % 10) := by
  rw [digI_pos (by omega), digI_pos (by omega), digI_pos (by omega), digN_ge (by omega), digN_lt (n := (n % 10).toNat) (by omega)]
  congr 1
  · congr 1
    omega
  · congr 1
    omega
theorem digN_len (m : Nat) : ∀ n, n < 10 ^ m → (digN n).length ≤ m + 1 := by
  induction m with
  | zero => intro n h; rw [digN_lt (by omega)]; simp
  | succ m ih =>
    intro n h
    by_cases h10 : n < 10
    · rw [digN_lt h10]; simp
    · rw [digN_ge h10, List.length_append]
      have := ih (n / 10) (by rw [Nat.pow_succ] at h; omega)
      simp
      omega
theorem digI_len {n : Int} (h1 : -10000000000000000000 < n) (h2 : n < 10000000000000000000) : (digI n).length ≤ 21 := by
  by_cases h : n < 0
  · rw [digI_neg h, List.length_cons]
    have := digN_len 19 (-n).toNat (by omega)
    omega
  · rw [digI_pos h]
    have := digN_len 19 n.toNat (by omega)
    omega
def dig10 : ByteArray := { data := #[48, 49, 50, 51, 52, 53, 54, 55, 56, 57] }
theorem cut10 (n : Int) (h0 : 0 ≤ n) (h1 : n < 10) : dig10.extract n.toNat (n.toNat + 1) = str [48 + n] := by
  have : n = 0 ∨ n = 1 ∨ n = 2 ∨ n = 3 ∨ n = 4 ∨ n = 5 ∨ n = 6 ∨ n = 7 ∨ n = 8 ∨ n = 9 := by omega
  rcases this with rfl | rfl | rfl | rfl | rfl | rfl | rfl | rfl | rfl | rfl <;> rfl
set_option maxHeartbeats 1000000 in
theorem digits_pos : ∀ (f : Nat) (n : Int) (w : World), 0 ≤ n → n < f → n < 9223372036854775808 → Calls Tryz.prog 44 #[.int .i64 n] w fun x w' => x = .returned (.string (str (digI n))) ∧ Below w.heap.size w w' := by
  intro f
  induction f with
  | zero => intro n w h0 h1; omega
  | succ f ih =>
    intro n w h0 hf hn
    have hd0 : decide (n < 0) = false := by simp; omega
    by_cases h : n < 10
    · have hd : decide (n < 10) = true := by simpa using h
      have hc := cut10 n h0 h
      rw [← digI_10 h0 h] at hc
      have hw : IntKind.i64.wrap (n + 1) = n + 1 := by rw [IntKind.wrap_i64] <;> omega
      go_enter Tryz.func44, Tryz.ntmps44
      go_wp2_with fail
      go_ret
      refine ⟨?_, by go_grown⟩
      have e : (n + 1).toNat = n.toNat + 1 := by omega
      rw [← hc, ← e]
      rfl
    · have hd : decide (n < 10) = false := by simpa using h
      have ht : n.tdiv 10 = n / 10 := Int.tdiv_eq_ediv_of_nonneg h0
      have hm : n.tmod 10 = n % 10 := Int.tmod_eq_emod_of_nonneg h0
      have hw1 : IntKind.i64.wrap (n / 10) = n / 10 := by rw [IntKind.wrap_i64] <;> omega
      have hw2 : IntKind.i64.wrap (n % 10) = n % 10 := by rw [IntKind.wrap_i64] <;> omega
      have l1 : (digI (n / 10)).length ≤ 21 := digI_len (by omega) (by omega)
      have l2 : (digI (n % 10)).length ≤ 21 := digI_len (by omega) (by omega)
      have s1 : (str (digI (n / 10))).size ≤ 21 := by rw [str_size]; exact l1
      have s2 : (str (digI (n % 10))).size ≤ 21 := by rw [str_size]; exact l2
      have I1 := Lib.hid (fun W => ih (n / 10) W (by omega) (by omega) (by omega))
      have I2 := Lib.hid (fun W => ih (n % 10) W (by omega) (by omega) (by omega))
      have HE := Lib.hid (digI_more (n := n) (by omega))
      clear ih l1 l2
      go_enter Tryz.func44, Tryz.ntmps44
      go_wp2_with fail
      refine (I1.out _).mono ?_
      rintro e w1 ⟨rfl, hb1⟩
      go_wp2_with fail
      refine (I2.out _).mono ?_
      rintro e w2 ⟨rfl, hb2⟩
      go_wp2_with fail
      go_ret
      refine ⟨?_, hb1.trans (hb2.mono hb1.size)⟩
      rw [HE.out, ← str_append]
      rfl
set_option maxHeartbeats 1000000 in
theorem digits_any (n : Int) (w : World) (h0 : -9223372036854775808 < n) (h1 : n < 9223372036854775808) : Calls Tryz.prog 44 #[.int .i64 n] w fun x w' => x = .returned (.string (str (digI n))) ∧ Below w.heap.size w w' := by
  by_cases h : n < 0
  · have hd : decide (n < 0) = true := by simpa using h
    have I := Lib.hid (fun W => digits_pos ((-n).toNat + 1) (-n) W (by omega) (by omega) (by omega))
    have HE : Hid (digI n = 45 :: digI (-n)) := Lib.hid (by rw [digI_neg h, digI_pos (by omega)])
    have l1 : (digI (-n)).length ≤ 21 := digI_len (by omega) (by omega)
    have s1 : (str (digI (-n))).size ≤ 21 := by rw [str_size]; exact l1
    have hw : IntKind.i64.wrap (-n) = -n := by rw [IntKind.wrap_i64] <;> omega
    clear l1
    go_enter Tryz.func44, Tryz.ntmps44
    go_wp2_with fail
    refine (I.out _).mono ?_
    rintro e w1 ⟨rfl, hb1⟩
    go_wp2_with fail
    go_ret
    refine ⟨?_, hb1⟩
    rw [HE.out, show (45 :: digI (-n)) = [45] ++ digI (-n) from rfl, ← str_append]
    rfl
  · exact digits_pos (n.toNat + 1) n w (by omega) (by omega) h1
end Go.Proofs.YtbkceneakdbdkaaGreatDoor
