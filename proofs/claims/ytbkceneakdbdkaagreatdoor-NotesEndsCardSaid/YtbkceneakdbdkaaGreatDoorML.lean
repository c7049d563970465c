/- Several texts, one behind the other: Nm, Nn, No, Nq. -/
import Derived.Test.YtbkceneakdbdkaaGreatDoorMK
import Derived.Laws.OwnMore
import Derived.Laws.AppendOwn
import Derived.Laws.AppendOwnNone
import Derived.OwnWalk
import Derived.Lib.AppendZeros
/- Values of the program's, as they lie in memory. Own of what is no list and no object. -/
namespace Go.Proofs.YtbkceneakdbdkaaGreatDoor
open Go.RowKit
set_option maxRecDepth 20000
set_option linter.unusedVariables false
set_option linter.unusedSimpArgs false
mutual
/-- x is the value v; all blocks that it leads to are in S. -/
def AnyAt (S : Nat → Prop) (w : World) : Js → Value → Prop
  | .nul, x => x = .nilIface
  | .bool b, x => x = .iface 4 (.bool b)
  | .num n, x => x = .iface 3 (.int .i64 n)
  | .str s, x => ∃ t : ByteArray, x = .iface 9 (.string t) ∧ bI t = s ∧ s.length ≤ 5000
  | .arr l, x => ∃ a cap, x = .iface 57 (.slice a l.length cap) ∧ l.length ≤ cap ∧ cap ≤ maxLen ∧ RowA S w a 0 l
  | .obj l, x => ∃ a cap, x = .iface 58 (.slice a l.length cap) ∧ l.length ≤ cap ∧ cap ≤ maxLen ∧ RowP S w a 0 l
  | .bad, x => x = .iface 59 (.float .f64 4609434218613702656)
def RowA (S : Nat → Prop) (w : World) (a : Option Addr) (i : Nat) : Jl → Prop
  | .nil => True
  | .cons n v l => (∃ g off y, a = some ⟨g, off, none⟩ ∧ S g ∧ g < w.heap.size ∧ w.cell? ⟨g, off + i, none⟩ = some y ∧ AnyAt S w v y) ∧ RowA S w a (i + 1) l
def RowP (S : Nat → Prop) (w : World) (a : Option Addr) (i : Nat) : Jl → Prop
  | .nil => True
  | .cons n v l => (∃ g off y t, a = some ⟨g, off, none⟩ ∧ S g ∧ g < w.heap.size ∧ w.cell? ⟨g, off + i * 2, none⟩ = some (.string t) ∧ bI t = n ∧ n.length ≤ 5000 ∧ w.cell? ⟨g, off + i * 2 + 1, none⟩ = some y ∧ AnyAt S w v y) ∧ RowP S w a (i + 1) l
end
mutual
theorem AnyAt.keep {S S' : Nat → Prop} {w w' : World} (hS : ∀ b, S b → b < w.heap.size → S' b) (hs : w.heap.size ≤ w'.heap.size) (hk : ∀ b, S b → b < w.heap.size → w'.heap[b]? = w.heap[b]?) : ∀ (v : Js) (x : Value), AnyAt S w v x → AnyAt S' w' v x
  | .nul, x, h => by rw [AnyAt] at h ⊢; exact h
  | .bool b, x, h => by rw [AnyAt] at h ⊢; exact h
  | .num n, x, h => by rw [AnyAt] at h ⊢; exact h
  | .str s, x, h => by rw [AnyAt] at h ⊢; exact h
  | .arr l, x, h => by
    rw [AnyAt] at h ⊢
    obtain ⟨a, cap, h1, h2, h3, h4⟩ := h
    exact ⟨a, cap, h1, h2, h3, RowA.keep hS hs hk l a 0 h4⟩
  | .obj l, x, h => by
    rw [AnyAt] at h ⊢
    obtain ⟨a, cap, h1, h2, h3, h4⟩ := h
    exact ⟨a, cap, h1, h2, h3, RowP.keep hS hs hk l a 0 h4⟩
  | .bad, x, h => by rw [AnyAt] at h ⊢; exact h
theorem RowA.keep {S S' : Nat → Prop} {w w' : World} (hS : ∀ b, S b → b < w.heap.size → S' b) (hs : w.heap.size ≤ w'.heap.size) (hk : ∀ b, S b → b < w.heap.size → w'.heap[b]? = w.heap[b]?) : ∀ (l : Jl) (a : Option Addr) (i : Nat), RowA S w a i l → RowA S' w' a i l
  | .nil, a, i, h => by rw [RowA]; trivial
  | .cons n v l, a, i, h => by
    rw [RowA] at h ⊢
    obtain ⟨⟨g, off, y, h1, h2, h3, h4, h5⟩, h6⟩ := h
    exact ⟨⟨g, off, y, h1, hS g h2 h3, Nat.lt_of_lt_of_le h3 hs, (World.cell?_of_block (a := ⟨g, off + i, none⟩) (hk g h2 h3)).trans h4, AnyAt.keep hS hs hk v y h5⟩, RowA.keep hS hs hk l a (i + 1) h6⟩
theorem RowP.keep {S S' : Nat → Prop} {w w' : World} (hS : ∀ b, S b → b < w.heap.size → S' b) (hs : w.heap.size ≤ w'.heap.size) (hk : ∀ b, S b → b < w.heap.size → w'.heap[b]? = w.heap[b]?) : ∀ (l : Jl) (a : Option Addr) (i : Nat), RowP S w a i l → RowP S' w' a i l
  | .nil, a, i, h => by rw [RowP]; trivial
  | .cons n v l, a, i, h => by
    rw [RowP] at h ⊢
    obtain ⟨⟨g, off, y, t, h1, h2, h3, h4, h7, h8, h5, h9⟩, h6⟩ := h
    exact ⟨⟨g, off, y, t, h1, hS g h2 h3, Nat.lt_of_lt_of_le h3 hs, (World.cell?_of_block (a := ⟨g, off + i * 2, none⟩) (hk g h2 h3)).trans h4, h7, h8, (World.cell?_of_block (a := ⟨g, off + i * 2 + 1, none⟩) (hk g h2 h3)).trans h5, AnyAt.keep hS hs hk v y h9⟩, RowP.keep hS hs hk l a (i + 1) h6⟩
end
theorem AnyAt.below {S : Nat → Prop} {w w' : World} {v : Js} {x : Value} (h : AnyAt S w v x) (hb : Below w.heap.size w w') : AnyAt S w' v x := AnyAt.keep (fun _ e _ => e) hb.size (fun b _ hlt => hb.block b hlt) v x h
theorem AnyAt.mono {S S' : Nat → Prop} {w : World} {v : Js} {x : Value} (h : AnyAt S w v x) (hS : ∀ b, S b → S' b) : AnyAt S' w v x := AnyAt.keep (fun b e _ => hS b e) (Nat.le_refl _) (fun _ _ _ => rfl) v x h
/-- What Own answers: the value, in blocks of its own. -/
def OwnEnd (v : Nt) (w : World) (e : Ending) (w' : World) : Prop := (∃ x, e = .returned x ∧ AnyAt (fun b => w.heap.size ≤ b) w' (toJ v) x) ∧ Below w.heap.size w w'
def OwnOk (v : Nt) : Prop := ∀ w : World, v.In w → Fit v → Calls Tryz.prog 8 #[ntA v] w (OwnEnd v w)
set_option maxHeartbeats 1000000 in
theorem own_flat (k n : Int) (s : ByteArray) (nv : Value) (names : List ByteArray) (kv : Value) (kids : Nl) (h5 : k ≠ 5) (h6 : k ≠ 6) : OwnOk (.mk k n s nv names kv kids) := by
  intro w hin hfit
  rw [Nt.In] at hin
  obtain ⟨⟨k0, k1⟩, _⟩ := hin
  rw [Fit] at hfit
  have hs3 := hfit.1
  clear hfit
  unfold OwnEnd
  rw [toJ]
  show Calls _ _ #[.agg #[.int .u8 k, .int .i64 n, .string s, nv, kv]] _ _
  by_cases h7 : 6 < k
  · rw [if_neg (by omega), if_neg (by omega), if_neg (by omega), if_neg (by omega), if_neg (by omega), if_neg h5, if_neg h6]
    have d0 : (k == 0) = false := by rw [beq_eq_false_iff_ne]; omega
    have d1 : (k == 1) = false := by rw [beq_eq_false_iff_ne]; omega
    have d2 : (k == 2) = false := by rw [beq_eq_false_iff_ne]; omega
    have d3 : (k == 3) = false := by rw [beq_eq_false_iff_ne]; omega
    have d4 : (k == 4) = false := by rw [beq_eq_false_iff_ne]; omega
    have d5 : (k == 5) = false := by rw [beq_eq_false_iff_ne]; omega
    have d6 : (k == 6) = false := by rw [beq_eq_false_iff_ne]; omega
    simp only [AnyAt]
    clear h5 h6 h7
    go_enter Tryz.func8, Tryz.ntmps8
    go_wp2_with fail
    go_ret
    exact ⟨⟨_, rfl, rfl⟩, by go_grown⟩
  have : k = 0 ∨ k = 1 ∨ k = 2 ∨ k = 3 ∨ k = 4 := by omega
  rcases this with rfl | rfl | rfl | rfl | rfl
  · rw [if_pos rfl]
    simp only [AnyAt]
    go_enter Tryz.func8, Tryz.ntmps8
    go_wp2_with fail
    go_ret
    exact ⟨rfl, by go_grown⟩
  · rw [if_neg (by omega), if_pos rfl]
    simp only [AnyAt]
    go_enter Tryz.func8, Tryz.ntmps8
    go_wp2_with fail
    go_ret
    exact ⟨rfl, by go_grown⟩
  · rw [if_neg (by omega), if_neg (by omega), if_pos rfl]
    simp only [AnyAt]
    go_enter Tryz.func8, Tryz.ntmps8
    go_wp2_with fail
    go_ret
    exact ⟨rfl, by go_grown⟩
  · rw [if_neg (by omega), if_neg (by omega), if_neg (by omega), if_pos rfl]
    simp only [AnyAt]
    go_enter Tryz.func8, Tryz.ntmps8
    go_wp2_with fail
    go_ret
    exact ⟨rfl, by go_grown⟩
  · rw [if_neg (by omega), if_neg (by omega), if_neg (by omega), if_neg (by omega), if_pos rfl]
    simp only [AnyAt]
    have hbs : (bI s).length ≤ 5000 := by rw [bI_len]; omega
    have HBS := Lib.hid hbs
    clear hbs
    go_enter Tryz.func8, Tryz.ntmps8
    go_wp2_with fail
    go_ret
    exact ⟨⟨_, rfl, s, rfl, rfl, HBS.out⟩, by go_grown⟩
end Go.Proofs.YtbkceneakdbdkaaGreatDoor
/- An append of a row of one's own, told with where it lies; Own of a list. -/
namespace Go.Proofs.YtbkceneakdbdkaaGreatDoor
open Go.RowKit
set_option maxRecDepth 20000
set_option linter.unusedVariables false
set_option linter.unusedSimpArgs false
theorem rappend_run (sz bytes : Nat) (W : World) (B : Nat) (TS E ty : TypeId) (z : Value) (ht : Tryz.prog.underlying TS = some (.slice E)) (hI : (Tryz.prog.info? E).map (fun i => (i.zero, i.size, i.bytes)) = some (some z, sz, bytes)) (hzs : z.cells.size = sz) (hsz : 0 < sz) (hby : bytes ≤ 64)
    (v : Value) (n : Nat) (L : List Value) (hown : W.ownsRow B E sz v n L) (ad : Addr) (m c : Nat) (xs : List Value) (hxs : xs.length = m * sz) (hnews : ∀ j u, xs[j]? = some u → W.cell? (ad.add j) = some u) (hone : ∀ u ∈ xs, u.oneCell' = true) (hm : 0 < m) (hl : n + m ≤ 1000000000) (hb : B ≤ W.heap.size) :
    ∃ v' w', (Builtin.append_ #[TS, TS] ty #[v, .slice (some ad) m c]).run Tryz.prog W = .ok v' w' ∧ w'.ownsRow B E sz v' (n + m) (L ++ xs) ∧ W.grownBy w' v.ownBlock ∧ (v'.ownBlock = v.ownBlock ∨ ∃ g, v'.ownBlock = some g ∧ W.heap.size ≤ g) := by
  obtain ⟨i0, hi, hz0, hz1, hz2⟩ := info_parts hI
  have hbb : (n + m) * bytes ≤ 1000000000 * 64 := Nat.mul_le_mul hl hby
  obtain ⟨v', w', hr, h2, h3, h4⟩ := run_append_own (P := Tryz.prog) W B TS ty E i0 _ sz bytes ht hi hz0 hz1 hz2 hzs hsz v n L hown ad m c xs hxs hnews hone (by unfold maxLen; omega) (by omega) hb
  refine ⟨v', w', hr, h2, h3, ?_⟩
  rcases hown.2 with ⟨rfl, hn⟩ | ⟨g, cap, cur, rfl, hbg, hg, hnc, hcm, hcs, htake⟩
  · obtain ⟨_, _, hr2, h22, _, _⟩ := run_append_own (P := Tryz.prog) W W.heap.size TS ty E i0 _ sz bytes ht hi hz0 hz1 hz2 hzs hsz (.slice none 0 0) n L ⟨hown.1, .inl ⟨rfl, hn⟩⟩ ad m c xs hxs hnews hone (by unfold maxLen; omega) (by omega) (Nat.le_refl _)
    rw [hr] at hr2
    injection hr2 with e1 e2
    subst e1 e2
    rcases h22.2 with ⟨rfl, _⟩ | ⟨g, cap, cur, rfl, hg, _⟩
    · exact .inl rfl
    · exact .inr ⟨g, rfl, hg⟩
  · have hL : L.length = n * i0.size := by rw [hz1]; exact hown.1
    by_cases hroom : n + m ≤ cap
    · have hmul : (n + m) * sz ≤ cap * sz := Nat.mul_le_mul_right _ hroom
      have hr2 := run_append_room (P := Tryz.prog) W TS ty E i0 ht hi g n cap cur hg ad m c xs (by rw [hz1]; exact hxs) hnews hone hroom (by rw [hz1, hxs, hcs, ← Nat.add_mul]; exact hmul)
      rw [hr] at hr2
      injection hr2 with e1 e2
      rw [e1]
      exact .inl rfl
    · have hr2 := run_append_grow (P := Tryz.prog) W TS ty E i0 _ ht hi hz0 ⟨g, 0, none⟩ n cap L hL (World.ownsRow.cells hown rfl) ad m c xs (by rw [hz1]; exact hxs) hnews (by omega) (by omega) (growslice_fits (by omega) (by rw [hz2]; omega))
      rw [hr] at hr2
      injection hr2 with e1 e2
      rw [e1]
      exact .inr ⟨_, rfl, Nat.le_refl _⟩

theorem infoAny : (Tryz.prog.info? 20).map (fun i => (i.zero, i.size, i.bytes)) = some (some .nilIface, 1, 16) := by kernel_rfl
theorem any_one {S : Nat → Prop} {w : World} {v : Js} {x : Value} (h : AnyAt S w v x) : x.oneCell' = true := by
  cases v <;> rw [AnyAt] at h
  · rw [h]; rfl
  · rw [h]; rfl
  · rw [h]; rfl
  · obtain ⟨t, rfl, _⟩ := h; rfl
  · obtain ⟨a, c, rfl, _⟩ := h; rfl
  · obtain ⟨a, c, rfl, _⟩ := h; rfl
  · rw [h]; rfl
/-- A row of the call's own, of so many values. -/
def LstAt (w0 : Nat) (kids : Nl) (i : Nat) (l : Value) (w : World) : Prop :=
  ∃ xs : List Value, w.ownsRow (w0 + 1) 20 1 l i xs ∧ ∀ (j : Nat) (x : Value) (v : Nt), xs[j]? = some x → kids.at? j = some v → AnyAt (fun b => w0 + 1 ≤ b ∧ l.ownBlock ≠ some b) w (toJ v) x
theorem lst_nil (w0 : Nat) (kids : Nl) (w : World) : LstAt w0 kids 0 (.slice none 0 0) w := ⟨[], World.ownsRow_nil _ _ _ _, fun j x v h => by simp at h⟩
theorem lst_below {w0 : Nat} {kids : Nl} {i : Nat} {l : Value} {w w' : World} (h : LstAt w0 kids i l w) (hb : Below w.heap.size w w') : LstAt w0 kids i l w' := by
  obtain ⟨xs, h1, h2⟩ := h
  have hlt := World.ownsRow.lt h1
  refine ⟨xs, ?_, fun j x v hx hv => (h2 j x v hx hv).below hb⟩
  obtain ⟨g1, g2⟩ := h1
  refine ⟨g1, ?_⟩
  rcases g2 with g2 | ⟨g, cap, cur, hv, hg, hh, r⟩
  · exact .inl g2
  · refine .inr ⟨g, cap, cur, hv, hg, ?_, r⟩
    rw [hb.block g (hlt g (by rw [hv]; rfl)).2]; exact hh
/-- One more. -/
theorem lst_more {w0 : Nat} {kids : Nl} {i : Nat} {l : Value} {w : World} {v : Nt} {x : Value} (ty : TypeId) (h : LstAt w0 kids i l w) (hv : kids.at? i = some v) (hi : i ≤ 1000000) (h0 : w0 + 1 ≤ w.heap.size)
    (hx : AnyAt (fun b => w0 + 1 ≤ b ∧ l.ownBlock ≠ some b) w (toJ v) x) : ∃ v' w', (Builtin.append_ #[57, 57] ty #[l, .slice (some ⟨w.heap.size, 0, none⟩) 1 1]).run Tryz.prog (w.alloc (.cells #[x] 20)) = .ok v' w' ∧ LstAt w0 kids (i + 1) v' w' ∧
      (w.alloc (.cells #[x] 20)).grownBy w' l.ownBlock ∧ (∀ b, l.ownBlock = some b → w0 + 1 ≤ b) := by
  obtain ⟨xs, h1, h2⟩ := h
  have hlt := World.ownsRow.lt h1
  have hxl : xs.length = i := by have := h1.1; omega
  have hcell : (w.alloc (.cells #[x] 20)).cell? ⟨w.heap.size, 0, none⟩ = some x := by rw [World.cell?_alloc_mark]; rfl
  obtain ⟨v', w', hr, g1, g2, g3⟩ := rappend_run 1 16 (w.alloc (.cells #[x] 20)) (w0 + 1) 57 20 ty _ Tryz.underlying57 infoAny rfl (by omega) (by omega) l i xs (h1.alloc _) ⟨w.heap.size, 0, none⟩ 1 1 [x] rfl (by
    intro j u hu
    match j, hu with
    | 0, hu => simp only [List.getElem?_cons_zero, Option.some.injEq] at hu; rw [← hu]; exact hcell
    | j + 1, hu => simp at hu) (by
    intro u hu
    obtain rfl : u = x := by simpa using hu
    exact any_one hx) (by omega) (by omega) (by simp; omega)
  have hsz : (w.alloc (.cells #[x] 20)).heap.size = w.heap.size + 1 := by simp
  have hS : ∀ b, (w0 + 1 ≤ b ∧ l.ownBlock ≠ some b) → b < w.heap.size → w0 + 1 ≤ b ∧ v'.ownBlock ≠ some b := by
    intro b hb hlt
    refine ⟨hb.1, ?_⟩
    rcases g3 with e | ⟨g, e, hg⟩
    · rw [e]; exact hb.2
    · rw [e]
      intro e'
      obtain rfl : g = b := by simpa using e'
      omega
  have hk : ∀ b, (w0 + 1 ≤ b ∧ l.ownBlock ≠ some b) → b < w.heap.size → w'.heap[b]? = w.heap[b]? := fun b hb hlt =>
    (g2.block b (by omega) (fun e => hb.2 e.symm)).trans (heap_old17 hlt)
  have hs : w.heap.size ≤ w'.heap.size := by have := g2.size; omega
  refine ⟨v', w', hr, ⟨xs ++ [x], g1, fun j y u hy hu => ?_⟩, g2, fun b hb => (hlt b hb).1⟩
  by_cases hj : j < xs.length
  · rw [List.getElem?_append_left hj] at hy
    exact AnyAt.keep hS hs hk _ _ (h2 j y u hy hu)
  · have hjl := (List.getElem?_eq_some_iff.1 hy).1
    rw [List.length_append, List.length_singleton] at hjl
    obtain rfl : j = i := by omega
    rw [List.getElem?_append_right (by omega), hxl, Nat.sub_self] at hy
    obtain rfl : x = y := by simpa using hy
    obtain rfl : v = u := by rw [hv] at hu; simpa using hu
    exact AnyAt.keep hS hs hk _ _ hx
/-- The row whole. -/
theorem lst_arr {w0 : Nat} {kids : Nl} {l : Value} {w : World} (h : LstAt w0 kids kids.len l w) (hl : kids.len ≤ 1000000) : AnyAt (fun b => w0 ≤ b) w (.arr (toL false [] kids)) (.iface 57 l) := by
  obtain ⟨xs, h1, h2⟩ := h
  have hlt := World.ownsRow.lt h1
  have h1' := h1
  have hxl : xs.length = kids.len := by have := h1.1; omega
  have key : ∀ (a : Option Addr) (t : Nl) (i : Nat) (nm : List ByteArray), (∀ k v, t.at? k = some v → ∃ g off y, a = some ⟨g, off, none⟩ ∧ w0 ≤ g ∧ g < w.heap.size ∧ w.cell? ⟨g, off + (i + k), none⟩ = some y ∧ AnyAt (fun b => w0 ≤ b) w (toJ v) y) → RowA (fun b => w0 ≤ b) w a i (toL false nm t) := by
    intro a t
    induction t using Nl.rec (motive_1 := fun _ => True) with
    | mk => trivial
    | nil => intro i nm _; rw [toL, RowA]; trivial
    | cons v t _ ih =>
      intro i nm h
      rw [toL, RowA]
      refine ⟨?_, ih (i + 1) _ fun k u hu => ?_⟩
      · obtain ⟨g, off, y, e1, e2, e3, e4, e5⟩ := h 0 v rfl
        exact ⟨g, off, y, e1, e2, e3, e4, e5⟩
      · have := h (k + 1) u hu
        rwa [show i + (k + 1) = i + 1 + k by omega] at this
  rw [AnyAt, toL_len]
  rcases h1.2 with ⟨rfl, hn⟩ | ⟨g, cap, cur, rfl, hg, hh, hle, hm, _⟩
  · refine ⟨none, 0, by rw [hn], by omega, by omega, key none kids 0 [] fun k v hk => ?_⟩
    have := Nl.at_lt _ _ _ hk
    omega
  · refine ⟨some ⟨g, 0, none⟩, cap, rfl, hle, hm, key _ kids 0 [] fun k v hk => ?_⟩
    have hkl := Nl.at_lt _ _ _ hk
    obtain ⟨y, hy⟩ : ∃ y, xs[k]? = some y := ⟨_, List.getElem?_eq_getElem (by omega)⟩
    have hc := World.ownsRow.cellAt h1' k (by omega)
    refine ⟨g, 0, y, rfl, by omega, (hlt g rfl).2, ?_, (h2 k y v hy hk).mono fun b hb => by omega⟩
    rw [Nat.zero_add, Nat.zero_add, hc, hy]
end Go.Proofs.YtbkceneakdbdkaaGreatDoor
/- Own of a list. -/
namespace Go.Proofs.YtbkceneakdbdkaaGreatDoor
open Go.RowKit
set_option maxRecDepth 20000
set_option linter.unusedVariables false
set_option linter.unusedSimpArgs false
theorem any_form {S : Nat → Prop} {w : World} {v : Js} {x : Value} (h : AnyAt S w v x) : x = .nilIface ∨ ∃ t y, x = .iface t y := by
  cases v <;> rw [AnyAt] at h
  · exact .inl h
  · exact .inr ⟨_, _, h⟩
  · exact .inr ⟨_, _, h⟩
  · obtain ⟨t, rfl, _⟩ := h; exact .inr ⟨_, _, rfl⟩
  · obtain ⟨a, c, rfl, _⟩ := h; exact .inr ⟨_, _, rfl⟩
  · obtain ⟨a, c, rfl, _⟩ := h; exact .inr ⟨_, _, rfl⟩
  · exact .inr ⟨_, _, h⟩
set_option maxHeartbeats 2000000 in
theorem own_list (n : Int) (s : ByteArray) (nv : Value) (names : List ByteArray) (kv : Value) (kids : Nl) (HK : ∀ i v, kids.at? i = some v → OwnOk v) : OwnOk (.mk 5 n s nv names kv kids) := by
  intro w hin hfit
  rw [Nt.In] at hin
  obtain ⟨_, ⟨n0, n1⟩, hs, ⟨na, ncap, rfl, nl, nm, hn⟩, a, cap, rfl, kl, km, hk⟩ := hin
  rw [Fit] at hfit
  obtain ⟨_, _, ⟨_, hfew⟩, _, hfk⟩ := hfit
  have HK := Lib.hid HK
  have HI := Lib.hid hk
  have HF := Lib.hid hfk
  have HEW := Lib.hid hfew
  have hT : toJ (.mk 5 n s (.slice na names.length ncap) names (.slice a kids.len cap) kids) = .arr (toL false [] kids) := by
    rw [toJ, if_neg (by omega), if_neg (by omega), if_neg (by omega), if_neg (by omega), if_neg (by omega), if_pos rfl]
  unfold OwnEnd
  rw [hT]
  have HT := Lib.hid hT
  show Calls _ _ #[.agg #[.int .u8 5, .int .i64 n, .string s, .slice na names.length ncap, .slice a kids.len cap]] _ _
  have hks : (kids.len : Int) ≤ 9223372036854775807 := by rw [maxL] at *; omega
  clear hn hk hfk hT
  have HX := Lib.hid (BoxAt.made w 5 n s (.slice na names.length ncap) (.slice a kids.len cap) 25)
  go_enter Tryz.func8, Tryz.ntmps8
  go_wp2_with fail
  go_loopw [3, 4] (fun l z wr => ∃ (i : Nat) (t : Value), i ≤ kids.len ∧ z = .int .i64 i ∧ l = t ∧ LstAt w.heap.size kids i t wr ∧ BoxAt wr w.heap.size 5 n s (.slice na names.length ncap) (.slice a kids.len cap) ∧ Below w.heap.size w wr ∧ w.heap.size + 1 ≤ wr.heap.size) (fun _ z _ => kids.len - (intOf z).toNat)
  case atStart => exact ⟨0, _, Nat.zero_le _, rfl, rfl, lst_nil _ _ _, HX.out, (Below.refl _ _).alloc (Nat.le_refl _) _, by simp⟩
  case round =>
    obtain ⟨i, t, hi, rfl, ht, hlst, hbx, hbw, hsz⟩ := hrel
    have ht := ht.symm
    subst ht
    by_cases hlt : i < kids.len
    · have hi2 : (i : Int) < (kids.len : Int) := by omega
      obtain ⟨v, hv⟩ := Nl.lt_at kids i hlt
      obtain ⟨⟨g, off, rfl, hg, hc⟩, hin⟩ := Nl.in_at kids 0 i v HI.out hv
      rw [Nat.zero_add] at hc
      have hfv := FitL.at (w := w) kids i v HF.out hv
      have HC := HK.out i v hv wr (hin.below hbw) hfv
      unfold OwnEnd at HC
      have HV := Lib.hid hv
      obtain ⟨J, hJ⟩ : ∃ J, toJ v = J := ⟨_, rfl⟩
      have HJ := Lib.hid hJ
      rw [hJ] at HC
      have hc' := hc
      obtain ⟨k', n', s', nv', names', kv', kids'⟩ := v
      have e0 := (hbw.cell hg).trans (hc 0 (by omega))
      have e1 := (hbw.cell hg).trans (hc 1 (by omega))
      have e2 := (hbw.cell hg).trans (hc 2 (by omega))
      have e3 := (hbw.cell hg).trans (hc 3 (by omega))
      have e4 := (hbw.cell hg).trans (hc 4 (by omega))
      simp only [ntCells, Nat.add_zero, List.getElem?_cons_zero, List.getElem?_cons_succ] at e0 e1 e2 e3 e4
      unfold ntA ntCells at HC
      have HC := Lib.hid HC
      have HBX := Lib.hid hbx
      have HBW := Lib.hid hbw
      have HLS := Lib.hid hlst
      obtain ⟨b0, b1, b2, b3, b4⟩ := hbx
      clear hc hc' hin hv hJ hbw hfv hlst
      go_wp2_with fail
      refine HC.out.mono ?_
      rintro e w1 ⟨⟨x, rfl, hx⟩, hb⟩
      have hbx1 := HBX.out.later hb
      have hbw1 := HBW.out.trans (hb.mono HBW.out.size)
      have hls1 := lst_below HLS.out hb
      have hsz1 : w.heap.size + 1 ≤ w1.heap.size := Nat.le_trans hsz hb.size
      have hx1 : AnyAt (fun b => w.heap.size + 1 ≤ b ∧ t.ownBlock ≠ some b) w1 (toJ (.mk k' n' s' nv' names' kv' kids')) x := by
        rw [HJ.out]
        refine hx.mono fun b hb => ⟨by omega, fun e => ?_⟩
        obtain ⟨xs, h1, _⟩ := HLS.out
        have := (World.ownsRow.lt h1 b e).2
        omega
      rcases any_form hx with rfl | ⟨tx, yx, rfl⟩
      · obtain ⟨l2, w2, hr, hls2, hgr, hown⟩ := lst_more 57 hls1 HV.out (by omega) hsz1 hx1
        have hba : Below w.heap.size w (w1.alloc (.cells #[.nilIface] 20)) := hbw1.alloc (by omega) _
        have hbw2 : Below w.heap.size w w2 := hba.grown hgr (by simp; omega) (fun b e => by have := hown b e; omega)
        have hsz2 : w.heap.size + 1 ≤ w2.heap.size := by have := hgr.size; simp at this; omega
        have hbx2 : BoxAt w2 w.heap.size 5 n s (.slice na names.length ncap) (.slice (some ⟨g, off, none⟩) kids.len cap) := by
          have hk : w2.heap[w.heap.size]? = w1.heap[w.heap.size]? := (hgr.block _ (by simp; omega) (fun e => by have := hown _ e.symm; omega)).trans (heap_old17 (by omega))
          exact ⟨(World.cell?_of_block (a := ⟨w.heap.size, 0, none⟩) hk).trans hbx1.1, (World.cell?_of_block (a := ⟨w.heap.size, 1, none⟩) hk).trans hbx1.2.1, (World.cell?_of_block (a := ⟨w.heap.size, 2, none⟩) hk).trans hbx1.2.2.1, (World.cell?_of_block (a := ⟨w.heap.size, 3, none⟩) hk).trans hbx1.2.2.2.1, (World.cell?_of_block (a := ⟨w.heap.size, 4, none⟩) hk).trans hbx1.2.2.2.2⟩
        have HX2 := Lib.hid hbx2
        have HW2 := Lib.hid hbw2
        have HL2 := Lib.hid hls2
        have HS2 := Lib.hid hsz2
        clear b0 b1 b2 b3 b4 e0 e1 e2 e3 e4 hb hbw1 hbx1 hls1 hx hx1 hls2 hgr hown hba hbw2 hsz2 hbx2
        go_wp2_with (first | (at_builtin; refine Lib.wpList_append_run _ rfl _ _ _ _ rfl _ _ rfl rfl _ _ hr ?_) | fail)
        go_roundw
        case rel => exact ⟨i + 1, _, by omega, by go_num, rfl, HL2.out, HX2.out, HW2.out, HS2.out⟩
        case measure => simp [intOf]; omega
      · obtain ⟨l2, w2, hr, hls2, hgr, hown⟩ := lst_more 57 hls1 HV.out (by omega) hsz1 hx1
        have hba : Below w.heap.size w (w1.alloc (.cells #[.iface tx yx] 20)) := hbw1.alloc (by omega) _
        have hbw2 : Below w.heap.size w w2 := hba.grown hgr (by simp; omega) (fun b e => by have := hown b e; omega)
        have hsz2 : w.heap.size + 1 ≤ w2.heap.size := by have := hgr.size; simp at this; omega
        have hbx2 : BoxAt w2 w.heap.size 5 n s (.slice na names.length ncap) (.slice (some ⟨g, off, none⟩) kids.len cap) := by
          have hk : w2.heap[w.heap.size]? = w1.heap[w.heap.size]? := (hgr.block _ (by simp; omega) (fun e => by have := hown _ e.symm; omega)).trans (heap_old17 (by omega))
          exact ⟨(World.cell?_of_block (a := ⟨w.heap.size, 0, none⟩) hk).trans hbx1.1, (World.cell?_of_block (a := ⟨w.heap.size, 1, none⟩) hk).trans hbx1.2.1, (World.cell?_of_block (a := ⟨w.heap.size, 2, none⟩) hk).trans hbx1.2.2.1, (World.cell?_of_block (a := ⟨w.heap.size, 3, none⟩) hk).trans hbx1.2.2.2.1, (World.cell?_of_block (a := ⟨w.heap.size, 4, none⟩) hk).trans hbx1.2.2.2.2⟩
        have HX2 := Lib.hid hbx2
        have HW2 := Lib.hid hbw2
        have HL2 := Lib.hid hls2
        have HS2 := Lib.hid hsz2
        clear b0 b1 b2 b3 b4 e0 e1 e2 e3 e4 hb hbw1 hbx1 hls1 hx hx1 hls2 hgr hown hba hbw2 hsz2 hbx2
        go_wp2_with (first | (at_builtin; refine Lib.wpList_append_run _ rfl _ _ _ _ rfl _ _ rfl rfl _ _ hr ?_) | fail)
        go_roundw
        case rel => exact ⟨i + 1, _, by omega, by go_num, rfl, HL2.out, HX2.out, HW2.out, HS2.out⟩
        case measure => simp [intOf]; omega
    · obtain rfl : i = kids.len := by omega
      obtain ⟨b0, b1, b2, b3, b4⟩ := hbx
      have HBW := Lib.hid hbw
      have HLS := Lib.hid hlst
      clear hbw hlst
      go_wp2_with fail
      go_ret
      exact ⟨⟨_, rfl, lst_arr HLS.out (by have := HEW.out; omega)⟩, HBW.out⟩
end Go.Proofs.YtbkceneakdbdkaaGreatDoor
/- Asserts of types with two results. -/
namespace Go.Proofs.YtbkceneakdbdkaaGreatDoor
open Go.RowKit
set_option maxRecDepth 20000
set_option linter.unusedVariables false
set_option linter.unusedSimpArgs false
def plainT : TypeDesc → Bool
  | .interface _ => false
  | _ => true
theorem assert_nil (X T : TypeId) (d : TypeDesc) (z : Value) (hu : Tryz.prog.underlying T = some d) (hd : plainT d = true) (hz : (Tryz.prog.info? T).map (·.zero) = some (some z)) (w : World) :
    (Instr.typeAssert .nilIface X T true).run Tryz.prog w = .ok (.tuple #[z, .bool false]) w := by
  obtain ⟨i, hi, hiz⟩ : ∃ i, Tryz.prog.info? T = some i ∧ i.zero = some z := by
    cases h : Tryz.prog.info? T with
    | none => simp [h] at hz
    | some i => exact ⟨i, rfl, by simpa [h] using hz⟩
  unfold Instr.typeAssert
  rw [Sem.run_bind, run_underlying hu w]
  cases d <;> simp_all [plainT, zeroValue, typeInfo]
theorem assert_no (X T t : TypeId) (v : Value) (d : TypeDesc) (z : Value) (hu : Tryz.prog.underlying T = some d) (hd : plainT d = true) (hz : (Tryz.prog.info? T).map (·.zero) = some (some z)) (ht : t ≠ T) (w : World) :
    (Instr.typeAssert (.iface t v) X T true).run Tryz.prog w = .ok (.tuple #[z, .bool false]) w := by
  obtain ⟨i, hi, hiz⟩ : ∃ i, Tryz.prog.info? T = some i ∧ i.zero = some z := by
    cases h : Tryz.prog.info? T with
    | none => simp [h] at hz
    | some i => exact ⟨i, rfl, by simpa [h] using hz⟩
  unfold Instr.typeAssert
  rw [Sem.run_bind, run_underlying hu w]
  cases d <;> simp_all [plainT, zeroValue, typeInfo]
theorem assert_yes (X T : TypeId) (v : Value) (d : TypeDesc) (hu : Tryz.prog.underlying T = some d) (hd : plainT d = true) (w : World) :
    (Instr.typeAssert (.iface T v) X T true).run Tryz.prog w = .ok (.tuple #[v, .bool true]) w := by
  unfold Instr.typeAssert
  rw [Sem.run_bind, run_underlying hu w]
  cases d <;> simp_all [plainT]
theorem zFlt : (Tryz.prog.info? 59).map (·.zero) = some (some (.float .f64 0)) := by kernel_rfl
theorem zBool : (Tryz.prog.info? 4).map (·.zero) = some (some (.bool false)) := by kernel_rfl
theorem zInt : (Tryz.prog.info? 3).map (·.zero) = some (some (.int .i64 0)) := by kernel_rfl
theorem zStr : (Tryz.prog.info? 9).map (·.zero) = some (some (.string { data := #[] })) := by kernel_rfl
theorem zLst : (Tryz.prog.info? 57).map (·.zero) = some (some (.slice none 0 0)) := by kernel_rfl
theorem zPrs : (Tryz.prog.info? 58).map (·.zero) = some (some (.slice none 0 0)) := by kernel_rfl
end Go.Proofs.YtbkceneakdbdkaaGreatDoor
