/- aVb aGa aGb aGc aGh aGi aVd aMg. -/
import Derived.Lib.Hide
import Derived.WalkKit
import Derived.Outline
import Derived.WalkSpells
import Derived.WalkLawsBesides
import Derived.Below
import Derived.Handy
import Derived.Deep.MidRow
import Derived.Deep.RegionHeld3
import Derived.Deep.DeepCutAuto
import Derived.BigRegion
import Derived.BigQuiet
import Derived.Laws.OwnMore
import Derived.Laws.AppendOwn
import Derived.Laws.AppendOwnNone
import Derived.OwnWalk
import Derived.Test.YtdnmgpcfgcidbaaGreatDoorRows
import Derived.Laws.StructEq
import Derived.ProofKit
import Derived.Laws.Concat
import Derived.Laws.Rows
import Derived.Lib.AppendZeros
import Derived.Deep.QuietTactic
import Derived.Test.YtdnmgpcfgcidbaaGreatDoorPa3
import Derived.Test.YtdnmgpcfgcidbaaGreatDoorPa1
import Derived.Test.YtdnmgpcfgcidbaaGreatDoorPa4
import Derived.Test.YtdnmgpcfgcidbaaGreatDoorPa2
import Derived.Test.YtdnmgpcfgcidbaaGreatDoorPa5
import Derived.Laws.Bits64
import Derived.Maps.OwnSet
import Derived.Maps.Range
import Derived.Maps.RangeWalk
import Derived.Deep.RegionLawGrows
import Derived.Deep.CutRange
import Derived.Test.YtdnmgpcfgcidbaaGreatDoorRc
import Derived.Deep.RegionWith
import Derived.Lib.AppendZerosOnto
import Derived.Deep.AppendSrc
import Derived.RangeFuncNested
import Derived.RangeFuncBound
import Derived.RangeFuncCalls
import Derived.RangeFuncLeaves
import Derived.Shelf.Abstract
import Derived.Shelf.RegionOpen
import Derived.OwnWalkIn
import Derived.TacticsInMore
import Derived.LoopNIn
import Derived.LoopIn
import Derived.Carry
import Derived.Test.YtdnmgpcfgcidbaaGreatDoorRb
namespace Go.Proofs.YtdnmgpcfgcidbaaGreatDoor
set_option linter.unusedVariables false
set_option linter.unusedSimpArgs false
open Go.RowKit
set_option maxRecDepth 20000
set_option maxHeartbeats 4000000 in
theorem ahead_any (v : Value) (l : List En) (e : En) (w : World) (hv : EnsAt w v l) (hm : MaysN l) (he : MayN e) : Calls Tryz.prog 71 #[v, .agg (eC e), .func (.func 72) #[] #[]] w fun x w' => x = .returned (.bool (lastOne l e)) ∧ Below w.heap.size w w' := by
  have hbw : Below w.heap.size w (w.alloc (.cells (eC e) 124)) := (Below.refl _ _).alloc (Nat.le_refl _) _
  have hea := EAt.made w e 124
  have hv2 := hv.below hbw
  rcases List.eq_nil_or_concat l with rfl | ⟨r, a, rfl⟩
  · obtain ⟨a0, c0, rfl, -⟩ := hv
    have HR : Hid (lastOne [] e = false) := Lib.hid rfl
    have hz : IntKind.i64.wrap ((0 : Int) - 1) = -1 := by rw [IntKind.wrap_i64]; omega
    rw [List.length_nil]
    unfold eC at hbw hea ⊢
    obtain ⟨W, hW⟩ : ∃ W, (w.alloc (.cells #[.int .u64 e.id, .int .u64 e.off, .int .u32 e.ln, .int .u32 e.rn] 124)) = W := ⟨_, rfl⟩
    rw [hW] at hea hbw
    have HK : Hid (∀ w', Below W.heap.size W w' → (w'.cell? ⟨w.heap.size, 0, none⟩ = some (.int .u64 e.id) ∧ w'.cell? ⟨w.heap.size, 1, none⟩ = some (.int .u64 e.off) ∧ w'.cell? ⟨w.heap.size, 2, none⟩ = some (.int .u32 e.ln) ∧ w'.cell? ⟨w.heap.size, 3, none⟩ = some (.int .u32 e.rn)) ∧ Below W.heap.size W w') := Lib.hid (fun w' h => ⟨hea.later h, h⟩)
    have HB := Lib.hid hbw
    clear hea hbw hv2 he hm
    go_enter Tryz.func71, Tryz.ntmps71
    go_wp2_with fail
    refine wp_region_held_drew (S := fun w' => (w'.cell? ⟨w.heap.size, 0, none⟩ = some (.int .u64 e.id) ∧ w'.cell? ⟨w.heap.size, 1, none⟩ = some (.int .u64 e.off) ∧ w'.cell? ⟨w.heap.size, 2, none⟩ = some (.int .u32 e.ln) ∧ w'.cell? ⟨w.heap.size, 3, none⟩ = some (.int .u32 e.rn)) ∧ Below W.heap.size W w') (by kernel_rfl) (HK.out _ (Below.drew (Below.refl _ _))) (fun hH0 => ?_)
    refine takeH (i := 0) (d := 11) (v := ?_) rfl rfl (by kernel_rfl) (by kernel_rfl) (by kernel_rfl) (fun _ _ _ h => h) (Or.inl ⟨by rfl, ?y0⟩) hH0 ?_
    case y0 => intro w hSw; go_simp; try with_reducible rfl
    try simp only [Act.put, List.setIfInBounds_toArray, List.set_cons_zero, List.set_cons_succ]
    refine takeH (i := 1) (d := 12) (v := ?_) rfl rfl (by kernel_rfl) (by kernel_rfl) (by kernel_rfl) (fun _ _ _ h => h) (Or.inl ⟨by rfl, ?y1⟩) hH0 ?_
    case y1 => intro w hSw; go_simp; try with_reducible rfl
    try simp only [Act.put, List.setIfInBounds_toArray, List.set_cons_zero, List.set_cons_succ]
    refine takeH (i := 2) (d := 13) (v := ?_) rfl rfl (by kernel_rfl) (by kernel_rfl) (by kernel_rfl) (fun _ _ _ h => h) (Or.inl ⟨by rfl, ?y2⟩) hH0 ?_
    case y2 => intro w hSw; go_simp; try with_reducible rfl
    try simp only [Act.put, List.setIfInBounds_toArray, List.set_cons_zero, List.set_cons_succ]
    refine takeH (i := 3) (d := 14) (v := undef) rfl rfl (by kernel_rfl) (by kernel_rfl) (by kernel_rfl) (fun _ _ _ h => h) (Or.inr ⟨by rfl, rfl⟩) hH0 ?_
    try simp only [Act.put, List.setIfInBounds_toArray, List.set_cons_zero, List.set_cons_succ]
    refine takeH (i := 4) (d := 15) (v := undef) rfl rfl (by kernel_rfl) (by kernel_rfl) (by kernel_rfl) (fun _ _ _ h => h) (Or.inr ⟨by rfl, rfl⟩) hH0 ?_
    try simp only [Act.put, List.setIfInBounds_toArray, List.set_cons_zero, List.set_cons_succ]
    refine takeH (i := 5) (d := 16) (v := undef) rfl rfl (by kernel_rfl) (by kernel_rfl) (by kernel_rfl) (fun _ _ _ h => h) (Or.inr ⟨by rfl, rfl⟩) hH0 ?_
    try simp only [Act.put, List.setIfInBounds_toArray, List.set_cons_zero, List.set_cons_succ]
    refine takeH (i := 6) (d := 17) (v := undef) rfl rfl (by kernel_rfl) (by kernel_rfl) (by kernel_rfl) (fun _ _ _ h => h) (Or.inr ⟨by rfl, rfl⟩) hH0 ?_
    try simp only [Act.put, List.setIfInBounds_toArray, List.set_cons_zero, List.set_cons_succ]
    refine takeH (i := 7) (d := 18) (v := undef) rfl rfl (by kernel_rfl) (by kernel_rfl) (by kernel_rfl) (fun _ _ _ h => h) (Or.inr ⟨by rfl, rfl⟩) hH0 ?_
    try simp only [Act.put, List.setIfInBounds_toArray, List.set_cons_zero, List.set_cons_succ]
    refine takeH (i := 8) (d := 19) (v := undef) rfl rfl (by kernel_rfl) (by kernel_rfl) (by kernel_rfl) (fun _ _ _ h => h) (Or.inr ⟨by rfl, rfl⟩) hH0 ?_
    try simp only [Act.put, List.setIfInBounds_toArray, List.set_cons_zero, List.set_cons_succ]
    refine takeH (i := 9) (d := 20) (v := undef) rfl rfl (by kernel_rfl) (by kernel_rfl) (by kernel_rfl) (fun _ _ _ h => h) (Or.inr ⟨by rfl, rfl⟩) hH0 ?_
    try simp only [Act.put, List.setIfInBounds_toArray, List.set_cons_zero, List.set_cons_succ]
    refine takeH (i := 10) (d := 21) (v := ?_) rfl rfl (by kernel_rfl) (by kernel_rfl) (by kernel_rfl) (fun _ _ _ h => h) (Or.inl ⟨by rfl, ?y10⟩) hH0 ?_
    case y10 => intro w hSw; go_simp; try with_reducible rfl
    try simp only [Act.put, List.setIfInBounds_toArray, List.set_cons_zero, List.set_cons_succ]
    refine takeH (i := 11) (d := 6) (v := ?_) rfl rfl (by kernel_rfl) (by kernel_rfl) (by kernel_rfl) (fun _ _ _ h => h) (Or.inl ⟨by rfl, ?y11⟩) hH0 ?_
    case y11 => intro w hSw; go_simp; try with_reducible rfl
    try simp only [Act.put, List.setIfInBounds_toArray, List.set_cons_zero, List.set_cons_succ]
    refine wpAnyH_done (by kernel_rfl) ?_ _
    go_wp2_with fail
    go_ret
    exact ⟨by rw [HR.out]; rfl, HB.out.trans (hH0.2.mono HB.out.size)⟩
  · rw [List.concat_eq_append] at *
    have HR := Lib.hid (lastOne_concat r a e)
    obtain ⟨g, off, cap, rfl, hle, hg, hc⟩ := ens_at hv r.length (by simp)
    have hmx : r.length + 1 ≤ maxLen := by
      obtain ⟨a', c', e', h1, h2, _⟩ := hv
      rw [List.length_append, List.length_singleton] at h1
      omega
    have hlt : (r ++ [a]).length = r.length + 1 := by simp
    rw [hlt] at *
    have hca := hc r.length a (by simp)
    have hG := fun W => goes_any e a W he (hm a (by simp))
    have HCA := Lib.hid (fun X (hX : Below w.heap.size w X) => cells4 hX hca)
    unfold maxLen at hmx
    have hi1 : IntKind.i64.wrap ((r.length : Int) + 1 - 1) = (r.length : Int) := by rw [IntKind.wrap_i64]; omega
    have hi2 : IntKind.i64.wrap (r.length : Int) = (r.length : Int) := by rw [IntKind.wrap_i64]; omega
    have hi3 : (r.length : Int) < (r.length : Int) + 1 := by omega
    have hi4 : (0 : Int) ≤ (r.length : Int) := by omega
    unfold eC at hbw hea hG ⊢
    have HG := Lib.hid hG
    obtain ⟨W, hW⟩ : ∃ W, (w.alloc (.cells #[.int .u64 e.id, .int .u64 e.off, .int .u32 e.ln, .int .u32 e.rn] 124)) = W := ⟨_, rfl⟩
    rw [hW] at hea hbw
    have HK : Hid (∀ w', Below W.heap.size W w' → ((w'.cell? ⟨w.heap.size, 0, none⟩ = some (.int .u64 e.id) ∧ w'.cell? ⟨w.heap.size, 1, none⟩ = some (.int .u64 e.off) ∧ w'.cell? ⟨w.heap.size, 2, none⟩ = some (.int .u32 e.ln) ∧ w'.cell? ⟨w.heap.size, 3, none⟩ = some (.int .u32 e.rn)) ∧ (w'.cell? ⟨g, off + r.length * 4, none⟩ = some (.int .u64 a.id) ∧ w'.cell? ⟨g, off + r.length * 4 + 1, none⟩ = some (.int .u64 a.off) ∧ w'.cell? ⟨g, off + r.length * 4 + 2, none⟩ = some (.int .u32 a.ln) ∧ w'.cell? ⟨g, off + r.length * 4 + 3, none⟩ = some (.int .u32 a.rn))) ∧ Below W.heap.size W w') := Lib.hid (fun w' h => ⟨⟨hea.later h, HCA.out w' (hbw.trans (h.mono hbw.size))⟩, h⟩)
    have HB := Lib.hid hbw
    generalize oneE a e = R at *
    clear hea hbw hv2 hv he hm hG hc hca hlt
    generalize r.length = rl at *
    go_enter Tryz.func71, Tryz.ntmps71
    go_wp2_with fail
    refine wp_region_held_drew (S := fun w' => ((w'.cell? ⟨w.heap.size, 0, none⟩ = some (.int .u64 e.id) ∧ w'.cell? ⟨w.heap.size, 1, none⟩ = some (.int .u64 e.off) ∧ w'.cell? ⟨w.heap.size, 2, none⟩ = some (.int .u32 e.ln) ∧ w'.cell? ⟨w.heap.size, 3, none⟩ = some (.int .u32 e.rn)) ∧ (w'.cell? ⟨g, off + rl * 4, none⟩ = some (.int .u64 a.id) ∧ w'.cell? ⟨g, off + rl * 4 + 1, none⟩ = some (.int .u64 a.off) ∧ w'.cell? ⟨g, off + rl * 4 + 2, none⟩ = some (.int .u32 a.ln) ∧ w'.cell? ⟨g, off + rl * 4 + 3, none⟩ = some (.int .u32 a.rn))) ∧ Below W.heap.size W w') (by kernel_rfl) (HK.out _ (Below.drew (Below.refl _ _))) (fun hH0 => ?_)
    refine takeH (i := 0) (d := 11) (v := ?_) rfl rfl (by kernel_rfl) (by kernel_rfl) (by kernel_rfl) (fun _ _ _ h => h) (Or.inl ⟨by rfl, ?y0⟩) hH0 ?_
    case y0 => intro w hSw; go_simp; try with_reducible rfl
    try simp only [Act.put, List.setIfInBounds_toArray, List.set_cons_zero, List.set_cons_succ]
    refine takeH (i := 1) (d := 12) (v := ?_) rfl rfl (by kernel_rfl) (by kernel_rfl) (by kernel_rfl) (fun _ _ _ h => h) (Or.inl ⟨by rfl, ?y1⟩) hH0 ?_
    case y1 => intro w hSw; go_simp; try with_reducible rfl
    try simp only [Act.put, List.setIfInBounds_toArray, List.set_cons_zero, List.set_cons_succ]
    refine takeH (i := 2) (d := 13) (v := ?_) rfl rfl (by kernel_rfl) (by kernel_rfl) (by kernel_rfl) (fun _ _ _ h => h) (Or.inl ⟨by rfl, ?y2⟩) hH0 ?_
    case y2 => intro w hSw; go_simp; try with_reducible rfl
    try simp only [Act.put, List.setIfInBounds_toArray, List.set_cons_zero, List.set_cons_succ]
    refine takeH (i := 3) (d := 14) (v := ?_) rfl rfl (by kernel_rfl) (by kernel_rfl) (by kernel_rfl) (fun _ _ _ h => h) (Or.inl ⟨by rfl, ?y3⟩) hH0 ?_
    case y3 => intro w hSw; go_simp; try with_reducible rfl
    try simp only [Act.put, List.setIfInBounds_toArray, List.set_cons_zero, List.set_cons_succ]
    refine takeH (i := 4) (d := 15) (v := ?_) rfl rfl (by kernel_rfl) (by kernel_rfl) (by kernel_rfl) (fun _ _ _ h => h) (Or.inl ⟨by rfl, ?y4⟩) hH0 ?_
    case y4 => intro w hSw; go_simp; try with_reducible rfl
    try simp only [Act.put, List.setIfInBounds_toArray, List.set_cons_zero, List.set_cons_succ]
    refine takeH (i := 5) (d := 16) (v := ?_) rfl rfl (by kernel_rfl) (by kernel_rfl) (by kernel_rfl) (fun _ _ _ h => h) (Or.inl ⟨by rfl, ?y5⟩) hH0 ?_
    case y5 => intro w hSw; go_simp; try with_reducible rfl
    try simp only [Act.put, List.setIfInBounds_toArray, List.set_cons_zero, List.set_cons_succ]
    refine takeH (i := 6) (d := 17) (v := ?_) rfl rfl (by kernel_rfl) (by kernel_rfl) (by kernel_rfl) (fun _ _ _ h => h) (Or.inl ⟨by rfl, ?y6⟩) hH0 ?_
    case y6 => intro w hSw; go_simp; try with_reducible rfl
    try simp only [Act.put, List.setIfInBounds_toArray, List.set_cons_zero, List.set_cons_succ]
    refine takeH (i := 7) (d := 18) (v := ?_) rfl rfl (by kernel_rfl) (by kernel_rfl) (by kernel_rfl) (fun _ _ _ h => h) (Or.inl ⟨by rfl, ?y7⟩) hH0 ?_
    case y7 => intro w hSw; go_simp; try with_reducible rfl
    try simp only [Act.put, List.setIfInBounds_toArray, List.set_cons_zero, List.set_cons_succ]
    refine takeH (i := 8) (d := 19) (v := ?_) rfl rfl (by kernel_rfl) (by kernel_rfl) (by kernel_rfl) (fun _ _ _ h => h) (Or.inl ⟨by rfl, ?y8⟩) hH0 ?_
    case y8 => intro w hSw; go_simp; try with_reducible rfl
    try simp only [Act.put, List.setIfInBounds_toArray, List.set_cons_zero, List.set_cons_succ]
    refine wpAnyH_ready (rs := [9]) (by kernel_rfl) (by simp) ?_
    refine AllReadyH.cons rfl (fun K hK => ?_) AllReadyH.nil
    go_simp
    refine (HG.out _).mono ?_
    rintro e w' ⟨rfl, hb⟩
    go_wp2_with fail
    refine hK.out _ _ (HK.out _ (hH0.2.trans (hb.mono hH0.2.size))) (fun hH1 => ?_)
    clear hK K hb hH0
    try simp only [Act.put, List.setIfInBounds_toArray, List.set_cons_zero, List.set_cons_succ]
    refine takeH (i := 10) (d := 21) (v := ?_) rfl rfl (by kernel_rfl) (by kernel_rfl) (by kernel_rfl) (fun _ _ _ h => h) (Or.inl ⟨by rfl, ?y10⟩) hH1 ?_
    case y10 => intro w hSw; go_simp; try with_reducible rfl
    try simp only [Act.put, List.setIfInBounds_toArray, List.set_cons_zero, List.set_cons_succ]
    refine takeH (i := 11) (d := 6) (v := ?_) rfl rfl (by kernel_rfl) (by kernel_rfl) (by kernel_rfl) (fun _ _ _ h => h) (Or.inl ⟨by rfl, ?y11⟩) hH1 ?_
    case y11 => intro w hSw; go_simp; try with_reducible rfl
    try simp only [Act.put, List.setIfInBounds_toArray, List.set_cons_zero, List.set_cons_succ]
    refine wpAnyH_done (by kernel_rfl) ?_ _
    go_wp2_with fail
    go_ret
    exact ⟨by rw [HR.out]; rfl, HB.out.trans (hH1.2.mono HB.out.size)⟩
theorem EnsAt.take {w : World} {l : List En} {g off cap : Nat} (h : EnsAt w (.slice (some ⟨g, off, none⟩) l.length cap) l) (i : Nat) (hi : i ≤ l.length) : EnsAt w (.slice (some ⟨g, off, none⟩) i cap) (l.take i) := by
  obtain ⟨a', c', e', h1, h2, hc⟩ := h
  cases e'
  refine ⟨_, cap, by rw [List.length_take, Nat.min_eq_left hi], by rw [List.length_take]; omega, h2, fun k t ht => ?_⟩
  refine hc k t ?_
  rw [List.getElem?_take] at ht
  split at ht
  · exact ht
  · cases ht
end Go.Proofs.YtdnmgpcfgcidbaaGreatDoor
namespace Go.Proofs.YtdnmgpcfgcidbaaGreatDoor
set_option linter.unusedVariables false
set_option linter.unusedSimpArgs false
abbrev Kt := Nat × ByteArray
def plc : List ByteArray → Nat → List Kt
  | [], _ => []
  | t :: l, n => (n, t) :: plc l (n + t.size)
def bkt (s : ByteArray) : Int := bktF (sumF fSt s.data.toList) 2048
theorem bkt_range (s : ByteArray) : 0 ≤ bkt s ∧ bkt s < 2048 := by
  unfold bkt bktF
  rw [if_neg (by omega)]
  omega
def grp (k : Int) (l : List Kt) : List Kt := l.filter (fun t => decide (bkt t.2 = k))
theorem plc_len (l : List ByteArray) : ∀ n, (plc l n).length = l.length := by
  induction l with
  | nil => intro n; rfl
  | cons t l ih => intro n; simp [plc, ih]
theorem plc_append (a b : List ByteArray) : ∀ n, plc (a ++ b) n = plc a n ++ plc b (n + totF a) := by
  induction a with
  | nil => intro n; simp [plc, totF]
  | cons t l ih => intro n; simp [plc, ih, totF, Nat.add_assoc]
theorem plc_snoc (l : List ByteArray) (s : ByteArray) : plc (l ++ [s]) 0 = plc l 0 ++ [(totF l, s)] := by
  rw [plc_append]; simp [plc]
theorem plc_at (l : List ByteArray) : ∀ (n k : Nat) (t : ByteArray), l[k]? = some t → (plc l n)[k]? = some (n + totF (l.take k), t) := by
  induction l with
  | nil => intro n k t h; simp at h
  | cons x l ih =>
    intro n k t h
    cases k with
    | zero => simp at h; subst h; simp [plc, totF]
    | succ k => rw [plc, List.getElem?_cons_succ, ih _ k t (by simpa using h)]; simp [totF, Nat.add_assoc]
theorem grp_append (k : Int) (a b : List Kt) : grp k (a ++ b) = grp k a ++ grp k b := by simp [grp]
theorem grp_one (k : Int) (t : Kt) : grp k [t] = if bkt t.2 = k then [t] else [] := by
  unfold grp
  by_cases h : bkt t.2 = k <;> simp [h]
theorem grp_len (k : Int) (l : List Kt) : (grp k l).length ≤ l.length := List.length_filter_le _ _
theorem find_grp (s : ByteArray) (l : List ByteArray) : ∀ n, ((grp (bkt s) (plc l n)).find? (fun t => decide (t.2 = s))).map (·.1) = findF s l n := by
  induction l with
  | nil => intro n; rfl
  | cons t l ih =>
    intro n
    rw [plc, findF]
    by_cases h : t = s
    · subst h
      rw [if_pos rfl]
      simp [grp]
    · rw [if_neg h, ← ih]
      unfold grp
      by_cases hb : bkt t = bkt s
      · rw [List.filter_cons_of_pos (by simpa using hb), List.find?_cons_of_neg (by simpa using h)]
      · rw [List.filter_cons_of_neg (by simpa using hb)]
theorem find_first (p : Kt → Bool) (l : List Kt) (i : Nat) (t : Kt) (hi : l[i]? = some t) (hp : p t = true) (hn : ∀ x ∈ l.take i, p x = false) : l.find? p = some t := by
  have e : l = l.take i ++ t :: l.drop (i + 1) := by rw [← drop_at l i t hi, List.take_append_drop]
  rw [e, List.find?_append]
  have h0 : (l.take i).find? p = none := by rw [List.find?_eq_none]; intro x hx; rw [hn x hx]; simp
  rw [h0]
  simp [hp]
theorem find_no (p : Kt → Bool) (l : List Kt) (hn : ∀ x ∈ l, p x = false) : l.find? p = none := by
  rw [List.find?_eq_none]; intro x hx; rw [hn x hx]; simp
end Go.Proofs.YtdnmgpcfgcidbaaGreatDoor
namespace Go.Proofs.YtdnmgpcfgcidbaaGreatDoor
set_option linter.unusedVariables false
set_option linter.unusedSimpArgs false
open Go.RowKit
set_option maxRecDepth 20000
def ktC (t : Kt) : List Value := [.int .u64 t.1, .int .u32 t.2.size, .string t.2]
def flatK : List Kt → List Value
  | [] => []
  | t :: l => .int .u64 t.1 :: .int .u32 t.2.size :: .string t.2 :: flatK l
theorem flatK_append (a b : List Kt) : flatK (a ++ b) = flatK a ++ flatK b := by
  induction a with
  | nil => rfl
  | cons t l ih => simp [flatK, ih]
theorem flatK_at (l : List Kt) : ∀ (k : Nat) (t : Kt), l[k]? = some t → (flatK l)[k * 3]? = some (.int .u64 t.1) ∧ (flatK l)[k * 3 + 1]? = some (.int .u32 t.2.size) ∧ (flatK l)[k * 3 + 2]? = some (.string t.2) := by
  induction l with
  | nil => intro k t h; simp at h
  | cons s l ih =>
    intro k t h
    cases k with
    | zero => simp at h; subst h; simp [flatK]
    | succ k =>
      have := ih k t (by simpa using h)
      rw [show (k + 1) * 3 = k * 3 + 1 + 1 + 1 by omega]
      simpa [flatK] using this
def KtsAt (w : World) (v : Value) (l : List Kt) : Prop := ∃ a cap, v = .slice a l.length cap ∧ l.length ≤ cap ∧ cap ≤ maxLen ∧ ∀ k t, l[k]? = some t → ∃ g off, a = some ⟨g, off, none⟩ ∧ g < w.heap.size ∧ w.cell? ⟨g, off + k * 3, none⟩ = some (.int .u64 t.1) ∧ w.cell? ⟨g, off + k * 3 + 1, none⟩ = some (.int .u32 t.2.size) ∧ w.cell? ⟨g, off + k * 3 + 2, none⟩ = some (.string t.2)
theorem KtsAt.below {w w' : World} {v : Value} {l : List Kt} (h : KtsAt w v l) (hb : Below w.heap.size w w') : KtsAt w' v l := by
  obtain ⟨a, cap, rfl, h1, h2, hc⟩ := h
  refine ⟨a, cap, rfl, h1, h2, fun k t ht => ?_⟩
  obtain ⟨g, off, ha, hg, c0, c1, c2⟩ := hc k t ht
  exact ⟨g, off, ha, Nat.lt_of_lt_of_le hg hb.size, vcell_later hb c0, vcell_later hb c1, vcell_later hb c2⟩
def OwnK (w : World) (B : Nat) (v : Value) (l : List Kt) : Prop := w.ownsRow B 234 3 v l.length (flatK l)
theorem ownK_nil (w : World) (B : Nat) : OwnK w B (.slice none 0 0) [] := World.ownsRow_nil _ _ _ _
theorem OwnK.lt {w : World} {B : Nat} {v : Value} {l : List Kt} (h : OwnK w B v l) : ∀ k, v.ownBlock = some k → B ≤ k ∧ k < w.heap.size := World.ownsRow.lt h
theorem OwnK.keep {w w' : World} {B : Nat} {v : Value} {l : List Kt} (h : OwnK w B v l) (hk : ∀ k, v.ownBlock = some k → w'.heap[k]? = w.heap[k]?) : OwnK w' B v l := by
  obtain ⟨h1, h2⟩ := h
  refine ⟨h1, ?_⟩
  rcases h2 with h2 | ⟨g, cap, cur, hv, hg, hh, r⟩
  · exact .inl h2
  · refine .inr ⟨g, cap, cur, hv, hg, ?_, r⟩
    rw [hk g (by rw [hv]; rfl)]; exact hh
theorem OwnK.below {w w' : World} {B : Nat} {v : Value} {l : List Kt} (h : OwnK w B v l) (hb : Below w.heap.size w w') : OwnK w' B v l :=
  h.keep (fun k hk => hb.block k (h.lt k hk).2)
theorem OwnK.mono {w : World} {B B' : Nat} {v : Value} {l : List Kt} (h : OwnK w B v l) (hb : B' ≤ B) : OwnK w B' v l := by
  obtain ⟨h1, h2⟩ := h
  refine ⟨h1, ?_⟩
  rcases h2 with h2 | ⟨g, cap, cur, hv, hg, r⟩
  · exact .inl h2
  · exact .inr ⟨g, cap, cur, hv, Nat.le_trans hb hg, r⟩
theorem OwnK.cells {w : World} {B : Nat} {v : Value} {l : List Kt} (h : OwnK w B v l) {g : Nat} (hg : v.ownBlock = some g) : ∃ cur T fz, w.heap[g]? = some (.cells cur T fz) := by
  rcases h.2 with ⟨rfl, _⟩ | ⟨g', cap, cur, rfl, _, hh, _⟩
  · cases hg
  · cases hg
    exact ⟨_, _, _, hh⟩
theorem OwnK.ktsAt {w : World} {B : Nat} {v : Value} {l : List Kt} (h : OwnK w B v l) : KtsAt w v l := by
  have hlt := h.lt
  have h' := h
  obtain ⟨h1, h2⟩ := h
  rcases h2 with ⟨rfl, hn⟩ | ⟨g, cap, cur, rfl, hg, hh, hle, hm, _⟩
  · obtain rfl : l = [] := List.eq_nil_of_length_eq_zero hn
    exact ⟨none, 0, rfl, Nat.le_refl _, by simp, fun k t h => by simp at h⟩
  · refine ⟨_, cap, rfl, hle, hm, fun k t ht => ⟨g, 0, rfl, (hlt g rfl).2, ?_⟩⟩
    have hk := (List.getElem?_eq_some_iff.1 ht).1
    obtain ⟨f0, f1, f2⟩ := flatK_at l k t ht
    rw [Nat.zero_add]
    exact ⟨(World.ownsRow.cellAt h' (k * 3) (by omega)).trans f0, (World.ownsRow.cellAt h' (k * 3 + 1) (by omega)).trans f1, (World.ownsRow.cellAt h' (k * 3 + 2) (by omega)).trans f2⟩
theorem OwnK.slice {w : World} {B : Nat} {v : Value} {l : List Kt} (h : OwnK w B v l) : ∃ a cap, v = .slice a l.length cap := by
  obtain ⟨a, cap, hv, _⟩ := h.ktsAt
  exact ⟨a, cap, hv⟩
theorem ownk_conv {w : World} {B : Nat} {v : Value} {n : Nat} {l : List Kt} {ys : List Value} (h : w.ownsRow B 234 3 v n ys) (hn : n = l.length) (he : ys = flatK l) : OwnK w B v l := by
  subst hn; subst he; exact h
theorem infoKt : (Tryz.prog.info? 234).map (fun i => (i.zero, i.size, i.bytes)) = some (some (.agg #[.int .u64 0, .int .u32 0, .string { data := #[] }]), 3, 32) := by kernel_rfl
def Three (w : World) (g : Nat) (t : Kt) : Prop := w.cell? ⟨g, 0, none⟩ = some (.int .u64 t.1) ∧ w.cell? ⟨g, 1, none⟩ = some (.int .u32 t.2.size) ∧ w.cell? ⟨g, 2, none⟩ = some (.string t.2)
theorem Three.lt {w : World} {g : Nat} {t : Kt} (h : Three w g t) : g < w.heap.size := vcell_lt h.1
theorem Three.below {w w' : World} {g : Nat} {t : Kt} (h : Three w g t) (hb : Below w.heap.size w w') : Three w' g t := ⟨vcell_later hb h.1, vcell_later hb h.2.1, vcell_later hb h.2.2⟩
theorem three_new (w : World) (t : Kt) (T : TypeId) : Three (w.alloc (.cells #[.int .u64 t.1, .int .u32 t.2.size, .string t.2] T)) w.heap.size t := ⟨by simp [go_sem], by simp [go_sem], by simp [go_sem]⟩
theorem kappend_run (W : World) (ty : TypeId) (v : Value) (L : List Kt) (t : Kt) (g c : Nat) (hown : OwnK W 0 v L) (hx : Three W g t) (hl : L.length ≤ 1000000) :
    ∃ v' w', (Builtin.append_ #[224, 224] ty #[v, .slice (some ⟨g, 0, none⟩) 1 c]).run Tryz.prog W = .ok v' w' ∧ OwnK w' 0 v' (L ++ [t]) ∧ W.grownBy w' v.ownBlock ∧ (v'.ownBlock = v.ownBlock ∨ ∃ g, v'.ownBlock = some g ∧ W.heap.size ≤ g) := by
  obtain ⟨v', w', hr, h2, h3, h4⟩ := rappend_run 3 32 W 0 224 234 ty _ Tryz.underlying224 infoKt rfl (by omega) (by omega) v L.length (flatK L) hown ⟨g, 0, none⟩ 1 c (ktC t) rfl (by
    intro j u hu
    match j, hu with
    | 0, hu => simp only [ktC, List.getElem?_cons_zero, Option.some.injEq] at hu; rw [← hu]; exact hx.1
    | 1, hu => simp only [ktC, List.getElem?_cons_succ, List.getElem?_cons_zero, Option.some.injEq] at hu; rw [← hu]; exact hx.2.1
    | 2, hu => simp only [ktC, List.getElem?_cons_succ, List.getElem?_cons_zero, Option.some.injEq] at hu; rw [← hu]; exact hx.2.2
    | j + 3, hu => simp [ktC] at hu) (by
    intro u hu
    simp only [ktC, List.mem_cons, List.not_mem_nil, or_false] at hu
    rcases hu with rfl | rfl | rfl <;> rfl) (by omega) (by omega) (Nat.zero_le _)
  refine ⟨v', w', hr, ?_, h3, h4⟩
  exact ownk_conv h2 (by simp) (by rw [flatK_append]; rfl)
def tokE : Value → Option (DataW Value × List MemPlace)
  | .slice a n c => some (.held (.slice a n c), [])
  | _ => none
def nilS : Value := .slice none 0 0
theorem lawI : Maps.Keyed Tryz.prog 3 := Maps.int_keyed Tryz.underlying3
theorem keyI {k : Int} (h : (Lit.int .i64 k).wf = true) : keyOf Tryz.prog 3 (.int .i64 k) = some (.int .i64 k) := Maps.keyOf_int_mk Tryz.underlying3 h
theorem zeroK (w : World) : (zeroValue 224).run Tryz.prog w = .ok nilS w := by
  have h : ((Tryz.prog.info? 224).map (·.zero)) = some (some nilS) := by kernel_rfl
  cases hq : Tryz.prog.info? 224 with
  | none => simp [hq] at h
  | some i =>
    have hz : i.zero = some nilS := by simpa [hq] using h
    simp [zeroValue, typeInfo, hq, hz]
def MapG (w : World) (mb n : Nat) (G : Int → Value) : Prop := ∃ D : DataW Value, w.ownsMap Tryz.prog 3 tokE mb n D ∧ ∀ k, (Lit.int .i64 k).wf = true → D.atKey (.int .i64 k) (.held nilS) = .held (G k)
theorem MapG.keep {w w' : World} {mb n : Nat} {G : Int → Value} (h : MapG w mb n G) (hk : w'.heap[mb]? = w.heap[mb]?) : MapG w' mb n G := by
  obtain ⟨D, ⟨es, clock, hb, r⟩, hG⟩ := h
  exact ⟨D, ⟨es, clock, hk.trans hb, r⟩, hG⟩
theorem MapG.lt {w : World} {mb n : Nat} {G : Int → Value} (h : MapG w mb n G) : mb < w.heap.size := by
  obtain ⟨D, h, _⟩ := h
  exact h.lt
theorem MapG.below {w w' : World} {mb n : Nat} {G : Int → Value} (h : MapG w mb n G) (hb : Below w.heap.size w w') : MapG w' mb n G := h.keep (hb.block mb h.lt)
theorem MapG.block {w : World} {mb n : Nat} {G : Int → Value} (h : MapG w mb n G) : ∃ es clock, w.heap[mb]? = some (.map es clock) := by
  obtain ⟨D, ⟨es, clock, hb, _⟩, _⟩ := h
  exact ⟨es, clock, hb⟩
theorem tok_inv {v : Value} {y : DataW Value × List MemPlace} (h : tokE v = some y) : (∃ a n c, v = .slice a n c) ∧ y = (.held v, []) := by
  cases v <;> simp [tokE] at h
  exact ⟨⟨_, _, _, rfl⟩, h.symm⟩
theorem MapG.look {w : World} {mb n : Nat} {G : Int → Value} (h : MapG w mb n G) (k : Int) (hk : (Lit.int .i64 k).wf = true) : (Instr.lookup 225 (.map (some mb)) (.int .i64 k) false).run Tryz.prog w = .ok (G k) w := by
  obtain ⟨D, hD, hG⟩ := h
  obtain ⟨v, ps, hrun, hv⟩ := hD.lookup lawI Tryz.underlying225 (zeroK w) (zd := .held nilS) (zp := []) rfl (keyI hk)
  rw [hG k hk] at hv
  obtain ⟨_, he⟩ := tok_inv hv
  injection he with h1 h2
  injection h1 with h1
  rw [hrun, h1]
theorem look_none (w : World) (k : Int) (hk : (Lit.int .i64 k).wf = true) : (Instr.lookup 225 (.map none) (.int .i64 k) false).run Tryz.prog w = .ok nilS w := by
  have h := Maps.look_nil (w := w) (P := Tryz.prog) false lawI Tryz.underlying225 (zeroK w) (keyI hk)
  simpa using h
def putG (G : Int → Value) (k : Int) (v : Value) : Int → Value := fun j => if j = k then v else G j
theorem putG_same (G : Int → Value) (k : Int) (v : Value) : putG G k v k = v := by simp [putG]
theorem putG_other (G : Int → Value) (k j : Int) (v : Value) (h : j ≠ k) : putG G k v j = G j := by simp [putG, h]
theorem MapG.put {w : World} {mb n : Nat} {G : Int → Value} (h : MapG w mb n G) (hn : n < maxLen) (k : Int) (hk : (Lit.int .i64 k).wf = true) (v : Value) (hv : ∃ a n c, v = .slice a n c) :
    ∃ w', (Instr.mapUpdate 225 (.map (some mb)) (.int .i64 k) v).run Tryz.prog w = .ok () w' ∧ MapG w' mb (n + 1) (putG G k v) ∧ w.grownBy w' (some mb) := by
  obtain ⟨D, hD, hG⟩ := h
  obtain ⟨a, m, c, rfl⟩ := hv
  obtain ⟨w', hrun, hD', hgr⟩ := hD.update lawI Tryz.underlying225 hn (keyI hk) (val := .slice a m c) (d := .held (.slice a m c)) (ps := []) rfl
  refine ⟨w', hrun, ⟨_, hD', fun j hj => ?_⟩, hgr⟩
  by_cases e : j = k
  · subst e
    rw [putG_same]
    exact Maps.atKey_put_same hD.isMap (lawI.key (keyI hk)) _ _
  · rw [putG_other G k j _ e, ← hG j hj]
    exact Maps.atKey_put_other (by intro h; injection h with _ h; exact e h) _ _
theorem MapG.made (w : World) : MapG (w.alloc (.map #[] 0)) w.heap.size 0 (fun _ => nilS) := ⟨_, World.ownsMap_made w Tryz.prog 3 tokE, fun k _ => rfl⟩
structure PoolAt (w : World) (pb : Nat) (va vm : Value) (G : Int → Value) (l : List ByteArray) : Prop where
  good : GoodP l
  two : Two w pb va vm
  all : OwnK w 0 va (plc l 0)
  map : (vm = .map none ∧ l = [] ∧ ∀ k, G k = nilS) ∨ ∃ mb, vm = .map (some mb) ∧ MapG w mb l.length G
  grps : ∀ k, OwnK w 0 (G k) (grp k (plc l 0))
  n1 : va.ownBlock ≠ some pb
  n2 : ∀ k, (G k).ownBlock ≠ some pb
  n3 : ∀ k g, (G k).ownBlock = some g → va.ownBlock ≠ some g
  n4 : ∀ k j g, (G k).ownBlock = some g → (G j).ownBlock = some g → k = j
  n5 : ∀ mb, vm = .map (some mb) → mb ≠ pb
def blkS (pb : Nat) (va vm : Value) (G : Int → Value) (b : Nat) : Prop := b = pb ∨ va.ownBlock = some b ∨ vm = .map (some b) ∨ ∃ k, (G k).ownBlock = some b
theorem PoolAt.lt {w : World} {pb : Nat} {va vm : Value} {G : Int → Value} {l : List ByteArray} (h : PoolAt w pb va vm G l) : ∀ b, blkS pb va vm G b → b < w.heap.size := by
  rintro b (rfl | hb | rfl | ⟨k, hb⟩)
  · exact h.two.lt
  · exact (h.all.lt b hb).2
  · rcases h.map with ⟨e, _⟩ | ⟨mb, e, hm⟩
    · cases e
    · cases e; exact hm.lt
  · exact ((h.grps k).lt b hb).2
theorem PoolAt.keep {w w' : World} {pb : Nat} {va vm : Value} {G : Int → Value} {l : List ByteArray} (h : PoolAt w pb va vm G l) (hk : ∀ b, blkS pb va vm G b → w'.heap[b]? = w.heap[b]?) : PoolAt w' pb va vm G l := by
  have hp := hk pb (.inl rfl)
  obtain ⟨t0, t1, t2, t3⟩ := h.two
  refine ⟨h.good, ⟨(World.cell?_of_block (a := ⟨pb, 0, none⟩) hp).trans t0, (World.cell?_of_block (a := ⟨pb, 1, none⟩) hp).trans t1, (World.frozen?_of_block (a := ⟨pb, 0, none⟩) hp).trans t2, (World.frozen?_of_block (a := ⟨pb, 1, none⟩) hp).trans t3⟩, h.all.keep (fun b hb => hk b (.inr (.inl hb))), ?_, fun k => (h.grps k).keep (fun b hb => hk b (.inr (.inr (.inr ⟨k, hb⟩)))), h.n1, h.n2, h.n3, h.n4, h.n5⟩
  rcases h.map with e | ⟨mb, e, hm⟩
  · exact .inl e
  · exact .inr ⟨mb, e, hm.keep (hk mb (.inr (.inr (.inl e))))⟩
theorem PoolAt.below {w w' : World} {pb : Nat} {va vm : Value} {G : Int → Value} {l : List ByteArray} (h : PoolAt w pb va vm G l) (hb : Below w.heap.size w w') : PoolAt w' pb va vm G l :=
  h.keep (fun b hS => hb.block b (h.lt b hS))
theorem PoolAt.look {w : World} {pb : Nat} {va vm : Value} {G : Int → Value} {l : List ByteArray} (h : PoolAt w pb va vm G l) (k : Int) (hk : (Lit.int .i64 k).wf = true) : (Instr.lookup 225 vm (.int .i64 k) false).run Tryz.prog w = .ok (G k) w := by
  rcases h.map with ⟨rfl, _, hG⟩ | ⟨mb, rfl, hm⟩
  · rw [hG k]; exact look_none w k hk
  · exact hm.look k hk
theorem map_row {w : World} {mb n : Nat} {G : Int → Value} (h : MapG w mb n G) {B : Nat} {v : Value} {l : List Kt} (hv : OwnK w B v l) : v.ownBlock ≠ some mb := by
  intro e
  obtain ⟨es, clock, h1⟩ := h.block
  obtain ⟨cur, T, fz, h2⟩ := hv.cells e
  rw [h1] at h2
  cases h2
theorem wf_i64 {k : Int} (h0 : -9223372036854775808 ≤ k) (h1 : k ≤ 9223372036854775807) : (Lit.int .i64 k).wf = true := WalkArith.wf_i64 ⟨h0, h1⟩
def PoolS (w : World) (v : Value) (l : List ByteArray) (S : Nat → Prop) : Prop := ∃ pb va vm G, v = .pointer (some ⟨pb, 0, none⟩) ∧ PoolAt w pb va vm G l ∧ ∀ b, S b ↔ blkS pb va vm G b
theorem PoolS.ptr {w : World} {v : Value} {l : List ByteArray} {S : Nat → Prop} (h : PoolS w v l S) : ∃ a, v = .pointer (some a) := by
  obtain ⟨pb, va, vm, G, rfl, _⟩ := h
  exact ⟨_, rfl⟩
theorem PoolS.good {w : World} {v : Value} {l : List ByteArray} {S : Nat → Prop} (h : PoolS w v l S) : GoodP l := by
  obtain ⟨pb, va, vm, G, rfl, h, _⟩ := h
  exact h.good
theorem PoolS.lt {w : World} {v : Value} {l : List ByteArray} {S : Nat → Prop} (h : PoolS w v l S) : ∀ b, S b → b < w.heap.size := by
  obtain ⟨pb, va, vm, G, rfl, h, hS⟩ := h
  exact fun b hb => h.lt b ((hS b).1 hb)
theorem PoolS.keep {w w' : World} {v : Value} {l : List ByteArray} {S : Nat → Prop} (h : PoolS w v l S) (hs : w.heap.size ≤ w'.heap.size) (hk : ∀ b, S b → w'.heap[b]? = w.heap[b]?) : PoolS w' v l S := by
  obtain ⟨pb, va, vm, G, rfl, h, hS⟩ := h
  exact ⟨pb, va, vm, G, rfl, h.keep (fun b hb => hk b ((hS b).2 hb)), hS⟩
theorem zero_at (w : World) (T : TypeId) : PoolAt (w.alloc (.cells #[.slice none 0 0, .map none] T)) w.heap.size (.slice none 0 0) (.map none) (fun _ => nilS) [] :=
  ⟨goodP_nil, two_new w _ _ _, ownK_nil _ _, .inl ⟨rfl, rfl, fun _ => rfl⟩, fun k => ownK_nil _ _, (by simp [Value.ownBlock]), (by simp [Value.ownBlock, nilS]), (by simp [Value.ownBlock, nilS]), (by simp [Value.ownBlock, nilS]), (by simp)⟩
theorem zero_blk {pb b : Nat} (h : blkS pb (.slice none 0 0) (.map none) (fun _ => nilS) b) : b = pb := by
  rcases h with h | h | h | ⟨k, h⟩
  · exact h
  · cases h
  · cases h
  · cases h
theorem new_any (w : World) : Calls Tryz.prog 68 #[] w fun e w' => ∃ v S, e = .returned v ∧ PoolS w' v [] S ∧ (∀ b, S b → w.heap.size ≤ b) ∧ Below w.heap.size w w' := by
  go_enter Tryz.func68, Tryz.ntmps68
  go_wp2_with fail
  go_ret
  exact ⟨_, _, rfl, ⟨w.heap.size, _, _, _, rfl, zero_at w _, fun _ => Iff.rfl⟩, fun b hb => (by rw [zero_blk hb]; exact Nat.le_refl _), (Below.refl _ _).alloc (Nat.le_refl _) _⟩
theorem sclone_any (s : ByteArray) (w : World) (hs : s.size ≤ 281474976710656) : Calls Tryz.prog 47 #[.string s] w fun e w' => e = .returned (.string s) ∧ Below w.heap.size w w' := by
  have HC := Lib.hid (fun W => clo_any s W hs)
  go_enter Tryz.func47, Tryz.ntmps47
  go_wp2_with fail
  refine (HC.out _).mono ?_
  rintro e w1 ⟨rfl, hb⟩
  have HB := Lib.hid hb
  clear hb
  go_wp2_with fail
  go_ret
  exact ⟨rfl, HB.out⟩
theorem results_ct1 {fn : Func} {p : Tmp} {ty : TypeId} (h : fn.results = #[.cell p ty]) (tmps : Array Value) (w : World) (g : Nat) (x y : Value) (d : TypeDesc) (hp : tmps.getD p undef = .pointer (some ⟨g, 0, none⟩)) (c0 : w.cell? ⟨g, 0, none⟩ = some x) (c1 : w.cell? ⟨g, 1, none⟩ = some y)
    (hu : Tryz.prog.underlying ty = some d) (hd : (match d with | .struct _ | .array _ _ => true | _ => false) = true) (hi : (Tryz.prog.info? ty).map (·.size) = some 2) :
    (results fn tmps).run Tryz.prog w = .ok (.agg #[x, y]) w := by
  have hl := two_load w g ty x y d c0 c1 hu hd hi
  have hp' : tmps[p]?.getD undef = .pointer (some ⟨g, 0, none⟩) := by simpa using hp
  simp [results, h, hp', asAddr, hl]
theorem step_kappend {ops : Array Oper} {o : Oper} {a : Act} {w : World} {K : Act → World → Prop} {Q : Exit → Act → World → Prop} {E : Prop}
    (hg : o.guard = none) (s x : Operand) (hop : o.op = Op.call { callee := Callee.builtin Builtin.append, args := #[s, x], argTypes := #[224, 224] })
    (v : Value) (L : List Kt) (t : Kt) (g c : Nat) (hown : OwnK w 0 v L) (h3 : Three w g t) (hl : L.length ≤ 1000000) (hs : a.eval s = v) (hx : a.eval x = .slice (some ⟨g, 0, none⟩) 1 c)
    (hK : ∀ v' w', OwnK w' 0 v' (L ++ [t]) → w.grownBy w' v.ownBlock → (v'.ownBlock = v.ownBlock ∨ ∃ g, v'.ownBlock = some g ∧ w.heap.size ≤ g) → K (a.put o.dst v') w') :
    if Region.wanted o (yielded ops a.tmps) = true then Oper.wp Tryz.prog o a w K Q else E := by
  have hw : Region.wanted o (yielded ops a.tmps) = true := by simp [Region.wanted, hg]
  rw [if_pos hw]
  obtain ⟨v', w', hrun, h1, h2, h4⟩ := kappend_run w o.type v L t g c hown h3 hl
  unfold Oper.wp
  simp [execOp, hop, resolve, invoke, builtin, hs, hx, hrun, Result.andThen]
  exact hK v' w' h1 h2 h4
structure MidL (w W : World) (pb rb kb mb : Nat) (va vm : Value) (G : Int → Value) (l : List ByteArray) (s : ByteArray) : Prop where
  two : Two W pb va (.map (some mb))
  all : OwnK W 0 va (plc l 0)
  map : MapG W mb l.length G
  grps : ∀ k, OwnK W 0 (G k) (grp k (plc l 0))
  kt : Three W kb (totF l, s)
  rs : Two W rb (.int .u64 0) (.int .u32 0)
  lr : w.heap.size ≤ rb
  lk : w.heap.size ≤ kb
  nk : rb ≠ kb
  nm : mb ≠ pb
  om : vm = .map (some mb) ∨ w.heap.size ≤ mb
  la : ∀ g, va.ownBlock = some g → g < w.heap.size
  lg : ∀ k g, (G k).ownBlock = some g → g < w.heap.size
  kept : Kept (blkS pb va vm G) (blkS pb va vm G) w W
theorem MidL.below {w W X : World} {pb rb kb mb : Nat} {va vm : Value} {G : Int → Value} {l : List ByteArray} {s : ByteArray} (h : MidL w W pb rb kb mb va vm G l s) (hb : Below W.heap.size W X) : MidL w X pb rb kb mb va vm G l s :=
  ⟨h.two.below hb, h.all.below hb, h.map.below hb, fun k => (h.grps k).below hb, h.kt.below hb, h.rs.below hb, h.lr, h.lk, h.nk, h.nm, h.om, h.la, h.lg, h.kept.trans (Kept.below _ hb)⟩
structure Mid2 (w W : World) (pb rb kb mb : Nat) (va vm va' : Value) (G : Int → Value) (l : List ByteArray) (s : ByteArray) : Prop where
  two : Two W pb va' (.map (some mb))
  all : OwnK W 0 va' (plc l 0 ++ [(totF l, s)])
  map : MapG W mb l.length G
  grps : ∀ k, OwnK W 0 (G k) (grp k (plc l 0))
  kt : Three W kb (totF l, s)
  rs : Two W rb (.int .u64 0) (.int .u32 0)
  oa : va'.ownBlock = va.ownBlock ∨ ∃ g, va'.ownBlock = some g ∧ w.heap.size ≤ g ∧ g ≠ rb ∧ g ≠ kb ∧ g ≠ mb ∧ g ≠ pb
  kept : Kept (blkS pb va vm G) (blkS pb va vm G) w W
theorem Mid2.below {w W X : World} {pb rb kb mb : Nat} {va vm va' : Value} {G : Int → Value} {l : List ByteArray} {s : ByteArray} (h : Mid2 w W pb rb kb mb va vm va' G l s) (hb : Below W.heap.size W X) : Mid2 w X pb rb kb mb va vm va' G l s :=
  ⟨h.two.below hb, h.all.below hb, h.map.below hb, fun k => (h.grps k).below hb, h.kt.below hb, h.rs.below hb, h.oa, h.kept.trans (Kept.below _ hb)⟩
theorem Two.keep {w w' : World} {g : Nat} {x y : Value} (h : Two w g x y) (hk : w'.heap[g]? = w.heap[g]?) : Two w' g x y :=
  ⟨(World.cell?_of_block (a := ⟨g, 0, none⟩) hk).trans h.1, (World.cell?_of_block (a := ⟨g, 1, none⟩) hk).trans h.2.1, (World.frozen?_of_block (a := ⟨g, 0, none⟩) hk).trans h.2.2.1, (World.frozen?_of_block (a := ⟨g, 1, none⟩) hk).trans h.2.2.2⟩
theorem Three.keep {w w' : World} {g : Nat} {t : Kt} (h : Three w g t) (hk : w'.heap[g]? = w.heap[g]?) : Three w' g t :=
  ⟨(World.cell?_of_block (a := ⟨g, 0, none⟩) hk).trans h.1, (World.cell?_of_block (a := ⟨g, 1, none⟩) hk).trans h.2.1, (World.cell?_of_block (a := ⟨g, 2, none⟩) hk).trans h.2.2⟩
theorem kept_set (S : Nat → Prop) (w : World) (p : Addr) (v : Value) (hp : S p.block) : Kept S S w (w.setCell p v) :=
  ⟨rfl, rfl, rfl, by simp, fun b hb hn => Below.heap_setCell _ _ _ _ (by intro e; subst e; exact hn hp), fun _ h => .inl h⟩
theorem kept_grown (S : Nat → Prop) {w w' : World} {row : Option Nat} (hg : w.grownBy w' row) (hr : ∀ k, row = some k → S k ∨ w.heap.size ≤ k) : Kept S S w w' :=
  ⟨hg.os, hg.tape, hg.output, hg.size, fun b hb hn => hg.block b hb (fun e => by rcases hr b e.symm with h | h; exact hn h; omega), fun _ h => .inl h⟩
theorem OwnK.form3 {w : World} {B : Nat} {v : Value} {l : List Kt} (h : OwnK w B v l) : ∃ a n c, v = .slice a n c := by
  obtain ⟨a, c, e⟩ := h.slice
  exact ⟨_, _, _, e⟩
theorem Mid2.map7 {w W X w7 : World} {pb rb kb mb : Nat} {va vm va' : Value} {G : Int → Value} {l : List ByteArray} {s : ByteArray} (h : Mid2 w W pb rb kb mb va vm va' G l s) (hX : Below W.heap.size W X) {k : Int} (hgr : X.grownBy w7 (G k).ownBlock) : MapG w7 mb l.length G :=
  (h.below hX).map.keep (hgr.block mb (h.below hX).map.lt (fun e => map_row (h.below hX).map ((h.below hX).grps k) e.symm))
theorem Mid2.two7 {w W X w7 : World} {pb rb kb mb : Nat} {va vm va' : Value} {G : Int → Value} {l : List ByteArray} {s : ByteArray} (h : Mid2 w W pb rb kb mb va vm va' G l s) (hX : Below W.heap.size W X) {k : Int} (hgr : X.grownBy w7 (G k).ownBlock) (hn : (G k).ownBlock ≠ some pb) : Two w7 pb va' (.map (some mb)) :=
  (h.below hX).two.keep (hgr.block pb (h.below hX).two.lt (fun e => hn e.symm))
theorem Kept.set2 {S S' : Nat → Prop} {w w' : World} (h : Kept S S' w w') (r : Nat) (hr : w.heap.size ≤ r) (x y : Value) : Kept S S' w ((w'.setCell ⟨r, 0, none⟩ x).setCell ⟨r, 1, none⟩ y) :=
  ⟨h.os, h.tape, h.output, by simpa using h.size, fun b hb hn => by rw [Below.heap_setCell _ _ _ _ (by simp; omega), Below.heap_setCell _ _ _ _ (by simp; omega)]; exact h.same b hb hn, h.own⟩
theorem PoolAt.set2 {w : World} {pb : Nat} {va vm : Value} {G : Int → Value} {l : List ByteArray} (h : PoolAt w pb va vm G l) (r : Nat) (hr : ¬ blkS pb va vm G r) (x y : Value) : PoolAt ((w.setCell ⟨r, 0, none⟩ x).setCell ⟨r, 1, none⟩ y) pb va vm G l :=
  h.keep (fun b hb => by rw [Below.heap_setCell _ _ _ _ (by intro e; simp at e; subst e; exact hr hb), Below.heap_setCell _ _ _ _ (by intro e; simp at e; subst e; exact hr hb)])
theorem mid2_of {w W X w6 : World} {pb rb kb mb : Nat} {va vm v' : Value} {G : Int → Value} {l : List ByteArray} {s : ByteArray} (hP : PoolAt w pb va vm G l) (h : MidL w W pb rb kb mb va vm G l s) (hX : Below W.heap.size W X)
    (hown : OwnK w6 0 v' (plc l 0 ++ [(totF l, s)])) (hgr : X.grownBy w6 va.ownBlock) (hloc : v'.ownBlock = va.ownBlock ∨ ∃ g, v'.ownBlock = some g ∧ X.heap.size ≤ g) :
    Two w6 pb va (.map (some mb)) ∧ Mid2 w (w6.setCell ⟨pb, 0, none⟩ v') pb rb kb mb va vm v' G l s := by
  have hx := h.below hX
  have hpb := hx.two.lt
  have hrb := hx.rs.lt
  have hkb := hx.kt.lt
  have hmb := hx.map.lt
  have hpw := hP.two.lt
  have hlr := h.lr
  have hlk := h.lk
  have hnp : some pb ≠ va.ownBlock := fun e => hP.n1 e.symm
  have e6 : ∀ b, b < X.heap.size → some b ≠ va.ownBlock → w6.heap[b]? = X.heap[b]? := fun b hb hn => hgr.block b hb hn
  have hva : ∀ b, w.heap.size ≤ b → some b ≠ va.ownBlock := fun b hb e => by have := h.la b e.symm; omega
  have hmv : some mb ≠ va.ownBlock := fun e => map_row hx.map hx.all e.symm
  have es : ∀ b, b ≠ pb → (w6.setCell ⟨pb, 0, none⟩ v').heap[b]? = w6.heap[b]? := fun b hb => Below.heap_setCell _ _ _ _ (by simpa using hb)
  have h2 : Two w6 pb va (.map (some mb)) := hx.two.keep (e6 pb hpb hnp)
  have hvp : v'.ownBlock ≠ some pb := by
    rcases hloc with e | ⟨g, e, hg⟩
    · rw [e]; exact hP.n1
    · rw [e]; intro e2; injection e2 with e2; omega
  refine ⟨h2, ?_⟩
  refine ⟨?_, ?_, ?_, ?_, ?_, ?_, ?_, ?_⟩
  · refine ⟨World.cell?_setCell_same _ _ _ h2.1, ?_, by simpa using h2.2.2.1, by simpa using h2.2.2.2⟩
    rw [World.cell?_setCell_other (h := by simp)]; exact h2.2.1
  · exact hown.keep (fun k hk => es k (fun e => hvp (by rw [hk, e])))
  · exact hx.map.keep ((es mb h.nm).trans (e6 mb hmb hmv))
  · intro k
    exact (hx.grps k).keep (fun g hg => (es g (fun e => hP.n2 k (by rw [hg, e]))).trans (e6 g ((hx.grps k).lt g hg).2 (fun e => hP.n3 k g hg e.symm)))
  · exact hx.kt.keep ((es kb (by omega)).trans (e6 kb hkb (hva kb hlk)))
  · exact hx.rs.keep ((es rb (by omega)).trans (e6 rb hrb (hva rb hlr)))
  · rcases hloc with e | ⟨g, e, hg⟩
    · exact .inl e
    · exact .inr ⟨g, e, by have := hx.kept.size; omega, by omega, by omega, by omega, by omega⟩
  · exact (hx.kept.trans (kept_grown _ hgr (fun k hk => .inl (.inr (.inl hk))))).trans (kept_set _ _ _ _ (.inl rfl))
theorem pool_of {w W X w7 w8 : World} {pb rb kb mb : Nat} {va vm va' gv' : Value} {G : Int → Value} {l : List ByteArray} {s : ByteArray} (hP : PoolAt w pb va vm G l) (hml : ∀ k g, (G k).ownBlock = some g → g < w.heap.size) (hal : ∀ g, va.ownBlock = some g → g < w.heap.size) (hnm : mb ≠ pb) (hom : vm = .map (some mb) ∨ w.heap.size ≤ mb) (hlr : w.heap.size ≤ rb) (hlk : w.heap.size ≤ kb)
    (hg : GoodP (l ++ [s])) (h : Mid2 w W pb rb kb mb va vm va' G l s) (hX : Below W.heap.size W X)
    (hown : OwnK w7 0 gv' (grp (bkt s) (plc l 0) ++ [(totF l, s)])) (hgr : X.grownBy w7 (G (bkt s)).ownBlock) (hloc : gv'.ownBlock = (G (bkt s)).ownBlock ∨ ∃ g, gv'.ownBlock = some g ∧ X.heap.size ≤ g)
    (hmap : MapG w8 mb (l.length + 1) (putG G (bkt s) gv')) (hgr8 : w7.grownBy w8 (some mb)) :
    PoolAt w8 pb va' (.map (some mb)) (putG G (bkt s) gv') (l ++ [s]) ∧ Kept (blkS pb va vm G) (blkS pb va' (.map (some mb)) (putG G (bkt s) gv')) w w8 ∧ Two w8 rb (.int .u64 0) (.int .u32 0) ∧ Three w8 kb (totF l, s) ∧ ¬ blkS pb va' (.map (some mb)) (putG G (bkt s) gv') rb := by
  have hx := h.below hX
  have hpb := hx.two.lt
  have hrb := hx.rs.lt
  have hkb := hx.kt.lt
  have hmb := hx.map.lt
  have hpw := hP.two.lt
  have hwX := hx.kept.size
  have hs7 := hgr.size
  have hgl := hml (bkt s)
  have e7 : ∀ b, b < X.heap.size → some b ≠ (G (bkt s)).ownBlock → w7.heap[b]? = X.heap[b]? := fun b hb hn => hgr.block b hb hn
  have e8 : ∀ b, b < w7.heap.size → b ≠ mb → w8.heap[b]? = w7.heap[b]? := fun b hb hn => hgr8.block b hb (fun e => hn (by injection e))
  have hmv : some mb ≠ (G (bkt s)).ownBlock := fun e => map_row hx.map (hx.grps _) e.symm
  have hm7 : MapG w7 mb l.length G := hx.map.keep (e7 mb hmb hmv)
  have hgm : gv'.ownBlock ≠ some mb := map_row hm7 hown
  have hrm : rb ≠ mb := by
    rintro rfl
    obtain ⟨es, cl, hh⟩ := hx.map.block
    have := hx.rs.1
    simp [World.cell?, hh] at this
  have hkm : kb ≠ mb := by
    rintro rfl
    obtain ⟨es, cl, hh⟩ := hx.map.block
    have := hx.kt.1
    simp [World.cell?, hh] at this
  have e78 : ∀ b, b < X.heap.size → some b ≠ (G (bkt s)).ownBlock → b ≠ mb → w8.heap[b]? = X.heap[b]? := fun b hb hn hm => (e8 b (by omega) hm).trans (e7 b hb hn)
  have hnew : ∀ b, w.heap.size ≤ b → some b ≠ (G (bkt s)).ownBlock := fun b hb e => by have := hgl b e.symm; omega
  have hav : va'.ownBlock ≠ some mb := map_row hx.map hx.all
  have hag : ∀ g, va'.ownBlock = some g → some g ≠ (G (bkt s)).ownBlock := by
    intro g hg e
    rcases hx.oa with e2 | ⟨g2, e2, h2, _⟩
    · exact hP.n3 _ g e.symm (by rw [← e2]; exact hg)
    · rw [e2] at hg; injection hg with hg; subst hg
      exact hnew g2 h2 e
  have hall : OwnK w8 0 va' (plc l 0 ++ [(totF l, s)]) := hx.all.keep (fun g hg => e78 g (hx.all.lt g hg).2 (hag g hg) (fun e => hav (by rw [hg, e])))
  have hgg : OwnK w8 0 gv' (grp (bkt s) (plc l 0) ++ [(totF l, s)]) := hown.keep (fun g hg => e8 g (hown.lt g hg).2 (fun e => hgm (by rw [hg, e])))
  have hap : va'.ownBlock ≠ some pb := by
    rcases hx.oa with e2 | ⟨g2, e2, _, _, _, _, h2⟩
    · rw [e2]; exact hP.n1
    · rw [e2]; intro e; injection e with e; exact h2 e
  have hgp : gv'.ownBlock ≠ some pb := by
    rcases hloc with e2 | ⟨g2, e2, h2⟩
    · rw [e2]; exact hP.n2 _
    · rw [e2]; intro e; injection e with e; omega
  refine ⟨⟨hg, hx.two.keep (e78 pb hpb (fun e => hP.n2 _ e.symm) (fun e => hnm e.symm)), by rw [plc_snoc]; exact hall, .inr ⟨mb, rfl, by rw [List.length_append]; exact hmap⟩, ?_, hap, ?_, ?_, ?_, ?_⟩, ?_, hx.rs.keep (e78 rb hrb (hnew rb hlr) hrm), hx.kt.keep (e78 kb hkb (hnew kb hlk) hkm), ?_⟩
  · intro k
    rw [plc_snoc, grp_append, grp_one]
    by_cases e : k = bkt s
    · subst e
      rw [putG_same, if_pos rfl]
      exact hgg
    · rw [putG_other _ _ _ _ e, if_neg (fun e2 => e e2.symm), List.append_nil]
      exact (hx.grps k).keep (fun g hg => e78 g ((hx.grps k).lt g hg).2 (fun e2 => e (hP.n4 k (bkt s) g hg e2.symm)) (fun e2 => map_row hx.map (hx.grps k) (by rw [hg, e2])))
  · intro k
    by_cases e : k = bkt s
    · subst e; rw [putG_same]; exact hgp
    · rw [putG_other _ _ _ _ e]; exact hP.n2 k
  · intro k g hk
    by_cases e : k = bkt s
    · subst e
      rw [putG_same] at hk
      intro ha
      rcases hloc with e2 | ⟨g2, e2, h2⟩
      · rw [e2] at hk
        exact hag g ha hk.symm
      · rw [e2] at hk; injection hk with hk; subst hk
        have := (hx.all.lt g2 ha).2
        omega
    · rw [putG_other _ _ _ _ e] at hk
      intro ha
      rcases hx.oa with e2 | ⟨g2, e2, h2, _⟩
      · exact hP.n3 k g hk (by rw [← e2]; exact ha)
      · rw [e2] at ha; injection ha with ha; subst ha
        have := hml k g2 hk
        omega
  · intro k j g hk hj
    by_cases e : k = bkt s
    · by_cases e2 : j = bkt s
      · rw [e, e2]
      · subst e
        rw [putG_same] at hk
        rw [putG_other _ _ _ _ e2] at hj
        rcases hloc with e3 | ⟨g2, e3, h3⟩
        · rw [e3] at hk; exact hP.n4 _ _ g hk hj
        · rw [e3] at hk; injection hk with hk; subst hk
          have := hml j g2 hj
          omega
    · rw [putG_other _ _ _ _ e] at hk
      by_cases e2 : j = bkt s
      · subst e2
        rw [putG_same] at hj
        rcases hloc with e3 | ⟨g2, e3, h3⟩
        · rw [e3] at hj; exact hP.n4 _ _ g hk hj
        · rw [e3] at hj; injection hj with hj; subst hj
          have := hml k g2 hk
          omega
      · rw [putG_other _ _ _ _ e2] at hj
        exact hP.n4 _ _ g hk hj
  · intro m e; injection e with e; injection e with e; subst e; exact hnm
  · have hk0 : Kept (blkS pb va vm G) (fun b => blkS pb va vm G b ∨ w.heap.size ≤ b) w X := ⟨hx.kept.os, hx.kept.tape, hx.kept.output, hx.kept.size, hx.kept.same, fun b hb => hb⟩
    have hk1 := (hk0.trans (kept_grown _ hgr (fun k hk => .inl (.inl (.inr (.inr (.inr ⟨_, hk⟩))))))).trans (kept_grown _ hgr8 (fun k hk => by
      injection hk with hk
      subst hk
      rcases hom with e | e
      · exact .inl (.inl (.inr (.inr (.inl e))))
      · exact .inl (.inr e)))
    refine ⟨hk1.os, hk1.tape, hk1.output, hk1.size, hk1.same, ?_⟩
    rintro b (rfl | hb | hb | ⟨k, hb⟩)
    · exact .inl (.inl rfl)
    · rcases hx.oa with e2 | ⟨g2, e2, h2, _⟩
      · exact .inl (.inr (.inl (by rw [← e2]; exact hb)))
      · rw [e2] at hb; injection hb with hb; subst hb; exact .inr h2
    · injection hb with hb; injection hb with hb; subst hb
      rcases hom with e | e
      · exact .inl (.inr (.inr (.inl e)))
      · exact .inr e
    · by_cases e : k = bkt s
      · subst e
        rw [putG_same] at hb
        rcases hloc with e3 | ⟨g2, e3, h3⟩
        · exact .inl (.inr (.inr (.inr ⟨_, by rw [← e3]; exact hb⟩)))
        · rw [e3] at hb; injection hb with hb; subst hb; exact .inr (by omega)
      · rw [putG_other _ _ _ _ e] at hb
        exact .inl (.inr (.inr (.inr ⟨k, hb⟩)))
  · rintro (hb | hb | hb | ⟨k, hb⟩)
    · omega
    · rcases hx.oa with e2 | ⟨g2, e2, h2, h3, _⟩
      · have := hal rb (by rw [← e2]; exact hb); omega
      · rw [e2] at hb; injection hb with hb; exact h3 hb
    · injection hb with hb; injection hb with hb; exact hrm hb.symm
    · by_cases e : k = bkt s
      · subst e
        rw [putG_same] at hb
        rcases hloc with e3 | ⟨g2, e3, h3⟩
        · have := hml _ rb (by rw [← e3]; exact hb); omega
        · rw [e3] at hb; injection hb with hb; omega
      · rw [putG_other _ _ _ _ e] at hb
        have := hml k rb hb; omega
theorem OwnE.keep {w w' : World} {B : Nat} {E : TypeId} {v : Value} {l : List En} (h : OwnE w B E v l) (hk : ∀ k, v.ownBlock = some k → w'.heap[k]? = w.heap[k]?) : OwnE w' B E v l := by
  obtain ⟨h1, h2⟩ := h
  refine ⟨h1, ?_⟩
  rcases h2 with h2 | ⟨g, cap, cur, hv, hg, hh, r⟩
  · exact .inl h2
  · refine .inr ⟨g, cap, cur, hv, hg, ?_, r⟩
    rw [hk g (by rw [hv]; rfl)]; exact hh
theorem OwnE.cells {w : World} {B : Nat} {E : TypeId} {v : Value} {l : List En} (h : OwnE w B E v l) {g : Nat} (hg : v.ownBlock = some g) : ∃ cur T fz, w.heap[g]? = some (.cells cur T fz) := by
  rcases h.2 with ⟨rfl, _⟩ | ⟨g', cap, cur, rfl, _, hh, _⟩
  · cases hg
  · cases hg
    exact ⟨_, _, _, hh⟩
theorem own_oneE {w : World} {B g : Nat} {E : TypeId} {v x : Value} {l : List En} (h : OwnE w B E v l) (ho : One w g x) : v.ownBlock ≠ some g := by
  intro e
  obtain ⟨T, hh⟩ := ho
  rcases h.2 with ⟨rfl, _⟩ | ⟨g', cap, cur, rfl, _, h2, _, _, hcs, _⟩
  · cases e
  · cases e
    rw [hh] at h2
    cases h2
    simp at hcs
    omega
theorem One.keep {w w' : World} {g : Nat} {x : Value} (h : One w g x) (hk : w'.heap[g]? = w.heap[g]?) : One w' g x := by
  obtain ⟨T, h⟩ := h
  exact ⟨T, hk.trans h⟩
theorem pool_norec {w : World} {v : Value} {l : List ByteArray} {S : Nat → Prop} (h : PoolS w v l S) {b : Nat} (hb : S b) {o : Obj} (ho : w.heap[b]? = some o) : isRec o = false := by
  obtain ⟨pb, va, vm, G, rfl, hP, hS⟩ := h
  rcases (hS b).1 hb with rfl | hb | hb | ⟨k, hb⟩
  · have h0 := hP.two.1
    unfold World.cell? at h0
    simp only [ho] at h0
    cases o <;> first | rfl | simp at h0
  · obtain ⟨_, _, _, hh⟩ := hP.all.cells hb
    rw [ho] at hh; cases hh; rfl
  · rcases hP.map with ⟨e, _⟩ | ⟨mb, e, hm⟩
    · rw [e] at hb; cases hb
    · rw [e] at hb; cases hb
      obtain ⟨_, _, hh⟩ := hm.block
      rw [ho] at hh; cases hh; rfl
  · obtain ⟨_, _, _, hh⟩ := (hP.grps k).cells hb
    rw [ho] at hh; cases hh; rfl
def blkR (bl : Nat) (vo : Value) (Sp : Nat → Prop) (b : Nat) : Prop := b = bl ∨ vo.ownBlock = some b ∨ Sp b
structure RwP (w : World) (B bp bl : Nat) (pv : Value) (rows : List En) (ts : List ByteArray) (vo : Value) (Sp : Nat → Prop) (W : World) : Prop where
  bxp : One W bp pv
  bxl : One W bl vo
  out : OwnE W B 124 vo rows
  pool : PoolS W pv ts Sp
  np : ¬ Sp bp
  nl : ¬ Sp bl
  no : ∀ b, vo.ownBlock = some b → ¬ Sp b
  npl : bp ≠ bl
  bas : ∀ b, Sp b → B ≤ b
  bll : B ≤ bl
  bel : Below B w W
section
variable {w : World} {B bp bl : Nat} {pv : Value} {rows : List En} {ts : List ByteArray} {vo : Value} {Sp : Nat → Prop} {W W' : World}
theorem RwP.lt (h : RwP w B bp bl pv rows ts vo Sp W) : ∀ b, blkR bl vo Sp b → b < W.heap.size := by
  rintro b (rfl | hb | hb)
  · exact h.bxl.lt
  · exact (h.out.lt b hb).2
  · exact h.pool.lt b hb
theorem RwP.low (h : RwP w B bp bl pv rows ts vo Sp W) : ∀ b, blkR bl vo Sp b → B ≤ b := by
  rintro b (rfl | hb | hb)
  · exact h.bll
  · exact (h.out.lt b hb).1
  · exact h.bas b hb
theorem RwP.keep (h : RwP w B bp bl pv rows ts vo Sp W) (hs : W.heap.size ≤ W'.heap.size) (hk : ∀ b, b = bp ∨ blkR bl vo Sp b → W'.heap[b]? = W.heap[b]?) (hb : Below B w W') : RwP w B bp bl pv rows ts vo Sp W' :=
  ⟨h.bxp.keep (hk _ (.inl rfl)), h.bxl.keep (hk _ (.inr (.inl rfl))), h.out.keep (fun k hv => hk k (.inr (.inr (.inl hv)))), h.pool.keep hs (fun b hS => hk b (.inr (.inr (.inr hS)))), h.np, h.nl, h.no, h.npl, h.bas, h.bll, hb⟩
theorem RwP.below (h : RwP w B bp bl pv rows ts vo Sp W) (hb : Below W.heap.size W W') (hB : B ≤ W.heap.size) : RwP w B bp bl pv rows ts vo Sp W' :=
  h.keep hb.size (fun b hk => hb.block b (by rcases hk with rfl | hk; exact h.bxp.lt; exact h.lt b hk)) (h.bel.trans (hb.mono hB))
theorem RwP.size (h : RwP w B bp bl pv rows ts vo Sp W) : B ≤ W.heap.size := Nat.le_of_lt (Nat.lt_of_le_of_lt h.bll h.bxl.lt)
theorem RwP.later (h : RwP w B bp bl pv rows ts vo Sp W) (hb : Below W.heap.size W W') : RwP w B bp bl pv rows ts vo Sp W' := h.below hb h.size
theorem RwP.add {ts' : List ByteArray} {Sp' : Nat → Prop} (h : RwP w B bp bl pv rows ts vo Sp W) (hp : PoolS W' pv ts' Sp') (hk : Kept Sp Sp' W W') : RwP w B bp bl pv rows ts' vo Sp' W' ∧ KeepsS (blkR bl vo Sp) (blkR bl vo Sp') W W' := by
  refine ⟨⟨h.bxp.keep (hk.same _ h.bxp.lt h.np), h.bxl.keep (hk.same _ h.bxl.lt h.nl), h.out.keep (fun k hv => hk.same k (h.out.lt k hv).2 (h.no k hv)), hp, fun hb => ?_, fun hb => ?_, fun b hv hb => ?_, h.npl, fun b hb => ?_, h.bll, Below.kept h.bel hk h.bas h.size⟩, ⟨hk.size, fun b o hb ho => ?_, fun b hb => ?_⟩⟩
  · rcases hk.own _ hb with hq | hq
    · exact h.np hq
    · have := h.bxp.lt; omega
  · rcases hk.own _ hb with hq | hq
    · exact h.nl hq
    · have := h.bxl.lt; omega
  · rcases hk.own _ hb with hq | hq
    · exact h.no b hv hq
    · have := (h.out.lt b hv).2; omega
  · rcases hk.own _ hb with hq | hq
    · exact h.bas b hq
    · exact Nat.le_trans h.size hq
  · exact (hk.same b (hlt_of ho) (fun hq => hb (.inr (.inr hq)))).trans ho
  · rcases hb with rfl | hb | hb
    · exact .inl (.inl rfl)
    · exact .inl (.inr (.inl hb))
    · rcases hk.own _ hb with hq | hq
      · exact .inl (.inr (.inr hq))
      · exact .inr hq
theorem RwP.row {rows' : List En} (h : RwP w B bp bl pv rows ts vo Sp W) (ho : OwnE W' B 124 vo rows') (hg : W.grownBy W' vo.ownBlock) : RwP w B bp bl pv rows' ts vo Sp W' := by
  have hbp := own_oneE h.out h.bxp
  have hbl := own_oneE h.out h.bxl
  exact ⟨h.bxp.keep (hg.block _ h.bxp.lt (fun e => hbp e.symm)), h.bxl.keep (hg.block _ h.bxl.lt (fun e => hbl e.symm)), ho, h.pool.keep hg.size (fun b hS => hg.block b (h.pool.lt b hS) (fun e => h.no b e.symm hS)), h.np, h.nl, h.no, h.npl, h.bas, h.bll, h.bel.grown hg h.size (fun k hk => (h.out.lt k hk).1)⟩
theorem grown_keepsS {S : Nat → Prop} {X Y : World} {r : Option Nat} (h : X.grownBy Y r) (hr : ∀ k, r = some k → S k) : KeepsS S S X Y :=
  ⟨h.size, fun b o hb ho => (h.block b (hlt_of ho) (fun e => hb (hr b e.symm))).trans ho, fun _ h => .inl h⟩
theorem RwP.run {r : List En} {a : En} {g cap : Nat} (h : RwP w B bp bl pv (r ++ [a]) ts (.slice (some ⟨g, 0, none⟩) (r.length + 1) cap) Sp W) (x : Int) :
    RwP w B bp bl pv (r ++ [{ a with rn := x }]) ts (.slice (some ⟨g, 0, none⟩) (r.length + 1) cap) Sp (W.setCell ⟨g, r.length * 4 + 3, none⟩ (.int .u32 x)) ∧ KeepsS (blkR bl (.slice (some ⟨g, 0, none⟩) (r.length + 1) cap) Sp) (blkR bl (.slice (some ⟨g, 0, none⟩) (r.length + 1) cap) Sp) W (W.setCell ⟨g, r.length * 4 + 3, none⟩ (.int .u32 x)) := by
  obtain ⟨h1, h2⟩ := own_run h.out x
  exact ⟨h.row h1 h2, grown_keepsS h2 (fun k e => .inr (.inl e))⟩
theorem RwP.app {rows' : List En} {v' : Value} (h : RwP w B bp bl pv rows ts vo Sp W) (ho : OwnE W' B 124 v' rows') (hg : W.grownBy W' vo.ownBlock) (hl : v'.ownBlock = vo.ownBlock ∨ ∃ g, v'.ownBlock = some g ∧ W.heap.size ≤ g) :
    RwP w B bp bl pv rows' ts v' Sp (W'.setCell ⟨bl, 0, none⟩ v') ∧ KeepsS (blkR bl vo Sp) (blkR bl v' Sp) W (W'.setCell ⟨bl, 0, none⟩ v') := by
  have hbp := own_oneE h.out h.bxp
  have hbl := own_oneE h.out h.bxl
  have hp1 := h.bxp.keep (w' := W') (hg.block _ h.bxp.lt (fun e => hbp e.symm))
  have hl1 := h.bxl.keep (w' := W') (hg.block _ h.bxl.lt (fun e => hbl e.symm))
  have hbl' := own_oneE ho hl1
  have hset : ∀ b, b ≠ bl → (W'.setCell ⟨bl, 0, none⟩ v').heap[b]? = W'.heap[b]? := fun b hb => Below.heap_setCell _ _ _ _ (by simpa using hb)
  have hsz : (W'.setCell ⟨bl, 0, none⟩ v').heap.size = W'.heap.size := by simp
  refine ⟨⟨hp1.set_other h.npl v', hl1.set v', ho.keep (fun k hk => hset k (fun e => hbl' (by rw [hk, e]))), h.pool.keep (by rw [hsz]; exact hg.size) (fun b hS => (hset b (fun e => h.nl (e ▸ hS))).trans (hg.block b (h.pool.lt b hS) (fun e => h.no b e.symm hS))), h.np, h.nl, fun b hv hS => ?_, h.npl, h.bas, h.bll, (h.bel.grown hg h.size (fun k hk => (h.out.lt k hk).1)).setCell (p := ⟨bl, 0, none⟩) h.bll v'⟩, ⟨by rw [hsz]; exact hg.size, fun b o hb hq => ?_, fun b hb => ?_⟩⟩
  · rcases hl with hl | ⟨g, hl, hge⟩
    · exact h.no b (by rw [← hl]; exact hv) hS
    · rw [hv] at hl
      cases hl
      have := h.pool.lt b hS
      omega
  · exact (hset b (fun e => hb (.inl e))).trans ((hg.block b (hlt_of hq) (fun e => hb (.inr (.inl e.symm)))).trans hq)
  · rcases hb with rfl | hb | hb
    · exact .inl (.inl rfl)
    · rcases hl with hl | ⟨g, hl, hge⟩
      · exact .inl (.inr (.inl (by rw [← hl]; exact hb)))
      · rw [hb] at hl
        cases hl
        exact .inr hge
    · exact .inl (.inr (.inr hb))
theorem RwP.grown {row : Option Nat} (h : RwP w B bp bl pv rows ts vo Sp W) (hg : W.grownBy W' row) (hrow : ∀ r, row = some r → B ≤ r ∧ ∃ o : Obj, W.heap[r]? = some o ∧ isRec o = true) : RwP w B bp bl pv rows ts vo Sp W' := by
  have hne : ∀ b o, W.heap[b]? = some o → isRec o = false → row ≠ some b := fun b o ho hn e => by
    obtain ⟨_, o', ho', hy⟩ := hrow b e
    rw [ho] at ho'
    cases ho'
    rw [hn] at hy
    cases hy
  refine h.keep hg.size (fun b hb => ?_) (h.bel.grown hg h.size (fun r e => (hrow r e).1))
  rcases hb with rfl | rfl | hb | hb
  · obtain ⟨T, hh⟩ := h.bxp
    exact hg.block _ (hlt_of hh) (fun e => hne _ _ hh rfl e.symm)
  · obtain ⟨T, hh⟩ := h.bxl
    exact hg.block _ (hlt_of hh) (fun e => hne _ _ hh rfl e.symm)
  · obtain ⟨_, _, _, hh⟩ := h.out.cells hb
    exact hg.block _ (hlt_of hh) (fun e => hne _ _ hh rfl e.symm)
  · have hlt := h.pool.lt b hb
    have ho := Array.getElem?_eq_getElem hlt
    exact hg.block _ hlt (fun e => hne _ _ ho (pool_norec h.pool hb ho) e.symm)
end
def RwI (w : World) (B bp bl : Nat) (pv : Value) (L : List It) (k : Nat) (S : Nat → Prop) (W : World) : Prop :=
  ∃ vo Sp, RwP w B bp bl pv (rowsS (L.take k)).1 (rowsS (L.take k)).2 vo Sp W ∧ ∀ b, S b ↔ blkR bl vo Sp b
theorem rwi_bears (w : World) (B bp bl : Nat) (pv : Value) (L : List It) (B' : Nat) (hB : B ≤ B') : Bears2 (fun _ => False) B' (RwI w B bp bl pv L) := by
  rintro ⟨k, S⟩ X Y row ⟨vo, Sp, h, hS⟩ hg hr
  refine ⟨vo, Sp, h.grown hg (fun r e => ?_), hS⟩
  rcases hr r e with h | h
  · exact h.elim
  · exact ⟨Nat.le_trans hB h.1, h.2⟩
theorem RwI.lt {w : World} {B bp bl : Nat} {pv : Value} {L : List It} {k : Nat} {S : Nat → Prop} {W : World} (h : RwI w B bp bl pv L k S W) : ∀ b, S b → b < W.heap.size := by
  obtain ⟨vo, Sp, h, hS⟩ := h
  exact fun b hb => h.lt b ((hS b).1 hb)
theorem info_pent2 : (Tryz.prog.info? 124).map (fun i => (i.zero, i.size, i.bytes)) = some (some (.agg #[.int .u64 0, .int .u64 0, .int .u32 0, .int .u32 0]), 4, 24) := by kernel_rfl
theorem peappend_run (W : World) (ty : TypeId) (B : Nat) (v : Value) (L : List En) (e : En) (b c : Nat) (hown : OwnE W B 124 v L) (he : EAt W b e) (hl : L.length ≤ 1000000) (hB : B ≤ W.heap.size) :
    ∃ v' w', (Builtin.append_ #[55, 55] ty #[v, .slice (some ⟨b, 0, none⟩) 1 c]).run Tryz.prog W = .ok v' w' ∧ OwnE w' B 124 v' (L ++ [e]) ∧ W.grownBy w' v.ownBlock ∧ (v'.ownBlock = v.ownBlock ∨ ∃ g, v'.ownBlock = some g ∧ W.heap.size ≤ g) := by
  obtain ⟨v', w', hr, h2, h3, h4⟩ := rappend_run 4 24 W B 55 124 ty _ Tryz.underlying55 info_pent2 rfl (by omega) (by omega) v L.length (flat4 L) hown ⟨b, 0, none⟩ 1 c (flat4 [e]) rfl (by
    intro j u hu
    match j, hu with
    | 0, hu => simp only [flat4_one1, cE, List.getElem?_cons_zero, Option.some.injEq] at hu; rw [← hu]; exact he.1
    | 1, hu => simp only [flat4_one1, cE, List.getElem?_cons_succ, List.getElem?_cons_zero, Option.some.injEq] at hu; rw [← hu]; exact he.2.1
    | 2, hu => simp only [flat4_one1, cE, List.getElem?_cons_succ, List.getElem?_cons_zero, Option.some.injEq] at hu; rw [← hu]; exact he.2.2.1
    | 3, hu => simp only [flat4_one1, cE, List.getElem?_cons_succ, List.getElem?_cons_zero, Option.some.injEq] at hu; rw [← hu]; exact he.2.2.2
    | j + 4, hu => simp [flat4_one1, cE] at hu) (flat4_cells [e]) (by omega) (by omega) hB
  exact ⟨v', w', hr, owne_conv h2 (by simp) (by rw [flat4_append]), h3, h4⟩
end Go.Proofs.YtdnmgpcfgcidbaaGreatDoor
namespace Go.Proofs.YtdnmgpcfgcidbaaGreatDoor
set_option linter.unusedVariables false
set_option linter.unusedSimpArgs false
open Go.Maps
set_option maxRecDepth 20000
def klS (s : ByteArray) : Lit := .string s.data.toList
theorem klS_inj {s t : ByteArray} (h : klS s = klS t) : s = t := by
  unfold klS at h
  injection h with h
  have := Array.toList_inj.1 h
  cases s; cases t; cases this; rfl
theorem klS_key (s : ByteArray) : WideAt.IsKeyLit (klS s) := trivial
def numS (s : ByteArray) : List ByteArray → Nat
  | [] => 0
  | t :: l => (if t = s then 1 else 0) + numS s l
theorem numS_append (s : ByteArray) (a b : List ByteArray) : numS s (a ++ b) = numS s a + numS s b := by
  induction a with
  | nil => simp [numS]
  | cons t a ih => rw [List.cons_append, numS, numS, ih]; omega
structure Tal (D : DataW Unit) (xs : List ByteArray) : Prop where
  tidy : Tidy D
  size : Maps.size D = unl xs
  has : ∀ s, Maps.has D (klS s) = true ↔ s ∈ xs
  num : ∀ s, D.atKey (klS s) (.lit (.int .i64 0)) = .lit (.int .i64 (numS s xs : Nat))
theorem Tal.put {D : DataW Unit} {xs : List ByteArray} (h : Tal D xs) (s : ByteArray) : Tal (D.put (klS s) (.lit (.int .i64 ((numS s xs : Nat) + 1)))) (xs ++ [s]) := by
  refine ⟨h.tidy.put (klS_key s) _, ?_, fun t => ?_, fun t => ?_⟩
  · rw [size_put h.tidy, h.size, unl_snoc]
    by_cases hm : s ∈ xs
    · rw [if_pos hm, if_pos ((h.has s).2 hm)]
    · rw [if_neg hm, if_neg (fun f => hm ((h.has s).1 f))]
  · by_cases e : t = s
    · subst e
      rw [has_put_same h.tidy.isMap (klS_key t)]
      simp
    · rw [has_put_other (fun f => e (klS_inj f)), h.has]
      simp [e]
  · by_cases e : t = s
    · subst e
      rw [atKey_put_same h.tidy.isMap (klS_key t), numS_append]
      simp [numS]
    · have e' : ¬ s = t := fun f => e f.symm
      rw [atKey_put_other (fun f => e (klS_inj f)), h.num, numS_append]
      simp [numS, e']
theorem tot_le {L : List It} (hg : GoodC L) (k : Nat) (hk : k ≤ L.length) : totF (rowsS (L.take k)).2 ≤ 134217728 := (rinv_take hg k hk).good.tot
end Go.Proofs.YtdnmgpcfgcidbaaGreatDoor
