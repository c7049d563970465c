/- The contract of slices.Clone at entries. -/
import Derived.Test.YtbkodaijigcebaaMT
namespace Go.Proofs.Ytbkodaijigcebaa
open Go.RowKit
set_option linter.unusedVariables false
set_option linter.unusedSimpArgs false
/-- A row that nobody else has. -/
def CloneEnd (l : List En) (w : World) (x : Ending) (w' : World) : Prop := ∃ v', x = .returned v' ∧ EnsAt w' v' l ∧ (∀ a n c, v' = .slice (some a) n c → w.heap.size ≤ a.block ∧ a.block < w'.heap.size) ∧ Below w.heap.size w w'
theorem ens_news {W : World} {ad : Addr} {cap : Nat} {l : List En} (h : EnsAt W (.slice (some ad) l.length cap) l) : ∀ j u, (flat4 l)[j]? = some u → W.cell? (ad.add j) = some u := by
  obtain ⟨a, cap', he, h1, h2, hc⟩ := h
  cases he
  intro j u hu
  have hj : j < l.length * 4 := by rw [← flat4_len]; exact (List.getElem?_eq_some_iff.1 hu).1
  obtain ⟨t, ht⟩ : ∃ t, l[j / 4]? = some t := ⟨_, List.getElem?_eq_getElem (by omega)⟩
  obtain ⟨g, off, ha, _, c0, c1, c2, c3⟩ := hc (j / 4) t ht
  obtain ⟨f0, f1, f2, f3⟩ := flat4_at l (j / 4) t ht
  injection ha with ha
  subst ha
  have hadd : (⟨g, off, none⟩ : Addr).add j = ⟨g, off + j, none⟩ := by simp [Addr.add]
  rw [hadd]
  rcases (by omega : j = j / 4 * 4 ∨ j = j / 4 * 4 + 1 ∨ j = j / 4 * 4 + 2 ∨ j = j / 4 * 4 + 3) with e | e | e | e
  · rw [e, f0] at hu; rw [← hu]; rw [show off + j = off + j / 4 * 4 from by omega]; exact c0
  · rw [e, f1] at hu; rw [← hu]; rw [show off + j = off + j / 4 * 4 + 1 from by omega]; exact c1
  · rw [e, f2] at hu; rw [← hu]; rw [show off + j = off + j / 4 * 4 + 2 from by omega]; exact c2
  · rw [e, f3] at hu; rw [← hu]; rw [show off + j = off + j / 4 * 4 + 3 from by omega]; exact c3
theorem slice_some_eq (ad : Addr) (n c : Nat) (w : World) : (Op.equal 24 (.slice (some ad) n c) (.slice none 0 0)).run Try.prog w = .ok false w := by
  rw [Op.equal, show Op.maxDepth = 9999 + 1 from rfl]
  unfold Op.equalIn
  simp [go_sem]
theorem slice_some_eql (ad : Addr) (n c : Nat) (w : World) : (binOp BinOp.eql 24 (.slice (some ad) n c) (.slice none 0 0)).run Try.prog w = .ok (.bool false) w := by
  simp [binOp, go_sem, slice_some_eq]
theorem slice_none_eq (c : Nat) (w : World) : (Op.equal 24 (.slice none 0 c) (.slice none 0 0)).run Try.prog w = .ok true w := by
  rw [Op.equal, show Op.maxDepth = 9999 + 1 from rfl]
  unfold Op.equalIn
  simp [go_sem]
theorem slice_none_eql (c : Nat) (w : World) : (binOp BinOp.eql 24 (.slice none 0 c) (.slice none 0 0)).run Try.prog w = .ok (.bool true) w := by
  simp [binOp, go_sem, slice_none_eq]
set_option maxRecDepth 20000 in
set_option maxHeartbeats 1000000 in
theorem pclone_any (v : Value) (l : List En) (w : World) (hv : EnsAt w v l) (hl : l.length ≤ 4096) : Calls Try.prog 25 #[v] w (CloneEnd l w) := by
  obtain ⟨i0, hi, hz0, hz1, hz2⟩ := info_parts info_pv
  have HI0 := Lib.hid hi
  have HZ0 := Lib.hid hz0
  have HZ1 := Lib.hid hz1
  have HZ2 := Lib.hid hz2
  clear hi hz0 hz1 hz2
  have hv' := hv
  obtain ⟨a, cap, rfl, h1, h2, hc⟩ := hv'
  cases a with
  | none =>
    have hl0 : l = [] := by
      cases l with
      | nil => rfl
      | cons t l => obtain ⟨g, off, ha, _⟩ := hc 0 t rfl; cases ha
    subst hl0
    clear hc hv
    have hneq := fun W => slice_none_eql cap W
    go_enter Try.func25, Try.ntmps25
    go_wp2_with fail
    go_ret
    exact ⟨_, rfl, ens_nil _, fun a n c h => (by cases h), Below.refl _ _⟩
  | some ad =>
    have HV := Lib.hid hv
    have hneq := fun W => slice_some_eql ad l.length cap W
    clear hc hv
    go_enter Try.func25, Try.ntmps25
    have HO : Hid ((w.alloc (.cells #[] 52)).ownsRow w.heap.size 52 4 (.slice (some ⟨w.heap.size, 0, none⟩) 0 0) 0 (flat4 [])) := Lib.hid ⟨rfl, .inr ⟨w.heap.size, 0, #[], rfl, Nat.le_refl _, heap_alloc_new w _, Nat.le_refl _, Nat.zero_le _, rfl, rfl⟩⟩
    have HNW := Lib.hid (ens_news (HV.out.below ((Below.refl w.heap.size w).alloc (Nat.le_refl _) (.cells #[] 52))))
    go_wp2_with (first | (at_builtin; refine wpList_append_own _ rfl _ _ 24 rfl w.heap.size 52 i0 (.agg #[.int .u64 0, .int .u64 0, .int .u32 0, .int .u32 0]) 4 24 Try.underlying24 HI0.out HZ0.out HZ1.out HZ2.out rfl (by decide) _ _ _ rfl HO.out ad l.length cap (flat4 l) rfl (flat4_len l) HNW.out (flat4_cells l) ?c4 ?c5 ?c6 ?_) | fail)
    case c4 => unfold maxLen; omega
    case c5 => omega
    case c6 => simp
    intro v' w5 hown' hgr _
    have hO : OwnE w5 w.heap.size 52 v' l := owne_conv hown' (by omega) (by simp [flat4])
    have hb5 : Below w.heap.size w w5 := ((Below.refl w.heap.size w).alloc (Nat.le_refl _) _).grown hgr (by simp) (fun g hg => (World.ownsRow.lt HO.out g hg).1)
    have HO5 := Lib.hid hO
    have HB5 := Lib.hid hb5
    clear hown' hgr hO hb5
    go_wp2_with fail
    go_ret
    exact ⟨_, rfl, HO5.out.ensAt, fun a n c h => (HO5.out.lt a.block (by have h' : v' = .slice (some a) n c := h; rw [h']; rfl)), HB5.out⟩
end Go.Proofs.Ytbkodaijigcebaa
