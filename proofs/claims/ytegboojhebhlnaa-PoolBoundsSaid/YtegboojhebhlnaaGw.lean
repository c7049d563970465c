/- The contract of slices.Clone at kept contents. -/
import Derived.Test.YtegboojhebhlnaaGj
namespace Go.Proofs.Ytegboojhebhlnaa
open Go.RowKit
set_option linter.unusedVariables false
set_option linter.unusedSimpArgs false
theorem kt_news {W : World} {ad : Addr} {cap : Nat} {l : List Kt} (h : KtsAt W (.slice (some ad) l.length cap) l) : ∀ j u, (flatK l)[j]? = some u → W.cell? (ad.add j) = some u := by
  obtain ⟨a, cap', he, h1, h2, hc⟩ := h
  cases he
  intro j u hu
  have hj : j < l.length * 3 := by rw [← flatK_len]; exact (List.getElem?_eq_some_iff.1 hu).1
  obtain ⟨t, ht⟩ : ∃ t, l[j / 3]? = some t := ⟨_, List.getElem?_eq_getElem (by omega)⟩
  obtain ⟨g, off, ha, _, c0, c1, c2⟩ := hc (j / 3) t ht
  obtain ⟨f0, f1, f2⟩ := flatK_at l (j / 3) t ht
  injection ha with ha
  subst ha
  have hadd : (⟨g, off, none⟩ : Addr).add j = ⟨g, off + j, none⟩ := by simp [Addr.add]
  rw [hadd]
  rcases (by omega : j = j / 3 * 3 ∨ j = j / 3 * 3 + 1 ∨ j = j / 3 * 3 + 2) with e | e | e
  · rw [e, f0] at hu; rw [← hu]; rw [show off + j = off + j / 3 * 3 from by omega]; exact c0
  · rw [e, f1] at hu; rw [← hu]; rw [show off + j = off + j / 3 * 3 + 1 from by omega]; exact c1
  · rw [e, f2] at hu; rw [← hu]; rw [show off + j = off + j / 3 * 3 + 2 from by omega]; exact c2
theorem kslice_some_eq (ad : Addr) (n c : Nat) (w : World) : (Op.equal 56 (.slice (some ad) n c) (.slice none 0 0)).run Try.prog w = .ok false w := by
  rw [Op.equal, show Op.maxDepth = 9999 + 1 from rfl]
  unfold Op.equalIn
  simp [go_sem]
theorem kslice_some_eql (ad : Addr) (n c : Nat) (w : World) : (binOp BinOp.eql 56 (.slice (some ad) n c) (.slice none 0 0)).run Try.prog w = .ok (.bool false) w := by
  simp [binOp, go_sem, kslice_some_eq]
theorem kslice_none_eq (c : Nat) (w : World) : (Op.equal 56 (.slice none 0 c) (.slice none 0 0)).run Try.prog w = .ok true w := by
  rw [Op.equal, show Op.maxDepth = 9999 + 1 from rfl]
  unfold Op.equalIn
  simp [go_sem]
theorem kslice_none_eql (c : Nat) (w : World) : (binOp BinOp.eql 56 (.slice none 0 c) (.slice none 0 0)).run Try.prog w = .ok (.bool true) w := by
  simp [binOp, go_sem, kslice_none_eq]
set_option maxRecDepth 20000 in
set_option maxHeartbeats 1000000 in
/-- A row that nobody else has. -/
theorem kclone_any (v : Value) (l : List Kt) (w : World) (hv : KtsAt w v l) (hl : l.length ≤ 4096) : Calls Try.prog 34 #[v] w fun x w' => ∃ v', x = .returned v' ∧ OwnK w' w.heap.size v' l ∧ Below w.heap.size w w' := by
  obtain ⟨i0, hi, hz0, hz1, hz2⟩ := info_parts infoKt
  have HI0 := Lib.hid hi
  have HZ0 := Lib.hid hz0
  have HZ1 := Lib.hid hz1
  have HZ2 := Lib.hid hz2
  clear hi hz0 hz1 hz2
  have hv' := hv
  obtain ⟨a, cap, rfl, h1, h2, hc⟩ := hv'
  cases a with
  | none =>
    have hl0 : l = [] := by
      cases l with
      | nil => rfl
      | cons t l => obtain ⟨g, off, ha, _⟩ := hc 0 t rfl; cases ha
    subst hl0
    clear hc hv
    have hneq := fun W => kslice_none_eql cap W
    go_enter Try.func34, Try.ntmps34
    go_wp2_with fail
    go_ret
    exact ⟨_, rfl, ownK_nil _ _, Below.refl _ _⟩
  | some ad =>
    have HV := Lib.hid hv
    have hneq := fun W => kslice_some_eql ad l.length cap W
    clear hc hv
    go_enter Try.func34, Try.ntmps34
    have HO : Hid ((w.alloc (.cells #[] 67)).ownsRow w.heap.size 67 3 (.slice (some ⟨w.heap.size, 0, none⟩) 0 0) 0 (flatK [])) := Lib.hid ⟨rfl, .inr ⟨w.heap.size, 0, #[], rfl, Nat.le_refl _, heap_alloc_new w _, Nat.le_refl _, Nat.zero_le _, rfl, rfl⟩⟩
    have HNW := Lib.hid (kt_news (HV.out.below ((Below.refl w.heap.size w).alloc (Nat.le_refl _) (.cells #[] 67))))
    go_wp2_with (first | (at_builtin; refine wpList_append_own _ rfl _ _ 56 rfl w.heap.size 67 i0 (.agg #[.int .u64 0, .int .u32 0, .string { data := #[] }]) 3 32 Try.underlying56 HI0.out HZ0.out HZ1.out HZ2.out rfl (by decide) _ _ _ rfl HO.out ad l.length cap (flatK l) rfl (flatK_len l) HNW.out (flatK_one l) ?c4 ?c5 ?c6 ?_) | fail)
    case c4 => unfold maxLen; omega
    case c5 => omega
    case c6 => simp
    intro v' w5 hown' hgr _
    have hO : OwnK w5 w.heap.size v' l := ownk_conv hown' (by omega) (by simp [flatK])
    have hb5 : Below w.heap.size w w5 := ((Below.refl w.heap.size w).alloc (Nat.le_refl _) _).grown hgr (by simp) (fun g hg => (World.ownsRow.lt HO.out g hg).1)
    have HO5 := Lib.hid hO
    have HB5 := Lib.hid hb5
    clear hown' hgr hO hb5
    go_wp2_with fail
    go_ret
    exact ⟨_, rfl, HO5.out, HB5.out⟩
theorem run_makeMap_hint (n : Int) (w : World) : (Instr.makeMap 57 (some (.int .i64 n))).run Try.prog w = .ok (.map (some w.heap.size)) (w.alloc (.map #[] 0)) := by
  simp [Instr.makeMap, run_underlying Try.underlying57, asInt, asIntOf, Result.andThen]
/-- Behind the fork's first statement: its two cells, its row, an empty map. -/
structure Fk0 (w W : World) (fb mb : Nat) (va : Value) (l : List ByteArray) : Prop where
  two : Two W fb va (.map (some mb))
  own : OwnK W w.heap.size va (plc l 0)
  map : MapG W mb 0 (fun _ => nilS)
  lf : w.heap.size ≤ fb
  lm : w.heap.size ≤ mb
  nf : va.ownBlock ≠ some fb
  bel : Below w.heap.size w W
theorem fk_map_last {w w1 : World} {va : Value} {l : List ByteArray} {B : Nat} (hb : Below w.heap.size w w1) (ho : OwnK w1 B va (plc l 0)) (hB : w.heap.size ≤ B) (T : TypeId) :
    Fk0 w ((w1.alloc (.map #[] 0)).alloc (.cells #[va, .map (some w1.heap.size)] T)) (w1.heap.size + 1) w1.heap.size va l := by
  have b1 := below_one w1 (.map #[] 0)
  have b2 := below_one (w1.alloc (.map #[] 0)) (.cells #[va, .map (some w1.heap.size)] T)
  have e1 : (w1.alloc (.map #[] 0)).heap.size = w1.heap.size + 1 := by simp
  have ht := two_new (w1.alloc (.map #[] 0)) va (.map (some w1.heap.size)) T
  rw [e1] at ht
  have hs := hb.size
  refine ⟨ht, ((ho.mono hB).below b1).below b2, (MapG.made w1).below b2, by omega, hs, fun e => ?_, (hb.trans (b1.mono hs)).trans (b2.mono (by rw [e1]; omega))⟩
  have := (ho.lt _ e).2
  omega
theorem fk_map_first {w X w1 : World} {va : Value} {l : List ByteArray} {B : Nat} (hX : Below w.heap.size w X) (hb : Below (X.alloc (.map #[] 0)).heap.size (X.alloc (.map #[] 0)) w1) (ho : OwnK w1 B va (plc l 0)) (hB : w.heap.size ≤ B) (T : TypeId) :
    Fk0 w (w1.alloc (.cells #[va, .map (some X.heap.size)] T)) w1.heap.size X.heap.size va l := by
  have b0 := below_one X (.map #[] 0)
  have b2 := below_one w1 (.cells #[va, .map (some X.heap.size)] T)
  have hs := hX.size
  have hs0 := b0.size
  have hs1 := hb.size
  refine ⟨two_new w1 _ _ T, (ho.mono hB).below b2, ((MapG.made X).below hb).below b2, by omega, hs, fun e => ?_, ((hX.trans (b0.mono hs)).trans (hb.mono (by omega))).trans (b2.mono (by omega))⟩
  have := (ho.lt _ e).2
  omega
end Go.Proofs.Ytegboojhebhlnaa
