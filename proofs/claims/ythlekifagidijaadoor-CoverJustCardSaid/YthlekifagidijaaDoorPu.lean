/- The contract of the program's Union: it is the document's list. -/
import Derived.Test.YthlekifagidijaaDoorPd
import Derived.Test.YthlekifagidijaaDoorSo
import Derived.Test.YthlekifagidijaaDoorRu
namespace Go.Proofs.YthlekifagidijaaDoor
open Go.RowKit
set_option linter.unusedVariables false
set_option linter.unusedSimpArgs false
theorem mem_perm {l m : List (Int × Int)} (h : l.Perm m) (d : Int) : Mem l d ↔ Mem m d := by
  unfold Mem
  constructor
  · rintro ⟨s, hs, hd⟩; exact ⟨s, h.mem_iff.1 hs, hd⟩
  · rintro ⟨s, hs, hd⟩; exact ⟨s, h.mem_iff.2 hs, hd⟩
theorem mem_keep (l : List (Int × Int)) (d : Int) : Mem (l.filter keepB) d ↔ Mem l d := by
  unfold Mem
  constructor
  · rintro ⟨s, hs, hd⟩; exact ⟨s, (List.mem_filter.1 hs).1, hd⟩
  · rintro ⟨s, hs, hd⟩
    refine ⟨s, List.mem_filter.2 ⟨hs, ?_⟩, hd⟩
    unfold keepB
    rw [decide_eq_false (by omega)]
    rfl
theorem keep_ok (l : List (Int × Int)) : ∀ s ∈ l.filter keepB, s.1 ≤ s.2 := by
  intro s hs
  have := (List.mem_filter.1 hs).2
  unfold keepB at this
  simp at this
  exact this
/-- The document's list of both. -/
def uni (a b : List (Int × Int)) : List (Int × Int) := puts (puts [] a) b
theorem uni_is (a b l' : List (Int × Int)) (hp : l'.Perm ((a ++ b).filter keepB)) (hs : l'.Pairwise (fun a b => a.1 ≤ b.1)) : joins [] l' = uni a b := by
  obtain ⟨i1, i2, _⟩ := joins_pl [] l' pl_nil (fun s h => keep_ok (a ++ b) s (hp.mem_iff.1 h)) hs (fun t ht => by simp at ht)
  refine pl_unique _ _ i1 (union_pl a b) (fun d => ?_)
  have hu := union_mem a b d
  refine (i2 d).trans ?_
  rw [mem_perm hp d, mem_keep, mem_append]
  unfold uni
  rw [hu]
  constructor
  · rintro (h | h)
    · exact absurd h (mem_nil d)
    · exact h
  · exact .inr
set_option maxHeartbeats 2000000 in
set_option maxRecDepth 20000 in
theorem union_any (v1 v2 : Value) (a b : List (Int × Int)) (w : World) (h1 : SpansAt w v1 a) (h2 : SpansAt w v2 b) (wa : WideS a) (wb : WideS b) (hl : a.length + b.length ≤ 50000) : Calls Tryd.prog 19 #[v1, v2] w (SpansEnd (uni a b) w) := by
  have g0 := (Below.refl w.heap.size w).alloc (Nat.le_refl _) (.cells #[v1, v2] 35)
  have hsz : (w.alloc (.cells #[v1, v2] 35)).heap.size = w.heap.size + 1 := by simp
  have HC := Lib.hid (concat_any v1 v2 a b w.heap.size (w.alloc (.cells #[v1, v2] 35)) (h1.below g0) (h2.below g0) (by omega) (by simp) (by simp [go_sem]) (by simp [go_sem]))
  have HG := Lib.hid g0
  have hww : WideS ((a ++ b).filter keepB) := fun t ht => by
    rcases List.mem_append.1 (List.mem_filter.1 ht).1 with h | h
    · exact wa t h
    · exact wb t h
  have hfl : ((a ++ b).filter keepB).length ≤ 50000 := by
    have := List.length_filter_le keepB (a ++ b)
    rw [List.length_append] at this
    omega
  have HU := Lib.hid (uni_is a b)
  have hal : (a ++ b).length ≤ 100000 := by rw [List.length_append]; omega
  have HW := Lib.hid hww
  obtain ⟨al1, cp1, rfl, _⟩ := h1
  obtain ⟨al2, cp2, rfl, _⟩ := h2
  clear g0 wa wb hww
  go_enter Tryd.func19, Tryd.ntmps19
  go_wp2_with fail
  refine HC.out.mono ?_
  rintro e w2 ⟨v, rfl, ho, hb⟩
  have hB2 : w.heap.size + 1 ≤ w2.heap.size := by have := hb.size; omega
  have HD := Lib.hid (delete_any _ v (a ++ b) w2 ho hal hb.size)
  have hb2 : Below w.heap.size w w2 := HG.out.trans (hb.mono (by omega))
  rw [hsz] at HD
  clear hb ho HC HG
  go_wp2_with fail
  refine HD.out.mono ?_
  rintro e w3 ⟨v, rfl, ho, hb⟩
  have hB3 : w.heap.size + 1 ≤ w3.heap.size := by have := hb.size; omega
  have HS := Lib.hid (sort_any _ v ((a ++ b).filter keepB) w3 ho (by omega) hB3)
  have hb3 : Below w.heap.size w w3 := hb2.trans (hb.mono (by omega))
  clear hb ho HD hb2
  go_wp2_with fail
  refine HS.out.mono ?_
  rintro e w4 ⟨rfl, l', hp, hs, hv, hb⟩
  have hb4 : Below w.heap.size w w4 := hb3.trans (hb.mono (by omega))
  have hU := HU.out l' hp hs
  have hW4 : WideS l' := fun t ht => HW.out t (hp.mem_iff.1 ht)
  have hl4 : l'.length ≤ 50000 := by rw [hp.length_eq]; exact hfl
  have HU4 := Lib.hid hU
  have HW4 := Lib.hid hW4
  obtain ⟨al, cap, rfl, q1, q2, hc⟩ := hv
  have HCC := Lib.hid hc
  clear hb hb3 HS hU hW4 hp hs hc HU HW
  go_wp2_with fail
  go_loopw [6, 18] (fun o s wr => ∃ i : Nat, i ≤ l'.length ∧ s = .int .i64 i ∧ Hid (OwnS wr w4.heap.size 54 o (joins [] (l'.take i))) ∧ Below w4.heap.size w4 wr) (fun _ s _ => l'.length - (intOf s).toNat)
  case atStart => exact ⟨0, Nat.zero_le _, rfl, Lib.hid (ownS_nil _ _ _), Below.refl _ _⟩
  case round =>
    obtain ⟨i, hi, rfl, HO, hbw⟩ := hrel
    by_cases hlt : i < l'.length
    · obtain ⟨t, ht⟩ : ∃ t, l'[i]? = some t := ⟨_, List.getElem?_eq_getElem hlt⟩
      obtain ⟨b0, b1, b2, b3⟩ := HW4.out t (List.mem_of_getElem? ht)
      obtain ⟨g, off, rfl, hg, l0, l1⟩ := HCC.out i t ht
      replace l0 := scell_later hbw l0
      replace l1 := scell_later hbw l1
      have htk : l'.take (i + 1) = l'.take i ++ [t] := by rw [List.take_add_one, ht]; rfl
      have HTK : Hid (joins [] (l'.take (i + 1)) = joinP (joins [] (l'.take i)) t) := Lib.hid (by rw [htk, joins_snoc])
      have hlen := joins_len [] (l'.take i)
      rw [List.length_take, List.length_nil] at hlen
      have hwd : WideS (joins [] (l'.take i)) := fun u hu => by
        have := joins_wide [] (l'.take i) (fun d => 0 ≤ d ∧ d ≤ 18446744073709551615) (fun t ht => by simp at ht) (fun s hs => by have := HW4.out s (List.mem_of_mem_take hs); omega) u hu
        omega
      have HJ := Lib.hid (joined_any w4.heap.size u6 (joins [] (l'.take i)) t (wr.alloc (.cells #[.int .u64 t.1, .int .u64 t.2] 54)) (World.ownsRow.alloc HO.out _) hwd ⟨b0, b1, b2, b3⟩ (by omega) (by have := hbw.size; simp; omega))
      have hown := HO.out.lt
      have HL := Lib.hid hown
      have hi2 : (i : Int) < (l'.length : Int) := by omega
      clear ht htk hlen hwd hown
      obtain ⟨p, q⟩ := t
      dsimp only at l0 l1 b0 b1 b2 b3 HJ
      go_wp2_with fail
      refine HJ.out.mono ?_
      rintro e w6 ⟨v6, rfl, h1, h2, h3⟩
      have hbw6 : Below w4.heap.size w4 w6 := (hbw.alloc hbw.size _).grown h2 (by have := hbw.size; simp; omega) (fun k hk => (HL.out k hk).1)
      rw [← HTK.out] at h1
      have HO6 := Lib.hid h1
      clear h1 h2 h3 hbw l0 l1 HJ HO
      go_wp2_with fail
      go_roundw
      case rel => exact ⟨i + 1, by omega, by go_num, HO6, hbw6⟩
      case measure => simp [intOf]; omega
    · obtain rfl : i = l'.length := by omega
      rw [List.take_length, HU4.out] at HO
      go_wp2_with fail
      go_ret
      exact ⟨_, rfl, HO.out.spansAt, hb4.trans (hbw.mono hb4.size)⟩
end Go.Proofs.YthlekifagidijaaDoor
