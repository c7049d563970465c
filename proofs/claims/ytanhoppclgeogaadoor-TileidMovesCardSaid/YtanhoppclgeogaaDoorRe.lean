/- Contracts of the document's Down for every tile, of the law's Back and of SameTiles where both lists are the same. -/
import Derived.Test.YtanhoppclgeogaaDoorRd
import Derived.Deep.QuietTactic
import Derived.BigQuiet
namespace Go.Proofs.YtanhoppclgeogaaDoor
open Go.RowKit
set_option linter.unusedVariables false
set_option linter.unusedSimpArgs false
theorem rdown_any (z x y : Int) (w : World) : Calls Tryd.prog 20 #[.agg #[.int .i64 z, .int .i64 x, .int .i64 y]] w (DownEnd (dnL z x y) (dnE z x y) w) := by
  have h0 := fun w => rid_any z x y w
  by_cases he : plE z x y = 0
  · obtain ⟨hz, hin, _⟩ := pl_in z x y he
    by_cases h26 : z = 26
    · subst h26
      obtain ⟨d1, d2⟩ := dn_top x y he
      rw [d1, d2]
      rw [he] at h0
      generalize idD 26 x y = D at *
      have H0 := Lib.hid h0
      clear h0 d1 d2 he hin hz
      go_enter Tryd.func20, Tryd.ntmps20
      go_wp2_with fail
      refine (H0.out _).mono ?_
      rintro e w1 ⟨rfl, hb⟩
      obtain ⟨hs, hb1, c0, c1, c2, f⟩ := kept3 hb
      clear hb
      go_wp2_with fail
      go_ret2
      exact ⟨_, rfl, tiles_nil _, hb1⟩
    · obtain ⟨k, hk, rfl⟩ := zoom_nat z hz
      rw [toN] at hin
      obtain ⟨d1, d2⟩ := dn_in k x y (by omega) hin
      rw [d1, d2]
      exact rdown_in k x y (by omega) hin w
  · obtain ⟨d1, d2⟩ := dn_no z x y he
    rw [d1, d2]
    have hne : (plE z x y != 0) = true := by simpa using he
    generalize idD z x y = D at *
    generalize plE z x y = E at *
    have H0 := Lib.hid h0
    clear h0 d1 d2 he
    go_enter Tryd.func20, Tryd.ntmps20
    go_wp2_with fail
    refine (H0.out _).mono ?_
    rintro e w1 ⟨rfl, hb⟩
    obtain ⟨hs, hb1, c0, c1, c2, f⟩ := kept3 hb
    clear hb
    go_wp2_with fail
    go_ret2
    exact ⟨_, rfl, tiles_nil _, hb1⟩
/-- The law's Back: the same tiles, of the document's kind. -/
def BackEnd (l : List (Int × Int × Int)) (w : World) (e : Ending) (w' : World) : Prop := ∃ v, e = .returned v ∧ TilesAt w' v l ∧ Below w.heap.size w w'
set_option maxHeartbeats 1000000 in
theorem back_any (v : Value) (l : List (Int × Int × Int)) (w : World) (hv : TilesAt w v l) (hl : l.length ≤ 1000) : Calls Tryd.prog 24 #[v] w (BackEnd l w) := by
  obtain ⟨a, cap, rfl, h1, h2, hc⟩ := hv
  have HC := Lib.hid hc
  clear hc
  obtain ⟨i0, hi, hz0, hz1, hz2⟩ := info_parts info_ref
  have HI0 := Lib.hid hi
  have HZ0 := Lib.hid hz0
  have HZ1 := Lib.hid hz1
  have HZ2 := Lib.hid hz2
  clear hi hz0 hz1 hz2
  go_enter Tryd.func24, Tryd.ntmps24
  go_wp2_with fail
  go_loopw [3, 4] (fun v s wr => ∃ i : Nat, i ≤ l.length ∧ s = .int .i64 i ∧ OwnT wr w.heap.size 23 v (l.take i) ∧ Below w.heap.size w wr) (fun _ s _ => l.length - (intOf s).toNat)
  case atStart => exact ⟨0, Nat.zero_le _, rfl, ownT_nil _ _ _, Below.refl _ _⟩
  case round =>
    obtain ⟨i, hi, rfl, hown, hbw⟩ := hrel
    by_cases hlt : i < l.length
    · obtain ⟨t, ht⟩ : ∃ t, l[i]? = some t := ⟨_, List.getElem?_eq_getElem hlt⟩
      obtain ⟨g, off, rfl, hg, l0, l1, l2⟩ := HC.out i t ht
      replace l0 := cell_later hbw l0
      replace l1 := cell_later hbw l1
      replace l2 := cell_later hbw l2
      have hsz := hbw.size
      have htk : l.take (i + 1) = l.take i ++ [t] := by
        rw [List.take_add_one, ht]; rfl
      have HTK := Lib.hid htk
      have HOWN : Hid (wr.ownsRow w.heap.size 23 3 u3 (l.take i).length (flat (l.take i))) := Lib.hid hown
      have hlen : (l.take i).length = i := by rw [List.length_take]; omega
      have HLEN := Lib.hid hlen
      have hi2 : (i : Int) < (l.length : Int) := by omega
      clear htk ht hown hlen
      obtain ⟨p, q, r⟩ := t
      dsimp only at l0 l1 l2
      go_wp2_with (first | (at_builtin; refine wpList_append_own _ rfl _ _ 45 rfl w.heap.size 23 i0 (.agg #[.int .i64 0, .int .i64 0, .int .i64 0]) 3 24 Tryd.underlying45 HI0.out HZ0.out HZ1.out HZ2.out rfl (by decide) _ _ _ rfl (World.ownsRow.alloc HOWN.out _) ⟨wr.heap.size, 0, none⟩ 1 1 [.int .i64 p, .int .i64 q, .int .i64 r] rfl rfl ?c2 ?c3 ?c4 ?c5 ?c6 ?_) | fail)
      case c2 =>
        intro j u hu
        match j, hu with
        | 0, hu => simp at hu; subst hu; simp [Addr.add, go_sem]
        | 1, hu => simp at hu; subst hu; simp [Addr.add, go_sem]
        | 2, hu => simp at hu; subst hu; simp [Addr.add, go_sem]
      case c3 => intro u hu; simp at hu; rcases hu with rfl | rfl | rfl <;> rfl
      case c4 => rw [HLEN.out]; unfold maxLen; omega
      case c5 => rw [HLEN.out]; omega
      case c6 => simp; omega
      intro v' w5 hown' hgr _
      have hb5 : Below w.heap.size w w5 := (hbw.alloc hsz _).grown hgr (by simp; omega) (fun g hg => (World.ownsRow.lt HOWN.out g hg).1)
      have hO' : OwnT w5 w.heap.size 23 v' (l.take (i + 1)) := own_conv hown' (by rw [HTK.out, List.length_append, HLEN.out]; rfl) (by rw [HTK.out, flat_append]; rfl)
      have HO' := Lib.hid hO'
      clear hown' hgr HOWN hO' l0 l1 l2 hbw
      go_wp2_with fail
      go_roundw
      case rel => exact ⟨i + 1, by omega, by go_num, HO'.out, hb5⟩
      case measure => simp [intOf]; omega
    · obtain rfl : i = l.length := by omega
      rw [List.take_length] at hown
      have hT := Lib.hid hown.tilesAt
      clear hown
      go_wp2_with fail
      go_ret
      exact ⟨_, rfl, hT.out, hbw⟩
set_option maxHeartbeats 1000000 in
theorem same_yes (v1 v2 : Value) (l : List (Int × Int × Int)) (w : World) (h1 : TilesAt w v1 l) (h2 : TilesAt w v2 l) (hl : l.length ≤ 1000) : Calls Tryd.prog 23 #[v1, v2] w fun e w' => e = .returned (.bool true) ∧ Below w.heap.size w w' := by
  obtain ⟨a, cap, rfl, _, _, hc⟩ := h1
  obtain ⟨a2, cap2, rfl, _, _, hc2⟩ := h2
  have HC := Lib.hid hc
  have HC2 := Lib.hid hc2
  clear hc hc2
  go_enter Tryd.func23, Tryd.ntmps23
  go_wp2_with fail
  go_loopw [5] (fun s wr => ∃ i : Nat, i ≤ l.length ∧ s = .int .i64 i ∧ Below w.heap.size w wr) (fun s _ => l.length - (intOf s).toNat)
  case atStart => exact ⟨0, Nat.zero_le _, rfl, Below.refl _ _⟩
  case round =>
    obtain ⟨i, hi, rfl, hbw⟩ := hrel
    by_cases hlt : i < l.length
    · obtain ⟨t, ht⟩ : ∃ t, l[i]? = some t := ⟨_, List.getElem?_eq_getElem hlt⟩
      obtain ⟨g, off, rfl, hg, l0, l1, l2⟩ := HC.out i t ht
      obtain ⟨g2, off2, rfl, hg2, m0, m1, m2⟩ := HC2.out i t ht
      replace l0 := cell_later hbw l0
      replace l1 := cell_later hbw l1
      replace l2 := cell_later hbw l2
      replace m0 := cell_later hbw m0
      replace m1 := cell_later hbw m1
      replace m2 := cell_later hbw m2
      have hi2 : (i : Int) < (l.length : Int) := by omega
      clear ht
      obtain ⟨p, q, r⟩ := t
      dsimp only at l0 l1 l2 m0 m1 m2
      go_wp2_with fail
      go_quiet (fail)
      go_wp2_with fail
      go_roundw
      case rel => exact ⟨i + 1, by omega, by go_num, hbw.trans ⟨rfl, rfl, rfl, Nat.le_refl _, fun _ _ => rfl⟩⟩
      case measure => simp [intOf]; omega
    · obtain rfl : i = l.length := by omega
      go_wp2_with fail
      go_ret
      exact ⟨rfl, hbw⟩
end Go.Proofs.YtanhoppclgeogaaDoor
