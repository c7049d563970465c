/- Contracts of the document's Total, and of the law's own and Back over lists of intervals. -/
import Derived.Test.YthlekifagidijaaDoorRu
namespace Go.Proofs.YthlekifagidijaaDoor
open Go.RowKit
set_option linter.unusedVariables false
set_option linter.unusedSimpArgs false
theorem tot_snoc (l : List (Int × Int)) (s : Int × Int) : tot (l ++ [s]) = tot l + (if s.1 ≤ s.2 then s.2 - s.1 + 1 else 0) := by
  induction l with
  | nil => simp [tot]
  | cons t l ih => rw [List.cons_append, tot, ih, tot]; omega
set_option maxHeartbeats 1000000 in
theorem rtotal_any (v : Value) (l : List (Int × Int)) (w : World) (hv : SpansAt w v l) (hw : WideS l) (hl : l.length ≤ 100000) : Calls Tryd.prog 25 #[v] w fun e w' => e = .returned (.int .u64 (tot l % 18446744073709551616)) ∧ Below w.heap.size w w' := by
  obtain ⟨al, cap, rfl, _, _, hc⟩ := hv
  have HC := Lib.hid hc
  have HW := Lib.hid hw
  clear hc hw
  go_enter Tryd.func25, Tryd.ntmps25
  go_wp2_with fail
  go_loopw [3, 4] (fun n s wr => ∃ (i : Nat) (N : Int), i ≤ l.length ∧ s = .int .i64 i ∧ n = .int .u64 N ∧ Hid (N = tot (l.take i) % 18446744073709551616) ∧ 0 ≤ N ∧ N ≤ 18446744073709551615 ∧ Below w.heap.size w wr) (fun _ s _ => l.length - (intOf s).toNat)
  case atStart => exact ⟨0, 0, Nat.zero_le _, rfl, rfl, Lib.hid rfl, by omega, by omega, Below.refl _ _⟩
  case round =>
    obtain ⟨i, N, hi, rfl, rfl, HN, n0, n1, hbw⟩ := hrel
    by_cases hlt : i < l.length
    · obtain ⟨t, ht⟩ : ∃ t, l[i]? = some t := ⟨_, List.getElem?_eq_getElem hlt⟩
      obtain ⟨b0, b1, b2, b3⟩ := HW.out t (List.mem_of_getElem? ht)
      obtain ⟨g, off, rfl, hg, l0, l1⟩ := HC.out i t ht
      replace l0 := scell_later hbw l0
      replace l1 := scell_later hbw l1
      have htk : tot (l.take (i + 1)) = tot (l.take i) + (if t.1 ≤ t.2 then t.2 - t.1 + 1 else 0) := by
        rw [List.take_add_one, ht]; exact tot_snoc _ _
      have HTK := Lib.hid htk
      have hi2 : (i : Int) < (l.length : Int) := by omega
      clear ht htk
      obtain ⟨p, q⟩ := t
      dsimp only at l0 l1 b0 b1 b2 b3 HTK
      by_cases hpq : p ≤ q
      · rw [if_pos hpq] at HTK
        go_wp2_with fail
        go_quiet (fail)
        go_wp2_with fail
        go_quiet (fail)
        go_wp2_with fail
        go_roundw
        case rel =>
          refine ⟨i + 1, _, by omega, by go_num, rfl, Lib.hid ?_, ?_, ?_, hbw.trans ⟨rfl, rfl, rfl, Nat.le_refl _, fun _ _ => rfl⟩⟩
          · rw [HTK.out, HN.out]
            simp only [IntKind.wrap_u64]
            omega
          · simp only [IntKind.wrap_u64]; omega
          · simp only [IntKind.wrap_u64]; omega
        case measure => simp [intOf]; omega
      · rw [if_neg hpq] at HTK
        have hpq' : decide (p ≤ q) = false := decide_eq_false hpq
        go_wp2_with fail
        go_quiet (fail)
        go_wp2_with fail
        go_roundw
        case rel => exact ⟨i + 1, N, by omega, by go_num, rfl, Lib.hid (by rw [HTK.out, Int.add_zero]; exact HN.out), n0, n1, hbw.trans ⟨rfl, rfl, rfl, Nat.le_refl _, fun _ _ => rfl⟩⟩
        case measure => simp [intOf]; omega
    · obtain rfl : i = l.length := by omega
      rw [List.take_length] at HN
      go_wp2_with fail
      go_ret
      exact ⟨by rw [← HN.out]; rfl, hbw⟩
theorem info_rspan : (Tryd.prog.info? 69).map (fun i => (i.zero, i.size, i.bytes)) = some (some (.agg #[.int .u64 0, .int .u64 0]), 2, 16) := by kernel_rfl
set_option maxHeartbeats 1000000 in
theorem sback_any (v : Value) (l : List (Int × Int)) (w : World) (hv : SpansAt w v l) (hl : l.length ≤ 100000) : Calls Tryd.prog 18 #[v] w (SpansEnd l w) := by
  obtain ⟨a, cap, rfl, h1, h2, hc⟩ := hv
  have HC := Lib.hid hc
  clear hc
  obtain ⟨i0, hi, hz0, hz1, hz2⟩ := info_parts info_rspan
  have HI0 := Lib.hid hi
  have HZ0 := Lib.hid hz0
  have HZ1 := Lib.hid hz1
  have HZ2 := Lib.hid hz2
  clear hi hz0 hz1 hz2
  go_enter Tryd.func18, Tryd.ntmps18
  go_wp2_with fail
  go_loopw [3, 4] (fun v s wr => ∃ i : Nat, i ≤ l.length ∧ s = .int .i64 i ∧ OwnS wr w.heap.size 69 v (l.take i) ∧ Below w.heap.size w wr) (fun _ s _ => l.length - (intOf s).toNat)
  case atStart => exact ⟨0, Nat.zero_le _, rfl, ownS_nil _ _ _, Below.refl _ _⟩
  case round =>
    obtain ⟨i, hi, rfl, hown, hbw⟩ := hrel
    by_cases hlt : i < l.length
    · obtain ⟨t, ht⟩ : ∃ t, l[i]? = some t := ⟨_, List.getElem?_eq_getElem hlt⟩
      obtain ⟨g, off, rfl, hg, l0, l1⟩ := HC.out i t ht
      replace l0 := scell_later hbw l0
      replace l1 := scell_later hbw l1
      have hsz := hbw.size
      have htk : l.take (i + 1) = l.take i ++ [t] := by
        rw [List.take_add_one, ht]; rfl
      have HTK := Lib.hid htk
      have HOWN : Hid (wr.ownsRow w.heap.size 69 2 u3 (l.take i).length (flat2 (l.take i))) := Lib.hid hown
      have hlen : (l.take i).length = i := by rw [List.length_take]; omega
      have HLEN := Lib.hid hlen
      have hi2 : (i : Int) < (l.length : Int) := by omega
      clear htk ht hown hlen
      obtain ⟨p, q⟩ := t
      dsimp only at l0 l1
      go_wp2_with (first | (at_builtin; refine wpList_append_own _ rfl _ _ 38 rfl w.heap.size 69 i0 (.agg #[.int .u64 0, .int .u64 0]) 2 16 Tryd.underlying38 HI0.out HZ0.out HZ1.out HZ2.out rfl (by decide) _ _ _ rfl (World.ownsRow.alloc HOWN.out _) ⟨wr.heap.size, 0, none⟩ 1 1 [.int .u64 p, .int .u64 q] rfl rfl ?c2 ?c3 ?c4 ?c5 ?c6 ?_) | fail)
      case c2 =>
        intro j u hu
        match j, hu with
        | 0, hu => simp at hu; subst hu; simp [Addr.add, go_sem]
        | 1, hu => simp at hu; subst hu; simp [Addr.add, go_sem]
      case c3 => intro u hu; simp at hu; rcases hu with rfl | rfl <;> rfl
      case c4 => rw [HLEN.out]; unfold maxLen; omega
      case c5 => rw [HLEN.out]; omega
      case c6 => simp; omega
      intro v' w5 hown' hgr _
      have hb5 : Below w.heap.size w w5 := (hbw.alloc hsz _).grown hgr (by simp; omega) (fun g hg => (World.ownsRow.lt HOWN.out g hg).1)
      have hO' : OwnS w5 w.heap.size 69 v' (l.take (i + 1)) := owns_conv hown' (by rw [HTK.out, List.length_append, HLEN.out]; rfl) (by rw [HTK.out, flat2_append]; rfl)
      have HO' := Lib.hid hO'
      clear hown' hgr HOWN hO' l0 l1 hbw
      go_wp2_with fail
      go_roundw
      case rel => exact ⟨i + 1, by omega, by go_num, HO'.out, hb5⟩
      case measure => simp [intOf]; omega
    · obtain rfl : i = l.length := by omega
      rw [List.take_length] at hown
      have hT := Lib.hid hown.spansAt
      clear hown
      go_wp2_with fail
      go_ret
      exact ⟨_, rfl, hT.out, hbw⟩
theorem info_cspan : (Tryd.prog.info? 54).map (fun i => (i.zero, i.size, i.bytes)) = some (some (.agg #[.int .u64 0, .int .u64 0]), 2, 16) := by kernel_rfl
set_option maxHeartbeats 1000000 in
theorem sown_any (v : Value) (l : List (Int × Int)) (w : World) (hv : SpansAt w v l) (hl : l.length ≤ 100000) : Calls Tryd.prog 20 #[v] w (SpansEnd l w) := by
  obtain ⟨a, cap, rfl, h1, h2, hc⟩ := hv
  have HC := Lib.hid hc
  clear hc
  obtain ⟨i0, hi, hz0, hz1, hz2⟩ := info_parts info_cspan
  have HI0 := Lib.hid hi
  have HZ0 := Lib.hid hz0
  have HZ1 := Lib.hid hz1
  have HZ2 := Lib.hid hz2
  clear hi hz0 hz1 hz2
  go_enter Tryd.func20, Tryd.ntmps20
  go_wp2_with fail
  go_loopw [3, 4] (fun v s wr => ∃ i : Nat, i ≤ l.length ∧ s = .int .i64 i ∧ OwnS wr w.heap.size 54 v (l.take i) ∧ Below w.heap.size w wr) (fun _ s _ => l.length - (intOf s).toNat)
  case atStart => exact ⟨0, Nat.zero_le _, rfl, ownS_nil _ _ _, Below.refl _ _⟩
  case round =>
    obtain ⟨i, hi, rfl, hown, hbw⟩ := hrel
    by_cases hlt : i < l.length
    · obtain ⟨t, ht⟩ : ∃ t, l[i]? = some t := ⟨_, List.getElem?_eq_getElem hlt⟩
      obtain ⟨g, off, rfl, hg, l0, l1⟩ := HC.out i t ht
      replace l0 := scell_later hbw l0
      replace l1 := scell_later hbw l1
      have hsz := hbw.size
      have htk : l.take (i + 1) = l.take i ++ [t] := by
        rw [List.take_add_one, ht]; rfl
      have HTK := Lib.hid htk
      have HOWN : Hid (wr.ownsRow w.heap.size 54 2 u3 (l.take i).length (flat2 (l.take i))) := Lib.hid hown
      have hlen : (l.take i).length = i := by rw [List.length_take]; omega
      have HLEN := Lib.hid hlen
      have hi2 : (i : Int) < (l.length : Int) := by omega
      clear htk ht hown hlen
      obtain ⟨p, q⟩ := t
      dsimp only at l0 l1
      go_wp2_with (first | (at_builtin; refine wpList_append_own _ rfl _ _ 35 rfl w.heap.size 54 i0 (.agg #[.int .u64 0, .int .u64 0]) 2 16 Tryd.underlying35 HI0.out HZ0.out HZ1.out HZ2.out rfl (by decide) _ _ _ rfl (World.ownsRow.alloc HOWN.out _) ⟨wr.heap.size, 0, none⟩ 1 1 [.int .u64 p, .int .u64 q] rfl rfl ?c2 ?c3 ?c4 ?c5 ?c6 ?_) | fail)
      case c2 =>
        intro j u hu
        match j, hu with
        | 0, hu => simp at hu; subst hu; simp [Addr.add, go_sem]
        | 1, hu => simp at hu; subst hu; simp [Addr.add, go_sem]
      case c3 => intro u hu; simp at hu; rcases hu with rfl | rfl <;> rfl
      case c4 => rw [HLEN.out]; unfold maxLen; omega
      case c5 => rw [HLEN.out]; omega
      case c6 => simp; omega
      intro v' w5 hown' hgr _
      have hb5 : Below w.heap.size w w5 := (hbw.alloc hsz _).grown hgr (by simp; omega) (fun g hg => (World.ownsRow.lt HOWN.out g hg).1)
      have hO' : OwnS w5 w.heap.size 54 v' (l.take (i + 1)) := owns_conv hown' (by rw [HTK.out, List.length_append, HLEN.out]; rfl) (by rw [HTK.out, flat2_append]; rfl)
      have HO' := Lib.hid hO'
      clear hown' hgr HOWN hO' l0 l1 hbw
      go_wp2_with fail
      go_roundw
      case rel => exact ⟨i + 1, by omega, by go_num, HO'.out, hb5⟩
      case measure => simp [intOf]; omega
    · obtain rfl : i = l.length := by omega
      rw [List.take_length] at hown
      have hT := Lib.hid hown.spansAt
      clear hown
      go_wp2_with fail
      go_ret
      exact ⟨_, rfl, hT.out, hbw⟩
end Go.Proofs.YthlekifagidijaaDoor
