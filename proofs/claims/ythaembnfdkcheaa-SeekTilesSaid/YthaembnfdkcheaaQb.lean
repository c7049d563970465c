/- The contract of the program's Leaves. -/
import Derived.Test.YthaembnfdkcheaaQa
namespace Go.Proofs.Ythaembnfdkcheaa
open Go.RowKit
set_option linter.unusedVariables false
set_option linter.unusedSimpArgs false
theorem info_pv : (Try.prog.info? 29).map (fun i => (i.zero, i.size, i.bytes)) = some (some (.agg #[.int .u64 0, .int .u64 0, .int .u32 0, .int .u32 0]), 4, 24) := by kernel_rfl
set_option maxRecDepth 20000 in
set_option maxHeartbeats 1000000 in
theorem pleaves_any (v : Value) (l : List En) (w : World) (hv : EnsAt w v l) (hm : MaysN l) (hl : l.length * 24 ≤ 140737488351232) : Calls Try.prog 15 #[v] w (EnsEnd (leavesN l) 29 w) := by
  have HF := Lib.hid (fun e W => qptr_any e W)
  obtain ⟨a, cap, rfl, h1, h2, hc⟩ := hv
  have HC := Lib.hid hc
  clear hc
  obtain ⟨i0, hi, hz0, hz1, hz2⟩ := info_parts info_pv
  have HI0 := Lib.hid hi
  have HZ0 := Lib.hid hz0
  have HZ1 := Lib.hid hz1
  have HZ2 := Lib.hid hz2
  clear hi hz0 hz1 hz2
  go_enter Try.func15, Try.ntmps15
  go_wp2_with fail
  go_loopw [3, 8] (fun v s wr => ∃ i : Nat, i ≤ l.length ∧ s = .int .i64 i ∧ OwnE wr w.heap.size 29 v (leavesN (l.take i)) ∧ Below w.heap.size w wr) (fun _ s _ => l.length - (intOf s).toNat)
  case atStart => exact ⟨0, Nat.zero_le _, rfl, ownE_nil _ _ _, Below.refl _ _⟩
  case round =>
    obtain ⟨i, hi, rfl, hown, hbw⟩ := hrel
    by_cases hlt : i < l.length
    · obtain ⟨t, ht⟩ : ∃ t, l[i]? = some t := ⟨_, List.getElem?_eq_getElem hlt⟩
      obtain ⟨g, off, rfl, hg, l0, l1, l2, l3⟩ := HC.out i t ht
      replace l0 := ecell_later hbw l0
      replace l1 := ecell_later hbw l1
      replace l2 := ecell_later hbw l2
      replace l3 := ecell_later hbw l3
      have hsz := hbw.size
      have HTK := Lib.hid (leaves_step l i t ht)
      have HX := Lib.hid (EAt.made wr t 29)
      have HBX := Lib.hid ((Below.refl wr.heap.size wr).alloc (Nat.le_refl _) (.cells (eC t) 29))
      have HN := Lib.hid (And.intro hown hbw)
      have hlen : (leavesN (l.take i)).length ≤ i := by have := List.length_filter_le (fun e => decide (e.rn = 0)) (l.take i); rw [List.length_take] at this; unfold leavesN; omega
      have HLEN := Lib.hid hlen
      have hi2 : (i : Int) < (l.length : Int) := by omega
      have HE := Lib.hid (HF.out t)
      unfold eC at HE HX HBX
      by_cases hz : t.rn = 0
      · rw [if_pos hz] at HTK
        have hd : decide (t.rn = 0) = true := by simpa using hz
        rw [hd] at HE
        clear ht hown hlen hz hbw
        obtain ⟨p, q, r, s⟩ := t
        dsimp only at l0 l1 l2 l3
        go_wp2_with fail
        refine (HE.out _).mono ?_
        rintro x w1 ⟨rfl, hb⟩
        obtain ⟨k0, k1, k2, k3⟩ := EAt.later HX.out hb
        dsimp only at k0 k1 k2 k3
        have HW1 := Lib.hid (HBX.out.trans (hb.mono HBX.out.size))
        have HOWN : Hid (w1.ownsRow w.heap.size 29 4 u3 (leavesN (l.take i)).length (flat4 (leavesN (l.take i)))) := Lib.hid (OwnE.below HN.out.1 HW1.out)
        have hbw1 := HN.out.2.trans (HW1.out.mono HN.out.2.size)
        have hsz1 := hbw1.size
        clear hb l0 l1 l2 l3 HX HBX hsz
        go_wp2_with (first | (at_builtin; refine wpList_append_own _ rfl _ _ 25 rfl w.heap.size 29 i0 (.agg #[.int .u64 0, .int .u64 0, .int .u32 0, .int .u32 0]) 4 24 Try.underlying25 HI0.out HZ0.out HZ1.out HZ2.out rfl (by decide) _ _ _ rfl (World.ownsRow.alloc HOWN.out _) ⟨w1.heap.size, 0, none⟩ 1 1 [.int .u64 p, .int .u64 q, .int .u32 r, .int .u32 s] rfl rfl ?c2 ?c3 ?c4 ?c5 ?c6 ?_) | fail)
        case c2 =>
          intro j u hu
          rw [show ({ block := w1.heap.size, off := 0 } : Addr).add j = ⟨w1.heap.size, j, none⟩ from by simp [Addr.add] <;> omega, World.cell?_alloc_mark]
          simpa using hu
        case c3 =>
          intro u hu
          simp only [List.mem_cons, List.not_mem_nil, or_false] at hu
          rcases hu with rfl | rfl | rfl | rfl <;> rfl
        case c4 => have := HLEN.out; unfold maxLen; omega
        case c5 => have := HLEN.out; omega
        case c6 => first | omega | (simp; omega)
        intro v' w5 hown' hgr _
        have hb5 : Below w.heap.size w w5 := (hbw1.alloc hsz1 _).grown hgr (by simp; omega) (fun g hg => (World.ownsRow.lt HOWN.out g hg).1)
        have hO' : OwnE w5 w.heap.size 29 v' (leavesN (l.take (i + 1))) := owne_conv hown' (by rw [HTK.out, List.length_append]; rfl) (by rw [HTK.out, flat4_append]; rfl)
        have HO' := Lib.hid hO'
        clear hown' hgr HOWN hO' k0 k1 k2 k3 hbw1
        go_wp2_with fail
        go_roundw
        case rel => exact ⟨i + 1, by omega, by go_num, HO'.out, hb5⟩
        case measure => simp [intOf]; omega
      · rw [if_neg hz, List.append_nil] at HTK
        have hd : decide (t.rn = 0) = false := by simpa using hz
        rw [hd] at HE
        clear ht hown hlen hz hbw
        go_wp2_with fail
        refine (HE.out _).mono ?_
        rintro x w1 ⟨rfl, hb⟩
        have HW1 := Lib.hid (HBX.out.trans (hb.mono HBX.out.size))
        clear hb l0 l1 l2 l3 HX HBX hsz
        go_wp2_with fail
        go_roundw
        case rel => exact ⟨i + 1, by omega, by go_num, by rw [HTK.out]; exact OwnE.below HN.out.1 HW1.out, HN.out.2.trans (HW1.out.mono HN.out.2.size)⟩
        case measure => simp [intOf]; omega
    · obtain rfl : i = l.length := by omega
      rw [List.take_length] at hown
      go_wp2_with fail
      go_ret
      exact ⟨_, rfl, hown, hbw⟩
end Go.Proofs.Ythaembnfdkcheaa
