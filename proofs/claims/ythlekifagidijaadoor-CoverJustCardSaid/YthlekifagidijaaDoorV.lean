/- Contracts of ahead, Base, ID, Zoom and Of, the program's and the document's: both tell the same plain numbers. -/
import Derived.Test.YthlekifagidijaaDoorU
import Derived.Test.YthlekifagidijaaDoorLn
namespace Go.Proofs.YthlekifagidijaaDoor
open Go.RowKit
set_option linter.unusedVariables false
/-- What stays of a new block of three cells. -/
theorem kept3 {w w1 : World} {A B C : Value} {T : TypeId} (hb : Below (w.alloc (.cells #[A, B, C] T)).heap.size (w.alloc (.cells #[A, B, C] T)) w1) :
    w.heap.size < w1.heap.size ∧ Below w.heap.size w w1 ∧ w1.cell? ⟨w.heap.size, 0, none⟩ = some A ∧ w1.cell? ⟨w.heap.size, 1, none⟩ = some B ∧ w1.cell? ⟨w.heap.size, 2, none⟩ = some C ∧ ∀ o, w1.frozen? ⟨w.heap.size, o, none⟩ = false := by
  have hz : (w.alloc (.cells #[A, B, C] T)).heap.size = w.heap.size + 1 := by rw [World.size_alloc]
  have hs := hb.size
  rw [hz] at hs hb
  refine ⟨by omega, Below.trans (by go_grown) (hb.mono (by omega)), ?_, ?_, ?_, fun o => ?_⟩
  · exact (hb.cell (p := ⟨w.heap.size, 0, none⟩) (Nat.lt_succ_self _)).trans (by simp [go_sem])
  · exact (hb.cell (p := ⟨w.heap.size, 1, none⟩) (Nat.lt_succ_self _)).trans (by simp [go_sem])
  · exact (hb.cell (p := ⟨w.heap.size, 2, none⟩) (Nat.lt_succ_self _)).trans (by simp [go_sem])
  · exact (hb.frozen (p := ⟨w.heap.size, o, none⟩) (Nat.lt_succ_self _)).trans (by simp [go_sem])
theorem ahead_any (z : Int) (h0 : 0 ≤ z) (h1 : z ≤ 27) (w : World) : Calls Tryd.prog 47 #[.int .i64 z] w fun e w' => e = .returned (.int .u64 (bas z.toNat)) ∧ w = w' := by
  obtain ⟨k, rfl⟩ : ∃ k : Nat, z = k := ⟨z.toNat, by omega⟩
  have h3 := bas_three k
  have hn := bas_nn k
  have ht := bas_top k (by omega)
  go_enter Tryd.func47, Tryd.ntmps47
  go_wp2
  go_ret
  refine ⟨?_, rfl⟩
  rw [toN]
  show Ending.returned (.int .u64 (IntKind.u64.wrap ((IntKind.u64.wrap (IntKind.u64.wrap (2 ^ (2 * k)) - 1)).tdiv 3))) = _
  rw [p4_pow, ← h3, IntWalk.u64_in (3 * bas k + 1) (by omega), show 3 * bas k + 1 - 1 = 3 * bas k from by omega, IntWalk.u64_in (3 * bas k) (by omega), Int.tdiv_eq_ediv_of_nonneg (by omega), show 3 * bas k / 3 = bas k from by omega, IntWalk.u64_in (bas k) (by omega)]
theorem rbase_any (z : Int) (w : World) : Calls Tryd.prog 53 #[.int .i64 z] w fun e w' => e = .returned (.tuple #[.int .u64 (baD z), .int .i64 (baE z)]) ∧ w = w' := by
  by_cases h : 0 ≤ z ∧ z ≤ 27
  · rw [show baD z = bas z.toNat from if_pos h, show baE z = 0 from if_pos h]
    obtain ⟨h0, h1⟩ := h
    obtain ⟨n, rfl⟩ : ∃ k : Nat, z = k := ⟨z.toNat, by omega⟩
    rw [toN]
    go_enter Tryd.func53, Tryd.ntmps53
    go_wp2_with fail
    go_loop [4, 5, 6] (fun p b i => ∃ k : Nat, k ≤ n ∧ i = .int .i64 k ∧ p = .int .u64 (p4 k) ∧ b = .int .u64 (bas k)) (fun _ _ i => n - (intOf i).toNat)
    case atStart => exact ⟨0, Nat.zero_le _, rfl, rfl, rfl⟩
    case round =>
      obtain ⟨k, hk, rfl, rfl, rfl⟩ := hrel
      by_cases hlt : k < n
      · have ht := p4_top k (by omega)
        have hp := p4_pos k
        have hb := bas_nn k
        have hb2 := bas_top k (by omega)
        have hs : p4 (k + 1) = 4 * p4 k := rfl
        have hs2 := bas_succ k
        go_wp2_with fail
        refine ⟨⟨k + 1, by omega, by go_num, by rw [hs], by rw [hs2]⟩, ?_⟩
        simp [intOf]; omega
      · obtain rfl : k = n := by omega
        go_wp2_with fail
        go_ret2
        exact ⟨rfl, rfl⟩
  · rw [show baD z = 0 from if_neg h, show baE z = 2 from if_neg h]
    by_cases h0 : z < 0
    · clear h
      go_enter Tryd.func53, Tryd.ntmps53
      go_wp2_with fail
      go_ret2
      exact ⟨rfl, rfl⟩
    · have h1 : 27 < z := by omega
      clear h
      go_enter Tryd.func53, Tryd.ntmps53
      go_wp2_with fail
      go_ret2
      exact ⟨rfl, rfl⟩
theorem baD_in (z : Int) (h : Zoom z) : baD z = bas z.toNat ∧ baE z = 0 := by
  unfold Zoom at h
  exact ⟨if_pos (by omega), if_pos (by omega)⟩
theorem id_any (z x y : Int) (w : World) (hq : QTab w) : Calls Tryd.prog 27 #[.agg #[.int .i64 z, .int .i64 x, .int .i64 y]] w fun e w' => e = .returned (.tuple #[.int .u64 (idD z x y), .int .i64 (plE z x y)]) ∧ Below w.heap.size w w' := by
  have h0 := fun w hq => place_any z x y w hq
  by_cases he : plE z x y = 0
  · obtain ⟨hz, hin, e, b0, b1⟩ := pl_in z x y he
    have e2 : idD z x y = bas z.toNat + plD z x y := if_pos he
    obtain ⟨i1, i2, i3, i4⟩ := (id_in z x y he).2.2.2
    rw [e2] at i1 i2 i3 i4 ⊢
    rw [he] at h0 ⊢
    have H0 := Lib.hid h0
    unfold Zoom at hz
    have HA := Lib.hid (fun w => ahead_any z hz.1 (by omega) w)
    have hn := bas_nn z.toNat
    have ht := bas_top z.toNat (by omega)
    clear hin e e2 he h0 b1 i1 i2
    generalize plD z x y = D at *
    generalize bas z.toNat = b at *
    go_enter Tryd.func27, Tryd.ntmps27
    go_wp2_with fail
    refine (H0.out _ (hq.below (by go_grown))).mono ?_
    rintro e w1 ⟨rfl, hb⟩
    obtain ⟨hs, hb1, c0, c1, c2, f⟩ := kept3 hb
    clear hb
    go_wp2_with fail
    refine (HA.out _).mono ?_
    rintro e w' ⟨rfl, rfl⟩
    go_wp2_with fail
    go_ret2
    exact ⟨rfl, hb1⟩
  · obtain ⟨q1, q2⟩ := pl_no z x y he
    rw [id_no z x y he]
    rw [q1] at h0
    have H0 := Lib.hid h0
    clear h0 q1
    generalize plE z x y = E at *
    go_enter Tryd.func27, Tryd.ntmps27
    go_wp2_with fail
    refine (H0.out _ (hq.below (by go_grown))).mono ?_
    rintro e w1 ⟨rfl, hb⟩
    obtain ⟨hs, hb1, c0, c1, c2, f⟩ := kept3 hb
    clear hb
    go_wp2_with fail
    go_ret2
    exact ⟨rfl, hb1⟩
theorem rid_any (z x y : Int) (w : World) : Calls Tryd.prog 35 #[.agg #[.int .i64 z, .int .i64 x, .int .i64 y]] w fun e w' => e = .returned (.tuple #[.int .u64 (idD z x y), .int .i64 (plE z x y)]) ∧ Below w.heap.size w w' := by
  have h0 := fun w => rplace_any z x y w
  by_cases he : plE z x y = 0
  · obtain ⟨hz, hin, e, b0, b1⟩ := pl_in z x y he
    have e2 : idD z x y = bas z.toNat + plD z x y := if_pos he
    obtain ⟨i1, i2, i3, i4⟩ := (id_in z x y he).2.2.2
    rw [e2] at i1 i2 i3 i4 ⊢
    rw [he] at h0 ⊢
    have H0 := Lib.hid h0
    have hb := rbase_any z
    rw [(baD_in z hz).1, (baD_in z hz).2] at hb
    have HA := Lib.hid hb
    unfold Zoom at hz
    have hn := bas_nn z.toNat
    have ht := bas_top z.toNat (by omega)
    clear hin e e2 he h0 b1 i1 i2 hb
    generalize plD z x y = D at *
    generalize bas z.toNat = b at *
    go_enter Tryd.func35, Tryd.ntmps35
    go_wp2_with fail
    refine (H0.out _).mono ?_
    rintro e w' ⟨rfl, rfl⟩
    go_wp2_with fail
    refine (HA.out _).mono ?_
    rintro e w' ⟨rfl, rfl⟩
    go_wp2_with fail
    go_ret2
    exact ⟨rfl, by go_grown⟩
  · obtain ⟨q1, q2⟩ := pl_no z x y he
    rw [id_no z x y he]
    rw [q1] at h0
    have H0 := Lib.hid h0
    clear h0 q1
    generalize plE z x y = E at *
    go_enter Tryd.func35, Tryd.ntmps35
    go_wp2_with fail
    refine (H0.out _).mono ?_
    rintro e w' ⟨rfl, rfl⟩
    go_wp2_with fail
    go_ret2
    exact ⟨rfl, by go_grown⟩
end Go.Proofs.YthlekifagidijaaDoor
