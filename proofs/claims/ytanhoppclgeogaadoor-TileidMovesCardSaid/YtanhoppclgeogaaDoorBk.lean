/- The walk of TileidBack: each tile is its identifier's, each identifier its tile's. -/
import Derived.Test.YtanhoppclgeogaaDoorAw
namespace Go.Proofs.YtanhoppclgeogaaDoor
open Go.RowKit
set_option linter.unusedVariables false
set_option linter.unusedSimpArgs false
/-- What an identifier tells of its tile. -/
def Tells (z x y A E : Int) : Prop := E = 0 → 0 ≤ A ∧ A < 6004799503160661 ∧ (∀ w, QTab w → Calls Tryd.prog 10 #[.int .u64 A] w fun e w' => e = .returned (.tuple #[.agg #[.int .i64 z, .int .i64 x, .int .i64 y], .int .i64 0]) ∧ Below w.heap.size w w') ∧ ∀ w, Calls Tryd.prog 14 #[.int .u64 A] w fun e w' => e = .returned (.int .i64 z) ∧ w = w'
theorem tells_id (z x y : Int) : Tells z x y (idD z x y) (plE z x y) := by
  intro h
  obtain ⟨o1, o2, o3, o4, o5⟩ := of_id z x y h
  obtain ⟨_, _, _, _, _, i0, i1⟩ := id_in z x y h
  have hO := fun w hq => of_any (idD z x y) i0 w hq
  have hZ := fun w => zoom_any (idD z x y) i0 w
  rw [o1, o2, o3, o4] at hO
  rw [o5] at hZ
  exact ⟨i0, i1, hO, hZ⟩
/-- How two identifiers stand. -/
def Two (z x y u a b A B E F : Int) : Prop := E = 0 → F = 0 → (A = B → z = u ∧ x = a ∧ y = b) ∧ (z = u → x = a → y = b → A = B) ∧ (z < u → A < B)
theorem two_id (z x y u a b : Int) : Two z x y u a b (idD z x y) (idD u a b) (plE z x y) (plE u a b) := by
  intro h g
  exact ⟨fun e => id_inj z x y u a b h g e, fun e1 e2 e3 => by subst e1; subst e2; subst e3; rfl, fun hz => id_less z x y u a b h g hz⟩
theorem keepB {w W w' : World} {g h : Nat} {z x y u a b : Int} (hk : Below W.heap.size W w')
    (hS : W.cell? ⟨g, 0, none⟩ = some (.int .i64 z) ∧ W.cell? ⟨g, 1, none⟩ = some (.int .i64 x) ∧ W.cell? ⟨g, 2, none⟩ = some (.int .i64 y) ∧ W.cell? ⟨h, 0, none⟩ = some (.int .i64 u) ∧ W.cell? ⟨h, 1, none⟩ = some (.int .i64 a) ∧ W.cell? ⟨h, 2, none⟩ = some (.int .i64 b)) :
    w'.cell? ⟨g, 0, none⟩ = some (.int .i64 z) ∧ w'.cell? ⟨g, 1, none⟩ = some (.int .i64 x) ∧ w'.cell? ⟨g, 2, none⟩ = some (.int .i64 y) ∧ w'.cell? ⟨h, 0, none⟩ = some (.int .i64 u) ∧ w'.cell? ⟨h, 1, none⟩ = some (.int .i64 a) ∧ w'.cell? ⟨h, 2, none⟩ = some (.int .i64 b) := by
  obtain ⟨c0, c1, c2, d0, d1, d2⟩ := hS
  exact ⟨cell_later hk c0, cell_later hk c1, cell_later hk c2, cell_later hk d0, cell_later hk d1, cell_later hk d2⟩
set_option maxHeartbeats 2000000 in
set_option maxRecDepth 20000 in
theorem back_walk (z x y u a b d : Int) (dd : 0 ≤ d) (w : World) (hq : QTab w) : Calls Tryd.prog 5 #[.agg #[.int .i64 z, .int .i64 x, .int .i64 y], .agg #[.int .i64 u, .int .i64 a, .int .i64 b], .int .u64 d] w fun e w' => e = .returned (.bool true) ∧ Below w.heap.size w w' := by
  have H1 := Lib.hid (fun w hq => id_any z x y w hq)
  have H2 := Lib.hid (fun w hq => id_any u a b w hq)
  have K1 := Lib.hid (tells_id z x y)
  have K2 := Lib.hid (two_id z x y u a b)
  generalize idD z x y = A at *
  generalize plE z x y = E at *
  generalize idD u a b = B at *
  generalize plE u a b = F at *
  go_enter Tryd.func5, Tryd.ntmps5
  go_wp2_with fail
  refine (H1.out _ (hq.below (by go_grown))).mono ?_
  rintro e w1 ⟨rfl, hb⟩
  have hs := hb.size
  simp only [World.size_alloc] at hs
  have s1 := (spot_old (spot_new w z x y 23) (by simp) (.cells #[.int .i64 u, .int .i64 a, .int .i64 b] 23)).below hb (by simp; omega)
  have s2 := (spot_new (w.alloc (.cells #[.int .i64 z, .int .i64 x, .int .i64 y] 23)) u a b 23).below hb (by simp)
  have hb1 : Below w.heap.size w w1 := Below.trans (by go_grown) (hb.mono (by simp; omega))
  simp only [World.size_alloc] at s1 s2
  have s1' := Lib.hid s1
  have s2' := Lib.hid s2
  obtain ⟨c0, c1, c2, f⟩ := s1
  obtain ⟨d0, d1, d2, g⟩ := s2
  clear hb
  go_wp2_with fail
  refine (H2.out _ (hq.below hb1)).mono ?_
  rintro e w2 ⟨rfl, hb⟩
  have t1 := Lib.hid (s1'.out.below hb (by omega))
  have t2 := Lib.hid (s2'.out.below hb (by omega))
  have hb2 := hb1.trans (hb.mono (by omega))
  have hs2 := hb.size
  clear c0 c1 c2 f d0 d1 d2 g hb hb1 s1' s2' H1 H2
  go_upto_if 28 with fail
  go_cut [] (fun wx => Spot wx w.heap.size z x y ∧ Spot wx (w.heap.size + 1) u a b ∧ w.heap.size + 2 ≤ wx.heap.size ∧ Below w.heap.size w wx)
  case first =>
    by_cases he : E = 0
    · obtain ⟨A0, A1, hO, hZ⟩ := K1.out he
      have HO := Lib.hid hO
      have HZ := Lib.hid hZ
      have heb : (E == 0) = true := by rw [he]; rfl
      have hge : decide (6004799503160661 ≤ A) = false := decide_eq_false (by omega)
      clear hO hZ he
      go_wp2_with fail
      refine (HO.out _ (hq.below hb2)).mono ?_
      rintro e w3 ⟨rfl, hb⟩
      have hs3 := hb.size
      have r1 := t1.out.below hb (by omega)
      have r2 := Lib.hid (t2.out.below hb (by omega))
      have hb3 := hb2.trans (hb.mono (by omega))
      clear hb t1 t2 hb2
      go_upto_region 5 with fail
      obtain ⟨W, hW⟩ : ∃ W, w3.alloc (.cells #[.int .i64 z, .int .i64 x, .int .i64 y] 28) = W := ⟨_, rfl⟩
      have hbW : Below w3.heap.size w3 W := by rw [← hW]; exact (Below.refl _ _).alloc (Nat.le_refl _) _
      have q1 := r1.below hbW (by omega)
      have q2 := Lib.hid (r2.out.below hbW (by omega))
      have q3 : Spot W w3.heap.size z x y := by rw [← hW]; exact spot_new w3 z x y _
      have hb4 := Lib.hid (hb3.trans (hbW.mono (by omega)))
      have hs4 := hbW.size
      rw [hW]
      clear hW hbW r1 r2 hb3
      have hS0 : (fun w' => w'.cell? ⟨w.heap.size, 0, none⟩ = some (.int .i64 z) ∧ w'.cell? ⟨w.heap.size, 1, none⟩ = some (.int .i64 x) ∧ w'.cell? ⟨w.heap.size, 2, none⟩ = some (.int .i64 y) ∧ w'.cell? ⟨w3.heap.size, 0, none⟩ = some (.int .i64 z) ∧ w'.cell? ⟨w3.heap.size, 1, none⟩ = some (.int .i64 x) ∧ w'.cell? ⟨w3.heap.size, 2, none⟩ = some (.int .i64 y)) W.drew := ⟨q1.1, q1.2.1, q1.2.2.1, q3.1, q3.2.1, q3.2.2.1⟩
      have HS0 := Lib.hid hS0
      have Q1 := Lib.hid q1
      clear hS0 q1 q3
      go_region_held3 (fun w' => w'.cell? ⟨w.heap.size, 0, none⟩ = some (.int .i64 z) ∧ w'.cell? ⟨w.heap.size, 1, none⟩ = some (.int .i64 x) ∧ w'.cell? ⟨w.heap.size, 2, none⟩ = some (.int .i64 y) ∧ w'.cell? ⟨w3.heap.size, 0, none⟩ = some (.int .i64 z) ∧ w'.cell? ⟨w3.heap.size, 1, none⟩ = some (.int .i64 x) ∧ w'.cell? ⟨w3.heap.size, 2, none⟩ = some (.int .i64 y)) (first | exact HS0.out)
        (first | (go_at_call 14; refine (HZ.out _).mono ?_; rintro e w' ⟨rfl, rfl⟩))
      go_wp2_with fail
      go_meet
      case rel => exact ⟨Q1.out, q2.out, by show w.heap.size + 2 ≤ W.heap.size; omega, hb4.out.drew⟩
    · have heb : (E == 0) = false := by simpa using he
      go_wp2_with fail
      go_meet
      case rel => exact ⟨t1.out, t2.out, by omega, hb2⟩
  case rest =>
    clear t1 t2 hb2 hs hs2
    obtain ⟨q1, q2, hs, hb⟩ := hcut
    generalize wc = wa at *
    have hQ := hq.below hb
    obtain ⟨c0, c1, c2, f⟩ := q1
    obtain ⟨d0, d1, d2, g⟩ := q2
    go_upto_region 7 with fail
    go_cut [86] (fun t wx => t = .bool false ∧ wa = wx)
    case first =>
      by_cases he : E = 0
      · have heb : (E == 0) = true := by rw [he]; rfl
        by_cases hf : F = 0
        · obtain ⟨k1, k2, k3⟩ := K2.out he hf
          have hfb : (F == 0) = true := by rw [hf]; rfl
          clear K1 K2 he hf
          by_cases hAB : A = B
          · obtain ⟨rfl, rfl, rfl⟩ := k1 hAB
            subst hAB
            clear k1 k2 k3
            go_wp2_with fail
            go_meet
            case rel => exact ⟨rfl, rfl⟩
          · have nAB : (A == B) = false := by simpa using hAB
            have hlow : z < u → decide (B ≤ A) = false := fun h => decide_eq_false (by have := k3 h; omega)
            have hne : z ≠ u ∨ x ≠ a ∨ y ≠ b := by
              by_cases e1 : z = u
              · by_cases e2 : x = a
                · by_cases e3 : y = b
                  · exact absurd (k2 e1 e2 e3) hAB
                  · exact .inr (.inr e3)
                · exact .inr (.inl e2)
              · exact .inl e1
            clear k1 k2 k3 hAB
            by_cases e1 : z = u
            · subst e1
              clear hlow
              by_cases e2 : x = a
              · subst e2
                have e3 : ¬ y = b := by
                  rcases hne with h | h | h
                  · exact absurd rfl h
                  · exact absurd rfl h
                  · exact h
                clear hne
                go_wp2_with fail
                go_meet
                case rel => exact ⟨rfl, rfl⟩
              · clear hne
                go_wp2_with fail
                go_meet
                case rel => exact ⟨rfl, rfl⟩
            · clear hne
              by_cases hzu : z < u
              · have hBA := hlow hzu
                clear hlow
                go_wp2_with fail
                go_meet
                case rel => exact ⟨rfl, rfl⟩
              · have hz2 : decide (z < u) = false := decide_eq_false hzu
                clear hlow hzu
                go_wp2_with fail
                go_meet
                case rel => exact ⟨rfl, rfl⟩
        · have hfb : (F == 0) = false := by simpa using hf
          clear K1 K2 he hf
          go_wp2_with fail
          go_meet
          case rel => exact ⟨rfl, rfl⟩
      · have heb : (E == 0) = false := by simpa using he
        clear K1 K2 he
        go_wp2_with fail
        go_meet
        case rel => exact ⟨rfl, rfl⟩
    case rest =>
      obtain ⟨rfl, rfl⟩ := hcut
      clear c0 c1 c2 f d0 d1 d2 g K1 K2
      have hO := fun w hq => of_any d dd w hq
      have hZ := fun w => zoom_any d dd w
      by_cases hd : d < 6004799503160661
      · obtain ⟨o1, o2⟩ := id_ofV d dd hd
        have hI := fun w hq => id_any (ofZ d) (ofX d) (ofY d) w hq
        rw [o1, o2] at hI
        rw [show ofE d = 0 from if_pos hd] at hO
        generalize ofZ d = P at *
        generalize ofX d = Q at *
        generalize ofY d = R at *
        have HO := Lib.hid hO
        have HI := Lib.hid hI
        clear hO hI o1 o2 hZ
        go_wp2_with fail
        refine (HO.out _ hQ).mono ?_
        rintro e w3 ⟨rfl, hb3⟩
        have hs3 := hb3.size
        have hu3 := hb.trans (hb3.mono hb.size)
        have hz3 := hu3.size
        clear hb3
        go_wp2_with fail
        refine (HI.out _ (hq.below (by go_grown))).mono ?_
        rintro e w4 ⟨rfl, hb4⟩
        obtain ⟨hs4, hb4', _⟩ := kept3 hb4
        have hu4 := hu3.trans (hb4'.mono hz3)
        clear hb4 hb4' hu3
        go_wp2_with fail
        refine (awake_any _ (hq.below hu4)).mono ?_
        rintro e w5 ⟨rfl, hb5⟩
        have hu5 := hu4.trans (hb5.mono hu4.size)
        go_wp2_with fail
        go_ret
        exact ⟨rfl, hu5⟩
      · obtain ⟨o1, o2, o3, o4⟩ := of_no d hd
        rw [o1, o2, o3, o4] at hO
        rw [zofV_no d hd] at hZ
        have HO := Lib.hid hO
        have HZ := Lib.hid hZ
        clear hO hZ o1 o2 o3 o4
        go_wp2_with fail
        refine (HO.out _ hQ).mono ?_
        rintro e w3 ⟨rfl, hb3⟩
        have hs3 := hb3.size
        have hu3 := hb.trans (hb3.mono hb.size)
        have hz3 := hu3.size
        clear hb3
        go_wp2_with fail
        refine (HZ.out _).mono ?_
        rintro e w' ⟨rfl, rfl⟩
        go_wp2_with fail
        refine (awake_any _ (hq.below (by go_grown))).mono ?_
        rintro e w5 ⟨rfl, hb5⟩
        obtain ⟨hs5, hb5', _⟩ := kept3 hb5
        have hu5 := hu3.trans (hb5'.mono hz3)
        go_wp2_with fail
        go_ret
        exact ⟨rfl, hu5⟩
end Go.Proofs.YtanhoppclgeogaaDoor
