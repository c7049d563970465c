/- Headers read whole in a region that draws its order; the walk of HeaderTakes. -/
import Derived.Test.YtodjdeilaimjaaaHw
import Derived.Deep.RegionHeld3
namespace Go.Proofs.Ytodjdeilaimjaaa
open Go.RowKit
set_option linter.unusedVariables false
set_option linter.unusedSimpArgs false
theorem yieldsIf_head {ops : Array Oper} {S : World → Prop} {op : Oper} {a : Act} (hw : Region.wanted op (yielded ops a.tmps) = true) (x : Operand) (ho : op.op = .load 32 x)
    (g : Nat) (hx : a.eval x = .pointer (some ⟨g, 0, none⟩)) (T : TypeId) (h : Hd) (hS : ∀ w, S w → HAt w g T h) : YieldsIf Try.prog ops S op (.agg (cH h)) a :=
  .inl ⟨hw, fun w hw' => by
    unfold execOp
    simp only [ho, hx, Instr.loadAt, Instr.sureAddr, Sem.run_bind, Sem.run_pure, Result.andThen_ok, run_loadVar_row w g T 32 (cH h) (0, 0) _ (hS w hw') Try.underlying32 rfl head_size]⟩
theorem yieldsIf_rhead {ops : Array Oper} {S : World → Prop} {op : Oper} {a : Act} (hw : Region.wanted op (yielded ops a.tmps) = true) (x : Operand) (ho : op.op = .load 26 x)
    (g : Nat) (hx : a.eval x = .pointer (some ⟨g, 0, none⟩)) (T : TypeId) (h : Hd) (hS : ∀ w, S w → HAt w g T h) : YieldsIf Try.prog ops S op (.agg (cH h)) a :=
  .inl ⟨hw, fun w hw' => by
    unfold execOp
    simp only [ho, hx, Instr.loadAt, Instr.sureAddr, Sem.run_bind, Sem.run_pure, Result.andThen_ok, run_loadVar_row w g T 26 (cH h) (0, 0) _ (hS w hw') Try.underlying26 rfl rhead_size]⟩
theorem takeH {P : Program} {ops : Array Oper} {Q : Exit → Act → World → Prop} {md : Region.Mode} {S : World → Prop} {i d : Nat} {oi : Oper} {v : Value} {fuel : Nat} {listed : Array Bool} {a : Act} {w : World} (hi : ops[i]? = some oi) (hd : oi.dst = some d)
    (hs : Region.noSelect ops = true) (hf : Region.free md ops listed i = true) (hr : (Region.ready md ops listed).contains i = true)
    (hQ : ∀ c a w, Q (.panic c) (a.put (some d) v) w → Q (.panic c) a w) (hy : YieldsIf P ops S oi v a) (hS : S w)
    (h : wpAnyH P md ops Q S fuel (listed.setIfInBounds i true) (a.put (some d) v) w) : wpAnyH P md ops Q S (fuel + 1) listed a w :=
  wpAnyH_take hi hs hf hr (by rw [hd]; exact hQ) hy hS (by rw [hd]; exact h)
theorem keepT {w w' w1 : World} {g1 g2 : Nat} {X Y : Hd} (hb : Below w'.heap.size w' w1) (H : HAt w' g1 32 X ∧ HAt w' g2 26 Y ∧ Below w.heap.size w w') : HAt w1 g1 32 X ∧ HAt w1 g2 26 Y ∧ Below w.heap.size w w1 := ⟨H.1.later hb, H.2.1.later hb, H.2.2.trans (hb.mono H.2.2.size)⟩
theorem eqX (X : Hd) (W : World) : Sem.run Try.prog (Op.equalIn 10000 32 (.agg (cH X)) (.agg (cH X))) W = .ok true W := by
  have h := eq_head X X W
  rw [decide_eq_true rfl] at h
  exact h
set_option maxRecDepth 20000 in
set_option maxHeartbeats 4000000 in
theorem takes_walk (t : ByteArray) (w : World) (hm : t.size ≤ maxLen) (h : t.size ≤ 400) : Calls Try.prog 4 #[.string t] w fun e w' => e = .returned (.bool true) ∧ Below w.heap.size w w' := by
  have D := Lib.hid (fun W => decode_any t W hm)
  have R := Lib.hid (fun W => rdecode_any t W hm)
  obtain ⟨X, hX⟩ : ∃ X, (decH (bl t)).1 = X := ⟨_, rfl⟩
  obtain ⟨r, hr⟩ : ∃ r, (decH (bl t)).2 = r := ⟨_, rfl⟩
  rw [hX, hr] at D R
  have HO := Lib.hid (fun W => own_any X W)
  have HA := Lib.hid awake_any
  have hd : decide (400 < (t.size : Int)) = false := by simp; omega
  clear hX hr hm h
  go_enter Try.func4, Try.ntmps4
  go_wp2_with fail
  refine (D.out _).mono ?_
  rintro e w1 ⟨rfl, hb⟩
  have HB := Lib.hid hb
  have HZ := HAt.zero w1 32
  clear hb
  go_wp2_with (first | (refine store_head (by rfl) _ _ rfl _ rfl X rfl _ zeroH (by assumption) rfl ?_; intro w2 HP) | fail)
  have hb2 := HP.2.2.1 _ _ HB.out.size (HB.out.alloc HB.out.size _)
  have HB2 := Lib.hid hb2
  have H2 := HP.1
  clear HP HZ hb2 HB
  refine (R.out _).mono ?_
  rintro e w3 ⟨rfl, hb⟩
  have hb3 := HB2.out.trans (hb.mono HB2.out.size)
  have H3 := H2.later hb
  have HB3 := Lib.hid hb3
  have HH3 := Lib.hid H3
  have hl3 := H3.lt
  have HZ := HAt.zero w3 26
  clear hb hb3 HB2 H2 H3 D R
  go_upto_region 5 with (first | (refine rstore_head (by rfl) _ _ rfl _ rfl X rfl _ zeroH (by assumption) rfl ?_; intro w4 HP) | fail)
  have hb4 := HP.2.2.1 _ _ HB3.out.size (HB3.out.alloc HB3.out.size _)
  have h41 := HP.keep ((heap_alloc_old hl3).trans HH3.out) (by omega)
  have h42 := HP.1
  obtain ⟨g1, hg1⟩ : ∃ g, w1.heap.size = g := ⟨_, rfl⟩
  obtain ⟨g2, hg2⟩ : ∃ g, w3.heap.size = g := ⟨_, rfl⟩
  rw [hg1] at h41 ⊢
  rw [hg2] at h42 ⊢
  have HS0 := keepT (Below.drew (Below.refl _ _)) ⟨h41, h42, hb4⟩
  have hEq := fun W => eqX X W
  clear hb4 h41 h42 HP HB3 HH3 hl3 HZ hg1 hg2
  refine wp_region_held_drew (S := fun w' => HAt w' g1 32 X ∧ HAt w' g2 26 X ∧ Below w.heap.size w w') (by kernel_rfl) HS0 (fun hH0 => ?_)
  refine takeH (i := 0) (d := 21) rfl rfl (by kernel_rfl) (by kernel_rfl) (by kernel_rfl) (fun _ _ _ h => h) (yieldsIf_head (by rfl) _ rfl _ rfl _ _ (fun _ H => H.1)) hH0 ?_
  try simp only [Act.put, List.setIfInBounds_toArray, List.set_cons_zero, List.set_cons_succ]
  refine takeH (i := 1) (d := 22) rfl rfl (by kernel_rfl) (by kernel_rfl) (by kernel_rfl) (fun _ _ _ h => h) (yieldsIf_rhead (by rfl) _ rfl _ rfl _ _ (fun _ H => H.2.1)) hH0 ?_
  try simp only [Act.put, List.setIfInBounds_toArray, List.set_cons_zero, List.set_cons_succ]
  refine wpAnyH_ready (rs := [2]) (by kernel_rfl) (by simp) ?_
  refine AllReadyH.cons rfl (fun K hK => ?_) AllReadyH.nil
  go_simp
  refine (HO.out _).mono ?_
  rintro e w' ⟨rfl, hb⟩
  go_wp2_with fail
  refine hK.out _ _ (keepT hb hH0) (fun hH1 => ?_)
  clear hK K hb hH0
  try simp only [Act.put, List.setIfInBounds_toArray, List.set_cons_zero, List.set_cons_succ]
  refine takeH (i := 3) (d := 24) (v := ?_) rfl rfl (by kernel_rfl) (by kernel_rfl) (by kernel_rfl) (fun _ _ _ h => h) (Or.inl ⟨by rfl, ?y3⟩) hH1 ?_
  case y3 => intro w hSw; go_simp; try with_reducible rfl
  try simp only [Act.put, List.setIfInBounds_toArray, List.set_cons_zero, List.set_cons_succ]
  refine takeH (i := 4) (d := 25) (v := ?_) rfl rfl (by kernel_rfl) (by kernel_rfl) (by kernel_rfl) (fun _ _ _ h => h) (Or.inl ⟨by rfl, ?y4⟩) hH1 ?_
  case y4 => intro w hSw; go_simp; try with_reducible rfl
  try simp only [Act.put, List.setIfInBounds_toArray, List.set_cons_zero, List.set_cons_succ]
  refine takeH (i := 5) (d := 26) (v := ?_) rfl rfl (by kernel_rfl) (by kernel_rfl) (by kernel_rfl) (fun _ _ _ h => h) (Or.inl ⟨by rfl, ?y5⟩) hH1 ?_
  case y5 => intro w hSw; go_simp; try with_reducible rfl
  try simp only [Act.put, List.setIfInBounds_toArray, List.set_cons_zero, List.set_cons_succ]
  refine takeH (i := 6) (d := 27) (v := ?_) rfl rfl (by kernel_rfl) (by kernel_rfl) (by kernel_rfl) (fun _ _ _ h => h) (Or.inl ⟨by rfl, ?y6⟩) hH1 ?_
  case y6 => intro w hSw; go_simp; try with_reducible rfl
  try simp only [Act.put, List.setIfInBounds_toArray, List.set_cons_zero, List.set_cons_succ]
  refine takeH (i := 7) (d := 28) (v := ?_) rfl rfl (by kernel_rfl) (by kernel_rfl) (by kernel_rfl) (fun _ _ _ h => h) (Or.inl ⟨by rfl, ?y7⟩) hH1 ?_
  case y7 => intro w hSw; go_simp; try with_reducible rfl
  try simp only [Act.put, List.setIfInBounds_toArray, List.set_cons_zero, List.set_cons_succ]
  refine takeH (i := 8) (d := 29) (v := ?_) rfl rfl (by kernel_rfl) (by kernel_rfl) (by kernel_rfl) (fun _ _ _ h => h) (Or.inl ⟨by rfl, ?y8⟩) hH1 ?_
  case y8 => intro w hSw; go_simp; try with_reducible rfl
  try simp only [Act.put, List.setIfInBounds_toArray, List.set_cons_zero, List.set_cons_succ]
  refine takeH (i := 9) (d := 30) (v := ?_) rfl rfl (by kernel_rfl) (by kernel_rfl) (by kernel_rfl) (fun _ _ _ h => h) (Or.inl ⟨by rfl, ?y9⟩) hH1 ?_
  case y9 => intro w hSw; go_simp; try with_reducible rfl
  try simp only [Act.put, List.setIfInBounds_toArray, List.set_cons_zero, List.set_cons_succ]
  refine wpAnyH_ready (rs := [10]) (by kernel_rfl) (by simp) ?_
  refine AllReadyH.cons rfl (fun K hK => ?_) AllReadyH.nil
  go_simp
  refine (HA.out _).mono ?_
  rintro e w' ⟨rfl, hb⟩
  go_wp2_with fail
  refine hK.out _ _ (keepT hb hH1) (fun hH2 => ?_)
  clear hK K hb hH1
  try simp only [Act.put, List.setIfInBounds_toArray, List.set_cons_zero, List.set_cons_succ]
  refine takeH (i := 11) (d := 32) (v := ?_) rfl rfl (by kernel_rfl) (by kernel_rfl) (by kernel_rfl) (fun _ _ _ h => h) (Or.inl ⟨by rfl, ?y11⟩) hH2 ?_
  case y11 => intro w hSw; go_simp; try with_reducible rfl
  try simp only [Act.put, List.setIfInBounds_toArray, List.set_cons_zero, List.set_cons_succ]
  refine takeH (i := 12) (d := 2) (v := ?_) rfl rfl (by kernel_rfl) (by kernel_rfl) (by kernel_rfl) (fun _ _ _ h => h) (Or.inl ⟨by rfl, ?y12⟩) hH2 ?_
  case y12 => intro w hSw; go_simp; try with_reducible rfl
  try simp only [Act.put, List.setIfInBounds_toArray, List.set_cons_zero, List.set_cons_succ]
  refine wpAnyH_done (by kernel_rfl) ?_ _
  go_wp2_with fail
  go_ret
  exact ⟨rfl, hH2.2.2⟩
theorem takes_long (t : ByteArray) (w : World) (h : 400 < t.size) : Calls Try.prog 4 #[.string t] w fun e w' => e = .returned (.bool true) ∧ Below w.heap.size w w' := by
  have hd : decide (400 < (t.size : Int)) = true := by simp; omega
  go_enter Try.func4, Try.ntmps4
  go_wp2_with fail
  refine (awake_any _).mono ?_
  rintro e w1 ⟨rfl, hb⟩
  go_wp2_with fail
  go_ret
  exact ⟨rfl, hb⟩
theorem takes_all (t : ByteArray) (w : World) (hm : t.size ≤ maxLen) : Calls Try.prog 4 #[.string t] w fun e w' => e = .returned (.bool true) ∧ Below w.heap.size w w' := by
  by_cases h : 400 < t.size
  · exact takes_long t w h
  · exact takes_walk t w hm (by omega)
end Go.Proofs.Ytodjdeilaimjaaa
