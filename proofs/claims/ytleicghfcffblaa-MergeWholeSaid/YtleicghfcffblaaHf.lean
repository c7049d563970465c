/- Put. -/
import Derived.Test.YtleicghfcffblaaHe
namespace Go.Proofs.Ytleicghfcffblaa
open Go.RowKit
set_option maxRecDepth 20000
set_option linter.unusedVariables false
set_option linter.unusedSimpArgs false
def PutEnd (l : List It) (id : Nat) (t : ByteArray) (w : World) (e : Ending) (w' : World) : Prop := ∃ s', e = .returned (.tuple #[.agg #[s'], .int .i64 (putE l id t : Nat)]) ∧ ChS w' s' (putL l id t) ∧ Below w.heap.size w w'
/-- What stands in a call of Put: the chart's box, the result's, the item. -/
structure PutS (w W : World) (s : Value) (id : Nat) (t : ByteArray) : Prop where
  box : One W w.heap.size s
  res : One W (w.heap.size + 1) (.slice none 0 0)
  itm : Two W (w.heap.size + 2) (.int .u64 id) (.string t)
  bel : Below w.heap.size w W
theorem One.lower {w w' : World} {B g : Nat} {x : Value} (h : One w g x) (hb : Below B w w') (hg : g < B) : One w' g x := by
  obtain ⟨T, h⟩ := h
  exact ⟨T, (hb.block g hg).trans h⟩
theorem PutS.below {w W W' : World} {s : Value} {id : Nat} {t : ByteArray} (h : PutS w W s id t) (hb : Below W.heap.size W W') : PutS w W' s id t :=
  ⟨h.box.below hb, h.res.below hb, h.itm.below hb, h.bel.trans (hb.mono h.bel.size)⟩
theorem PutS.lower {w W W' : World} {s : Value} {id : Nat} {t : ByteArray} {B : Nat} (h : PutS w W s id t) (hb : Below B W W') (hB : w.heap.size + 2 < B) : PutS w W' s id t :=
  ⟨h.box.lower hb (by omega), h.res.lower hb (by omega), h.itm.lower hb hB, h.bel.trans (hb.mono (by omega))⟩
theorem put_start (w : World) (s : Value) (id : Nat) (t : ByteArray) : PutS w (((w.alloc (.cells #[s] 27)).alloc (.cells #[.slice none 0 0] 27)).alloc (.cells #[.int .u64 id, .string t] 58)) s id t := by
  have h1 := one_new w s 27
  have h2 := one_new (w.alloc (.cells #[s] 27)) (.slice none 0 0) 27
  have h3 := two_new ((w.alloc (.cells #[s] 27)).alloc (.cells #[.slice none 0 0] 27)) (.int .u64 id) (.string t) 58
  simp only [World.size_alloc] at h2 h3
  exact ⟨(h1.alloc _).alloc _, h2.alloc _, h3, by go_grown⟩
theorem PutS.room {w W : World} {s : Value} {id : Nat} {t : ByteArray} (h : PutS w W s id t) : w.heap.size + 2 < W.heap.size := h.itm.lt
set_option maxHeartbeats 1000000 in
theorem put_no_any (s : Value) (l : List It) (id : Nat) (t : ByteArray) (w : World) (h : ChS w s l) (hid : id < 18446744073709551616) (ht : t.size ≤ maxLen) (h0 : putE l id t ≠ 0) :
    Calls Try.prog 32 #[.agg #[s], .int .u64 id, .string t] w (PutEnd l id t w) := by
  have HP := Lib.hid (fun W (hb : Below w.heap.size w W) => place_any s l id W (h.below hb))
  have HK := Lib.hid (fun W (hb : Below w.heap.size w W) => check_any s l id t W (h.below hb) ht)
  have hne : ((putE l id t : Nat) : Int) ≠ 0 := by omega
  have hbn : (((putE l id t : Nat) : Int) != 0) = true := by simpa using hne
  have hpl : putL l id t = l := by unfold putL; rw [if_neg h0]
  unfold PutEnd
  rw [hpl]
  have HS := Lib.hid h
  obtain ⟨a, n, c, rfl⟩ := h.form
  have HST := Lib.hid (put_start w (.slice a n c) id t)
  clear h hpl h0 hne
  generalize (getI id l).isSome = b at *
  generalize putE l id t = z at *
  go_enter Try.func32, Try.ntmps32
  go_wp2_with fail
  refine (HP.out _ (by go_grown)).mono ?_
  rintro e w1 ⟨rfl, hb⟩
  have H1 := Lib.hid (HST.out.below hb)
  have k0 := H1.out.box.cell
  obtain ⟨k1, k2, _, _⟩ := H1.out.itm
  clear hb
  go_wp2_with fail
  refine (HK.out _ H1.out.bel).mono ?_
  rintro e w2 ⟨rfl, hb⟩
  have H2 := Lib.hid (H1.out.below hb)
  clear hb k0 k1 k2
  have k0 := H2.out.box.cell
  have r0 := H2.out.res.cell
  have r1 := H2.out.res.frz
  go_wp2_with fail
  refine bodyPost_ret (results_o2 rfl _ _ (w.heap.size + 1) _ _ _ rfl rfl (H2.out.res.set _).cell Try.underlying27 rfl chart_size) rfl ⟨_, rfl, ?_, H2.out.bel.setCell (p := ⟨w.heap.size + 1, 0, none⟩) (Nat.le_succ _) _⟩
  exact (HS.out.below H2.out.bel).set H2.out.res _
theorem ItsAt.pre3 {w : World} {a : Option Addr} {n cap : Nat} {l : List It} (h : ItsAt w (.slice a n cap) l) (k : Nat) (hk : k ≤ l.length) : ItsAt w (.slice a k k) (l.take k) := by
  obtain ⟨a', cap', e, h1, h2, hc⟩ := h
  cases e
  have e2 : (l.take k).length = k := by rw [List.length_take]; omega
  refine ⟨_, k, by rw [e2], by omega, by omega, fun j t ht => hc j t ?_⟩
  rw [List.getElem?_take] at ht
  split at ht
  · exact ht
  · cases ht
theorem ItsAt.post {w : World} {g off n cap : Nat} {l : List It} (h : ItsAt w (.slice (some ⟨g, off, none⟩) n cap) l) (k : Nat) (hk : k ≤ l.length) : ItsAt w (.slice (some ⟨g, off + k * 2, none⟩) (l.length - k) (cap - k)) (l.drop k) := by
  obtain ⟨a, cap', e, h1, h2, hc⟩ := h
  cases e
  refine ⟨_, cap - k, by rw [List.length_drop], by rw [List.length_drop]; omega, by omega, fun j t ht => ?_⟩
  rw [List.getElem?_drop] at ht
  obtain ⟨g', off', e, hg, c0, c1⟩ := hc (k + j) t ht
  cases e
  refine ⟨g, off + k * 2, rfl, hg, ?_, ?_⟩
  · rw [show off + k * 2 + j * 2 = off + (k + j) * 2 by omega]; exact c0
  · rw [show off + k * 2 + j * 2 + 1 = off + (k + j) * 2 + 1 by omega]; exact c1
theorem ItsAt.cut {w : World} {ad : Addr} {n cap : Nat} {l : List It} (h : ItsAt w (.slice (some ad) n cap) l) (k : Nat) (hk : k ≤ l.length) : ItsAt w (.slice (some (ad.add (k * 2))) (l.length - k) (cap - k)) (l.drop k) := by
  obtain ⟨a', cap', e, h1, h2, hc⟩ := h
  cases e
  refine ⟨_, cap - k, by rw [List.length_drop], by rw [List.length_drop]; omega, by omega, fun j t ht => ?_⟩
  rw [List.getElem?_drop] at ht
  obtain ⟨g', off', e, hg, c0, c1⟩ := hc (k + j) t ht
  cases e
  refine ⟨g', off' + k * 2, by simp [Addr.add], hg, ?_, ?_⟩
  · rw [show off' + k * 2 + j * 2 = off' + (k + j) * 2 by omega]; exact c0
  · rw [show off' + k * 2 + j * 2 + 1 = off' + (k + j) * 2 + 1 by omega]; exact c1
theorem its_none {w : World} (a : Option Addr) : ItsAt w (.slice a 0 0) [] := ⟨a, 0, rfl, Nat.le_refl _, by unfold maxLen; omega, fun k t h => by simp at h⟩
theorem put_split {id : Nat} {t : ByteArray} {l : List It} (hr : Rise l) (b : Bool) (hb : (getI id l).isSome = b) : putI id t l = (l.take (loC id l) ++ [(id, t)]) ++ l.drop (if b then loC id l + 1 else loC id l) := by
  cases b with
  | false => rw [put_no hb]; simp
  | true =>
    have h := isC (id := id) hr
    rw [hb] at h
    obtain ⟨u, hu, he⟩ := of_decide_eq_true h.symm
    rw [put_yes hr u hu he]; simp
theorem is_lt {id : Nat} {l : List It} (hr : Rise l) (hb : (getI id l).isSome = true) : loC id l < l.length := by
  have h := isC (id := id) hr
  rw [hb] at h
  obtain ⟨u, hu, he⟩ := of_decide_eq_true h.symm
  exact (List.getElem?_eq_some_iff.1 hu).1
/-- The append of the new item. -/
theorem put_app (W : World) (a : Option Addr) (i : Nat) (L : List It) (hL : L.length = i) (hl : i ≤ 5000) (id : Nat) (t : ByteArray) (hv : ItsAt W (.slice a i i) L) :
    ∃ v' w', (Builtin.append_ #[25, 25] 25 #[.slice a i i, .slice (some ⟨W.heap.size, 0, none⟩) 1 1]).run Try.prog (W.alloc (.cells #[.int .u64 id, .string t] 58)) = .ok v' w' ∧ OwnIt w' (W.heap.size + 1) 58 v' (L ++ [(id, t)]) ∧ Below W.heap.size W w' := by
  have hx := it_lit W id t 58
  obtain ⟨v', w', h1, h2, h3⟩ := itgrow_run (W.alloc (.cells #[.int .u64 id, .string t] 58)) 25 a i i (.slice (some ⟨W.heap.size, 0, none⟩) 1 1) L [(id, t)] (hv.below (below_oneC _ _)) hx (by simp; omega) (by simp; omega)
  rw [World.size_alloc] at h2 h3
  exact ⟨v', w', h1, h2, (below_oneC _ _).trans (h3.mono (Nat.le_succ _))⟩
/-- An append whose run is known, as one step of a region that draws. -/
theorem step_append_run {ops : Array Oper} {o : Oper} {a : Act} {w : World} {K : Act → World → Prop} {Q : Exit → Act → World → Prop} {E : Prop}
    (hg : o.guard = none) (s x : Operand) (tA tB : TypeId) (hop : o.op = Op.call { callee := Callee.builtin Builtin.append, args := #[s, x], argTypes := #[tA, tB] })
    (v u : Value) (hs : a.eval s = v) (hx : a.eval x = u) {v' : Value} {w' : World} (hr : (Builtin.append_ #[tA, tB] o.type #[v, u]).run Try.prog w = .ok v' w') (hK : K (a.put o.dst v') w') :
    if Region.wanted o (yielded ops a.tmps) = true then Oper.wp Try.prog o a w K Q else E := by
  have hw : Region.wanted o (yielded ops a.tmps) = true := by simp [Region.wanted, hg]
  rw [if_pos hw]
  unfold Oper.wp
  simp [execOp, hop, resolve, invoke, builtin, hs, hx, hr, Result.andThen]
  exact hK
set_option maxHeartbeats 2000000 in
theorem put_yes_any (s : Value) (l : List It) (id : Nat) (t : ByteArray) (w : World) (h : ChS w s l) (hid : id < 18446744073709551616) (ht : t.size ≤ maxLen) (h0 : putE l id t = 0) :
    Calls Try.prog 32 #[.agg #[s], .int .u64 id, .string t] w (PutEnd l id t w) := by
  have HP := Lib.hid (fun W (hb : Below w.heap.size w W) => place_any s l id W (h.below hb))
  have HK := Lib.hid (fun W (hb : Below w.heap.size w W) => check_any s l id t W (h.below hb) ht)
  have hts : t.size ≤ 65536 := by
    unfold putE at h0
    by_cases h1 : 6004799503160661 ≤ id
    · rw [if_pos h1] at h0; cases h0
    rw [if_neg h1] at h0
    by_cases h2 : t.size = 0
    · omega
    rw [if_neg h2] at h0
    by_cases h3 : 65536 < t.size
    · rw [if_pos h3] at h0; cases h0
    omega
  have HKE := Lib.hid (fun W => kept_any id t W (by omega))
  have hpl : putL l id t = putI id t l := by unfold putL; rw [if_pos h0]
  have HG := Lib.hid (good_put (id := id) (s := t) h.good)
  obtain ⟨b, hb⟩ : ∃ b, (getI id l).isSome = b := ⟨_, rfl⟩
  have HPS := Lib.hid (put_split (t := t) h.good.rise b hb)
  have HLT := Lib.hid (fun (e : b = true) => is_lt (id := id) h.good.rise (by rw [hb, e]))
  have hle := loC_le id l
  rw [hb] at HP HK
  rw [h0] at HK
  unfold PutEnd
  rw [h0]
  rw [hpl] at HG ⊢
  rw [HPS.out] at HG ⊢
  generalize loC id l = i at *
  obtain ⟨a, cap, rfl, hcap, hmx, hc⟩ := h.its
  have HV := Lib.hid h.its
  have hfew := h.good.few
  have HST := Lib.hid (put_start w (.slice a l.length cap) id t)
  unfold maxLen at hmx
  clear h hpl h0 hb hc HPS
  obtain ⟨M, hM⟩ : ∃ M, (l.take i ++ [(id, t)]) ++ l.drop (if b = true then i + 1 else i) = M := ⟨_, rfl⟩
  rw [hM] at HG ⊢
  have HM := Lib.hid hM
  clear hM
  go_enter Try.func32, Try.ntmps32
  go_wp2_with fail
  refine (HP.out _ (by go_grown)).mono ?_
  rintro e w1 ⟨rfl, hb⟩
  have H1 := Lib.hid (HST.out.below hb)
  have k0 := H1.out.box.cell
  obtain ⟨k1, k2, _, _⟩ := H1.out.itm
  clear hb
  go_wp2_with fail
  refine (HK.out _ H1.out.bel).mono ?_
  rintro e w2 ⟨rfl, hb⟩
  have H2 := Lib.hid (H1.out.below hb)
  have HV2 := Lib.hid (HV.out.below H2.out.bel)
  clear hb k0 k1 k2 HP HK H1 HST
  have k0 := H2.out.box.cell
  have hi : (i : Int) ≤ (l.length : Int) := by omega
  have hi2 : (i : Int) ≤ (cap : Int) := by omega
  go_upto_region 6 with fail
  go_cut [12] (fun q wx => ItsAt wx q (l.drop i) ∧ wx = w2)
  case first =>
    cases a with
    | none =>
      have hl0 : l = [] := by
        obtain ⟨_, _, e, _, _, hc⟩ := HV.out
        cases l with
        | nil => rfl
        | cons t l => obtain ⟨g, off, ha, _⟩ := hc 0 t rfl; cases e; cases ha
      subst hl0
      obtain rfl : i = 0 := by simpa using hle
      go_wp2_with fail
      go_meet
      case rel => exact ⟨HV2.out, rfl⟩
    | some ad =>
      by_cases hci : cap = i
      · subst hci
        obtain rfl : cap = l.length := by omega
        go_wp2_with fail
        go_meet
        case rel => exact ⟨by rw [List.drop_length]; exact its_none _, rfl⟩
      · go_wp2_with fail
        go_meet
        case rel => exact ⟨HV2.out.cut i hle, rfl⟩
  case rest =>
    obtain ⟨hq, rfl⟩ := hcut
    generalize wc = w2 at *
    have HQ := Lib.hid hq
    obtain ⟨aq, cq, rfl, hcq, hmq, hcc⟩ := hq
    rw [List.length_drop] at *
    go_upto_if 35 with fail
    go_cut [12] (fun q wx => ItsAt wx q (l.drop (if b then i + 1 else i)) ∧ wx = w2)
    case first =>
      cases b with
      | false =>
        clear hcc
        go_wp2_with fail
        go_meet
        case rel => exact ⟨HQ.out, rfl⟩
      | true =>
        have hlt := HLT.out rfl
        obtain ⟨g, off, rfl, _⟩ := hcc 0 (l[i]) (by simp)
        clear hcc
        by_cases hc1 : cq = 1
        · subst hc1
          have hll : l.length - i = 1 := by omega
          have hdd : l.drop (i + 1) = [] := List.drop_of_length_le (by omega)
          rw [hll] at *
          go_wp2_with fail
          go_meet
          case rel => exact ⟨by simp only [if_pos, hdd]; exact its_none _, rfl⟩
        · have hd := HQ.out.cut 1 (by rw [List.length_drop]; omega)
          rw [List.drop_drop, List.length_drop] at hd
          have HD := Lib.hid hd
          have h1l : (1 : Int) ≤ ((l.length - i : Nat) : Int) := by omega
          clear hd
          go_wp2_with fail
          go_meet
          case rel => exact ⟨HD.out, rfl⟩
    case rest =>
      obtain ⟨hq2, rfl⟩ := hcut
      generalize wc = w2 at *
      have HQ2 := Lib.hid hq2
      obtain ⟨aq2, cq2, rfl, _, _, _⟩ := hq2
      have HA := Lib.hid (fun X (hX : Below w2.heap.size w2 X) => put_app X a i (l.take i) (by rw [List.length_take]; omega) (by omega) id t ((HV2.out.pre3 i hle).below hX))
      obtain ⟨k1, k2, _, _⟩ := H2.out.itm
      clear hcc HLT HQ
      generalize (l.drop (if b = true then i + 1 else i)).length = n2 at *
      go_upto_region 9 with fail
      go_cut [13] (fun q wx => OwnIt wx (w2.heap.size + 1) 58 q (l.take i ++ [(id, t)]) ∧ Below w2.heap.size w2 wx)
      case first =>
        go_region_law (first | (refine step_append_run rfl (.tmp 42) (.tmp 45) 25 25 rfl (.slice a i i) (.slice (some ⟨w3.heap.size, 0, none⟩) 1 1) (by simp [Act.eval, Act.put]) (by simp [Act.eval, Act.put]) hr ?_) | (go_simp; go_at_call 55; refine (HKE.out _).mono ?_; rintro e w3 ⟨rfl, hb⟩; have hb3 : Below w2.heap.size w2 w3 := (by go_grown : Below w2.heap.size w2 _).trans (hb.mono (by simp)); obtain ⟨v', w4, hr, ho, hb4⟩ := HA.out w3 hb3; have k3 := (H2.out.below hb3).box.cell; have k4 : ∀ O, (w3.alloc O).cell? ⟨w.heap.size, 0, none⟩ = _ := fun O => ((H2.out.below hb3).box.alloc O).cell))
        all_goals
          go_wp2_with fail
          go_meet
          case rel => exact ⟨ho.mono (by have := hb3.size; omega), hb3.trans (hb4.mono hb3.size)⟩
      case rest =>
        obtain ⟨ho, hb4⟩ := hcut
        generalize wc = w4 at *
        have hsz : w2.heap.size + 1 < w4.heap.size := by
          rcases ho.form with ⟨_, h⟩ | ⟨g, cp, _, h1, h2, _⟩
          · simp at h
          · omega
        have hlen : (l.take i ++ [(id, t)]).length + (l.drop (if b = true then i + 1 else i)).length ≤ 1000000 := by
          rw [List.length_append, List.length_take, List.length_drop]; simp; omega
        obtain ⟨v5, w5, hr5, ho5, hg5⟩ := itappend_run w4 (w2.heap.size + 1) 25 58 25 _ Try.underlying25 infoPit rfl u13 (.slice aq2 n2 cq2) _ _ ho (HQ2.out.below hb4) hlen (by omega)
        have hb5 : Below (w2.heap.size + 1) w4 w5 := (Below.refl _ _).grown hg5 (by omega) (fun k hk => (ho.lt k hk).1)
        have H5 := Lib.hid ((H2.out.below hb4).lower hb5 (by have := H2.out.room; omega))
        have HO5 := Lib.hid ho5
        obtain ⟨a5, n5, c5, rfl⟩ : ∃ a n c, v5 = .slice a n c := by obtain ⟨_, _, e⟩ := ho5.slice; exact ⟨_, _, _, e⟩
        have r0 := H5.out.res.cell
        have r1 := H5.out.res.frz
        clear ho hb4 hg5 hb5 ho5 hlen k0 k1 k2 HA HQ2 H2
        go_wp2_with (first | (at_builtin; refine Lib.wpList_append_run _ rfl _ _ _ _ rfl _ _ rfl rfl _ _ hr5 ?_) | fail)
        refine bodyPost_ret (results_o2 rfl _ _ (w.heap.size + 1) _ _ _ rfl rfl (H5.out.res.set _).cell Try.underlying27 rfl chart_size) rfl ⟨_, rfl, ⟨by rw [← HM.out]; exact HO5.out.itsAt.set H5.out.res _, HG.out⟩, H5.out.bel.setCell (p := ⟨w.heap.size + 1, 0, none⟩) (Nat.le_succ _) _⟩
theorem put_any (s : Value) (l : List It) (id : Nat) (t : ByteArray) (w : World) (h : ChS w s l) (hid : id < 18446744073709551616) (ht : t.size ≤ maxLen) :
    Calls Try.prog 32 #[.agg #[s], .int .u64 id, .string t] w fun e w' => ∃ s', e = .returned (.tuple #[.agg #[s'], .int .i64 (putE l id t : Nat)]) ∧ ChS w' s' (putL l id t) ∧ Below w.heap.size w w' := by
  by_cases h0 : putE l id t = 0
  · exact put_yes_any s l id t w h hid ht h0
  · exact put_no_any s l id t w h hid ht h0
end Go.Proofs.Ytleicghfcffblaa
