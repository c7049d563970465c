/- lay. -/
import Derived.Test.YtleicghfcffblaaMT
import Derived.Carry
namespace Go.Proofs.Ytleicghfcffblaa
open Go.RowKit
set_option maxRecDepth 20000
set_option linter.unusedVariables false
set_option linter.unusedSimpArgs false
theorem map_none_eq (w : World) : (Op.equal 113 (.map none) (.map none)).run Try.prog w = .ok true w := by
  rw [Op.equal, show Op.maxDepth = 9999 + 1 from rfl]
  unfold Op.equalIn
  simp [go_sem]
theorem map_none_eql (w : World) : (binOp BinOp.eql 113 (.map none) (.map none)).run Try.prog w = .ok (.bool true) w := by
  simp [binOp, go_sem, map_none_eq]
theorem map_some_eq (mb : Nat) (w : World) : (Op.equal 113 (.map (some mb)) (.map none)).run Try.prog w = .ok false w := by
  rw [Op.equal, show Op.maxDepth = 9999 + 1 from rfl]
  unfold Op.equalIn
  simp [go_sem]
theorem map_some_eql (mb : Nat) (w : World) : (binOp BinOp.eql 113 (.map (some mb)) (.map none)).run Try.prog w = .ok (.bool false) w := by
  simp [binOp, go_sem, map_some_eq]
theorem below_one (w : World) (o : Obj) : Below w.heap.size w (w.alloc o) := (Below.refl _ _).alloc (Nat.le_refl _) o
theorem mid_old {w w3 : World} {pb mb : Nat} {va : Value} {G : Int → Value} {l : List ByteArray} {s : ByteArray} (hP : PoolAt w pb va (.map (some mb)) G l) (h3 : PoolAt w3 pb va (.map (some mb)) G l) (ht : Two w3 w.heap.size (.int .u64 0) (.int .u32 0)) (hb : Below w.heap.size w w3) (T : TypeId) :
    MidL w (w3.alloc (.cells #[.int .u64 (totF l : Nat), .int .u32 s.size, .string s] T)) pb w.heap.size w3.heap.size mb va (.map (some mb)) G l s := by
  have h4 := h3.below (below_one w3 (.cells #[.int .u64 (totF l : Nat), .int .u32 s.size, .string s] T))
  have hr := ht.lt
  refine ⟨h4.two, h4.all, ?_, h4.grps, three_new w3 (totF l, s) T, ht.alloc _, Nat.le_refl _, by omega, by omega, h4.n5 mb rfl, .inl rfl, fun g hg => (hP.all.lt g hg).2, fun k g hg => ((hP.grps k).lt g hg).2, Kept.below _ (hb.alloc hb.size _)⟩
  rcases h4.map with ⟨e, _⟩ | ⟨m, e, hm⟩
  · cases e
  · cases e; exact hm
theorem mid_new {w w3 : World} {pb : Nat} {va : Value} {G : Int → Value} {s : ByteArray} (hP : PoolAt w pb va (.map none) G []) (hG : ∀ k, G k = nilS) (h3 : PoolAt w3 pb va (.map none) G []) (ht : Two w3 w.heap.size (.int .u64 0) (.int .u32 0)) (hb : Below w.heap.size w w3) (T : TypeId) :
    MidL w (((w3.setCell ⟨pb, 1, none⟩ (.map (some (w3.heap.size + 1)))).alloc (.cells #[.int .u64 (totF [] : Nat), .int .u32 s.size, .string s] T)).alloc (.map #[] 0)) pb w.heap.size w3.heap.size (w3.heap.size + 1) va (.map none) G [] s := by
  have hr := ht.lt
  have hpw := hP.two.lt
  have hp3 := h3.two.lt
  have hsz : (w3.setCell ⟨pb, 1, none⟩ (.map (some (w3.heap.size + 1)))).heap.size = w3.heap.size := by simp
  have h2 : Two (w3.setCell ⟨pb, 1, none⟩ (.map (some (w3.heap.size + 1)))) pb va (.map (some (w3.heap.size + 1))) := by
    refine ⟨?_, World.cell?_setCell_same _ _ _ h3.two.2.1, by simpa using h3.two.2.2.1, by simpa using h3.two.2.2.2⟩
    rw [World.cell?_setCell_other (h := by simp)]; exact h3.two.1
  have es : ∀ b, b ≠ pb → (w3.setCell ⟨pb, 1, none⟩ (.map (some (w3.heap.size + 1)))).heap[b]? = w3.heap[b]? := fun b hn => Below.heap_setCell _ _ _ _ (by simpa using hn)
  have ha : OwnK (w3.setCell ⟨pb, 1, none⟩ (.map (some (w3.heap.size + 1)))) 0 va (plc [] 0) := h3.all.keep (fun k hk => es k (fun e => h3.n1 (by rw [hk, e])))
  have hg : ∀ k, OwnK (w3.setCell ⟨pb, 1, none⟩ (.map (some (w3.heap.size + 1)))) 0 (G k) (grp k (plc [] 0)) := fun k => (h3.grps k).keep (fun j hj => es j (fun e => h3.n2 k (by rw [hj, e])))
  have hrs : Two (w3.setCell ⟨pb, 1, none⟩ (.map (some (w3.heap.size + 1)))) w.heap.size (.int .u64 0) (.int .u32 0) := ht.keep (es _ (by omega))
  have hkp : Kept (blkS pb va (.map none) G) (blkS pb va (.map none) G) w (w3.setCell ⟨pb, 1, none⟩ (.map (some (w3.heap.size + 1)))) := (Kept.below _ hb).trans (kept_set _ _ _ _ (.inl rfl))
  generalize hv : Value.map (some (w3.heap.size + 1)) = mv at *
  generalize hw : w3.setCell ⟨pb, 1, none⟩ mv = W3 at *
  have b1 := below_one W3 (.cells #[.int .u64 (totF [] : Nat), .int .u32 s.size, .string s] T)
  have b2 := below_one (W3.alloc (.cells #[.int .u64 (totF [] : Nat), .int .u32 s.size, .string s] T)) (.map #[] 0)
  have hm := MapG.made (W3.alloc (.cells #[.int .u64 (totF [] : Nat), .int .u32 s.size, .string s] T))
  have hk := (three_new W3 (totF [], s) T).below b2
  have hG' : G = fun _ => nilS := funext hG
  rw [hsz] at hk
  refine ⟨?_, (ha.below b1).below b2, ?_, fun k => ((hg k).below b1).below b2, hk, (hrs.alloc _).alloc _, Nat.le_refl _, by omega, by omega, by omega, .inr (by omega), fun g hg => (hP.all.lt g hg).2, fun k g hg => ((hP.grps k).lt g hg).2, ?_⟩
  · rw [hv]; exact (h2.alloc _).alloc _
  · rw [hG']
    have e : (W3.alloc (.cells #[.int .u64 (totF [] : Nat), .int .u32 s.size, .string s] T)).heap.size = w3.heap.size + 1 := by simp [hsz]
    rw [e] at hm
    exact hm
  · exact (hkp.trans (Kept.below _ b1)).trans (Kept.below _ b2)
set_option maxRecDepth 20000 in
set_option maxHeartbeats 2000000 in
theorem lay_any (w : World) (pb : Nat) (va vm : Value) (G : Int → Value) (l : List ByteArray) (h : PoolAt w pb va vm G l) (s : ByteArray) (hg : GoodP (l ++ [s])) :
    Calls Try.prog 61 #[.pointer (some ⟨pb, 0, none⟩), .int .i64 (bkt s), .string s] w fun e w' => e = .returned (.agg #[.int .u64 (totF l : Nat), .int .u32 s.size]) ∧ ∃ va' vm' G', PoolAt w' pb va' vm' G' (l ++ [s]) ∧ Kept (blkS pb va vm G) (blkS pb va' vm' G') w w' := by
  have hss : s.size ≤ 65536 := hg.short s (by simp)
  have hwf : (Lit.int .i64 (bkt s)).wf = true := by have := bkt_range s; exact wf_i64 (by omega) (by omega)
  have hll : l.length ≤ 2047 := by have := hg.few; simp at this; omega
  have hB0 : Below w.heap.size w (w.alloc (.cells #[.int .u64 0, .int .u32 0] 77)) := (Below.refl _ _).alloc (Nat.le_refl _) _
  have hP1 := h.below hB0
  have ht2 := two_new w (.int .u64 0) (.int .u32 0) 77
  have HE := Lib.hid (end_any _ pb va vm G l hP1)
  have HC := Lib.hid (fun W => sclone_any s W (by omega))
  have hw1 : IntKind.u32.wrap (s.size : Int) = (s.size : Int) := by rw [IntKind.wrap_u32]; omega
  have HP := Lib.hid h
  have HP1 := Lib.hid (And.intro hP1 (And.intro ht2 hB0))
  have hpm := h.map
  have hpl := h.two.lt
  clear h hP1 ht2 hB0
  go_enter Try.func61, Try.ntmps61
  go_wp2_with fail
  generalize hW1 : w.alloc (.cells #[.int .u64 0, .int .u32 0] 77) = W1 at *
  have hWs : W1.heap.size = w.heap.size + 1 := by rw [← hW1]; simp
  refine HE.out.mono ?_
  rintro e w2 ⟨rfl, hb2⟩
  have HB2 := Lib.hid hb2
  clear hb2 HE
  go_wp2_with fail
  refine (HC.out _).mono ?_
  rintro e w3 ⟨rfl, hb3⟩
  have hb13 := HB2.out.trans (hb3.mono HB2.out.size)
  have hp3 := HP1.out.1.below hb13
  have HR3 := Lib.hid (And.intro hp3 (And.intro (HP1.out.2.1.below hb13) (HP1.out.2.2.trans (hb13.mono HP1.out.2.2.size))))
  obtain ⟨c0, c1, c2, c3⟩ := hp3.two
  have hpl3 := hp3.two.lt
  have hne3 : pb ≠ w3.heap.size := by omega
  clear hb3 HB2 HC hp3 hb13
  obtain ⟨om, rfl⟩ : ∃ om, vm = .map om := by
    rcases hpm with ⟨e, _⟩ | ⟨mb, e, _⟩
    · exact ⟨_, e⟩
    · exact ⟨_, e⟩
  obtain ⟨nb, q1, hy, hn⟩ : ∃ nb : Bool, (∀ W, (binOp BinOp.eql 113 (.map om) (.map none)).run Try.prog W = .ok (.bool nb) W) ∧ (nb = true → om = none ∧ l = [] ∧ ∀ k, G k = nilS) ∧ (nb = false → ∃ mb, om = some mb) := by
    rcases hpm with ⟨e, e2, hG⟩ | ⟨mb, e, hm⟩
    · cases e
      exact ⟨true, fun W => map_none_eql W, fun _ => ⟨rfl, e2, hG⟩, fun h => (by cases h)⟩
    · cases e
      exact ⟨false, fun W => map_some_eql mb W, fun h => (by cases h), fun _ => ⟨mb, rfl⟩⟩
  clear hpm
  go_upto_if 21 with fail
  generalize hkb : w3.heap.size = kb at *
  go_cut [] (fun wx => ∃ mb, MidL w wx pb w.heap.size kb mb va (.map om) G l s)
  case first =>
    cases nb with
    | true =>
      obtain ⟨rfl, rfl, hG⟩ := hy rfl
      have q2 := fun t W => run_makeMap (P := Try.prog) t W
      have hne4 : pb ≠ kb + 1 := by omega
      have hM := mid_new (s := s) HP.out hG HR3.out.1 HR3.out.2.1 HR3.out.2.2 128
      rw [hkb] at hM
      clear hG hy hn
      go_wp2_with fail
      go_meet
      case rel => exact ⟨_, hM⟩
    | false =>
      obtain ⟨mb, rfl⟩ := hn rfl
      have hM := mid_old (s := s) HP.out HR3.out.1 HR3.out.2.1 HR3.out.2.2 128
      rw [hkb] at hM
      go_wp2_with fail
      go_meet
      case rel => exact ⟨_, hM⟩
  case rest =>
    obtain ⟨mb, hM⟩ := hcut
    generalize wc = W at *
    go_upto_region 4 with fail
    have HM := Lib.hid hM
    have HX := Lib.hid (fun X (hX : Below W.heap.size W X) => hM.all.below hX)
    obtain ⟨d0, d1, d2, d3⟩ := hM.two
    obtain ⟨k0, k1, k2⟩ := hM.kt
    have dA : ∀ O, (W.alloc O).cell? ⟨pb, 0, none⟩ = some va := fun O => (hM.two.alloc O).1
    have hlp : (plc l 0).length ≤ 1000000 := by rw [plc_len]; omega
    clear hM HR3 HP1 c0 c1 c2 c3 hpl3 hne3 hW1 hWs hkb q1 hy hn
    go_cut [] (fun wx => ∃ v', Mid2 w wx pb w.heap.size kb mb va (.map om) v' G l s)
    case first =>
      go_region_law (refine step_kappend rfl (.tmp 30) (.tmp 32) rfl va (plc l 0) (totF l, s) _ 1 (HX.out _ (by go_grown)) (three_new _ (totF l, s) _) hlp (by simp [Act.eval, Act.put]) (by simp [Act.eval, Act.put]) ?_; intro v' w6 hown6 hgr6 hloc6; obtain ⟨a6, n6, p6, rfl⟩ := hown6.form3; obtain ⟨f2, hm2⟩ := mid2_of HP.out HM.out (by go_grown) hown6 hgr6 hloc6; obtain ⟨f0, f1, f3, f4⟩ := f2)
      all_goals
        go_wp2_with fail
        go_meet
        case rel => exact ⟨_, hm2⟩
    case rest =>
      obtain ⟨va', hm2⟩ := hcut
      generalize wc = W2 at *
      clear d0 d1 d2 d3 k0 k1 k2 dA HX hlp
      have HM2 := Lib.hid hm2
      have HX := Lib.hid (fun X (hX : Below W2.heap.size W2 X) => (hm2.grps (bkt s)).below hX)
      have HLK := Lib.hid (fun X (hX : Below W2.heap.size W2 X) => (hm2.map.below hX).look (bkt s) hwf)
      have hl0 := HLK.out W2.drew (by go_grown)
      have hl1 := fun O => HLK.out (W2.alloc O).drew (by go_grown)
      have hl2 := fun O => HLK.out (W2.drew.alloc O) (by go_grown)
      obtain ⟨d0, d1, d2, d3⟩ := hm2.two
      obtain ⟨k0, k1, k2⟩ := hm2.kt
      have dA : ∀ O, (W2.alloc O).cell? ⟨pb, 1, none⟩ = some (.map (some mb)) := fun O => (hm2.two.alloc O).2.1
      have hlp : (grp (bkt s) (plc l 0)).length ≤ 1000000 := by have := grp_len (bkt s) (plc l 0); rw [plc_len] at this; omega
      have hlm : (l : List ByteArray).length < maxLen := by unfold maxLen; omega
      clear hm2
      go_upto_region 5 with fail
      go_cut [] (fun wx => ∃ va' G', PoolAt wx pb va' (.map (some mb)) G' (l ++ [s]) ∧ Kept (blkS pb va (.map om) G) (blkS pb va' (.map (some mb)) G') w wx ∧ Two wx w.heap.size (.int .u64 0) (.int .u32 0) ∧ Three wx kb (totF l, s) ∧ ¬ blkS pb va' (.map (some mb)) G' w.heap.size)
      case first =>
        go_region_law (refine step_kappend rfl (.tmp 46) (.tmp 48) rfl (G (bkt s)) (grp (bkt s) (plc l 0)) (totF l, s) _ 1 (HX.out _ (by go_grown)) (three_new _ (totF l, s) _) hlp (by simp [Act.eval, Act.put]) (by simp [Act.eval, Act.put]) ?_; intro v' w7 hown7 hgr7 hloc7; obtain ⟨a7, n7, p7, rfl⟩ := hown7.form3; have f7 := (HM2.out.two7 (by go_grown) hgr7 (HP.out.n2 _)).2.1; obtain ⟨w8, hup, hmap8, hgr8⟩ := (HM2.out.map7 (by go_grown) hgr7).put hlm (bkt s) hwf _ ⟨a7, n7, p7, rfl⟩; have hfin := pool_of HP.out HM.out.lg HM.out.la HM.out.nm HM.out.om HM.out.lr HM.out.lk hg HM2.out (by go_grown) hown7 hgr7 hloc7 hmap8 hgr8)
        all_goals
          go_wp2_with fail
          go_meet
          case rel => exact ⟨_, _, hfin⟩
      case rest =>
        obtain ⟨va2, G2, hp2, hk2, ht2, h32, hr2⟩ := hcut
        generalize wc = W5 at *
        clear d0 d1 d2 d3 k0 k1 k2 dA HX hlp hl0 hl1 hl2
        obtain ⟨t0, t1, t2, t3⟩ := ht2
        obtain ⟨k0, k1, k2⟩ := h32
        have HF := Lib.hid (And.intro hp2 (And.intro hk2 hr2))
        have HT2 := Lib.hid (show Two W5 w.heap.size (.int .u64 0) (.int .u32 0) from ⟨t0, t1, t2, t3⟩)
        have hnk := HM.out.nk
        clear hp2 hk2 hr2
        go_wp2_with fail
        refine bodyPost_ret (results_ct1 rfl _ _ w.heap.size _ _ _ rfl (HT2.out.set _ _).1 (HT2.out.set _ _).2.1 Try.underlying77 rfl pct_size) rfl ⟨rfl, va2, .map (some mb), G2, HF.out.1.set2 _ HF.out.2.2 _ _, HF.out.2.1.set2 _ (Nat.le_refl _) _ _⟩
end Go.Proofs.Ytleicghfcffblaa
