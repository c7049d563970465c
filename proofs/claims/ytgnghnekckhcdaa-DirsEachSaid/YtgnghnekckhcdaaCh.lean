/- The program's Size. -/
import Derived.Test.YtgnghnekckhcdaaCg
import Derived.Test.YtgnghnekckhcdaaRd
namespace Go.Proofs.Ytgnghnekckhcdaa
open Go.RowKit Go.Shelf
set_option linter.unusedVariables false
set_option linter.unusedSimpArgs false
theorem round_any {P : Program} {ops : Array Oper} {Q : Exit → Act → World → Prop} {l n id : Nat} {a : Act} {w : World} (hm : P.follows .mixedOrders = true) (hops : noDefer ops = true) (hQ : ¬ LetsOut Q)
    (h : wpAny P .any ops Q ops.size (Array.replicate ops.size false) a w.drew) : (Code.region id ops true).wpIn (Fence.wide.inRound l) n P Q a w :=
  wpIn_region_draw fun t => by
    simp only [Region.schedule, hm, Bool.true_or, if_true]
    exact ops_round hQ hops _ _ _ (wpAny_sound ops.size t _ a _ h)
/-- What the sum has when k numbers are come. -/
def SumI (val : Nat → Int) (n0 : Nat) (w : World) (k : Nat) (S : Nat → Prop) (W : World) : Prop :=
  (Boxed W n0 3 (.int .i64 ((encs (upW val k)).length : Int)) ∧ ∀ b, S b ↔ b = n0) ∧ Below w.heap.size w W
theorem sum_bears (val : Nat → Int) (n0 : Nat) (w : World) (B : Nat) (hB : w.heap.size ≤ B) : Bears2 (fun _ => False) B (SumI val n0 w) :=
  Bears.and (bears_own (β := Nat × (Nat → Prop)) (J := fun s W => Boxed W n0 3 (.int .i64 ((encs (upW val s.1)).length : Int)) ∧ ∀ b, s.2 b ↔ b = n0) (fun s X Y row hs hg hr => ⟨hs.1.kept hg (fun e' => by
    obtain ⟨o, ho, hc⟩ := hr n0 e'.symm
    rw [show X.heap[n0]? = _ from hs.1] at ho; cases ho; cases hc), hs.2⟩) B) (bears_below (Nat.le_refl _) hB (fun _ h => h.elim))
attribute [local go_sem] Oper.semAt_some
set_option maxRecDepth 100000 in
set_option maxHeartbeats 2000000 in
theorem psizD_any (v : Value) (l : List En) (w : World) (hv : EnsAt w v l) (hm : MaysN l) (hl : l.length ≤ 5000) : Calls Try.prog 12 #[v] w fun x w' => x = .returned (.int .i64 (sizD l)) ∧ Below w.heap.size w w' := by
  have HR := Lib.hid (prow_any v l w hv hm)
  have HV := Lib.hid hv
  have HM := Lib.hid hm
  obtain ⟨al, cap, rfl, hcap, hmx, _⟩ := hv
  by_cases h0 : rowN l = 0
  · have HE := Lib.hid (show sizD l = ((textI l).length : Int) from by unfold sizD; rw [if_pos h0])
    have hlen : (textI l).length ≤ 200010 := by rw [textI_len]; have := textD_len l; omega
    rw [h0] at HR
    clear h0 hcap hmx hm
    refine (callsIn_wide (n := 3)).1 ?_
    refine callsIn_of_wp_marks Try.func12 rfl trivial ?_ rfl
    simp only [Try.ntmps12, List.size_toArray, List.length_cons, List.length_nil, Nat.reduceAdd, Nat.reduceSub, Array.replicate_succ, Array.replicate_zero, List.push_toArray, List.append_toArray, List.nil_append, List.cons_append]
    gi_wp2
    refine ⟨trivial, (callsIn_wide.2 HR.out).mono ?_⟩
    rintro x w1 ⟨rfl, hb⟩
    have HB := Lib.hid hb
    clear hb
    gi_wp2
    refine ⟨trivial, (callsIn_wide.2 (pnum_any al l.length cap _)).mono ?_⟩
    rintro x w2 ⟨rfl, hw2⟩
    gi_wp2
    rw [← hw2]
    have hs2 : w2.heap.size = w1.heap.size + 2 := by rw [hw2]; simp
    have hb2 : Below w1.heap.size w1 w2 := by rw [hw2]; exact ((Below.refl _ _).alloc (Nat.le_refl _) _).alloc (by simp) _
    have hq2 : w2.cell? ⟨w1.heap.size + 1, 0, none⟩ = some (.slice al l.length cap) := by rw [hw2]; simp
    have hx2 : Boxed w2 w1.heap.size 3 (.int .i64 0) := by rw [hw2]; exact (Boxed.new w1 _ _).alloc _
    have HV2 := HV.out.below (HB.out.trans (hb2.mono HB.out.size))
    have hBw := HB.out.trans (hb2.mono HB.out.size)
    have hv1 : ∀ {a : Addr} {n c : Nat}, l ≠ [] → Value.slice al l.length cap = .slice (some a) n c → a.block < w.heap.size := fun hl hv => ens_lt HV.out hl hv
    have hw1 := HB.out.size
    refine range_d1 (n := 3) (val := fun k => .int .u64 (numD l k)) (p := 10) (r := 4) rfl (enters_of Try.func49 (by kernel_rfl) rfl) (pnum1_seq _ l (w1.heap.size + 1) w2 HM.out HV2 hq2) (Below.refl _ _) (fun _ h => h.elim) ?hV
      (SumI (numD l) w1.heap.size w) (fun _ _ _ => False) ?hI (fun _ _ _ _ _ h _ _ => h) ?hG (fun b => b = w1.heap.size) ?hS0 ?h0 (fun _ _ _ _ _ _ _ _ => trivial) ?assign ?body ?done (fun _ _ _ _ _ _ h _ => h.elim)
    case hV =>
      rintro b (rfl | ⟨hl, a, n, c, hv, rfl⟩)
      · omega
      · exact ens_lt HV2 hl hv
    case hI => exact sum_bears _ _ w _ hBw.size
    case hG => exact fun k S W h => ⟨trivial, fun b hb => by rw [(h.1.2 b).1 hb]; exact h.1.1.lt⟩
    case hS0 =>
      rintro b rfl
      refine ⟨by omega, ?_⟩
      rintro (h | ⟨hl, a, n, c, hv, h⟩)
      · omega
      · have := hv1 hl hv; omega
    case h0 => exact ⟨⟨hx2, fun b => Iff.rfl⟩, hBw⟩
    case assign =>
      intro lq k W' K hK
      simp only [List.setIfInBounds_toArray, List.set_cons_zero, List.set_cons_succ] at hK ⊢
      gi_wp2
      exact hK
    case body =>
      rintro lq k S W hlq hI hk
      have hwd := num_wide l HM.out hl k (by rw [upW_len]; exact hk)
      have hnx : (upW (numD l) (1 + 4 * l.length)).getD k 0 = numD l k := by
        unfold upW
        rw [List.getD_eq_getElem?_getD, List.getElem?_map, List.getElem?_range hk]
        rfl
      rw [hnx] at hwd
      have hlk := encs_len (upW (numD l) k)
      rw [upW_len] at hlk
      have HI := Lib.hid hI
      obtain ⟨⟨hv, hSS⟩, hB⟩ := hI
      have hvc := hv.cell
      have hvf := hv.frozen
      have HSS := Lib.hid hSS
      have hnext : Hid ((encs (upW (numD l) (k + 1))).length = (encs (upW (numD l) k)).length + (enc (numD l k)).length) := Lib.hid (by rw [upW_succ, encs_snoc, List.length_append])
      have hel := (enc_len (numD l k)).2
      clear hnx hv hSS hB
      generalize numD l k = x at *
      obtain ⟨m, hm⟩ : ∃ m, (encs (upW (numD l) k)).length = m := ⟨_, rfl⟩
      rw [hm] at hvc hlk
      simp only [List.setIfInBounds_toArray, List.set_cons_zero, List.set_cons_succ]
      have hdc : W.drew.cell? ⟨w1.heap.size, 0, none⟩ = some (.int .i64 (m : Int)) := hvc
      have hdf : W.drew.frozen? ⟨w1.heap.size, 0, none⟩ = false := hvf
      have hwm : IntKind.i64.wrap ((m : Int) + ((enc x).length : Int)) = (m : Int) + ((enc x).length : Int) := by rw [IntKind.wrap_i64] <;> omega
      have HH := Lib.hid (And.intro hm hlk)
      clear hlk hel hvc hvf
      gi_wp2
      refine round_any (by kernel_rfl) (by kernel_rfl) (by rintro ⟨a, w, h⟩; exact h) ?_
      change wpAny _ _ _ _ _ _ _ W.drew
      refine wpAny_take (i := 1) (v := ?_) rfl (by kernel_rfl) (by kernel_rfl) (by kernel_rfl) (fun _ _ _ h => h) (Or.inl ⟨by rfl, ?y1⟩) ?_
      case y1 => intro w; go_simp; try with_reducible rfl
      try simp only [Act.put, List.setIfInBounds_toArray, List.set_cons_zero, List.set_cons_succ]
      refine wpAny_ready (rs := [0, 2]) (by kernel_rfl) (by simp) ?_
      refine AllReady.cons rfl (fun K hK => ?_) (AllReady.cons rfl (fun K hK => ?_) AllReady.nil)
      · go_simp
        refine hK _ _ ?_
        clear hK K
        try simp only [Act.put, List.setIfInBounds_toArray, List.set_cons_zero, List.set_cons_succ]
        refine wpAny_ready (rs := [2]) (by kernel_rfl) (by simp) ?_
        refine AllReady.cons rfl (fun K hK => ?_) AllReady.nil
        go_simp
        refine (size_any x _ hwd.1 hwd.2).mono ?_
        rintro e w' ⟨rfl, rfl⟩
        go_wp2_with fail
        try simp only [Act.put, List.setIfInBounds_toArray, List.set_cons_zero, List.set_cons_succ]
        refine wpAny_take (i := 3) (v := ?_) rfl (by kernel_rfl) (by kernel_rfl) (by kernel_rfl) (fun _ _ _ h => h) (Or.inl ⟨by rfl, ?y3⟩) ?_
        case y3 => intro w; go_simp; try with_reducible rfl
        try simp only [Act.put, List.setIfInBounds_toArray, List.set_cons_zero, List.set_cons_succ]
        refine wpAny_ready (rs := [4]) (by kernel_rfl) (by simp) ?_
        refine AllReady.cons rfl (fun K hK => ?_) AllReady.nil
        go_simp
        refine hK _ _ ?_
        clear hK K
        try simp only [Act.put, List.setIfInBounds_toArray, List.set_cons_zero, List.set_cons_succ]
        refine wpAny_done (by kernel_rfl) ?_ _
        refine ⟨S, ⟨⟨?_, HSS.out⟩, ?_⟩, ?_⟩
        · have := (HI.out.1.1.set (W := W) (.int .i64 ((m : Int) + ((enc x).length : Int))))
          rw [hnext.out, hm]
          push_cast
          exact this
        · exact HI.out.2.drew.setCell (p := ⟨w1.heap.size, 0, none⟩) hw1 _
        · exact (KeepsS.below S (Below.drew (Below.refl _ _))).trans (KeepsS.setCell S W.drew ⟨w1.heap.size, 0, none⟩ _ ((HSS.out _).2 rfl))
      · go_simp
        refine (size_any x _ hwd.1 hwd.2).mono ?_
        rintro e w' ⟨rfl, rfl⟩
        go_wp2_with fail
        try simp only [Act.put, List.setIfInBounds_toArray, List.set_cons_zero, List.set_cons_succ]
        refine wpAny_ready (rs := [0]) (by kernel_rfl) (by simp) ?_
        refine AllReady.cons rfl (fun K hK => ?_) AllReady.nil
        go_simp
        refine hK _ _ ?_
        clear hK K
        try simp only [Act.put, List.setIfInBounds_toArray, List.set_cons_zero, List.set_cons_succ]
        refine wpAny_take (i := 3) (v := ?_) rfl (by kernel_rfl) (by kernel_rfl) (by kernel_rfl) (fun _ _ _ h => h) (Or.inl ⟨by rfl, ?y3⟩) ?_
        case y3 => intro w; go_simp; try with_reducible rfl
        try simp only [Act.put, List.setIfInBounds_toArray, List.set_cons_zero, List.set_cons_succ]
        refine wpAny_ready (rs := [4]) (by kernel_rfl) (by simp) ?_
        refine AllReady.cons rfl (fun K hK => ?_) AllReady.nil
        go_simp
        refine hK _ _ ?_
        clear hK K
        try simp only [Act.put, List.setIfInBounds_toArray, List.set_cons_zero, List.set_cons_succ]
        refine wpAny_done (by kernel_rfl) ?_ _
        refine ⟨S, ⟨⟨?_, HSS.out⟩, ?_⟩, ?_⟩
        · have := (HI.out.1.1.set (W := W) (.int .i64 ((m : Int) + ((enc x).length : Int))))
          rw [hnext.out, hm]
          push_cast
          exact this
        · exact HI.out.2.drew.setCell (p := ⟨w1.heap.size, 0, none⟩) hw1 _
        · exact (KeepsS.below S (Below.drew (Below.refl _ _))).trans (KeepsS.setCell S W.drew ⟨w1.heap.size, 0, none⟩ _ ((HSS.out _).2 rfl))
    case done =>
      rintro D S W hD hSD hI _ hDW
      obtain ⟨⟨hv, _⟩, hB⟩ := hI
      have hvc := hv.cell
      have HH := Lib.hid (And.intro hD (And.intro hDW hB))
      clear hv hB hDW
      rw [encs_all] at hvc
      gi_wp2
      obtain ⟨h1, h2, h3⟩ := HH.out
      refine ⟨by simp, .inl ⟨_, _, rfl, run_takeDeferred h2, ?_⟩⟩
      refine ⟨_, results_tmp rfl _ _ _, by rw [HE.out]; rfl, ?_⟩
      exact (bears_below (β := Unit) (T := fun _ => False) (Nat.le_refl _) (B := w.heap.size) (Nat.le_refl _) (fun _ h => h.elim)).put (s := ()) h3 _ (by omega) h2 rfl
  · have he : sizD l = 0 := by unfold sizD; rw [if_neg h0]
    rw [he]
    have hne : (rowN l == 0) = false := by simpa using h0
    generalize rowN l = r at *
    clear h0 he hcap hmx hm
    go_enter Try.func12, Try.ntmps12
    go_wp2_with fail
    refine HR.out.mono ?_
    rintro x w1 ⟨rfl, hb⟩
    go_wp2_with fail
    go_ret
    exact ⟨rfl, hb⟩
end Go.Proofs.Ytgnghnekckhcdaa
