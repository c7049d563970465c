/- Several texts, one behind the other: Cf, Cg, Ch. -/
import Derived.Test.YtbkodaijigcebaaRn
import Derived.Test.YtbkodaijigcebaaMB
import Derived.Lib.AppendZeros
import Derived.Test.YtbkodaijigcebaaMD
import Derived.Test.YtbkodaijigcebaaMQ
import Derived.Test.YtbkodaijigcebaaMH
import Derived.Test.YtbkodaijigcebaaMR
/- Rows of numbers of the call's own; varint's All at longer rows; the library's AppendSeq and Collect over what is known ahead. -/
namespace Go.Proofs.Ytbkodaijigcebaa
open Go.RowKit Go.Shelf
set_option maxRecDepth 20000
set_option linter.unusedVariables false
set_option linter.unusedSimpArgs false
theorem Try.info47 : (Try.prog.info? 47).map (fun i => (i.zero, i.size, i.bytes)) = some (some (.int .u64 0), 1, 8) := by kernel_rfl
/-- A row of the call's own: from block B on, the numbers l. -/
def OwnW (w : World) (B : Nat) (v : Value) (l : List Int) : Prop := w.ownsRow B 47 1 v l.length (l.map (Value.int .u64))
theorem OwnW.snoc {w' : World} {B : Nat} {v' : Value} {l : List Int} {c : Int} (hs : w'.ownsRow B 47 1 v' (l.length + 1) (l.map (Value.int .u64) ++ [.int .u64 c])) : OwnW w' B v' (l ++ [c]) := by
  unfold OwnW
  rw [List.length_append, List.map_append]
  exact hs
theorem ownW_nil (w : World) (B : Nat) : OwnW w B (.slice none 0 0) [] := World.ownsRow_nil _ _ _ _
theorem OwnW.below {w w' : World} {B : Nat} {v : Value} {l : List Int} (h : OwnW w B v l) (hb : Below w.heap.size w w') : OwnW w' B v l := by
  have hlt := World.ownsRow.lt h
  obtain ⟨h1, h2⟩ := h
  refine ⟨h1, ?_⟩
  rcases h2 with h2 | ⟨g, cap, cur, hv, hg, hh, r⟩
  · exact .inl h2
  · refine .inr ⟨g, cap, cur, hv, hg, ?_, r⟩
    rw [hb.block g (hlt g (by rw [hv]; rfl)).2]; exact hh
theorem OwnW.mono {w : World} {B B' : Nat} {v : Value} {l : List Int} (h : OwnW w B v l) (hb : B' ≤ B) : OwnW w B' v l := by
  obtain ⟨h1, h2⟩ := h
  refine ⟨h1, ?_⟩
  rcases h2 with h2 | ⟨g, cap, cur, hv, hg, r⟩
  · exact .inl h2
  · exact .inr ⟨g, cap, cur, hv, Nat.le_trans hb hg, r⟩
theorem OwnW.wordsAt {w : World} {B : Nat} {v : Value} {l : List Int} (h : OwnW w B v l) : WordsAt w v l := by
  have hlt := World.ownsRow.lt h
  have h' := h
  obtain ⟨hx, hv⟩ := h'
  rcases hv with ⟨rfl, hn⟩ | ⟨g, cap, cur, rfl, hB, hh, hle, hm, hcs, htk⟩
  · obtain rfl : l = [] := List.eq_nil_of_length_eq_zero hn
    exact ⟨none, 0, rfl, fun k hk => by simp at hk⟩
  · refine ⟨_, cap, rfl, fun k hk => ⟨g, 0, rfl, (hlt g rfl).2, ?_⟩⟩
    have := World.ownsRow.cellAt h k (by omega)
    rw [Nat.zero_add]
    simpa [hk] using this
theorem allL_any (v : Value) (l : List Int) (w : World) (hw : WordsAt w v l) (hl : l.length ≤ 100000) (hx : Wide l) : Calls Try.prog 34 #[v] w (PutEnd w (encs l)) := by
  obtain ⟨a, cap, rfl, hc⟩ := hw
  have HC := Lib.hid hc; clear hc
  have HX := Lib.hid hx; clear hx
  go_enter Try.func34, Try.ntmps34
  go_wp2_with fail
  go_loop [3, 11] (fun s i => ∃ k : Nat, k ≤ l.length ∧ i = .int .i64 k ∧ ∃ n : Nat, s = .int .i64 n ∧ Hid (n = (encs (l.take k)).length) ∧ n ≤ 10 * k) (fun _ i => l.length - (intOf i).toNat)
  case atStart => exact ⟨0, Nat.zero_le _, rfl, 0, rfl, by simp [encs, Hid], by omega⟩
  case round =>
    obtain ⟨k, hk, rfl, n, rfl, HN, hn⟩ := hrel
    by_cases hlt : k < l.length
    · obtain ⟨b, off, rfl, hb, hcell⟩ := HC.out k hlt
      have bx := HX.out k hlt
      have ht := encs_take l k hlt
      generalize l.getD k 0 = x at *
      obtain ⟨x0, x1⟩ := bx
      have HT := Lib.hid ht; clear ht
      have hel := enc_len x
      obtain ⟨m, hm⟩ : ∃ m, (enc x).length = m := ⟨_, rfl⟩
      rw [hm] at hel
      have HM := Lib.hid hm; clear hm
      go_wp2_with (go_at_call 50; refine (size_any x _ x0 x1).mono ?_; rw [HM.out]; rintro e w' ⟨rfl, rfl⟩)
      refine ⟨⟨k + 1, by omega, by go_num, n + m, by go_num, ?_, by omega⟩, ?_⟩
      · apply Lib.hid; rw [HT.out, List.length_append, HM.out, ← HN.out]
      · simp [intOf]; omega
    · obtain rfl : k = l.length := by omega
      have hmk := fun W => make_bytes0 n W (by omega)
      have hO := own_made w n (by omega)
      have HO := Lib.hid hO; clear hO
      clear HN hlt hk
      go_wp2_with fail
      go_loopw [6, 24] (fun v i wr => ∃ k : Nat, k ≤ l.length ∧ i = .int .i64 k ∧ Own wr w.heap.size v (encs (l.take k)) ∧ Below w.heap.size w wr) (fun _ i _ => l.length - (intOf i).toNat)
      case atStart => exact ⟨0, Nat.zero_le _, rfl, by simpa [encs] using HO.out, (Below.refl _ _).alloc (Nat.le_refl _) _⟩
      case round =>
        clear HO
        obtain ⟨k, hk, rfl, hown, hbw⟩ := hrel
        have hel := encs_len (l.take k)
        rw [List.length_take] at hel
        have HO := Lib.hid hown; clear hown
        have hsz := hbw.size
        by_cases hlt : k < l.length
        · obtain ⟨b, off, rfl, hb, hcell⟩ := HC.out k hlt
          have hcell := (hbw.cell (p := ⟨b, off + k, none⟩) hb).trans hcell
          have bx := HX.out k hlt
          have ht := encs_take l k hlt
          generalize l.getD k 0 = x at *
          obtain ⟨x0, x1⟩ := bx
          have HT := Lib.hid ht; clear ht
          have hq : (encs (l.take k)).length ≤ 1000000 := by omega
          clear hel
          go_wp2_with fail
          refine (lay_any w.heap.size _ _ x _ HO.out hsz hq x0 x1).mono ?_
          rintro e w2 ⟨v2, rfl, ho2, hb2⟩
          rw [← HT.out] at ho2
          have hb := hbw.trans hb2
          clear hb2 hbw HO
          go_wp2_with fail
          go_roundw
          case rel => exact ⟨k + 1, by omega, by go_num, ho2, hb⟩
          case measure => simp [intOf]; omega
        · obtain rfl : k = l.length := by omega
          clear hel
          go_wp2_with fail
          go_ret
          refine ⟨_, rfl, ?_, hbw⟩
          have := HO.out
          rwa [List.take_length] at this
/-- What a row's place becomes: as it was, or new. -/
def Moved (w : World) (v v' : Value) : Prop := v'.ownBlock = v.ownBlock ∨ ∃ g, v'.ownBlock = some g ∧ w.heap.size ≤ g
/-- An append of one number, run. -/
theorem word_append (W : World) (B : Nat) (v : Value) (L : List Int) (x : Int) (hown : OwnW W B v L) (hl : L.length ≤ 100000) (ad : Addr) (c : Nat) (h0 : W.cell? ad = some (.int .u64 x)) (hb : B ≤ W.heap.size) (ty : TypeId) :
    ∃ v' w', (Builtin.append_ #[73, 73] ty #[v, .slice (some ad) 1 c]).run Try.prog W = .ok v' w' ∧ OwnW w' B v' (L ++ [x]) ∧ W.grownBy w' v.ownBlock ∧ Moved W v v' := by
  obtain ⟨i0, hi, hz0, hz1, hz2⟩ := info_parts Try.info47
  have hnews : ∀ j u, ([.int .u64 x] : List Value)[j]? = some u → W.cell? (ad.add j) = some u := by
    intro j u hu
    match j, hu with
    | 0, hu => simp only [List.getElem?_cons_zero, Option.some.injEq] at hu; rw [← hu, ← h0]; congr 1
    | j + 1, hu => simp at hu
  have hone : ∀ u ∈ ([.int .u64 x] : List Value), u.oneCell' = true := by
    intro u hu
    simp only [List.mem_cons, List.not_mem_nil, or_false] at hu
    subst hu
    rfl
  obtain ⟨v', w', hr, h2, h3, h4⟩ := run_append_own (P := Try.prog) W B 73 ty 47 i0 _ 1 8 Try.underlying73 hi hz0 hz1 hz2 rfl (by omega) v L.length (L.map (Value.int .u64)) hown ad 1 c _ rfl hnews hone (by unfold maxLen; omega) (by omega) hb
  refine ⟨v', w', hr, OwnW.snoc h2, h3, ?_⟩
  rcases hown.2 with ⟨rfl, hn⟩ | ⟨g, cap, cur, rfl, hbg, hg, hnc, hcm, hcs, htake⟩
  · obtain ⟨_, _, hr2, h22, _, _⟩ := run_append_own (P := Try.prog) W W.heap.size 73 ty 47 i0 _ 1 8 Try.underlying73 hi hz0 hz1 hz2 rfl (by omega) (.slice none 0 0) L.length (L.map (Value.int .u64)) ⟨hown.1, .inl ⟨rfl, hn⟩⟩ ad 1 c _ rfl hnews hone (by unfold maxLen; omega) (by omega) (Nat.le_refl _)
    rw [hr] at hr2
    injection hr2 with e1 e2
    subst e1 e2
    rcases h22.2 with ⟨rfl, _⟩ | ⟨g, cap, cur, rfl, hg, _⟩
    · exact .inl rfl
    · exact .inr ⟨g, rfl, hg⟩
  · by_cases hroom : L.length + 1 ≤ cap
    · have hr2 := run_append_room (P := Try.prog) W 73 ty 47 i0 Try.underlying73 hi g L.length cap cur hg ad 1 c [.int .u64 x] (by rw [hz1]; rfl) hnews hone hroom (by rw [hz1]; simp only [List.length_cons, List.length_nil]; omega)
      rw [hr] at hr2
      injection hr2 with e1 e2
      rw [e1]
      exact .inl rfl
    · have hr2 := run_append_grow (P := Try.prog) W 73 ty 47 i0 _ Try.underlying73 hi hz0 ⟨g, 0, none⟩ L.length cap (L.map (Value.int .u64)) (by rw [hz1]; exact hown.1) (World.ownsRow.cells hown rfl) ad 1 c [.int .u64 x] (by rw [hz1]; rfl) hnews (by omega) (by omega) (growslice_fits (by omega) (by rw [hz2]; omega))
      rw [hr] at hr2
      injection hr2 with e1 e2
      rw [e1]
      exact .inr ⟨_, rfl, Nat.le_refl _⟩
/-- The first k of what comes. -/
def upW (val : Nat → Int) (k : Nat) : List Int := (List.range k).map val
theorem upW_succ (val : Nat → Int) (k : Nat) : upW val (k + 1) = upW val k ++ [val k] := by simp [upW, List.range_succ]
theorem upW_len (val : Nat → Int) (k : Nat) : (upW val k).length = k := by simp [upW]
theorem KeepsS.grown {S : Nat → Prop} {W W' : World} {row : Option Nat} (h : W.grownBy W' row) (hr : ∀ r, row = some r → S r) : KeepsS S S W W' :=
  ⟨h.size, fun b o hb ho => (h.block b (hlt_of ho) (fun e => hb (hr b e.symm))).trans ho, fun _ h => .inl h⟩
theorem bears_own {β : Type} {J : β → World → Prop} (h : Go.Own J) (B : Nat) : Bears (fun _ => False) B J := fun s X Y row hs hg hr =>
  h s X Y row hs hg (fun r e => by rcases hr r e with h | h; exact h.elim; exact h.2)
/-- What a gathering has when k are come. -/
def GatI (val : Nat → Int) (n0 : Nat) (w : World) (k : Nat) (S : Nat → Prop) (W : World) : Prop :=
  (∃ v, Boxed W n0 73 v ∧ W.ownsRow (n0 + 1) 47 1 v (upW val k).length ((upW val k).map (Value.int .u64)) ∧ ∀ b, S b ↔ (b = n0 ∨ v.ownBlock = some b)) ∧ Below n0 w W
theorem gat_bears (val : Nat → Int) (w : World) (B : Nat) (hB : w.heap.size ≤ B) : Bears2 (fun _ => False) B (GatI val w.heap.size w) :=
  Bears.and (bears_own (holdsRow_own (β := Nat × (Nat → Prop)) (w.heap.size + 1) w.heap.size 73 47 1 (fun s => (upW val s.1).length) (fun s => (upW val s.1).map (Value.int .u64)) (fun s v => ∀ b, s.2 b ↔ (b = w.heap.size ∨ v.ownBlock = some b))) B) (bears_below (Nat.le_refl _) hB (fun _ h => h.elim))
theorem gat_lt {val : Nat → Int} {n0 k : Nat} {w : World} {S : Nat → Prop} {W : World} (h : GatI val n0 w k S W) : ∀ b, S b → b < W.heap.size := by
  obtain ⟨⟨v, hv, ho, hS⟩, hb⟩ := h
  intro b hs
  rcases (hS b).1 hs with rfl | h
  · exact hv.lt
  · exact (World.ownsRow.lt ho b h).2
/-- An append in a round, its run known. -/
theorem app_in {F : Fence} {n : Nat} {P : Program} (w : World) {ops : Array Oper} {rest : List Oper} {o : Oper} {a : Act} {Q : Exit → Act → World → Prop} (hg : o.guard = none) (s x : Operand) (t : TypeId)
    (hop : o.op = Op.call { callee := Callee.builtin Builtin.append, args := #[s, x], argTypes := #[t, t] }) (v : Value) (ad : Addr) (m c : Nat) (hs : a.eval s = v) (hx : a.eval x = .slice (some ad) m c) (v' : Value) (w' : World)
    (hrun : (Builtin.append_ #[t, t] o.type #[v, .slice (some ad) m c]).run P w = .ok v' w') (hK : wpListIn F n P ops Q rest (a.put o.dst v') w') : wpListIn F n P ops Q (o :: rest) a w := by
  refine wpListIn_plain hg fun K hK' => ⟨?_, ?_⟩
  · simp [Oper.about, hop, resolve, Target.leads, Sem.run_pure]
  · rw [Oper.semAt_plain F _ _ (by rw [hop]; intro c hc'; cases hc')]
    simp [execOp, hop, resolve, invoke, builtin, hs, hx, hrun, Result.andThen]
    exact hK' _ _ hK
attribute [local go_sem] Oper.semAt_some
set_option maxRecDepth 100000 in
set_option maxHeartbeats 2000000 in
theorem pappseq_any {gf : Nat} {lb : Array Value} (val : Nat → Int) (N : Nat) (V : Nat → Prop) (w : World) (hN : N ≤ 90000) (eg : ∀ args w, (callFunc gf args).run Try.prog w = .ok (.enter gf args) w)
    (hseq : SeqD Try.prog gf lb (fun k => #[.int .u64 (val k)]) N (fun _ => False) V (fun _ _ => True) (fun _ => True) w) (hV : ∀ b, V b → b < w.heap.size) :
    Calls Try.prog 60 #[.slice none 0 0, .func (.func gf) #[] lb] w fun x w' => ∃ v, x = .returned v ∧ OwnW w' w.heap.size v (upW val N) ∧ Below w.heap.size w w' := by
  have HS := Lib.hid hseq
  have HVV := Lib.hid hV
  clear hseq hV
  refine (callsIn_wide (n := 3)).1 ?_
  refine callsIn_of_wp_marks Try.func60 rfl trivial ?_ rfl
  simp only [Try.ntmps60, List.size_toArray, List.length_cons, List.length_nil, Nat.reduceAdd, Nat.reduceSub, Array.replicate_succ, Array.replicate_zero, List.push_toArray, List.append_toArray, List.nil_append, List.cons_append]
  gi_wp2
  refine range_d1 (n := 3) (val := fun k => .int .u64 (val k)) (p := 7) (r := 5) rfl eg HS.out ((Below.refl _ w).alloc (Nat.le_refl _) _) (fun _ h => h.elim) ?hV
    (GatI val w.heap.size w) (fun _ _ _ => False) ?hI (fun _ _ _ _ _ h _ _ => h) (fun k S W h => ⟨trivial, gat_lt h⟩) (fun b => b = w.heap.size) ?hS0 ?h0 (fun _ _ _ _ _ _ _ _ => trivial) ?assign ?body ?done (fun _ _ _ _ _ _ h _ => h.elim)
  case hV => intro r hr; have := HVV.out r hr; simp; omega
  case hI => exact gat_bears val w _ (by simp)
  case hS0 => rintro b rfl; exact ⟨by simp, fun h => by have := HVV.out _ h; omega⟩
  case h0 =>
    refine ⟨⟨.slice none 0 0, Boxed.new w _ _, World.ownsRow_nil _ _ _ _, fun b => ?_⟩, (Below.refl _ w).alloc (Nat.le_refl _) _⟩
    simp [Value.ownBlock]
  case assign =>
    intro lq k W' K hK
    simp only [List.setIfInBounds_toArray, List.set_cons_zero, List.set_cons_succ] at hK ⊢
    gi_wp2
    exact hK
  case body =>
    rintro lq k S W hlq hI hk
    have HI := Lib.hid hI
    obtain ⟨⟨v, hv, ho, hSS⟩, hB⟩ := hI
    have hvc := hv.cell
    obtain ⟨v', w1, hr, h1, h2, h3⟩ := word_append (W.alloc (.cells #[.int .u64 (val k)] 47)) (w.heap.size + 1) v (upW val k) (val k) (World.ownsRow.alloc ho _) (by rw [upW_len]; omega) ⟨W.heap.size, 0, none⟩ 1 (by rw [World.cell?_alloc_mark]; rfl) (by have := hB.size; have := hv.lt; simp; omega) 73
    have hv1 : Boxed w1 w.heap.size 73 v := (hv.alloc _).kept h2 (hv.not_row (by decide) ho)
    have hf1 := hv1.frozen
    have hv1c := hv1.cell
    have HH := Lib.hid (And.intro h1 (And.intro h2 (And.intro h3 (And.intro hv (And.intro ho (And.intro hSS (And.intro hB hv1)))))))
    have hsz : ∃ g cap, v' = .slice (some ⟨g, 0, none⟩) ((upW val k).length + 1) cap := by
      have h1' := h1
      unfold OwnW at h1'
      rw [List.length_append] at h1'
      exact ownsRow_succ h1'
    obtain ⟨g, cap, rfl⟩ := hsz
    clear h1 h2 h3 hv ho hSS hB hv1
    simp only [List.setIfInBounds_toArray, List.set_cons_zero, List.set_cons_succ]
    gi_wp2_with (first | (gi_at_builtin; refine app_in _ rfl _ _ _ rfl _ _ _ _ rfl rfl _ _ hr ?_) | fail)
    obtain ⟨h1, h2, h3, hv, ho, hSS, hB, hv1⟩ := HH.out
    have hsz := h2.size
    have hlv := hv.lt
    simp only [World.size_alloc] at hsz
    have ho1 := World.ownsRow.lt h1
    refine ⟨fun b => b = w.heap.size ∨ (Value.slice (some ⟨g, 0, none⟩) ((upW val k).length + 1) cap).ownBlock = some b, ⟨⟨_, hv1.set _, ?_, fun b => Iff.rfl⟩, ?_⟩, ?_⟩
    · rw [upW_succ]
      exact World.ownsRow.kept h1 (grownBy_setCell' w1 w.heap.size _) (.inr (hv1.not_row (by decide) h1).symm)
    · have hb1 : Below w.heap.size w (W.alloc (.cells #[.int .u64 (val k)] 47)) := hB.alloc (by have := hB.size; omega) _
      exact (hb1.grown h2 hb1.size (fun r e => by have := (World.ownsRow.lt ho r e).1; omega)).setCell (p := ⟨w.heap.size, 0, none⟩) (Nat.le_refl _) _
    · have hk2 := ((KeepsS.alloc S W (.cells #[.int .u64 (val k)] 47)).trans (KeepsS.grown h2 (fun r e => (hSS r).2 (.inr e)))).trans (KeepsS.setCell S w1 ⟨w.heap.size, 0, none⟩ (.slice (some ⟨g, 0, none⟩) ((upW val k).length + 1) cap) ((hSS _).2 (.inl rfl)))
      refine ⟨hk2.size, hk2.same, fun b hb => ?_⟩
      rcases hb with rfl | hb
      · exact .inl ((hSS _).2 (.inl rfl))
      · rcases h3 with h3 | ⟨g', h3, h3'⟩
        · exact .inl ((hSS _).2 (.inr (h3.symm.trans hb)))
        · rw [h3] at hb
          cases hb
          simp only [World.size_alloc] at h3'
          exact .inr (by omega)
  case done =>
    rintro D S W hD hSD hI _ hDW
    have HI := Lib.hid hI
    obtain ⟨⟨v, hv, ho, hSS⟩, hB⟩ := hI
    have hvc := hv.cell
    have HH := Lib.hid (And.intro hD (And.intro hDW (And.intro ho hB)))
    clear hv ho hSS hB
    gi_wp2
    obtain ⟨h1, h2, h3, h4⟩ := HH.out
    refine ⟨by simp, .inl ⟨_, _, rfl, run_takeDeferred h2, ?_⟩⟩
    refine ⟨_, results_tmp rfl _ _ _, v, rfl, ?_, ?_⟩
    · exact OwnW.mono (ownsRow_putObj h3 _ h2 rfl) (by omega)
    · simp only [World.size_alloc] at h1
      exact (bears_below (β := Unit) (T := fun _ => False) (Nat.le_refl _) (B := w.heap.size) (Nat.le_refl _) (fun _ h => h.elim)).put (s := ()) h4 _ (by omega) h2 rfl
end Go.Proofs.Ytbkodaijigcebaa
/- The program's Encode. -/
namespace Go.Proofs.Ytbkodaijigcebaa
open Go.RowKit Go.Shelf
set_option maxRecDepth 20000
set_option linter.unusedVariables false
set_option linter.unusedSimpArgs false
theorem encs_append (a b : List Int) : encs (a ++ b) = encs a ++ encs b := by
  induction a with
  | nil => rfl
  | cons x a ih => simp [encs, ih]
theorem encs_cols (l : List En) (c m : Nat) : encs ((List.range m).map (fun j => colN l c j)) = colsI l c m := by
  induction m with
  | zero => rfl
  | succ m ih => rw [List.range_succ, List.map_append, List.map_singleton, encs_snoc, ih, colsI]
theorem upW_add (val : Nat → Int) (a b : Nat) : upW val (a + b) = upW val a ++ (List.range b).map (fun j => val (a + j)) := by
  unfold upW
  rw [List.range_add, List.map_append, List.map_map]
  rfl
theorem encs_num (l : List En) (c : Nat) : encs (upW (numD l) (1 + (c + 1) * l.length)) = encs (upW (numD l) (1 + c * l.length)) ++ colsI l c l.length := by
  rw [show 1 + (c + 1) * l.length = (1 + c * l.length) + l.length from by rw [Nat.succ_mul]; omega, upW_add, encs_append, ← encs_cols]
  congr 2
  apply List.map_congr_left
  intro j hj
  exact numD_col l c j (List.mem_range.1 hj)
theorem encs_all (l : List En) : encs (upW (numD l) (1 + 4 * l.length)) = textI l := by
  rw [show 4 = 3 + 1 from rfl, encs_num, show 3 = 2 + 1 from rfl, encs_num, show 2 = 1 + 1 from rfl, encs_num, show (1 : Nat) + 1 * l.length = 1 + (0 + 1) * l.length from rfl, encs_num]
  rw [Nat.zero_mul]
  have h1 : encs (upW (numD l) (1 + 0)) = enc l.length := by
    show encs [numD l 0] = _
    rw [numD_zero]
    simp [encs]
  rw [h1]
  simp only [textI, List.append_assoc]
theorem num_wide (l : List En) (hm : MaysN l) (hl : l.length ≤ 5000) : Wide (upW (numD l) (1 + 4 * l.length)) := by
  intro k hk
  rw [upW_len] at hk
  have e : (upW (numD l) (1 + 4 * l.length)).getD k 0 = numD l k := by
    unfold upW
    rw [List.getD_eq_getElem?_getD, List.getElem?_map, List.getElem?_range hk]
    rfl
  rw [e]
  unfold numD
  by_cases h0 : k = 0
  · rw [if_pos h0]; omega
  · rw [if_neg h0]
    exact col_bd (by omega) (fun j hj => hm _ (gE_mem l j hj))
theorem pcoll_any {gf : Nat} {lb : Array Value} (val : Nat → Int) (N : Nat) (V : Nat → Prop) (w : World) (hN : N ≤ 90000) (eg : ∀ args w, (callFunc gf args).run Try.prog w = .ok (.enter gf args) w)
    (hseq : SeqD Try.prog gf lb (fun k => #[.int .u64 (val k)]) N (fun _ => False) V (fun _ _ => True) (fun _ => True) w) (hV : ∀ b, V b → b < w.heap.size) :
    Calls Try.prog 35 #[.func (.func gf) #[] lb] w fun x w' => ∃ v, x = .returned v ∧ OwnW w' w.heap.size v (upW val N) ∧ Below w.heap.size w w' := by
  have HA := Lib.hid (pappseq_any val N V w hN eg hseq hV)
  clear hseq hV
  go_enter Try.func35, Try.ntmps35
  go_wp2_with fail
  refine HA.out.mono ?_
  rintro x w1 ⟨v, rfl, h⟩
  go_wp2_with fail
  go_ret
  exact ⟨v, rfl, h⟩
set_option maxRecDepth 20000 in
set_option maxHeartbeats 1000000 in
theorem pencD_any (v : Value) (l : List En) (w : World) (hv : EnsAt w v l) (hm : MaysN l) (hl : l.length ≤ 5000) : Calls Try.prog 17 #[v] w fun x w' => x = .returned (.tuple #[.string (encT l), .int .i64 (encB l)]) ∧ Below w.heap.size w w' := by
  have HR := Lib.hid (prow_any v l w hv hm)
  have HV := Lib.hid hv
  have HM := Lib.hid hm
  obtain ⟨al, cap, rfl, hcap, hmx, _⟩ := hv
  by_cases h0 : rowN l = 0
  · have HE := Lib.hid (show encB l = (if 65536 < (textI l).length then 5 else 0) from by unfold encB; rw [if_pos h0])
    have HT := Lib.hid (show encT l = if encB l = 0 then str (textI l) else ByteArray.mk #[] from rfl)
    rw [h0] at HR
    have hlen : (textI l).length ≤ 200010 := by rw [textI_len]; have := textD_len l; omega
    by_cases h5 : 65536 < (textI l).length
    · have hd : decide (65536 < ((textI l).length : Int)) = true := by simp; omega
      have he : encB l = 5 := by rw [HE.out, if_pos h5]
      have ht : encT l = ByteArray.mk #[] := by rw [HT.out, if_neg (by rw [he]; decide)]
      rw [he, ht]
      clear h5 he ht h0 hcap hmx hm
      go_enter Try.func17, Try.ntmps17
      go_wp2_with fail
      refine HR.out.mono ?_
      rintro x w1 ⟨rfl, hb⟩
      have HB := Lib.hid hb
      clear hb
      go_wp2_with fail
      refine (pnum_any al l.length cap w1).mono ?_
      rintro x w2 ⟨rfl, hw2⟩
      have hb2 : Below w1.heap.size w1 w2 := by rw [hw2]; exact (Below.refl _ _).alloc (Nat.le_refl _) _
      have hs2 : w2.heap.size = w1.heap.size + 1 := by rw [hw2]; simp
      have hq2 : w2.cell? ⟨w1.heap.size, 0, none⟩ = some (.slice al l.length cap) := by rw [hw2]; simp
      have HV2 := HV.out.below (HB.out.trans (hb2.mono HB.out.size))
      have HB2 := Lib.hid (HB.out.trans (hb2.mono HB.out.size))
      have HC := Lib.hid (pcoll_any (numD l) (1 + 4 * l.length) (VN l (.slice al l.length cap) w1.heap.size) w2 (by omega) (enters_of Try.func61 (by kernel_rfl) rfl) (pnum1_seq _ l w1.heap.size w2 HM.out HV2 hq2) (by
        rintro b (rfl | ⟨hl, a, n, c, hv, rfl⟩)
        · omega
        · exact ens_lt HV2 hl hv))
      clear hw2 hb2 hs2 hq2 HV2 HB
      go_wp2_with fail
      refine HC.out.mono ?_
      rintro x w3 ⟨v3, rfl, ho, hb3⟩
      have HB3 := Lib.hid (HB2.out.trans (hb3.mono HB2.out.size))
      have HA := Lib.hid (allL_any v3 _ w3 ho.wordsAt (by rw [upW_len]; omega) (num_wide l HM.out hl))
      rw [encs_all] at HA
      clear HC HB2 ho hb3
      go_wp2_with fail
      refine HA.out.mono ?_
      rintro x w4 ⟨v4, rfl, ho, hb4⟩
      have HB4 := Lib.hid (HB3.out.trans (hb4.mono HB3.out.size))
      have hba := ho.bytesAt
      have hrs := run_str w4 v4 (textI l) hba
      obtain ⟨a4, cap4, rfl, _⟩ := hba
      clear HA HB3 ho hb4
      clear hrs
      go_wp2_with fail
      go_ret2
      exact ⟨rfl, HB4.out⟩
    · have hd : decide (65536 < ((textI l).length : Int)) = false := by simp; omega
      have he : encB l = 0 := by rw [HE.out, if_neg h5]
      have ht : encT l = str (textI l) := by rw [HT.out, if_pos he]
      rw [he, ht]
      clear h5 he ht h0 hcap hmx hm
      go_enter Try.func17, Try.ntmps17
      go_wp2_with fail
      refine HR.out.mono ?_
      rintro x w1 ⟨rfl, hb⟩
      have HB := Lib.hid hb
      clear hb
      go_wp2_with fail
      refine (pnum_any al l.length cap w1).mono ?_
      rintro x w2 ⟨rfl, hw2⟩
      have hb2 : Below w1.heap.size w1 w2 := by rw [hw2]; exact (Below.refl _ _).alloc (Nat.le_refl _) _
      have hs2 : w2.heap.size = w1.heap.size + 1 := by rw [hw2]; simp
      have hq2 : w2.cell? ⟨w1.heap.size, 0, none⟩ = some (.slice al l.length cap) := by rw [hw2]; simp
      have HV2 := HV.out.below (HB.out.trans (hb2.mono HB.out.size))
      have HB2 := Lib.hid (HB.out.trans (hb2.mono HB.out.size))
      have HC := Lib.hid (pcoll_any (numD l) (1 + 4 * l.length) (VN l (.slice al l.length cap) w1.heap.size) w2 (by omega) (enters_of Try.func61 (by kernel_rfl) rfl) (pnum1_seq _ l w1.heap.size w2 HM.out HV2 hq2) (by
        rintro b (rfl | ⟨hl, a, n, c, hv, rfl⟩)
        · omega
        · exact ens_lt HV2 hl hv))
      clear hw2 hb2 hs2 hq2 HV2 HB
      go_wp2_with fail
      refine HC.out.mono ?_
      rintro x w3 ⟨v3, rfl, ho, hb3⟩
      have HB3 := Lib.hid (HB2.out.trans (hb3.mono HB2.out.size))
      have HA := Lib.hid (allL_any v3 _ w3 ho.wordsAt (by rw [upW_len]; omega) (num_wide l HM.out hl))
      rw [encs_all] at HA
      clear HC HB2 ho hb3
      go_wp2_with fail
      refine HA.out.mono ?_
      rintro x w4 ⟨v4, rfl, ho, hb4⟩
      have HB4 := Lib.hid (HB3.out.trans (hb4.mono HB3.out.size))
      have hba := ho.bytesAt
      have hrs := run_str w4 v4 (textI l) hba
      obtain ⟨a4, cap4, rfl, _⟩ := hba
      clear HA HB3 ho hb4
      go_wp2_with fail
      go_ret2
      exact ⟨rfl, HB4.out⟩
  · have he : encB l = rowN l := by unfold encB; rw [if_neg h0]
    have ht : encT l = ByteArray.mk #[] := by unfold encT; rw [if_neg (by rw [he]; exact h0)]
    rw [he, ht]
    have hne : (rowN l == 0) = false := by simpa using h0
    generalize rowN l = r at *
    clear h0 he ht hcap hmx hm
    go_enter Try.func17, Try.ntmps17
    go_wp2_with fail
    refine HR.out.mono ?_
    rintro x w1 ⟨rfl, hb⟩
    go_wp2_with fail
    go_ret2
    exact ⟨rfl, hb⟩
end Go.Proofs.Ytbkodaijigcebaa
/- The program's Size. -/
namespace Go.Proofs.Ytbkodaijigcebaa
open Go.RowKit Go.Shelf
set_option maxRecDepth 20000
set_option linter.unusedVariables false
set_option linter.unusedSimpArgs false
theorem round_any {P : Program} {ops : Array Oper} {Q : Exit → Act → World → Prop} {l n id : Nat} {a : Act} {w : World} (hm : P.follows .mixedOrders = true) (hops : noDefer ops = true) (hQ : ¬ LetsOut Q)
    (h : wpAny P .any ops Q ops.size (Array.replicate ops.size false) a w.drew) : (Code.region id ops true).wpIn (Fence.wide.inRound l) n P Q a w :=
  wpIn_region_draw fun t => by
    simp only [Region.schedule, hm, Bool.true_or, if_true]
    exact ops_round hQ hops _ _ _ (wpAny_sound ops.size t _ a _ h)
/-- What the sum has when k numbers are come. -/
def SumI (val : Nat → Int) (n0 : Nat) (w : World) (k : Nat) (S : Nat → Prop) (W : World) : Prop :=
  (Boxed W n0 3 (.int .i64 ((encs (upW val k)).length : Int)) ∧ ∀ b, S b ↔ b = n0) ∧ Below w.heap.size w W
theorem sum_bears (val : Nat → Int) (n0 : Nat) (w : World) (B : Nat) (hB : w.heap.size ≤ B) : Bears2 (fun _ => False) B (SumI val n0 w) :=
  Bears.and (bears_own (β := Nat × (Nat → Prop)) (J := fun s W => Boxed W n0 3 (.int .i64 ((encs (upW val s.1)).length : Int)) ∧ ∀ b, s.2 b ↔ b = n0) (fun s X Y row hs hg hr => ⟨hs.1.kept hg (fun e' => by
    obtain ⟨o, ho, hc⟩ := hr n0 e'.symm
    rw [show X.heap[n0]? = _ from hs.1] at ho; cases ho; cases hc), hs.2⟩) B) (bears_below (Nat.le_refl _) hB (fun _ h => h.elim))
attribute [local go_sem] Oper.semAt_some
set_option maxRecDepth 100000 in
set_option maxHeartbeats 2000000 in
theorem psizD_any (v : Value) (l : List En) (w : World) (hv : EnsAt w v l) (hm : MaysN l) (hl : l.length ≤ 5000) : Calls Try.prog 24 #[v] w fun x w' => x = .returned (.int .i64 (sizD l)) ∧ Below w.heap.size w w' := by
  have HR := Lib.hid (prow_any v l w hv hm)
  have HV := Lib.hid hv
  have HM := Lib.hid hm
  obtain ⟨al, cap, rfl, hcap, hmx, _⟩ := hv
  by_cases h0 : rowN l = 0
  · have HE := Lib.hid (show sizD l = ((textI l).length : Int) from by unfold sizD; rw [if_pos h0])
    have hlen : (textI l).length ≤ 200010 := by rw [textI_len]; have := textD_len l; omega
    rw [h0] at HR
    clear h0 hcap hmx hm
    refine (callsIn_wide (n := 3)).1 ?_
    refine callsIn_of_wp_marks Try.func24 rfl trivial ?_ rfl
    simp only [Try.ntmps24, List.size_toArray, List.length_cons, List.length_nil, Nat.reduceAdd, Nat.reduceSub, Array.replicate_succ, Array.replicate_zero, List.push_toArray, List.append_toArray, List.nil_append, List.cons_append]
    gi_wp2
    refine ⟨trivial, (callsIn_wide.2 HR.out).mono ?_⟩
    rintro x w1 ⟨rfl, hb⟩
    have HB := Lib.hid hb
    clear hb
    gi_wp2
    refine ⟨trivial, (callsIn_wide.2 (pnum_any al l.length cap _)).mono ?_⟩
    rintro x w2 ⟨rfl, hw2⟩
    gi_wp2
    rw [← hw2]
    have hs2 : w2.heap.size = w1.heap.size + 2 := by rw [hw2]; simp
    have hb2 : Below w1.heap.size w1 w2 := by rw [hw2]; exact ((Below.refl _ _).alloc (Nat.le_refl _) _).alloc (by simp) _
    have hq2 : w2.cell? ⟨w1.heap.size + 1, 0, none⟩ = some (.slice al l.length cap) := by rw [hw2]; simp
    have hx2 : Boxed w2 w1.heap.size 3 (.int .i64 0) := by rw [hw2]; exact (Boxed.new w1 _ _).alloc _
    have HV2 := HV.out.below (HB.out.trans (hb2.mono HB.out.size))
    have hBw := HB.out.trans (hb2.mono HB.out.size)
    have hv1 : ∀ {a : Addr} {n c : Nat}, l ≠ [] → Value.slice al l.length cap = .slice (some a) n c → a.block < w.heap.size := fun hl hv => ens_lt HV.out hl hv
    have hw1 := HB.out.size
    refine range_d1 (n := 3) (val := fun k => .int .u64 (numD l k)) (p := 10) (r := 4) rfl (enters_of Try.func61 (by kernel_rfl) rfl) (pnum1_seq _ l (w1.heap.size + 1) w2 HM.out HV2 hq2) (Below.refl _ _) (fun _ h => h.elim) ?hV
      (SumI (numD l) w1.heap.size w) (fun _ _ _ => False) ?hI (fun _ _ _ _ _ h _ _ => h) ?hG (fun b => b = w1.heap.size) ?hS0 ?h0 (fun _ _ _ _ _ _ _ _ => trivial) ?assign ?body ?done (fun _ _ _ _ _ _ h _ => h.elim)
    case hV =>
      rintro b (rfl | ⟨hl, a, n, c, hv, rfl⟩)
      · omega
      · exact ens_lt HV2 hl hv
    case hI => exact sum_bears _ _ w _ hBw.size
    case hG => exact fun k S W h => ⟨trivial, fun b hb => by rw [(h.1.2 b).1 hb]; exact h.1.1.lt⟩
    case hS0 =>
      rintro b rfl
      refine ⟨by omega, ?_⟩
      rintro (h | ⟨hl, a, n, c, hv, h⟩)
      · omega
      · have := hv1 hl hv; omega
    case h0 => exact ⟨⟨hx2, fun b => Iff.rfl⟩, hBw⟩
    case assign =>
      intro lq k W' K hK
      simp only [List.setIfInBounds_toArray, List.set_cons_zero, List.set_cons_succ] at hK ⊢
      gi_wp2
      exact hK
    case body =>
      rintro lq k S W hlq hI hk
      have hwd := num_wide l HM.out hl k (by rw [upW_len]; exact hk)
      have hnx : (upW (numD l) (1 + 4 * l.length)).getD k 0 = numD l k := by
        unfold upW
        rw [List.getD_eq_getElem?_getD, List.getElem?_map, List.getElem?_range hk]
        rfl
      rw [hnx] at hwd
      have hlk := encs_len (upW (numD l) k)
      rw [upW_len] at hlk
      have HI := Lib.hid hI
      obtain ⟨⟨hv, hSS⟩, hB⟩ := hI
      have hvc := hv.cell
      have hvf := hv.frozen
      have HSS := Lib.hid hSS
      have hnext : Hid ((encs (upW (numD l) (k + 1))).length = (encs (upW (numD l) k)).length + (enc (numD l k)).length) := Lib.hid (by rw [upW_succ, encs_snoc, List.length_append])
      have hel := (enc_len (numD l k)).2
      clear hnx hv hSS hB
      generalize numD l k = x at *
      obtain ⟨m, hm⟩ : ∃ m, (encs (upW (numD l) k)).length = m := ⟨_, rfl⟩
      rw [hm] at hvc hlk
      simp only [List.setIfInBounds_toArray, List.set_cons_zero, List.set_cons_succ]
      have hdc : W.drew.cell? ⟨w1.heap.size, 0, none⟩ = some (.int .i64 (m : Int)) := hvc
      have hdf : W.drew.frozen? ⟨w1.heap.size, 0, none⟩ = false := hvf
      have hwm : IntKind.i64.wrap ((m : Int) + ((enc x).length : Int)) = (m : Int) + ((enc x).length : Int) := by rw [IntKind.wrap_i64] <;> omega
      have HH := Lib.hid (And.intro hm hlk)
      clear hlk hel hvc hvf
      gi_wp2
      refine round_any (by kernel_rfl) (by kernel_rfl) (by rintro ⟨a, w, h⟩; exact h) ?_
      change wpAny _ _ _ _ _ _ _ W.drew
      refine wpAny_take (i := 1) (v := ?_) rfl (by kernel_rfl) (by kernel_rfl) (by kernel_rfl) (fun _ _ _ h => h) (Or.inl ⟨by rfl, ?y1⟩) ?_
      case y1 => intro w; go_simp; try with_reducible rfl
      try simp only [Act.put, List.setIfInBounds_toArray, List.set_cons_zero, List.set_cons_succ]
      refine wpAny_ready (rs := [0, 2]) (by kernel_rfl) (by simp) ?_
      refine AllReady.cons rfl (fun K hK => ?_) (AllReady.cons rfl (fun K hK => ?_) AllReady.nil)
      · go_simp
        refine hK _ _ ?_
        clear hK K
        try simp only [Act.put, List.setIfInBounds_toArray, List.set_cons_zero, List.set_cons_succ]
        refine wpAny_ready (rs := [2]) (by kernel_rfl) (by simp) ?_
        refine AllReady.cons rfl (fun K hK => ?_) AllReady.nil
        go_simp
        refine (size_any x _ hwd.1 hwd.2).mono ?_
        rintro e w' ⟨rfl, rfl⟩
        go_wp2_with fail
        try simp only [Act.put, List.setIfInBounds_toArray, List.set_cons_zero, List.set_cons_succ]
        refine wpAny_take (i := 3) (v := ?_) rfl (by kernel_rfl) (by kernel_rfl) (by kernel_rfl) (fun _ _ _ h => h) (Or.inl ⟨by rfl, ?y3⟩) ?_
        case y3 => intro w; go_simp; try with_reducible rfl
        try simp only [Act.put, List.setIfInBounds_toArray, List.set_cons_zero, List.set_cons_succ]
        refine wpAny_ready (rs := [4]) (by kernel_rfl) (by simp) ?_
        refine AllReady.cons rfl (fun K hK => ?_) AllReady.nil
        go_simp
        refine hK _ _ ?_
        clear hK K
        try simp only [Act.put, List.setIfInBounds_toArray, List.set_cons_zero, List.set_cons_succ]
        refine wpAny_done (by kernel_rfl) ?_ _
        refine ⟨S, ⟨⟨?_, HSS.out⟩, ?_⟩, ?_⟩
        · have := (HI.out.1.1.set (W := W) (.int .i64 ((m : Int) + ((enc x).length : Int))))
          rw [hnext.out, hm]
          push_cast
          exact this
        · exact HI.out.2.drew.setCell (p := ⟨w1.heap.size, 0, none⟩) hw1 _
        · exact (KeepsS.below S (Below.drew (Below.refl _ _))).trans (KeepsS.setCell S W.drew ⟨w1.heap.size, 0, none⟩ _ ((HSS.out _).2 rfl))
      · go_simp
        refine (size_any x _ hwd.1 hwd.2).mono ?_
        rintro e w' ⟨rfl, rfl⟩
        go_wp2_with fail
        try simp only [Act.put, List.setIfInBounds_toArray, List.set_cons_zero, List.set_cons_succ]
        refine wpAny_ready (rs := [0]) (by kernel_rfl) (by simp) ?_
        refine AllReady.cons rfl (fun K hK => ?_) AllReady.nil
        go_simp
        refine hK _ _ ?_
        clear hK K
        try simp only [Act.put, List.setIfInBounds_toArray, List.set_cons_zero, List.set_cons_succ]
        refine wpAny_take (i := 3) (v := ?_) rfl (by kernel_rfl) (by kernel_rfl) (by kernel_rfl) (fun _ _ _ h => h) (Or.inl ⟨by rfl, ?y3⟩) ?_
        case y3 => intro w; go_simp; try with_reducible rfl
        try simp only [Act.put, List.setIfInBounds_toArray, List.set_cons_zero, List.set_cons_succ]
        refine wpAny_ready (rs := [4]) (by kernel_rfl) (by simp) ?_
        refine AllReady.cons rfl (fun K hK => ?_) AllReady.nil
        go_simp
        refine hK _ _ ?_
        clear hK K
        try simp only [Act.put, List.setIfInBounds_toArray, List.set_cons_zero, List.set_cons_succ]
        refine wpAny_done (by kernel_rfl) ?_ _
        refine ⟨S, ⟨⟨?_, HSS.out⟩, ?_⟩, ?_⟩
        · have := (HI.out.1.1.set (W := W) (.int .i64 ((m : Int) + ((enc x).length : Int))))
          rw [hnext.out, hm]
          push_cast
          exact this
        · exact HI.out.2.drew.setCell (p := ⟨w1.heap.size, 0, none⟩) hw1 _
        · exact (KeepsS.below S (Below.drew (Below.refl _ _))).trans (KeepsS.setCell S W.drew ⟨w1.heap.size, 0, none⟩ _ ((HSS.out _).2 rfl))
    case done =>
      rintro D S W hD hSD hI _ hDW
      obtain ⟨⟨hv, _⟩, hB⟩ := hI
      have hvc := hv.cell
      have HH := Lib.hid (And.intro hD (And.intro hDW hB))
      clear hv hB hDW
      rw [encs_all] at hvc
      gi_wp2
      obtain ⟨h1, h2, h3⟩ := HH.out
      refine ⟨by simp, .inl ⟨_, _, rfl, run_takeDeferred h2, ?_⟩⟩
      refine ⟨_, results_tmp rfl _ _ _, by rw [HE.out]; rfl, ?_⟩
      exact (bears_below (β := Unit) (T := fun _ => False) (Nat.le_refl _) (B := w.heap.size) (Nat.le_refl _) (fun _ h => h.elim)).put (s := ()) h3 _ (by omega) h2 rfl
  · have he : sizD l = 0 := by unfold sizD; rw [if_neg h0]
    rw [he]
    have hne : (rowN l == 0) = false := by simpa using h0
    generalize rowN l = r at *
    clear h0 he hcap hmx hm
    go_enter Try.func24, Try.ntmps24
    go_wp2_with fail
    refine HR.out.mono ?_
    rintro x w1 ⟨rfl, hb⟩
    go_wp2_with fail
    go_ret
    exact ⟨rfl, hb⟩
end Go.Proofs.Ytbkodaijigcebaa
