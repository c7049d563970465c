/- The contract of the document's Rows. -/
import Derived.Test.YtleicghfcffblaaNb
import Derived.Test.YtleicghfcffblaaMK
import Derived.Test.YtleicghfcffblaaMM
import Derived.Test.YtleicghfcffblaaMR
import Derived.Test.YtleicghfcffblaaMB
namespace Go.Proofs.Ytleicghfcffblaa
open Go.RowKit
set_option maxRecDepth 20000
set_option linter.unusedVariables false
set_option linter.unusedSimpArgs false
theorem info_rent2 : (Try.prog.info? 89).map (fun i => (i.zero, i.size, i.bytes)) = some (some (.agg #[.int .u64 0, .int .u64 0, .int .u32 0, .int .u32 0]), 4, 24) := by kernel_rfl
/-- An append of one entry, told with where the row lies. -/
theorem eappend_run (W : World) (ty : TypeId) (B : Nat) (v : Value) (L : List En) (e : En) (b c : Nat) (hown : OwnE W B 89 v L) (he : EAt W b e) (hl : L.length ≤ 1000000) (hB : B ≤ W.heap.size) :
    ∃ v' w', (Builtin.append_ #[33, 33] ty #[v, .slice (some ⟨b, 0, none⟩) 1 c]).run Try.prog W = .ok v' w' ∧ OwnE w' B 89 v' (L ++ [e]) ∧ W.grownBy w' v.ownBlock ∧ (v'.ownBlock = v.ownBlock ∨ ∃ g, v'.ownBlock = some g ∧ W.heap.size ≤ g) := by
  obtain ⟨v', w', hr, h2, h3, h4⟩ := rappend_run 4 24 W B 33 89 ty _ Try.underlying33 info_rent2 rfl (by omega) (by omega) v L.length (flat4 L) hown ⟨b, 0, none⟩ 1 c (flat4 [e]) rfl (by
    intro j u hu
    match j, hu with
    | 0, hu => simp only [flat4_one1, cE, List.getElem?_cons_zero, Option.some.injEq] at hu; rw [← hu]; exact he.1
    | 1, hu => simp only [flat4_one1, cE, List.getElem?_cons_succ, List.getElem?_cons_zero, Option.some.injEq] at hu; rw [← hu]; exact he.2.1
    | 2, hu => simp only [flat4_one1, cE, List.getElem?_cons_succ, List.getElem?_cons_zero, Option.some.injEq] at hu; rw [← hu]; exact he.2.2.1
    | 3, hu => simp only [flat4_one1, cE, List.getElem?_cons_succ, List.getElem?_cons_zero, Option.some.injEq] at hu; rw [← hu]; exact he.2.2.2
    | j + 4, hu => simp [flat4_one1, cE] at hu) (flat4_cells [e]) (by omega) (by omega) hB
  exact ⟨v', w', hr, owne_conv h2 (by simp) (by rw [flat4_append]), h3, h4⟩
/-- A row of texts lies in another block than a row of one's own. -/
def SepT (va : Value) (ts : List ByteArray) (vo : Value) : Prop := ∀ a n c, va = .slice (some a) n c → ts ≠ [] → vo.ownBlock ≠ some a.block
/-- A row of texts that lies elsewhere stays where a row of one's own grows. -/
theorem StrsAt.grown {w w' : World} {va vo : Value} {ts : List ByteArray} (h : StrsAt w va ts) (hs : SepT va ts vo) (hg : w.grownBy w' vo.ownBlock) : StrsAt w' va ts := by
  obtain ⟨a, cap, rfl, h1, h2, hc⟩ := h
  refine ⟨a, cap, rfl, h1, h2, fun k t ht => ?_⟩
  obtain ⟨g, off, rfl, hlt, c0⟩ := hc k t ht
  have hn := hs ⟨g, off, none⟩ _ _ rfl (by rintro rfl; simp at ht)
  have hb := hg.block g hlt (fun e => hn e.symm)
  exact ⟨g, off, rfl, Nat.lt_of_lt_of_le hlt hg.size, (World.cell?_of_block (a := ⟨g, off + k, none⟩) hb).trans c0⟩
theorem flat4_set (r : List En) (a : En) (x : Int) : (flat4 (r ++ [a])).set (r.length * 4 + 3) (.int .u32 x) = flat4 (r ++ [{ a with rn := x }]) := by
  rw [flat4_append, flat4_append, List.set_append, if_neg (by rw [flat4_len]; omega), flat4_len, Nat.add_sub_cancel_left]
  rfl
/-- The last entry's Run made another one. -/
theorem own_run {w : World} {B g cap : Nat} {E : TypeId} {r : List En} {a : En} (h : OwnE w B E (.slice (some ⟨g, 0, none⟩) (r.length + 1) cap) (r ++ [a])) (x : Int) : OwnE (w.setCell ⟨g, r.length * 4 + 3, none⟩ (.int .u32 x)) B E (.slice (some ⟨g, 0, none⟩) (r.length + 1) cap) (r ++ [{ a with rn := x }]) ∧ w.grownBy (w.setCell ⟨g, r.length * 4 + 3, none⟩ (.int .u32 x)) (some g) := by
  unfold OwnE at h ⊢
  rw [List.length_append, List.length_singleton] at h ⊢
  have h2 := World.ownsRow.stored h (r.length * 4 + 3) (.int .u32 x)
  rw [flat4_set] at h2
  exact h2
/-- Whether the last entry and a new one are one. -/
def lastOne (rows : List En) (e : En) : Bool := match rows.getLast? with
  | some a => oneE a e
  | none => false
theorem lastOne_concat (r : List En) (a e : En) : lastOne (r ++ [a]) e = oneE a e := by unfold lastOne; rw [List.getLast?_concat]
theorem addE_no {rows : List En} {e : En} (h : lastOne rows e = false) : addE rows e = rows ++ [e] := by
  rcases List.eq_nil_or_concat rows with rfl | ⟨r, a, rfl⟩
  · rfl
  · rw [List.concat_eq_append] at *
    rw [lastOne_concat] at h
    rw [addE_concat, h]
    rfl
theorem addE_yes {rows : List En} {e : En} (h : lastOne rows e = true) : ∃ r a, rows = r ++ [a] ∧ addE rows e = r ++ [{ a with rn := a.rn + 1 }] := by
  rcases List.eq_nil_or_concat rows with rfl | ⟨r, a, rfl⟩
  · cases h
  · rw [List.concat_eq_append] at *
    rw [lastOne_concat] at h
    exact ⟨r, a, rfl, by rw [addE_concat, h]; rfl⟩
theorem run_le {l : List En} {d : ByteArray} {e : En} (he : e ∈ l) : e.rn.toNat ≤ (expN l d).length := by
  obtain ⟨a, b, rfl⟩ := List.append_of_mem he
  rw [show a ++ e :: b = a ++ ([e] ++ b) by simp, expN_append, expN_append, expN_one, List.length_append, List.length_append, runN_len]
  omega
theorem SepT.new {W : World} {va vo vo' : Value} {ts : List ByteArray} (h : SepT va ts vo) (hs : StrsAt W va ts) (hv : vo'.ownBlock = vo.ownBlock ∨ ∃ g, vo'.ownBlock = some g ∧ W.heap.size ≤ g) : SepT va ts vo' := by
  intro a n c e hne ho
  rcases hv with hv | ⟨g, hv, hge⟩
  · exact h a n c e hne (by rw [← hv]; exact ho)
  · obtain ⟨a', cap, e2, _, _, hc⟩ := hs
    rw [e] at e2
    cases e2
    cases ts with
    | nil => exact hne rfl
    | cons t ts =>
      obtain ⟨g', off, e3, hlt, _⟩ := hc 0 t rfl
      cases e3
      rw [ho] at hv
      injection hv with hv
      simp only at hv
      omega
def RRowsEnd (L : List It) (w : World) (x : Ending) (w' : World) : Prop := ∃ v', x = .returned (.tuple #[v', .string (catF (rowsS L).2)]) ∧ EnsAt w' v' (rowsS L).1 ∧ Below w.heap.size w w'
/-- What the loop keeps. -/
structure RwS (w W : World) (L : List It) (k : Nat) (va vo : Value) : Prop where
  all : StrsAt W va (rowsS (L.take k)).2
  out : OwnE W w.heap.size 89 vo (rowsS (L.take k)).1
  sep : SepT va (rowsS (L.take k)).2 vo
  bel : Below w.heap.size w W
theorem RwS.below {w W W' : World} {L : List It} {k : Nat} {va vo : Value} (h : RwS w W L k va vo) (hb : Below W.heap.size W W') : RwS w W' L k va vo := ⟨h.all.below hb, h.out.below hb, h.sep, h.bel.trans (hb.mono h.bel.size)⟩
/-- Behind the document's Add. -/
theorem rws_add {w W W' : World} {L : List It} {k : Nat} {va vo v' : Value} {t : It} (h : RwS w W L k va vo) (ht : L[k]? = some t) (h1 : StrsAt W' v' (newL (rowsS (L.take k)).2 t.2)) (hb : Below W.heap.size W W') (h2 : ∀ a n c, v' = .slice (some a) n c → v' = va ∨ (W.heap.size ≤ a.block ∧ a.block < W'.heap.size)) :
    StrsAt W' v' (rowsS (L.take (k + 1))).2 ∧ OwnE W' w.heap.size 89 vo (rowsS (L.take k)).1 ∧ SepT v' (rowsS (L.take (k + 1))).2 vo ∧ Below w.heap.size w W' := by
  have e : (rowsS (L.take (k + 1))).2 = newL (rowsS (L.take k)).2 t.2 := by rw [rowsS_step L k t ht]; rfl
  rw [e]
  refine ⟨h1, h.out.below hb, fun a n c hv hne ho => ?_, h.bel.trans (hb.mono h.bel.size)⟩
  rcases h2 a n c hv with hva | ⟨hge, _⟩
  · obtain ⟨_, _, e1, _⟩ := h1
    obtain ⟨_, _, e2, _⟩ := h.all
    rw [hva, e2] at e1
    injection e1 with _ e3 _
    have hne2 : (rowsS (L.take k)).2 ≠ [] := by
      intro hz
      have e4 := congrArg List.length hz
      rw [List.length_nil] at e4
      exact hne (List.eq_nil_of_length_eq_zero (by omega))
    exact h.sep a n c (by rw [← hva]; exact hv) hne2 ho
  · have := (h.out.lt _ ho).2
    omega
set_option maxHeartbeats 8000000 in
theorem rrows_any (v : Value) (L : List It) (w : World) (hv : ItsAt w v L) (hg : GoodC L) : Calls Try.prog 11 #[v] w (RRowsEnd L w) := by
  have HG := Lib.hid hg
  have HRI := Lib.hid (fun k hk => rinv_take hg k hk)
  obtain ⟨al, cap, rfl, hcap, hmx, hc⟩ := hv
  have HC := Lib.hid hc
  have hfew := hg.few
  have hmx' : L.length ≤ maxLen := by omega
  unfold maxLen at hmx'
  clear hc hg
  unfold RRowsEnd
  go_enter Try.func11, Try.ntmps11
  go_wp2_with fail
  go_loopw [4, 5, 6] (fun va vo i wr => ∃ k : Nat, k ≤ L.length ∧ i = .int .i64 k ∧ RwS w wr L k va vo) (fun _ _ i _ => L.length - (intOf i).toNat)
  case atStart => exact ⟨0, Nat.zero_le _, rfl, strsAt_nil _, ownE_nil _ _ _, (fun a n c h => by cases h), Below.refl _ _⟩
  case round =>
    obtain ⟨k, hk, rfl, hS⟩ := hrel
    have hri := HRI.out k hk
    have htot := hri.good.tot
    by_cases hlt : k < L.length
    · obtain ⟨⟨x, t⟩, htk⟩ : ∃ t, L[k]? = some t := ⟨_, List.getElem?_eq_getElem hlt⟩
      obtain ⟨g, off, rfl, hg, c0, c1⟩ := HC.out k _ htk
      have hm := List.mem_of_getElem? htk
      have d0 := (hS.bel.cell (p := ⟨g, off + k * 2, none⟩) hg).trans c0
      have d1 := (hS.bel.cell (p := ⟨g, off + k * 2 + 1, none⟩) hg).trans c1
      have hki : (k : Int) < (L.length : Int) := by omega
      have HAD := Lib.hid (radd_any u4 (rowsS (L.take k)).2 t wr hS.all (by omega))
      have HST := Lib.hid (fun W' v' h1 hb h2 => rws_add (W' := W') (v' := v') (t := (x, t)) hS htk h1 hb h2)
      have HNX : Hid ((rowsS (L.take (k + 1))).1 = addE (rowsS (L.take k)).1 (newE (rowsS (L.take k)).2 (x, t))) := Lib.hid (by rw [rowsS_step L k _ htk]; rfl)
      have hne : newE (rowsS (L.take k)).2 (x, t) = ⟨x, offA (rowsS (L.take k)).2 t, lenA (rowsS (L.take k)).2 t, 1⟩ := rfl
      have hbel := hS.bel
      have hlen := hri.len
      have hgad := hri.good.add t
      have hok := hri.ok
      have hfw := hri.few
      have hex := congrArg List.length hri.exp
      generalize hrows : (rowsS (L.take k)).1 = rows at *
      generalize hts : (rowsS (L.take k)).2 = ts at *
      rw [List.length_take] at hlen hfw
      have hpl := new_place (ts := ts) (s := t) (HG.out.pos _ hm) (HG.out.short _ hm) (by omega)
      have hfl := findF_le _ _ _ _ hpl.2
      have htt : totF (newL ts t) ≤ 134217728 := hgad.tot
      have hts2 : t.size ≤ 65536 := HG.out.short _ hm
      rw [hpl.1] at hne
      rw [hne] at HNX
      dsimp only at d0 d1 HST
      have hrn : ∀ e ∈ rows, e.rn ≤ 2048 := fun e he => by have := run_le (d := catF ts) he; rw [List.length_take] at hex; omega
      clear hri hgad hne hrows hts hex hm
      obtain ⟨e1, he1⟩ : ∃ e1 : En, e1 = ⟨x, offA ts t, t.size, 1⟩ := ⟨_, rfl⟩
      rw [← he1] at HNX
      have hme1 : MayN e1 := by rw [he1]; unfold MayN; have := HG.out.low _ (List.mem_of_getElem? htk); simp only at this ⊢; omega
      have HE1 := Lib.hid he1
      have hl := hpl.1
      dsimp only at c0 c1
      clear hpl hfl htt he1 hS
      go_wp2_with fail
      refine HAD.out.mono ?_
      rintro y w1 ⟨v', rfl, hst, hb, hloc⟩
      have H1 := Lib.hid (HST.out w1 v' hst hb hloc)
      have hg1 : g < w1.heap.size := Nat.lt_of_lt_of_le hg H1.out.2.2.2.size
      have f0 := (H1.out.2.2.2.cell (p := ⟨g, off + k * 2, none⟩) hg).trans c0
      have f0a : ∀ O, (w1.alloc O).cell? ⟨g, off + k * 2, none⟩ = _ := fun O => (((Below.refl _ w1).alloc (Nat.le_refl _) O).cell (p := ⟨g, off + k * 2, none⟩) hg1).trans f0
      have f0b : ∀ O O', ((w1.alloc O).alloc O').cell? ⟨g, off + k * 2, none⟩ = _ := fun O O' => (((Below.refl _ (w1.alloc O)).alloc (Nat.le_refl _) O').cell (p := ⟨g, off + k * 2, none⟩) (by show g < _; rw [World.size_alloc]; omega)).trans (f0a O)
      clear hst hb hloc HAD HST d0 d1 c0 c1 hg
      have hgg := hg1
      clear hg1
      go_upto_region 8 with fail
      go_cut [11] (fun p wx => ∃ b, p = .pointer (some ⟨b, 0, none⟩) ∧ EAt wx b e1 ∧ Below w1.heap.size w1 wx)
      case first =>
        clear hgg
        go_region
        all_goals
          go_wp2_with fail
          go_meet
          case rel => exact ⟨_, rfl, by rw [HE1.out]; exact ⟨by simp [go_sem], by simp [go_sem], by simp [go_sem], by simp [go_sem]⟩, by go_grown⟩
      case rest =>
        obtain ⟨b, rfl, hE, hb8⟩ := hcut
        generalize wc = W8 at *
        have H8 : Hid (StrsAt W8 v' (rowsS (L.take (k + 1))).2 ∧ OwnE W8 w.heap.size 89 u5 rows ∧ SepT v' (rowsS (L.take (k + 1))).2 u5 ∧ Below w.heap.size w W8) := Lib.hid ⟨H1.out.1.below hb8, H1.out.2.1.below hb8, H1.out.2.2.1, H1.out.2.2.2.trans (hb8.mono H1.out.2.2.2.size)⟩
        have HE8 := Lib.hid hE
        clear hb8 hE H1 f0 f0a f0b hgg hl
        go_upto_region 9 with fail
        go_cut [53] (fun q wx => q = .bool (lastOne rows e1) ∧ Below W8.heap.size W8 wx)
        case first =>
          have HKE := Lib.hid (fun X (hX : Below W8.heap.size W8 X) => HE8.out.later hX)
          rcases List.eq_nil_or_concat rows with rfl | ⟨r, a, rfl⟩
          · obtain ⟨au, cu, hu⟩ : ∃ a c, u5 = .slice a 0 c := by
              rcases H8.out.2.1.form with ⟨h, _⟩ | ⟨g, c, h, _⟩
              · exact ⟨_, _, h⟩
              · exact ⟨_, _, h⟩
            subst hu
            refine wp_region_held_drew (S := fun w' => (w'.cell? ⟨b, 0, none⟩ = some (.int .u64 e1.id) ∧ w'.cell? ⟨b, 1, none⟩ = some (.int .u64 e1.off) ∧ w'.cell? ⟨b, 2, none⟩ = some (.int .u32 e1.ln) ∧ w'.cell? ⟨b, 3, none⟩ = some (.int .u32 e1.rn)) ∧ Below W8.heap.size W8 w') (by kernel_rfl) ⟨HKE.out _ (Below.drew (Below.refl _ _)), Below.drew (Below.refl _ _)⟩ (fun hH0 => ?_)
            refine takeH (i := 0) (d := 41) (v := ?_) rfl rfl (by kernel_rfl) (by kernel_rfl) (by kernel_rfl) (fun _ _ _ h => h) (Or.inl ⟨by rfl, ?y0⟩) hH0 ?_
            case y0 => intro w hSw; go_simp; try with_reducible rfl
            try simp only [Act.put, List.setIfInBounds_toArray, List.set_cons_zero, List.set_cons_succ]
            refine takeH (i := 1) (d := 42) (v := ?_) rfl rfl (by kernel_rfl) (by kernel_rfl) (by kernel_rfl) (fun _ _ _ h => h) (Or.inl ⟨by rfl, ?y1⟩) hH0 ?_
            case y1 => intro w hSw; go_simp; try with_reducible rfl
            try simp only [Act.put, List.setIfInBounds_toArray, List.set_cons_zero, List.set_cons_succ]
            refine takeH (i := 2) (d := 43) (v := ?_) rfl rfl (by kernel_rfl) (by kernel_rfl) (by kernel_rfl) (fun _ _ _ h => h) (Or.inl ⟨by rfl, ?y2⟩) hH0 ?_
            case y2 => intro w hSw; go_simp; try with_reducible rfl
            try simp only [Act.put, List.setIfInBounds_toArray, List.set_cons_zero, List.set_cons_succ]
            refine takeH (i := 3) (d := 44) (v := ?_) rfl rfl (by kernel_rfl) (by kernel_rfl) (by kernel_rfl) (fun _ _ _ h => h) (Or.inl ⟨by rfl, ?y3⟩) hH0 ?_
            case y3 => intro w hSw; go_simp; try with_reducible rfl
            try simp only [Act.put, List.setIfInBounds_toArray, List.set_cons_zero, List.set_cons_succ]
            refine takeH (i := 4) (d := 45) (v := undef) rfl rfl (by kernel_rfl) (by kernel_rfl) (by kernel_rfl) (fun _ _ _ h => h) (Or.inr ⟨by rfl, rfl⟩) hH0 ?_
            try simp only [Act.put, List.setIfInBounds_toArray, List.set_cons_zero, List.set_cons_succ]
            refine takeH (i := 5) (d := 46) (v := undef) rfl rfl (by kernel_rfl) (by kernel_rfl) (by kernel_rfl) (fun _ _ _ h => h) (Or.inr ⟨by rfl, rfl⟩) hH0 ?_
            try simp only [Act.put, List.setIfInBounds_toArray, List.set_cons_zero, List.set_cons_succ]
            refine takeH (i := 6) (d := 47) (v := undef) rfl rfl (by kernel_rfl) (by kernel_rfl) (by kernel_rfl) (fun _ _ _ h => h) (Or.inr ⟨by rfl, rfl⟩) hH0 ?_
            try simp only [Act.put, List.setIfInBounds_toArray, List.set_cons_zero, List.set_cons_succ]
            refine takeH (i := 7) (d := 48) (v := undef) rfl rfl (by kernel_rfl) (by kernel_rfl) (by kernel_rfl) (fun _ _ _ h => h) (Or.inr ⟨by rfl, rfl⟩) hH0 ?_
            try simp only [Act.put, List.setIfInBounds_toArray, List.set_cons_zero, List.set_cons_succ]
            refine takeH (i := 8) (d := 49) (v := undef) rfl rfl (by kernel_rfl) (by kernel_rfl) (by kernel_rfl) (fun _ _ _ h => h) (Or.inr ⟨by rfl, rfl⟩) hH0 ?_
            try simp only [Act.put, List.setIfInBounds_toArray, List.set_cons_zero, List.set_cons_succ]
            refine takeH (i := 9) (d := 50) (v := undef) rfl rfl (by kernel_rfl) (by kernel_rfl) (by kernel_rfl) (fun _ _ _ h => h) (Or.inr ⟨by rfl, rfl⟩) hH0 ?_
            try simp only [Act.put, List.setIfInBounds_toArray, List.set_cons_zero, List.set_cons_succ]
            refine takeH (i := 10) (d := 51) (v := undef) rfl rfl (by kernel_rfl) (by kernel_rfl) (by kernel_rfl) (fun _ _ _ h => h) (Or.inr ⟨by rfl, rfl⟩) hH0 ?_
            try simp only [Act.put, List.setIfInBounds_toArray, List.set_cons_zero, List.set_cons_succ]
            refine takeH (i := 11) (d := 52) (v := undef) rfl rfl (by kernel_rfl) (by kernel_rfl) (by kernel_rfl) (fun _ _ _ h => h) (Or.inr ⟨by rfl, rfl⟩) hH0 ?_
            try simp only [Act.put, List.setIfInBounds_toArray, List.set_cons_zero, List.set_cons_succ]
            refine takeH (i := 12) (d := 53) (v := ?_) rfl rfl (by kernel_rfl) (by kernel_rfl) (by kernel_rfl) (fun _ _ _ h => h) (Or.inl ⟨by rfl, ?y12⟩) hH0 ?_
            case y12 => intro w hSw; go_simp; try with_reducible rfl
            try simp only [Act.put, List.setIfInBounds_toArray, List.set_cons_zero, List.set_cons_succ]
            refine wpAnyH_done (by kernel_rfl) ?_ _
            go_wp2_with fail
            go_meet
            case rel => exact ⟨rfl, hH0.2⟩
          · rw [List.concat_eq_append] at *
            have HLO := Lib.hid (lastOne_concat r a e1)
            obtain ⟨go, cu, hu, hcell⟩ : ∃ go cu, u5 = .slice (some ⟨go, 0, none⟩) (r.length + 1) cu ∧ ∀ X, Below W8.heap.size W8 X → (X.cell? ⟨go, r.length * 4, none⟩ = some (.int .u64 a.id) ∧ X.cell? ⟨go, r.length * 4 + 1, none⟩ = some (.int .u64 a.off) ∧ X.cell? ⟨go, r.length * 4 + 2, none⟩ = some (.int .u32 a.ln) ∧ X.cell? ⟨go, r.length * 4 + 3, none⟩ = some (.int .u32 a.rn)) := by
              rcases H8.out.2.1.form with ⟨_, h⟩ | ⟨go, c, h, _⟩
              · simp at h
              · refine ⟨go, c, by rw [h]; simp, fun X hX => ?_⟩
                obtain ⟨_, _, e, _, _, hcc⟩ := (H8.out.2.1.below hX).ensAt
                rw [h] at e
                cases e
                obtain ⟨g', o', e2, _, hq⟩ := hcc r.length a (by simp)
                cases e2
                simpa using hq
            subst hu
            have HKA := Lib.hid hcell
            have hon := fun W => rone_any a e1 W (hok a (by simp)).may hme1
            unfold eC at hon
            have HON := Lib.hid hon
            have hi1 : IntKind.i64.wrap ((r.length : Int) + 1 - 1) = (r.length : Int) := by rw [IntKind.wrap_i64]; simp at hfw; omega
            have hi2 : IntKind.i64.wrap (r.length : Int) = (r.length : Int) := by rw [IntKind.wrap_i64]; simp at hfw; omega
            have hi3 : (r.length : Int) < (r.length : Int) + 1 := by omega
            have hi4 : (0 : Int) < (r.length : Int) + 1 := by omega
            generalize oneE a e1 = o1 at *
            generalize hrl : r.length = rl at *
            clear hcell hon
            refine wp_region_held_drew (S := fun w' => ((w'.cell? ⟨b, 0, none⟩ = some (.int .u64 e1.id) ∧ w'.cell? ⟨b, 1, none⟩ = some (.int .u64 e1.off) ∧ w'.cell? ⟨b, 2, none⟩ = some (.int .u32 e1.ln) ∧ w'.cell? ⟨b, 3, none⟩ = some (.int .u32 e1.rn)) ∧ (w'.cell? ⟨go, rl * 4, none⟩ = some (.int .u64 a.id) ∧ w'.cell? ⟨go, rl * 4 + 1, none⟩ = some (.int .u64 a.off) ∧ w'.cell? ⟨go, rl * 4 + 2, none⟩ = some (.int .u32 a.ln) ∧ w'.cell? ⟨go, rl * 4 + 3, none⟩ = some (.int .u32 a.rn))) ∧ Below W8.heap.size W8 w') (by kernel_rfl) ⟨⟨HKE.out _ (Below.drew (Below.refl _ _)), HKA.out _ (Below.drew (Below.refl _ _))⟩, Below.drew (Below.refl _ _)⟩ (fun hH0 => ?_)
            refine takeH (i := 0) (d := 41) (v := ?_) rfl rfl (by kernel_rfl) (by kernel_rfl) (by kernel_rfl) (fun _ _ _ h => h) (Or.inl ⟨by rfl, ?y0⟩) hH0 ?_
            case y0 => intro w hSw; go_simp; try with_reducible rfl
            try simp only [Act.put, List.setIfInBounds_toArray, List.set_cons_zero, List.set_cons_succ]
            refine takeH (i := 1) (d := 42) (v := ?_) rfl rfl (by kernel_rfl) (by kernel_rfl) (by kernel_rfl) (fun _ _ _ h => h) (Or.inl ⟨by rfl, ?y1⟩) hH0 ?_
            case y1 => intro w hSw; go_simp; try with_reducible rfl
            try simp only [Act.put, List.setIfInBounds_toArray, List.set_cons_zero, List.set_cons_succ]
            refine takeH (i := 2) (d := 43) (v := ?_) rfl rfl (by kernel_rfl) (by kernel_rfl) (by kernel_rfl) (fun _ _ _ h => h) (Or.inl ⟨by rfl, ?y2⟩) hH0 ?_
            case y2 => intro w hSw; go_simp; try with_reducible rfl
            try simp only [Act.put, List.setIfInBounds_toArray, List.set_cons_zero, List.set_cons_succ]
            refine takeH (i := 3) (d := 44) (v := ?_) rfl rfl (by kernel_rfl) (by kernel_rfl) (by kernel_rfl) (fun _ _ _ h => h) (Or.inl ⟨by rfl, ?y3⟩) hH0 ?_
            case y3 => intro w hSw; go_simp; try with_reducible rfl
            try simp only [Act.put, List.setIfInBounds_toArray, List.set_cons_zero, List.set_cons_succ]
            refine takeH (i := 4) (d := 45) (v := ?_) rfl rfl (by kernel_rfl) (by kernel_rfl) (by kernel_rfl) (fun _ _ _ h => h) (Or.inl ⟨by rfl, ?y4⟩) hH0 ?_
            case y4 => intro w hSw; go_simp; try with_reducible rfl
            try simp only [Act.put, List.setIfInBounds_toArray, List.set_cons_zero, List.set_cons_succ]
            refine takeH (i := 5) (d := 46) (v := ?_) rfl rfl (by kernel_rfl) (by kernel_rfl) (by kernel_rfl) (fun _ _ _ h => h) (Or.inl ⟨by rfl, ?y5⟩) hH0 ?_
            case y5 => intro w hSw; go_simp; try with_reducible rfl
            try simp only [Act.put, List.setIfInBounds_toArray, List.set_cons_zero, List.set_cons_succ]
            refine takeH (i := 6) (d := 47) (v := ?_) rfl rfl (by kernel_rfl) (by kernel_rfl) (by kernel_rfl) (fun _ _ _ h => h) (Or.inl ⟨by rfl, ?y6⟩) hH0 ?_
            case y6 => intro w hSw; go_simp; try with_reducible rfl
            try simp only [Act.put, List.setIfInBounds_toArray, List.set_cons_zero, List.set_cons_succ]
            refine takeH (i := 7) (d := 48) (v := ?_) rfl rfl (by kernel_rfl) (by kernel_rfl) (by kernel_rfl) (fun _ _ _ h => h) (Or.inl ⟨by rfl, ?y7⟩) hH0 ?_
            case y7 => intro w hSw; go_simp; try with_reducible rfl
            try simp only [Act.put, List.setIfInBounds_toArray, List.set_cons_zero, List.set_cons_succ]
            refine takeH (i := 8) (d := 49) (v := ?_) rfl rfl (by kernel_rfl) (by kernel_rfl) (by kernel_rfl) (fun _ _ _ h => h) (Or.inl ⟨by rfl, ?y8⟩) hH0 ?_
            case y8 => intro w hSw; go_simp; try with_reducible rfl
            try simp only [Act.put, List.setIfInBounds_toArray, List.set_cons_zero, List.set_cons_succ]
            refine takeH (i := 9) (d := 50) (v := ?_) rfl rfl (by kernel_rfl) (by kernel_rfl) (by kernel_rfl) (fun _ _ _ h => h) (Or.inl ⟨by rfl, ?y9⟩) hH0 ?_
            case y9 => intro w hSw; go_simp; try with_reducible rfl
            try simp only [Act.put, List.setIfInBounds_toArray, List.set_cons_zero, List.set_cons_succ]
            refine takeH (i := 10) (d := 51) (v := ?_) rfl rfl (by kernel_rfl) (by kernel_rfl) (by kernel_rfl) (fun _ _ _ h => h) (Or.inl ⟨by rfl, ?y10⟩) hH0 ?_
            case y10 => intro w hSw; go_simp; try with_reducible rfl
            try simp only [Act.put, List.setIfInBounds_toArray, List.set_cons_zero, List.set_cons_succ]
            refine wpAnyH_ready (rs := [11]) (by kernel_rfl) (by simp) ?_
            refine AllReadyH.cons rfl (fun K hK => ?_) AllReadyH.nil
            go_simp
            refine (HON.out _).mono ?_
            rintro e w' ⟨rfl, hb⟩
            go_wp2_with fail
            refine hK.out _ _ (⟨⟨HKE.out _ (hH0.2.trans (hb.mono hH0.2.size)), HKA.out _ (hH0.2.trans (hb.mono hH0.2.size))⟩, hH0.2.trans (hb.mono hH0.2.size)⟩) (fun hH1 => ?_)
            clear hK K hb hH0
            try simp only [Act.put, List.setIfInBounds_toArray, List.set_cons_zero, List.set_cons_succ]
            refine takeH (i := 12) (d := 53) (v := ?_) rfl rfl (by kernel_rfl) (by kernel_rfl) (by kernel_rfl) (fun _ _ _ h => h) (Or.inl ⟨by rfl, ?y12⟩) hH1 ?_
            case y12 => intro w hSw; go_simp; try with_reducible rfl
            try simp only [Act.put, List.setIfInBounds_toArray, List.set_cons_zero, List.set_cons_succ]
            refine wpAnyH_done (by kernel_rfl) ?_ _
            go_wp2_with fail
            go_meet
            case rel => exact ⟨by rw [HLO.out], hH1.2⟩
        case rest =>
          obtain ⟨rfl, hb9⟩ := hcut
          generalize wc = W9 at *
          have H9 : Hid (StrsAt W9 v' (rowsS (L.take (k + 1))).2 ∧ OwnE W9 w.heap.size 89 u5 rows ∧ SepT v' (rowsS (L.take (k + 1))).2 u5 ∧ Below w.heap.size w W9) := Lib.hid ⟨H8.out.1.below hb9, H8.out.2.1.below hb9, H8.out.2.2.1, H8.out.2.2.2.trans (hb9.mono H8.out.2.2.2.size)⟩
          have HE9 := Lib.hid (HE8.out.later hb9)
          clear hb9 H8 HE8
          cases hlo : lastOne rows e1 with
          | true =>
            obtain ⟨r, a, rfl, hadd⟩ := addE_yes hlo
            rw [hadd] at HNX
            have hra := hrn a (by simp)
            have hma := (hok a (by simp)).may
            have hrr := (hok a (by simp)).run
            unfold MayN at hma
            obtain ⟨go, cu, hu, hcn, hfz⟩ : ∃ go cu, u5 = .slice (some ⟨go, 0, none⟩) (r.length + 1) cu ∧ W9.cell? ⟨go, r.length * 4 + 3, none⟩ = some (.int .u32 a.rn) ∧ W9.frozen? ⟨go, r.length * 4 + 3, none⟩ = false := by
              rcases H9.out.2.1.form with ⟨_, h⟩ | ⟨go, c, h, _, _, _, _, _, hf⟩
              · simp at h
              · refine ⟨go, c, by rw [h]; simp, ?_, hf _⟩
                obtain ⟨_, _, e, _, _, hcc⟩ := H9.out.2.1.ensAt
                rw [h] at e
                cases e
                obtain ⟨g', o', e2, _, hq⟩ := hcc r.length a (by simp)
                cases e2
                simpa using hq.2.2.2
            subst hu
            have hst := own_run H9.out.2.1 (a.rn + 1)
            have HN : Hid (RwS w (W9.setCell ⟨go, r.length * 4 + 3, none⟩ (.int .u32 (a.rn + 1))) L (k + 1) v' (.slice (some ⟨go, 0, none⟩) (r.length + 1) cu)) := Lib.hid ⟨H9.out.1.grown H9.out.2.2.1 hst.2, by rw [HNX.out]; exact hst.1, H9.out.2.2.1, H9.out.2.2.2.grown hst.2 H9.out.2.2.2.size (fun q hq => (H9.out.2.1.lt q hq).1)⟩
            have hi1 : IntKind.i64.wrap ((r.length : Int) + 1 - 1) = (r.length : Int) := by rw [IntKind.wrap_i64]; simp at hfw; omega
            have hi2 : IntKind.i64.wrap (r.length : Int) = (r.length : Int) := by rw [IntKind.wrap_i64]; simp at hfw; omega
            have hi3 : (r.length : Int) < (r.length : Int) + 1 := by omega
            have hi4 : IntKind.u32.wrap (a.rn + 1) = a.rn + 1 := by rw [IntKind.wrap_u32]; omega
            clear hst hlo hadd H9 hma hok hrn
            generalize r.length = rl at *
            go_wp2_with fail
            go_roundw
            case rel => exact ⟨k + 1, by omega, by go_num, HN.out⟩
            case measure => simp [intOf]; omega
          | false =>
            rw [addE_no hlo] at HNX
            have hea := EAt.made W9 e1 89
            have hba : Below W9.heap.size W9 (W9.alloc (.cells (eC e1) 89)) := (Below.refl _ _).alloc (Nat.le_refl _) _
            obtain ⟨v5, w5, hr5, ho5, hg5, hl5⟩ := eappend_run (W9.alloc (.cells (eC e1) 89)) 33 w.heap.size u5 rows e1 W9.heap.size 1 (H9.out.2.1.below hba) hea (by omega) (Nat.le_trans H9.out.2.2.2.size hba.size)
            have hs2 := H9.out.1.below hba
            have HN : Hid (RwS w w5 L (k + 1) v' v5) := Lib.hid ⟨hs2.grown H9.out.2.2.1 hg5, by rw [HNX.out]; exact ho5, H9.out.2.2.1.new hs2 hl5, (H9.out.2.2.2.trans (hba.mono H9.out.2.2.2.size)).grown hg5 (Nat.le_trans H9.out.2.2.2.size hba.size) (fun q hq => (H9.out.2.1.lt q hq).1)⟩
            obtain ⟨k0, k1, k2, k3⟩ := HE9.out
            unfold eC at hr5
            clear hlo hea hba ho5 hg5 hl5 hs2 H9 hok hrn
            go_wp2_with (first | (at_builtin; refine Lib.wpList_append_run _ rfl _ _ _ _ rfl _ _ rfl rfl _ _ hr5 ?_) | fail)
            go_roundw
            case rel => exact ⟨k + 1, by omega, by go_num, HN.out⟩
            case measure => simp [intOf]; omega
    · obtain rfl : k = L.length := by omega
      have HS := Lib.hid hS
      have HT := Lib.hid (rtext_any u4 (rowsS L).2 wr (by have := hS.all; rw [List.take_length] at this; exact this) (by rw [List.take_length] at htot; omega))
      clear hS hri htot
      go_wp2_with fail
      refine HT.out.mono ?_
      rintro y w4 ⟨rfl, rfl⟩
      go_wp2_with fail
      refine bodyPost_ret (results_tmp2 rfl _ _ _) rfl ⟨_, rfl, ?_, HS.out.bel⟩
      have := HS.out.out.ensAt
      rw [List.take_length] at this
      exact this
end Go.Proofs.Ytleicghfcffblaa
