/- Several texts, one behind the other: Gd, Ge. -/
import Derived.Test.YtleicghfcffblaaMG
import Derived.Test.YtleicghfcffblaaMJ
import Derived.Handy
/- Contracts of the pool's small functions: is, against, bucketOf, end. -/
namespace Go.Proofs.Ytleicghfcffblaa
open Go.RowKit
set_option maxRecDepth 20000
set_option linter.unusedVariables false
set_option linter.unusedSimpArgs false
theorem nan_any (x : Int) (w : World) : Calls Try.prog 88 #[.int .u64 x] w fun e w' => e = .returned (.bool false) ∧ w' = w := by
  go_enter Try.func88, Try.ntmps88
  go_wp2
  go_ret
  exact ⟨rfl, rfl⟩
def cmpI (x y : Int) : Int := if x < y then -1 else if x > y then 1 else 0
set_option maxHeartbeats 1000000 in
theorem compare_any (x y : Int) (w : World) : Calls Try.prog 82 #[.int .u64 x, .int .u64 y] w fun e w' => e = .returned (.int .i64 (cmpI x y)) ∧ w' = w := by
  have HN := Lib.hid (fun a W => nan_any a W)
  unfold cmpI
  by_cases h : x < y
  · rw [if_pos h]
    go_enter Try.func82, Try.ntmps82
    go_wp2_with fail
    refine (HN.out _ _).mono ?_
    rintro e w1 ⟨rfl, rfl⟩
    go_wp2_with fail
    refine (HN.out _ _).mono ?_
    rintro e w1 ⟨rfl, rfl⟩
    go_wp2_with fail
    go_ret
    exact ⟨rfl, rfl⟩
  · rw [if_neg h]
    by_cases h2 : x > y
    · rw [if_pos h2]
      go_enter Try.func82, Try.ntmps82
      go_wp2_with fail
      refine (HN.out _ _).mono ?_
      rintro e w1 ⟨rfl, rfl⟩
      go_wp2_with fail
      refine (HN.out _ _).mono ?_
      rintro e w1 ⟨rfl, rfl⟩
      go_wp2_with fail
      go_ret
      exact ⟨rfl, rfl⟩
    · rw [if_neg h2]
      go_enter Try.func82, Try.ntmps82
      go_wp2_with fail
      refine (HN.out _ _).mono ?_
      rintro e w1 ⟨rfl, rfl⟩
      go_wp2_with fail
      refine (HN.out _ _).mono ?_
      rintro e w1 ⟨rfl, rfl⟩
      go_wp2_with fail
      go_ret
      exact ⟨rfl, rfl⟩
theorem is_any (s : ByteArray) (t : Kt) (w : World) : Calls Try.prog 77 #[.string s, .agg #[.int .u64 t.1, .int .u32 t.2.size, .string t.2]] w fun e w' => e = .returned (.bool (decide (t.2 = s))) ∧ Below w.heap.size w w' := by
  by_cases h : t.2 = s
  · have hd := str_yes h
    rw [decide_eq_true h]
    go_enter Try.func77, Try.ntmps77
    go_wp2_with fail
    go_ret
    exact ⟨rfl, by go_grown⟩
  · have hd := str_no h
    rw [decide_eq_false h]
    go_enter Try.func77, Try.ntmps77
    go_wp2_with fail
    go_ret
    exact ⟨rfl, by go_grown⟩
theorem bucketOf_any (s : ByteArray) (hs : s.size ≤ maxLen) (w : World) : Calls Try.prog 59 #[.string s] w fun e w' => e = .returned (.int .i64 (bkt s)) ∧ Below w.heap.size w w' := by
  have HB := Lib.hid (fun W => bucket_any s hs 2048 (by omega) (by omega) W)
  go_enter Try.func59, Try.ntmps59
  go_wp2_with fail
  refine (HB.out _).mono ?_
  rintro e w1 ⟨rfl, hb⟩
  have HBl := Lib.hid hb
  clear hb
  go_wp2_with fail
  go_ret
  exact ⟨rfl, HBl.out⟩
set_option maxHeartbeats 1000000 in
theorem end_any (w : World) (pb : Nat) (va vm : Value) (G : Int → Value) (l : List ByteArray) (h : PoolAt w pb va vm G l) : Calls Try.prog 63 #[.pointer (some ⟨pb, 0, none⟩)] w fun e w' => e = .returned (.int .u64 (totF l)) ∧ Below w.heap.size w w' := by
  obtain ⟨c0, c1, _, _⟩ := h.two
  obtain ⟨al, cap, rfl, hcap, hmx, hc⟩ := h.all.ktsAt
  rw [plc_len] at *
  rcases List.eq_nil_or_concat l with rfl | ⟨l', s, rfl⟩
  · clear hc
    go_enter Try.func63, Try.ntmps63
    go_wp2_with fail
    go_ret
    exact ⟨rfl, Below.refl _ _⟩
  · rw [List.concat_eq_append] at *
    have hk : (plc (l' ++ [s]) 0)[l'.length]? = some (totF l', s) := by
      rw [plc_snoc, List.getElem?_append_right (by rw [plc_len]; exact Nat.le_refl _), plc_len]; simp
    obtain ⟨g, off, rfl, hg, d0, d1, d2⟩ := hc _ _ hk
    have HT := Lib.hid h.good.tot
    have hlen : (l' ++ [s]).length = l'.length + 1 := by simp
    have ht : totF (l' ++ [s]) = totF l' + s.size := by rw [totF_append, totF_one]
    have hlb := h.good.few
    rw [hlen] at *
    have hw1 : IntKind.i64.wrap (l'.length : Int) = (l'.length : Int) := by rw [IntKind.wrap_i64] <;> omega
    have hi : ((l'.length : Nat) : Int) < ((l'.length : Nat) : Int) + 1 := by omega
    have hi2 : (0 : Int) ≤ ((l'.length : Nat) : Int) := by omega
    dsimp only at d0 d1 d2
    have k0 : ∀ O, (w.alloc O).cell? ⟨pb, 0, none⟩ = _ := fun O => vcell_later ((Below.refl _ _).alloc (Nat.le_refl _) O) c0
    have k1 : ∀ O, (w.alloc O).cell? ⟨g, off + l'.length * 3, none⟩ = _ := fun O => vcell_later ((Below.refl _ _).alloc (Nat.le_refl _) O) d0
    have k2 : ∀ O, (w.alloc O).cell? ⟨g, off + l'.length * 3 + 1, none⟩ = _ := fun O => vcell_later ((Below.refl _ _).alloc (Nat.le_refl _) O) d1
    clear hc hk h
    go_enter Try.func63, Try.ntmps63
    go_wp2_with fail
    go_region
    all_goals
      go_wp2_with fail
      go_ret
      refine ⟨ret_int ?_, by go_grown⟩
      rw [ht]
      have := HT.out
      rw [ht] at this
      simp only [IntKind.wrap_u64]
      omega
end Go.Proofs.Ytleicghfcffblaa
/- slices.IndexFunc with a sought text's 'is'; look. -/
namespace Go.Proofs.Ytleicghfcffblaa
open Go.RowKit
set_option maxRecDepth 20000
set_option linter.unusedVariables false
set_option linter.unusedSimpArgs false
def hasT (s : ByteArray) (t : Kt) : Bool := decide (t.2 = s)
/-- The first place at which it holds, or -1. -/
def IdxK (s : ByteArray) (l : List Kt) (w : World) (e : Ending) (w' : World) : Prop := ∃ r : Int, e = .returned (.int .i64 r) ∧ ((r = -1 ∧ ∀ t ∈ l, hasT s t = false) ∨ ∃ i : Nat, r = i ∧ i < l.length ∧ (∀ t ∈ l.take i, hasT s t = false) ∧ ∃ t, l[i]? = some t ∧ hasT s t = true) ∧ Below w.heap.size w w'
set_option maxHeartbeats 1000000 in
theorem idx_any (v : Value) (l : List Kt) (s : ByteArray) (w : World) (hv : KtsAt w v l) (hl : l.length ≤ 100000) : Calls Try.prog 78 #[v, .func (.func 77) #[.string s] #[]] w (IdxK s l w) := by
  obtain ⟨a, cap, rfl, h1, h2, hc⟩ := hv
  have HC := Lib.hid hc
  clear hc
  go_enter Try.func78, Try.ntmps78
  go_wp2_with fail
  go_loopw [8] (fun x wr => ∃ i : Nat, i ≤ l.length ∧ x = .int .i64 i ∧ Hid (∀ t ∈ l.take i, hasT s t = false) ∧ Below w.heap.size w wr) (fun x _ => l.length - (intOf x).toNat)
  case atStart => exact ⟨0, Nat.zero_le _, rfl, Lib.hid (fun t ht => by simp at ht), Below.refl _ _⟩
  case round =>
    obtain ⟨i, hi, rfl, HM, hbw⟩ := hrel
    by_cases hlt : i < l.length
    · obtain ⟨t, ht⟩ : ∃ t, l[i]? = some t := ⟨_, List.getElem?_eq_getElem hlt⟩
      obtain ⟨g, off, rfl, hg, l0, l1, l2⟩ := HC.out i t ht
      replace l0 := (hbw.cell (p := ⟨g, off + i * 3, none⟩) hg).trans l0
      replace l1 := (hbw.cell (p := ⟨g, off + i * 3 + 1, none⟩) hg).trans l1
      replace l2 := (hbw.cell (p := ⟨g, off + i * 3 + 2, none⟩) hg).trans l2
      have hi2 : (i : Int) < (l.length : Int) := by omega
      have HT := Lib.hid ht
      have HE := Lib.hid (is_any s t wr)
      have HTK : Hid (l.take (i + 1) = l.take i ++ [t]) := Lib.hid (by rw [List.take_add_one, ht]; rfl)
      clear ht
      by_cases hp : hasT s t = true
      · have HP := Lib.hid hp
        rw [show decide (t.2 = s) = true from hp] at HE
        clear hp
        go_wp2_with fail
        refine HE.out.mono ?_
        rintro e w1 ⟨rfl, hb⟩
        have hbw1 := hbw.trans (hb.mono hbw.size)
        clear hb hbw l0 l1 l2 HE
        go_wp2_with fail
        go_ret
        exact ⟨i, rfl, .inr ⟨i, rfl, hlt, HM.out, _, HT.out, HP.out⟩, hbw1⟩
      · replace hp : hasT s t = false := by simpa using hp
        have HP := Lib.hid hp
        rw [show decide (t.2 = s) = false from hp] at HE
        clear hp
        go_wp2_with fail
        refine HE.out.mono ?_
        rintro e w1 ⟨rfl, hb⟩
        have hbw1 := hbw.trans (hb.mono hbw.size)
        clear hb hbw l0 l1 l2 HE
        go_wp2_with fail
        go_roundw
        case rel =>
          refine ⟨i + 1, by omega, by go_num, Lib.hid (fun t ht => ?_), hbw1⟩
          rw [HTK.out] at ht
          rcases List.mem_append.1 ht with ht | ht
          · exact HM.out t ht
          · rw [List.mem_singleton] at ht; rw [ht]; exact HP.out
        case measure => simp [intOf]; omega
    · obtain rfl : i = l.length := by omega
      rw [List.take_length] at HM
      go_wp2_with fail
      go_ret
      exact ⟨-1, rfl, .inl ⟨rfl, HM.out⟩, hbw⟩
theorem find_none {s : ByteArray} {l : List ByteArray} (h : ∀ t ∈ grp (bkt s) (plc l 0), hasT s t = false) : findF s l 0 = none := by
  rw [← find_grp]
  have := find_no (fun t => decide (t.2 = s)) _ h
  rw [this]; rfl
theorem find_some {s : ByteArray} {l : List ByteArray} {i : Nat} {t : Kt} (hi : (grp (bkt s) (plc l 0))[i]? = some t) (hp : hasT s t = true) (hn : ∀ x ∈ (grp (bkt s) (plc l 0)).take i, hasT s x = false) : findF s l 0 = some t.1 ∧ t.2 = s := by
  refine ⟨?_, by simpa [hasT] using hp⟩
  rw [← find_grp]
  have := find_first (fun t => decide (t.2 = s)) _ i t hi hp hn
  rw [this]; rfl
def LookR (l : List ByteArray) (s : ByteArray) : Value := .tuple #[.agg #[.int .u64 (offV (findF s l 0) : Nat), .int .u32 (lenV (findF s l 0) s : Nat)], .bool (findF s l 0).isSome]
set_option maxRecDepth 20000 in
set_option maxHeartbeats 1000000 in
theorem look_any (w : World) (pb : Nat) (va vm : Value) (G : Int → Value) (l : List ByteArray) (h : PoolAt w pb va vm G l) (s : ByteArray) : Calls Try.prog 60 #[.pointer (some ⟨pb, 0, none⟩), .int .i64 (bkt s), .string s] w fun e w' => e = .returned (LookR l s) ∧ Below w.heap.size w w' := by
  have hr := bkt_range s
  have hw : (Lit.int .i64 (bkt s)).wf = true := wf_i64 (by omega) (by omega)
  have hf := h.good.few
  have hlg : (grp (bkt s) (plc l 0)).length ≤ 100000 := by have := grp_len (bkt s) (plc l 0); rw [plc_len] at this; omega
  have hb1 : Below w.heap.size w (w.alloc (.cells #[.int .u64 0, .int .u32 0] 77)) := (Below.refl _ _).alloc (Nat.le_refl _) _
  have h1 := h.below hb1
  have hk0 := (h.grps (bkt s)).ktsAt
  have hk1 := hk0.below hb1
  have hlook := h1.look (bkt s) hw
  have HI := Lib.hid (idx_any _ _ s _ hk1 hlg)
  have HK := Lib.hid hk0
  have HB := Lib.hid hb1
  obtain ⟨c0, c1, _, _⟩ := h1.two
  have ht2 := two_new w (.int .u64 0) (.int .u32 0) 77
  clear h h1 hk0 hk1 hb1 hlg hw hr hf
  generalize hG : G (bkt s) = gv at *
  clear hG
  go_enter Try.func60, Try.ntmps60
  go_wp2_with fail
  generalize w.alloc (.cells #[.int .u64 0, .int .u32 0] 77) = W at *
  refine HI.out.mono ?_
  rintro e w1 ⟨r, rfl, hr, hb⟩
  have hbb := Below.trans HB.out (hb.mono HB.out.size)
  have h2 := ht2.below hb
  have H2 := Lib.hid h2
  have HBB := Lib.hid hbb
  obtain ⟨k0, k1, k2, k3⟩ := h2
  have hwn : w.heap.size < w1.heap.size := vcell_lt k0
  rcases hr with ⟨rfl, hno⟩ | ⟨i, rfl, hi, hno, t, ht, hp⟩
  · have HN := Lib.hid (find_none hno)
    clear hno HK HI hlook hb hbb
    go_wp2_with fail
    refine bodyPost_ret (results_ct rfl _ _ w.heap.size _ _ _ _ rfl rfl (H2.out.set _ _).1 (H2.out.set _ _).2.1 Try.underlying77 rfl pct_size) rfl ⟨?_, ?_⟩
    · unfold LookR
      rw [HN.out]
      rfl
    · exact (HBB.out.setCell (p := ⟨w.heap.size, 0, none⟩) (Nat.le_refl _) _).setCell (p := ⟨w.heap.size, 1, none⟩) (Nat.le_refl _) _
  · have HS := Lib.hid (find_some ht hp hno)
    obtain ⟨al, cap, rfl, hcap, hmx, hc⟩ := HK.out
    obtain ⟨g, off, rfl, hg, d0, d1, d2⟩ := hc i t ht
    have hne : g ≠ w.heap.size := by omega
    replace d0 := (hbb.cell (p := ⟨g, off + i * 3, none⟩) hg).trans d0
    replace d1 := (hbb.cell (p := ⟨g, off + i * 3 + 1, none⟩) hg).trans d1
    have hi2 : (i : Int) < ((grp (bkt s) (plc l 0)).length : Int) := by omega
    clear hc hno HK HI hlook hb hbb ht hp d2
    go_wp2_with fail
    refine bodyPost_ret (results_ct rfl _ _ w.heap.size _ _ _ _ rfl rfl (H2.out.set _ _).1 (H2.out.set _ _).2.1 Try.underlying77 rfl pct_size) rfl ⟨?_, ?_⟩
    · unfold LookR
      rw [HS.out.1, HS.out.2]
      rfl
    · exact (HBB.out.setCell (p := ⟨w.heap.size, 0, none⟩) (Nat.le_refl _) _).setCell (p := ⟨w.heap.size, 1, none⟩) (Nat.le_refl _) _
end Go.Proofs.Ytleicghfcffblaa
