/- Several texts, one behind the other: Lc, Ld, Le, Lf. -/
import Derived.Test.YtleicghfcffblaaMB
import Derived.Deep.RegionHeld3
/- Contracts of the document's Get, Del, Bytes, Same, and of the law's Over and Back. -/
namespace Go.Proofs.Ytleicghfcffblaa
open Go.RowKit
set_option maxRecDepth 20000
set_option linter.unusedVariables false
set_option linter.unusedSimpArgs false
def getT (o : Option ByteArray) : ByteArray := o.getD { data := #[] }
theorem getI_step (id : Nat) (l : List It) (k : Nat) (t : It) (h : l[k]? = some t) : getI id (l.drop k) = if t.1 = id then some t.2 else getI id (l.drop (k + 1)) := by
  rw [idrop_at l k t h, getI]
set_option maxHeartbeats 1000000 in
theorem rget_anyC (v : Value) (l : List It) (id : Nat) (w : World) (hv : ItsAt w v l) :
    Calls Try.prog 56 #[v, .int .u64 id] w fun e w' => e = .returned (.tuple #[.string (getT (getI id l)), .bool (getI id l).isSome]) ∧ w' = w := by
  obtain ⟨al, cap, rfl, hcap, hmx, hc⟩ := hv
  have HC := Lib.hid hc
  have hmx' : l.length ≤ maxLen := by omega
  unfold maxLen at hmx'
  clear hc
  go_enter Try.func56, Try.ntmps56
  go_wp2_with fail
  go_loop [6] (fun i => ∃ k : Nat, k ≤ l.length ∧ i = .int .i64 k ∧ getI id l = getI id (l.drop k)) (fun i => l.length - (intOf i).toNat)
  case atStart => exact ⟨0, Nat.zero_le _, rfl, by simp⟩
  case round =>
    obtain ⟨k, hk, rfl, hf⟩ := hrel
    by_cases hlt : k < l.length
    · obtain ⟨⟨x, s⟩, htk⟩ : ∃ t, l[k]? = some t := ⟨_, List.getElem?_eq_getElem hlt⟩
      obtain ⟨g, off, rfl, hg, c0, c1⟩ := HC.out k _ htk
      rw [getI_step id l k _ htk] at hf
      by_cases he : x = id
      · rw [if_pos he] at hf
        have HF := Lib.hid hf
        clear hf
        subst he
        go_wp2_with fail
        refine bodyPost_ret (results_tmp2 rfl _ _ _) rfl ⟨?_, rfl⟩
        rw [HF.out]; rfl
      · rw [if_neg he] at hf
        have HF := Lib.hid hf
        clear hf
        have hne : ((x : Int) == (id : Int)) = false := by rw [beq_eq_false_iff_ne]; omega
        go_wp2_with fail
        go_round
        case rel => exact ⟨k + 1, by omega, by go_num, HF.out⟩
        case measure => simp [intOf]; omega
    · obtain rfl : k = l.length := by omega
      rw [List.drop_length, getI] at hf
      have HF := Lib.hid hf
      clear hf
      go_wp2_with fail
      refine bodyPost_ret (results_tmp2 rfl _ _ _) rfl ⟨?_, rfl⟩
      rw [HF.out]; rfl
def overI (l : List It) (m M : Int) : Bool := decide (M < bytesI l) || decide (m < (l.length : Int))
set_option maxHeartbeats 1000000 in
theorem over_any (v : Value) (l : List It) (m M : Int) (w : World) (hv : ItsAt w v l) (hsz : ∀ t ∈ l, t.2.size ≤ maxLen) (hM0 : 0 ≤ M) (hM1 : M ≤ 1000000) :
    Calls Try.prog 7 #[v, .int .i64 m, .int .i64 M] w fun e w' => e = .returned (.bool (overI l m M)) ∧ w' = w := by
  obtain ⟨al, cap, rfl, hcap, hmx, hc⟩ := hv
  have HC := Lib.hid hc
  have hmx' : l.length ≤ maxLen := by omega
  unfold maxLen at hmx'
  clear hc
  go_enter Try.func7, Try.ntmps7
  go_wp2_with fail
  go_loop [2, 7] (fun n i => ∃ k : Nat, k ≤ l.length ∧ i = .int .i64 k ∧ n = .int .i64 (M - (bytesI (l.take k) : Int)) ∧ (bytesI (l.take k) : Int) ≤ M) (fun _ i => l.length - (intOf i).toNat)
  case atStart => exact ⟨0, Nat.zero_le _, rfl, by simp [bytesI], by simp [bytesI]; exact hM0⟩
  case round =>
    obtain ⟨k, hk, rfl, rfl, hle⟩ := hrel
    by_cases hlt : k < l.length
    · obtain ⟨⟨x, s⟩, htk⟩ : ∃ t, l[k]? = some t := ⟨_, List.getElem?_eq_getElem hlt⟩
      obtain ⟨g, off, rfl, hg, c0, c1⟩ := HC.out k _ htk
      have hts := hsz _ (List.mem_of_getElem? htk)
      have h1 := bytesI_step l k _ htk
      have h2 := bytesI_take l (k + 1)
      have HS := Lib.hid h1
      simp only at HS h1 hts
      unfold maxLen at hts
      generalize bytesI (l.take k) = q at *
      have hw : IntKind.i64.wrap (M - (q : Int) - (s.size : Int)) = M - (q : Int) - (s.size : Int) := by rw [IntKind.wrap_i64] <;> omega
      by_cases hn : M - (q : Int) - (s.size : Int) < 0
      · have HO := Lib.hid (show overI l m M = true by unfold overI; rw [Bool.or_eq_true, decide_eq_true_eq]; left; omega)
        go_wp2_with fail
        go_ret
        exact ⟨by rw [HO.out]; rfl, rfl⟩
      · go_wp2_with fail
        go_round
        case rel => exact ⟨k + 1, by omega, by go_num, by rw [HS.out]; go_num, by rw [HS.out]; omega⟩
        case measure => simp [intOf]; omega
    · obtain rfl : k = l.length := by omega
      rw [List.take_length] at hle ⊢
      have HO := Lib.hid (show overI l m M = decide (m < (l.length : Int)) by unfold overI; rw [decide_eq_false (by omega), Bool.false_or])
      go_wp2_with fail
      go_ret
      exact ⟨by rw [HO.out]; rfl, rfl⟩
/-- A list that is copied, item by item, into a row of one's own. -/
def OwnEnd (E : TypeId) (l : List It) (w : World) (e : Ending) (w' : World) : Prop := ∃ v, e = .returned v ∧ OwnIt w' w.heap.size E v l ∧ Below w.heap.size w w'
set_option maxHeartbeats 1000000 in
theorem rdel_any (v : Value) (l : List It) (id : Nat) (w : World) (hv : ItsAt w v l) (hl : l.length ≤ 100000) :
    Calls Try.prog 57 #[v, .int .u64 id] w (OwnEnd 67 (delI id l) w) := by
  obtain ⟨al, cap, rfl, hcap, hmx, hc⟩ := hv
  have HC := Lib.hid hc
  have hmx' : l.length ≤ maxLen := by omega
  unfold maxLen at hmx'
  clear hc
  go_enter Try.func57, Try.ntmps57
  go_wp2_with fail
  go_loopw [5, 6] (fun u i wr => ∃ k : Nat, k ≤ l.length ∧ i = .int .i64 k ∧ OwnIt wr w.heap.size 67 u (delI id (l.take k)) ∧ Below w.heap.size w wr) (fun _ i _ => l.length - (intOf i).toNat)
  case atStart => exact ⟨0, Nat.zero_le _, rfl, ownIt_nil _ _ _, Below.refl _ _⟩
  case round =>
    obtain ⟨k, hk, rfl, hown, hbw⟩ := hrel
    by_cases hlt : k < l.length
    · obtain ⟨⟨x, s⟩, htk⟩ : ∃ t, l[k]? = some t := ⟨_, List.getElem?_eq_getElem hlt⟩
      obtain ⟨g, off, rfl, hg, c0, c1⟩ := HC.out k _ htk
      have HS := Lib.hid (delI_step id l k _ htk)
      have hlen := delI_len id (l.take k)
      rw [List.length_take] at hlen
      have d0 := (hbw.cell (p := ⟨g, off + k * 2, none⟩) hg).trans c0
      have d1 := (hbw.cell (p := ⟨g, off + k * 2 + 1, none⟩) hg).trans c1
      have d2 := Nat.lt_of_lt_of_le hg hbw.size
      by_cases he : x = id
      · have HO := Lib.hid hown
        have HB := Lib.hid hbw
        clear hown hbw
        have hs : delI id (l.take (k + 1)) = delI id (l.take k) := by rw [HS.out, if_pos he]
        have HS2 := Lib.hid hs
        clear hs HS c0 c1
        subst he
        go_wp2_with fail
        go_roundw
        case rel => exact ⟨k + 1, by omega, by go_num, by rw [HS2.out]; exact HO.out, HB.out⟩
        case measure => simp [intOf]; omega
      · have hs : delI id (l.take (k + 1)) = delI id (l.take k) ++ [(x, s)] := by rw [HS.out, if_neg he]
        have HS2 := Lib.hid hs
        have hne : ((x : Int) != (id : Int)) = true := by simp; omega
        have hb2 : Below w.heap.size w (wr.alloc (.cells #[.int .u64 x, .string s] 67)) := hbw.alloc hbw.size _
        obtain ⟨v', w', hr, hown', hgr⟩ := itappend_run (wr.alloc (.cells #[.int .u64 x, .string s] 67)) w.heap.size 22 67 22 _ Try.underlying22 infoIt rfl _ _ _ [(x, s)] (hown.below (Below.alloc (Below.refl _ _) (Nat.le_refl _) _)) (it_lit wr x s _) (by simp; omega) hb2.size
        have HO := Lib.hid hown'
        have HB := Lib.hid (Below.grown hb2 hgr hb2.size (fun k hk => (hown.lt k hk).1))
        clear hown hbw hs HS c0 c1 hb2 hown' hgr
        go_wp2_with (first | (at_builtin; refine Lib.wpList_append_run _ rfl _ _ _ _ rfl _ _ rfl rfl _ _ hr ?_) | fail)
        go_roundw
        case rel => exact ⟨k + 1, by omega, by go_num, by rw [HS2.out]; exact HO.out, HB.out⟩
        case measure => simp [intOf]; omega
    · obtain rfl : k = l.length := by omega
      rw [List.take_length] at hown
      go_wp2_with fail
      go_ret
      exact ⟨_, rfl, hown, hbw⟩
set_option maxHeartbeats 1000000 in
theorem back_any (v : Value) (l : List It) (w : World) (hv : ItsAt w v l) (hl : l.length ≤ 100000) :
    Calls Try.prog 18 #[v] w (OwnEnd 67 l w) := by
  obtain ⟨al, cap, rfl, hcap, hmx, hc⟩ := hv
  have HC := Lib.hid hc
  have hmx' : l.length ≤ maxLen := by omega
  unfold maxLen at hmx'
  clear hc
  go_enter Try.func18, Try.ntmps18
  go_wp2_with fail
  go_loopw [3, 4] (fun u i wr => ∃ k : Nat, k ≤ l.length ∧ i = .int .i64 k ∧ OwnIt wr w.heap.size 67 u (l.take k) ∧ Below w.heap.size w wr) (fun _ i _ => l.length - (intOf i).toNat)
  case atStart => exact ⟨0, Nat.zero_le _, rfl, ownIt_nil _ _ _, Below.refl _ _⟩
  case round =>
    obtain ⟨k, hk, rfl, hown, hbw⟩ := hrel
    by_cases hlt : k < l.length
    · obtain ⟨⟨x, s⟩, htk⟩ : ∃ t, l[k]? = some t := ⟨_, List.getElem?_eq_getElem hlt⟩
      obtain ⟨g, off, rfl, hg, c0, c1⟩ := HC.out k _ htk
      have HS2 := Lib.hid (itake_at l k _ htk)
      have hlen : (l.take k).length ≤ k := List.length_take_le _ _
      have d0 := (hbw.cell (p := ⟨g, off + k * 2, none⟩) hg).trans c0
      have d1 := (hbw.cell (p := ⟨g, off + k * 2 + 1, none⟩) hg).trans c1
      have d2 := Nat.lt_of_lt_of_le hg hbw.size
      have hb2 : Below w.heap.size w (wr.alloc (.cells #[.int .u64 x, .string s] 67)) := hbw.alloc hbw.size _
      obtain ⟨v', w', hr, hown', hgr⟩ := itappend_run (wr.alloc (.cells #[.int .u64 x, .string s] 67)) w.heap.size 22 67 22 _ Try.underlying22 infoIt rfl _ _ _ [(x, s)] (hown.below (Below.alloc (Below.refl _ _) (Nat.le_refl _) _)) (it_lit wr x s _) (by simp only [List.length_singleton]; omega) hb2.size
      have HO := Lib.hid hown'
      have HB := Lib.hid (Below.grown hb2 hgr hb2.size (fun k hk => (hown.lt k hk).1))
      clear hown hbw c0 c1 hb2 hown' hgr
      go_wp2_with (first | (at_builtin; refine Lib.wpList_append_run _ rfl _ _ _ _ rfl _ _ rfl rfl _ _ hr ?_) | fail)
      go_roundw
      case rel => exact ⟨k + 1, by omega, by go_num, by rw [HS2.out]; exact HO.out, HB.out⟩
      case measure => simp [intOf]; omega
    · obtain rfl : k = l.length := by omega
      rw [List.take_length] at hown
      go_wp2_with fail
      go_ret
      exact ⟨_, rfl, hown, hbw⟩
end Go.Proofs.Ytleicghfcffblaa
/- Contracts of the document's Same, and of Put where an item is put. -/
namespace Go.Proofs.Ytleicghfcffblaa
open Go.RowKit
set_option maxRecDepth 20000
set_option linter.unusedVariables false
set_option linter.unusedSimpArgs false
theorem same_step (a b : List It) (k : Nat) (s t : It) (ha : a[k]? = some s) (hb : b[k]? = some t) (h : a.take k = b.take k) (he : s = t) : a.take (k + 1) = b.take (k + 1) := by
  rw [itake_at a k s ha, itake_at b k t hb, h, he]
theorem same_not (a b : List It) (k : Nat) (s t : It) (ha : a[k]? = some s) (hb : b[k]? = some t) (he : s ≠ t) : a ≠ b := by
  intro h
  rw [h, hb] at ha
  injection ha with ha
  exact he ha.symm
set_option maxHeartbeats 1000000 in
theorem rsame_any (v u : Value) (a b : List It) (w : World) (hv : ItsAt w v a) (hu : ItsAt w u b) :
    Calls Try.prog 17 #[v, u] w fun e w' => e = .returned (.bool (decide (a = b))) ∧ Below w.heap.size w w' := by
  obtain ⟨al, cap, rfl, hcap, hmx, hc⟩ := hv
  obtain ⟨bl, cbp, rfl, hcbp, hmy, hd⟩ := hu
  have HC := Lib.hid hc
  have HD := Lib.hid hd
  have hmx' : a.length ≤ maxLen := by omega
  have hmy' : b.length ≤ maxLen := by omega
  unfold maxLen at hmx' hmy'
  clear hc hd
  go_enter Try.func17, Try.ntmps17
  by_cases hl : a.length = b.length
  · have hle : ((a.length : Int) != (b.length : Int)) = false := by simp; omega
    have HLn := Lib.hid hl
    clear hl
    go_wp2_with fail
    go_loopw [5] (fun i wr => ∃ k : Nat, k ≤ a.length ∧ i = .int .i64 k ∧ a.take k = b.take k ∧ Below w.heap.size w wr) (fun i _ => a.length - (intOf i).toNat)
    case atStart => exact ⟨0, Nat.zero_le _, rfl, by simp, Below.refl _ _⟩
    case round =>
      obtain ⟨k, hk, rfl, hq, hbw⟩ := hrel
      by_cases hlt : k < a.length
      · obtain ⟨⟨x, s⟩, hsk⟩ : ∃ t, a[k]? = some t := ⟨_, List.getElem?_eq_getElem hlt⟩
        obtain ⟨⟨y, t⟩, htk⟩ : ∃ t, b[k]? = some t := ⟨_, List.getElem?_eq_getElem (by have := HLn.out; omega)⟩
        obtain ⟨g, off, rfl, hg, c0, c1⟩ := HC.out k _ hsk
        obtain ⟨h, oh, rfl, hh, d0, d1⟩ := HD.out k _ htk
        have c0 := (hbw.cell (p := ⟨g, off + k * 2, none⟩) hg).trans c0
        have c1 := (hbw.cell (p := ⟨g, off + k * 2 + 1, none⟩) hg).trans c1
        have c2 := Nat.lt_of_lt_of_le hg hbw.size
        have d0 := (hbw.cell (p := ⟨h, oh + k * 2, none⟩) hh).trans d0
        have d1 := (hbw.cell (p := ⟨h, oh + k * 2 + 1, none⟩) hh).trans d1
        have d2 := Nat.lt_of_lt_of_le hh hbw.size
        have HB := Lib.hid (fun n => hbw.trans (show Below w.heap.size wr (wr.drewN n) from ⟨rfl, rfl, rfl, Nat.le_refl _, fun _ _ => rfl⟩))
        have hk2 : (k : Int) < (b.length : Int) := by have := HLn.out; omega
        clear hbw
        by_cases hxy : x = y
        · subst hxy
          by_cases hst : s = t
          · have HQ := Lib.hid (same_step a b k _ _ hsk htk hq (by rw [hst]))
            have hy := str_yes hst
            clear hq
            go_wp2_with fail
            go_quiet (fail)
            go_wp2_with fail
            go_roundw
            case rel => exact ⟨k + 1, by omega, by go_num, HQ.out, HB.out _⟩
            case measure => simp [intOf]; omega
          · have HQ := Lib.hid (show decide (a = b) = false from decide_eq_false (same_not a b k _ _ hsk htk (fun e => hst (by injection e))))
            have hy := str_no hst
            clear hq
            go_wp2_with fail
            go_quiet (fail)
            go_wp2_with fail
            go_ret
            exact ⟨by rw [HQ.out]; rfl, HB.out _⟩
        · have HQ := Lib.hid (show decide (a = b) = false from decide_eq_false (same_not a b k _ _ hsk htk (fun e => hxy (by injection e))))
          have hy : ¬ (x : Int) = (y : Int) := by omega
          clear hq
          go_wp2_with fail
          go_quiet (fail)
          go_wp2_with fail
          go_ret
          exact ⟨by rw [HQ.out]; rfl, HB.out _⟩
      · have hkl : k = a.length := by omega
        subst hkl
        rw [List.take_length, HLn.out, List.take_length] at hq
        have HQ := Lib.hid (show decide (a = b) = true from decide_eq_true hq)
        clear hq
        go_wp2_with fail
        go_ret
        exact ⟨by rw [HQ.out]; rfl, hbw⟩
  · have hle : ((a.length : Int) != (b.length : Int)) = true := by simp; omega
    have HQ := Lib.hid (show decide (a = b) = false from decide_eq_false (fun e => hl (by rw [e])))
    go_wp2_with fail
    go_ret
    exact ⟨by rw [HQ.out]; rfl, Below.refl _ _⟩
end Go.Proofs.Ytleicghfcffblaa
/- The contract of the document's Put. -/
namespace Go.Proofs.Ytleicghfcffblaa
open Go.RowKit
set_option maxRecDepth 20000
set_option linter.unusedVariables false
set_option linter.unusedSimpArgs false
theorem low_take (id : Nat) (r : List It) : r.take (lowI id r).length = lowI id r := by
  conv => lhs; arg 2; rw [← low_high id r]
  exact List.take_left
theorem low_drop (id : Nat) (r : List It) : r.drop (lowI id r).length = highI id r := by
  conv => lhs; arg 2; rw [← low_high id r]
  exact List.drop_left
theorem low_le (id : Nat) (r : List It) : (lowI id r).length ≤ r.length := by
  have := congrArg List.length (low_high id r)
  rw [List.length_append] at this
  omega
theorem low_at (id : Nat) (r : List It) : ∀ k, k < (lowI id r).length → ∃ t, r[k]? = some t ∧ t.1 < id := by
  induction r with
  | nil => intro k h; simp [lowI] at h
  | cons x r ih =>
    intro k h
    unfold lowI at h
    rw [List.takeWhile_cons] at h
    by_cases hx : x.1 < id
    · rw [if_pos (by simpa using hx)] at h
      cases k with
      | zero => exact ⟨x, rfl, hx⟩
      | succ k => exact ih k (by simpa [lowI] using h)
    · rw [if_neg (by simpa using hx)] at h
      simp at h
theorem low_end (id : Nat) (r : List It) : ∀ t, r[(lowI id r).length]? = some t → ¬ t.1 < id := by
  induction r with
  | nil => intro t h; simp at h
  | cons x r ih =>
    intro t h
    unfold lowI at h
    rw [List.takeWhile_cons] at h
    by_cases hx : x.1 < id
    · rw [if_pos (by simpa using hx)] at h
      exact ih t (by simpa [lowI] using h)
    · rw [if_neg (by simpa using hx)] at h
      simp at h
      subst h
      exact hx
theorem OwnIt.form {w : World} {B : Nat} {E : TypeId} {v : Value} {l : List It} (h : OwnIt w B E v l) :
    (v = .slice none 0 0 ∧ l = []) ∨ ∃ g cap, v = .slice (some ⟨g, 0, none⟩) l.length cap ∧ B ≤ g ∧ g < w.heap.size ∧ l.length ≤ cap ∧ cap ≤ maxLen ∧ (∀ k t, l[k]? = some t → w.cell? ⟨g, k * 2, none⟩ = some (.int .u64 t.1) ∧ w.cell? ⟨g, k * 2 + 1, none⟩ = some (.string t.2)) := by
  have hlt := h.lt
  have h' := h
  obtain ⟨h1, h2⟩ := h
  rcases h2 with ⟨rfl, hn⟩ | ⟨g, cap, cur, rfl, hg, hh, hle, hm, _⟩
  · exact .inl ⟨rfl, List.eq_nil_of_length_eq_zero hn⟩
  · refine .inr ⟨g, cap, rfl, hg, (hlt g rfl).2, hle, hm, fun k t ht => ?_⟩
    have hk := (List.getElem?_eq_some_iff.1 ht).1
    obtain ⟨f0, f1⟩ := flatI_at l k t ht
    exact ⟨(World.ownsRow.cellAt h' (k * 2) (by omega)).trans f0, (World.ownsRow.cellAt h' (k * 2 + 1) (by omega)).trans f1⟩
theorem its_pre {w : World} {g cap : Nat} {l : List It} (k : Nat) (hk : k ≤ l.length) (hg : g < w.heap.size) (h1 : l.length ≤ cap) (h2 : cap ≤ maxLen) (hc : ∀ k t, l[k]? = some t → w.cell? ⟨g, k * 2, none⟩ = some (.int .u64 t.1) ∧ w.cell? ⟨g, k * 2 + 1, none⟩ = some (.string t.2)) : ItsAt w (.slice (some ⟨g, 0, none⟩) k cap) (l.take k) := by
  have e : (l.take k).length = k := by rw [List.length_take]; omega
  refine ⟨_, cap, by rw [e], by omega, h2, fun j t ht => ⟨g, 0, rfl, hg, ?_⟩⟩
  have hj : j < k := by have := (List.getElem?_eq_some_iff.1 ht).1; omega
  rw [List.getElem?_take, if_pos hj] at ht
  rw [Nat.zero_add]
  exact hc j t ht
theorem its_post {w : World} {g cap : Nat} {l : List It} (k : Nat) (hk : k ≤ l.length) (hg : g < w.heap.size) (h1 : l.length ≤ cap) (h2 : cap ≤ maxLen) (hc : ∀ k t, l[k]? = some t → w.cell? ⟨g, k * 2, none⟩ = some (.int .u64 t.1) ∧ w.cell? ⟨g, k * 2 + 1, none⟩ = some (.string t.2)) : ItsAt w (.slice (some ⟨g, k * 2, none⟩) (l.length - k) (cap - k)) (l.drop k) := by
  refine ⟨_, cap - k, by rw [List.length_drop], by rw [List.length_drop]; omega, by omega, fun j t ht => ⟨g, k * 2, rfl, hg, ?_⟩⟩
  rw [List.getElem?_drop] at ht
  have := hc (k + j) t ht
  rw [show k * 2 + j * 2 = (k + j) * 2 by omega]
  exact this
theorem its_zero {w : World} {a : Option Addr} {l : List It} (k : Nat) (hk : l.length ≤ k) : ItsAt w (.slice a (l.length - k) 0) (l.drop k) := by
  have : l.drop k = [] := List.drop_of_length_le hk
  rw [this]
  exact ⟨a, 0, by rw [show l.length - k = 0 by omega]; rfl, by simp, by simp, fun j t ht => by simp at ht⟩
theorem OwnIt.slice {w : World} {B : Nat} {E : TypeId} {v : Value} {l : List It} (h : OwnIt w B E v l) : ∃ a cap, v = .slice a l.length cap := by
  rcases h.form with ⟨rfl, rfl⟩ | ⟨g, cap, rfl, _⟩
  · exact ⟨none, 0, rfl⟩
  · exact ⟨_, cap, rfl⟩
def RPutEnd (l : List It) (id : Nat) (s : ByteArray) (w : World) (e : Ending) (w' : World) : Prop :=
  ∃ v', e = .returned (.tuple #[v', .int .i64 (putE l id s : Nat)]) ∧ ItsAt w' v' (putL l id s) ∧ Below w.heap.size w w'
theorem rput_err (v : Value) (l : List It) (id n : Nat) (s : ByteArray) (w : World) (hv : ItsAt w v l) (hn : putE l id s = n) (h0 : n ≠ 0) : ∀ e, e = Ending.returned (.tuple #[v, .int .i64 (n : Nat)]) → RPutEnd l id s w e w := by
  rintro e rfl
  refine ⟨v, by rw [hn], ?_, Below.refl _ _⟩
  unfold putL
  rw [hn, if_neg h0]
  exact hv
set_option maxHeartbeats 1000000 in
theorem rput_no (v : Value) (l : List It) (id : Nat) (s : ByteArray) (w : World) (hv : ItsAt w v l) (hid : id < 18446744073709551616) (h : putE l id s ≠ 0) : Calls Try.prog 33 #[v, .int .u64 id, .string s] w (RPutEnd l id s w) := by
  have HV := Lib.hid (rput_err v l id _ s w hv rfl h)
  have HG := Lib.hid (rget_anyC v l id w hv)
  obtain ⟨n, hn⟩ : ∃ n, putE l id s = n := ⟨_, rfl⟩
  rw [hn] at HV h
  unfold putE at hn
  obtain ⟨al, cap, rfl, hcap, hmx, hc⟩ := hv
  clear hc
  by_cases h1 : 6004799503160661 ≤ id
  · rw [if_pos h1] at hn
    subst hn
    have h1' : (6004799503160661 : Int) ≤ (id : Int) := by omega
    go_enter Try.func33, Try.ntmps33
    go_wp2_with fail
    exact bodyPost_ret (results_tmp2 rfl _ _ _) rfl (HV.out _ rfl)
  · rw [if_neg h1] at hn
    have h1' : ¬ (6004799503160661 : Int) ≤ (id : Int) := by omega
    by_cases h2 : s.size = 0
    · rw [if_pos h2] at hn
      subst hn
      have h2' : ((s.size : Int) == 0) = true := by rw [beq_iff_eq]; omega
      go_enter Try.func33, Try.ntmps33
      go_wp2_with fail
      exact bodyPost_ret (results_tmp2 rfl _ _ _) rfl (HV.out _ rfl)
    · rw [if_neg h2] at hn
      have h2' : ((s.size : Int) == 0) = false := by rw [beq_eq_false_iff_ne]; omega
      by_cases h3 : 65536 < s.size
      · rw [if_pos h3] at hn
        subst hn
        have h3' : (65536 : Int) < (s.size : Int) := by omega
        go_enter Try.func33, Try.ntmps33
        go_wp2_with fail
        exact bodyPost_ret (results_tmp2 rfl _ _ _) rfl (HV.out _ rfl)
      · rw [if_neg h3] at hn
        have h3' : ¬ (65536 : Int) < (s.size : Int) := by omega
        cases hg : getI id l with
        | some t => rw [hg] at hn; simp at hn; exact absurd hn.symm h
        | none =>
          rw [hg] at hn HG
          by_cases h4 : 2048 ≤ l.length
          · simp [h4] at hn
            subst hn
            have h4' : decide ((2048 : Int) ≤ (l.length : Int)) = true := decide_eq_true (by omega)
            rw [show (none : Option ByteArray).isSome = false from rfl] at HG
            generalize getT none = gt at *
            go_enter Try.func33, Try.ntmps33
            go_wp2_with fail
            refine HG.out.mono ?_
            rintro y w1 ⟨rfl, rfl⟩
            go_wp2_with fail
            exact bodyPost_ret (results_tmp2 rfl _ _ _) rfl (HV.out _ rfl)
          · simp [h4] at hn; exact absurd hn.symm h
set_option maxRecDepth 20000 in
set_option maxHeartbeats 2000000 in
theorem rput_yes (v : Value) (l : List It) (id : Nat) (s : ByteArray) (w : World) (hv : ItsAt w v l) (hl : l.length ≤ 100000) (h : putE l id s = 0) : Calls Try.prog 33 #[v, .int .u64 id, .string s] w (RPutEnd l id s w) := by
  have HG := Lib.hid (rget_anyC v l id w hv)
  have HD := Lib.hid (rdel_any v l id w hv hl)
  have hlen := delI_len id l
  have hE := h
  have hL := Lib.hid (show putL l id s = putI id s l by unfold putL; rw [if_pos h])
  have E := Lib.hid h
  unfold putE at h
  by_cases h1 : 6004799503160661 ≤ id
  · rw [if_pos h1] at h; omega
  rw [if_neg h1] at h
  by_cases h2 : s.size = 0
  · rw [if_pos h2] at h; omega
  rw [if_neg h2] at h
  by_cases h3 : 65536 < s.size
  · rw [if_pos h3] at h; omega
  rw [if_neg h3] at h
  have h1' : ¬ (6004799503160661 : Int) ≤ (id : Int) := by omega
  have h2' : ((s.size : Int) == 0) = false := by rw [beq_eq_false_iff_ne]; omega
  have h3' : ¬ (65536 : Int) < (s.size : Int) := by omega
  have h4 : ((getI id l).isSome = true) ∨ ((getI id l).isSome = false ∧ decide ((2048 : Int) ≤ (l.length : Int)) = false) := by
    cases hg : getI id l with
    | some t => exact .inl rfl
    | none =>
      refine .inr ⟨rfl, decide_eq_false ?_⟩
      rw [hg] at h
      intro hq
      have : 2048 ≤ l.length := by omega
      simp [this] at h
  obtain ⟨al, cap, rfl, hcap, hmx, hc⟩ := hv
  clear hc h hE
  generalize getT (getI id l) = gt at *
  generalize (getI id l).isSome = gb at *
  generalize hr : delI id l = r at *
  go_enter Try.func33, Try.ntmps33
  go_wp2_with fail
  refine HG.out.mono ?_
  rintro y w1 ⟨rfl, rfl⟩
  rcases h4 with rfl | ⟨rfl, h4⟩
  all_goals
    go_wp2_with fail
    refine HD.out.mono ?_
    rintro y w2 ⟨vr, rfl, hown, hb⟩
    rcases hown.form with ⟨rfl, rfl⟩ | ⟨g, cap2, rfl, hB, hg, hq1, hq2, hcells⟩
    · obtain ⟨v1, w3, hr1, hown1, hgr1⟩ := itappend_run w2 w2.heap.size 22 67 22 _ Try.underlying22 infoIt rfl (.slice none 0 0) (.slice none 0 0) [] [] (ownIt_nil _ _ _) (its_nil _) (by simp) (Nat.le_refl _)
      have hb1 : Below w2.heap.size w2 w3 := Below.grown (Below.refl _ _) hgr1 (Nat.le_refl _) (fun k hk => by cases hk)
      have hb2 : Below w2.heap.size w2 (w3.alloc (.cells #[.int .u64 id, .string s] 67)) := hb1.alloc hb1.size _
      obtain ⟨v2, w4, hr2, hown2, hgr2⟩ := itappend_run (w3.alloc (.cells #[.int .u64 id, .string s] 67)) w2.heap.size 22 67 22 _ Try.underlying22 infoIt rfl v1 _ _ [(id, s)] (hown1.below (Below.alloc (Below.refl _ _) (Nat.le_refl _) _)) (it_lit w3 id s _) (by simp) hb2.size
      have hb3 : Below w2.heap.size w2 w4 := Below.grown hb2 hgr2 hb2.size (fun k hk => (hown1.lt k hk).1)
      obtain ⟨v3, w5, hr3, hown3, hgr3⟩ := itappend_run w4 w2.heap.size 22 67 22 _ Try.underlying22 infoIt rfl v2 (.slice none 0 0) _ [] hown2 (its_nil _) (by simp) hb3.size
      have hb4 : Below w2.heap.size w2 w5 := Below.grown hb3 hgr3 hb3.size (fun k hk => (hown2.lt k hk).1)
      have HB := Lib.hid (hb.trans (hb4.mono hb.size))
      have hput : putL l id s = [] ++ [] ++ [(id, s)] ++ [] := by
        rw [hL.out]
        unfold putI
        rw [hr]
        rfl
      have HO := Lib.hid (show ItsAt w5 v3 (putL l id s) by rw [hput]; exact hown3.itsAt)
      obtain ⟨a1, cap1, rfl⟩ := hown1.slice
      obtain ⟨a2, cap2', rfl⟩ := hown2.slice
      simp only [List.append_nil, List.nil_append, List.length_nil, List.length_singleton] at hr2 hr3
      clear hown1 hown2 hown3 hgr1 hgr2 hgr3 hb1 hb2 hb3 hb4 hb hput hown
      go_wp2_with fail
      go_loop [11] (fun i => i = .int .i64 0) (fun i => 0)
      case atStart => rfl
      case round =>
        subst hrel
        go_wp2_with (first | (at_builtin; refine Lib.wpList_append_run _ rfl _ _ _ _ rfl _ _ rfl rfl _ _ hr1 ?_; clear hr1) | (at_builtin; refine Lib.wpList_append_run _ rfl _ _ _ _ rfl _ _ rfl rfl _ _ hr2 ?_; clear hr2) | (at_builtin; refine Lib.wpList_append_run _ rfl _ _ _ _ rfl _ _ rfl rfl _ _ hr3 ?_; clear hr3) | fail)
        refine bodyPost_ret (results_tmp2 rfl _ _ _) rfl ⟨_, ?_, HO.out, HB.out⟩
        rw [E.out]; rfl
    · have HC := Lib.hid hcells
      have HLo := Lib.hid (low_at id r)
      have hlo := low_le id r
      have hLe := Lib.hid (low_end id r)
      generalize hn : (lowI id r).length = n at *
      go_wp2_with fail
      go_loop [11] (fun i => ∃ k : Nat, k ≤ n ∧ i = .int .i64 k) (fun i => n - (intOf i).toNat)
      case atStart => exact ⟨0, Nat.zero_le _, rfl⟩
      case round =>
        obtain ⟨k, hk, rfl⟩ := hrel
        by_cases hlt : k < n
        · obtain ⟨⟨x, t⟩, htk, hx⟩ := HLo.out k hlt
          obtain ⟨c0, c1⟩ := HC.out k _ htk
          have hkr : (k : Int) < (r.length : Int) := by omega
          have hx' : (x : Int) < (id : Int) := by simp only at hx; omega
          go_wp2_with fail
          go_round
          case rel => exact ⟨k + 1, by omega, by go_num⟩
          case measure => simp [intOf]; omega
        · have hkn : k = n := by omega
          subst hkn
          have hend : ((k : Int) < (r.length : Int) ∧ ∃ x t, r[k]? = some (x, t) ∧ ¬ (x : Int) < (id : Int)) ∨ ¬ (k : Int) < (r.length : Int) := by
            by_cases hq : k < r.length
            · obtain ⟨⟨x, t⟩, ht⟩ : ∃ t, r[k]? = some t := ⟨_, List.getElem?_eq_getElem hq⟩
              have := hLe.out _ ht
              exact .inl ⟨by omega, x, t, ht, by simp only at this; omega⟩
            · exact .inr (by omega)
          have hpre := its_pre k hlo hg hq1 hq2 hcells
          have hpost := its_post k hlo hg hq1 hq2 hcells
          have hlp : (r.take k).length = k := by rw [List.length_take]; omega
          obtain ⟨v1, w3, hr1, hown1, hgr1⟩ := itappend_run w2 w2.heap.size 22 67 22 _ Try.underlying22 infoIt rfl (.slice none 0 0) _ [] (r.take k) (ownIt_nil _ _ _) hpre (by simp; omega) (Nat.le_refl _)
          rw [List.nil_append] at hown1
          have hb1 : Below w2.heap.size w2 w3 := Below.grown (Below.refl _ _) hgr1 (Nat.le_refl _) (fun k hk => by cases hk)
          have hb2 : Below w2.heap.size w2 (w3.alloc (.cells #[.int .u64 id, .string s] 67)) := hb1.alloc hb1.size _
          obtain ⟨v2, w4, hr2, hown2, hgr2⟩ := itappend_run (w3.alloc (.cells #[.int .u64 id, .string s] 67)) w2.heap.size 22 67 22 _ Try.underlying22 infoIt rfl v1 _ _ [(id, s)] (hown1.below (Below.alloc (Below.refl _ _) (Nat.le_refl _) _)) (it_lit w3 id s _) (by simp only [List.length_singleton]; omega) hb2.size
          have hb3 : Below w2.heap.size w2 w4 := Below.grown hb2 hgr2 hb2.size (fun k hk => (hown1.lt k hk).1)
          have hlq : (r.take k ++ [(id, s)]).length = k + 1 := by rw [List.length_append, hlp]; rfl
          have hput : putL l id s = r.take k ++ [(id, s)] ++ r.drop k := by
            rw [hL.out]
            unfold putI
            rw [hr, ← low_take id r, ← low_drop id r, hn, List.append_assoc]
            rfl
          rcases hend with ⟨e1, x, t, e2, e3⟩ | e1
          · obtain ⟨c0, c1⟩ := hcells k _ e2
            obtain ⟨v3, w5, hr3, hown3, hgr3⟩ := itappend_run w4 w2.heap.size 22 67 22 _ Try.underlying22 infoIt rfl v2 _ _ (r.drop k) hown2 (hpost.below hb3) (by rw [List.length_drop]; omega) hb3.size
            have hb4 : Below w2.heap.size w2 w5 := Below.grown hb3 hgr3 hb3.size (fun k hk => (hown2.lt k hk).1)
            have HB := Lib.hid (hb.trans (hb4.mono hb.size))
            have HO := Lib.hid (show ItsAt w5 v3 (putL l id s) by rw [hput]; exact hown3.itsAt)
            obtain ⟨a1, cap1, rfl⟩ := hown1.slice
            obtain ⟨a2, cap2', rfl⟩ := hown2.slice
            rw [hlp] at hr2
            rw [hlq] at hr3
            have HC := Lib.hid hcells
            clear hcells hpre hpost hown1 hown2 hown3 hgr1 hgr2 hgr3 hb1 hb2 hb3 hb4 hb hput hown
            go_wp2_with (first | (at_builtin; refine Lib.wpList_append_run _ rfl _ _ _ _ rfl _ _ rfl rfl _ _ hr1 ?_; clear hr1) | (at_builtin; refine Lib.wpList_append_run _ rfl _ _ _ _ rfl _ _ rfl rfl _ _ hr2 ?_; clear hr2) | (at_builtin; refine Lib.wpList_append_run _ rfl _ _ _ _ rfl _ _ rfl rfl _ _ hr3 ?_; clear hr3) | fail)
            refine bodyPost_ret (results_tmp2 rfl _ _ _) rfl ⟨_, ?_, HO.out, HB.out⟩
            rw [E.out]; rfl
          · by_cases hck : cap2 = k
            · have hpz : ItsAt w4 (.slice (some ⟨g, 0, none⟩) (r.length - k) 0) (r.drop k) := its_zero k (by omega)
              obtain ⟨v3, w5, hr3, hown3, hgr3⟩ := itappend_run w4 w2.heap.size 22 67 22 _ Try.underlying22 infoIt rfl v2 _ _ (r.drop k) hown2 hpz (by rw [List.length_drop]; omega) hb3.size
              have hb4 : Below w2.heap.size w2 w5 := Below.grown hb3 hgr3 hb3.size (fun k hk => (hown2.lt k hk).1)
              have HB := Lib.hid (hb.trans (hb4.mono hb.size))
              have HO := Lib.hid (show ItsAt w5 v3 (putL l id s) by rw [hput]; exact hown3.itsAt)
              obtain ⟨a1, cap1, rfl⟩ := hown1.slice
              obtain ⟨a2, cap2', rfl⟩ := hown2.slice
              rw [hlp] at hr2
              rw [hlq] at hr3
              have HC := Lib.hid hcells
              clear hpz hcells hpre hpost hown1 hown2 hown3 hgr1 hgr2 hgr3 hb1 hb2 hb3 hb4 hb hput hown
              go_wp2_with (first | (at_builtin; refine Lib.wpList_append_run _ rfl _ _ _ _ rfl _ _ rfl rfl _ _ hr1 ?_; clear hr1) | (at_builtin; refine Lib.wpList_append_run _ rfl _ _ _ _ rfl _ _ rfl rfl _ _ hr2 ?_; clear hr2) | (at_builtin; refine Lib.wpList_append_run _ rfl _ _ _ _ rfl _ _ rfl rfl _ _ hr3 ?_; clear hr3) | fail)
              refine bodyPost_ret (results_tmp2 rfl _ _ _) rfl ⟨_, ?_, HO.out, HB.out⟩
              rw [E.out]; rfl
            · have hdu := hck
              obtain ⟨v3, w5, hr3, hown3, hgr3⟩ := itappend_run w4 w2.heap.size 22 67 22 _ Try.underlying22 infoIt rfl v2 _ _ (r.drop k) hown2 (hpost.below hb3) (by rw [List.length_drop]; omega) hb3.size
              have hb4 : Below w2.heap.size w2 w5 := Below.grown hb3 hgr3 hb3.size (fun k hk => (hown2.lt k hk).1)
              have HB := Lib.hid (hb.trans (hb4.mono hb.size))
              have HO := Lib.hid (show ItsAt w5 v3 (putL l id s) by rw [hput]; exact hown3.itsAt)
              obtain ⟨a1, cap1, rfl⟩ := hown1.slice
              obtain ⟨a2, cap2', rfl⟩ := hown2.slice
              rw [hlp] at hr2
              rw [hlq] at hr3
              have HC := Lib.hid hcells
              clear hcells hpre hpost hown1 hown2 hown3 hgr1 hgr2 hgr3 hb1 hb2 hb3 hb4 hb hput hown
              go_wp2_with (first | (at_builtin; refine Lib.wpList_append_run _ rfl _ _ _ _ rfl _ _ rfl rfl _ _ hr1 ?_; clear hr1) | (at_builtin; refine Lib.wpList_append_run _ rfl _ _ _ _ rfl _ _ rfl rfl _ _ hr2 ?_; clear hr2) | (at_builtin; refine Lib.wpList_append_run _ rfl _ _ _ _ rfl _ _ rfl rfl _ _ hr3 ?_; clear hr3) | fail)
              refine bodyPost_ret (results_tmp2 rfl _ _ _) rfl ⟨_, ?_, HO.out, HB.out⟩
              rw [E.out]; rfl
theorem rput_any (v : Value) (l : List It) (id : Nat) (s : ByteArray) (w : World) (hv : ItsAt w v l) (hl : l.length ≤ 100000) (hid : id < 18446744073709551616) : Calls Try.prog 33 #[v, .int .u64 id, .string s] w (RPutEnd l id s w) := by
  by_cases h : putE l id s = 0
  · exact rput_yes v l id s w hv hl h
  · exact rput_no v l id s w hv hid h
end Go.Proofs.Ytleicghfcffblaa
/- The contract of the document's Of. -/
namespace Go.Proofs.Ytleicghfcffblaa
open Go.RowKit
set_option maxRecDepth 20000
set_option linter.unusedVariables false
set_option linter.unusedSimpArgs false
theorem takeHC {P : Program} {ops : Array Oper} {Q : Exit → Act → World → Prop} {md : Region.Mode} {S : World → Prop} {i d : Nat} {oi : Oper} {v : Value} {fuel : Nat} {listed : Array Bool} {a : Act} {w : World} (hi : ops[i]? = some oi) (hd : oi.dst = some d)
    (hs : Region.noSelect ops = true) (hf : Region.free md ops listed i = true) (hr : (Region.ready md ops listed).contains i = true)
    (hQ : ∀ c a w, Q (.panic c) (a.put (some d) v) w → Q (.panic c) a w) (hy : YieldsIf P ops S oi v a) (hS : S w)
    (h : wpAnyH P md ops Q S fuel (listed.setIfInBounds i true) (a.put (some d) v) w) : wpAnyH P md ops Q S (fuel + 1) listed a w :=
  wpAnyH_take hi hs hf hr (by rw [hd]; exact hQ) hy hS (by rw [hd]; exact h)
theorem ItsAt.pre {w : World} {a : Option Addr} {n cap : Nat} {l : List It} (h : ItsAt w (.slice a n cap) l) (k : Nat) (hk : k ≤ l.length) : ItsAt w (.slice a k cap) (l.take k) := by
  obtain ⟨a', cap', e, h1, h2, hc⟩ := h
  cases e
  have hl : (l.take k).length = k := by rw [List.length_take]; omega
  refine ⟨_, cap, by rw [hl], by omega, h2, fun j t ht => ?_⟩
  have hj : j < k := by have := (List.getElem?_eq_some_iff.1 ht).1; omega
  rw [List.getElem?_take, if_pos hj] at ht
  exact hc j t ht
theorem putI_len (id : Nat) (s : ByteArray) (l : List It) : (putI id s l).length ≤ l.length + 1 := by
  have h1 := congrArg List.length (low_high id (delI id l))
  have h2 := delI_len id l
  unfold putI
  rw [List.length_append] at h1
  rw [List.length_append, List.length_cons]
  omega
theorem ofR_step (all acc : List It) (k : Nat) (t : It) (h : all[k]? = some t) : ofR (all.take k) acc (all.drop k) = if (getI t.1 (all.take k)).isSome then ([], 22) else if putE acc t.1 t.2 ≠ 0 then ([], putE acc t.1 t.2) else ofR (all.take (k + 1)) (putI t.1 t.2 acc) (all.drop (k + 1)) := by
  rw [idrop_at all k t h, ofR, itake_at all k t h]
def ROfEnd (l : List It) (w : World) (e : Ending) (w' : World) : Prop :=
  ∃ v', e = .returned (.tuple #[v', .int .i64 ((ofI l).2 : Nat)]) ∧ ItsAt w' v' (ofI l).1 ∧ Below w.heap.size w w'
end Go.Proofs.Ytleicghfcffblaa
