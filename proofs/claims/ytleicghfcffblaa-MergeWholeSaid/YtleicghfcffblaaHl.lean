/- Bytes, Same. -/
import Derived.Test.YtleicghfcffblaaMH
namespace Go.Proofs.Ytleicghfcffblaa
open Go.RowKit
set_option maxRecDepth 20000
set_option linter.unusedVariables false
set_option linter.unusedSimpArgs false
theorem bytesI_bound (l : List It) (h : ∀ t ∈ l, t.2.size ≤ 65536) : bytesI l ≤ l.length * 65536 := by
  induction l with
  | nil => simp [bytesI]
  | cons t l ih =>
    have h1 := h t (by simp)
    have h2 := ih (fun u hu => h u (by simp [hu]))
    rw [bytesI, List.length_cons]
    omega
set_option maxHeartbeats 1000000 in
theorem bytes_any (s : Value) (l : List It) (w : World) (h : ChS w s l) :
    Calls Try.prog 30 #[.agg #[s]] w fun e w' => e = .returned (.int .i64 (bytesI l : Nat)) ∧ Below w.heap.size w w' := by
  have hbb := bytesI_bound l h.good.short
  have hfew := h.good.few
  obtain ⟨al, cap, rfl, hcap, hmx, hc⟩ := h.its
  have HC := Lib.hid hc
  clear hc h
  have ht : bytesI l ≤ 134217728 := by omega
  clear hbb
  go_enter Try.func30, Try.ntmps30
  go_wp2_with fail
  go_loopw [3, 9] (fun n i wr => ∃ k : Nat, k ≤ l.length ∧ i = .int .i64 k ∧ n = .int .i64 (bytesI (l.take k) : Nat) ∧ Below w.heap.size w wr) (fun _ i _ => l.length - (intOf i).toNat)
  case atStart => exact ⟨0, Nat.zero_le _, rfl, by simp [bytesI], by go_grown⟩
  case round =>
    obtain ⟨k, hk, rfl, rfl, hbw⟩ := hrel
    by_cases hlt : k < l.length
    · obtain ⟨⟨x, s⟩, htk⟩ : ∃ t, l[k]? = some t := ⟨_, List.getElem?_eq_getElem hlt⟩
      obtain ⟨g, off, rfl, hg, c0, c1⟩ := HC.out k _ htk
      have d0 := (hbw.cell (p := ⟨g, off + k * 2, none⟩) hg).trans c0
      have d1 := (hbw.cell (p := ⟨g, off + k * 2 + 1, none⟩) hg).trans c1
      have HS := Lib.hid (bytesI_step l k _ htk)
      have h1 := bytesI_step l k _ htk
      have h2 := bytesI_take l (k + 1)
      have HB := Lib.hid (fun O => hbw.alloc hbw.size O)
      generalize bytesI (l.take k) = q at *
      simp only at HS h1
      have hki : (k : Int) < (l.length : Int) := by omega
      clear c0 c1 hbw htk
      go_wp2_with fail
      go_roundw
      case rel => exact ⟨k + 1, by omega, by go_num, by rw [HS.out]; go_num, HB.out _⟩
      case measure => simp [intOf]; omega
    · obtain rfl : k = l.length := by omega
      rw [List.take_length]
      go_wp2_with fail
      go_ret
      exact ⟨rfl, hbw⟩
set_option maxHeartbeats 1000000 in
theorem pequal_anyC (v u : Value) (a b : List It) (w : World) (hv : ItsAt w v a) (hu : ItsAt w u b) :
    Calls Try.prog 47 #[v, u] w fun e w' => e = .returned (.bool (decide (a = b))) ∧ Below w.heap.size w w' := by
  obtain ⟨al, cap, rfl, hcap, hmx, hc⟩ := hv
  obtain ⟨bl, cbp, rfl, hcbp, hmy, hd⟩ := hu
  have HC := Lib.hid hc
  have HD := Lib.hid hd
  have hmx' : a.length ≤ maxLen := by omega
  have hmy' : b.length ≤ maxLen := by omega
  unfold maxLen at hmx' hmy'
  clear hc hd
  go_enter Try.func47, Try.ntmps47
  by_cases hl : a.length = b.length
  · have hle : ((a.length : Int) != (b.length : Int)) = false := by simp; omega
    have HLn := Lib.hid hl
    clear hl
    go_wp2_with fail
    go_loopw [13] (fun i wr => ∃ k : Nat, k ≤ a.length ∧ i = .int .i64 k ∧ a.take k = b.take k ∧ Below w.heap.size w wr) (fun i _ => a.length - (intOf i).toNat)
    case atStart => exact ⟨0, Nat.zero_le _, rfl, by simp, Below.refl _ _⟩
    case round =>
      obtain ⟨k, hk, rfl, hq, hbw⟩ := hrel
      by_cases hlt : k < a.length
      · obtain ⟨⟨x, s⟩, hsk⟩ : ∃ t, a[k]? = some t := ⟨_, List.getElem?_eq_getElem hlt⟩
        obtain ⟨⟨y, t⟩, htk⟩ : ∃ t, b[k]? = some t := ⟨_, List.getElem?_eq_getElem (by have := HLn.out; omega)⟩
        obtain ⟨g, off, rfl, hg, c0, c1⟩ := HC.out k _ hsk
        obtain ⟨h, oh, rfl, hh, d0, d1⟩ := HD.out k _ htk
        have c0 := (hbw.cell (p := ⟨g, off + k * 2, none⟩) hg).trans c0
        have c1 := (hbw.cell (p := ⟨g, off + k * 2 + 1, none⟩) hg).trans c1
        have c2 := Nat.lt_of_lt_of_le hg hbw.size
        have d0 := (hbw.cell (p := ⟨h, oh + k * 2, none⟩) hh).trans d0
        have d1 := (hbw.cell (p := ⟨h, oh + k * 2 + 1, none⟩) hh).trans d1
        have d2 := Nat.lt_of_lt_of_le hh hbw.size
        have HB := Lib.hid (fun n => hbw.trans (show Below w.heap.size wr (wr.drewN n) from ⟨rfl, rfl, rfl, Nat.le_refl _, fun _ _ => rfl⟩))
        have hk1 : (k : Int) < (a.length : Int) := by omega
        have hk2 : (k : Int) < (b.length : Int) := by have := HLn.out; omega
        clear hbw
        by_cases hxy : x = y
        · subst hxy
          by_cases hst : s = t
          · have HQ := Lib.hid (same_step a b k _ _ hsk htk hq (by rw [hst]))
            have hy := str_yes hst
            clear hq
            go_wp2_with fail
            go_quiet (fail)
            go_wp2_with fail
            go_roundw
            case rel => exact ⟨k + 1, by omega, by go_num, HQ.out, HB.out _⟩
            case measure => simp [intOf]; omega
          · have HQ := Lib.hid (show decide (a = b) = false from decide_eq_false (same_not a b k _ _ hsk htk (fun e => hst (by injection e))))
            have hy := str_no hst
            clear hq
            go_wp2_with fail
            go_quiet (fail)
            go_wp2_with fail
            go_ret
            exact ⟨by rw [HQ.out]; rfl, HB.out _⟩
        · have HQ := Lib.hid (show decide (a = b) = false from decide_eq_false (same_not a b k _ _ hsk htk (fun e => hxy (by injection e))))
          have hy : ¬ (x : Int) = (y : Int) := by omega
          clear hq
          go_wp2_with fail
          go_quiet (fail)
          go_wp2_with fail
          go_ret
          exact ⟨by rw [HQ.out]; rfl, HB.out _⟩
      · have hkl : k = a.length := by omega
        subst hkl
        rw [List.take_length, HLn.out, List.take_length] at hq
        have HQ := Lib.hid (show decide (a = b) = true from decide_eq_true hq)
        clear hq
        go_wp2_with fail
        go_ret
        exact ⟨by rw [HQ.out]; rfl, hbw⟩
  · have hle : ((a.length : Int) != (b.length : Int)) = true := by simp; omega
    have HQ := Lib.hid (show decide (a = b) = false from decide_eq_false (fun e => hl (by rw [e])))
    go_wp2_with fail
    go_ret
    exact ⟨by rw [HQ.out]; rfl, Below.refl _ _⟩
theorem same_any (s t : Value) (a b : List It) (w : World) (h : ChS w s a) (h' : ChS w t b) :
    Calls Try.prog 22 #[.agg #[s], .agg #[t]] w fun e w' => e = .returned (.bool (decide (a = b))) ∧ Below w.heap.size w w' := by
  have HC := Lib.hid (fun W (hb : Below w.heap.size w W) => pequal_anyC s t a b W (h.its.below hb) (h'.its.below hb))
  obtain ⟨a1, n1, c1, rfl⟩ := h.form
  obtain ⟨a2, n2, c2, rfl⟩ := h'.form
  clear h h'
  go_enter Try.func22, Try.ntmps22
  go_wp2_with fail
  refine (HC.out _ (by go_grown)).mono ?_
  rintro e w1 ⟨rfl, hb⟩
  have H1 := Lib.hid (((Below.refl w.heap.size w).alloc (Nat.le_refl _) _).alloc (by simp) _ |>.trans (hb.mono (by simp; omega)))
  clear hb
  go_wp2_with fail
  go_ret
  exact ⟨rfl, H1.out⟩
end Go.Proofs.Ytleicghfcffblaa
