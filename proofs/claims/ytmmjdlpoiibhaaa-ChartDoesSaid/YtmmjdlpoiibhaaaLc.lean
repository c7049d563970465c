/- Contracts of the document's Get, Del, Bytes, Same, and of the law's Over and Back. -/
import Derived.Test.YtmmjdlpoiibhaaaLb
namespace Go.Proofs.Ytmmjdlpoiibhaaa
open Go.RowKit
set_option maxRecDepth 20000
set_option linter.unusedVariables false
set_option linter.unusedSimpArgs false
def getT (o : Option ByteArray) : ByteArray := o.getD { data := #[] }
theorem getI_step (id : Nat) (l : List It) (k : Nat) (t : It) (h : l[k]? = some t) : getI id (l.drop k) = if t.1 = id then some t.2 else getI id (l.drop (k + 1)) := by
  rw [idrop_at l k t h, getI]
set_option maxHeartbeats 1000000 in
theorem rget_any (v : Value) (l : List It) (id : Nat) (w : World) (hv : ItsAt w v l) :
    Calls Try.prog 17 #[v, .int .u64 id] w fun e w' => e = .returned (.tuple #[.string (getT (getI id l)), .bool (getI id l).isSome]) ∧ w' = w := by
  obtain ⟨al, cap, rfl, hcap, hmx, hc⟩ := hv
  have HC := Lib.hid hc
  have hmx' : l.length ≤ maxLen := by omega
  unfold maxLen at hmx'
  clear hc
  go_enter Try.func17, Try.ntmps17
  go_wp2_with fail
  go_loop [6] (fun i => ∃ k : Nat, k ≤ l.length ∧ i = .int .i64 k ∧ getI id l = getI id (l.drop k)) (fun i => l.length - (intOf i).toNat)
  case atStart => exact ⟨0, Nat.zero_le _, rfl, by simp⟩
  case round =>
    obtain ⟨k, hk, rfl, hf⟩ := hrel
    by_cases hlt : k < l.length
    · obtain ⟨⟨x, s⟩, htk⟩ : ∃ t, l[k]? = some t := ⟨_, List.getElem?_eq_getElem hlt⟩
      obtain ⟨g, off, rfl, hg, c0, c1⟩ := HC.out k _ htk
      rw [getI_step id l k _ htk] at hf
      by_cases he : x = id
      · rw [if_pos he] at hf
        have HF := Lib.hid hf
        clear hf
        subst he
        go_wp2_with fail
        refine bodyPost_ret (results_tmp2 rfl _ _ _) rfl ⟨?_, rfl⟩
        rw [HF.out]; rfl
      · rw [if_neg he] at hf
        have HF := Lib.hid hf
        clear hf
        have hne : ((x : Int) == (id : Int)) = false := by rw [beq_eq_false_iff_ne]; omega
        go_wp2_with fail
        go_round
        case rel => exact ⟨k + 1, by omega, by go_num, HF.out⟩
        case measure => simp [intOf]; omega
    · obtain rfl : k = l.length := by omega
      rw [List.drop_length, getI] at hf
      have HF := Lib.hid hf
      clear hf
      go_wp2_with fail
      refine bodyPost_ret (results_tmp2 rfl _ _ _) rfl ⟨?_, rfl⟩
      rw [HF.out]; rfl
set_option maxHeartbeats 1000000 in
theorem rbytes_any (v : Value) (l : List It) (w : World) (hv : ItsAt w v l) (ht : bytesI l ≤ 1000000000) :
    Calls Try.prog 22 #[v] w fun e w' => e = .returned (.int .i64 (bytesI l : Nat)) ∧ w' = w := by
  obtain ⟨al, cap, rfl, hcap, hmx, hc⟩ := hv
  have HC := Lib.hid hc
  have hmx' : l.length ≤ maxLen := by omega
  unfold maxLen at hmx'
  clear hc
  go_enter Try.func22, Try.ntmps22
  go_wp2_with fail
  go_loop [3, 4] (fun n i => ∃ k : Nat, k ≤ l.length ∧ i = .int .i64 k ∧ n = .int .i64 (bytesI (l.take k) : Nat)) (fun _ i => l.length - (intOf i).toNat)
  case atStart => exact ⟨0, Nat.zero_le _, rfl, by simp [bytesI]⟩
  case round =>
    obtain ⟨k, hk, rfl, rfl⟩ := hrel
    by_cases hlt : k < l.length
    · obtain ⟨⟨x, s⟩, htk⟩ : ∃ t, l[k]? = some t := ⟨_, List.getElem?_eq_getElem hlt⟩
      obtain ⟨g, off, rfl, hg, c0, c1⟩ := HC.out k _ htk
      have HS := Lib.hid (bytesI_step l k _ htk)
      have h1 := bytesI_step l k _ htk
      have h2 := bytesI_take l (k + 1)
      generalize bytesI (l.take k) = q at *
      simp only at HS h1
      go_wp2_with fail
      go_round
      case rel => exact ⟨k + 1, by omega, by go_num, by rw [HS.out]; go_num⟩
      case measure => simp [intOf]; omega
    · obtain rfl : k = l.length := by omega
      rw [List.take_length]
      go_wp2_with fail
      go_ret
      exact ⟨rfl, rfl⟩
def overI (l : List It) (m M : Int) : Bool := decide (M < bytesI l) || decide (m < (l.length : Int))
set_option maxHeartbeats 1000000 in
theorem over_any (v : Value) (l : List It) (m M : Int) (w : World) (hv : ItsAt w v l) (hsz : ∀ t ∈ l, t.2.size ≤ maxLen) (hM0 : 0 ≤ M) (hM1 : M ≤ 1000000) :
    Calls Try.prog 23 #[v, .int .i64 m, .int .i64 M] w fun e w' => e = .returned (.bool (overI l m M)) ∧ w' = w := by
  obtain ⟨al, cap, rfl, hcap, hmx, hc⟩ := hv
  have HC := Lib.hid hc
  have hmx' : l.length ≤ maxLen := by omega
  unfold maxLen at hmx'
  clear hc
  go_enter Try.func23, Try.ntmps23
  go_wp2_with fail
  go_loop [2, 7] (fun n i => ∃ k : Nat, k ≤ l.length ∧ i = .int .i64 k ∧ n = .int .i64 (M - (bytesI (l.take k) : Int)) ∧ (bytesI (l.take k) : Int) ≤ M) (fun _ i => l.length - (intOf i).toNat)
  case atStart => exact ⟨0, Nat.zero_le _, rfl, by simp [bytesI], by simp [bytesI]; exact hM0⟩
  case round =>
    obtain ⟨k, hk, rfl, rfl, hle⟩ := hrel
    by_cases hlt : k < l.length
    · obtain ⟨⟨x, s⟩, htk⟩ : ∃ t, l[k]? = some t := ⟨_, List.getElem?_eq_getElem hlt⟩
      obtain ⟨g, off, rfl, hg, c0, c1⟩ := HC.out k _ htk
      have hts := hsz _ (List.mem_of_getElem? htk)
      have h1 := bytesI_step l k _ htk
      have h2 := bytesI_take l (k + 1)
      have HS := Lib.hid h1
      simp only at HS h1 hts
      unfold maxLen at hts
      generalize bytesI (l.take k) = q at *
      have hw : IntKind.i64.wrap (M - (q : Int) - (s.size : Int)) = M - (q : Int) - (s.size : Int) := by rw [IntKind.wrap_i64] <;> omega
      by_cases hn : M - (q : Int) - (s.size : Int) < 0
      · have HO := Lib.hid (show overI l m M = true by unfold overI; rw [Bool.or_eq_true, decide_eq_true_eq]; left; omega)
        go_wp2_with fail
        go_ret
        exact ⟨by rw [HO.out]; rfl, rfl⟩
      · go_wp2_with fail
        go_round
        case rel => exact ⟨k + 1, by omega, by go_num, by rw [HS.out]; go_num, by rw [HS.out]; omega⟩
        case measure => simp [intOf]; omega
    · obtain rfl : k = l.length := by omega
      rw [List.take_length] at hle ⊢
      have HO := Lib.hid (show overI l m M = decide (m < (l.length : Int)) by unfold overI; rw [decide_eq_false (by omega), Bool.false_or])
      go_wp2_with fail
      go_ret
      exact ⟨by rw [HO.out]; rfl, rfl⟩
/-- A list that is copied, item by item, into a row of one's own. -/
def OwnEnd (E : TypeId) (l : List It) (w : World) (e : Ending) (w' : World) : Prop := ∃ v, e = .returned v ∧ OwnIt w' w.heap.size E v l ∧ Below w.heap.size w w'
set_option maxHeartbeats 1000000 in
theorem rdel_any (v : Value) (l : List It) (id : Nat) (w : World) (hv : ItsAt w v l) (hl : l.length ≤ 100000) :
    Calls Try.prog 15 #[v, .int .u64 id] w (OwnEnd 53 (delI id l) w) := by
  obtain ⟨al, cap, rfl, hcap, hmx, hc⟩ := hv
  have HC := Lib.hid hc
  have hmx' : l.length ≤ maxLen := by omega
  unfold maxLen at hmx'
  clear hc
  go_enter Try.func15, Try.ntmps15
  go_wp2_with fail
  go_loopw [5, 6] (fun u i wr => ∃ k : Nat, k ≤ l.length ∧ i = .int .i64 k ∧ OwnIt wr w.heap.size 53 u (delI id (l.take k)) ∧ Below w.heap.size w wr) (fun _ i _ => l.length - (intOf i).toNat)
  case atStart => exact ⟨0, Nat.zero_le _, rfl, ownIt_nil _ _ _, Below.refl _ _⟩
  case round =>
    obtain ⟨k, hk, rfl, hown, hbw⟩ := hrel
    by_cases hlt : k < l.length
    · obtain ⟨⟨x, s⟩, htk⟩ : ∃ t, l[k]? = some t := ⟨_, List.getElem?_eq_getElem hlt⟩
      obtain ⟨g, off, rfl, hg, c0, c1⟩ := HC.out k _ htk
      have HS := Lib.hid (delI_step id l k _ htk)
      have hlen := delI_len id (l.take k)
      rw [List.length_take] at hlen
      have d0 := (hbw.cell (p := ⟨g, off + k * 2, none⟩) hg).trans c0
      have d1 := (hbw.cell (p := ⟨g, off + k * 2 + 1, none⟩) hg).trans c1
      have d2 := Nat.lt_of_lt_of_le hg hbw.size
      by_cases he : x = id
      · have HO := Lib.hid hown
        have HB := Lib.hid hbw
        clear hown hbw
        have hs : delI id (l.take (k + 1)) = delI id (l.take k) := by rw [HS.out, if_pos he]
        have HS2 := Lib.hid hs
        clear hs HS c0 c1
        subst he
        go_wp2_with fail
        go_roundw
        case rel => exact ⟨k + 1, by omega, by go_num, by rw [HS2.out]; exact HO.out, HB.out⟩
        case measure => simp [intOf]; omega
      · have hs : delI id (l.take (k + 1)) = delI id (l.take k) ++ [(x, s)] := by rw [HS.out, if_neg he]
        have HS2 := Lib.hid hs
        have hne : ((x : Int) != (id : Int)) = true := by simp; omega
        have hb2 : Below w.heap.size w (wr.alloc (.cells #[.int .u64 x, .string s] 53)) := hbw.alloc hbw.size _
        obtain ⟨v', w', hr, hown', hgr⟩ := itappend_run (wr.alloc (.cells #[.int .u64 x, .string s] 53)) w.heap.size 27 53 27 _ Try.underlying27 infoIt rfl _ _ _ [(x, s)] (hown.below (Below.alloc (Below.refl _ _) (Nat.le_refl _) _)) (it_lit wr x s _) (by simp; omega) hb2.size
        have HO := Lib.hid hown'
        have HB := Lib.hid (Below.grown hb2 hgr hb2.size (fun k hk => (hown.lt k hk).1))
        clear hown hbw hs HS c0 c1 hb2 hown' hgr
        go_wp2_with (first | (at_builtin; refine Lib.wpList_append_run _ rfl _ _ _ _ rfl _ _ rfl rfl _ _ hr ?_) | fail)
        go_roundw
        case rel => exact ⟨k + 1, by omega, by go_num, by rw [HS2.out]; exact HO.out, HB.out⟩
        case measure => simp [intOf]; omega
    · obtain rfl : k = l.length := by omega
      rw [List.take_length] at hown
      go_wp2_with fail
      go_ret
      exact ⟨_, rfl, hown, hbw⟩
set_option maxHeartbeats 1000000 in
theorem back_any (v : Value) (l : List It) (w : World) (hv : ItsAt w v l) (hl : l.length ≤ 100000) :
    Calls Try.prog 12 #[v] w (OwnEnd 53 l w) := by
  obtain ⟨al, cap, rfl, hcap, hmx, hc⟩ := hv
  have HC := Lib.hid hc
  have hmx' : l.length ≤ maxLen := by omega
  unfold maxLen at hmx'
  clear hc
  go_enter Try.func12, Try.ntmps12
  go_wp2_with fail
  go_loopw [3, 4] (fun u i wr => ∃ k : Nat, k ≤ l.length ∧ i = .int .i64 k ∧ OwnIt wr w.heap.size 53 u (l.take k) ∧ Below w.heap.size w wr) (fun _ i _ => l.length - (intOf i).toNat)
  case atStart => exact ⟨0, Nat.zero_le _, rfl, ownIt_nil _ _ _, Below.refl _ _⟩
  case round =>
    obtain ⟨k, hk, rfl, hown, hbw⟩ := hrel
    by_cases hlt : k < l.length
    · obtain ⟨⟨x, s⟩, htk⟩ : ∃ t, l[k]? = some t := ⟨_, List.getElem?_eq_getElem hlt⟩
      obtain ⟨g, off, rfl, hg, c0, c1⟩ := HC.out k _ htk
      have HS2 := Lib.hid (itake_at l k _ htk)
      have hlen : (l.take k).length ≤ k := List.length_take_le _ _
      have d0 := (hbw.cell (p := ⟨g, off + k * 2, none⟩) hg).trans c0
      have d1 := (hbw.cell (p := ⟨g, off + k * 2 + 1, none⟩) hg).trans c1
      have d2 := Nat.lt_of_lt_of_le hg hbw.size
      have hb2 : Below w.heap.size w (wr.alloc (.cells #[.int .u64 x, .string s] 53)) := hbw.alloc hbw.size _
      obtain ⟨v', w', hr, hown', hgr⟩ := itappend_run (wr.alloc (.cells #[.int .u64 x, .string s] 53)) w.heap.size 27 53 27 _ Try.underlying27 infoIt rfl _ _ _ [(x, s)] (hown.below (Below.alloc (Below.refl _ _) (Nat.le_refl _) _)) (it_lit wr x s _) (by simp only [List.length_singleton]; omega) hb2.size
      have HO := Lib.hid hown'
      have HB := Lib.hid (Below.grown hb2 hgr hb2.size (fun k hk => (hown.lt k hk).1))
      clear hown hbw c0 c1 hb2 hown' hgr
      go_wp2_with (first | (at_builtin; refine Lib.wpList_append_run _ rfl _ _ _ _ rfl _ _ rfl rfl _ _ hr ?_) | fail)
      go_roundw
      case rel => exact ⟨k + 1, by omega, by go_num, by rw [HS2.out]; exact HO.out, HB.out⟩
      case measure => simp [intOf]; omega
    · obtain rfl : k = l.length := by omega
      rw [List.take_length] at hown
      go_wp2_with fail
      go_ret
      exact ⟨_, rfl, hown, hbw⟩
end Go.Proofs.Ytmmjdlpoiibhaaa
