/- What Take answers: plain; rows of numbers of the call's own; and the contract of varint's Take where it is told at once that nothing is taken. -/
import Derived.Test.YtpjgemjceikhfaaJ
import Derived.Deep.DeepCutAuto
namespace Go.Proofs.Ytpjgemjceikhfaa
open Go.RowKit
set_option linter.unusedVariables false
theorem Try.info23 : (Try.prog.info? 23).map (fun i => (i.zero, i.size, i.bytes)) = some (some (.int .u64 0), 1, 8) := by kernel_rfl
/-- A row of the call's own: from block B on, the numbers l. -/
def OwnW (w : World) (B : Nat) (v : Value) (l : List Int) : Prop := w.ownsRow B 23 1 v l.length (l.map (Value.int .u64))
theorem OwnW.snoc {w' : World} {B : Nat} {v' : Value} {l : List Int} {c : Int} (hs : w'.ownsRow B 23 1 v' (l.length + 1) (l.map (Value.int .u64) ++ [.int .u64 c])) : OwnW w' B v' (l ++ [c]) := by
  unfold OwnW
  rw [List.length_append, List.map_append]
  exact hs
theorem ownW_nil (w : World) (B : Nat) : OwnW w B (.slice none 0 0) [] := World.ownsRow_nil _ _ _ _
theorem OwnW.below {w w' : World} {B : Nat} {v : Value} {l : List Int} (h : OwnW w B v l) (hb : Below w.heap.size w w') : OwnW w' B v l := by
  have hlt := World.ownsRow.lt h
  obtain ⟨h1, h2⟩ := h
  refine ⟨h1, ?_⟩
  rcases h2 with h2 | ⟨g, cap, cur, hv, hg, hh, r⟩
  · exact .inl h2
  · refine .inr ⟨g, cap, cur, hv, hg, ?_, r⟩
    rw [hb.block g (hlt g (by rw [hv]; rfl)).2]; exact hh
theorem OwnW.mono {w : World} {B B' : Nat} {v : Value} {l : List Int} (h : OwnW w B v l) (hb : B' ≤ B) : OwnW w B' v l := by
  obtain ⟨h1, h2⟩ := h
  refine ⟨h1, ?_⟩
  rcases h2 with h2 | ⟨g, cap, cur, hv, hg, r⟩
  · exact .inl h2
  · exact .inr ⟨g, cap, cur, hv, Nat.le_trans hb hg, r⟩
theorem OwnW.wordsAt {w : World} {B : Nat} {v : Value} {l : List Int} (h : OwnW w B v l) : WordsAt w v l := by
  have hlt := World.ownsRow.lt h
  have h' := h
  obtain ⟨hx, hv⟩ := h'
  rcases hv with ⟨rfl, hn⟩ | ⟨g, cap, cur, rfl, hB, hh, hle, hm, hcs, htk⟩
  · obtain rfl : l = [] := List.eq_nil_of_length_eq_zero hn
    exact ⟨none, 0, rfl, fun k hk => by simp at hk⟩
  · refine ⟨_, cap, rfl, fun k hk => ⟨g, 0, rfl, (hlt g rfl).2, ?_⟩⟩
    have := World.ownsRow.cellAt h k (by omega)
    rw [Nat.zero_add]
    simpa [hk] using this
/-- What Take answers of n numbers from p on, behind those that it has. -/
def takeS (t : ByteArray) : Nat → Int → List Int → List Int × Int × Int
  | 0, p, acc => (acc, p, 0)
  | n + 1, p, acc => if errV (rst t p) = 0 then takeS t n (p + cntV (rst t p)) (acc ++ [valV (rst t p)]) else ([], p, errV (rst t p))
theorem takeS_ok (t : ByteArray) (n : Nat) (p : Int) (acc : List Int) (h : errV (rst t p) = 0) : takeS t (n + 1) p acc = takeS t n (p + cntV (rst t p)) (acc ++ [valV (rst t p)]) := by rw [takeS, if_pos h]
theorem takeS_no (t : ByteArray) (n : Nat) (p : Int) (acc : List Int) (h : errV (rst t p) ≠ 0) : takeS t (n + 1) p acc = ([], p, errV (rst t p)) := by rw [takeS, if_neg h]
def tkAll (t : ByteArray) (p q n : Int) : List Int × Int × Int :=
  if restBad t p q = 0 then (if n < 0 ∨ 65536 < n then ([], p, 2) else takeS t n.toNat p []) else ([], p, restBad t p q)
def TakeEnd (t : ByteArray) (l : List Int) (p q : Int) (w : World) (e : Ending) (w' : World) : Prop := ∃ v, e = .returned (.tuple #[v, .agg #[.string t, .int .i64 p, .int .i64 q]]) ∧ OwnW w' w.heap.size v l ∧ Below w.heap.size w w'
theorem take_1 (t : ByteArray) (p q n r : Int) (w : World) (hm : t.size ≤ maxLen) (hr : restBad t p q = r) (h : r ≠ 0) : Calls Try.prog 17 #[.agg #[.string t, .int .i64 p, .int .i64 q], .int .i64 n] w (TakeEnd t [] p r w) := by
  have HV := Lib.hid (fun W => hr ▸ vplaced_any t p q W hm)
  have hne : (r != 0) = true := by simp only [bne_iff_ne, ne_eq]; exact h
  clear hr h hm
  go_enter Try.func17, Try.ntmps17
  go_wp2_with fail
  refine (HV.out _).mono ?_
  rintro e w1 ⟨rfl, hb⟩
  have hz : w.heap.size + 2 ≤ w1.heap.size := by have := hb.size; simp at this; omega
  have hbw : Below w.heap.size w w1 := Below.trans (by go_grown) (hb.mono (by simp; omega))
  have f0 : ∀ o, w1.frozen? ⟨w.heap.size, o, none⟩ = false := fun o => ((bcell hb).2 _ _ (by simp; omega)).trans (by simp [go_sem])
  have f1 : ∀ o, w1.frozen? ⟨w.heap.size + 1, o, none⟩ = false := fun o => ((bcell hb).2 _ _ (by simp)).trans (by simp [go_sem])
  have c0 : w1.cell? ⟨w.heap.size, 0, none⟩ = some (.string t) := ((bcell hb).1 _ _ (by simp; omega)).trans (by simp [go_sem])
  have c1 : w1.cell? ⟨w.heap.size, 1, none⟩ = some (.int .i64 p) := ((bcell hb).1 _ _ (by simp; omega)).trans (by simp [go_sem])
  have c2 : w1.cell? ⟨w.heap.size, 2, none⟩ = some (.int .i64 q) := ((bcell hb).1 _ _ (by simp; omega)).trans (by simp [go_sem])
  have c3 : w1.cell? ⟨w.heap.size + 1, 0, none⟩ = some (.string { data := #[] }) := ((bcell hb).1 _ _ (by simp)).trans (by simp [go_sem])
  have c4 : w1.cell? ⟨w.heap.size + 1, 1, none⟩ = some (.int .i64 0) := ((bcell hb).1 _ _ (by simp)).trans (by simp [go_sem])
  have c5 : w1.cell? ⟨w.heap.size + 1, 2, none⟩ = some (.int .i64 0) := ((bcell hb).1 _ _ (by simp)).trans (by simp [go_sem])
  clear hb HV
  go_wp2_with fail
  go_region
  all_goals
    go_wp2
    refine bodyPost_ret (v := .tuple #[.slice none 0 0, .agg #[.string t, .int .i64 p, .int .i64 r]]) (by simp [results, Try.results17, go_sem, c3, c4, c5]) rfl ⟨_, rfl, ownW_nil _ _, ?_⟩
    go_grown
/-- A scan's three cells stand from block h on, and may be written. -/
def Spot (wx : World) (h : Nat) (t : ByteArray) (p q : Int) : Prop :=
  wx.cell? ⟨h, 0, none⟩ = some (.string t) ∧ wx.cell? ⟨h, 1, none⟩ = some (.int .i64 p) ∧ wx.cell? ⟨h, 2, none⟩ = some (.int .i64 q) ∧ ∀ o, wx.frozen? ⟨h, o, none⟩ = false
theorem Spot.below {wx wy : World} {h B : Nat} {t : ByteArray} {p q : Int} (hs : Spot wx h t p q) (hb : Below B wx wy) (hB : h < B) : Spot wy h t p q :=
  ⟨((bcell hb).1 _ _ hB).trans hs.1, ((bcell hb).1 _ _ hB).trans hs.2.1, ((bcell hb).1 _ _ hB).trans hs.2.2.1, fun o => ((bcell hb).2 _ _ hB).trans (hs.2.2.2 o)⟩
set_option maxRecDepth 20000 in
theorem take_2 (t : ByteArray) (p q n : Int) (w : World) (hm : t.size ≤ maxLen) (hr : restBad t p q = 0) (h : n < 0 ∨ 65536 < n) : Calls Try.prog 17 #[.agg #[.string t, .int .i64 p, .int .i64 q], .int .i64 n] w (TakeEnd t [] p 2 w) := by
  have HV := Lib.hid (fun W => hr ▸ vplaced_any t p q W hm)
  obtain ⟨rfl, p0, p1⟩ := restBad_ok t p q hr
  clear hr hm
  have H := Lib.hid h
  clear h
  go_enter Try.func17, Try.ntmps17
  go_upto_region 1 with fail
  go_cut [] (fun wx => Spot wx w.heap.size t p 0 ∧ Spot wx (w.heap.size + 1) { data := #[] } 0 0 ∧ w.heap.size + 2 ≤ wx.heap.size ∧ Below w.heap.size w wx)
  case first =>
    go_wp2_with fail
    refine (HV.out _).mono ?_
    rintro e w1 ⟨rfl, hb⟩
    have hz : w.heap.size + 2 ≤ w1.heap.size := by have := hb.size; simp at this; omega
    have hbw : Below w.heap.size w w1 := Below.trans (by go_grown) (hb.mono (by simp; omega))
    have f0 : ∀ o, w1.frozen? ⟨w.heap.size, o, none⟩ = false := fun o => ((bcell hb).2 _ _ (by simp; omega)).trans (by simp [go_sem])
    have f1 : ∀ o, w1.frozen? ⟨w.heap.size + 1, o, none⟩ = false := fun o => ((bcell hb).2 _ _ (by simp)).trans (by simp [go_sem])
    have c0 : w1.cell? ⟨w.heap.size, 0, none⟩ = some (.string t) := ((bcell hb).1 _ _ (by simp; omega)).trans (by simp [go_sem])
    have c1 : w1.cell? ⟨w.heap.size, 1, none⟩ = some (.int .i64 p) := ((bcell hb).1 _ _ (by simp; omega)).trans (by simp [go_sem])
    have c2 : w1.cell? ⟨w.heap.size, 2, none⟩ = some (.int .i64 0) := ((bcell hb).1 _ _ (by simp; omega)).trans (by simp [go_sem])
    have c3 : w1.cell? ⟨w.heap.size + 1, 0, none⟩ = some (.string { data := #[] }) := ((bcell hb).1 _ _ (by simp)).trans (by simp [go_sem])
    have c4 : w1.cell? ⟨w.heap.size + 1, 1, none⟩ = some (.int .i64 0) := ((bcell hb).1 _ _ (by simp)).trans (by simp [go_sem])
    have c5 : w1.cell? ⟨w.heap.size + 1, 2, none⟩ = some (.int .i64 0) := ((bcell hb).1 _ _ (by simp)).trans (by simp [go_sem])
    clear hb HV
    go_wp2_with fail
    go_meet
    case rel => exact ⟨⟨by simp [go_sem, c0], by simp [go_sem, c1], by simp [go_sem, c2], fun o => by simp [go_sem, f0]⟩, ⟨by simp [go_sem, c3], by simp [go_sem, c4], by simp [go_sem, c5], fun o => by simp [go_sem, f1]⟩, by simp only [World.size_setCell]; exact hz, by go_grown⟩
  case rest =>
    obtain ⟨⟨c0, c1, c2, f0⟩, ⟨c3, c4, c5, f1⟩, hz, hbw⟩ := hcut
    clear HV
    generalize wc = w1 at *
    by_cases hn : n < 0
    · go_wp2_with fail
      go_region
      all_goals
        go_wp2
        refine bodyPost_ret (v := .tuple #[.slice none 0 0, .agg #[.string t, .int .i64 p, .int .i64 2]]) (by simp [results, Try.results17, go_sem, c3, c4, c5]) rfl ⟨_, rfl, ownW_nil _ _, ?_⟩
        go_grown
    · have hn2 : 65536 < n := by have := H.out; omega
      go_wp2_with fail
      go_region
      all_goals
        go_wp2
        refine bodyPost_ret (v := .tuple #[.slice none 0 0, .agg #[.string t, .int .i64 p, .int .i64 2]]) (by simp [results, Try.results17, go_sem, c3, c4, c5]) rfl ⟨_, rfl, ownW_nil _ _, ?_⟩
        go_grown
end Go.Proofs.Ytpjgemjceikhfaa
