/- The program's Get at a place of a directory; where a taking lies; what each column's worth answers. -/
import Derived.Test.YtgnghnekckhcdaaRn
import Derived.Test.YtgnghnekckhcdaaCc
import Derived.Test.YtgnghnekckhcdaaCi
import Derived.Test.YtgnghnekckhcdaaMI
namespace Go.Proofs.Ytgnghnekckhcdaa
open Go.RowKit Go.Shelf
set_option linter.unusedVariables false
set_option linter.unusedSimpArgs false
theorem rest_ok (t : ByteArray) (a : Nat) (ha : a ≤ t.size) : restBad t (a : Int) 0 = 0 := by
  have h : placedV t (a : Int) = 0 := by
    unfold placedV
    rw [if_pos (by omega)]
  simp [restBad, firstOf, h]
theorem restBad_no (t : ByteArray) (a : Nat) (q : Int) (hq : q ≠ 0) : restBad t (a : Int) q = q := by
  unfold restBad firstOf
  simp [hq]
theorem pgetL_bad (t : ByteArray) (a : Nat) (q : Int) (w : World) (hm : t.size ≤ maxLen) (hq : q ≠ 0) : Calls Try.prog 59 #[.agg #[.string t, .int .i64 (a : Int), .int .i64 q]] w (GetEnd t 0 (a : Int) q w) :=
  get_1 t a q q w hm (restBad_no t a q hq) hq
theorem pgetL_no (t : ByteArray) (a : Nat) (r : Int) (w : World) (hm : t.size ≤ maxLen) (ha : a ≤ t.size) (hr : errV (t.data.toList.drop a) = r) (h : r ≠ 0) : Calls Try.prog 59 #[.agg #[.string t, .int .i64 (a : Int), .int .i64 0]] w (GetEnd t 0 (a : Int) r w) :=
  get_2 t a 0 r w hm (rest_ok t a ha) (by rw [rst_nat]; exact hr) h
theorem pgetL_yes (t : ByteArray) (a : Nat) (w : World) (hm : t.size ≤ maxLen) (ha : a ≤ t.size) (hr : errV (t.data.toList.drop a) = 0) : Calls Try.prog 59 #[.agg #[.string t, .int .i64 (a : Int), .int .i64 0]] w (GetEnd t (valV (t.data.toList.drop a)) ((a + (lead 10 (t.data.toList.drop a) + 1) : Nat) : Int) 0 w) := by
  have := get_3 t a 0 _ _ w hm (rest_ok t a ha) (by rw [rst_nat]; exact hr) rfl rfl
  rw [rst_nat] at this
  unfold cntV at this
  have e : (a : Int) + ((lead 10 (t.data.toList.drop a) + 1 : Nat) : Int) = ((a + (lead 10 (t.data.toList.drop a) + 1) : Nat) : Int) := by omega
  rw [e] at this
  exact this
/-- Where a taking lies. -/
def TakAt (W : World) (b : Nat) (t : ByteArray) (a q : Int) (v : Value) : Prop := SpotD W b t a q ∧ W.cell? ⟨b, 3, none⟩ = some v
theorem TakAt.later {w w' : World} {b : Nat} {t : ByteArray} {a q : Int} {v : Value} (h : TakAt w b t a q v) (hb : Below w.heap.size w w') : TakAt w' b t a q v := ⟨h.1.later hb, ecell_later hb h.2⟩
theorem TakAt.lt {w : World} {b : Nat} {t : ByteArray} {a q : Int} {v : Value} (h : TakAt w b t a q v) : b < w.heap.size := ecell_lt (a := ⟨b, 3, none⟩) h.2
theorem heap_same {X Y : World} {b : Nat} (h : Y.heap[b]? = X.heap[b]?) (o : Nat) : Y.cell? ⟨b, o, none⟩ = X.cell? ⟨b, o, none⟩ ∧ Y.frozen? ⟨b, o, none⟩ = X.frozen? ⟨b, o, none⟩ := by
  simp [World.cell?, World.frozen?, h]
theorem TakAt.heap {w w' : World} {b : Nat} {t : ByteArray} {a q : Int} {v : Value} (h : TakAt w b t a q v) (hb : w'.heap[b]? = w.heap[b]?) : TakAt w' b t a q v := by
  obtain ⟨⟨c0, c1, c2, f⟩, c3⟩ := h
  exact ⟨⟨(heap_same hb 0).1.trans c0, (heap_same hb 1).1.trans c1, (heap_same hb 2).1.trans c2, fun o => (heap_same hb o).2.trans (f o)⟩, (heap_same hb 3).1.trans c3⟩
theorem tak_set {w : World} {b : Nat} {t t' : ByteArray} {a a' q q' : Int} {v : Value} (h : TakAt w b t a q v) : TakAt (((w.setCell ⟨b, 0, none⟩ (.string t')).setCell ⟨b, 1, none⟩ (.int .i64 a')).setCell ⟨b, 2, none⟩ (.int .i64 q')) b t' a' q' v := by
  refine ⟨spotd_set h.1, ?_⟩
  obtain ⟨⟨c0, c1, c2, f⟩, c3⟩ := h
  simp [go_sem, c3]
theorem tak_bad {w : World} {b : Nat} {t : ByteArray} {a q q' : Int} {v : Value} (h : TakAt w b t a q v) : TakAt (w.setCell ⟨b, 2, none⟩ (.int .i64 q')) b t a q' v := by
  obtain ⟨⟨c0, c1, c2, f⟩, c3⟩ := h
  exact ⟨⟨by simp [go_sem, c0], by simp [go_sem, c1], by simp [go_sem, c2], fun o => by simp [go_sem, f]⟩, by simp [go_sem, c3]⟩
theorem grown_cell (W : World) (b o : Nat) (v : Value) : W.grownBy (W.setCell ⟨b, o, none⟩ v) (some b) :=
  ⟨rfl, rfl, rfl, (KeepsWalks.setCell W _ v).size, fun k _ hk => Below.heap_setCell _ _ _ k (fun e => hk (by rw [e]))⟩
theorem Bears.cell {β : Type} {T : Nat → Prop} {B : Nat} {J : β → World → Prop} (h : Bears T B J) {s : β} {W : World} (hs : J s W) (b o : Nat) (v : Value) (hb : T b) : J s (W.setCell ⟨b, o, none⟩ v) :=
  h s W _ (some b) hs (grown_cell W b o v) (fun r e => by cases e; exact .inl hb)
/-- The function of column c's worth, and what it is bound to. -/
def wfN (c : Nat) : Nat := if c = 0 then 30 else if c = 3 then 32 else 31
def wbN (c : Nat) (v : Value) : Array Value := if c = 0 ∨ c = 3 then #[v] else #[]
theorem wfN_enters (c : Nat) (args : Array Value) (W : World) : (callFunc (wfN c) args).run Try.prog W = .ok (.enter (wfN c) args) W := by
  unfold wfN
  split
  · exact enters_of Try.func30 (by kernel_rfl) rfl args W
  split
  · exact enters_of Try.func32 (by kernel_rfl) rfl args W
  · exact enters_of Try.func31 (by kernel_rfl) rfl args W
theorem wfN_any (c : Nat) (hc : c < 4) (v : Value) (l : List En) (hm : MaysN l) (W : World) (i : Nat) (x : Int) (hv : EnsAt W v l) (hi : i < l.length) (hx : 0 ≤ x ∧ x ≤ 18446744073709551615) :
    Calls Try.prog (wfN c) (wbN c v ++ #[.int .i64 (i : Int), .int .u64 x]) W fun y w' => y = .returned (.tuple #[.int .u64 (if wrgN l c i x = 0 then worN l c i x else 0), .int .i64 (wrgN l c i x)]) ∧ Below W.heap.size W w' := by
  rcases (by omega : c = 0 ∨ c = 1 ∨ c = 2 ∨ c = 3) with rfl | rfl | rfl | rfl
  · exact pidN_any v l W i x hv hm hi hx
  · exact phalf_any l 1 i x W (.inl rfl) hx
  · exact phalf_any l 2 i x W (.inr rfl) hx
  · exact poff_any v l W i x hv hm hi hx
end Go.Proofs.Ytgnghnekckhcdaa
