/- strings.Builder: Grow, WriteString, String; Text. -/
import Derived.Test.YtleicghfcffblaaGj
import Derived.Test.YtleicghfcffblaaRb
namespace Go.Proofs.Ytleicghfcffblaa
open Go.RowKit
set_option maxRecDepth 20000
set_option linter.unusedVariables false
set_option linter.unusedSimpArgs false
def BuildAt (w : World) (B b : Nat) (l : List UInt8) : Prop := Lib.BuilderAt 124 5 B b (.pointer (some ⟨b, 0, none⟩)) (Lib.byteCells l) w
theorem BuildAt.alloc {w : World} {B b : Nat} {l : List UInt8} (h : BuildAt w B b l) (o : Obj) : BuildAt (w.alloc o) B b l := by
  obtain ⟨h1, v, h2, h3, h4⟩ := h
  have hb : b < w.heap.size := (Array.getElem?_eq_some_iff.1 h2).1
  exact ⟨h1, v, ((below_one w o).block b hb).trans h2, h3.alloc o, h4⟩
theorem bgrow_any (B b n : Nat) (w : World) (hB : B ≤ b) (hbk : w.heap[b]? = some (.cells #[.pointer none, .slice none 0 0] 124 (0, 0))) (hBw : B ≤ w.heap.size) (hn : n ≤ 281474976710656) :
    Calls Try.prog 62 #[.pointer (some ⟨b, 0, none⟩), .int .i64 n] w fun e w' => e = .returned (.tuple #[]) ∧ BuildAt w' B b [] ∧ Below B w w' :=
  Any.Builder_Grow_fresh bgL bgLX B b n w hB hbk hBw hn
theorem bwrite_any (B b : Nat) (l : List UInt8) (s : ByteArray) (w : World) (h : BuildAt w B b l) (hlen : l.length + s.size ≤ 140737488355328) (hBw : B ≤ w.heap.size) :
    Calls Try.prog 64 #[.pointer (some ⟨b, 0, none⟩), .string s] w fun e w' => e = .returned (.tuple #[.int .i64 s.size, .nilIface]) ∧ BuildAt w' B b (l ++ s.data.toList) ∧ Below B w w' := by
  refine (Any.Builder_WriteString bwL bwLX B b (Lib.byteCells l) s w (.inr h) (by rw [Lib.byteCells_length]; exact hlen) hBw).mono ?_
  rintro e w' ⟨rfl, h1, h2⟩
  refine ⟨rfl, ?_, h2⟩
  unfold BuildAt
  have e : Lib.byteCells (l ++ s.data.toList) = Lib.byteCells l ++ Lib.strCells s := by simp [Lib.byteCells, Lib.strCells]
  rw [e]; exact h1
theorem bstr_any (B b : Nat) (l : List UInt8) (w : World) (h : BuildAt w B b l) (hBw : B ≤ w.heap.size) :
    Calls Try.prog 65 #[.pointer (some ⟨b, 0, none⟩)] w fun e w' => e = .returned (.string ⟨l.toArray⟩) ∧ Below B w w' :=
  Any.Builder_String_any bsL bsLX B b l w (.inr h) hBw
def catB : List ByteArray → List UInt8
  | [] => []
  | t :: l => t.data.toList ++ catB l
theorem catB_eq (l : List ByteArray) : (⟨(catB l).toArray⟩ : ByteArray) = catF l := by
  induction l with
  | nil => rfl
  | cons t l ih =>
    rw [catF, ← ih, catB]
    apply ByteArray.ext
    simp
theorem catB_append (a b : List ByteArray) : catB (a ++ b) = catB a ++ catB b := by
  induction a with
  | nil => rfl
  | cons t l ih => rw [List.cons_append, catB, catB, ih, List.append_assoc]
theorem catB_step (l : List ByteArray) (k : Nat) (t : ByteArray) (h : l[k]? = some t) : catB (l.take (k + 1)) = catB (l.take k) ++ t.data.toList := by
  rw [List.take_add_one, h, catB_append]; simp [catB]
theorem catB_len (l : List ByteArray) : (catB l).length = totF l := by
  induction l with
  | nil => rfl
  | cons t l ih => rw [catB, totF, List.length_append, ih]; simp
set_option maxRecDepth 20000 in
set_option maxHeartbeats 1000000 in
theorem text_any (v : Value) (l : List ByteArray) (S : Nat → Prop) (w : World) (h : PoolS w v l S) :
    Calls Try.prog 39 #[v] w fun e w' => e = .returned (.string (catF l)) ∧ Below w.heap.size w w' := by
  obtain ⟨pb, va, vm, G, rfl, hP, hS⟩ := h
  have htot := hP.good.tot
  have hfew := hP.good.few
  obtain ⟨al, cap, rfl, hcap, hmx, hc⟩ := hP.all.ktsAt
  rw [plc_len] at *
  have HC := Lib.hid (fun k t (h : l[k]? = some t) => hc k _ (plc_at l 0 k t h))
  have hb0 := below_one w (.cells #[.pointer none, .slice none 0 0] 124)
  have HN := Lib.hid (heap_new w (.cells #[.pointer none, .slice none 0 0] 124))
  have HE := Lib.hid (end_any _ pb _ vm G l (hP.below hb0))
  have HP := Lib.hid hP
  have HB0 := Lib.hid hb0
  have hw1 : IntKind.i64.wrap ((totF l : Nat) : Int) = ((totF l : Nat) : Int) := by rw [IntKind.wrap_i64] <;> omega
  have hpl := hP.two.lt
  clear hP hS hc hb0
  go_enter Try.func39, Try.ntmps39
  go_wp2_with fail
  generalize hW : w.alloc (.cells #[.pointer none, .slice none 0 0] 124) = W at *
  have hWs : W.heap.size = w.heap.size + 1 := by rw [← hW]; simp
  refine HE.out.mono ?_
  rintro e w1 ⟨rfl, hb1⟩
  have HB1 := Lib.hid hb1
  have hg1 : w1.heap[w.heap.size]? = _ := (hb1.block w.heap.size (by omega)).trans HN.out
  have hbw1 := HB0.out.trans (hb1.mono HB0.out.size)
  have HG := Lib.hid (bgrow_any w.heap.size w.heap.size (totF l) w1 (Nat.le_refl _) hg1 hbw1.size (by omega))
  have HBW1 := Lib.hid hbw1
  clear hb1 hg1 hbw1 HE
  go_wp2_with fail
  refine HG.out.mono ?_
  rintro e w2 ⟨rfl, hbt, hb2⟩
  have hbw2 := HBW1.out.trans hb2
  have HBT := Lib.hid hbt
  have HBW2 := Lib.hid hbw2
  obtain ⟨c0, c1, c2, c3⟩ := HP.out.two.lower hbw2 hpl
  clear hb2 hbt hbw2 HG HBW1
  go_wp2_with fail
  go_loopw [17] (fun x wr => ∃ i : Nat, i ≤ l.length ∧ x = .int .i64 i ∧ Hid (BuildAt wr w.heap.size w.heap.size (catB (l.take i))) ∧ Below w.heap.size w wr) (fun x _ => l.length - (intOf x).toNat)
  case atStart => exact ⟨0, Nat.zero_le _, rfl, HBT, HBW2.out⟩
  case round =>
    obtain ⟨i, hi, rfl, HT, hbw⟩ := hrel
    by_cases hlt : i < l.length
    · obtain ⟨t, ht⟩ : ∃ t, l[i]? = some t := ⟨_, List.getElem?_eq_getElem hlt⟩
      obtain ⟨g, off, rfl, hg, l0, l1, l2⟩ := HC.out i t ht
      replace l0 := (hbw.cell (p := ⟨g, off + i * 3, none⟩) hg).trans l0
      replace l1 := (hbw.cell (p := ⟨g, off + i * 3 + 1, none⟩) hg).trans l1
      replace l2 := (hbw.cell (p := ⟨g, off + i * 3 + 2, none⟩) hg).trans l2
      have hi2 : (i : Int) < (l.length : Int) := by omega
      have hsum : (catB (l.take i)).length + t.size ≤ 140737488355328 := by
        rw [catB_len]
        have h1 := totF_take l i
        have h2 := mem_tot l t (List.mem_of_getElem? ht)
        omega
      have HST := Lib.hid (catB_step l i t ht)
      have HBW := Lib.hid hbw
      have HWR := Lib.hid (fun X (hX : BuildAt X w.heap.size w.heap.size (catB (l.take i))) (hs : w.heap.size ≤ X.heap.size) => bwrite_any w.heap.size w.heap.size _ t X hX hsum hs)
      clear ht hsum hbw
      go_wp2_with fail
      refine (HWR.out _ (HT.out.alloc _) (by have := HBW.out.size; simp; omega)).mono ?_
      rintro e w3 ⟨rfl, hb3, hbel⟩
      have hfin : Below w.heap.size w w3 := (HBW.out.alloc HBW.out.size _).trans hbel
      have H3 := Lib.hid hb3
      clear hb3 hbel l0 l1 l2
      go_wp2_with fail
      go_roundw
      case rel => exact ⟨i + 1, by omega, by go_num, Lib.hid (by rw [HST.out]; exact H3.out), hfin⟩
      case measure => simp [intOf]; omega
    · obtain rfl : i = l.length := by omega
      rw [List.take_length] at HT
      have HBW := Lib.hid hbw
      have HS := Lib.hid (bstr_any w.heap.size w.heap.size (catB l) wr HT.out hbw.size)
      clear hbw
      go_wp2_with fail
      refine HS.out.mono ?_
      rintro e w3 ⟨rfl, hb3⟩
      have hfin := HBW.out.trans hb3
      rw [catB_eq]
      clear hb3 HS
      go_wp2_with fail
      go_ret
      exact ⟨rfl, hfin⟩
end Go.Proofs.Ytleicghfcffblaa
