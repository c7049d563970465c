/- The contract of 'awake', which every law of this layer ends in: it returns true, whatever the world, and what was there stays. -/
import Derived.Test.YtgdekiimjlpmfaaP
import Derived.Test.YtgdekiimjlpmfaaF
import Derived.Laws.BytesString
import Derived.Lib.SlBytesConst
import Derived.Laws.IdiomStrings
namespace Go.Proofs.Ytgdekiimjlpmfaa
open Go.RowKit
set_option linter.unusedVariables false
/-- The text of some bytes. -/
def str (l : List Int) : ByteArray := l.foldl (fun r n => r.push (UInt8.ofNat n.toNat)) ByteArray.empty
theorem str_data (l : List Int) (r : ByteArray) : (l.foldl (fun r n => r.push (UInt8.ofNat n.toNat)) r).data.toList = r.data.toList ++ l.map (fun n => UInt8.ofNat n.toNat) := by
  induction l generalizing r with
  | nil => simp
  | cons n l ih => rw [List.foldl_cons, ih]; simp [ByteArray.push]
theorem str_list (l : List Int) : (str l).data.toList = l.map (fun n => UInt8.ofNat n.toNat) := by
  unfold str; rw [str_data]; simp
theorem str_size (l : List Int) : (str l).size = l.length := by
  have := congrArg List.length (str_list l)
  simpa using this
theorem run_str (w : World) (v : Value) (l : List Int) (h : BytesAt w v l) : (convert 22 9 v).run Try.prog w = .ok (.string (str l)) w := by
  obtain ⟨a, cap, rfl, h1, h2, hc⟩ := h
  rw [run_convert_bytes_string w 22 9 5 a l.length cap Try.underlying22 Try.underlying5 Try.underlying9]
  by_cases h0 : 0 < l.length
  · obtain ⟨x, rfl, hb, hx⟩ := hc h0
    refine run_bytesToString w x l.length cap l ?_
    have := run_loadCells_list (P := Try.prog) (w := w) x (l.map (Value.int .u8)) (by
      intro j v hj
      have hjl : j < l.length := by have := (List.getElem?_eq_some_iff.1 hj).1; simpa using this
      rw [hx j hjl]
      simpa [hjl] using hj)
    simpa using this
  · obtain rfl : l = [] := List.eq_nil_of_length_eq_zero (by omega)
    cases a with
    | none => rfl
    | some x =>
      have := run_loadCells_list (P := Try.prog) (w := w) x [] (by intro j v hj; simp at hj)
      exact run_bytesToString w x 0 cap [] (by simpa using this)
theorem Own.bytesAt {w : World} {B : Nat} {v : Value} {l : List Int} (h : Own w B v l) : BytesAt w v l := by
  have hlt := World.ownsRow.lt h
  have h' := h
  obtain ⟨hx, hv⟩ := h'
  rcases hv with ⟨rfl, hn⟩ | ⟨g, cap, cur, rfl, hB, hh, hle, hm, hcs, htk⟩
  · obtain rfl : l = [] := List.eq_nil_of_length_eq_zero hn
    exact ⟨none, 0, rfl, Nat.le_refl _, by simp, fun h => by simp at h⟩
  · refine ⟨_, cap, rfl, hle, hm, fun _ => ⟨_, rfl, (hlt g rfl).2, fun i hi => ?_⟩⟩
    have := World.ownsRow.cellAt h i (by omega)
    have e : (⟨g, 0, none⟩ : Addr).add i = ⟨g, i, none⟩ := by simp [Addr.add]; omega
    rw [e]
    simpa [hi] using this
theorem BytesAt.below {w w' : World} {v : Value} {l : List Int} (h : BytesAt w v l) (hb : Below w.heap.size w w') : BytesAt w' v l := by
  obtain ⟨a, cap, rfl, h1, h2, hc⟩ := h
  refine ⟨a, cap, rfl, h1, h2, fun h0 => ?_⟩
  obtain ⟨x, rfl, hx, hcell⟩ := hc h0
  refine ⟨x, rfl, Nat.lt_of_lt_of_le hx hb.size, fun i hi => ?_⟩
  rw [← hcell i hi]
  exact hb.cell (p := x.add i) (by rw [add_block]; exact hx)
theorem bytes_lit (w : World) (c : Int) : BytesAt (w.alloc (.cells #[.int .u8 c] 5 (1, 2))) (.slice (some ⟨w.heap.size, 0, none⟩) 1 1) [c] :=
  ⟨_, 1, rfl, Nat.le_refl _, by unfold maxLen; omega, fun _ => ⟨_, rfl, by simp, fun i hi => by
    have h0 : i = 0 := by simp at hi; exact hi
    subst h0
    rw [show (⟨w.heap.size, 0, none⟩ : Addr).add 0 = ⟨w.heap.size, 0, none⟩ from rfl, World.cell?_alloc_mark]; rfl⟩⟩
theorem awake_any (w : World) : Calls Try.prog 8 #[] w fun e w' => e = .returned (.bool true) ∧ Below w.heap.size w w' := by
  have hcv := fun (w : World) (C : Array Value) (n c : Nat) => Lib.run_convert_bytes_const (P := Try.prog) w 22 5 C n c Try.underlying22 Try.underlying5
  go_enter Try.func8, Try.ntmps8
  go_wp2_with fail
  refine (put_any _ [120] 2 258 2 _ (bytes_lit w 120) (by decide) (.inl ⟨rfl, by omega, by omega⟩) (by omega) (by omega)).mono ?_
  rintro e w1 ⟨v, rfl, hown, hb1⟩
  have e1 : [120] ++ leB 2 258 = [120, 2, 1] := by decide
  rw [e1] at hown
  have hbw1 : Below w.heap.size w w1 := Below.trans (by go_grown) (hb1.mono (by rw [World.size_alloc]; omega))
  have hbv := hown.bytesAt
  have hs1 := run_str w1 v _ hbv
  have HBV := Lib.hid hbv; clear hbv hown hb1 e1
  have e2 : str [120, 2, 1] = ⟨#[120, 2, 1]⟩ := by decide
  rw [e2] at hs1
  clear e2
  go_wp2_with fail
  have en : numB ((⟨#[120, 2, 1]⟩ : ByteArray).extract (1 : Int).toNat ((1 : Int) + 2).toNat).data.toList = 258 := by decide
  refine (num_yes ⟨#[120, 2, 1]⟩ 1 2 _ (by decide) (by kernel_rfl) (by omega) (by omega) (by omega) (by decide)).mono ?_
  rw [en]
  clear en
  rintro e w2 ⟨rfl, hb2⟩
  have hs2 : Sem.run Try.prog (convert 22 9 v) w2 = .ok (.string ⟨#[120, 2, 1]⟩) w2 := run_str w2 v _ (HBV.out.below hb2)
  have hbw2 : Below w.heap.size w w2 := hbw1.trans (hb2.mono hbw1.size)
  have HV2 := Lib.hid (HBV.out.below hb2)
  clear hs1 HBV hb2 hbw1
  go_wp2_with fail
  have eb : bytesBad (⟨#[120, 2, 1]⟩ : ByteArray) 3 0 1 = 3 := by kernel_rfl
  have nb := bytes_no ⟨#[120, 2, 1]⟩ 3 0 1 (w2.alloc (.cells #[.string ⟨#[120, 2, 1]⟩, .int .i64 3, .int .i64 0] 31)) (by rw [eb]; decide)
  rw [eb] at nb
  clear eb
  refine nb.mono ?_
  clear nb
  rintro e w3 ⟨rfl, hb3⟩
  have hz3 : w2.heap.size < w3.heap.size := by have := hb3.size; rw [World.size_alloc] at this; omega
  have hbw3 : Below w.heap.size w w3 := (hbw2.alloc hbw2.size _).trans (hb3.mono (by have := hbw2.size; rw [World.size_alloc]; omega))
  have hs3 : ∀ o, Sem.run Try.prog (convert 22 9 v) (w3.alloc o) = .ok (.string ⟨#[120, 2, 1]⟩) (w3.alloc o) := fun o =>
    run_str _ v _ (BytesAt.below (BytesAt.below (BytesAt.below HV2.out ((Below.refl _ _).alloc (Nat.le_refl _) _)) hb3) ((Below.refl _ _).alloc (Nat.le_refl _) o))
  have p0 : w3.cell? ⟨w2.heap.size, 0, none⟩ = some (.string ⟨#[120, 2, 1]⟩) := ((bcell hb3).1 _ _ (by rw [World.size_alloc]; omega)).trans (by simp [go_sem])
  have p1 : w3.cell? ⟨w2.heap.size, 1, none⟩ = some (.int .i64 3) := ((bcell hb3).1 _ _ (by rw [World.size_alloc]; omega)).trans (by simp [go_sem])
  have p2 : w3.cell? ⟨w2.heap.size, 2, none⟩ = some (.int .i64 0) := ((bcell hb3).1 _ _ (by rw [World.size_alloc]; omega)).trans (by simp [go_sem])
  clear hs2 HV2 hb3 hbw2
  have k1 : sgn 255 1 = -1 := by kernel_rfl
  have k2 : low (-2) 2 = 65534 := by kernel_rfl
  have k3 : endV (⟨#[120, 2, 1]⟩ : ByteArray) 3 0 = 0 := by kernel_rfl
  have hcv : True := trivial
  go_wp2_with fail
  refine (signed_yes 255 1 _ (by omega) (by omega)).mono ?_
  rw [k1]
  rintro e w' ⟨rfl, rfl⟩
  go_wp2_with fail
  refine (unsigned_yes (-2) 2 _ (by omega) (by omega) (by kernel_rfl)).mono ?_
  rw [k2]
  rintro e w' ⟨rfl, rfl⟩
  go_wp2_with fail
  refine (unsigned_no 128 1 _ (by omega) (by omega) (by kernel_rfl)).mono ?_
  rintro e w' ⟨rfl, rfl⟩
  go_wp2_with fail
  have ne := end_any ⟨#[120, 2, 1]⟩ 3 0 (w3.alloc (.cells #[.string ⟨#[120, 2, 1]⟩, .int .i64 3, .int .i64 3] 31))
  rw [k3] at ne
  refine ne.mono ?_
  clear ne k1 k2 k3 hcv
  rintro e w4 ⟨rfl, hb4⟩
  have hbw4 : Below w.heap.size w w4 := (hbw3.alloc hbw3.size _).trans (hb4.mono (by have := hbw3.size; rw [World.size_alloc]; omega))
  have q0 : w4.cell? ⟨w3.heap.size, 0, none⟩ = some (.string ⟨#[120, 2, 1]⟩) := ((bcell hb4).1 _ _ (by rw [World.size_alloc]; omega)).trans (by simp [go_sem])
  have q1 : w4.cell? ⟨w3.heap.size, 1, none⟩ = some (.int .i64 3) := ((bcell hb4).1 _ _ (by rw [World.size_alloc]; omega)).trans (by simp [go_sem])
  have q2 : w4.cell? ⟨w3.heap.size, 2, none⟩ = some (.int .i64 3) := ((bcell hb4).1 _ _ (by rw [World.size_alloc]; omega)).trans (by simp [go_sem])
  clear hb4 hbw3 p0 p1 p2 hs3 hz3
  go_wp2_with fail
  have nr := rest_yes ⟨#[97, 98]⟩ 0 w4 (by decide) (by kernel_rfl) (by omega) (by decide)
  have er : (⟨#[97, 98]⟩ : ByteArray).extract (0 : Int).toNat (⟨#[97, 98]⟩ : ByteArray).size = ⟨#[97, 98]⟩ := by decide
  rw [er] at nr
  refine nr.mono ?_
  clear nr er
  rintro e w5 ⟨rfl, hb5⟩
  have hbw5 : Below w.heap.size w w5 := hbw4.trans (hb5.mono hbw4.size)
  clear hb5 hbw4 q0 q1 q2
  go_wp2_with fail
  go_ret
  exact ⟨rfl, hbw5⟩
end Go.Proofs.Ytgdekiimjlpmfaa
