/- Several texts, one behind the other: Rf, Rg, Rh, N17. -/
import Derived.Test.YtbkceneakdbdkaaGreatDoorMW
import Derived.Test.YtbkceneakdbdkaaGreatDoorMG
import Derived.Test.YtbkceneakdbdkaaGreatDoorL
import Derived.Carry
import Derived.ChangeMaps5
import Derived.ShutString
/- The program's Find. -/
namespace Go.Proofs.YtbkceneakdbdkaaGreatDoor
open Go.RowKit
set_option maxRecDepth 20000
set_option linter.unusedVariables false
set_option linter.unusedSimpArgs false
set_option maxHeartbeats 4000000
def findJl (x : List Int) : Jl → Option Js
  | .nil => none
  | .cons n v l => if n = x then some v else findJl x l
def findJ (x : List Int) : Js → Option Js
  | .obj l => findJl x l
  | _ => none
theorem findJl_no (x : List Int) : ∀ l : Jl, x ∉ l.names → findJl x l = none
  | .nil, _ => rfl
  | .cons n v l, h => by
    rw [Jl.names, List.mem_cons] at h
    rw [findJl, if_neg (fun e => h (.inl e.symm)), findJl_no x l (fun e => h (.inr e))]
theorem findJl_at (x : List Int) : ∀ (l : Jl) (k : Nat) (v : Js), l.at? k = some (x, v) → (∀ j, j < k → l.names[j]? ≠ some x) → findJl x l = some v
  | .nil, _, _, h, _ => by cases h
  | .cons n v l, 0, u, h, _ => by
    obtain ⟨rfl, rfl⟩ : n = x ∧ v = u := by simpa [Jl.at?] using h
    rw [findJl, if_pos rfl]
  | .cons n v l, k + 1, u, h, g => by
    have hn : n ≠ x := fun e => g 0 (by omega) (by simp [Jl.names, e])
    rw [findJl, if_neg hn]
    exact findJl_at x l k u h (fun j hj => by have := g (j + 1) (by omega); simpa [Jl.names] using this)
theorem szL_at : ∀ (l : Jl) (k : Nat) (n : List Int) (v : Js), l.at? k = some (n, v) → szV v ≤ szL l
  | .nil, _, _, _, h => by cases h
  | .cons n v l, 0, n', u, h => by
    obtain ⟨rfl, rfl⟩ : n = n' ∧ v = u := by simpa [Jl.at?] using h
    rw [szL]; omega
  | .cons n v l, k + 1, n', u, h => by
    have := szL_at l k n' u h
    rw [szL]; omega
def FindE (o : Option Js) (w : World) (e : Ending) (w' : World) : Prop := (∃ x b, e = .returned (.tuple #[x, .bool b]) ∧ (b = true → ∃ K, o = some K ∧ AnyAt aB w' K x) ∧ (b = false → o = none ∧ x = .nilIface)) ∧ Below w.heap.size w w'
theorem FindE.no {w w' : World} (hb : Below w.heap.size w w') : FindE none w (.returned (.tuple #[.nilIface, .bool false])) w' := ⟨⟨_, _, rfl, (fun h => by cases h), fun _ => ⟨rfl, rfl⟩⟩, hb⟩
theorem FindE.yes {w w' : World} {K : Js} {x : Value} (h : AnyAt aB w' K x) (hb : Below w.heap.size w w') : FindE (some K) w (.returned (.tuple #[x, .bool true])) w' := ⟨⟨_, _, rfl, (fun _ => ⟨K, rfl, h⟩), (fun h => by cases h)⟩, hb⟩
theorem pfind_nil (name : ByteArray) (w : World) : Calls Tryz.prog 11 #[.nilIface, .string name] w (FindE none w) := by
  have a3 := fun W => assert_nil 20 58 _ _ Tryz.underlying58 rfl zPrs W
  go_enter Tryz.func11, Tryz.ntmps11
  go_wp2_with fail
  go_ret2
  exact FindE.no (by go_grown)
theorem pfind_no (T : TypeId) (y : Value) (hT : T ≠ 58) (name : ByteArray) (w : World) : Calls Tryz.prog 11 #[.iface T y, .string name] w (FindE none w) := by
  have a3 := fun W => assert_no 20 58 T y _ _ Tryz.underlying58 rfl zPrs hT W
  go_enter Tryz.func11, Tryz.ntmps11
  go_wp2_with fail
  go_ret2
  exact FindE.no (by go_grown)
theorem pfind_obj (S : Nat → Prop) (l : Jl) (a : Option Addr) (cap : Nat) (name : ByteArray) (w : World) (h1 : l.length ≤ cap) (h2 : cap ≤ maxLen) (hr : RowP S w a 0 l) (hN : szL l ≤ 1000000) :
    Calls Tryz.prog 11 #[.iface 58 (.slice a l.length cap), .string name] w (FindE (findJl (bI name) l) w) := by
  have HP := Lib.hid (fun W (hb : Below w.heap.size w W) => pplace_any S a l.length cap l name W (RowP.keep (fun _ e _ => e) hb.size (fun b _ hl => hb.block b hl) l a 0 hr) (Nat.le_refl _) h1 h2)
  rw [List.take_of_length_le (by rw [Jl.names_len]; exact Nat.le_refl _)] at HP
  have HR := Lib.hid hr
  have hml : (l.length : Int) ≤ 9223372036854775807 := by rw [maxL] at h2; omega
  have a3 := fun W => assert_yes 20 58 (.slice a l.length cap) _ Tryz.underlying58 rfl W
  clear hr
  go_enter Tryz.func11, Tryz.ntmps11
  go_wp2_with fail
  refine (HP.out _ (by go_grown)).mono ?_
  rintro e w1 ⟨⟨r, rfl, hr⟩, hb1⟩
  have HB1 := Lib.hid hb1
  clear hb1
  rcases hr with ⟨rfl, hr⟩ | ⟨k, rfl, hk, hfst⟩
  · have HF := Lib.hid (findJl_no _ _ hr)
    clear hr
    go_wp2_with fail
    go_ret2
    rw [HF.out]
    exact FindE.no HB1.out
  · have hkl := (List.getElem?_eq_some_iff.1 hk).1
    rw [Jl.names_len] at hkl
    obtain ⟨n, v, hat⟩ := Jl.lt_at l k hkl
    have hn := Jl.names_at l k n v hat
    rw [hk] at hn
    obtain rfl := Option.some.inj hn
    have HF := Lib.hid (findJl_at _ l k v hat hfst)
    obtain ⟨g, off, y, t, rfl, _, hg, l0, _, _, l1, hav⟩ := RowP.at l 0 k _ v HR.out hat
    rw [Nat.zero_add] at l1
    have hg1 := Nat.lt_of_lt_of_le hg HB1.out.size
    replace l1 := (HB1.out.cell hg).trans l1
    have hsz := szL_at l k _ v hat
    have HO := Lib.hid (pown_any S v y w1 (hav.below HB1.out) (by omega))
    have hk2 : (k : Int) < (l.length : Int) := by omega
    have hk0 : (0 : Int) ≤ (k : Int) := by omega
    clear hk hfst hat hn l0 hav
    go_wp2_with fail
    refine HO.out.mono ?_
    rintro e w2 ⟨⟨x', rfl, hx'⟩, hb2⟩
    have HX := Lib.hid hx'
    have HB2 := Lib.hid (HB1.out.trans (hb2.mono HB1.out.size))
    clear hx' hb2
    go_wp2_with fail
    go_ret2
    rw [HF.out]
    exact FindE.yes HX.out HB2.out
theorem pfind_any (S : Nat → Prop) (J : Js) (x : Value) (name : ByteArray) (w : World) (h : AnyAt S w J x) (hN : szV J ≤ 1000000) : Calls Tryz.prog 11 #[x, .string name] w (FindE (findJ (bI name) J) w) := by
  cases J <;> rw [AnyAt] at h
  · subst h; exact pfind_nil name w
  · subst h; exact pfind_no _ _ (by decide) name w
  · subst h; exact pfind_no _ _ (by decide) name w
  · obtain ⟨t, rfl, _⟩ := h; exact pfind_no _ _ (by decide) name w
  · obtain ⟨a, c, rfl, _⟩ := h; exact pfind_no _ _ (by decide) name w
  · obtain ⟨a, c, rfl, h1, h2, hr⟩ := h
    rw [szV] at hN
    exact pfind_obj S _ a c name w h1 h2 hr (by omega)
  · subst h; exact pfind_no _ _ (by decide) name w
theorem find_is (name : ByteArray) : ∀ (kids : Nl) (names : List ByteArray), kids.len ≤ names.length → findJl (bI name) (toL true names kids) = (findL name names kids).map toJ
  | .nil, names, h => by rw [toL, findJl]; cases names <;> rfl
  | .cons v t, [], h => by simp [Nl.len] at h
  | .cons v t, n :: ns, h => by
    rw [toL, findJl, findL]
    have hl : t.len ≤ ns.length := by simpa [Nl.len] using h
    simp only [if_true, List.headD_cons, List.tail_cons]
    by_cases e : n = name
    · rw [if_pos (by rw [e]), if_pos e]; rfl
    · rw [if_neg (fun x => e (bI_inj x)), if_neg e]
      exact find_is name t ns hl
theorem findV_is (name : ByteArray) (v : Nt) (hf : Fit v) : findJ (bI name) (toJ v) = (findV name v).map toJ := by
  obtain ⟨k, n, s, nv, names, kv, kids⟩ := v
  rw [Fit] at hf
  rw [toJ, findV]
  by_cases h6 : k = 6
  · subst h6
    rw [if_neg (by omega), if_neg (by omega), if_neg (by omega), if_neg (by omega), if_neg (by omega), if_neg (by omega), if_pos rfl, if_pos rfl, findJ]
    exact find_is name kids names (by rw [hf.2.1 rfl]; exact Nat.le_refl _)
  · rw [if_neg h6]
    split
    · rfl
    split
    · rfl
    split
    · rfl
    split
    · rfl
    split
    · rfl
    split
    · rfl
    rfl
end Go.Proofs.YtbkceneakdbdkaaGreatDoor
/- awake: what every right program tells of some values. -/
namespace Go.Proofs.YtbkceneakdbdkaaGreatDoor
open Go.RowKit
set_option maxRecDepth 20000
set_option linter.unusedVariables false
set_option linter.unusedSimpArgs false
set_option maxHeartbeats 8000000
def aL : Jl := .cons [] (.num 1) (.cons [] .nul (.cons [] (.bool true) .nil))
def aP : Jl := .cons [110, 97, 109, 101] (.str [97]) (.cons [108, 105, 115, 116] (.arr aL) .nil)
def aV : Js := .obj aP
def aS : ByteArray := { data := #[123, 34, 110, 97, 109, 101, 34, 58, 34, 97, 34, 44, 34, 108, 105, 115, 116, 34, 58, 91, 49, 44, 110, 117, 108, 108, 44, 116, 114, 117, 101, 93, 125] }
theorem aw_chk : chkV 1 aV = 0 := by kernel_rfl
theorem aw_dig : digI 1 = [49] := by unfold digI; rw [if_neg (by omega)]; show digN 1 = [49]; rw [digN]; simp
theorem aw_print : printV aV = bI aS := by
  unfold aV aP aL
  simp only [printV, bodyP, tailP, aw_dig, if_true, Bool.false_eq_true, if_false]
  kernel_rfl
theorem aw_put : putV aV = (bI aS, 0) := by
  rw [put_of, aw_chk, aw_print]
  kernel_rfl
theorem aw_bad : putV .bad = ([], 14) := by kernel_rfl
theorem aw_take : takeV (bI { data := #[32, 123, 34, 110, 97, 109, 101, 34, 32, 58, 32, 34, 97, 34, 44, 34, 108, 105, 115, 116, 34, 58, 91, 49, 44, 110, 117, 108, 108, 44, 116, 114, 117, 101, 93, 125] }) = (aV, 36, 0) := by kernel_rfl
theorem aw_take2 : takeV (bI { data := #[91, 49, 44, 93] }) = (.nul, 3, 4) := by kernel_rfl
theorem aw_find : findJ (bI { data := #[110, 97, 109, 101] }) aV = some (.str [97]) := by kernel_rfl
theorem aw_bare : bareV aV := by
  unfold aV aP aL
  simp [bareV, bareL]
theorem aw_str : str (bI aS) = aS := str_bI aS
theorem aw_at (w : World) : AnyAt aB ((w.alloc (.cells #[.iface 3 (.int .i64 1), .nilIface, .iface 4 (.bool true)] 20)).alloc (.cells #[.string { data := #[110, 97, 109, 101] }, .iface 9 (.string { data := #[97] }), .string { data := #[108, 105, 115, 116] }, .iface 57 (.slice (some ⟨w.heap.size, 0, none⟩) 3 3)] 56)) aV (.iface 58 (.slice (some ⟨w.heap.size + 1, 0, none⟩) 2 2)) := by
  obtain ⟨w1, h1⟩ : ∃ w1, w.alloc (.cells #[.iface 3 (.int .i64 1), .nilIface, .iface 4 (.bool true)] 20) = w1 := ⟨_, rfl⟩
  obtain ⟨w2, h2⟩ : ∃ w2, w1.alloc (.cells #[.string { data := #[110, 97, 109, 101] }, .iface 9 (.string { data := #[97] }), .string { data := #[108, 105, 115, 116] }, .iface 57 (.slice (some ⟨w.heap.size, 0, none⟩) 3 3)] 56) = w2 := ⟨_, rfl⟩
  rw [h1, h2]
  have s1 : w1.heap.size = w.heap.size + 1 := by rw [← h1]; simp
  have s2 : w2.heap.size = w.heap.size + 1 + 1 := by rw [← h2, World.size_alloc, s1]
  have a2 : w2.heap[w.heap.size + 1]? = some (.cells #[.string { data := #[110, 97, 109, 101] }, .iface 9 (.string { data := #[97] }), .string { data := #[108, 105, 115, 116] }, .iface 57 (.slice (some ⟨w.heap.size, 0, none⟩) 3 3)] 56 (0, 0)) := by rw [← h2, ← s1]; exact heap_new17 _ _
  have a1 : w2.heap[w.heap.size]? = some (.cells #[.iface 3 (.int .i64 1), .nilIface, .iface 4 (.bool true)] 20 (0, 0)) := by rw [← h2, heap_old17 (by omega), ← h1]; exact heap_new17 _ _
  have m1 : (3 : Nat) ≤ maxLen := by decide
  have k2 : ∀ i, w2.cell? ⟨w.heap.size + 1, i, none⟩ = (#[.string { data := #[110, 97, 109, 101] }, .iface 9 (.string { data := #[97] }), .string { data := #[108, 105, 115, 116] }, .iface 57 (.slice (some ⟨w.heap.size, 0, none⟩) 3 3)] : Array Value)[i]? := fun i => by simp only [World.cell?, a2]; rfl
  have k1 : ∀ i, w2.cell? ⟨w.heap.size, i, none⟩ = (#[.iface 3 (.int .i64 1), .nilIface, .iface 4 (.bool true)] : Array Value)[i]? := fun i => by simp only [World.cell?, a1]; rfl
  unfold aV aP aL
  simp only [AnyAt, RowP, RowA, Jl.length]
  exact ⟨_, _, rfl, by omega, by omega, ⟨_, _, _, _, rfl, trivial, by omega, (k2 _).trans rfl, rfl, by decide, (k2 _).trans rfl, ⟨_, rfl, rfl, by decide⟩⟩, ⟨_, _, _, _, rfl, trivial, by omega, (k2 _).trans rfl, rfl, by decide, (k2 _).trans rfl, ⟨_, _, rfl, by omega, by omega, ⟨_, _, _, rfl, trivial, by omega, (k1 _).trans rfl, rfl⟩, ⟨_, _, _, rfl, trivial, by omega, (k1 _).trans rfl, rfl⟩, ⟨_, _, _, rfl, trivial, by omega, (k1 _).trans rfl, rfl⟩, trivial⟩⟩, trivial⟩
theorem awake_any (w : World) (hq : QTab w) : Calls Tryz.prog 7 #[] w fun e w' => e = .returned (.bool true) ∧ Below w.heap.size w w' := by
  have e0 : str [] = { data := #[] } := rfl
  obtain ⟨W0, HW0⟩ : ∃ W0, Hid (W0 = (w.alloc (.cells #[.iface 3 (.int .i64 1), .nilIface, .iface 4 (.bool true)] 20)).alloc (.cells #[.string { data := #[110, 97, 109, 101] }, .iface 9 (.string { data := #[97] }), .string { data := #[108, 105, 115, 116] }, .iface 57 (.slice (some ⟨w.heap.size, 0, none⟩) 3 3)] 56)) := ⟨_, Lib.hid rfl⟩
  have HV := Lib.hid (aw_at w)
  have HB := Lib.hid (show Below w.heap.size w W0 by rw [HW0.out]; exact ((Below.refl _ w).alloc (Nat.le_refl _) _).alloc (by simp) _)
  rw [← HW0.out] at HV
  have HQ := Lib.hid hq
  have HP := Lib.hid (pput_any aB aV _ W0 HV.out (hq.below HB.out) (by rw [aw_print]; intro _; decide))
  rw [aw_put, aw_str] at HP
  have HP2 := Lib.hid (fun (W : World) h => pput_any aB .bad (.iface 59 (.float .f64 4609434218613702656)) W (by rw [AnyAt]) h (by rw [printV]; intro _; decide))
  rw [aw_bad, e0] at HP2
  have HT := Lib.hid (fun (W : World) h => ptake_any { data := #[32, 123, 34, 110, 97, 109, 101, 34, 32, 58, 32, 34, 97, 34, 44, 34, 108, 105, 115, 116, 34, 58, 91, 49, 44, 110, 117, 108, 108, 44, 116, 114, 117, 101, 93, 125] } W h (by decide))
  rw [aw_take] at HT
  have HT2 := Lib.hid (fun (W : World) h => ptake_any { data := #[91, 49, 44, 93] } W h (by decide))
  rw [aw_take2] at HT2
  unfold TakeV at HT HT2
  simp only [AnyAt] at HT2
  clear hq
  go_enter Tryz.func7, Tryz.ntmps7
  go_wp2_with fail
  rw [← HW0.out]
  refine HP.out.mono ?_
  rintro e w1 ⟨rfl, hb1⟩
  have HB1 := Lib.hid (HB.out.trans (hb1.mono HB.out.size))
  have HV1 := Lib.hid (HV.out.below hb1)
  clear hb1
  go_wp2_with fail
  refine (HT.out _ (HQ.out.below HB1.out)).mono ?_
  rintro e w2 ⟨⟨x, rfl, hx⟩, hb2⟩
  have HB2 := Lib.hid (HB1.out.trans (hb2.mono HB1.out.size))
  have HV2 := Lib.hid (HV1.out.below hb2)
  have HX2 := Lib.hid hx
  clear hb2 hx
  go_wp2_with fail
  refine (HT2.out _ (HQ.out.below HB2.out)).mono ?_
  rintro e w3 ⟨⟨x2, rfl, rfl⟩, hb3⟩
  have HB3 := Lib.hid (HB2.out.trans (hb3.mono HB2.out.size))
  have HV3 := Lib.hid (HV2.out.below hb3)
  have HX3 := Lib.hid (HX2.out.below hb3)
  clear hb3
  go_wp2_with fail
  refine (HP2.out _ (HQ.out.below HB3.out)).mono ?_
  rintro e w4 ⟨rfl, hb4⟩
  have HB4 := Lib.hid (HB3.out.trans (hb4.mono HB3.out.size))
  have HV4 := Lib.hid (HV3.out.below hb4)
  have HX4 := Lib.hid (HX3.out.below hb4)
  clear hb4
  have HF := Lib.hid (pfind_any aB aV x { data := #[110, 97, 109, 101] } w4 HX4.out (by decide +kernel))
  rw [aw_find] at HF
  unfold FindE at HF
  go_wp2_with fail
  refine HF.out.mono ?_
  rintro e w5 ⟨⟨x5, b5, rfl, hy, hn⟩, hb5⟩
  have HB5 := Lib.hid (HB4.out.trans (hb5.mono HB4.out.size))
  have HV5 := Lib.hid (HV4.out.below hb5)
  have HX5 := Lib.hid (HX4.out.below hb5)
  clear hb5
  have hb5t : b5 = true := by
    cases b5 with
    | true => rfl
    | false => have := (hn rfl).1; cases this
  subst hb5t
  obtain ⟨K, hK, hy5⟩ := hy rfl
  obtain rfl := Option.some.inj hK
  have HY5 := Lib.hid hy5
  have HTX := Lib.hid (ptext_any aB (.str [97]) x5 w5 hy5)
  clear hn hy hK hy5
  go_wp2_with fail
  refine HTX.out.mono ?_
  rintro e w6 ⟨⟨t, b6, rfl, hbt, hts, _⟩, hb6⟩
  have HB6 := Lib.hid (HB5.out.trans (hb6.mono HB5.out.size))
  have HV6 := Lib.hid (HV5.out.below hb6)
  have HX6 := Lib.hid (HX5.out.below hb6)
  have HY6 := Lib.hid (HY5.out.below hb6)
  have hb6t : b6 = true := hbt.2 ⟨_, rfl⟩
  subst hb6t
  have ht : t = { data := #[97] } := bI_inj ((hts [97] rfl).trans rfl)
  subst ht
  have HM := Lib.hid (fun W => pmust_any { data := #[98] } W (by decide))
  have HS1 := Lib.hid (fun (W : World) (hb : Below w6.heap.size w6 W) => psame_any aB aB aV aV _ x W (HV6.out.below hb) (HX6.out.below hb) aw_bare aw_bare)
  have HS2 := Lib.hid (fun (W : World) (hb : Below w6.heap.size w6 W) => psame_any aB aB aV (.str [97]) _ x5 W (HV6.out.below hb) (HY6.out.below hb) aw_bare (by simp [bareV]))
  unfold BoE at HS1 HS2
  clear hb6 hbt hts
  have q1 : aS.toList = [123, 34, 110, 97, 109, 101, 34, 58, 34, 97, 34, 44, 34, 108, 105, 115, 116, 34, 58, 91, 49, 44, 110, 117, 108, 108, 44, 116, 114, 117, 101, 93, 125] := by decide +kernel
  have q2 : ({ data := #[97] } : ByteArray).toList = [97] := by decide +kernel
  have q3 : ({ data := #[98] } : ByteArray).toList = [98] := by decide +kernel
  go_wp2_with fail
  refine (HM.out _).mono ?_
  rintro e w7 ⟨rfl, hb7⟩
  have HB7 := Lib.hid hb7
  clear hb7
  go_wp2_with fail
  refine (HS1.out _ HB7.out).mono ?_
  rintro e w8 ⟨⟨r8, rfl, hr8⟩, hb8⟩
  have hr8t : r8 = true := hr8.2 ⟨aw_chk, trivial⟩
  subst hr8t
  have HB8 := Lib.hid (HB7.out.trans (hb8.mono HB7.out.size))
  clear hr8 hb8
  go_wp2_with fail
  refine (HS2.out _ HB8.out).mono ?_
  rintro e w9 ⟨⟨r9, rfl, hr9⟩, hb9⟩
  have hr9t : r9 = false := by
    cases r9 with
    | false => rfl
    | true => have := (hr9.1 rfl).2; unfold aV at this; cases this
  subst hr9t
  have HB9 := Lib.hid (HB6.out.trans ((HB8.out.trans (hb9.mono HB8.out.size)).mono HB6.out.size))
  clear hr9 hb9
  go_wp2_with fail
  go_ret
  exact ⟨rfl, HB9.out⟩
end Go.Proofs.YtbkceneakdbdkaaGreatDoor
/- Plain: what was taken of bytes is laid in no more than 17 times as many. -/
namespace Go.Proofs.YtbkceneakdbdkaaGreatDoor
open Go.RowKit
set_option maxRecDepth 20000
set_option linter.unusedVariables false
set_option linter.unusedSimpArgs false
theorem takeG_less : ∀ (f : Nat) (l : List Int) (p : Nat) (out : List Int), (takeG f l p out).2.2 = 0 → (takeG f l p out).1.length + p ≤ out.length + (takeG f l p out).2.1
  | 0, l, p, out, h => by simp [takeG] at h
  | f + 1, l, p, out, h => by
    rw [takeG_step] at h ⊢
    cases hs : stepP l with
    | short => rw [hs] at h; simp at h
    | form => rw [hs] at h; simp at h
    | fin => simp
    | piece t n =>
      rw [hs] at h
      have h1 := piece_len l t n hs
      have := takeG_less f (l.drop n) (p + n) (out ++ t) h
      simp only
      rw [List.length_append] at this
      omega
theorem textP_less (l : List Int) (h : (textP l).2.2 = 0) : (textP l).1.length ≤ (textP l).2.1 := by
  cases l with
  | nil => simp [textP] at h
  | cons b t =>
    rw [textP] at h ⊢
    split
    · rename_i hb
      rw [if_pos hb] at h
      have := takeG_less (t.length + 1) t 1 [] h
      simp at this; omega
    · rename_i hb
      rw [if_neg hb] at h; simp at h
theorem digN_len17 : ∀ (k n : Nat), n < 10 ^ (k + 1) → (digN n).length ≤ k + 1
  | 0, n, h => by rw [digN, dif_pos (by omega)]; simp
  | k + 1, n, h => by
    rw [digN]
    split
    · simp
    · have : n / 10 < 10 ^ (k + 1) := by rw [Nat.div_lt_iff_lt_mul (by omega)]; rw [Nat.pow_succ] at h; omega
      have := digN_len17 k (n / 10) this
      rw [List.length_append]; simp; omega
theorem digI_len17 (n : Int) (h : ¬ (maxI < n ∨ n < -maxI)) : (digI n).length ≤ 17 := by
  unfold maxI at h
  have h10 : (10 : Nat) ^ (15 + 1) = 10000000000000000 := by decide
  unfold digI
  split
  · have := digN_len17 15 (-n).toNat (by rw [h10]; omega)
    rw [List.length_cons]; omega
  · have := digN_len17 15 n.toNat (by rw [h10]; omega)
    omega
theorem word_few (w : List Int) (v : Js) (l : List Int) (hw : 1 ≤ w.length) (h : (wordP w v l).2.2 = 0) : (wordP w v l).1 = v ∧ (wordP w v l).2.1 = w.length := by
  have hl := (wordG_le w l 0).2
  unfold wordP at h ⊢
  by_cases he : (wordG w l 0).2 = 0
  · rw [if_pos he]; exact ⟨rfl, by have := hl he; simp only; omega⟩
  · rw [if_neg he] at h; exact absurd h he
theorem flat_few (l : List Int) (h : (flatP l).2.2 = 0) : (printV (flatP l).1).length ≤ 17 * (flatP l).2.1 := by
  cases l with
  | nil => simp [flatP] at h
  | cons b t =>
    rw [flatP] at h ⊢
    by_cases h1 : b = 110
    · rw [if_pos h1] at h ⊢
      obtain ⟨g1, g2⟩ := word_few _ _ _ (by simp) h
      rw [g1, g2, printV]; simp
    rw [if_neg h1] at h ⊢
    by_cases h2 : b = 102
    · rw [if_pos h2] at h ⊢
      obtain ⟨g1, g2⟩ := word_few _ _ _ (by simp) h
      rw [g1, g2, printV]; simp
    rw [if_neg h2] at h ⊢
    by_cases h3 : b = 116
    · rw [if_pos h3] at h ⊢
      obtain ⟨g1, g2⟩ := word_few _ _ _ (by simp) h
      rw [g1, g2, printV]; simp
    rw [if_neg h3] at h ⊢
    by_cases h4 : b = 34
    · rw [if_pos h4] at h ⊢
      by_cases he : (textP (b :: t)).2.2 = 0
      · rw [if_pos he]
        have h5 := textP_less _ he
        have h6 := (textP_one _ he).1
        have h7 := quoteS_len (textP (b :: t)).1
        rw [printV]
        simp only
        omega
      · rw [if_neg he] at h; exact absurd h he
    rw [if_neg h4] at h ⊢
    by_cases h5 : b = 45 ∨ isD b = true
    · rw [if_pos h5] at h ⊢
      unfold numP at h ⊢
      by_cases hb : badD ((b :: t).take (spanN (b :: t)))
      · rw [if_pos hb] at h; cases h
      rw [if_neg hb] at h ⊢
      by_cases hm : maxI < valD (unsgn ((b :: t).take (spanN (b :: t))))
      · rw [if_pos hm] at h; cases h
      rw [if_neg hm]
      have hv := val_nn _ hb
      have hs : 1 ≤ spanN (b :: t) := by
        rcases Nat.eq_zero_or_pos (spanN (b :: t)) with h0 | h0
        · exfalso; apply hb; rw [h0, List.take_zero]; exact .inl rfl
        · exact h0
      rw [printV]
      simp only
      have := digI_len17 (if isNeg ((b :: t).take (spanN (b :: t))) = true then - valD (unsgn ((b :: t).take (spanN (b :: t)))) else valD (unsgn ((b :: t).take (spanN (b :: t))))) (by unfold maxI at hm ⊢; split <;> omega)
      omega
    · rw [if_neg h5] at h; cases h
theorem nameB_few (ob : Bool) (names : List (List Int)) (l : List Int) (h : (pairP ob names l).2.2 = 0) : (if ob = true then quoteS (pairP ob names l).1 ++ [58] else []).length ≤ 17 * (pairP ob names l).2.1 := by
  cases ob with
  | false => simp
  | true =>
    show (quoteS (pairP true names l).1 ++ [58]).length ≤ _
    unfold pairP at h ⊢
    rw [if_neg (show ¬ (true = false) by decide)] at h ⊢
    rcases ht : textP l with ⟨name, n, e⟩
    rw [ht] at h
    have hless := textP_less l
    have hone := textP_one l
    rw [ht] at hless hone
    try simp only at h hless hone ⊢
    by_cases he : e ≠ 0
    · rw [if_pos he] at h; exact absurd h he
    rw [if_neg he] at h ⊢
    have he := Decidable.not_not.1 he
    by_cases hn : name ∈ names
    · rw [if_pos hn] at h; cases h
    rw [if_neg hn] at h ⊢
    by_cases h3 : l.drop (n + blankN (l.drop n)) = []
    · rw [if_pos h3] at h; cases h
    rw [if_neg h3] at h ⊢
    by_cases h4 : head0 (l.drop (n + blankN (l.drop n))) ≠ 58
    · rw [if_pos h4] at h; cases h
    rw [if_neg h4]
    have h5 := hless he
    have h6 := (hone he).1
    have h7 := quoteS_len name
    simp only [List.length_append, List.length_singleton]
    omega
theorem tail_len (ob : Bool) (r : Jl) : (tailP ob r).length ≤ (bodyP ob r).length + 1 := by
  cases r with
  | nil => rw [tailP]; simp
  | cons n v t => rw [tail_cons]; simp
theorem few (f : Nat) : (∀ d l, (valueP f d l).2.2 = 0 → (printV (valueP f d l).1).length ≤ 17 * (valueP f d l).2.1) ∧ ∀ d ob fin names k l, (itemsP f d ob fin names k l).2.2 = 0 → (bodyP ob (itemsP f d ob fin names k l).1).length + 1 ≤ 17 * (itemsP f d ob fin names k l).2.1 := by
  induction f with
  | zero => exact ⟨fun d l h => by simp [valueP] at h, fun d ob fin names k l h => by simp [itemsP] at h⟩
  | succ f ih =>
    refine ⟨fun d l h => ?_, fun d ob fin names k l h => ?_⟩
    · by_cases hb : head0 l ≠ 91 ∧ head0 l ≠ 123
      · rw [valueP_flat f d l hb] at h ⊢
        exact flat_few l h
      · cases l with
        | nil => exfalso; apply hb; simp [head0]
        | cons b t =>
          have hb2 : b = 91 ∨ b = 123 := by
            simp [head0] at hb
            by_cases e : b = 91
            · exact .inl e
            · exact .inr (hb e)
          rw [valueP_box f d b t hb2] at h ⊢
          by_cases h1 : 4 < d
          · rw [if_pos h1] at h; cases h
          rw [if_neg h1] at h ⊢
          by_cases h2 : head0 (t.drop (blankN t)) = b + 2
          · rw [if_pos h2]
            split <;> rw [printV, bodyP] <;> simp <;> omega
          rw [if_neg h2] at h ⊢
          by_cases h3 : (itemsP f d (decide (b = 123)) (b + 2) [] 0 (t.drop (blankN t))).2.2 ≠ 0
          · rw [if_pos h3] at h; exact absurd h h3
          rw [if_neg h3]
          have h4 := ih.2 d (decide (b = 123)) (b + 2) [] 0 (t.drop (blankN t)) (Decidable.not_not.1 h3)
          rcases hb2 with hb2 | hb2
          · rw [if_pos hb2, printV]
            rw [show decide (b = 123) = false by rw [hb2]; decide] at h4 ⊢
            simp only [List.length_cons, List.length_append, List.length_nil]
            omega
          · rw [if_neg (by omega), printV]
            rw [show decide (b = 123) = true by rw [hb2]; decide] at h4 ⊢
            simp only [List.length_cons, List.length_append, List.length_nil]
            omega
    · rw [itemsP_step] at h ⊢
      by_cases h1 : l ≠ [] ∧ 64 ≤ k
      · rw [if_pos h1] at h; cases h
      rw [if_neg h1] at h ⊢
      by_cases h2 : (pairP ob names l).2.2 ≠ 0
      · rw [if_pos h2] at h; exact absurd h h2
      rw [if_neg h2] at h ⊢
      by_cases h3 : (valueP f (d + 1) (l.drop (pairP ob names l).2.1)).2.2 ≠ 0
      · rw [if_pos h3] at h; exact absurd h h3
      rw [if_neg h3] at h ⊢
      have g1 := nameB_few ob names l (Decidable.not_not.1 h2)
      have g2 := ih.1 (d + 1) (l.drop (pairP ob names l).2.1) (Decidable.not_not.1 h3)
      generalize hm : (pairP ob names l).2.1 + (valueP f (d + 1) (l.drop (pairP ob names l).2.1)).2.1 + blankN (l.drop ((pairP ob names l).2.1 + (valueP f (d + 1) (l.drop (pairP ob names l).2.1)).2.1)) = m at h ⊢
      have g3 : (pairP ob names l).2.1 + (valueP f (d + 1) (l.drop (pairP ob names l).2.1)).2.1 ≤ m := by omega
      generalize (valueP f (d + 1) (l.drop (pairP ob names l).2.1)) = V at g2 g3 h ⊢
      generalize pairP ob names l = P at g1 g3 h ⊢
      unfold restP at h ⊢
      by_cases h4 : l.drop m = []
      · rw [if_pos h4] at h; cases h
      rw [if_neg h4] at h ⊢
      by_cases h5 : head0 (l.drop m) = fin
      · rw [if_pos h5, body_cons, tail_nil]
        unfold nameB
        simp only [List.length_append, List.length_nil]
        omega
      rw [if_neg h5] at h ⊢
      by_cases h6 : head0 (l.drop m) ≠ 44
      · rw [if_pos h6] at h; cases h
      rw [if_neg h6] at h ⊢
      by_cases h7 : (itemsP f d ob fin (names ++ [P.1]) (k + 1) (l.drop (m + 1 + blankN (l.drop (m + 1))))).2.2 ≠ 0
      · rw [if_pos h7] at h; exact absurd h h7
      rw [if_neg h7]
      have hi := ih.2 d ob fin (names ++ [P.1]) (k + 1) (l.drop (m + 1 + blankN (l.drop (m + 1)))) (Decidable.not_not.1 h7)
      generalize itemsP f d ob fin (names ++ [P.1]) (k + 1) (l.drop (m + 1 + blankN (l.drop (m + 1)))) = I at hi ⊢
      have ht := tail_len ob I.1
      rw [body_cons]
      unfold nameB
      simp only [List.length_append]
      omega
theorem takeV_len (s : List Int) (hl : ¬ 4096 < s.length) (h : (takeV s).2.2 = 0) : (printV (takeV s).1).length ≤ 17 * s.length := by
  rw [takeV_is s hl] at h ⊢
  by_cases h1 : (valueP (fuelV s) 1 (s.drop (blankN s))).2.2 ≠ 0
  · rw [if_pos h1] at h; exact absurd h h1
  rw [if_neg h1] at h ⊢
  have h2 := (few (fuelV s)).1 1 (s.drop (blankN s)) (Decidable.not_not.1 h1)
  have h3 := ((within (fuelV s)).1 1 (s.drop (blankN s))).1
  rw [List.length_drop] at h3
  generalize valueP (fuelV s) 1 (s.drop (blankN s)) = V at h h2 h3 ⊢
  split
  · rename_i h4; rw [if_pos h4] at h; cases h
  · simp only
    omega
end Go.Proofs.YtbkceneakdbdkaaGreatDoor
/- A value of the document's as an argument, opened. -/
namespace Go.Proofs.YtbkceneakdbdkaaGreatDoor
open Go.ChangeShapes Go.WideShapes Go.ChangeAt Go.RowKit Go.Joins
set_option linter.unusedVariables false
set_option maxRecDepth 20000
theorem lLaid : laidOutB Tryz.prog = true := by kernel_rfl
theorem node_opened {H : Type} {enc : TypeId × Value → H} {W : World} {base b0 : Nat} {r : Reach} {spare : Nat → Bool} {held : Bool} {v : Value} {d : DataW H} {p : List MemPlace}
    (hv : Value.okWide Tryz.prog W r b0 25 v) (h : DataW.Trod enc Tryz.prog W base spare held 25 v d p) : ∃ u : Nt, v = ntA u ∧ u.In W := by
  obtain ⟨cs, rfl, hsz⟩ := okWide_struct Tryz.underlying25 hv
  obtain ⟨fuel, hf⟩ := h
  obtain ⟨u, hcs, hin⟩ := open_node fuel _ _ hf
  refine ⟨u, ?_, hin⟩
  have hcs' : cs.toList = ntCells u := hcs
  unfold ntA
  rw [← hcs']
end Go.Proofs.YtbkceneakdbdkaaGreatDoor
