/- Get. -/
import Derived.Test.YtegboojhebhlnaaGf
import Derived.Test.YtegboojhebhlnaaKf
import Derived.Deep.RegionWith
import Derived.Deep.DeepCutAuto
import Derived.Deep.CutRange
import Derived.Deep.RegionHeld3
namespace Go.Proofs.Ytegboojhebhlnaa
open Go.RowKit
set_option linter.unusedVariables false
set_option linter.unusedSimpArgs false
theorem eq_ct (a b c d : Int) (T : TypeId) (w : World) (hT : T = 31) : (Op.equalIn 10000 T (.agg #[.int .u64 a, .int .u32 b]) (.agg #[.int .u64 c, .int .u32 d])).run Try.prog w = .ok (decide (a = c ∧ b = d)) w := by
  subst hT
  have hS : Try.prog.underlying 31 = some (.struct (Try.prog.fieldsOf 31)) := by kernel_rfl
  rw [show (10000 : Nat) = 9999 + 1 from rfl, run_equalIn_agg w 9999 _ _ _ hS (by kernel_rfl)]
  simp only [Program.fieldsOf, Try.underlying31]
  go_simp
  by_cases h0 : a = c
  case neg => simp [h0]
  by_cases h1 : b = d
  case neg => simp [h0, h1]
  simp [h0, h1]
theorem isLo_no {a : Int} (b : Int) {l : List ByteArray} (hp : ∀ t ∈ l, 0 < t.size) (h : isLo a l = false) : getG a b l 0 = none := by
  rw [getG_lo a b l hp 0]
  unfold isLo at h
  rw [decide_eq_false_iff_not] at h
  cases ht : l[loG a l 0]? with
  | none => rfl
  | some t =>
    have hlt := (List.getElem?_eq_some_iff.1 ht).1
    dsimp only
    rw [Nat.zero_add, if_neg (fun g => h ⟨hlt, g.1⟩)]
theorem isLo_yes {a : Int} (b : Int) {l : List ByteArray} (hp : ∀ t ∈ l, 0 < t.size) (h : isLo a l = true) : ∃ t, l[loG a l 0]? = some t ∧ ((totF (l.take (loG a l 0)) : Nat) : Int) = a ∧ getG a b l 0 = if (t.size : Int) = b then some t else none := by
  unfold isLo at h
  rw [decide_eq_true_iff] at h
  obtain ⟨t, ht⟩ : ∃ t, l[loG a l 0]? = some t := ⟨_, List.getElem?_eq_getElem h.1⟩
  refine ⟨t, ht, h.2, ?_⟩
  rw [getG_lo a b l hp 0, ht]
  dsimp only
  rw [Nat.zero_add]
  by_cases e : (t.size : Int) = b
  · rw [if_pos e, if_pos ⟨h.2, e⟩]
  · rw [if_neg e, if_neg (fun g => e g.2)]
set_option maxRecDepth 20000 in
set_option maxHeartbeats 1000000 in
theorem get_any (v : Value) (l : List ByteArray) (S : Nat → Prop) (a b : Int) (w : World) (h : PoolS w v l S) (a0 : 0 ≤ a) (a1 : a ≤ 18446744073709551615) (b0 : 0 ≤ b) (b1 : b ≤ 4294967295) :
    Calls Try.prog 16 #[v, .agg #[.int .u64 a, .int .u32 b]] w fun e w' => e = .returned (.tuple #[.string (getS (getG a b l 0)), .bool (getG a b l 0).isSome]) ∧ Below w.heap.size w w' := by
  obtain ⟨pb, va, vm, G, rfl, hP, hS⟩ := h
  have hf := hP.good.few
  have HPOS := Lib.hid hP.good.pos
  have hk := hP.all.ktsAt
  have hB0 : Below w.heap.size w (w.alloc (.cells #[.int .u64 a, .int .u32 b] 31)) := (Below.refl _ _).alloc (Nat.le_refl _) _
  have ht2 := two_new w (.int .u64 a) (.int .u32 b) 31
  have hP1 := hP.below hB0
  have HBI := Lib.hid (fun X (hX : Below (w.alloc (.cells #[.int .u64 a, .int .u32 b] 31)).heap.size (w.alloc (.cells #[.int .u64 a, .int .u32 b] 31)) X) => bin_any va l a X ((hk.below hB0).below hX) (by omega))
  have HK := Lib.hid hk
  have HB0 := Lib.hid hB0
  obtain ⟨c0, c1, _, _⟩ := hP1.two
  obtain ⟨p0, p1, _, _⟩ := ht2
  have hpl := hP.two.lt
  have C0 := Lib.hid (And.intro c0 (And.intro p0 p1))
  clear hP hP1 hk hB0 hS
  go_enter Try.func16, Try.ntmps16
  go_upto_region 3 with fail
  generalize hW : w.alloc (.cells #[.int .u64 a, .int .u32 b] 31) = W at *
  have hWs : W.heap.size = w.heap.size + 1 := by rw [← hW]; simp
  obtain ⟨il, hil⟩ : ∃ il, isLo a l = il := ⟨_, rfl⟩
  rw [hil] at HBI
  obtain ⟨lo, hlo⟩ : ∃ lo, loG a l 0 = lo := ⟨_, rfl⟩
  rw [hlo] at HBI
  go_cut [6, 7] (fun x y wx => x = .int .i64 (lo : Nat) ∧ y = .bool il ∧ Below W.heap.size W wx)
  case first =>
    go_region_with (go_at_call 25; refine (HBI.out _ (by go_grown)).mono ?_; rintro x w1 ⟨rfl, hb⟩; have hbb : Below W.heap.size W w1 := (by go_grown : Below W.heap.size W _).trans hb; clear hb)
    all_goals
      go_wp2_with fail
      go_meet
      case rel => exact ⟨rfl, rfl, hbb⟩
  case rest =>
    obtain ⟨rfl, rfl, hbb⟩ := hcut
    generalize wc = w1 at *
    have hbw := HB0.out.trans (hbb.mono HB0.out.size)
    obtain ⟨q0, q1, q2⟩ := C0.out
    replace q0 := vcell_later hbb q0
    replace q1 := vcell_later hbb q1
    replace q2 := vcell_later hbb q2
    clear c0 p0 p1
    cases il with
    | false =>
      have HN := Lib.hid (isLo_no b HPOS.out hil)
      have HBW := Lib.hid hbw
      clear hil hbb hbw
      go_wp2_with fail
      go_quiet (fail)
      have HB2 : Hid (Below w.heap.size w (w1.drewN nq)) := Lib.hid (HBW.out.trans ⟨rfl, rfl, rfl, Nat.le_refl _, fun _ _ => rfl⟩)
      generalize w1.drewN nq = w2 at *
      go_wp2_with fail
      go_ret2
      refine ⟨?_, HB2.out⟩
      rw [HN.out]
      rfl
    | true =>
      obtain ⟨t, ht, hta, hg⟩ := isLo_yes b HPOS.out hil
      rw [hlo] at ht hta
      have HG := Lib.hid hg
      obtain ⟨al, cap, rfl, hcap, hmx, hc⟩ := HK.out
      obtain ⟨g, off, rfl, hgl, d0, d1, d2⟩ := hc _ _ (plc_at l 0 _ t ht)
      have hlt := (List.getElem?_eq_some_iff.1 ht).1
      rw [plc_len] at *
      replace d0 := (hbw.cell (p := ⟨g, off + lo * 3, none⟩) hgl).trans d0
      replace d1 := (hbw.cell (p := ⟨g, off + lo * 3 + 1, none⟩) hgl).trans d1
      replace d2 := (hbw.cell (p := ⟨g, off + lo * 3 + 2, none⟩) hgl).trans d2
      simp only [Nat.zero_add] at d0
      have hi2 : (lo : Int) < (l.length : Int) := by omega
      rw [hta] at d0
      have hq := fun X => eq_ct a (t.size : Nat) a b _ X rfl
      have HBW := Lib.hid hbw
      clear hil hbb hbw hc ht hta hg
      by_cases hs : (t.size : Int) = b
      · rw [if_pos hs] at HG
        rw [decide_eq_true ⟨rfl, hs⟩] at hq
        go_wp2_with fail
        go_quiet (fail)
        have HB2 : Hid (Below w.heap.size w (w1.drewN nq)) := Lib.hid (HBW.out.trans ⟨rfl, rfl, rfl, Nat.le_refl _, fun _ _ => rfl⟩)
        replace q0 : (w1.drewN nq).cell? _ = _ := q0
        replace d2 : (w1.drewN nq).cell? _ = _ := d2
        generalize w1.drewN nq = w2 at *
        go_wp2_with fail
        go_ret2
        refine ⟨?_, HB2.out⟩
        rw [HG.out]
        rfl
      · rw [if_neg hs] at HG
        rw [decide_eq_false (fun g => hs g.2)] at hq
        go_wp2_with fail
        go_quiet (fail)
        have HB2 : Hid (Below w.heap.size w (w1.drewN nq)) := Lib.hid (HBW.out.trans ⟨rfl, rfl, rfl, Nat.le_refl _, fun _ _ => rfl⟩)
        generalize w1.drewN nq = w2 at *
        go_wp2_with fail
        go_ret2
        refine ⟨?_, HB2.out⟩
        rw [HG.out]
        rfl
end Go.Proofs.Ytegboojhebhlnaa
