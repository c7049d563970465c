/- The program's Decode, whole, and its Each: what it hands on. -/
import Derived.Test.YtgnghnekckhcdaaCn
import Derived.Test.YtgnghnekckhcdaaCg
import Derived.Test.YtgnghnekckhcdaaCh
import Derived.Test.YtgnghnekckhcdaaEv
namespace Go.Proofs.Ytgnghnekckhcdaa
open Go.RowKit Go.Shelf
set_option linter.unusedVariables false
set_option linter.unusedSimpArgs false
theorem pdecD_any (t : ByteArray) (w : World) (hm : t.size ≤ maxLen) : Calls Try.prog 14 #[.string t] w (DecEnd (decD t.data.toList) 51 w) := by
  by_cases h1 : 65536 < t.size
  · have hl : t.data.toList.length = t.size := by simp
    have hD : decD t.data.toList = ([], 0, 5) := by unfold decD; rw [if_pos (by rw [hl]; exact h1)]
    rw [hD]
    have hd : decide (65536 < (t.size : Int)) = true := by simp; omega
    have hd2 : decide (65536 < t.size) = true := by simp; omega
    clear h1 hl hD
    go_enter Try.func14, Try.ntmps14
    go_wp2_with fail
    go_ret3
    exact ⟨_, rfl, ownE_nil _ _ _, Below.refl _ _⟩
  · exact pdecD_4 t w (by omega)
theorem ens_kc {B : Nat} {W W' : World} {v : Value} {l : List En} (h : EnsAt W v l) (hk : KC B W W') (hv : ∀ a n c, l ≠ [] → v = .slice (some a) n c → a.block ≠ B) : EnsAt W' v l := by
  obtain ⟨a, cap, rfl, h1, h2, hc⟩ := h
  refine ⟨a, cap, rfl, h1, h2, fun k t ht => ?_⟩
  obtain ⟨g, off, rfl, hg, c0, c1, c2, c3⟩ := hc k t ht
  have hne : g ≠ B := hv _ _ _ (fun h => by rw [h] at ht; simp at ht) rfl
  have hs : W'.heap[g]? = W.heap[g]? := by
    rw [Array.getElem?_eq_getElem hg]
    refine hk.2 g _ hne (Array.getElem?_eq_getElem hg) (.inl ?_)
    have e := Array.getElem?_eq_getElem hg
    cases ho : W.heap[g] with
    | cells => rfl
    | _ => rw [ho] at e; simp [World.cell?, e] at c0
  exact ⟨g, off, rfl, Nat.lt_of_lt_of_le hg hk.1, (heap_same hs _).1.trans c0, (heap_same hs _).1.trans c1, (heap_same hs _).1.trans c2, (heap_same hs _).1.trans c3⟩
theorem abidesE {β : Type} {J : β → World → Prop} {B : Nat} (hJ : AbidesFrom B J) {s : β} {W W' : World} (h : J s W) (hb : Below W.heap.size W W') : J s W' :=
  hJ s W W' none h ⟨hb.os, hb.tape, hb.output, hb.size, fun k hk _ => hb.block k hk⟩ (fun r e => by cases e)
theorem decD_few (t : List UInt8) : (decD t).1.length ≤ 4096 := by
  by_cases h : (decD t).2.2 = 0
  · exact rowN_len (decD_back t h).1
  · rw [(decD_bad t).1 h]; exact Nat.zero_le _
theorem upE_pre (l : List En) (k : Nat) (hk : k < l.length) : (upE l k).length < l.length := by rw [upE_len]; exact hk
attribute [local go_sem] Oper.semAt_some
set_option maxRecDepth 100000 in
set_option maxHeartbeats 2000000 in
theorem peach1_in (n : Nat) (hn : 3 ≤ n) (lp Bs B : Nat) (t : ByteArray) (hm : t.size ≤ maxLen) (W : World) (J Jx : List PE → World → Prop) (hJ : AbidesFrom W.heap.size J) (hB : B < W.heap.size) (hBs : W.cell? ⟨Bs, 0, none⟩ = some (.string t))
    (hY : ∀ pre x W1, J pre W1 → pre.length < (decD t.data.toList).1.length → YieldAt Fence.wide (n - 1) Try.prog lp (encE x) W1 fun e W' => (e = .returned (.bool true) ∧ J (pre ++ [x]) W' ∧ KC B W1 W') ∨ (e = .returned (.bool false) ∧ Jx (pre ++ [x]) W')) (h0 : J [] W) :
    CallsIn Fence.wide n Try.prog 38 #[.func (.yield lp) #[] #[], .pointer (some ⟨Bs, 0, none⟩)] W fun e W' => (∃ v, e = .returned v) ∧
      ((∃ ys, ys = upE (decD t.data.toList).1 (decD t.data.toList).1.length ∧ J ys W') ∨ (∃ pre, (∃ k, k ≤ (decD t.data.toList).1.length ∧ pre = upE (decD t.data.toList).1 k) ∧ Jx pre W')) := by
  have HD := Lib.hid (pdecD_any t W hm)
  have hlen := decD_few t.data.toList
  obtain ⟨DD, hDD⟩ : ∃ DD, decD t.data.toList = DD := ⟨_, rfl⟩
  rw [hDD] at HD hlen hY ⊢
  obtain ⟨L, p, q⟩ := DD
  dsimp only at hlen hY ⊢
  have HY := Lib.hid hY
  have HJ := Lib.hid hJ
  clear hY hJ hDD
  refine callsIn_of_wp Try.func38 rfl trivial ?_ rfl
  simp only [Try.ntmps38, List.size_toArray, List.length_cons, List.length_nil, Nat.reduceAdd, Nat.reduceSub, Array.replicate_succ, Array.replicate_zero, List.push_toArray, List.append_toArray, List.nil_append, List.cons_append]
  gi_wp2
  refine ⟨trivial, noDepth, (callsIn_wide.2 HD.out).mono ?_⟩
  rintro x w1 ⟨v, rfl, ho, hb⟩
  dsimp only at ho
  have HJ1 := Lib.hid (abidesE HJ.out h0 hb)
  have hoff : ∀ a n c, L ≠ [] → v = .slice (some a) n c → a.block ≠ B := by
    intro a n c hl hv
    subst hv
    have := (OwnE.lt ho a.block (by
      rcases ho.form with ⟨h, _⟩ | ⟨g, cap, h, _⟩
      · cases h
      · cases h; rfl)).1
    omega
  have HO := Lib.hid hoff
  have HE := Lib.hid ho.ensAt
  obtain ⟨al, cap, rfl, _, hmx, _⟩ := ho.ensAt
  clear hoff ho hb HD h0
  gi_wp2
  gi_loopw [16] (fun i wr => ∃ k : Nat, k ≤ L.length ∧ i = .int .i64 k ∧ Hid (J (upE L k) wr) ∧ Hid (EnsAt wr (.slice al L.length cap) L)) (fun i _ => L.length - (intOf i).toNat)
  case atStart => exact ⟨0, Nat.zero_le _, rfl, HJ1, HE⟩
  case round =>
    obtain ⟨k, hk, rfl, HJs, HEs⟩ := hrel
    by_cases hlt : k < L.length
    · obtain ⟨g, off, cap', hv, hg, hml, hc⟩ := ens_cells HEs.out k hlt
      obtain ⟨c0, c1, c2, c3⟩ := hc k hlt
      obtain ⟨rfl, rfl⟩ : al = some ⟨g, off, none⟩ ∧ cap = cap' := by simpa using hv
      have hi2 : (k : Int) < (L.length : Int) := by omega
      have hwk : IntKind.u64.wrap (k : Int) = (k : Int) := by rw [wrapU]; omega
      have hat : atE L k = ⟨(k, gE L k), by omega⟩ := by
        apply Subtype.ext
        show (min k 5000, gE L k) = (k, gE L k)
        rw [show min k 5000 = k from by omega]
      have hba : Below wr.heap.size wr (wr.alloc (.cells (eC (gE L k)) 51)) := (Below.refl _ _).alloc (Nat.le_refl _) _
      have HX := Lib.hid (EAt.made wr (gE L k) 51)
      have hJ2 := abidesE HJ.out HJs.out hba
      obtain ⟨fn, tmps, assign, body, hy, hR⟩ := HY.out _ (atE L k) _ hJ2 (upE_pre L k hlt)
      rw [hat] at hy
      unfold encE at hy
      dsimp only at hy
      have HR := Lib.hid hR
      have HE2 := Lib.hid (HEs.out.below hba)
      clear hc hv hR hba hJ2
      generalize gE L k = e at *
      unfold eC at hy HX
      obtain ⟨x0, x1, x2, x3⟩ := HX.out
      gi_wp2
      refine ⟨noDepth, HR.out.mono ?_⟩
      rintro x W3 (⟨rfl, hJ3, hk3⟩ | ⟨rfl, hJx3⟩)
      · have HJ3 := Lib.hid hJ3
        rw [← upE_succ] at HJ3
        have HE3 := Lib.hid (ens_kc HE2.out hk3 HO.out)
        clear hJ3 hk3
        gi_wp2
        go_roundw
        case rel => exact ⟨k + 1, by omega, by go_num, HJ3, HE3⟩
        case measure => simp [intOf]; omega
      · have HJ3 := Lib.hid hJx3
        rw [← upE_succ] at HJ3
        clear hJx3
        gi_wp2
        refine bodyPost_ret (results_none rfl _ _ _) rfl ?_
        exact ⟨⟨_, rfl⟩, .inr ⟨_, ⟨k + 1, by omega, rfl⟩, HJ3.out⟩⟩
    · obtain rfl : k = L.length := by omega
      gi_wp2
      go_end0
      exact ⟨⟨_, rfl⟩, .inl ⟨_, rfl, HJs.out⟩⟩
theorem peachD_any (t : ByteArray) (w : World) (hm : t.size ≤ maxLen) : Calls Try.prog 19 #[.string t] w fun x w' => ∃ y, x = .returned y ∧ EachVal (decD t.data.toList).1 w y w' := by
  have hq : (w.alloc (.cells #[.string t] 9)).cell? ⟨w.heap.size, 0, none⟩ = some (.string t) := by rw [World.cell?_alloc_mark]; rfl
  have HQ := Lib.hid hq
  clear hq
  go_enter Try.func19, Try.ntmps19
  go_wp2_with fail
  go_ret
  refine ⟨_, rfl, ⟨_, _, rfl, enters_of Try.func38 (by kernel_rfl) rfl, fun n w2 B hn hw2 hB _ => ?_⟩, (Below.refl _ _).alloc (Nat.le_refl _) _⟩
  intro l J Jx W hW hJ _ hY h0
  exact peach1_in n hn l w.heap.size B t hm W J Jx hJ (Nat.lt_of_lt_of_le hB hW.size) (ecell_later hW (ecell_later hw2 HQ.out)) hY h0
end Go.Proofs.Ytgnghnekckhcdaa
