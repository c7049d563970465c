/- The program's column of a row: what it hands on. -/
import Derived.Test.YtgnghnekckhcdaaRn
import Derived.Test.YtgnghnekckhcdaaCc
namespace Go.Proofs.Ytgnghnekckhcdaa
open Go.RowKit Go.Shelf
set_option linter.unusedVariables false
set_option linter.unusedSimpArgs false
attribute [local go_sem] Oper.semAt_some
/-- The blocks that a column reads. -/
def VC (l : List En) (v : Value) (B1 B2 : Nat) (b : Nat) : Prop := b = B1 ∨ b = B2 ∨ l ≠ [] ∧ ∃ a n c, v = .slice (some a) n c ∧ b = a.block
theorem off_vc {S : Nat → Prop} {l : List En} {v : Value} {B1 B2 : Nat} (h : ∀ b, S b → ¬ VC l v B1 B2 b) : Off S l v := fun hl a n c hv hs => h _ hs (.inr (.inr ⟨hl, a, n, c, hv, rfl⟩))
set_option maxRecDepth 100000 in
set_option maxHeartbeats 2000000 in
theorem pcol1_seq (f c : Nat) (v : Value) (l : List En) (B1 B2 : Nat) (w : World) (hfe : ∀ args W, (callFunc f args).run Try.prog W = .ok (.enter f args) W)
    (hf : ∀ W (i : Nat), EnsAt W v l → i < l.length → Calls Try.prog f #[v, .int .i64 (i : Int)] W fun x w' => x = .returned (.int .u64 (colN l c i)) ∧ Below W.heap.size W w')
    (hv : EnsAt w v l) (h1 : w.cell? ⟨B1, 0, none⟩ = some v) (h2 : w.cell? ⟨B2, 0, none⟩ = some (.func (.func f) #[v] #[])) :
    SeqD Try.prog 73 #[.pointer (some ⟨B1, 0, none⟩), .pointer (some ⟨B2, 0, none⟩)] (fun k => #[.int .u64 (colN l c k)]) l.length (fun _ => False) (VC l v B1 B2) (fun _ _ => True) (fun _ => True) w := by
  intro n lp J Jx S0 W hW hJ hJx _ hS0 hY h0
  have hoff : Off S0 l v := off_vc (fun b hb => (hS0 b hb).2)
  have hvW := hv.below hW
  have hn1 : ¬ S0 B1 := fun h => (hS0 _ h).2 (.inl rfl)
  have hn2 : ¬ S0 B2 := fun h => (hS0 _ h).2 (.inr (.inl rfl))
  have g1 := ecell_later hW h1
  have g2 := ecell_later hW h2
  obtain ⟨al, cap, rfl, hcap, hmx, _⟩ := hv
  have hml : l.length ≤ 9223372036854775807 := by unfold maxLen at hmx; omega
  have HF := Lib.hid hf
  have HJ := Lib.hid hJ
  have HY := Lib.hid hY
  have HO := Lib.hid hoff
  have HVW := Lib.hid hvW
  have HN := Lib.hid (And.intro hn1 hn2)
  have hfe' := fun W => hfe #[.slice al l.length cap] W
  clear hf hJ hY hS0 hJx hoff hvW h1 h2 hn1 hn2 hcap hmx
  refine callsIn_of_wp Try.func73 rfl trivial ?_ rfl
  simp only [Try.ntmps73, List.size_toArray, List.length_cons, List.length_nil, Nat.reduceAdd, Nat.reduceSub, Array.replicate_succ, Array.replicate_zero, List.push_toArray, List.append_toArray, List.nil_append, List.cons_append]
  gi_wp2
  gi_loopw [7] (fun i wr => ∃ k : Nat, k ≤ l.length ∧ i = .int .i64 k ∧ ∃ S, Hid (J k S wr) ∧ Hid (KeepsS S0 S W wr)) (fun i _ => l.length - (intOf i).toNat)
  case atStart => exact ⟨0, Nat.zero_le _, rfl, S0, Lib.hid h0, Lib.hid (.refl _ _)⟩
  case round =>
    obtain ⟨k, hk, rfl, S, HJs, HK⟩ := hrel
    by_cases hlt : k < l.length
    · have c1 := HK.out.cell (p := ⟨B1, 0, none⟩) HN.out.1 g1
      have c2 := HK.out.cell (p := ⟨B2, 0, none⟩) HN.out.2 g2
      have hi2 : (k : Int) < (l.length : Int) := by omega
      have HV := Lib.hid (HK.out.ens HO.out HVW.out)
      clear g1 g2
      gi_wp2
      refine ⟨trivial, noDepth, (callsIn_wide.2 (HF.out _ k HV.out hlt)).mono ?_⟩
      rintro x w1 ⟨rfl, hb⟩
      have hJ1 := HJ.out.grow (s := (k, S)) HJs.out hb
      have HK1 := Lib.hid (HK.out.trans (KeepsS.below S hb))
      obtain ⟨fn, tmps, assign, body, hy, hR⟩ := HY.out k S w1 hJ1 hlt
      have HR := Lib.hid hR
      clear hb hJ1 hR HK HJs HV c1 c2
      gi_wp2
      refine ⟨noDepth, HR.out.mono ?_⟩
      rintro x W3 (⟨rfl, S', hJ3, hk3⟩ | ⟨rfl, hJx3, _⟩)
      · have HJ3 := Lib.hid hJ3
        have HK3 := Lib.hid (HK1.out.trans hk3)
        clear hJ3 hk3
        gi_wp2
        go_roundw
        case rel => exact ⟨k + 1, by omega, by go_num, S', HJ3, HK3⟩
        case measure => simp [intOf]; omega
      · have HJ3 := Lib.hid hJx3
        clear hJx3
        gi_wp2
        refine bodyPost_ret (results_none rfl _ _ _) rfl ?_
        exact ⟨⟨_, rfl⟩, .inr ⟨k + 1, by omega, HJ3.out⟩⟩
    · obtain rfl : k = l.length := by omega
      clear g1 g2
      gi_wp2
      go_end0
      exact ⟨⟨_, rfl⟩, .inl ⟨S, HJs.out, trivial⟩⟩
/-- The value of column c's function. -/
def fcN (c : Nat) : Nat := if c = 0 then 50 else if c = 1 then 51 else if c = 2 then 52 else 53
def fvN (c : Nat) (v : Value) : Value := .func (.func (fcN c)) #[v] #[]
theorem fcN_enters (c : Nat) (args : Array Value) (W : World) : (callFunc (fcN c) args).run Try.prog W = .ok (.enter (fcN c) args) W := by
  unfold fcN
  split
  · exact enters_of Try.func50 (by kernel_rfl) rfl args W
  split
  · exact enters_of Try.func51 (by kernel_rfl) rfl args W
  split
  · exact enters_of Try.func52 (by kernel_rfl) rfl args W
  · exact enters_of Try.func53 (by kernel_rfl) rfl args W
theorem fcN_any (c : Nat) (hc : c < 4) (v : Value) (l : List En) (hm : MaysN l) (W : World) (i : Nat) (hv : EnsAt W v l) (hi : i < l.length) : Calls Try.prog (fcN c) #[v, .int .i64 (i : Int)] W fun x w' => x = .returned (.int .u64 (colN l c i)) ∧ Below W.heap.size W w' := by
  rcases (by omega : c = 0 ∨ c = 1 ∨ c = 2 ∨ c = 3) with rfl | rfl | rfl | rfl
  · exact pstep_any v l W i hv hm hi
  · exact prunN_any v l W i hv hm hi
  · exact plenN_any v l W i hv hm hi
  · exact pmark_any v l W i hv hm hi
/-- (row).column's answer. -/
theorem pcol_any (al : Option Addr) (m cap k : Nat) (bd : Array Value) (w : World) : Calls Try.prog 54 #[.slice al m cap, .func (.func k) bd #[]] w fun x w' => x = .returned (.func (.func 73) #[] #[.pointer (some ⟨w.heap.size, 0, none⟩), .pointer (some ⟨w.heap.size + 1, 0, none⟩)]) ∧ w' = (w.alloc (.cells #[.slice al m cap] 67)).alloc (.cells #[.func (.func k) bd #[]] 102) := by
  go_enter Try.func54, Try.ntmps54
  go_wp2_with fail
  go_ret
  exact ⟨rfl, rfl⟩
end Go.Proofs.Ytgnghnekckhcdaa
