/- The program's Decode, whole, and its Each: what it hands on. -/
import Derived.Test.YtbkodaijigcebaaML
import Derived.Test.YtbkodaijigcebaaMJ
import Derived.Test.YtbkodaijigcebaaMR
namespace Go.Proofs.Ytbkodaijigcebaa
open Go.RowKit Go.Shelf
set_option maxRecDepth 20000
set_option linter.unusedVariables false
set_option linter.unusedSimpArgs false
theorem pdecD_any (t : ByteArray) (w : World) (hm : t.size ≤ maxLen) : Calls Try.prog 22 #[.string t] w (DecEnd (decD t.data.toList) 52 w) := by
  by_cases h1 : 65536 < t.size
  · have hl : t.data.toList.length = t.size := by simp
    have hD : decD t.data.toList = ([], 0, 5) := by unfold decD; rw [if_pos (by rw [hl]; exact h1)]
    rw [hD]
    have hd : decide (65536 < (t.size : Int)) = true := by simp; omega
    have hd2 : decide (65536 < t.size) = true := by simp; omega
    clear h1 hl hD
    go_enter Try.func22, Try.ntmps22
    go_wp2_with fail
    go_ret3
    exact ⟨_, rfl, ownE_nil _ _ _, Below.refl _ _⟩
  · exact pdecD_4 t w (by omega)
theorem ens_kc {B : Nat} {W W' : World} {v : Value} {l : List En} (h : EnsAt W v l) (hk : KC B W W') (hv : ∀ a n c, l ≠ [] → v = .slice (some a) n c → a.block ≠ B) : EnsAt W' v l := by
  obtain ⟨a, cap, rfl, h1, h2, hc⟩ := h
  refine ⟨a, cap, rfl, h1, h2, fun k t ht => ?_⟩
  obtain ⟨g, off, rfl, hg, c0, c1, c2, c3⟩ := hc k t ht
  have hne : g ≠ B := hv _ _ _ (fun h => by rw [h] at ht; simp at ht) rfl
  have hs : W'.heap[g]? = W.heap[g]? := by
    rw [Array.getElem?_eq_getElem hg]
    refine hk.2 g _ hne (Array.getElem?_eq_getElem hg) (.inl ?_)
    have e := Array.getElem?_eq_getElem hg
    cases ho : W.heap[g] with
    | cells => rfl
    | _ => rw [ho] at e; simp [World.cell?, e] at c0
  exact ⟨g, off, rfl, Nat.lt_of_lt_of_le hg hk.1, (heap_same hs _).1.trans c0, (heap_same hs _).1.trans c1, (heap_same hs _).1.trans c2, (heap_same hs _).1.trans c3⟩
theorem abidesE {β : Type} {J : β → World → Prop} {B : Nat} (hJ : AbidesFrom B J) {s : β} {W W' : World} (h : J s W) (hb : Below W.heap.size W W') : J s W' :=
  hJ s W W' none h ⟨hb.os, hb.tape, hb.output, hb.size, fun k hk _ => hb.block k hk⟩ (fun r e => by cases e)
theorem decD_few (t : List UInt8) : (decD t).1.length ≤ 4096 := by
  by_cases h : (decD t).2.2 = 0
  · exact rowN_len (decD_back t h).1
  · rw [(decD_bad t).1 h]; exact Nat.zero_le _
theorem upE_pre (l : List En) (k : Nat) (hk : k < l.length) : (upE l k).length < l.length := by rw [upE_len]; exact hk
attribute [local go_sem] Oper.semAt_some
end Go.Proofs.Ytbkodaijigcebaa
