/- A set of pairs in a map whose keys are structs: what a key reads as; how many a set filled with repeats has. -/
import Derived.Test.YtleicghfcffblaaMF
import Derived.Maps.OwnSet
import Derived.Carry
import Derived.DeepKeys5
namespace Go.Proofs.Ytleicghfcffblaa
open Go.RowKit Go.Maps Go.WideMaps
set_option maxRecDepth 20000
set_option linter.unusedVariables false
set_option linter.unusedSimpArgs false
theorem lLaidK : laidOutB Try.prog = true := by kernel_rfl
theorem lawK : Keyed Try.prog 106 := Keyed.of_law (deep_law_gate lLaidK (of_decide_eq_true (by kernel_rfl)) (of_decide_eq_true (by kernel_rfl)) (by kernel_rfl) (by kernel_rfl))
/-- What a pair reads as, as a key. -/
def klN (q : Int × Int) : Lit := .string (keyBytes [.int .u64 q.1, .int .u32 q.2])
def FitQ (q : Int × Int) : Prop := (0 ≤ q.1 ∧ q.1 ≤ 18446744073709551615) ∧ (0 ≤ q.2 ∧ q.2 ≤ 4294967295)
theorem lits_u64 (n : Nat) (x : Int) (h0 : 0 ≤ x) (h1 : x ≤ 18446744073709551615) : Try.prog.keyLits (n + 1) 51 [.int .u64 x] = some [.int .u64 x] := by
  have hw : (Lit.int .u64 x).wf = true := WalkArith.wf_u64 ⟨h0, h1⟩
  simp [Program.keyLits, Try.underlying51, hw]
theorem lits_u32 (n : Nat) (x : Int) (h0 : 0 ≤ x) (h1 : x ≤ 4294967295) : Try.prog.keyLits (n + 1) 60 [.int .u32 x] = some [.int .u32 x] := by
  have hw : (Lit.int .u32 x).wf = true := WalkArith.wf_u32 ⟨h0, h1⟩
  simp [Program.keyLits, Try.underlying60, hw]
theorem lits_place (n : Nat) (q : Int × Int) (h : FitQ q) : Try.prog.keyLits (n + 2) 106 [.int .u64 q.1, .int .u32 q.2] = some [.int .u64 q.1, .int .u32 q.2] := by
  have hc : Try.prog.cellsOf 106 = 2 := by kernel_rfl
  have hc1 : Try.prog.cellsOf 51 = 1 := by kernel_rfl
  have hc2 : Try.prog.cellsOf 60 = 1 := by kernel_rfl
  have h1 := lits_u64 n q.1 h.1.1 h.1.2
  have h2 := lits_u32 n q.2 h.2.1 h.2.2
  unfold Program.keyLits
  rw [Try.underlying106]
  simp [hc, hc1, hc2, h1, h2]
theorem formed_place (q : Int × Int) : (Value.agg #[.int .u64 q.1, .int .u32 q.2]).formed Try.prog 106 = true := by
  have hc : Try.prog.cellsOf 106 = 2 := by kernel_rfl
  unfold Value.formed
  rw [Try.underlying106]
  simp [hc]
theorem key_ok (q : Int × Int) (h : FitQ q) : keyOf Try.prog 106 (.agg #[.int .u64 q.1, .int .u32 q.2]) = some (klN q) := by
  have hk : Try.prog.keyType 106 = true := by kernel_rfl
  have h3 := lits_place (Try.prog.types.size - 1) q h
  have hs : Try.prog.types.size - 1 + 2 = Try.prog.types.size + 1 := by kernel_rfl
  rw [hs] at h3
  unfold keyOf
  rw [Try.underlying106]
  simp only [hk, formed_place q, Bool.and_self, if_true]
  show Option.map _ (Try.prog.keyLits (Try.prog.types.size + 1) 106 [.int .u64 q.1, .int .u32 q.2]) = _
  rw [h3]
  rfl
theorem kl_inj {p q : Int × Int} (hp : FitQ p) (hq : FitQ q) (h : klN p = klN q) : p = q := by
  have h1 := key_ok p hp
  have h2 := key_ok q hq
  rw [h] at h1
  have h3 := lawK.inj h1 h2
  simp only [Value.agg.injEq, Array.mk.injEq, List.cons.injEq, Value.int.injEq, true_and, and_true] at h3
  exact Prod.ext h3.1 h3.2
theorem kl_same {p q : Int × Int} (hp : FitQ p) (hq : FitQ q) : (klN p).sameKey (klN q) = decide (p = q) := by
  by_cases h : p = q
  · subst h; simp [klN, Lit.sameKey]
  · rw [decide_eq_false h]
    show (keyBytes _ == keyBytes _) = false
    rw [beq_eq_false_iff_ne]
    exact fun e => h (kl_inj hp hq (by unfold klN; rw [e]))
theorem kl_key (q : Int × Int) : WideAt.IsKeyLit (klN q) := trivial
/-- A set filled with repeats has as many as there are unlike ones. -/
theorem set_unl (l : List (Int × Int)) (h : ∀ q ∈ l, FitQ q) : ∃ d : List (Int × Int), (l.map klN).foldl addKey [] = d.map klN ∧ d.length = unl l ∧ ∀ q, q ∈ d ↔ q ∈ l := by
  have key : ∀ (n : Nat), n ≤ l.length → ∃ d : List (Int × Int), ((l.take n).map klN).foldl addKey [] = d.map klN ∧ d.length = unl (l.take n) ∧ ∀ q, q ∈ d ↔ q ∈ l.take n := by
    intro n
    induction n with
    | zero => intro _; exact ⟨[], rfl, rfl, by simp⟩
    | succ n ih =>
      intro hn
      obtain ⟨d, h1, h2, h3⟩ := ih (by omega)
      obtain ⟨p, hp⟩ : ∃ p, l[n]? = some p := ⟨_, List.getElem?_eq_getElem (by omega)⟩
      have hpl : p ∈ l := List.mem_of_getElem? hp
      have ht : l.take (n + 1) = l.take n ++ [p] := by rw [List.take_add_one, hp]; rfl
      have hany : (d.map klN).any (fun y => y.sameKey (klN p)) = decide (p ∈ l.take n) := by
        rw [List.any_map]
        by_cases hm : p ∈ l.take n
        · rw [decide_eq_true hm, List.any_eq_true]
          exact ⟨p, (h3 p).2 hm, by simp [Function.comp, kl_same (h p hpl) (h p hpl)]⟩
        · rw [decide_eq_false hm, List.any_eq_false]
          intro q hq
          have hql : q ∈ l := List.mem_of_mem_take ((h3 q).1 hq)
          simp only [Function.comp, kl_same (h q hql) (h p hpl), decide_eq_true_eq]
          exact fun e => hm (e ▸ (h3 q).1 hq)
      rw [ht, List.map_append, List.foldl_append, h1, unl_snoc]
      simp only [List.map_cons, List.map_nil, List.foldl_cons, List.foldl_nil, addKey, hany]
      by_cases hm : p ∈ l.take n
      · rw [if_pos hm, if_pos (decide_eq_true hm)]
        exact ⟨d, rfl, h2, fun q => by rw [List.mem_append, List.mem_singleton, h3]; exact ⟨.inl, fun e => e.elim id (fun e => e ▸ hm)⟩⟩
      · rw [if_neg hm, if_neg (by simpa using hm)]
        exact ⟨d ++ [p], by simp, by rw [List.length_append, h2]; rfl, fun q => by rw [List.mem_append, List.mem_append, h3]⟩
  have := key l.length (Nat.le_refl _)
  rwa [List.take_length] at this
theorem size_unl (H : Type) (u : DataW H) (l : List (Int × Int)) (h : ∀ q ∈ l, FitQ q) : Maps.size (setOf u (l.map klN)) = unl l := by
  obtain ⟨d, h1, h2, _⟩ := set_unl l h
  rw [size_setOf u _ (fun x hx => by obtain ⟨q, _, rfl⟩ := List.mem_map.1 hx; exact kl_key q), h1, List.length_map, h2]
end Go.Proofs.Ytleicghfcffblaa
