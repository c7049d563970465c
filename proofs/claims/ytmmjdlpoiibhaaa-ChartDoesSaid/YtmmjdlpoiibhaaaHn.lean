/- Each: what it hands on. -/
import Derived.Test.YtmmjdlpoiibhaaaHe
import Derived.Test.YtmmjdlpoiibhaaaRn
namespace Go.Proofs.Ytmmjdlpoiibhaaa
open Go.RowKit Go.Shelf
set_option maxRecDepth 20000
set_option linter.unusedVariables false
set_option linter.unusedSimpArgs false
attribute [local go_sem] Oper.semAt_some
def idC (l : List It) (k : Nat) : Int := ((l.getD k (0, { data := #[] })).1 : Int)
def txC (l : List It) (k : Nat) : ByteArray := (l.getD k (0, { data := #[] })).2
/-- The blocks that a going through reads: the box of the row, the row. -/
def VC (B0 : Nat) (v : Value) (l : List It) (b : Nat) : Prop := b = B0 ∨ (l ≠ [] ∧ ∃ a n c, v = .slice (some a) n c ∧ b = a.block)
theorem KeepsS.its {S S' : Nat → Prop} {W W' : World} {v : Value} {l : List It} (h : KeepsS S S' W W') (hoff : ∀ a n c, l ≠ [] → v = .slice (some a) n c → ¬ S a.block) (hv : ItsAt W v l) : ItsAt W' v l := by
  obtain ⟨a, cap, rfl, h1, h2, hc⟩ := hv
  refine ⟨a, cap, rfl, h1, h2, fun k t ht => ?_⟩
  obtain ⟨g, off, rfl, hg, c0, c1⟩ := hc k t ht
  have hn := hoff ⟨g, off, none⟩ _ _ (by rintro rfl; simp at ht) rfl
  exact ⟨g, off, rfl, Nat.lt_of_lt_of_le hg h.size, h.cell (p := ⟨g, off + k * 2, none⟩) hn c0, h.cell (p := ⟨g, off + k * 2 + 1, none⟩) hn c1⟩
set_option maxRecDepth 100000 in
set_option maxHeartbeats 4000000 in
theorem peach1_seq (v : Value) (l : List It) (B0 : Nat) (w : World) (hv : ItsAt w v l) (h1 : w.cell? ⟨B0, 0, none⟩ = some v) :
    SeqD Try.prog 45 #[.pointer (some ⟨B0, 0, none⟩)] (fun k => #[.int .u64 (idC l k), .string (txC l k)]) l.length (fun _ => False) (VC B0 v l) (fun _ _ => True) (fun _ => True) w := by
  intro n lp J Jx S0 W hW hJ hJx hG hS0 hY h0
  have hoff : ∀ a n c, l ≠ [] → v = .slice (some a) n c → ¬ S0 a.block := fun a n c hl hv hs => (hS0 _ hs).2 (.inr ⟨hl, a, n, c, hv, rfl⟩)
  have hvW := hv.below hW
  have hn1 : ¬ S0 B0 := fun h => (hS0 _ h).2 (.inl rfl)
  have g1 := vcell_later hW h1
  obtain ⟨al, cap, rfl, hcap, hmx, _⟩ := hv
  have hml : l.length ≤ 9223372036854775807 := by unfold maxLen at hmx; omega
  have HJ := Lib.hid hJ
  have HG := Lib.hid hG
  have HY := Lib.hid hY
  have HO := Lib.hid hoff
  have HVW := Lib.hid hvW
  have HN := Lib.hid hn1
  clear hJ hY hS0 hJx hoff hvW h1 hn1 hcap hmx hG
  refine callsIn_of_wp Try.func45 rfl trivial ?_ rfl
  simp only [Try.ntmps45, List.size_toArray, List.length_cons, List.length_nil, Nat.reduceAdd, Nat.reduceSub, Array.replicate_succ, Array.replicate_zero, List.push_toArray, List.append_toArray, List.nil_append, List.cons_append]
  gi_wp2
  gi_loopw [8] (fun i wr => ∃ k : Nat, k ≤ l.length ∧ i = .int .i64 k ∧ ∃ S, Hid (J k S wr) ∧ Hid (KeepsS S0 S W wr)) (fun i _ => l.length - (intOf i).toNat)
  case atStart => exact ⟨0, Nat.zero_le _, rfl, S0, Lib.hid h0, Lib.hid (.refl _ _)⟩
  case round =>
    obtain ⟨k, hk, rfl, S, HJs, HK⟩ := hrel
    by_cases hlt : k < l.length
    · obtain ⟨⟨x, t⟩, he⟩ : ∃ t, l[k]? = some t := ⟨_, List.getElem?_eq_getElem hlt⟩
      have hi2 : (k : Int) < (l.length : Int) := by omega
      have hV := HK.out.its HO.out HVW.out
      obtain ⟨al', cap', hav, _, _, hc⟩ := hV
      obtain ⟨g, off, rfl, hg, l0, l1⟩ := hc k _ he
      have hid : idC l k = (x : Int) := by unfold idC; rw [List.getD_eq_getElem?_getD, he]; rfl
      have htx : txC l k = t := by unfold txC; rw [List.getD_eq_getElem?_getD, he]; rfl
      have HKX := Lib.hid (KeepsS.alloc S wr (.cells #[.int .u64 x, .string t] 52))
      have HJX := Lib.hid (HJ.out.alloc (s := (k, S)) HJs.out (.cells #[.int .u64 x, .string t] 52))
      cases hav
      obtain ⟨fn, tmps, assign, body, hy, hR⟩ := HY.out k S _ HJX.out hlt
      rw [hid, htx] at hy
      have HR := Lib.hid hR
      clear hR he hc g1 hid htx HJs
      gi_wp2
      refine ⟨noDepth, HR.out.mono ?_⟩
      rintro x W3 (⟨rfl, S3, hJ3, hk3⟩ | ⟨rfl, hJx3, _⟩)
      · have HJ3 := Lib.hid hJ3
        have HK3 := Lib.hid ((HK.out.trans HKX.out).trans hk3)
        clear hJ3 hk3 hy HR l0 l1
        gi_wp2
        go_roundw
        case rel => exact ⟨k + 1, by omega, by go_num, S3, HJ3, HK3⟩
        case measure => simp [intOf]; omega
      · have HJ3 := Lib.hid hJx3
        clear hJx3 hy HR l0 l1
        gi_wp2
        refine bodyPost_ret (results_none rfl _ _ _) rfl ?_
        exact ⟨⟨_, rfl⟩, .inr ⟨k + 1, by omega, HJ3.out⟩⟩
    · obtain rfl : k = l.length := by omega
      clear g1
      gi_wp2
      go_end0
      exact ⟨⟨_, rfl⟩, .inl ⟨S, HJs.out, trivial⟩⟩
/-- What Each hands. -/
def EachD (xs : List It) (w : World) (y : Value) (w' : World) : Prop :=
  (∃ (g : Nat) (lb : Array Value) (V : Nat → Prop), y = .func (.func g) #[] lb ∧ (∀ args W, (callFunc g args).run Try.prog W = .ok (.enter g args) W) ∧ (∀ b, V b → b < w'.heap.size) ∧
    ∀ w2, Below w'.heap.size w' w2 → SeqD Try.prog g lb (fun k => #[.int .u64 (idC xs k), .string (txC xs k)]) xs.length (fun _ => False) V (fun _ _ => True) (fun _ => True) w2) ∧ Below w.heap.size w w'
theorem each_made {s : Value} {l : List It} {B0 : Nat} {w w' : World} (hb : Below w.heap.size w w') (hv : ItsAt w' s l) (hc : w'.cell? ⟨B0, 0, none⟩ = some s) : EachD l w (.func (.func 45) #[] #[.pointer (some ⟨B0, 0, none⟩)]) w' := by
  refine ⟨⟨_, _, VC B0 s l, rfl, enters_of Try.func45 (by kernel_rfl) rfl, fun b hbv => ?_, fun w2 h2 => peach1_seq s l B0 w2 (hv.below h2) (vcell_later h2 hc)⟩, hb⟩
  rcases hbv with rfl | ⟨hl, a, n, c, rfl, rfl⟩
  · exact vcell_lt hc
  · obtain ⟨a', cap, e, _, _, hcc⟩ := hv
    cases e
    cases l with
    | nil => exact absurd rfl hl
    | cons t l =>
      obtain ⟨g, off, ha, hg, _⟩ := hcc 0 t rfl
      cases ha
      exact hg
theorem each_any (s : Value) (l : List It) (w : World) (h : ChS w s l) :
    Calls Try.prog 29 #[.agg #[s]] w fun e w' => ∃ y, e = .returned y ∧ EachD l w y w' := by
  have HS := Lib.hid h.its
  obtain ⟨a, n, c, rfl⟩ := h.form
  clear h
  go_enter Try.func29, Try.ntmps29
  go_wp2_with fail
  go_ret
  exact ⟨_, rfl, each_made (by go_grown) (HS.out.below (by go_grown)) (by simp [go_sem])⟩
end Go.Proofs.Ytmmjdlpoiibhaaa
