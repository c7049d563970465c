/- strings.Builder over this program: what it holds as a list of bytes; HasPrefix, CutPrefix. -/
import Derived.Test.YtcpofeebfckmhaaRs
import Derived.Test.YtcpofeebfckmhaaJq
import Derived.Test.YtcpofeebfckmhaaJj
import Derived.Lib.OthersKept
namespace Go.Proofs.Ytcpofeebfckmhaa
open Go.RowKit
set_option maxRecDepth 20000
set_option linter.unusedVariables false
set_option linter.unusedSimpArgs false
abbrev bp (B : Nat) : Value := .pointer (some ⟨B, 0, none⟩)
abbrev OK (B : Nat) (W W' : World) : Prop := Lib.OthersKept 5 (some B) W W'
/-- The builder at block B holds these bytes. -/
def Bd (B : Nat) (out : List Int) (W : World) : Prop := Lib.IsBuilderF 37 5 B B (out.map (Value.int .u8)) W
theorem Bd.lt {B : Nat} {out : List Int} {W : World} (h : Bd B out W) : B < W.heap.size := by
  rcases h with h | h <;> exact h.lt
theorem Bd.fresh (w : World) : Bd w.heap.size [] (w.alloc (.cells #[.pointer none, .slice none 0 0] 37)) := Lib.IsBuilderF.of (Lib.fresh_isBuilder 37 5 w)
theorem Bd.alloc {B : Nat} {out : List Int} {W : World} (h : Bd B out W) (o : Obj) : Bd B out (W.alloc o) := Lib.IsBuilderF.alloc h o
theorem Bd.iterAt {B k : Nat} {out : List Int} {W : World} {s : ByteArray} {pos : Nat} (h : Bd B out W) (hk : W.heap[k]? = some (.stringIter s pos)) (q : Nat) : Bd B out (W.iterAt k s q) := Lib.IsBuilderF.iterAt h hk q
/-- A call that leaves all blocks that there were leaves the builder. -/
theorem Bd.kept {B : Nat} {out : List Int} {W W' : World} (h : Bd B out W) (hb : Below W.heap.size W W') : Bd B out W' := by
  have hk : ∀ k o, W.heap[k]? = some o → W'.heap[k]? = some o := fun k o hk => by rw [hb.block k (Array.getElem?_eq_some_iff.1 hk).1]; exact hk
  have one : ∀ p, Lib.BuilderAtF 37 5 B B p (out.map (Value.int .u8)) W → Lib.BuilderAtF 37 5 B B p (out.map (Value.int .u8)) W' := by
    rintro p ⟨hB, v, hc, ⟨ho1, ho2⟩, hne⟩
    refine ⟨hB, v, hk _ _ hc, ⟨ho1, ?_⟩, hne⟩
    rcases ho2 with h | ⟨g, cap, cur, fz, h1, h2, h3, h4⟩
    · exact Or.inl h
    · exact Or.inr ⟨g, cap, cur, fz, h1, h2, hk _ _ h3, h4⟩
  exact h.elim (fun x => Or.inl (one _ x)) (fun x => Or.inr (one _ x))
theorem wb_any (B : Nat) (out : List Int) (c : Int) (W : World) (h : Bd B out W) (hl : out.length ≤ 1000000) : Calls Try.prog 14 #[bp B, .int .u8 c] W fun e W' => e = .returned .nilIface ∧ Bd B (out ++ [c]) W' ∧ Below B W W' ∧ OK B W W' := by
  refine (Any.Builder_WriteByte_k bbL bbLX B B _ c W h (by rw [List.length_map]; omega) (Nat.le_of_lt h.lt)).mono ?_
  rintro e W' ⟨he, h1, h2, h3⟩
  exact ⟨he, by unfold Bd; rw [List.map_append]; exact Or.inr h1, h2, h3⟩
theorem ws_any (B : Nat) (out : List Int) (s : ByteArray) (W : World) (h : Bd B out W) (hl : out.length ≤ 1000000) (hs : s.size ≤ 1000000) : Calls Try.prog 25 #[bp B, .string s] W fun e W' => e = .returned (.tuple #[.int .i64 s.size, .nilIface]) ∧ Bd B (out ++ bI s) W' ∧ Below B W W' ∧ OK B W W' := by
  refine (Any.Builder_WriteString_k bwL bwLX B B _ s W h (by rw [List.length_map]; omega) (Nat.le_of_lt h.lt)).mono ?_
  rintro e W' ⟨he, h1, h2, h3⟩
  have e2 : (bI s).map (Value.int .u8) = Lib.strCells s := by unfold bI Lib.strCells; rw [List.map_map]; rfl
  exact ⟨he, by unfold Bd; rw [List.map_append, e2]; exact Or.inr h1, h2, h3⟩
theorem rune_cells (c : Int) (h : encC c ≠ []) : Lib.runeCells c = (encC c).map (Value.int .u8) := by
  unfold Lib.runeCells
  congr 1
  unfold Lib.encodeRuneZ encC
  have h1 := mt (encC_nil c).2 h
  rw [if_neg h1]
  by_cases a : c < 128
  · rw [if_pos a, if_pos (by omega)]
  rw [if_neg a, if_neg (by omega)]
  by_cases b : c < 2048
  · rw [if_pos b, if_pos (by omega)]
  rw [if_neg b, if_neg (by omega)]
  by_cases d : c < 65536
  · rw [if_pos d, if_pos (by omega)]
  rw [if_neg d, if_neg (by omega), if_pos (by omega)]
theorem wr_any (B : Nat) (out : List Int) (c : Int) (W : World) (h : Bd B out W) (hc : encC c ≠ []) (hl : out.length ≤ 1000000) : Calls Try.prog 24 #[bp B, .int .i32 c] W fun e W' => e = .returned (.tuple #[.int .i64 (encC c).length, .nilIface]) ∧ Bd B (out ++ encC c) W' ∧ Below B W W' ∧ OK B W W' := by
  have h1 := enc_pos hc
  refine (Any.Builder_WriteRune_k brL brLX B B _ c (by omega) (by omega) W h (by rw [List.length_map]; omega) (Nat.le_of_lt h.lt)).mono ?_
  rintro e W' ⟨he, h1, h2, h3⟩
  rw [rune_cells c hc] at he h1
  rw [List.length_map] at he
  exact ⟨he, by unfold Bd; rw [List.map_append]; exact Or.inr h1, h2, h3⟩
theorem st_any (B : Nat) (out : List Int) (W : World) (h : Bd B out W) (hb : ∀ b ∈ out, 0 ≤ b ∧ b < 256) : Calls Try.prog 17 #[bp B] W fun e W' => e = .returned (.string (str out)) ∧ Below B W W' := by
  have e2 : out.map (Value.int .u8) = Lib.byteCells (str out).data.toList := by
    unfold Lib.byteCells
    rw [str_list, List.map_map]
    apply List.map_congr_left
    intro b hm
    have := hb b hm
    simp only [Function.comp, UInt8.toNat_ofNat']
    congr 1
    omega
  have h' : Lib.IsBuilderF 37 5 B B (Lib.byteCells (str out).data.toList) W := by rw [← e2]; exact h
  refine (Any.Builder_String_any_k bsL bsLX B B _ W h' (Nat.le_of_lt h.lt)).mono ?_
  rintro e W' ⟨he, _, h2, _⟩
  exact ⟨he, h2⟩
/-! ### HasPrefix, CutPrefix -/
theorem hp_any (s p : ByteArray) (w : World) : Calls Try.prog 22 #[.string s, .string p] w fun e w' => e = .returned (.bool (Lib.hasPrefix s.data.toList p.data.toList)) ∧ w' = w := Any.strings_HasPrefix hpL s p w
theorem cp_any (s p : ByteArray) (w : World) : Calls Try.prog 35 #[.string s, .string p] w fun e w' => e = .returned (.tuple #[.string ⟨(Lib.trimPrefix s.data.toList p.data.toList).toArray⟩, .bool (Lib.hasPrefix s.data.toList p.data.toList)]) ∧ w' = w := Any.strings_CutPrefix cpL s p w
end Go.Proofs.Ytcpofeebfckmhaa
