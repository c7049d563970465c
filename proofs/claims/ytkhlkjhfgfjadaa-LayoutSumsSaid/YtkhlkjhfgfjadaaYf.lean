/- The document's Cut. -/
import Derived.Test.YtkhlkjhfgfjadaaYe
namespace Go.Proofs.Ytkhlkjhfgfjadaa
open Go.RowKit
set_option maxRecDepth 100000
set_option linter.unusedVariables false
set_option linter.unusedSimpArgs false
def bitK (t : ByteArray) (h : Hd) (k : Nat) : ByteArray := bitN t (frK h k) (lnK h k)
def prA (t : ByteArray) (h : Hd) (k : Nat) : Array Value := #[.string (if 0 < k then bitK t h 0 else noB), .string (if 1 < k then bitK t h 1 else noB), .string (if 2 < k then bitK t h 2 else noB), .string (if 3 < k then bitK t h 3 else noB)]
theorem prA_set (t : ByteArray) (h : Hd) (k : Nat) (hk : k < 4) : (prA t h k).setIfInBounds k (.string (bitK t h k)) = prA t h (k + 1) := by
  rcases (by omega : k = 0 ∨ k = 1 ∨ k = 2 ∨ k = 3) with rfl | rfl | rfl | rfl <;> simp [prA]
theorem prA_at (t : ByteArray) (h : Hd) (k : Nat) (hk : k < 4) : (prA t h k)[k]? = some (.string noB) := by
  rcases (by omega : k = 0 ∨ k = 1 ∨ k = 2 ∨ k = 3) with rfl | rfl | rfl | rfl <;> simp [prA]
theorem out_of {h : Hd} {n : Int} {k : Nat} (hk : k < 4) (ho : n < frK h k + lnK h k) : outOf h n := by
  unfold outOf
  rcases (by omega : k = 0 ∨ k = 1 ∨ k = 2 ∨ k = 3) with rfl | rfl | rfl | rfl <;> simp [frK, lnK] at ho <;> omega
theorem not_out {h : Hd} {n : Int} (ha : ∀ j, j < 4 → ¬ n < frK h j + lnK h j) : ¬ outOf h n := by
  unfold outOf
  have h0 := ha 0 (by omega)
  have h1 := ha 1 (by omega)
  have h2 := ha 2 (by omega)
  have h3 := ha 3 (by omega)
  simp [frK, lnK] at h0 h1 h2 h3
  omega
/-- Two rows and a number as results. -/
theorem results_rr {fn : Func} {p q r : Tmp} {ty ty2 : TypeId} (h : fn.results = #[.cell p ty, .cell q ty2, .tmp r]) (tmps : Array Value) (w : World) (g g2 : Nat) (cs cs2 : Array Value) (v : Value)
    (hp : tmps.getD p undef = .pointer (some ⟨g, 0, none⟩)) (hq : tmps.getD q undef = .pointer (some ⟨g2, 0, none⟩)) (hr : tmps.getD r undef = v)
    (hl : (loadVar ty ⟨g, 0, none⟩).run Try.prog w = .ok (.agg cs) w) (hl2 : (loadVar ty2 ⟨g2, 0, none⟩).run Try.prog w = .ok (.agg cs2) w) :
    (results fn tmps).run Try.prog w = .ok (.tuple #[.agg cs, .agg cs2, v]) w := by
  have hp' : tmps[p]?.getD undef = .pointer (some ⟨g, 0, none⟩) := by simpa using hp
  have hq' : tmps[q]?.getD undef = .pointer (some ⟨g2, 0, none⟩) := by simpa using hq
  have hr' : tmps[r]?.getD undef = v := by simpa using hr
  simp [results, h, hp', hq', hr', asAddr, hl, hl2]
theorem str4_size : (Try.prog.info? 44).map (·.size) = some 4 := by kernel_rfl
def CutEnd (C : Ct) (w : World) (e : Ending) (w' : World) : Prop := e = .returned (.tuple #[.agg (cH C.h), .agg (pArr C.p), .int .i64 C.err]) ∧ Below w.heap.size w w'
theorem load_hd {w : World} {g : Nat} {T : TypeId} {h : Hd} (H : HAt w g T h) : (loadVar 27 ⟨g, 0, none⟩).run Try.prog w = .ok (.agg (cH h)) w := run_loadVar_row w g T _ (cH h) (0, 0) _ H Try.underlying27 rfl rhead_size
theorem load_pt {w : World} {g : Nat} {T : TypeId} {a b c d : ByteArray} (H : w.heap[g]? = some (.cells #[.string a, .string b, .string c, .string d] T (0, 0))) : (loadVar 44 ⟨g, 0, none⟩).run Try.prog w = .ok (.agg #[.string a, .string b, .string c, .string d]) w := run_loadVar_row w g T _ _ (0, 0) _ H Try.underlying44 rfl str4_size
/-- Where decoding fails. -/
theorem cut_bad {t : ByteArray} (h : (decH (bl t)).2 ≠ 0) : cutN t = ⟨zeroH, zeroPt, (decH (bl t)).2⟩ := by unfold cutN; rw [if_pos h]
theorem cut_out {t : ByteArray} {X : Hd} (h : decH (bl t) = (X, 0)) (ho : outOf X t.size) : cutN t = ⟨zeroH, zeroPt, 8⟩ := by unfold cutN; rw [h, if_neg (by simp), if_pos ho]
theorem cut_ok {t : ByteArray} {X : Hd} (h : decH (bl t) = (X, 0)) (ho : ¬ outOf X t.size) : cutN t = ⟨X, ⟨bitK t X 0, bitK t X 1, bitK t X 2, bitK t X 3⟩, 0⟩ := by unfold cutN; rw [h, if_neg (by simp), if_neg ho]; rfl
end Go.Proofs.Ytkhlkjhfgfjadaa
