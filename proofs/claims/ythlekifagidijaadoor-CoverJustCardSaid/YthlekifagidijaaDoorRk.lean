/- What a rectangle's intervals are, plain: the document's list is plain, and has just the identifiers of the rectangle's tiles; any plain list that has just these is that one; and it has as many as the rectangle has tiles. -/
import Derived.Test.YthlekifagidijaaDoorRx
namespace Go.Proofs.YthlekifagidijaaDoor
set_option linter.unusedVariables false
/-- An identifier of a tile of the rectangle. -/
def IdR (z x0 y0 x1 y1 d : Int) : Prop := ∃ X Y : Int, x0 ≤ X ∧ X ≤ x1 ∧ y0 ≤ Y ∧ Y ≤ y1 ∧ d = idD z X Y
theorem rect_pl (z x y : Int) (nx ny : Nat) : Pl (puts [] (rectS z x y nx ny)) := puts_pl _ _ pl_nil
theorem rect_mem (z x0 y0 x1 y1 : Int) (nx ny : Nat) (hx : x1 = x0 + nx - 1) (hy : y1 = y0 + ny - 1) (d : Int) : Mem (puts [] (rectS z x0 y0 nx ny)) d ↔ IdR z x0 y0 x1 y1 d := by
  rw [puts_mem _ _ pl_nil]
  constructor
  · rintro (h | ⟨s, hs, h1, h2⟩)
    · exact absurd h (mem_nil d)
    · obtain ⟨i, j, hi, hj, rfl⟩ := (rectS_mem _ _ _ _ _ _).1 hs
      dsimp only at h1 h2
      exact ⟨x0 + i, y0 + j, by omega, by omega, by omega, by omega, by omega⟩
  · rintro ⟨X, Y, a, b, c, e, rfl⟩
    refine .inr ⟨(idD z X Y, idD z X Y), (rectS_mem _ _ _ _ _ _).2 ⟨(X - x0).toNat, (Y - y0).toNat, by omega, by omega, ?_⟩, Int.le_refl _, Int.le_refl _⟩
    rw [show x0 + (((X - x0).toNat : Nat) : Int) = X from by omega, show y0 + (((Y - y0).toNat : Nat) : Int) = Y from by omega]
theorem rect_unique (z x0 y0 x1 y1 : Int) (nx ny : Nat) (hx : x1 = x0 + nx - 1) (hy : y1 = y0 + ny - 1) (l : List (Int × Int)) (hl : Pl l) (hm : ∀ d, Mem l d ↔ IdR z x0 y0 x1 y1 d) : l = puts [] (rectS z x0 y0 nx ny) :=
  pl_unique _ _ hl (rect_pl _ _ _ _ _) (fun d => (hm d).trans (rect_mem z x0 y0 x1 y1 nx ny hx hy d).symm)
/-- A plain list of a rectangle's identifiers has as many as the rectangle has tiles. -/
theorem rect_tot (k : Nat) (hk : k ≤ 26) (x0 y0 x1 y1 : Int) (h0 : 0 ≤ x0) (h1 : x0 ≤ x1) (h2 : x1 < p2 k) (g0 : 0 ≤ y0) (g1 : y0 ≤ y1) (g2 : y1 < p2 k) (l : List (Int × Int)) (hl : Pl l) (hm : ∀ d, Mem l d ↔ IdR k x0 y0 x1 y1 d) : tot l = (x1 - x0 + 1) * (y1 - y0 + 1) := by
  have hid : ∀ X Y : Int, x0 ≤ X → X ≤ x1 → y0 ≤ Y → Y ≤ y1 → In k X Y := fun X Y a b c e => ⟨by omega, by omega, by omega, by omega⟩
  have hin : ∀ d, Mem l d → bas k ≤ d ∧ d < bas k + p4 k := fun d hd => by
    obtain ⟨X, Y, a, b, c, e, rfl⟩ := (hm d).1 hd
    have hi := hid X Y a b c e
    rw [id_of k hk X Y hi]
    have := hpl_bd k X Y hi
    omega
  have hp := p4_pos k
  have hn := p4n k
  rw [← area_in k x0 x1 y0 y1 h0 h1 h2 g0 g1 g2, ← tot_sum l (bas k) (p4 k).toNat hl (fun s hs => by
    have hs0 := hl.1 s hs
    have a := hin s.1 ⟨s, hs, Int.le_refl _, hs0⟩
    have b := hin s.2 ⟨s, hs, hs0, Int.le_refl _⟩
    omega)]
  refine sum_congr _ _ _ (fun i hi => ?_)
  show memI l (bas k + i) = inR x0 x1 y0 y1 (hptX k i)
  by_cases hmi : Mem l (bas k + i)
  · rw [memI_yes l _ hmi]
    obtain ⟨X, Y, a, b, c, e, hd⟩ := (hm _).1 hmi
    have hI := hid X Y a b c e
    rw [id_of k hk X Y hI] at hd
    rw [show (i : Int) = hpl k X Y from by omega, hpt_hpl k X Y hI]
    exact (if_pos ⟨a, b, c, e⟩).symm
  · rw [memI_no l _ hmi]
    refine (if_neg (fun h => hmi ?_)).symm
    obtain ⟨a, b, c, e⟩ := h
    have hI := hpt_in k i (by omega) (by omega)
    refine (hm _).2 ⟨(hptX k i).1, (hptX k i).2, a, b, c, e, ?_⟩
    rw [id_of k hk _ _ hI, hpl_hpt k i (by omega) (by omega)]
end Go.Proofs.YthlekifagidijaaDoor
