/- What layer 4 tells of tiles and identifiers, plain: an identifier (idD), a zoom (zofV), a tile (ofZ, ofX, ofY, ofE), what is over a tile (upE, ovB), the identifiers of a zoom that lie in a tile (rgE, rgF, rgT). -/
import Derived.Test.YthlekifagidijaaDoorF
import Derived.Test.YthlekifagidijaaDoorT
namespace Go.Proofs.YthlekifagidijaaDoor
open Go.RowKit
set_option linter.unusedVariables false
theorem bas_top (k : Nat) (h : k ≤ 27) : bas k ≤ 6004799503160661 := by
  have := bas_mono k 27 h
  rw [bas_all] at this
  exact this
theorem bas_succ (k : Nat) : bas (k + 1) = bas k + p4 k := rfl
def baD (z : Int) : Int := if 0 ≤ z ∧ z ≤ 27 then bas z.toNat else 0
def baE (z : Int) : Int := if 0 ≤ z ∧ z ≤ 27 then 0 else 2
/-- An identifier; 0 where there is none. -/
def idD (z x y : Int) : Int := if plE z x y = 0 then bas z.toNat + plD z x y else 0
theorem id_in (z x y : Int) (h : plE z x y = 0) : Zoom z ∧ In z.toNat x y ∧ idD z x y = bas z.toNat + hpl z.toNat x y ∧ bas z.toNat ≤ idD z x y ∧ idD z x y < bas (z.toNat + 1) ∧ 0 ≤ idD z x y ∧ idD z x y < 6004799503160661 := by
  obtain ⟨hz, hi, e, b0, b1⟩ := pl_in z x y h
  have e1 : idD z x y = bas z.toNat + plD z x y := if_pos h
  have hn := bas_nn z.toNat
  have ht := bas_top (z.toNat + 1) (by unfold Zoom at hz; omega)
  have hs := bas_succ z.toNat
  refine ⟨hz, hi, by rw [e1, e], by omega, by omega, by omega, by omega⟩
theorem id_no (z x y : Int) (h : plE z x y ≠ 0) : idD z x y = 0 := if_neg h
theorem pl_of (k : Nat) (hk : k ≤ 26) (x y : Int) (h : In k x y) : plE k x y = 0 ∧ plD k x y = hpl k x y := by
  have hz : Zoom k := by unfold Zoom; omega
  have hs := sideV_in k hz
  rw [toN] at hs
  have h' : 0 ≤ x ∧ x < sideV k ∧ 0 ≤ y ∧ y < sideV k := by rw [hs]; exact h
  refine ⟨by unfold plE; rw [if_pos hz, if_pos h'], ?_⟩
  unfold plD
  rw [if_pos ⟨hz, h'⟩, toN]
theorem id_of (k : Nat) (hk : k ≤ 26) (x y : Int) (h : In k x y) : idD k x y = bas k + hpl k x y := by
  obtain ⟨e, d⟩ := pl_of k hk x y h
  unfold idD
  rw [if_pos e, d, toN]
/-- The zoom of an identifier. -/
def zofV (d : Int) : Int := zof 27 d
theorem zof_yes (d : Int) (h0 : 0 ≤ d) (h1 : d < 6004799503160661) : ∃ k : Nat, k ≤ 26 ∧ bas k ≤ d ∧ d < bas k + p4 k ∧ zofV d = k := by
  obtain ⟨k, a, b, c, e⟩ := zof_ex 27 d h0 (by rw [bas_all]; exact h1)
  exact ⟨k, by omega, b, by rw [← bas_succ]; exact c, e⟩
theorem zofV_no (d : Int) (h : ¬ d < 6004799503160661) : zofV d = -1 := zof_no 27 d (by rw [bas_all]; omega)
theorem zofV_at (k : Nat) (d : Int) (hk : k ≤ 26) (h0 : bas k ≤ d) (h1 : d < bas k + p4 k) : zofV d = k := zof_at 27 k d (by omega) h0 (by rw [bas_succ]; exact h1)
/-- The tile of an identifier. -/
def ofZ (d : Int) : Int := if d < 6004799503160661 then zofV d else 0
def ofX (d : Int) : Int := if d < 6004799503160661 then (hptX (zofV d).toNat (d - bas (zofV d).toNat)).1 else 0
def ofY (d : Int) : Int := if d < 6004799503160661 then (hptX (zofV d).toNat (d - bas (zofV d).toNat)).2 else 0
def ofE (d : Int) : Int := if d < 6004799503160661 then 0 else 8
theorem of_no (d : Int) (h : ¬ d < 6004799503160661) : ofZ d = 0 ∧ ofX d = 0 ∧ ofY d = 0 ∧ ofE d = 8 := ⟨if_neg h, if_neg h, if_neg h, if_neg h⟩
theorem of_at (k : Nat) (d : Int) (hk : k ≤ 26) (h0 : bas k ≤ d) (h1 : d < bas k + p4 k) : ofZ d = k ∧ ofX d = (hptX k (d - bas k)).1 ∧ ofY d = (hptX k (d - bas k)).2 ∧ ofE d = 0 := by
  have hz := zofV_at k d hk h0 h1
  have ht := bas_top (k + 1) (by omega)
  rw [bas_succ] at ht
  have hd : d < 6004799503160661 := by omega
  unfold ofZ ofX ofY ofE
  rw [if_pos hd, if_pos hd, if_pos hd, if_pos hd, hz, toN]
  exact ⟨rfl, rfl, rfl, rfl⟩
/-- A tile and its identifier tell each other. -/
theorem of_id (z x y : Int) (h : plE z x y = 0) : ofZ (idD z x y) = z ∧ ofX (idD z x y) = x ∧ ofY (idD z x y) = y ∧ ofE (idD z x y) = 0 ∧ zofV (idD z x y) = z := by
  obtain ⟨hz, hi, e, b0, b1, _⟩ := id_in z x y h
  obtain ⟨k, hk, rfl⟩ := zoom_nat z hz
  rw [toN] at hi e b0 b1
  have hb := hpl_bd k x y hi
  obtain ⟨o1, o2, o3, o4⟩ := of_at k (idD k x y) hk b0 (by rw [bas_succ] at b1; exact b1)
  rw [e, show bas k + hpl k x y - bas k = hpl k x y from by omega, hpt_hpl k x y hi] at o2 o3
  rw [← e] at o2 o3
  exact ⟨o1, o2, o3, o4, zofV_at k _ hk b0 (by rw [bas_succ] at b1; exact b1)⟩
theorem id_ofV (d : Int) (h0 : 0 ≤ d) (h1 : d < 6004799503160661) : plE (ofZ d) (ofX d) (ofY d) = 0 ∧ idD (ofZ d) (ofX d) (ofY d) = d := by
  obtain ⟨k, hk, a, b, c⟩ := zof_yes d h0 h1
  obtain ⟨o1, o2, o3, o4⟩ := of_at k d hk a b
  rw [o1, o2, o3]
  have hi := hpt_in k (d - bas k) (by omega) (by omega)
  refine ⟨(pl_of k hk _ _ hi).1, ?_⟩
  rw [id_of k hk _ _ hi, hpl_hpt k _ (by omega) (by omega)]
  omega
theorem id_inj (z x y u a b : Int) (h : plE z x y = 0) (g : plE u a b = 0) (e : idD z x y = idD u a b) : z = u ∧ x = a ∧ y = b := by
  obtain ⟨o1, o2, o3, _⟩ := of_id z x y h
  obtain ⟨q1, q2, q3, _⟩ := of_id u a b g
  rw [e] at o1 o2 o3
  omega
theorem id_less (z x y u a b : Int) (h : plE z x y = 0) (g : plE u a b = 0) (hz : z < u) : idD z x y < idD u a b := by
  obtain ⟨h1, _, _, _, h4, _⟩ := id_in z x y h
  obtain ⟨g1, _, _, g3, _⟩ := id_in u a b g
  unfold Zoom at h1 g1
  have := bas_mono (z.toNat + 1) u.toNat (by omega)
  omega
/-- The tile that a tile lies in. -/
def upE (z x y : Int) : Int := if plE z x y = 0 then (if z = 0 then 6 else 0) else plE z x y
def upZ (z x y : Int) : Int := if upE z x y = 0 then z - 1 else 0
def upX (z x y : Int) : Int := if upE z x y = 0 then x / 2 else 0
def upY (z x y : Int) : Int := if upE z x y = 0 then y / 2 else 0
/-- Whether a tile lies in another one. -/
def Over (z x y u a b : Int) : Prop := plE z x y = 0 ∧ plE u a b = 0 ∧ z ≤ u ∧ a / p2 (u - z).toNat = x ∧ b / p2 (u - z).toNat = y
instance (z x y u a b : Int) : Decidable (Over z x y u a b) := by unfold Over; infer_instance
def ovB (z x y u a b : Int) : Bool := decide (Over z x y u a b)
/-- The identifiers of a zoom that lie in a tile. -/
def rgE (z x y u : Int) : Int := if plE z x y = 0 then (if u < z ∨ 26 < u then 8 else 0) else plE z x y
def rgF (z x y u : Int) : Int := if rgE z x y u = 0 then bas u.toNat + plD z x y * p4 (u - z).toNat else 0
def rgT (z x y u : Int) : Int := if rgE z x y u = 0 then bas u.toNat + plD z x y * p4 (u - z).toNat + p4 (u - z).toNat - 1 else 0
theorem rg_in (z x y u : Int) (h : rgE z x y u = 0) : ∃ k n : Nat, k + n ≤ 26 ∧ z = k ∧ u = (k + n : Nat) ∧ In k x y ∧ plE z x y = 0 ∧ rgF z x y u = bas (k + n) + hpl k x y * p4 n ∧ rgT z x y u = bas (k + n) + hpl k x y * p4 n + p4 n - 1 ∧ 0 ≤ hpl k x y ∧ hpl k x y * p4 n + p4 n ≤ p4 (k + n) := by
  unfold rgE at h
  have hp : plE z x y = 0 := by
    split at h
    · assumption
    · exact h
  rw [if_pos hp] at h
  have hu : z ≤ u ∧ u ≤ 26 := by
    split at h
    · omega
    · omega
  obtain ⟨hz, hi, e, b0, b1⟩ := pl_in z x y hp
  obtain ⟨k, hk, rfl⟩ := zoom_nat z hz
  obtain ⟨n, rfl⟩ : ∃ n : Nat, u = (k + n : Nat) := ⟨(u - k).toNat, by omega⟩
  rw [toN] at hi e b1
  have hrg : rgE k x y (k + n : Nat) = 0 := by unfold rgE; rw [if_pos hp, if_neg (by omega)]
  have hn : (((k + n : Nat) : Int) - k).toNat = n := by omega
  refine ⟨k, n, by omega, rfl, rfl, hi, hp, ?_, ?_, by omega, ?_⟩
  · unfold rgF; rw [if_pos hrg, hn, toN, e]
  · unfold rgT; rw [if_pos hrg, hn, toN, e]
  · rw [p4_add]
    have := Int.mul_le_mul_of_nonneg_right (show hpl k x y + 1 ≤ p4 k by omega) (show 0 ≤ p4 n by have := p4_pos n; omega)
    rw [Int.add_mul] at this
    omega
/-- Whether a tile of the zoom lies in the tile, by its identifier. -/
theorem over_rg (z x y u a b : Int) (h : rgE z x y u = 0) (g : plE u a b = 0) : Over z x y u a b ↔ (rgF z x y u ≤ idD u a b ∧ idD u a b ≤ rgT z x y u) := by
  obtain ⟨k, n, hk, rfl, rfl, hi, hp, hf, ht, h0, h1⟩ := rg_in z x y u h
  obtain ⟨g1, g2, g3, _⟩ := id_in _ _ _ g
  rw [toN] at g2 g3
  rw [hf, ht, g3]
  have := over_iff k n x y a b hi g2
  unfold Over
  rw [show (((k + n : Nat) : Int) - (k : Nat)).toNat = n from by omega]
  constructor
  · rintro ⟨_, _, _, h4, h5⟩
    have := this.1 ⟨h4, h5⟩
    omega
  · rintro ⟨h4, h5⟩
    have := this.2 ⟨by omega, by omega⟩
    exact ⟨hp, g, by omega, this.1, this.2⟩
end Go.Proofs.YthlekifagidijaaDoor
