/- Several texts, one behind the other: Hv. -/
import Derived.Test.YtkhlkjhfgfjadaaMS
import Derived.Test.YtkhlkjhfgfjadaaMG
import Derived.Laws.StructEq
/- Two headers compared. -/
namespace Go.Proofs.Ytkhlkjhfgfjadaa
open Go.RowKit
set_option maxRecDepth 20000
set_option linter.unusedVariables false
set_option linter.unusedSimpArgs false
theorem eq_sec (a b c d : Int) (w : World) (n : Nat) : (Op.equalIn (n + 2) 29 (.agg #[.int .u64 a, .int .u64 b]) (.agg #[.int .u64 c, .int .u64 d])).run Try.prog w = .ok (a == c && b == d) w := by
  have hS : Try.prog.underlying 29 = some (.struct (Try.prog.fieldsOf 29)) := by kernel_rfl
  rw [run_equalIn_agg w (n + 1) 29 _ _ hS (by kernel_rfl)]
  simp only [Program.fieldsOf, Try.underlying29]
  go_simp
  by_cases h1 : a = c <;> by_cases h2 : b = d <;> simp [h1, h2]
instance : DecidableEq Hd := fun a b => decidable_of_iff _ (Hd.eq_iff a b).symm
set_option maxRecDepth 100000 in
theorem eq_head (a b : Hd) (w : World) : (Op.equalIn 10000 38 (.agg (cH a)) (.agg (cH b))).run Try.prog w = .ok (decide (a = b)) w := by
  have hS : Try.prog.underlying 38 = some (.struct (Try.prog.fieldsOf 38)) := by kernel_rfl
  rw [show (10000 : Nat) = 9999 + 1 from rfl, run_equalIn_agg w 9999 38 _ _ hS (by kernel_rfl)]
  simp only [Program.fieldsOf, Try.underlying38]
  unfold cH
  have hs := fun a b c d w => eq_sec a b c d w 9997
  go_simp
  by_cases h : a = b
  · subst h; simp
  · rw [decide_eq_false h]
    clear hs hS
    by_cases g0 : a.rf = b.rf
    case neg => simp only [g0]; simp
    by_cases g1 : a.rl = b.rl
    case neg => simp only [g0, g1]; simp
    by_cases g2 : a.mf = b.mf
    case neg => simp only [g0, g1, g2]; simp
    by_cases g3 : a.ml = b.ml
    case neg => simp only [g0, g1, g2, g3]; simp
    by_cases g4 : a.lf = b.lf
    case neg => simp only [g0, g1, g2, g3, g4]; simp
    by_cases g5 : a.ll = b.ll
    case neg => simp only [g0, g1, g2, g3, g4, g5]; simp
    by_cases g6 : a.df = b.df
    case neg => simp only [g0, g1, g2, g3, g4, g5, g6]; simp
    by_cases g7 : a.dl = b.dl
    case neg => simp only [g0, g1, g2, g3, g4, g5, g6, g7]; simp
    by_cases g8 : a.ad = b.ad
    case neg => simp only [g0, g1, g2, g3, g4, g5, g6, g7, g8]; simp
    by_cases g9 : a.en = b.en
    case neg => simp only [g0, g1, g2, g3, g4, g5, g6, g7, g8, g9]; simp
    by_cases g10 : a.co = b.co
    case neg => simp only [g0, g1, g2, g3, g4, g5, g6, g7, g8, g9, g10]; simp
    by_cases g11 : a.cl = b.cl
    case neg => simp only [g0, g1, g2, g3, g4, g5, g6, g7, g8, g9, g10, g11]; simp
    by_cases g12 : a.inn = b.inn
    case neg => simp only [g0, g1, g2, g3, g4, g5, g6, g7, g8, g9, g10, g11, g12]; simp
    by_cases g13 : a.out = b.out
    case neg => simp only [g0, g1, g2, g3, g4, g5, g6, g7, g8, g9, g10, g11, g12, g13]; simp
    by_cases g14 : a.knd = b.knd
    case neg => simp only [g0, g1, g2, g3, g4, g5, g6, g7, g8, g9, g10, g11, g12, g13, g14]; simp
    by_cases g15 : a.z0 = b.z0
    case neg => simp only [g0, g1, g2, g3, g4, g5, g6, g7, g8, g9, g10, g11, g12, g13, g14, g15]; simp
    by_cases g16 : a.z1 = b.z1
    case neg => simp only [g0, g1, g2, g3, g4, g5, g6, g7, g8, g9, g10, g11, g12, g13, g14, g15, g16]; simp
    by_cases g17 : a.lo0 = b.lo0
    case neg => simp only [g0, g1, g2, g3, g4, g5, g6, g7, g8, g9, g10, g11, g12, g13, g14, g15, g16, g17]; simp
    by_cases g18 : a.la0 = b.la0
    case neg => simp only [g0, g1, g2, g3, g4, g5, g6, g7, g8, g9, g10, g11, g12, g13, g14, g15, g16, g17, g18]; simp
    by_cases g19 : a.lo1 = b.lo1
    case neg => simp only [g0, g1, g2, g3, g4, g5, g6, g7, g8, g9, g10, g11, g12, g13, g14, g15, g16, g17, g18, g19]; simp
    by_cases g20 : a.la1 = b.la1
    case neg => simp only [g0, g1, g2, g3, g4, g5, g6, g7, g8, g9, g10, g11, g12, g13, g14, g15, g16, g17, g18, g19, g20]; simp
    by_cases g21 : a.zm = b.zm
    case neg => simp only [g0, g1, g2, g3, g4, g5, g6, g7, g8, g9, g10, g11, g12, g13, g14, g15, g16, g17, g18, g19, g20, g21]; simp
    by_cases g22 : a.lon = b.lon
    case neg => simp only [g0, g1, g2, g3, g4, g5, g6, g7, g8, g9, g10, g11, g12, g13, g14, g15, g16, g17, g18, g19, g20, g21, g22]; simp
    by_cases g23 : a.lat = b.lat
    case neg => simp only [g0, g1, g2, g3, g4, g5, g6, g7, g8, g9, g10, g11, g12, g13, g14, g15, g16, g17, g18, g19, g20, g21, g22, g23]; simp
    exact absurd ((Hd.eq_iff a b).2 ⟨g0, g1, g2, g3, g4, g5, g6, g7, g8, g9, g10, g11, g12, g13, g14, g15, g16, g17, g18, g19, g20, g21, g22, g23⟩) h
/-- The header of the layer's small example. -/
def hA : Hd := { zeroH with knd := 2, z1 := 3, lo0 := -1 }
theorem encA : (encH hA).2 = 0 := by decide
theorem encA1 : (encH hA).1 = bytsH hA := by decide
theorem mayA : MayH hA := by simp [MayH, U64, U8, hA, zeroH]
theorem ckA : ckH hA = 0 := by decide
theorem laidA : laidB hA 0 = 10 := by decide
theorem bl_str (l : List Int) (h : Byts l) : bl (str l) = l := by
  unfold bl
  rw [str_list, List.map_map]
  conv => rhs; rw [← List.map_id l]
  apply List.map_congr_left
  intro c hc
  have := h c hc
  simp only [Function.comp, id]
  rw [UInt8.toNat_ofNat', Nat.mod_eq_of_lt (by omega)]
  omega
theorem bl_append (s t : ByteArray) : bl (s ++ t) = bl s ++ bl t := by
  unfold bl
  rw [ByteArray.data_append, Array.toList_append, List.map_append]
end Go.Proofs.Ytkhlkjhfgfjadaa
