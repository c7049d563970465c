/- Contracts of the document's own take, Num, Bytes, Rest and End, and of own and Back: they answer as the program's do, for every scan and every number. -/
import Derived.Test.YtodjdeilaimjaaaF
namespace Go.Proofs.Ytodjdeilaimjaaa
open Go.RowKit
set_option linter.unusedVariables false
def wrongV (b : Bool) : Int := if b then 2 else 0
def takeBad (t : ByteArray) (p q n : Int) (b : Bool) : Int := firstOf [q, placedV t p, wrongV b, leftV t p n]
def TakeNo (t : ByteArray) (p r : Int) (w : World) (e : Ending) (w' : World) : Prop := e = .returned (.tuple #[.string { data := #[] }, .agg #[.string t, .int .i64 p, .int .i64 r]]) ∧ Below w.heap.size w w'
/-- Two blocks of three cells that the call laid read on behind a callee that only makes memory. -/
theorem kept2 {w w1 : World} {A B C D E F : Value} {T U : TypeId} (hb : Below ((w.alloc (.cells #[A, B, C] T)).alloc (.cells #[D, E, F] U)).heap.size ((w.alloc (.cells #[A, B, C] T)).alloc (.cells #[D, E, F] U)) w1) :
    w.heap.size + 2 ≤ w1.heap.size ∧ Below w.heap.size w w1 ∧
    w1.cell? ⟨w.heap.size, 0, none⟩ = some A ∧ w1.cell? ⟨w.heap.size, 1, none⟩ = some B ∧ w1.cell? ⟨w.heap.size, 2, none⟩ = some C ∧
    w1.cell? ⟨w.heap.size + 1, 0, none⟩ = some D ∧ w1.cell? ⟨w.heap.size + 1, 1, none⟩ = some E ∧ w1.cell? ⟨w.heap.size + 1, 2, none⟩ = some F ∧
    (∀ o, w1.frozen? ⟨w.heap.size, o, none⟩ = false) ∧ (∀ o, w1.frozen? ⟨w.heap.size + 1, o, none⟩ = false) := by
  have hz : ((w.alloc (.cells #[A, B, C] T)).alloc (.cells #[D, E, F] U)).heap.size = w.heap.size + 2 := by rw [World.size_alloc, World.size_alloc]
  have hs := hb.size
  rw [hz] at hs hb
  refine ⟨hs, Below.trans (by go_grown) (hb.mono (by omega)), ?_, ?_, ?_, ?_, ?_, ?_, ?_, ?_⟩
  · exact ((bcell hb).1 _ _ (by omega)).trans (by simp [go_sem])
  · exact ((bcell hb).1 _ _ (by omega)).trans (by simp [go_sem])
  · exact ((bcell hb).1 _ _ (by omega)).trans (by simp [go_sem])
  · exact ((bcell hb).1 _ _ (by omega)).trans (by simp [go_sem])
  · exact ((bcell hb).1 _ _ (by omega)).trans (by simp [go_sem])
  · exact ((bcell hb).1 _ _ (by omega)).trans (by simp [go_sem])
  · exact fun o => ((bcell hb).2 _ _ (by omega)).trans (by simp [go_sem])
  · exact fun o => ((bcell hb).2 _ _ (by omega)).trans (by simp [go_sem])
end Go.Proofs.Ytodjdeilaimjaaa
