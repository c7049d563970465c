/- Plain: where parts stand, a header with other sections, an archive glued and cut. No Go in sight. -/
import Derived.Test.YtkhlkjhfgfjadaaMV
namespace Go.Proofs.Ytkhlkjhfgfjadaa
set_option maxRecDepth 20000
set_option linter.unusedVariables false
set_option linter.unusedSimpArgs false
/-- Four sections. -/
structure Sc where
  rf : Int
  rl : Int
  mf : Int
  ml : Int
  lf : Int
  ll : Int
  df : Int
  dl : Int
deriving DecidableEq
def zeroSc : Sc := ⟨0, 0, 0, 0, 0, 0, 0, 0⟩
/-- Where parts stand: the sections, how many bytes in all, the error. -/
structure Pl where
  sec : Sc
  all : Int
  err : Int
def tooBig (a b c d : Int) : Prop := 1099511627776 < a ∨ 1099511627776 < b ∨ 1099511627776 < c ∨ 1099511627776 < d ∨ 1099511627776 < 127 + a + b + c + d
instance (a b c d : Int) : Decidable (tooBig a b c d) := by unfold tooBig; infer_instance
def secsN (a b c d : Int) : Pl := if tooBig a b c d then ⟨zeroSc, 0, 8⟩ else ⟨⟨127, a, 127 + a, b, 127 + a + b, c, 127 + a + b + c, d⟩, 127 + a + b + c + d, 0⟩
def withN (h : Hd) (s : Sc) : Hd := { h with rf := s.rf, rl := s.rl, mf := s.mf, ml := s.ml, lf := s.lf, ll := s.ll, df := s.df, dl := s.dl }
/-- Four parts. -/
structure Pt where
  p0 : ByteArray
  p1 : ByteArray
  p2 : ByteArray
  p3 : ByteArray
def noB : ByteArray := { data := #[] }
def zeroPt : Pt := ⟨noB, noB, noB, noB⟩
def secOf (p : Pt) : Pl := secsN p.p0.size p.p1.size p.p2.size p.p3.size
def glueN (h : Hd) (p : Pt) : ByteArray × Int :=
  if (secOf p).err ≠ 0 then (noB, (secOf p).err) else if (encH (withN h (secOf p).sec)).2 ≠ 0 then (noB, (encH (withN h (secOf p).sec)).2)
  else (str (encH (withN h (secOf p).sec)).1 ++ p.p0 ++ p.p1 ++ p.p2 ++ p.p3, 0)
structure Ct where
  h : Hd
  p : Pt
  err : Int
def outOf (h : Hd) (n : Int) : Prop := n < h.rf + h.rl ∨ n < h.mf + h.ml ∨ n < h.lf + h.ll ∨ n < h.df + h.dl
instance (h : Hd) (n : Int) : Decidable (outOf h n) := by unfold outOf; infer_instance
def bitN (t : ByteArray) (f l : Int) : ByteArray := t.extract f.toNat (f.toNat + l.toNat)
def cutN (t : ByteArray) : Ct :=
  if (decH (bl t)).2 ≠ 0 then ⟨zeroH, zeroPt, (decH (bl t)).2⟩ else if outOf (decH (bl t)).1 t.size then ⟨zeroH, zeroPt, 8⟩
  else ⟨(decH (bl t)).1, ⟨bitN t (decH (bl t)).1.rf (decH (bl t)).1.rl, bitN t (decH (bl t)).1.mf (decH (bl t)).1.ml, bitN t (decH (bl t)).1.lf (decH (bl t)).1.ll, bitN t (decH (bl t)).1.df (decH (bl t)).1.dl⟩, 0⟩
theorem withN_with (h : Hd) (s r : Sc) : withN (withN h s) r = withN h r := rfl
/-- What four sections are that a header may have. -/
def MayS (s : Sc) : Prop := U64 s.rf ∧ U64 s.rl ∧ U64 s.mf ∧ U64 s.ml ∧ U64 s.lf ∧ U64 s.ll ∧ U64 s.df ∧ U64 s.dl
end Go.Proofs.Ytkhlkjhfgfjadaa
