/- Zl. -/
import Derived.Test.YtdnmgpcfgcidbaaGreatDoorTZ5
namespace Go.Proofs.YtdnmgpcfgcidbaaGreatDoor
set_option linter.unusedVariables false
set_option linter.unusedSimpArgs false
open Go.ChangeShapes Go.WideShapes Go.ChangeAt Go.RowKit Go.Joins Go.Deep
set_option maxRecDepth 100000
theorem cells_plan:Tryz.prog.cellsOf 24=3:=by kernel_rfl
theorem plan_trod {H:Type} {enc:TypeId × Value→H} {W:World} {base n:Nat} {spare:Nat→Bool} {held:Bool} {cs:List Value} {z:DataW H × List MemPlace}
  (h:DataW.trod enc Tryz.prog W base spare held n 24 cs=some z):∃ e:Int × Int × ByteArray,cs=[.int .i64 e.1,.int .u8 e.2.1,.string e.2.2]∧PlanIn e:=by
 have cu:Tryz.prog.cellsOf 3=1:=by kernel_rfl
 have cb:Tryz.prog.cellsOf 5=1:=by kernel_rfl
 have cw:Tryz.prog.cellsOf 9=1:=by kernel_rfl
 obtain⟨xs,k,_,_,hl,hxl,hfs⟩:=DataW.trod_struct Tryz.underlying24 h
 rw[cells_plan] at hl
 match cs,hl,xs,hxl,hfs with
 | [x0,x1,x2],_,[y0,y1,y2],_,hfs =>
  have g0:=hfs 0 _ rfl
  have g1:=hfs 1 _ rfl
  have g2:=hfs 2 _ rfl
  simp[cu,cb,cw] at g0 g1 g2
  obtain⟨a0,e0,_,w0⟩:=DataW.trod_int Tryz.underlying3 g0
  obtain⟨a1,e1,_,w1⟩:=DataW.trod_int Tryz.underlying5 g1
  obtain⟨a2,e2,_,w2⟩:=DataW.trod_string Tryz.underlying9 g2
  simp at e0 e1 e2
  subst e0 e1 e2
  have h0:=bounds_i64 w0
  have h1:=bounds_u8 w1
  exact⟨⟨a0,a1,a2⟩,rfl,⟨by simp only;omega,by unfold U8;simp only;omega,w2⟩⟩
theorem plan_opened {H:Type} {enc:TypeId × Value→H} {W:World} {base b0:Nat} {r:Reach} {spare:Nat→Bool} {held:Bool} {v:Value} {d:DataW H} {p:List MemPlace}
  (hv:Value.okWide Tryz.prog W r b0 24 v) (h:DataW.Trod enc Tryz.prog W base spare held 24 v d p) :
  ∃ e:Int × Int × ByteArray,v=.agg #[.int .i64 e.1,.int .u8 e.2.1,.string e.2.2]∧PlanIn e:=by
 obtain⟨cs,rfl,hsz⟩:=okWide_struct Tryz.underlying24 hv
 obtain⟨fuel,hf⟩:=h
 obtain⟨e,he,hm⟩:=plan_trod hf
 refine⟨e,?_,hm⟩
 obtain⟨l⟩:=cs
 have he':l=[.int .i64 e.1,.int .u8 e.2.1,.string e.2.2]:=he
 rw[he']
end Go.Proofs.YtdnmgpcfgcidbaaGreatDoor
