/- bMA bMC. -/
import Derived.Test.YtjinnigjfopbcaaGreatDoorJs
import Derived.Test.YtjinnigjfopbcaaGreatDoorJb1
set_option maxHeartbeats 16000000
namespace Go.Proofs.YtjinnigjfopbcaaGreatDoor
set_option linter.unusedVariables false
set_option linter.unusedSimpArgs false
open Go.RowKit
set_option maxRecDepth 20000
def sgn (x n:Int):Int:=if x % 2 ^ (8*n).toNat<2 ^ (8*n - 1).toNat then x % 2 ^ (8*n).toNat else x % 2 ^ (8*n).toNat - 2 ^ (8*n).toNat
theorem xve {n:Int} (h0:1≤n) (h1:n≤8):n=1∨n=2∨n=3∨n=4∨n=5∨n=6∨n=7∨n=8:=by omega
theorem wrap_u64 (n:Int):IntKind.u64.wrap n=n % 18446744073709551616:=by
 simp only[IntKind.wrap,IntKind.bits,IntKind.signed,Bool.false_and,Int.reducePow];simp
theorem xgS (x n:Int) (h0:1≤n) (h1:n≤8) :
  wrap64 (IntKind.u64.wrap (x*2 ^ (8*(8 - n)).toNat)) / 2 ^ (8*(8 - n)).toNat=sgn x n:=by
 unfold sgn
 rw[wrap_u64]
 unfold wrap64
 rcases xve h0 h1 with rfl|rfl|rfl|rfl|rfl|rfl|rfl|rfl <;> simp only[Int.reduceMul,Int.reduceSub,Int.reduceToNat,Int.reducePow,Int.mul_one] <;> split <;> omega
theorem xjj (n:Int) (w:World) (h0:1≤n) (h1:n≤8):Calls Tryz.prog 296 #[.int .i64 n] w fun e w'=>e=.returned (.bool true)∧w=w':=by
 go_enter Tryz.func296,Tryz.ntmps296
 go_wp2
 go_ret
 exact⟨rfl,rfl⟩
theorem xsc (n:Int) (w:World) (h:n<1∨8<n):Calls Tryz.prog 296 #[.int .i64 n] w fun e w'=>e=.returned (.bool false)∧w=w':=by
 rcases h with h|h
 ·go_enter Tryz.func296,Tryz.ntmps296
  go_wp2
  go_ret
  exact⟨rfl,rfl⟩
 ·have h1:1≤n:=by omega
  have h2:decide (n≤8)=false:=by simp;omega
  go_enter Tryz.func296,Tryz.ntmps296
  go_wp2
  go_ret
  exact⟨rfl,rfl⟩
theorem xl2 (x n:Int) (w:World) (h0:1≤n) (h1:n≤8):Calls Tryz.prog 297 #[.int .u64 x,.int .i64 n] w fun e w'=>e=.returned (.tuple #[.int .i64 (sgn x n),.int .i64 0])∧w=w':=by
 go_enter Tryz.func297,Tryz.ntmps297
 go_wp2_with (go_at_call 296;refine(xjj _ _ (by omega) (by omega)).mono ?_;rintro e w' ⟨rfl,rfl⟩)
 go_ret2
 exact⟨xxf (xgS x n h0 h1) rfl,rfl⟩
theorem xrG (t:ByteArray) (p b:Int) (w:World):Calls Tryz.prog 199 #[.agg #[.string t,.int .i64 p,.int .i64 b]] w fun e w'=>e=.returned (.int .i64 b)∧Below w.heap.size w w':=by
 go_enter Tryz.func199,Tryz.ntmps199
 go_wp2
 go_ret
 exact⟨rfl,(Below.refl _ _).alloc (Nat.le_refl _) _⟩
theorem xld (t:ByteArray) (p b:Int) (w:World) (h0:0≤p) (h1:p≤t.size):Calls Tryz.prog 200 #[.agg #[.string t,.int .i64 p,.int .i64 b]] w fun e w'=>e=.returned (.int .i64 0)∧Below w.heap.size w w':=by
 go_enter Tryz.func200,Tryz.ntmps200
 go_wp2
 go_ret
 exact⟨rfl,(Below.refl _ _).alloc (Nat.le_refl _) _⟩
theorem xmX (t:ByteArray) (p b:Int) (w:World) (h:p<0∨t.size<p):Calls Tryz.prog 200 #[.agg #[.string t,.int .i64 p,.int .i64 b]] w fun e w'=>e=.returned (.int .i64 2)∧Below w.heap.size w w':=by
 rcases h with h|h
 ·go_enter Tryz.func200,Tryz.ntmps200
  go_wp2
  go_ret
  exact⟨rfl,(Below.refl _ _).alloc (Nat.le_refl _) _⟩
 ·have h0:¬ p<0:=by omega
  go_enter Tryz.func200,Tryz.ntmps200
  go_wp2
  go_ret
  exact⟨rfl,(Below.refl _ _).alloc (Nat.le_refl _) _⟩
def xaH:List Int→Int
 | []=>0
 | r :: t=>if r=0 then xaH t else r
def xwD (rs:List Int) (k:Nat):Prop:=xaH (rs.drop k)=xaH rs
theorem xiu (rs:List Int) (k:Nat) (h:k<rs.length) (hz:rs.getD k 0=0):xaH (rs.drop (k+1))=xaH (rs.drop k):=by
 rw[List.drop_eq_getElem_cons h]
 have:rs[k]=0:=by simpa[h] using hz
 simp[xaH,this]
theorem xjr (rs:List Int) (k:Nat) (h:k<rs.length) (hz:rs.getD k 0≠0):rs.getD k 0=xaH (rs.drop k):=by
 rw[List.drop_eq_getElem_cons h]
 have e:rs.getD k 0=rs[k]:=by simp[h]
 rw[e] at hz ⊢
 simp[xaH,hz]
def xsE (w:World) (b i:Nat) (r:Int):Prop:=∃ f caps,w.cell? ⟨b,i,none⟩=some (.func (.func f) caps #[])∧(∀ W,Sem.run Tryz.prog (callFunc f caps) W=.ok (.enter f caps) W)∧∀ W,Calls Tryz.prog f caps W fun e W'=>e=.returned (.int .i64 r)∧Below W.heap.size W W'
theorem xdH (b len:Nat) (rs:List Int) (w:World) (hb:b<w.heap.size) (hl:rs.length=len) (hm:len≤4) (hA:∀ i,i<len→xsE w b i (rs.getD i 0)) :
  Calls Tryz.prog 198 #[.slice (some ⟨b,0,none⟩) len len] w fun e w'=>e=.returned (.int .i64 (xaH rs))∧Below w.heap.size w w':=by
 have HA:=lH hA;clear hA
 have HL:=lH hl;clear hl
 go_enter Tryz.func198,Tryz.ntmps198
 go_wp2
 go_loopw [8] (fun i wr=>∃ k:Nat,k≤len∧i=.int .i64 k∧xwD rs k∧Below w.heap.size w wr) (fun i _=>len - (intOf i).toNat)
 case atStart=>exact⟨0,Nat.zero_le _,rfl,by simp[xwD],Below.refl _ _⟩
 case round =>
  obtain⟨k,hk,rfl,hu,hbw⟩:=hrel
  by_cases hlt:k<len
  ·obtain⟨f,caps,hcell,hrun,hc⟩:=HA.out k hlt
   have hcell':=(hbw.cell (p:=⟨b,k,none⟩) hb).trans hcell
   clear hcell
   have HC:=lH hc;clear hc
   by_cases hz:rs.getD k 0=0
   ·have hU:xwD rs (k+1):=(xiu rs k (by rw[HL.out];exact hlt) hz).trans hu
    have hz':(rs.getD k 0 != 0)=false:=by simp only[hz];rfl
    have HZ:=lH hz;clear hz
    generalize rs.getD k 0=r at *
    go_wp2_with (with_reducible (refine(HC.out _).mono ?_);rintro e w1 ⟨rfl,hb1⟩)
    go_roundw
    case rel=>exact⟨k+1,by omega,by go_num,hU,hbw.trans (hb1.mono hbw.size)⟩
    case measure=>simp[intOf];omega
   ·have hU:rs.getD k 0=xaH rs:=(xjr rs k (by rw[HL.out];exact hlt) hz).trans hu
    have hz':(rs.getD k 0 != 0)=true:=by simp only[bne_iff_ne,ne_eq];exact hz
    have HU:=lH hU;clear hU
    clear hz
    generalize rs.getD k 0=r at *
    go_wp2_with (with_reducible (refine(HC.out _).mono ?_);rintro e w1 ⟨rfl,hb1⟩)
    go_ret
    exact⟨xav HU.out,hbw.trans (hb1.mono hbw.size)⟩
  ·obtain rfl:k=len:=by omega
   go_wp2
   go_ret
   refine⟨xav ?_,hbw⟩
   rw[← hu,← HL.out,List.drop_length];rfl
def xaK (t:ByteArray) (p:Int):Int:=if 0≤p∧p≤t.size then 0 else 2
def xiW (n:Int):Int:=if 1≤n∧n≤8 then 0 else 2
def xbW (n:Int):Int:=if n<0 then 2 else 0
def xdW (t:ByteArray) (p n:Int):Int:=if wrap64 (t.size - p)<n then 3 else 0
def xdi (t:ByteArray) (p:Int):Int:=if p<t.size then 4 else 0
theorem xk2 (t:ByteArray) (p b:Int) (w:World):Calls Tryz.prog 200 #[.agg #[.string t,.int .i64 p,.int .i64 b]] w fun e w'=>e=.returned (.int .i64 (xaK t p))∧Below w.heap.size w w':=by
 by_cases h:0≤p∧p≤t.size
 ·rw[show xaK t p=0 from if_pos h]
  exact xld t p b w h.1 h.2
 ·rw[show xaK t p=2 from if_neg h]
  exact xmX t p b w (by omega)
theorem xqn (t:ByteArray) (p b n:Int) (w:World):Calls Tryz.prog 241 #[.agg #[.string t,.int .i64 p,.int .i64 b,.int .i64 n]] w fun e w'=>e=.returned (.int .i64 (xiW n))∧Below w.heap.size w w':=by
 by_cases h:1≤n∧n≤8
 ·have H:Hid (xiW n=0):=if_pos h
  go_enter Tryz.func241,Tryz.ntmps241
  go_wp2_with (go_at_call 296;refine(xjj _ _ (by omega) (by omega)).mono ?_;rintro e w' ⟨rfl,rfl⟩)
  go_ret
  exact⟨xav H.out.symm,(Below.refl _ _).alloc (Nat.le_refl _) _⟩
 ·have H:Hid (xiW n=2):=if_neg h
  have h':n<1∨8<n:=by omega
  clear h
  go_enter Tryz.func241,Tryz.ntmps241
  go_wp2_with (go_at_call 296;refine(xsc _ _ (by omega)).mono ?_;rintro e w' ⟨rfl,rfl⟩)
  go_ret
  exact⟨xav H.out.symm,(Below.refl _ _).alloc (Nat.le_refl _) _⟩
theorem xiH (t:ByteArray) (p b n:Int) (w:World):Calls Tryz.prog 238 #[.agg #[.string t,.int .i64 p,.int .i64 b,.int .i64 n]] w fun e w'=>e=.returned (.int .i64 (xbW n))∧Below w.heap.size w w':=by
 by_cases h:n<0
 ·have H:Hid (xbW n=2):=if_pos h
  go_enter Tryz.func238,Tryz.ntmps238
  go_wp2
  go_ret
  exact⟨xav H.out.symm,(Below.refl _ _).alloc (Nat.le_refl _) _⟩
 ·have H:Hid (xbW n=0):=if_neg h
  go_enter Tryz.func238,Tryz.ntmps238
  go_wp2
  go_ret
  exact⟨xav H.out.symm,(Below.refl _ _).alloc (Nat.le_refl _) _⟩
theorem xqi (t:ByteArray) (p b n:Int) (w:World):Calls Tryz.prog 239 #[.agg #[.string t,.int .i64 p,.int .i64 b,.int .i64 n]] w fun e w'=>e=.returned (.int .i64 (xdW t p n))∧Below w.heap.size w w':=by
 by_cases h:wrap64 (t.size - p)<n
 ·have H:Hid (xdW t p n=3):=if_pos h
  go_enter Tryz.func239,Tryz.ntmps239
  go_wp2
  all_goals
   go_ret
   exact⟨xav H.out.symm,(Below.refl _ _).alloc (Nat.le_refl _) _⟩
 ·have H:Hid (xdW t p n=0):=if_neg h
  go_enter Tryz.func239,Tryz.ntmps239
  go_wp2
  all_goals
   go_ret
   exact⟨xav H.out.symm,(Below.refl _ _).alloc (Nat.le_refl _) _⟩
theorem xoA (t:ByteArray) (p b:Int) (w:World):Calls Tryz.prog 201 #[.agg #[.string t,.int .i64 p,.int .i64 b]] w fun e w'=>e=.returned (.int .i64 (xdi t p))∧Below w.heap.size w w':=by
 by_cases h:p<t.size
 ·have H:Hid (xdi t p=4):=if_pos h
  go_enter Tryz.func201,Tryz.ntmps201
  go_wp2
  go_ret
  exact⟨xav H.out.symm,(Below.refl _ _).alloc (Nat.le_refl _) _⟩
 ·have H:Hid (xdi t p=0):=if_neg h
  go_enter Tryz.func201,Tryz.ntmps201
  go_wp2
  go_ret
  exact⟨xav H.out.symm,(Below.refl _ _).alloc (Nat.le_refl _) _⟩
theorem xjZ (t:ByteArray) (p b n:Int) (w:World) (p0:0≤p) (n0:0≤n) (hp:p+n≤t.size) (hm:t.size≤maxLen) :
  Calls Tryz.prog 240 #[.agg #[.string t,.int .i64 p,.int .i64 b],.int .i64 n] w fun e w'=>e=.returned (.tuple #[.string (t.extract p.toNat (p+n).toNat),.agg #[.string t,.int .i64 (p+n),.int .i64 b]])∧Below w.heap.size w w':=by
 unfold maxLen at hm
 go_enter Tryz.func240,Tryz.ntmps240
 go_wp2
 go_region
 all_goals
  go_wp2
  refine bodyPost_ret (v:=.tuple #[.string (t.extract p.toNat (p+n).toNat),.agg #[.string t,.int .i64 (p+n),.int .i64 b]]) (by simp[results,Tryz.results240,go_sem]) rfl ⟨rfl,?_⟩
  go_grown
def xha:List UInt8→Int
 | []=>0
 | c :: t=>c.toNat+256*xha t
def xhS:Nat→Int
 | 0=>1
 | k+1=>256*xhS k
theorem xty (l:List UInt8):0≤xha l∧xha l<xhS l.length:=by
 induction l with
 | nil=>simp[xha,xhS]
 | cons c t ih =>
  have:c.toNat<256:=c.toNat_lt
  simp only[xha,xhS,List.length_cons]
  omega
theorem xnf (k:Nat) (h:k≤7):xhS k≤72057594037927936:=by
 rcases(by omega:k=0∨k=1∨k=2∨k=3∨k=4∨k=5∨k=6∨k=7) with rfl|rfl|rfl|rfl|rfl|rfl|rfl|rfl <;> decide
theorem xox (c:UInt8):c.toNat<256:=c.toNat_lt
theorem xsT (x:Int) (c:Nat) (x0:0≤x) (x1:x<72057594037927936) (hc:c<256):bits BinOp.or IntKind.u64 (x*256) (IntKind.u64.wrap c)=c+256*x:=by
 rw[wrap_u64]
 rw[u64_or _ _ (by omega) (by omega) (by omega) (by omega)]
 rw[nat_join 8 _ _ (by omega) (by omega)]
 omega
theorem xnj (l:List UInt8) (k:Nat) (h1:1≤k) (hk:k≤l.length):xha (l.drop (k - 1))=(l[k - 1]'(by omega)).toNat+256*xha (l.drop k):=by
 rw[List.drop_eq_getElem_cons (by omega:k - 1<l.length)]
 simp only[xha]
 rw[show k - 1+1=k from by omega]
theorem xlP (t:ByteArray) (w:World) (h8:t.size≤8) :
  Calls Tryz.prog 242 #[.string t] w fun e w'=>e=.returned (.int .u64 (xha t.data.toList))∧w=w':=by
 go_enter Tryz.func242,Tryz.ntmps242
 go_wp2
 go_loop [3,4] (fun x i=>∃ k:Nat,k≤t.size∧i=.int .i64 ((k:Int) - 1)∧x=.int .u64 (xha (t.data.toList.drop k))) (fun _ i=>(intOf i+1).toNat)
 case atStart=>exact⟨t.size,Nat.le_refl _,rfl,by rw[List.drop_of_length_le (by simp)];rfl⟩
 case round =>
  obtain⟨k,hk,rfl,rfl⟩:=hrel
  by_cases hlt:1≤k
  ·have hbd:0≤xha (t.data.toList.drop k)∧xha (t.data.toList.drop k)<72057594037927936:=by
    have:=xty (t.data.toList.drop k)
    have:=xnf (t.data.toList.drop k).length (by simp;omega)
    omega
   generalize hx:xha (t.data.toList.drop k)=x at *
   have HX:=lH hx;clear hx
   have hs:=xnj t.data.toList k hlt (by simpa using hk)
   rw[HX.out] at hs
   have hc:t[k - 1].toNat<256:=xox _
   have ho:=xsT x (t[k - 1].toNat) hbd.1 hbd.2 hc
   have HS:=lH (ho.trans hs.symm);clear hs ho hc
   go_wp2
   refine⟨⟨k - 1,by omega,?_,?_⟩,?_⟩
   ·congr 1;omega
   ·exact congrArg _ HS.out
   ·simp[intOf];omega
  ·obtain rfl:k=0:=by omega
   go_wp2
   go_ret
   exact⟨by simp,rfl⟩
theorem xdX (w:World) (b i:Nat) (t:ByteArray) (p q:Int) (h:w.cell? ⟨b,i,none⟩=some (.func (.func 199) #[.agg #[.string t,.int .i64 p,.int .i64 q]] #[])):xsE w b i q :=
 ⟨199,_,h,fun _=>by kernel_rfl,fun W=>xrG t p q W⟩
theorem xct (w:World) (b i:Nat) (t:ByteArray) (p q:Int) (h:w.cell? ⟨b,i,none⟩=some (.func (.func 200) #[.agg #[.string t,.int .i64 p,.int .i64 q]] #[])):xsE w b i (xaK t p) :=
 ⟨200,_,h,fun _=>by kernel_rfl,fun W=>xk2 t p q W⟩
theorem xm8 (w:World) (b i:Nat) (t:ByteArray) (p q n:Int) (h:w.cell? ⟨b,i,none⟩=some (.func (.func 241) #[.agg #[.string t,.int .i64 p,.int .i64 q,.int .i64 n]] #[])):xsE w b i (xiW n) :=
 ⟨241,_,h,fun _=>by kernel_rfl,fun W=>xqn t p q n W⟩
theorem xh4 (w:World) (b i:Nat) (t:ByteArray) (p q n:Int) (h:w.cell? ⟨b,i,none⟩=some (.func (.func 239) #[.agg #[.string t,.int .i64 p,.int .i64 q,.int .i64 n]] #[])):xsE w b i (xdW t p n) :=
 ⟨239,_,h,fun _=>by kernel_rfl,fun W=>xqi t p q n W⟩
theorem xh6 (w:World) (b i:Nat) (t:ByteArray) (p q n:Int) (h:w.cell? ⟨b,i,none⟩=some (.func (.func 238) #[.agg #[.string t,.int .i64 p,.int .i64 q,.int .i64 n]] #[])):xsE w b i (xbW n) :=
 ⟨238,_,h,fun _=>by kernel_rfl,fun W=>xiH t p q n W⟩
theorem xlm (w:World) (b i:Nat) (t:ByteArray) (p q:Int) (h:w.cell? ⟨b,i,none⟩=some (.func (.func 201) #[.agg #[.string t,.int .i64 p,.int .i64 q]] #[])):xsE w b i (xdi t p) :=
 ⟨201,_,h,fun _=>by kernel_rfl,fun W=>xoA t p q W⟩
theorem xaZ (W:World) (b:Nat) (cs:Array Value) (T:TypeId) (hb:b=W.heap.size) (i:Nat) (v:Value) (h:cs[i]?=some v):(W.alloc (.cells cs T)).cell? ⟨b,i,none⟩=some v:=by
 rw[World.cell?_alloc_at _ _ _ _ hb];exact h
theorem xaf {B:Nat} {W w1:World} (hb:Below B W w1):(∀ b o,b<B→w1.cell? ⟨b,o,none⟩=W.cell? ⟨b,o,none⟩)∧(∀ b o,b<B→w1.frozen? ⟨b,o,none⟩=W.frozen? ⟨b,o,none⟩) :=
 ⟨fun b o h=>hb.cell (p:=⟨b,o,none⟩) h,fun b o h=>hb.frozen (p:=⟨b,o,none⟩) h⟩
def xjR (t:ByteArray) (p q n:Int):Int:=xaH [q,xaK t p,xiW n,xdW t p n]
def xbq (t:ByteArray) (p q n:Int):Int:=xaH [q,xaK t p,xbW n,xdW t p n]
def xbc (t:ByteArray) (p q:Int):Int:=xaH [q,xaK t p]
def xr8 (t:ByteArray) (p q:Int):Int:=xaH [q,xaK t p,xdi t p]
theorem xog (W:World) (b:Nat) (hb:b=W.heap.size) (t:ByteArray) (p q n:Int) :
  Calls Tryz.prog 198 #[.slice (some ⟨b,0,none⟩) 4 4] (W.alloc (.cells #[.func (.func 199) #[.agg #[.string t,.int .i64 p,.int .i64 q]] #[],.func (.func 200) #[.agg #[.string t,.int .i64 p,.int .i64 q]] #[],.func (.func 241) #[.agg #[.string t,.int .i64 p,.int .i64 q,.int .i64 n]] #[],.func (.func 239) #[.agg #[.string t,.int .i64 p,.int .i64 q,.int .i64 n]] #[]] 213))
   fun e w'=>e=.returned (.int .i64 (xjR t p q n))∧Below (b+1) (W.alloc (.cells #[.func (.func 199) #[.agg #[.string t,.int .i64 p,.int .i64 q]] #[],.func (.func 200) #[.agg #[.string t,.int .i64 p,.int .i64 q]] #[],.func (.func 241) #[.agg #[.string t,.int .i64 p,.int .i64 q,.int .i64 n]] #[],.func (.func 239) #[.agg #[.string t,.int .i64 p,.int .i64 q,.int .i64 n]] #[]] 213)) w':=by
 refine(xdH b 4 [q,xaK t p,xiW n,xdW t p n] _ (by rw[World.size_alloc];omega) rfl (by omega) ?_).mono ?_
 ·intro i hi
  rcases(by omega:i=0∨i=1∨i=2∨i=3) with rfl|rfl|rfl|rfl
  ·exact xdX _ _ _ t p q (xaZ _ _ _ _ hb _ _ rfl)
  ·exact xct _ _ _ t p q (xaZ _ _ _ _ hb _ _ rfl)
  ·exact xm8 _ _ _ t p q n (xaZ _ _ _ _ hb _ _ rfl)
  ·exact xh4 _ _ _ t p q n (xaZ _ _ _ _ hb _ _ rfl)
 ·rintro e w' ⟨rfl,h⟩
  exact⟨rfl,h.mono (by rw[World.size_alloc];omega)⟩
theorem xfH (W:World) (b:Nat) (hb:b=W.heap.size) (t:ByteArray) (p q n:Int) :
  Calls Tryz.prog 198 #[.slice (some ⟨b,0,none⟩) 4 4] (W.alloc (.cells #[.func (.func 199) #[.agg #[.string t,.int .i64 p,.int .i64 q]] #[],.func (.func 200) #[.agg #[.string t,.int .i64 p,.int .i64 q]] #[],.func (.func 238) #[.agg #[.string t,.int .i64 p,.int .i64 q,.int .i64 n]] #[],.func (.func 239) #[.agg #[.string t,.int .i64 p,.int .i64 q,.int .i64 n]] #[]] 213))
   fun e w'=>e=.returned (.int .i64 (xbq t p q n))∧Below (b+1) (W.alloc (.cells #[.func (.func 199) #[.agg #[.string t,.int .i64 p,.int .i64 q]] #[],.func (.func 200) #[.agg #[.string t,.int .i64 p,.int .i64 q]] #[],.func (.func 238) #[.agg #[.string t,.int .i64 p,.int .i64 q,.int .i64 n]] #[],.func (.func 239) #[.agg #[.string t,.int .i64 p,.int .i64 q,.int .i64 n]] #[]] 213)) w':=by
 refine(xdH b 4 [q,xaK t p,xbW n,xdW t p n] _ (by rw[World.size_alloc];omega) rfl (by omega) ?_).mono ?_
 ·intro i hi
  rcases(by omega:i=0∨i=1∨i=2∨i=3) with rfl|rfl|rfl|rfl
  ·exact xdX _ _ _ t p q (xaZ _ _ _ _ hb _ _ rfl)
  ·exact xct _ _ _ t p q (xaZ _ _ _ _ hb _ _ rfl)
  ·exact xh6 _ _ _ t p q n (xaZ _ _ _ _ hb _ _ rfl)
  ·exact xh4 _ _ _ t p q n (xaZ _ _ _ _ hb _ _ rfl)
 ·rintro e w' ⟨rfl,h⟩
  exact⟨rfl,h.mono (by rw[World.size_alloc];omega)⟩
theorem xk6 (W:World) (b:Nat) (hb:b=W.heap.size) (t:ByteArray) (p q:Int) :
  Calls Tryz.prog 198 #[.slice (some ⟨b,0,none⟩) 2 2] (W.alloc (.cells #[.func (.func 199) #[.agg #[.string t,.int .i64 p,.int .i64 q]] #[],.func (.func 200) #[.agg #[.string t,.int .i64 p,.int .i64 q]] #[]] 213))
   fun e w'=>e=.returned (.int .i64 (xbc t p q))∧Below (b+1) (W.alloc (.cells #[.func (.func 199) #[.agg #[.string t,.int .i64 p,.int .i64 q]] #[],.func (.func 200) #[.agg #[.string t,.int .i64 p,.int .i64 q]] #[]] 213)) w':=by
 refine(xdH b 2 [q,xaK t p] _ (by rw[World.size_alloc];omega) rfl (by omega) ?_).mono ?_
 ·intro i hi
  rcases(by omega:i=0∨i=1) with rfl|rfl
  ·exact xdX _ _ _ t p q (xaZ _ _ _ _ hb _ _ rfl)
  ·exact xct _ _ _ t p q (xaZ _ _ _ _ hb _ _ rfl)
 ·rintro e w' ⟨rfl,h⟩
  exact⟨rfl,h.mono (by rw[World.size_alloc];omega)⟩
theorem xoF (W:World) (b:Nat) (hb:b=W.heap.size) (t:ByteArray) (p q:Int) :
  Calls Tryz.prog 198 #[.slice (some ⟨b,0,none⟩) 3 3] (W.alloc (.cells #[.func (.func 199) #[.agg #[.string t,.int .i64 p,.int .i64 q]] #[],.func (.func 200) #[.agg #[.string t,.int .i64 p,.int .i64 q]] #[],.func (.func 201) #[.agg #[.string t,.int .i64 p,.int .i64 q]] #[]] 213))
   fun e w'=>e=.returned (.int .i64 (xr8 t p q))∧Below (b+1) (W.alloc (.cells #[.func (.func 199) #[.agg #[.string t,.int .i64 p,.int .i64 q]] #[],.func (.func 200) #[.agg #[.string t,.int .i64 p,.int .i64 q]] #[],.func (.func 201) #[.agg #[.string t,.int .i64 p,.int .i64 q]] #[]] 213)) w':=by
 refine(xdH b 3 [q,xaK t p,xdi t p] _ (by rw[World.size_alloc];omega) rfl (by omega) ?_).mono ?_
 ·intro i hi
  rcases(by omega:i=0∨i=1∨i=2) with rfl|rfl|rfl
  ·exact xdX _ _ _ t p q (xaZ _ _ _ _ hb _ _ rfl)
  ·exact xct _ _ _ t p q (xaZ _ _ _ _ hb _ _ rfl)
  ·exact xlm _ _ _ t p q (xaZ _ _ _ _ hb _ _ rfl)
 ·rintro e w' ⟨rfl,h⟩
  exact⟨rfl,h.mono (by rw[World.size_alloc];omega)⟩
theorem xuu (t:ByteArray) (p n:Int) (w:World) (hm:t.size≤maxLen) (h:xjR t p 0 n=0) (p0:0≤p) (n0:1≤n) (n1:n≤8) (hp:p+n≤t.size):Calls Tryz.prog 166 #[.agg #[.string t,.int .i64 p,.int .i64 0],.int .i64 n] w
  fun e w'=>e=.returned (.tuple #[.int .u64 (xha (t.extract p.toNat (p+n).toNat).data.toList),.agg #[.string t,.int .i64 (p+n),.int .i64 0]])∧Below w.heap.size w w':=by
 have H:=lH h;clear h
 have HM:=lH hm;clear hm
 go_enter Tryz.func166,Tryz.ntmps166
 go_wp2_with fail
 refine(xog _ _ (by simp) t p 0 n).mono ?_
 rintro e w1 ⟨rfl,hb⟩
 have hz:w.heap.size+4≤w1.heap.size:=by have:=hb.size;simp at this;omega
 have hbw:Below w.heap.size w w1:=Below.trans (by go_grown) (hb.mono (by omega))
 have c0:w1.cell? ⟨w.heap.size,0,none⟩=some (.string t):=((xaf hb).1 _ _ (by omega)).trans (by simp[go_sem])
 have c1:w1.cell? ⟨w.heap.size,1,none⟩=some (.int .i64 p):=((xaf hb).1 _ _ (by omega)).trans (by simp[go_sem])
 have c2:w1.cell? ⟨w.heap.size,2,none⟩=some (.int .i64 0):=((xaf hb).1 _ _ (by omega)).trans (by simp[go_sem])
 have c3:w1.cell? ⟨w.heap.size+1,0,none⟩=some (.string { data:=#[] }):=((xaf hb).1 _ _ (by omega)).trans (by simp[go_sem])
 have c4:w1.cell? ⟨w.heap.size+1,1,none⟩=some (.int .i64 0):=((xaf hb).1 _ _ (by omega)).trans (by simp[go_sem])
 have c5:w1.cell? ⟨w.heap.size+1,2,none⟩=some (.int .i64 0):=((xaf hb).1 _ _ (by omega)).trans (by simp[go_sem])
 have f0:∀ o,w1.frozen? ⟨w.heap.size,o,none⟩=false:=fun o=>((xaf hb).2 _ _ (by omega)).trans (by simp[go_sem])
 have f1:∀ o,w1.frozen? ⟨w.heap.size+1,o,none⟩=false:=fun o=>((xaf hb).2 _ _ (by omega)).trans (by simp[go_sem])
 clear hb
 rw[H.out]
 go_wp2_with fail
 refine(xjZ t p 0 n _ (by omega) (by omega) (by omega) HM.out).mono ?_
 rintro e w2 ⟨rfl,hb⟩
 have hz2:w1.heap.size≤w2.heap.size:=by have:=hb.size;rw[World.size_setCell] at this;exact this
 have hbw2:Below w.heap.size w w2:=Below.trans (by go_grown) (hb.mono (by rw[World.size_setCell];omega))
 have d0:w2.cell? ⟨w.heap.size,0,none⟩=some (.string t):=((xaf hb).1 _ _ (by rw[World.size_setCell];omega)).trans (by simp[go_sem,c0])
 have d1:w2.cell? ⟨w.heap.size,1,none⟩=some (.int .i64 p):=((xaf hb).1 _ _ (by rw[World.size_setCell];omega)).trans (by simp[go_sem,c1])
 have d2:w2.cell? ⟨w.heap.size,2,none⟩=some (.int .i64 0):=((xaf hb).1 _ _ (by rw[World.size_setCell];omega)).trans (by simp[go_sem,c2])
 have d3:w2.cell? ⟨w.heap.size+1,0,none⟩=some (.string { data:=#[] }):=((xaf hb).1 _ _ (by rw[World.size_setCell];omega)).trans (by simp[go_sem,c3])
 have d4:w2.cell? ⟨w.heap.size+1,1,none⟩=some (.int .i64 0):=((xaf hb).1 _ _ (by rw[World.size_setCell];omega)).trans (by simp[go_sem,c4])
 have d5:w2.cell? ⟨w.heap.size+1,2,none⟩=some (.int .i64 0):=((xaf hb).1 _ _ (by rw[World.size_setCell];omega)).trans (by simp[go_sem,c5])
 have g0:∀ o,w2.frozen? ⟨w.heap.size,o,none⟩=false:=fun o=>((xaf hb).2 _ _ (by rw[World.size_setCell];omega)).trans (by simp[go_sem,f0])
 have g1:∀ o,w2.frozen? ⟨w.heap.size+1,o,none⟩=false:=fun o=>((xaf hb).2 _ _ (by rw[World.size_setCell];omega)).trans (by simp[go_sem,f1])
 clear hb c0 c1 c2 c3 c4 c5 f0 f1 hbw
 have hx:(t.extract p.toNat (p+n).toNat).size≤8:=by simp;omega
 obtain⟨x,he⟩:∃ x,t.extract p.toNat (p+n).toNat=x:=⟨_,rfl⟩
 rw[he] at hx ⊢
 have HE:=lH he;clear he
 go_wp2_with fail
 go_region_with (go_at_call 242;refine(xlP x _ hx).mono ?_;rintro e w' ⟨rfl,rfl⟩)
 all_goals
  go_wp2
  refine bodyPost_ret (v:=.tuple #[.int .u64 (xha x.data.toList),.agg #[.string t,.int .i64 (p+n),.int .i64 0]]) (by simp[results,Tryz.results166,go_sem,d3,d4,d5]) rfl ⟨by rw[HE.out],?_⟩
  go_grown
theorem xpe (t:ByteArray) (p q n:Int) (w:World) (h:xbq t p q n≠0):Calls Tryz.prog 165 #[.agg #[.string t,.int .i64 p,.int .i64 q],.int .i64 n] w
  fun e w'=>e=.returned (.tuple #[.string { data:=#[] },.agg #[.string t,.int .i64 p,.int .i64 (xbq t p q n)]])∧Below w.heap.size w w':=by
 have hne:(xbq t p q n != 0)=true:=by simp only[bne_iff_ne,ne_eq];exact h
 clear h
 go_enter Tryz.func165,Tryz.ntmps165
 go_wp2_with fail
 refine(xfH _ _ (by simp) t p q n).mono ?_
 rintro e w1 ⟨rfl,hb⟩
 have hz:w.heap.size+4≤w1.heap.size:=by have:=hb.size;simp at this;omega
 have hbw:Below w.heap.size w w1:=Below.trans (by go_grown) (hb.mono (by omega))
 have c0:w1.cell? ⟨w.heap.size,0,none⟩=some (.string t):=((xaf hb).1 _ _ (by omega)).trans (by simp[go_sem])
 have c1:w1.cell? ⟨w.heap.size,1,none⟩=some (.int .i64 p):=((xaf hb).1 _ _ (by omega)).trans (by simp[go_sem])
 have c2:w1.cell? ⟨w.heap.size,2,none⟩=some (.int .i64 q):=((xaf hb).1 _ _ (by omega)).trans (by simp[go_sem])
 have c3:w1.cell? ⟨w.heap.size+1,0,none⟩=some (.string { data:=#[] }):=((xaf hb).1 _ _ (by omega)).trans (by simp[go_sem])
 have c4:w1.cell? ⟨w.heap.size+1,1,none⟩=some (.int .i64 0):=((xaf hb).1 _ _ (by omega)).trans (by simp[go_sem])
 have c5:w1.cell? ⟨w.heap.size+1,2,none⟩=some (.int .i64 0):=((xaf hb).1 _ _ (by omega)).trans (by simp[go_sem])
 have f0:∀ o,w1.frozen? ⟨w.heap.size,o,none⟩=false:=fun o=>((xaf hb).2 _ _ (by omega)).trans (by simp[go_sem])
 have f1:∀ o,w1.frozen? ⟨w.heap.size+1,o,none⟩=false:=fun o=>((xaf hb).2 _ _ (by omega)).trans (by simp[go_sem])
 clear hb
 obtain⟨r,hr⟩:∃ r,xbq t p q n=r:=⟨_,rfl⟩
 have HR:=lH hr
 rw[hr] at hne ⊢
 clear hr
 go_wp2_with fail
 go_region
 go_wp2
 refine bodyPost_ret (v:=.tuple #[.string { data:=#[] },.agg #[.string t,.int .i64 p,.int .i64 r]]) (by simp[results,Tryz.results165,go_sem,c3,c4,c5]) rfl ⟨by rw[HR.out],?_⟩
 go_grown
theorem xh5 (t:ByteArray) (p n:Int) (w:World) (hm:t.size≤maxLen) (h:xbq t p 0 n=0) (p0:0≤p) (n0:0≤n) (hp:p+n≤t.size):Calls Tryz.prog 165 #[.agg #[.string t,.int .i64 p,.int .i64 0],.int .i64 n] w
  fun e w'=>e=.returned (.tuple #[.string (t.extract p.toNat (p+n).toNat),.agg #[.string t,.int .i64 (p+n),.int .i64 0]])∧Below w.heap.size w w':=by
 have H:=lH h;clear h
 have HM:=lH hm;clear hm
 go_enter Tryz.func165,Tryz.ntmps165
 go_wp2_with fail
 refine(xfH _ _ (by simp) t p 0 n).mono ?_
 rintro e w1 ⟨rfl,hb⟩
 have hz:w.heap.size+4≤w1.heap.size:=by have:=hb.size;simp at this;omega
 have hbw:Below w.heap.size w w1:=Below.trans (by go_grown) (hb.mono (by omega))
 have c0:w1.cell? ⟨w.heap.size,0,none⟩=some (.string t):=((xaf hb).1 _ _ (by omega)).trans (by simp[go_sem])
 have c1:w1.cell? ⟨w.heap.size,1,none⟩=some (.int .i64 p):=((xaf hb).1 _ _ (by omega)).trans (by simp[go_sem])
 have c2:w1.cell? ⟨w.heap.size,2,none⟩=some (.int .i64 0):=((xaf hb).1 _ _ (by omega)).trans (by simp[go_sem])
 have c3:w1.cell? ⟨w.heap.size+1,0,none⟩=some (.string { data:=#[] }):=((xaf hb).1 _ _ (by omega)).trans (by simp[go_sem])
 have c4:w1.cell? ⟨w.heap.size+1,1,none⟩=some (.int .i64 0):=((xaf hb).1 _ _ (by omega)).trans (by simp[go_sem])
 have c5:w1.cell? ⟨w.heap.size+1,2,none⟩=some (.int .i64 0):=((xaf hb).1 _ _ (by omega)).trans (by simp[go_sem])
 have f0:∀ o,w1.frozen? ⟨w.heap.size,o,none⟩=false:=fun o=>((xaf hb).2 _ _ (by omega)).trans (by simp[go_sem])
 have f1:∀ o,w1.frozen? ⟨w.heap.size+1,o,none⟩=false:=fun o=>((xaf hb).2 _ _ (by omega)).trans (by simp[go_sem])
 clear hb
 rw[H.out]
 go_wp2_with fail
 refine(xjZ t p 0 n _ (by omega) (by omega) (by omega) HM.out).mono ?_
 rintro e w2 ⟨rfl,hb⟩
 have hz2:w1.heap.size≤w2.heap.size:=by have:=hb.size;rw[World.size_setCell] at this;exact this
 have hbw2:Below w.heap.size w w2:=Below.trans (by go_grown) (hb.mono (by rw[World.size_setCell];omega))
 have d3:w2.cell? ⟨w.heap.size+1,0,none⟩=some (.string { data:=#[] }):=((xaf hb).1 _ _ (by rw[World.size_setCell];omega)).trans (by simp[go_sem,c3])
 have d4:w2.cell? ⟨w.heap.size+1,1,none⟩=some (.int .i64 0):=((xaf hb).1 _ _ (by rw[World.size_setCell];omega)).trans (by simp[go_sem,c4])
 have d5:w2.cell? ⟨w.heap.size+1,2,none⟩=some (.int .i64 0):=((xaf hb).1 _ _ (by rw[World.size_setCell];omega)).trans (by simp[go_sem,c5])
 have g1:∀ o,w2.frozen? ⟨w.heap.size+1,o,none⟩=false:=fun o=>((xaf hb).2 _ _ (by rw[World.size_setCell];omega)).trans (by simp[go_sem,f1])
 clear hb c0 c1 c2 c3 c4 c5 f0 f1 hbw
 obtain⟨x,he⟩:∃ x,t.extract p.toNat (p+n).toNat=x:=⟨_,rfl⟩
 rw[he]
 have HE:=lH he;clear he
 go_wp2_with fail
 refine bodyPost_ret (v:=.tuple #[.string x,.agg #[.string t,.int .i64 (p+n),.int .i64 0]]) (by simp[results,Tryz.results165,go_sem,d3,d4,d5]) rfl ⟨by rw[HE.out],?_⟩
 go_grown
theorem xj9 (t:ByteArray) (p:Int) (w:World) (hm:t.size≤maxLen) (h:xbc t p 0=0) (p0:0≤p) (hp:p≤t.size):Calls Tryz.prog 269 #[.agg #[.string t,.int .i64 p,.int .i64 0]] w
  fun e w'=>e=.returned (.string (t.extract p.toNat t.size))∧Below w.heap.size w w':=by
 have H:=lH h;clear h
 unfold maxLen at hm
 go_enter Tryz.func269,Tryz.ntmps269
 go_wp2_with fail
 refine(xk6 _ _ (by simp) t p 0).mono ?_
 rintro e w1 ⟨rfl,hb⟩
 have hz:w.heap.size+2≤w1.heap.size:=by have:=hb.size;simp at this;omega
 have hbw:Below w.heap.size w w1:=Below.trans (by go_grown) (hb.mono (by omega))
 have c0:w1.cell? ⟨w.heap.size,0,none⟩=some (.string t):=((xaf hb).1 _ _ (by omega)).trans (by simp[go_sem])
 have c1:w1.cell? ⟨w.heap.size,1,none⟩=some (.int .i64 p):=((xaf hb).1 _ _ (by omega)).trans (by simp[go_sem])
 have c2:w1.cell? ⟨w.heap.size,2,none⟩=some (.int .i64 0):=((xaf hb).1 _ _ (by omega)).trans (by simp[go_sem])
 clear hb
 rw[H.out]
 go_wp2_with fail
 go_ret
 exact⟨rfl,hbw⟩
theorem xnx (t:ByteArray) (p q:Int) (w:World):Calls Tryz.prog 121 #[.agg #[.string t,.int .i64 p,.int .i64 q]] w
  fun e w'=>e=.returned (.int .i64 (xr8 t p q))∧Below w.heap.size w w':=by
 go_enter Tryz.func121,Tryz.ntmps121
 go_wp2_with fail
 refine(xoF _ _ (by simp) t p q).mono ?_
 rintro e w1 ⟨rfl,hb⟩
 have hz:w.heap.size+2≤w1.heap.size:=by have:=hb.size;simp at this;omega
 have hbw:Below w.heap.size w w1:=Below.trans (by go_grown) (hb.mono (by omega))
 have c0:w1.cell? ⟨w.heap.size,0,none⟩=some (.string t):=((xaf hb).1 _ _ (by omega)).trans (by simp[go_sem])
 have c1:w1.cell? ⟨w.heap.size,1,none⟩=some (.int .i64 p):=((xaf hb).1 _ _ (by omega)).trans (by simp[go_sem])
 have c2:w1.cell? ⟨w.heap.size,2,none⟩=some (.int .i64 q):=((xaf hb).1 _ _ (by omega)).trans (by simp[go_sem])
 clear hb
 go_wp2_with fail
 go_ret
 exact⟨rfl,hbw⟩
end Go.Proofs.YtjinnigjfopbcaaGreatDoor
namespace Go.Proofs.YtjinnigjfopbcaaGreatDoor
set_option linter.unusedVariables false
set_option linter.unusedSimpArgs false
open Go.RowKit
set_option maxRecDepth 20000
open Go.RowKit
set_option maxRecDepth 20000
theorem xns (t:ByteArray) (p q:Int) (hm:t.size≤maxLen):xbq t p q 0=xbc t p q:=by
 unfold xbq xbc
 simp only[xaH]
 by_cases h1:q=0
 ·rw[if_pos h1,if_pos h1]
  by_cases h2:xaK t p=0
  ·have h3:0≤p∧p≤t.size:=by
    unfold xaK at h2
    split at h2
    ·assumption
    ·cases h2
   have h4:xdW t p 0=0:=by
    unfold xdW wrap64
    unfold maxLen at hm
    rw[if_neg (by omega)]
   rw[if_pos h2,if_pos h2,h4]
   simp[xbW]
  ·rw[if_neg h2,if_neg h2]
 ·rw[if_neg h1,if_neg h1]
theorem xep (t:ByteArray) (p q:Int) (h:xbc t p q=0):q=0∧0≤p∧p≤t.size:=by
 unfold xbc at h
 simp only[xaH] at h
 split at h
 ·rename_i h1
  split at h
  ·rename_i h2
   unfold xaK at h2
   split at h2
   ·exact⟨h1,by assumption⟩
   ·cases h2
  ·contradiction
 ·contradiction
theorem xdn (t:ByteArray) (p q:Int) (w:World) (hm:t.size≤maxLen):Calls Tryz.prog 267 #[.agg #[.string t,.int .i64 p,.int .i64 q]] w
  fun e w'=>e=.returned (.agg #[.string t,.int .i64 p,.int .i64 (xbc t p q)])∧Below w.heap.size w w':=by
 have hb0:=xns t p q hm
 obtain⟨r,hr⟩:∃ r,xbc t p q=r:=⟨_,rfl⟩
 rw[hr] at hb0 ⊢
 by_cases h:r=0
 ·subst h
  obtain⟨rfl,p0,p1⟩:=xep t p q hr
  have HM:=lH hm;clear hm hr
  have H0:=lH hb0;clear hb0
  go_enter Tryz.func267,Tryz.ntmps267
  go_wp2_with fail
  refine(xh5 t p 0 _ HM.out H0.out p0 (by omega) (by omega)).mono ?_
  rintro e w1 ⟨rfl,hb⟩
  have hz:w.heap.size+2≤w1.heap.size:=by have:=hb.size;simp at this;omega
  have hbw:Below w.heap.size w w1:=Below.trans (by go_grown) (hb.mono (by simp;omega))
  have f0:∀ o,w1.frozen? ⟨w.heap.size,o,none⟩=false:=fun o=>((xaf hb).2 _ _ (by simp;omega)).trans (by simp[go_sem])
  have f1:∀ o,w1.frozen? ⟨w.heap.size+1,o,none⟩=false:=fun o=>((xaf hb).2 _ _ (by simp)).trans (by simp[go_sem])
  have c0:w1.cell? ⟨w.heap.size,0,none⟩=some (.string t):=((xaf hb).1 _ _ (by simp;omega)).trans (by simp[go_sem])
  have c1:w1.cell? ⟨w.heap.size,1,none⟩=some (.int .i64 p):=((xaf hb).1 _ _ (by simp;omega)).trans (by simp[go_sem])
  have c2:w1.cell? ⟨w.heap.size,2,none⟩=some (.int .i64 0):=((xaf hb).1 _ _ (by simp;omega)).trans (by simp[go_sem])
  have c3:w1.cell? ⟨w.heap.size+1,0,none⟩=some (.string { data:=#[] }):=((xaf hb).1 _ _ (by simp)).trans (by simp[go_sem])
  have c4:w1.cell? ⟨w.heap.size+1,1,none⟩=some (.int .i64 0):=((xaf hb).1 _ _ (by simp)).trans (by simp[go_sem])
  have c5:w1.cell? ⟨w.heap.size+1,2,none⟩=some (.int .i64 0):=((xaf hb).1 _ _ (by simp)).trans (by simp[go_sem])
  clear hb
  have hp:p+0=p:=by omega
  rw[hp]
  go_wp2_with fail
  refine bodyPost_ret (v:=.agg #[.string t,.int .i64 p,.int .i64 0]) (by simp[results,Tryz.results267,go_sem,c3,c4,c5]) rfl ⟨rfl,?_⟩
  go_grown
 ·have hb1:=xpe t p q 0
  rw[hb0] at hb1
  have HB:=lH (fun w=>hb1 w h);clear hb1 hb0 hm h hr
  go_enter Tryz.func267,Tryz.ntmps267
  go_wp2_with fail
  refine(HB.out _).mono ?_
  rintro e w1 ⟨rfl,hb⟩
  have hz:w.heap.size+2≤w1.heap.size:=by have:=hb.size;simp at this;omega
  have hbw:Below w.heap.size w w1:=Below.trans (by go_grown) (hb.mono (by simp;omega))
  have f0:∀ o,w1.frozen? ⟨w.heap.size,o,none⟩=false:=fun o=>((xaf hb).2 _ _ (by simp;omega)).trans (by simp[go_sem])
  have f1:∀ o,w1.frozen? ⟨w.heap.size+1,o,none⟩=false:=fun o=>((xaf hb).2 _ _ (by simp)).trans (by simp[go_sem])
  have c0:w1.cell? ⟨w.heap.size,0,none⟩=some (.string t):=((xaf hb).1 _ _ (by simp;omega)).trans (by simp[go_sem])
  have c1:w1.cell? ⟨w.heap.size,1,none⟩=some (.int .i64 p):=((xaf hb).1 _ _ (by simp;omega)).trans (by simp[go_sem])
  have c2:w1.cell? ⟨w.heap.size,2,none⟩=some (.int .i64 q):=((xaf hb).1 _ _ (by simp;omega)).trans (by simp[go_sem])
  have c3:w1.cell? ⟨w.heap.size+1,0,none⟩=some (.string { data:=#[] }):=((xaf hb).1 _ _ (by simp)).trans (by simp[go_sem])
  have c4:w1.cell? ⟨w.heap.size+1,1,none⟩=some (.int .i64 0):=((xaf hb).1 _ _ (by simp)).trans (by simp[go_sem])
  have c5:w1.cell? ⟨w.heap.size+1,2,none⟩=some (.int .i64 0):=((xaf hb).1 _ _ (by simp)).trans (by simp[go_sem])
  clear hb
  go_wp2_with fail
  refine bodyPost_ret (v:=.agg #[.string t,.int .i64 p,.int .i64 r]) (by simp[results,Tryz.results267,go_sem,c3,c4,c5]) rfl ⟨rfl,?_⟩
  go_grown
def xuN (l:List UInt8):Int:=if xbo l=0 then xaW l else 0
def xuO (l:List UInt8):Int:=if xbo l=0 then xjF l else 0
theorem xmQ (l:List UInt8) (h:xbo l=0):xuN l=xaW l∧xuO l=xjF l:=by unfold xuN xuO;rw[if_pos h,if_pos h];exact⟨rfl,rfl⟩
theorem xgm (l:List UInt8) (e:Int) (he:xbo l=e) (h:e≠0):xuN l=0∧xuO l=0:=by unfold xuN xuO;rw[if_neg (by omega),if_neg (by omega)];exact⟨rfl,rfl⟩
theorem xtF (t:ByteArray) (k:Nat) (h:k<t.size):t.data.toList.getD k 0=t[k]:=by
 have:k<t.data.size:=h
 simp[List.getD,Array.getElem?_eq_getElem this];rfl
theorem xqk (k:Nat):(2:Int) ^ (7*k)=p7 k:=by rw[← two7];simp
theorem or7 (k:Nat) (y c:Int) (y0:0≤y) (y1:y<p7 k) (c0:0≤c) (c1:c*p7 k<18446744073709551616) (y2:y<18446744073709551616):bits BinOp.or IntKind.u64 y (c*p7 k)=y+c*p7 k:=by
 have hp:=xht k
 have hz:0≤c*p7 k:=Int.mul_nonneg c0 (by omega)
 rw[u64_or _ _ y0 y2 hz c1]
 have e:=two7 k
 have h1:(c*p7 k).toNat=c.toNat*2 ^ (7*k):=by
  rw[← e]
  have:c=(c.toNat:Int):=by omega
  rw[this,← Int.natCast_mul,Int.toNat_natCast,Int.toNat_natCast]
 have h2:y.toNat<2 ^ (7*k):=by omega
 rw[Nat.or_comm,nat_join (7*k) _ _ (by rw[h1];exact Nat.mul_mod_left _ _) h2]
 omega
theorem xwW (k:Nat) (y c:Int) (y0:0≤y) (y1:y<p7 k) (c0:0≤c) (c1:c*p7 k<18446744073709551616) (y2:y<18446744073709551616):bits BinOp.or IntKind.u64 y (IntKind.u64.wrap (c*2 ^ (7*k)))=y+c*p7 k:=by
 have hz:0≤c*p7 k:=Int.mul_nonneg c0 (by have:=xht k;omega)
 rw[xqk,IntWalk.u64_in _ (by omega),or7 k y c y0 y1 c0 c1 y2]
theorem xtu (l:List UInt8) (k:Nat) (c:Nat) (hk:k≤xaG 10 l) (hlt:k<l.length) (h10:k<10) (hc:(l.getD k 0).toNat=c) (h:c<128) :
  (k=9∧1<c→xbo l=11)∧(¬ (k=9∧1<c)→0<k∧c=0→xbo l=4)∧(¬ (k=9∧1<c)→¬ (0<k∧c=0)→xbo l=0∧xjF l=k+1∧xaW l=xcF (l.take k)+c*p7 k∧xcF (l.take k)<p7 k∧0≤xcF (l.take k)∧(c:Int)*p7 k<18446744073709551616∧xcF (l.take k)<18446744073709551616):=by
 have hl:=xuc l k hk (by omega)
 have he:xbo l=if k=10 then 11 else if k=l.length then 3 else if k=9∧1<c then 11 else if 0<k∧c=0 then 4 else 0:=by
  unfold xbo;rw[hl,hc]
 rw[if_neg (by omega),if_neg (by omega)] at he
 refine⟨fun a=>by rw[he,if_pos a],fun a b=>by rw[he,if_neg a,if_pos b],fun a b=>?_⟩
 have hb:=xfJ (l.take k)
 have hlen:(l.take k).length=k:=by simp;omega
 rw[hlen] at hb
 have h9:=xgv k 9 (by omega)
 have ht:=xew.2
 refine⟨by rw[he,if_neg a,if_neg b],by unfold xjF;rw[hl];simp,?_,hb.2,hb.1,?_,by omega⟩
 ·unfold xaW
  rw[hl,xfq l k hlt,hc]
  congr 2
  omega
 ·by_cases hk9:k=9
  ·subst hk9;rw[ht];omega
  ·have h8:=xgv k 8 (by omega)
   have e8:p7 8=72057594037927936:=by decide
   have:(c:Int)*p7 k≤127*p7 k:=Int.mul_le_mul_of_nonneg_right (by omega) (by have:=xht k;omega)
   omega
theorem xn4 (l:List UInt8) (k:Nat) (y:Int) (c:Nat) (hk:k≤xaG 10 l) (hlt:k<l.length) (hc:(l.getD k 0).toNat=c) (h:128≤c) (hy:k≤9→y=xcF (l.take k)) (h9:k+1≤9):bits BinOp.or IntKind.u64 y (IntKind.u64.wrap (((c:Int) - 128)*2 ^ (7*k)))=xcF (l.take (k+1)):=by
 have hb:=xfJ (l.take k)
 have hlen:(l.take k).length=k:=by simp;omega
 rw[hlen] at hb
 have hx:=xjz (l.getD k 0)
 have h8:=xgv k 8 (by omega)
 have e8:p7 8=72057594037927936:=by decide
 have:((c:Int) - 128)*p7 k≤127*p7 k:=Int.mul_le_mul_of_nonneg_right (by omega) (by have:=xht k;omega)
 rw[hy (by omega),xwW k _ _ hb.1 hb.2 (by omega) (by omega) (by omega),xfq l k hlt,hc]
 congr 2
 omega
set_option maxRecDepth 20000 in
theorem xf1 (t:ByteArray) (w:World) (hm:t.size≤maxLen):Calls Tryz.prog 268 #[.string t] w fun e w'=>e=.returned (.tuple #[.int .u64 (xuN t.data.toList),.int .i64 (xuO t.data.toList),.int .i64 (xbo t.data.toList)])∧w=w':=by
 unfold maxLen at hm
 obtain⟨l,hl⟩:∃ l,t.data.toList=l:=⟨_,rfl⟩
 have hlen:l.length=t.size:=by rw[← hl];simp
 have hat:∀ k (h:k<t.size),(l.getD k 0).toNat=t[k].toNat:=fun k h=>by rw[← hl,xtF t k h]
 rw[hl]
 have HAT:=lH hat;have HLEN:=lH hlen;clear hat hlen hl
 obtain⟨X,hX⟩:∃ X,xuN l=X:=⟨_,rfl⟩
 obtain⟨N,hN⟩:∃ N,xuO l=N:=⟨_,rfl⟩
 obtain⟨E,hE⟩:∃ E,xbo l=E:=⟨_,rfl⟩
 rw[hX,hN,hE]
 have HX:=lH hX;have HN:=lH hN;have HE:=lH hE;clear hX hN hE
 go_enter Tryz.func268,Tryz.ntmps268
 go_wp2_with fail
 go_step3
 go_wp2_with fail
 go_step3
 go_wp2_with fail
 go_loop [5,6] (fun x i=>∃ (k:Nat) (y:Int),k≤xaG 10 l∧i=.int .i64 k∧x=.int .u64 y∧Hid (k≤9→y=xcF (l.take k))) (fun _ i=>10 - (intOf i).toNat)
 case atStart=>exact⟨0,0,Nat.zero_le _,rfl,rfl,lH (fun _=>by simp[xcF])⟩
 case round =>
  obtain⟨k,y,hk,rfl,rfl,HY⟩:=hrel
  have hll:=xgu 10 l
  by_cases h10:k=10
  ·subst h10
   have HF:Hid (X=0∧N=0∧E=11):=by
    have hl:xaG 10 l=10:=by omega
    have he:xbo l=11:=by unfold xbo;rw[if_pos hl]
    have:=xgm l 11 he (by decide)
    exact lH ⟨by rw[← HX.out,this.1],by rw[← HN.out,this.2],by rw[← HE.out,he]⟩
   clear hll hk
   go_wp2_with fail
   try rw[Exit.noGoto_ret]
   go_ret3
   exact⟨xr6 HF.out.1.symm HF.out.2.1.symm HF.out.2.2.symm,rfl⟩
  ·by_cases hn:k=t.size
   ·subst hn
    have HF:Hid (X=0∧N=0∧E=3):=by
     have hl:xaG 10 l=t.size:=by have:=HLEN.out;omega
     have he:xbo l=3:=by have:=HLEN.out;unfold xbo;rw[if_neg (by omega),if_pos (by omega)]
     have:=xgm l 3 he (by decide)
     exact lH ⟨by rw[← HX.out,this.1],by rw[← HN.out,this.2],by rw[← HE.out,he]⟩
    have hk9:((t.size:Int) == 10)=false:=by simp;omega
    clear hll hk
    go_wp2_with fail
    try rw[Exit.noGoto_ret]
    go_ret3
    exact⟨xr6 HF.out.1.symm HF.out.2.1.symm HF.out.2.2.symm,rfl⟩
   ·have hlt:k<t.size:=by have:=HLEN.out;omega
    have h10':k<10:=by omega
    have hk0:(0:Int)≤(k:Int):=Int.natCast_nonneg _
    have hk1:(k:Int)<(t.size:Int):=by omega
    have hk9:((k:Int) == 10)=false:=by simp;omega
    have hkt:((k:Int) == (t.size:Int))=false:=by simp;omega
    have hca:=HAT.out k hlt
    have hcb:t[k].toNat<256:=xjz _
    by_cases hc:128≤t[k].toNat
    ·have HK:Hid (k+1≤xaG 10 l):=lH (xhe 10 l k hk h10' (by rw[HLEN.out];exact hlt) (by rw[hca];exact hc))
     have HV:Hid (k+1≤9→bits BinOp.or IntKind.u64 y (IntKind.u64.wrap (((t[k].toNat:Int) - 128)*2 ^ (7*k)))=xcF (l.take (k+1))) :=
      lH (fun h9=>xn4 l k y _ hk (by rw[HLEN.out];exact hlt) hca hc HY.out h9)
     have hw8:IntKind.u8.wrap ((t[k].toNat:Int) - 128)=(t[k].toNat:Int) - 128:=IntWalk.u8_in _ (by omega)
     clear HY hca hll hk
     go_wp2_with fail
     exact⟨⟨k+1,_,HK.out,by go_num,rfl,HV⟩,by simp[intOf];omega⟩
    ·have HS:=lH (xtu l k _ hk (by rw[HLEN.out];exact hlt) h10' hca (by omega))
     clear hca hll hk
     by_cases hA:k=9∧1<t[k].toNat
     ·have HF:Hid (X=0∧N=0∧E=11):=by
       have he:=HS.out.1 hA
       have:=xgm l 11 he (by decide)
       exact lH ⟨by rw[← HX.out,this.1],by rw[← HN.out,this.2],by rw[← HE.out,he]⟩
      clear HS
      obtain⟨rfl,hA2⟩:=hA
      go_wp2_with fail
      try rw[Exit.noGoto_ret]
      go_ret3
      exact⟨xr6 HF.out.1.symm HF.out.2.1.symm HF.out.2.2.symm,rfl⟩
     ·by_cases hB:0<k∧t[k].toNat=0
      ·have HF:Hid (X=0∧N=0∧E=4):=by
        have he:=HS.out.2.1 hA hB
        have:=xgm l 4 he (by decide)
        exact lH ⟨by rw[← HX.out,this.1],by rw[← HN.out,this.2],by rw[← HE.out,he]⟩
       clear HS
       obtain⟨hB1,hB2⟩:=hB
       have hc0:((t[k].toNat:Int) == 0)=true:=by simp;omega
       have hc1:decide (1<(t[k].toNat:Int))=false:=by simp;omega
       by_cases h9:k=9
       ·subst h9
        go_wp2_with fail
        try rw[Exit.noGoto_ret]
        go_ret3
        exact⟨xr6 HF.out.1.symm HF.out.2.1.symm HF.out.2.2.symm,rfl⟩
       ·have h9':((k:Int) == 9)=false:=by simp;omega
        go_wp2_with fail
        try rw[Exit.noGoto_ret]
        go_ret3
        exact⟨xr6 HF.out.1.symm HF.out.2.1.symm HF.out.2.2.symm,rfl⟩
      ·have hs:=HS.out.2.2 hA hB
       have hy:=HY.out (by omega)
       have hf:=xmQ l hs.1
       have HF:Hid (X=y+t[k].toNat*p7 k∧N=(k:Int)+1∧E=0) :=
        lH ⟨by rw[← HX.out,hf.1,hs.2.2.1,← hy],by rw[← HN.out,hf.2,hs.2.1],by rw[← HE.out,hs.1]⟩
       obtain⟨_,_,_,q1,q2,q3,q4⟩:=hs
       rw[← hy] at q1 q2 q4
       have HQ:=lH (And.intro q1 (And.intro q2 (And.intro q3 q4)))
       clear HS q1 q2 q3 q4 hf hy HY
       by_cases h9:k=9
       ·subst h9
        have hc0:((t[9].toNat:Int) == 0)=false:=by simp;omega
        have hc1:(t[9].toNat:Int)≤1:=by omega
        go_wp2_with fail
        try rw[Exit.noGoto_ret]
        go_ret3
        refine⟨xr6 ?_ HF.out.2.1.symm HF.out.2.2.symm,rfl⟩
        rw[HF.out.1]
        have:=or7 9 y t[9].toNat HQ.out.2.1 HQ.out.1 (by omega) HQ.out.2.2.1 HQ.out.2.2.2
        rw[← this,xew.2]
       ·have h9':((k:Int) == 9)=false:=by simp;omega
        have hd:(decide (0<(k:Int)) && ((t[k].toNat:Int) == 0))=false:=by simp;omega
        by_cases hk00:k=0
        ·subst hk00
         go_wp2_with fail
         try rw[Exit.noGoto_ret]
         go_ret3
         refine⟨xr6 ?_ HF.out.2.1.symm HF.out.2.2.symm,rfl⟩
         rw[HF.out.1]
         have:=or7 0 y t[0].toNat HQ.out.2.1 HQ.out.1 (by omega) HQ.out.2.2.1 HQ.out.2.2.2
         rw[← this]
         simp[p7]
        ·have hc0:((t[k].toNat:Int) == 0)=false:=by simp;omega
         have hkp:0<k:=by omega
         go_wp2_with fail
         try rw[Exit.noGoto_ret]
         go_ret3
         refine⟨xr6 ?_ HF.out.2.1.symm HF.out.2.2.symm,rfl⟩
         rw[HF.out.1]
         exact xwW k y t[k].toNat HQ.out.2.1 HQ.out.1 (by omega) HQ.out.2.2.1 HQ.out.2.2.2
def rst (t:ByteArray) (p:Int):List UInt8:=t.data.toList.drop p.toNat
theorem xm4 (t:ByteArray) (p:Int):(t.extract p.toNat t.size).data.toList=rst t p:=by
 unfold rst
 rw[ByteArray.data_extract,Array.toList_extract,List.extract_eq_take_drop,List.take_of_length_le]
 simp
theorem xs5 (t:ByteArray) (p:Int) (p0:0≤p) (p1:p≤t.size):((rst t p).length:Int)=t.size - p:=by
 unfold rst
 rw[List.length_drop]
 have:t.data.toList.length=t.size:=by simp
 omega
theorem xva (t:ByteArray) (p:Int) (p0:0≤p) (p1:p≤t.size) (h:xbo (rst t p)=0):1≤xjF (rst t p)∧p+xjF (rst t p)≤t.size∧xjF (rst t p)≤10:=by
 have h1:=xcM _ h
 have h2:=xs5 t p p0 p1
 unfold xjF
 omega
def xeF (t:ByteArray) (x p q:Int) (w:World) (e:Ending) (w':World):Prop:=e=.returned (.tuple #[.int .u64 x,.agg #[.string t,.int .i64 p,.int .i64 q]])∧Below w.heap.size w w'
theorem xwn (t:ByteArray) (p q r:Int) (w:World) (hm:t.size≤maxLen) (hr:xbc t p q=r) (h:r≠0):Calls Tryz.prog 195 #[.agg #[.string t,.int .i64 p,.int .i64 q]] w (xeF t 0 p r w):=by
 have HV:=lH (fun W=>hr ▸ xdn t p q W hm)
 have hne:(r != 0)=true:=by simp only[bne_iff_ne,ne_eq];exact h
 clear hr h hm
 go_enter Tryz.func195,Tryz.ntmps195
 go_wp2_with fail
 refine(HV.out _).mono ?_
 rintro e w1 ⟨rfl,hb⟩
 have hz:w.heap.size+2≤w1.heap.size:=by have:=hb.size;simp at this;omega
 have hbw:Below w.heap.size w w1:=Below.trans (by go_grown) (hb.mono (by simp;omega))
 have f0:∀ o,w1.frozen? ⟨w.heap.size,o,none⟩=false:=fun o=>((xaf hb).2 _ _ (by simp;omega)).trans (by simp[go_sem])
 have f1:∀ o,w1.frozen? ⟨w.heap.size+1,o,none⟩=false:=fun o=>((xaf hb).2 _ _ (by simp)).trans (by simp[go_sem])
 have c0:w1.cell? ⟨w.heap.size,0,none⟩=some (.string t):=((xaf hb).1 _ _ (by simp;omega)).trans (by simp[go_sem])
 have c1:w1.cell? ⟨w.heap.size,1,none⟩=some (.int .i64 p):=((xaf hb).1 _ _ (by simp;omega)).trans (by simp[go_sem])
 have c2:w1.cell? ⟨w.heap.size,2,none⟩=some (.int .i64 q):=((xaf hb).1 _ _ (by simp;omega)).trans (by simp[go_sem])
 have c3:w1.cell? ⟨w.heap.size+1,0,none⟩=some (.string { data:=#[] }):=((xaf hb).1 _ _ (by simp)).trans (by simp[go_sem])
 have c4:w1.cell? ⟨w.heap.size+1,1,none⟩=some (.int .i64 0):=((xaf hb).1 _ _ (by simp)).trans (by simp[go_sem])
 have c5:w1.cell? ⟨w.heap.size+1,2,none⟩=some (.int .i64 0):=((xaf hb).1 _ _ (by simp)).trans (by simp[go_sem])
 clear hb HV
 go_wp2_with fail
 go_region
 all_goals
  go_wp2
  refine bodyPost_ret (v:=.tuple #[.int .u64 0,.agg #[.string t,.int .i64 p,.int .i64 r]]) (by simp[results,Tryz.results195,go_sem,c3,c4,c5]) rfl ⟨rfl,?_⟩
  go_grown
theorem xwE (t:ByteArray) (p q r:Int) (w:World) (hm:t.size≤maxLen) (h0:xbc t p q=0) (hr:xbo (rst t p)=r) (h:r≠0):Calls Tryz.prog 195 #[.agg #[.string t,.int .i64 p,.int .i64 q]] w (xeF t 0 p r w):=by
 have HV:=lH (fun W=>h0 ▸ xdn t p q W hm)
 obtain⟨rfl,p0,p1⟩:=xep t p q h0
 have hne:(r != 0)=true:=by simp only[bne_iff_ne,ne_eq];exact h
 have hzz:(t.extract p.toNat t.size).size≤maxLen:=by simp;omega
 have HF:Hid (∀ W,Calls Tryz.prog 268 #[.string (t.extract p.toNat t.size)] W fun e w'=>e=.returned (.tuple #[.int .u64 0,.int .i64 0,.int .i64 r])∧W=w'):=by
  apply lH
  intro W
  have:=xf1 (t.extract p.toNat t.size) W hzz
  rw[xm4,hr,(xgm _ r hr h).1,(xgm _ r hr h).2] at this
  exact this
 have HM:=lH hm
 have H0:=lH h0
 clear hr h hm hzz h0
 go_enter Tryz.func195,Tryz.ntmps195
 go_wp2_with fail
 refine(HV.out _).mono ?_
 rintro e w1 ⟨rfl,hb⟩
 have hz:w.heap.size+2≤w1.heap.size:=by have:=hb.size;simp at this;omega
 have hbw:Below w.heap.size w w1:=Below.trans (by go_grown) (hb.mono (by simp;omega))
 have f0:∀ o,w1.frozen? ⟨w.heap.size,o,none⟩=false:=fun o=>((xaf hb).2 _ _ (by simp;omega)).trans (by simp[go_sem])
 have f1:∀ o,w1.frozen? ⟨w.heap.size+1,o,none⟩=false:=fun o=>((xaf hb).2 _ _ (by simp)).trans (by simp[go_sem])
 have c0:w1.cell? ⟨w.heap.size,0,none⟩=some (.string t):=((xaf hb).1 _ _ (by simp;omega)).trans (by simp[go_sem])
 have c1:w1.cell? ⟨w.heap.size,1,none⟩=some (.int .i64 p):=((xaf hb).1 _ _ (by simp;omega)).trans (by simp[go_sem])
 have c2:w1.cell? ⟨w.heap.size,2,none⟩=some (.int .i64 0):=((xaf hb).1 _ _ (by simp;omega)).trans (by simp[go_sem])
 have c3:w1.cell? ⟨w.heap.size+1,0,none⟩=some (.string { data:=#[] }):=((xaf hb).1 _ _ (by simp)).trans (by simp[go_sem])
 have c4:w1.cell? ⟨w.heap.size+1,1,none⟩=some (.int .i64 0):=((xaf hb).1 _ _ (by simp)).trans (by simp[go_sem])
 have c5:w1.cell? ⟨w.heap.size+1,2,none⟩=some (.int .i64 0):=((xaf hb).1 _ _ (by simp)).trans (by simp[go_sem])
 clear hb HV
 go_wp2_with fail
 refine(xj9 t p _ HM.out H0.out p0 p1).mono ?_
 rintro e w2 ⟨rfl,hb⟩
 have hz2:w1.heap.size≤w2.heap.size:=by have:=hb.size;simp only[World.size_setCell] at this;exact this
 have hbw2:Below w.heap.size w w2:=Below.trans (by go_grown) (hb.mono (by simp only[World.size_setCell];omega))
 have g0:∀ o,w2.frozen? ⟨w.heap.size,o,none⟩=false:=fun o=>((xaf hb).2 _ _ (by simp only[World.size_setCell];omega)).trans (by simp[go_sem,f0])
 have g1:∀ o,w2.frozen? ⟨w.heap.size+1,o,none⟩=false:=fun o=>((xaf hb).2 _ _ (by simp only[World.size_setCell];omega)).trans (by simp[go_sem,f1])
 have d0:w2.cell? ⟨w.heap.size,0,none⟩=some (.string t):=((xaf hb).1 _ _ (by simp only[World.size_setCell];omega)).trans (by simp[go_sem,c0])
 have d1:w2.cell? ⟨w.heap.size,1,none⟩=some (.int .i64 p):=((xaf hb).1 _ _ (by simp only[World.size_setCell];omega)).trans (by simp[go_sem,c1])
 have d2:w2.cell? ⟨w.heap.size,2,none⟩=some (.int .i64 0):=((xaf hb).1 _ _ (by simp only[World.size_setCell];omega)).trans (by simp[go_sem,c2])
 have d3:w2.cell? ⟨w.heap.size+1,0,none⟩=some (.string { data:=#[] }):=((xaf hb).1 _ _ (by simp only[World.size_setCell];omega)).trans (by simp[go_sem,c3])
 have d4:w2.cell? ⟨w.heap.size+1,1,none⟩=some (.int .i64 0):=((xaf hb).1 _ _ (by simp only[World.size_setCell];omega)).trans (by simp[go_sem,c4])
 have d5:w2.cell? ⟨w.heap.size+1,2,none⟩=some (.int .i64 0):=((xaf hb).1 _ _ (by simp only[World.size_setCell];omega)).trans (by simp[go_sem,c5])
 clear hb c0 c1 c2 c3 c4 c5 f0 f1 hbw
 go_wp2_with fail
 refine(HF.out _).mono ?_
 rintro e w3 ⟨rfl,rfl⟩
 clear HF
 go_wp2_with fail
 go_region
 all_goals
  go_wp2
  refine bodyPost_ret (v:=.tuple #[.int .u64 0,.agg #[.string t,.int .i64 p,.int .i64 r]]) (by simp[results,Tryz.results195,go_sem,d3,d4,d5]) rfl ⟨rfl,?_⟩
  go_grown
theorem xwz (t:ByteArray) (p q x n:Int) (w:World) (hm:t.size≤maxLen) (h0:xbc t p q=0) (hr:xbo (rst t p)=0) (hx:xaW (rst t p)=x) (hn:xjF (rst t p)=n):Calls Tryz.prog 195 #[.agg #[.string t,.int .i64 p,.int .i64 q]] w (xeF t x (p+n) 0 w):=by
 have HV:=lH (fun W=>h0 ▸ xdn t p q W hm)
 obtain⟨rfl,p0,p1⟩:=xep t p q h0
 have hcb:=xva t p p0 p1 hr
 rw[hn] at hcb
 have hzz:(t.extract p.toNat t.size).size≤maxLen:=by simp;omega
 have HF:Hid (∀ W,Calls Tryz.prog 268 #[.string (t.extract p.toNat t.size)] W fun e w'=>e=.returned (.tuple #[.int .u64 x,.int .i64 n,.int .i64 0])∧W=w'):=by
  apply lH
  intro W
  have:=xf1 (t.extract p.toNat t.size) W hzz
  rw[xm4,hr,(xmQ _ hr).1,(xmQ _ hr).2,hx,hn] at this
  exact this
 have HM:=lH hm
 have H0:=lH h0
 have hm63:=hm
 unfold maxLen at hm63
 clear hr hm hzz h0 hx hn
 obtain⟨n0,n1,n2⟩:=hcb
 go_enter Tryz.func195,Tryz.ntmps195
 go_wp2_with fail
 refine(HV.out _).mono ?_
 rintro e w1 ⟨rfl,hb⟩
 have hz:w.heap.size+2≤w1.heap.size:=by have:=hb.size;simp at this;omega
 have hbw:Below w.heap.size w w1:=Below.trans (by go_grown) (hb.mono (by simp;omega))
 have f0:∀ o,w1.frozen? ⟨w.heap.size,o,none⟩=false:=fun o=>((xaf hb).2 _ _ (by simp;omega)).trans (by simp[go_sem])
 have f1:∀ o,w1.frozen? ⟨w.heap.size+1,o,none⟩=false:=fun o=>((xaf hb).2 _ _ (by simp)).trans (by simp[go_sem])
 have c0:w1.cell? ⟨w.heap.size,0,none⟩=some (.string t):=((xaf hb).1 _ _ (by simp;omega)).trans (by simp[go_sem])
 have c1:w1.cell? ⟨w.heap.size,1,none⟩=some (.int .i64 p):=((xaf hb).1 _ _ (by simp;omega)).trans (by simp[go_sem])
 have c2:w1.cell? ⟨w.heap.size,2,none⟩=some (.int .i64 0):=((xaf hb).1 _ _ (by simp;omega)).trans (by simp[go_sem])
 have c3:w1.cell? ⟨w.heap.size+1,0,none⟩=some (.string { data:=#[] }):=((xaf hb).1 _ _ (by simp)).trans (by simp[go_sem])
 have c4:w1.cell? ⟨w.heap.size+1,1,none⟩=some (.int .i64 0):=((xaf hb).1 _ _ (by simp)).trans (by simp[go_sem])
 have c5:w1.cell? ⟨w.heap.size+1,2,none⟩=some (.int .i64 0):=((xaf hb).1 _ _ (by simp)).trans (by simp[go_sem])
 clear hb HV
 go_wp2_with fail
 refine(xj9 t p _ HM.out H0.out p0 p1).mono ?_
 rintro e w2 ⟨rfl,hb⟩
 have hz2:w1.heap.size≤w2.heap.size:=by have:=hb.size;simp only[World.size_setCell] at this;exact this
 have hbw2:Below w.heap.size w w2:=Below.trans (by go_grown) (hb.mono (by simp only[World.size_setCell];omega))
 have g0:∀ o,w2.frozen? ⟨w.heap.size,o,none⟩=false:=fun o=>((xaf hb).2 _ _ (by simp only[World.size_setCell];omega)).trans (by simp[go_sem,f0])
 have g1:∀ o,w2.frozen? ⟨w.heap.size+1,o,none⟩=false:=fun o=>((xaf hb).2 _ _ (by simp only[World.size_setCell];omega)).trans (by simp[go_sem,f1])
 have d0:w2.cell? ⟨w.heap.size,0,none⟩=some (.string t):=((xaf hb).1 _ _ (by simp only[World.size_setCell];omega)).trans (by simp[go_sem,c0])
 have d1:w2.cell? ⟨w.heap.size,1,none⟩=some (.int .i64 p):=((xaf hb).1 _ _ (by simp only[World.size_setCell];omega)).trans (by simp[go_sem,c1])
 have d2:w2.cell? ⟨w.heap.size,2,none⟩=some (.int .i64 0):=((xaf hb).1 _ _ (by simp only[World.size_setCell];omega)).trans (by simp[go_sem,c2])
 have d3:w2.cell? ⟨w.heap.size+1,0,none⟩=some (.string { data:=#[] }):=((xaf hb).1 _ _ (by simp only[World.size_setCell];omega)).trans (by simp[go_sem,c3])
 have d4:w2.cell? ⟨w.heap.size+1,1,none⟩=some (.int .i64 0):=((xaf hb).1 _ _ (by simp only[World.size_setCell];omega)).trans (by simp[go_sem,c4])
 have d5:w2.cell? ⟨w.heap.size+1,2,none⟩=some (.int .i64 0):=((xaf hb).1 _ _ (by simp only[World.size_setCell];omega)).trans (by simp[go_sem,c5])
 clear hb c0 c1 c2 c3 c4 c5 f0 f1 hbw
 go_wp2_with fail
 refine(HF.out _).mono ?_
 rintro e w3 ⟨rfl,rfl⟩
 clear HF
 go_wp2_with fail
 go_region
 all_goals
  go_wp2
  refine bodyPost_ret (v:=.tuple #[.int .u64 x,.agg #[.string t,.int .i64 (p+n),.int .i64 0]]) (by simp[results,Tryz.results195,go_sem,d3,d4,d5]) rfl ⟨rfl,?_⟩
  go_grown
end Go.Proofs.YtjinnigjfopbcaaGreatDoor
