/- bMA. -/
import Derived.Test.YtjinnigjfopbcaaGreatDoorVs
import Derived.Test.YtjinnigjfopbcaaGreatDoorVa4
set_option maxHeartbeats 16000000
namespace Go.Proofs.YtjinnigjfopbcaaGreatDoor
set_option linter.unusedVariables false
set_option linter.unusedSimpArgs false
open Go.RowKit
set_option maxRecDepth 20000
def sgn (x n:Int):Int:=if x % 2 ^ (8*n).toNat<2 ^ (8*n - 1).toNat then x % 2 ^ (8*n).toNat else x % 2 ^ (8*n).toNat - 2 ^ (8*n).toNat
theorem xxn {n:Int} (h0:1≤n) (h1:n≤8):n=1∨n=2∨n=3∨n=4∨n=5∨n=6∨n=7∨n=8:=by omega
theorem wrap_u64 (n:Int):IntKind.u64.wrap n=n % 18446744073709551616:=by
 simp only[IntKind.wrap,IntKind.bits,IntKind.signed,Bool.false_and,Int.reducePow];simp
theorem xif (x n:Int) (h0:1≤n) (h1:n≤8) :
  wrap64 (IntKind.u64.wrap (x*2 ^ (8*(8 - n)).toNat)) / 2 ^ (8*(8 - n)).toNat=sgn x n:=by
 unfold sgn
 rw[wrap_u64]
 unfold wrap64
 rcases xxn h0 h1 with rfl|rfl|rfl|rfl|rfl|rfl|rfl|rfl <;> simp only[Int.reduceMul,Int.reduceSub,Int.reduceToNat,Int.reducePow,Int.mul_one] <;> split <;> omega
theorem xkl (n:Int) (w:World) (h0:1≤n) (h1:n≤8):Calls Tryz.prog 296 #[.int .i64 n] w fun e w'=>e=.returned (.bool true)∧w=w':=by
 go_enter Tryz.func296,Tryz.ntmps296
 go_wp2
 go_ret
 exact⟨rfl,rfl⟩
theorem xur (n:Int) (w:World) (h:n<1∨8<n):Calls Tryz.prog 296 #[.int .i64 n] w fun e w'=>e=.returned (.bool false)∧w=w':=by
 rcases h with h|h
 ·go_enter Tryz.func296,Tryz.ntmps296
  go_wp2
  go_ret
  exact⟨rfl,rfl⟩
 ·have h1:1≤n:=by omega
  have h2:decide (n≤8)=false:=by simp;omega
  go_enter Tryz.func296,Tryz.ntmps296
  go_wp2
  go_ret
  exact⟨rfl,rfl⟩
theorem xnG (x n:Int) (w:World) (h0:1≤n) (h1:n≤8):Calls Tryz.prog 297 #[.int .u64 x,.int .i64 n] w fun e w'=>e=.returned (.tuple #[.int .i64 (sgn x n),.int .i64 0])∧w=w':=by
 go_enter Tryz.func297,Tryz.ntmps297
 go_wp2_with (go_at_call 296;refine(xkl _ _ (by omega) (by omega)).mono ?_;rintro e w' ⟨rfl,rfl⟩)
 go_ret2
 exact⟨xoj (xif x n h0 h1) rfl,rfl⟩
theorem xr4 (t:ByteArray) (p b:Int) (w:World):Calls Tryz.prog 199 #[.agg #[.string t,.int .i64 p,.int .i64 b]] w fun e w'=>e=.returned (.int .i64 b)∧Below w.heap.size w w':=by
 go_enter Tryz.func199,Tryz.ntmps199
 go_wp2
 go_ret
 exact⟨rfl,(Below.refl _ _).alloc (Nat.le_refl _) _⟩
theorem xmV (t:ByteArray) (p b:Int) (w:World) (h0:0≤p) (h1:p≤t.size):Calls Tryz.prog 200 #[.agg #[.string t,.int .i64 p,.int .i64 b]] w fun e w'=>e=.returned (.int .i64 0)∧Below w.heap.size w w':=by
 go_enter Tryz.func200,Tryz.ntmps200
 go_wp2
 go_ret
 exact⟨rfl,(Below.refl _ _).alloc (Nat.le_refl _) _⟩
theorem xrg (t:ByteArray) (p b:Int) (w:World) (h:p<0∨t.size<p):Calls Tryz.prog 200 #[.agg #[.string t,.int .i64 p,.int .i64 b]] w fun e w'=>e=.returned (.int .i64 2)∧Below w.heap.size w w':=by
 rcases h with h|h
 ·go_enter Tryz.func200,Tryz.ntmps200
  go_wp2
  go_ret
  exact⟨rfl,(Below.refl _ _).alloc (Nat.le_refl _) _⟩
 ·have h0:¬ p<0:=by omega
  go_enter Tryz.func200,Tryz.ntmps200
  go_wp2
  go_ret
  exact⟨rfl,(Below.refl _ _).alloc (Nat.le_refl _) _⟩
def xaM:List Int→Int
 | []=>0
 | r :: t=>if r=0 then xaM t else r
def xzc (rs:List Int) (k:Nat):Prop:=xaM (rs.drop k)=xaM rs
theorem xiQ (rs:List Int) (k:Nat) (h:k<rs.length) (hz:rs.getD k 0=0):xaM (rs.drop (k+1))=xaM (rs.drop k):=by
 rw[List.drop_eq_getElem_cons h]
 have:rs[k]=0:=by simpa[h] using hz
 simp[xaM,this]
theorem xk4 (rs:List Int) (k:Nat) (h:k<rs.length) (hz:rs.getD k 0≠0):rs.getD k 0=xaM (rs.drop k):=by
 rw[List.drop_eq_getElem_cons h]
 have e:rs.getD k 0=rs[k]:=by simp[h]
 rw[e] at hz ⊢
 simp[xaM,hz]
def xvN (w:World) (b i:Nat) (r:Int):Prop:=∃ f caps,w.cell? ⟨b,i,none⟩=some (.func (.func f) caps #[])∧(∀ W,Sem.run Tryz.prog (callFunc f caps) W=.ok (.enter f caps) W)∧∀ W,Calls Tryz.prog f caps W fun e W'=>e=.returned (.int .i64 r)∧Below W.heap.size W W'
theorem xee (b len:Nat) (rs:List Int) (w:World) (hb:b<w.heap.size) (hl:rs.length=len) (hm:len≤4) (hA:∀ i,i<len→xvN w b i (rs.getD i 0)) :
  Calls Tryz.prog 198 #[.slice (some ⟨b,0,none⟩) len len] w fun e w'=>e=.returned (.int .i64 (xaM rs))∧Below w.heap.size w w':=by
 have HA:=lH hA;clear hA
 have HL:=lH hl;clear hl
 go_enter Tryz.func198,Tryz.ntmps198
 go_wp2
 go_loopw [8] (fun i wr=>∃ k:Nat,k≤len∧i=.int .i64 k∧xzc rs k∧Below w.heap.size w wr) (fun i _=>len - (intOf i).toNat)
 case atStart=>exact⟨0,Nat.zero_le _,rfl,by simp[xzc],Below.refl _ _⟩
 case round =>
  obtain⟨k,hk,rfl,hu,hbw⟩:=hrel
  by_cases hlt:k<len
  ·obtain⟨f,caps,hcell,hrun,hc⟩:=HA.out k hlt
   have hcell':=(hbw.cell (p:=⟨b,k,none⟩) hb).trans hcell
   clear hcell
   have HC:=lH hc;clear hc
   by_cases hz:rs.getD k 0=0
   ·have hU:xzc rs (k+1):=(xiQ rs k (by rw[HL.out];exact hlt) hz).trans hu
    have hz':(rs.getD k 0 != 0)=false:=by simp only[hz];rfl
    have HZ:=lH hz;clear hz
    generalize rs.getD k 0=r at *
    go_wp2_with (with_reducible (refine(HC.out _).mono ?_);rintro e w1 ⟨rfl,hb1⟩)
    go_roundw
    case rel=>exact⟨k+1,by omega,by go_num,hU,hbw.trans (hb1.mono hbw.size)⟩
    case measure=>simp[intOf];omega
   ·have hU:rs.getD k 0=xaM rs:=(xk4 rs k (by rw[HL.out];exact hlt) hz).trans hu
    have hz':(rs.getD k 0 != 0)=true:=by simp only[bne_iff_ne,ne_eq];exact hz
    have HU:=lH hU;clear hU
    clear hz
    generalize rs.getD k 0=r at *
    go_wp2_with (with_reducible (refine(HC.out _).mono ?_);rintro e w1 ⟨rfl,hb1⟩)
    go_ret
    exact⟨xal HU.out,hbw.trans (hb1.mono hbw.size)⟩
  ·obtain rfl:k=len:=by omega
   go_wp2
   go_ret
   refine⟨xal ?_,hbw⟩
   rw[← hu,← HL.out,List.drop_length];rfl
def xaN (t:ByteArray) (p:Int):Int:=if 0≤p∧p≤t.size then 0 else 2
def xky (n:Int):Int:=if 1≤n∧n≤8 then 0 else 2
def xcq (n:Int):Int:=if n<0 then 2 else 0
def xeh (t:ByteArray) (p n:Int):Int:=if wrap64 (t.size - p)<n then 3 else 0
def xdB (t:ByteArray) (p:Int):Int:=if p<t.size then 4 else 0
theorem xm9 (t:ByteArray) (p b:Int) (w:World):Calls Tryz.prog 200 #[.agg #[.string t,.int .i64 p,.int .i64 b]] w fun e w'=>e=.returned (.int .i64 (xaN t p))∧Below w.heap.size w w':=by
 by_cases h:0≤p∧p≤t.size
 ·rw[show xaN t p=0 from if_pos h]
  exact xmV t p b w h.1 h.2
 ·rw[show xaN t p=2 from if_neg h]
  exact xrg t p b w (by omega)
theorem xuc (t:ByteArray) (p b n:Int) (w:World):Calls Tryz.prog 241 #[.agg #[.string t,.int .i64 p,.int .i64 b,.int .i64 n]] w fun e w'=>e=.returned (.int .i64 (xky n))∧Below w.heap.size w w':=by
 by_cases h:1≤n∧n≤8
 ·have H:Hid (xky n=0):=if_pos h
  go_enter Tryz.func241,Tryz.ntmps241
  go_wp2_with (go_at_call 296;refine(xkl _ _ (by omega) (by omega)).mono ?_;rintro e w' ⟨rfl,rfl⟩)
  go_ret
  exact⟨xal H.out.symm,(Below.refl _ _).alloc (Nat.le_refl _) _⟩
 ·have H:Hid (xky n=2):=if_neg h
  have h':n<1∨8<n:=by omega
  clear h
  go_enter Tryz.func241,Tryz.ntmps241
  go_wp2_with (go_at_call 296;refine(xur _ _ (by omega)).mono ?_;rintro e w' ⟨rfl,rfl⟩)
  go_ret
  exact⟨xal H.out.symm,(Below.refl _ _).alloc (Nat.le_refl _) _⟩
theorem xkX (t:ByteArray) (p b n:Int) (w:World):Calls Tryz.prog 238 #[.agg #[.string t,.int .i64 p,.int .i64 b,.int .i64 n]] w fun e w'=>e=.returned (.int .i64 (xcq n))∧Below w.heap.size w w':=by
 by_cases h:n<0
 ·have H:Hid (xcq n=2):=if_pos h
  go_enter Tryz.func238,Tryz.ntmps238
  go_wp2
  go_ret
  exact⟨xal H.out.symm,(Below.refl _ _).alloc (Nat.le_refl _) _⟩
 ·have H:Hid (xcq n=0):=if_neg h
  go_enter Tryz.func238,Tryz.ntmps238
  go_wp2
  go_ret
  exact⟨xal H.out.symm,(Below.refl _ _).alloc (Nat.le_refl _) _⟩
theorem xts (t:ByteArray) (p b n:Int) (w:World):Calls Tryz.prog 239 #[.agg #[.string t,.int .i64 p,.int .i64 b,.int .i64 n]] w fun e w'=>e=.returned (.int .i64 (xeh t p n))∧Below w.heap.size w w':=by
 by_cases h:wrap64 (t.size - p)<n
 ·have H:Hid (xeh t p n=3):=if_pos h
  go_enter Tryz.func239,Tryz.ntmps239
  go_wp2
  all_goals
   go_ret
   exact⟨xal H.out.symm,(Below.refl _ _).alloc (Nat.le_refl _) _⟩
 ·have H:Hid (xeh t p n=0):=if_neg h
  go_enter Tryz.func239,Tryz.ntmps239
  go_wp2
  all_goals
   go_ret
   exact⟨xal H.out.symm,(Below.refl _ _).alloc (Nat.le_refl _) _⟩
theorem xoF (t:ByteArray) (p b:Int) (w:World):Calls Tryz.prog 201 #[.agg #[.string t,.int .i64 p,.int .i64 b]] w fun e w'=>e=.returned (.int .i64 (xdB t p))∧Below w.heap.size w w':=by
 by_cases h:p<t.size
 ·have H:Hid (xdB t p=4):=if_pos h
  go_enter Tryz.func201,Tryz.ntmps201
  go_wp2
  go_ret
  exact⟨xal H.out.symm,(Below.refl _ _).alloc (Nat.le_refl _) _⟩
 ·have H:Hid (xdB t p=0):=if_neg h
  go_enter Tryz.func201,Tryz.ntmps201
  go_wp2
  go_ret
  exact⟨xal H.out.symm,(Below.refl _ _).alloc (Nat.le_refl _) _⟩
theorem xmF (t:ByteArray) (p b n:Int) (w:World) (p0:0≤p) (n0:0≤n) (hp:p+n≤t.size) (hm:t.size≤maxLen) :
  Calls Tryz.prog 240 #[.agg #[.string t,.int .i64 p,.int .i64 b],.int .i64 n] w fun e w'=>e=.returned (.tuple #[.string (t.extract p.toNat (p+n).toNat),.agg #[.string t,.int .i64 (p+n),.int .i64 b]])∧Below w.heap.size w w':=by
 unfold maxLen at hm
 go_enter Tryz.func240,Tryz.ntmps240
 go_wp2
 go_region
 all_goals
  go_wp2
  refine bodyPost_ret (v:=.tuple #[.string (t.extract p.toNat (p+n).toNat),.agg #[.string t,.int .i64 (p+n),.int .i64 b]]) (by simp[results,Tryz.results240,go_sem]) rfl ⟨rfl,?_⟩
  go_grown
def xfE:List UInt8→Int
 | []=>0
 | c :: t=>c.toNat+256*xfE t
def xjc:Nat→Int
 | 0=>1
 | k+1=>256*xjc k
theorem xqJ (l:List UInt8):0≤xfE l∧xfE l<xjc l.length:=by
 induction l with
 | nil=>simp[xfE,xjc]
 | cons c t ih =>
  have:c.toNat<256:=c.toNat_lt
  simp only[xfE,xjc,List.length_cons]
  omega
theorem xjo (k:Nat) (h:k≤7):xjc k≤72057594037927936:=by
 rcases(by omega:k=0∨k=1∨k=2∨k=3∨k=4∨k=5∨k=6∨k=7) with rfl|rfl|rfl|rfl|rfl|rfl|rfl|rfl <;> decide
theorem xkA (c:UInt8):c.toNat<256:=c.toNat_lt
theorem xu0 (x:Int) (c:Nat) (x0:0≤x) (x1:x<72057594037927936) (hc:c<256):bits BinOp.or IntKind.u64 (x*256) (IntKind.u64.wrap c)=c+256*x:=by
 rw[wrap_u64]
 rw[u64_or _ _ (by omega) (by omega) (by omega) (by omega)]
 rw[nat_join 8 _ _ (by omega) (by omega)]
 omega
theorem xi2 (l:List UInt8) (k:Nat) (h1:1≤k) (hk:k≤l.length):xfE (l.drop (k - 1))=(l[k - 1]'(by omega)).toNat+256*xfE (l.drop k):=by
 rw[List.drop_eq_getElem_cons (by omega:k - 1<l.length)]
 simp only[xfE]
 rw[show k - 1+1=k from by omega]
theorem xmT (t:ByteArray) (w:World) (h8:t.size≤8) :
  Calls Tryz.prog 242 #[.string t] w fun e w'=>e=.returned (.int .u64 (xfE t.data.toList))∧w=w':=by
 go_enter Tryz.func242,Tryz.ntmps242
 go_wp2
 go_loop [3,4] (fun x i=>∃ k:Nat,k≤t.size∧i=.int .i64 ((k:Int) - 1)∧x=.int .u64 (xfE (t.data.toList.drop k))) (fun _ i=>(intOf i+1).toNat)
 case atStart=>exact⟨t.size,Nat.le_refl _,rfl,by rw[List.drop_of_length_le (by simp)];rfl⟩
 case round =>
  obtain⟨k,hk,rfl,rfl⟩:=hrel
  by_cases hlt:1≤k
  ·have hbd:0≤xfE (t.data.toList.drop k)∧xfE (t.data.toList.drop k)<72057594037927936:=by
    have:=xqJ (t.data.toList.drop k)
    have:=xjo (t.data.toList.drop k).length (by simp;omega)
    omega
   generalize hx:xfE (t.data.toList.drop k)=x at *
   have HX:=lH hx;clear hx
   have hs:=xi2 t.data.toList k hlt (by simpa using hk)
   rw[HX.out] at hs
   have hc:t[k - 1].toNat<256:=xkA _
   have ho:=xu0 x (t[k - 1].toNat) hbd.1 hbd.2 hc
   have HS:=lH (ho.trans hs.symm);clear hs ho hc
   go_wp2
   refine⟨⟨k - 1,by omega,?_,?_⟩,?_⟩
   ·congr 1;omega
   ·exact congrArg _ HS.out
   ·simp[intOf];omega
  ·obtain rfl:k=0:=by omega
   go_wp2
   go_ret
   exact⟨by simp,rfl⟩
theorem xep (w:World) (b i:Nat) (t:ByteArray) (p q:Int) (h:w.cell? ⟨b,i,none⟩=some (.func (.func 199) #[.agg #[.string t,.int .i64 p,.int .i64 q]] #[])):xvN w b i q :=
 ⟨199,_,h,fun _=>by kernel_rfl,fun W=>xr4 t p q W⟩
theorem xcK (w:World) (b i:Nat) (t:ByteArray) (p q:Int) (h:w.cell? ⟨b,i,none⟩=some (.func (.func 200) #[.agg #[.string t,.int .i64 p,.int .i64 q]] #[])):xvN w b i (xaN t p) :=
 ⟨200,_,h,fun _=>by kernel_rfl,fun W=>xm9 t p q W⟩
theorem xqe (w:World) (b i:Nat) (t:ByteArray) (p q n:Int) (h:w.cell? ⟨b,i,none⟩=some (.func (.func 241) #[.agg #[.string t,.int .i64 p,.int .i64 q,.int .i64 n]] #[])):xvN w b i (xky n) :=
 ⟨241,_,h,fun _=>by kernel_rfl,fun W=>xuc t p q n W⟩
theorem xiG (w:World) (b i:Nat) (t:ByteArray) (p q n:Int) (h:w.cell? ⟨b,i,none⟩=some (.func (.func 239) #[.agg #[.string t,.int .i64 p,.int .i64 q,.int .i64 n]] #[])):xvN w b i (xeh t p n) :=
 ⟨239,_,h,fun _=>by kernel_rfl,fun W=>xts t p q n W⟩
theorem xiw (w:World) (b i:Nat) (t:ByteArray) (p q n:Int) (h:w.cell? ⟨b,i,none⟩=some (.func (.func 238) #[.agg #[.string t,.int .i64 p,.int .i64 q,.int .i64 n]] #[])):xvN w b i (xcq n) :=
 ⟨238,_,h,fun _=>by kernel_rfl,fun W=>xkX t p q n W⟩
theorem xnE (w:World) (b i:Nat) (t:ByteArray) (p q:Int) (h:w.cell? ⟨b,i,none⟩=some (.func (.func 201) #[.agg #[.string t,.int .i64 p,.int .i64 q]] #[])):xvN w b i (xdB t p) :=
 ⟨201,_,h,fun _=>by kernel_rfl,fun W=>xoF t p q W⟩
theorem xbf (W:World) (b:Nat) (cs:Array Value) (T:TypeId) (hb:b=W.heap.size) (i:Nat) (v:Value) (h:cs[i]?=some v):(W.alloc (.cells cs T)).cell? ⟨b,i,none⟩=some v:=by
 rw[World.cell?_alloc_at _ _ _ _ hb];exact h
theorem xag {B:Nat} {W w1:World} (hb:Below B W w1):(∀ b o,b<B→w1.cell? ⟨b,o,none⟩=W.cell? ⟨b,o,none⟩)∧(∀ b o,b<B→w1.frozen? ⟨b,o,none⟩=W.frozen? ⟨b,o,none⟩) :=
 ⟨fun b o h=>hb.cell (p:=⟨b,o,none⟩) h,fun b o h=>hb.frozen (p:=⟨b,o,none⟩) h⟩
def xmG (t:ByteArray) (p q n:Int):Int:=xaM [q,xaN t p,xky n,xeh t p n]
def xbL (t:ByteArray) (p q n:Int):Int:=xaM [q,xaN t p,xcq n,xeh t p n]
def xbq (t:ByteArray) (p q:Int):Int:=xaM [q,xaN t p]
def xup (t:ByteArray) (p q:Int):Int:=xaM [q,xaN t p,xdB t p]
theorem xoL (W:World) (b:Nat) (hb:b=W.heap.size) (t:ByteArray) (p q n:Int) :
  Calls Tryz.prog 198 #[.slice (some ⟨b,0,none⟩) 4 4] (W.alloc (.cells #[.func (.func 199) #[.agg #[.string t,.int .i64 p,.int .i64 q]] #[],.func (.func 200) #[.agg #[.string t,.int .i64 p,.int .i64 q]] #[],.func (.func 241) #[.agg #[.string t,.int .i64 p,.int .i64 q,.int .i64 n]] #[],.func (.func 239) #[.agg #[.string t,.int .i64 p,.int .i64 q,.int .i64 n]] #[]] 213))
   fun e w'=>e=.returned (.int .i64 (xmG t p q n))∧Below (b+1) (W.alloc (.cells #[.func (.func 199) #[.agg #[.string t,.int .i64 p,.int .i64 q]] #[],.func (.func 200) #[.agg #[.string t,.int .i64 p,.int .i64 q]] #[],.func (.func 241) #[.agg #[.string t,.int .i64 p,.int .i64 q,.int .i64 n]] #[],.func (.func 239) #[.agg #[.string t,.int .i64 p,.int .i64 q,.int .i64 n]] #[]] 213)) w':=by
 refine(xee b 4 [q,xaN t p,xky n,xeh t p n] _ (by rw[World.size_alloc];omega) rfl (by omega) ?_).mono ?_
 ·intro i hi
  rcases(by omega:i=0∨i=1∨i=2∨i=3) with rfl|rfl|rfl|rfl
  ·exact xep _ _ _ t p q (xbf _ _ _ _ hb _ _ rfl)
  ·exact xcK _ _ _ t p q (xbf _ _ _ _ hb _ _ rfl)
  ·exact xqe _ _ _ t p q n (xbf _ _ _ _ hb _ _ rfl)
  ·exact xiG _ _ _ t p q n (xbf _ _ _ _ hb _ _ rfl)
 ·rintro e w' ⟨rfl,h⟩
  exact⟨rfl,h.mono (by rw[World.size_alloc];omega)⟩
theorem xgz (W:World) (b:Nat) (hb:b=W.heap.size) (t:ByteArray) (p q n:Int) :
  Calls Tryz.prog 198 #[.slice (some ⟨b,0,none⟩) 4 4] (W.alloc (.cells #[.func (.func 199) #[.agg #[.string t,.int .i64 p,.int .i64 q]] #[],.func (.func 200) #[.agg #[.string t,.int .i64 p,.int .i64 q]] #[],.func (.func 238) #[.agg #[.string t,.int .i64 p,.int .i64 q,.int .i64 n]] #[],.func (.func 239) #[.agg #[.string t,.int .i64 p,.int .i64 q,.int .i64 n]] #[]] 213))
   fun e w'=>e=.returned (.int .i64 (xbL t p q n))∧Below (b+1) (W.alloc (.cells #[.func (.func 199) #[.agg #[.string t,.int .i64 p,.int .i64 q]] #[],.func (.func 200) #[.agg #[.string t,.int .i64 p,.int .i64 q]] #[],.func (.func 238) #[.agg #[.string t,.int .i64 p,.int .i64 q,.int .i64 n]] #[],.func (.func 239) #[.agg #[.string t,.int .i64 p,.int .i64 q,.int .i64 n]] #[]] 213)) w':=by
 refine(xee b 4 [q,xaN t p,xcq n,xeh t p n] _ (by rw[World.size_alloc];omega) rfl (by omega) ?_).mono ?_
 ·intro i hi
  rcases(by omega:i=0∨i=1∨i=2∨i=3) with rfl|rfl|rfl|rfl
  ·exact xep _ _ _ t p q (xbf _ _ _ _ hb _ _ rfl)
  ·exact xcK _ _ _ t p q (xbf _ _ _ _ hb _ _ rfl)
  ·exact xiw _ _ _ t p q n (xbf _ _ _ _ hb _ _ rfl)
  ·exact xiG _ _ _ t p q n (xbf _ _ _ _ hb _ _ rfl)
 ·rintro e w' ⟨rfl,h⟩
  exact⟨rfl,h.mono (by rw[World.size_alloc];omega)⟩
theorem xnr (W:World) (b:Nat) (hb:b=W.heap.size) (t:ByteArray) (p q:Int) :
  Calls Tryz.prog 198 #[.slice (some ⟨b,0,none⟩) 2 2] (W.alloc (.cells #[.func (.func 199) #[.agg #[.string t,.int .i64 p,.int .i64 q]] #[],.func (.func 200) #[.agg #[.string t,.int .i64 p,.int .i64 q]] #[]] 213))
   fun e w'=>e=.returned (.int .i64 (xbq t p q))∧Below (b+1) (W.alloc (.cells #[.func (.func 199) #[.agg #[.string t,.int .i64 p,.int .i64 q]] #[],.func (.func 200) #[.agg #[.string t,.int .i64 p,.int .i64 q]] #[]] 213)) w':=by
 refine(xee b 2 [q,xaN t p] _ (by rw[World.size_alloc];omega) rfl (by omega) ?_).mono ?_
 ·intro i hi
  rcases(by omega:i=0∨i=1) with rfl|rfl
  ·exact xep _ _ _ t p q (xbf _ _ _ _ hb _ _ rfl)
  ·exact xcK _ _ _ t p q (xbf _ _ _ _ hb _ _ rfl)
 ·rintro e w' ⟨rfl,h⟩
  exact⟨rfl,h.mono (by rw[World.size_alloc];omega)⟩
theorem xoH (W:World) (b:Nat) (hb:b=W.heap.size) (t:ByteArray) (p q:Int) :
  Calls Tryz.prog 198 #[.slice (some ⟨b,0,none⟩) 3 3] (W.alloc (.cells #[.func (.func 199) #[.agg #[.string t,.int .i64 p,.int .i64 q]] #[],.func (.func 200) #[.agg #[.string t,.int .i64 p,.int .i64 q]] #[],.func (.func 201) #[.agg #[.string t,.int .i64 p,.int .i64 q]] #[]] 213))
   fun e w'=>e=.returned (.int .i64 (xup t p q))∧Below (b+1) (W.alloc (.cells #[.func (.func 199) #[.agg #[.string t,.int .i64 p,.int .i64 q]] #[],.func (.func 200) #[.agg #[.string t,.int .i64 p,.int .i64 q]] #[],.func (.func 201) #[.agg #[.string t,.int .i64 p,.int .i64 q]] #[]] 213)) w':=by
 refine(xee b 3 [q,xaN t p,xdB t p] _ (by rw[World.size_alloc];omega) rfl (by omega) ?_).mono ?_
 ·intro i hi
  rcases(by omega:i=0∨i=1∨i=2) with rfl|rfl|rfl
  ·exact xep _ _ _ t p q (xbf _ _ _ _ hb _ _ rfl)
  ·exact xcK _ _ _ t p q (xbf _ _ _ _ hb _ _ rfl)
  ·exact xnE _ _ _ t p q (xbf _ _ _ _ hb _ _ rfl)
 ·rintro e w' ⟨rfl,h⟩
  exact⟨rfl,h.mono (by rw[World.size_alloc];omega)⟩
theorem xvE (t:ByteArray) (p n:Int) (w:World) (hm:t.size≤maxLen) (h:xmG t p 0 n=0) (p0:0≤p) (n0:1≤n) (n1:n≤8) (hp:p+n≤t.size):Calls Tryz.prog 166 #[.agg #[.string t,.int .i64 p,.int .i64 0],.int .i64 n] w
  fun e w'=>e=.returned (.tuple #[.int .u64 (xfE (t.extract p.toNat (p+n).toNat).data.toList),.agg #[.string t,.int .i64 (p+n),.int .i64 0]])∧Below w.heap.size w w':=by
 have H:=lH h;clear h
 have HM:=lH hm;clear hm
 go_enter Tryz.func166,Tryz.ntmps166
 go_wp2_with fail
 refine(xoL _ _ (by simp) t p 0 n).mono ?_
 rintro e w1 ⟨rfl,hb⟩
 have hz:w.heap.size+4≤w1.heap.size:=by have:=hb.size;simp at this;omega
 have hbw:Below w.heap.size w w1:=Below.trans (by go_grown) (hb.mono (by omega))
 have c0:w1.cell? ⟨w.heap.size,0,none⟩=some (.string t):=((xag hb).1 _ _ (by omega)).trans (by simp[go_sem])
 have c1:w1.cell? ⟨w.heap.size,1,none⟩=some (.int .i64 p):=((xag hb).1 _ _ (by omega)).trans (by simp[go_sem])
 have c2:w1.cell? ⟨w.heap.size,2,none⟩=some (.int .i64 0):=((xag hb).1 _ _ (by omega)).trans (by simp[go_sem])
 have c3:w1.cell? ⟨w.heap.size+1,0,none⟩=some (.string { data:=#[] }):=((xag hb).1 _ _ (by omega)).trans (by simp[go_sem])
 have c4:w1.cell? ⟨w.heap.size+1,1,none⟩=some (.int .i64 0):=((xag hb).1 _ _ (by omega)).trans (by simp[go_sem])
 have c5:w1.cell? ⟨w.heap.size+1,2,none⟩=some (.int .i64 0):=((xag hb).1 _ _ (by omega)).trans (by simp[go_sem])
 have f0:∀ o,w1.frozen? ⟨w.heap.size,o,none⟩=false:=fun o=>((xag hb).2 _ _ (by omega)).trans (by simp[go_sem])
 have f1:∀ o,w1.frozen? ⟨w.heap.size+1,o,none⟩=false:=fun o=>((xag hb).2 _ _ (by omega)).trans (by simp[go_sem])
 clear hb
 rw[H.out]
 go_wp2_with fail
 refine(xmF t p 0 n _ (by omega) (by omega) (by omega) HM.out).mono ?_
 rintro e w2 ⟨rfl,hb⟩
 have hz2:w1.heap.size≤w2.heap.size:=by have:=hb.size;rw[World.size_setCell] at this;exact this
 have hbw2:Below w.heap.size w w2:=Below.trans (by go_grown) (hb.mono (by rw[World.size_setCell];omega))
 have d0:w2.cell? ⟨w.heap.size,0,none⟩=some (.string t):=((xag hb).1 _ _ (by rw[World.size_setCell];omega)).trans (by simp[go_sem,c0])
 have d1:w2.cell? ⟨w.heap.size,1,none⟩=some (.int .i64 p):=((xag hb).1 _ _ (by rw[World.size_setCell];omega)).trans (by simp[go_sem,c1])
 have d2:w2.cell? ⟨w.heap.size,2,none⟩=some (.int .i64 0):=((xag hb).1 _ _ (by rw[World.size_setCell];omega)).trans (by simp[go_sem,c2])
 have d3:w2.cell? ⟨w.heap.size+1,0,none⟩=some (.string { data:=#[] }):=((xag hb).1 _ _ (by rw[World.size_setCell];omega)).trans (by simp[go_sem,c3])
 have d4:w2.cell? ⟨w.heap.size+1,1,none⟩=some (.int .i64 0):=((xag hb).1 _ _ (by rw[World.size_setCell];omega)).trans (by simp[go_sem,c4])
 have d5:w2.cell? ⟨w.heap.size+1,2,none⟩=some (.int .i64 0):=((xag hb).1 _ _ (by rw[World.size_setCell];omega)).trans (by simp[go_sem,c5])
 have g0:∀ o,w2.frozen? ⟨w.heap.size,o,none⟩=false:=fun o=>((xag hb).2 _ _ (by rw[World.size_setCell];omega)).trans (by simp[go_sem,f0])
 have g1:∀ o,w2.frozen? ⟨w.heap.size+1,o,none⟩=false:=fun o=>((xag hb).2 _ _ (by rw[World.size_setCell];omega)).trans (by simp[go_sem,f1])
 clear hb c0 c1 c2 c3 c4 c5 f0 f1 hbw
 have hx:(t.extract p.toNat (p+n).toNat).size≤8:=by simp;omega
 obtain⟨x,he⟩:∃ x,t.extract p.toNat (p+n).toNat=x:=⟨_,rfl⟩
 rw[he] at hx ⊢
 have HE:=lH he;clear he
 go_wp2_with fail
 go_region_with (go_at_call 242;refine(xmT x _ hx).mono ?_;rintro e w' ⟨rfl,rfl⟩)
 all_goals
  go_wp2
  refine bodyPost_ret (v:=.tuple #[.int .u64 (xfE x.data.toList),.agg #[.string t,.int .i64 (p+n),.int .i64 0]]) (by simp[results,Tryz.results166,go_sem,d3,d4,d5]) rfl ⟨by rw[HE.out],?_⟩
  go_grown
theorem xtp (t:ByteArray) (p q n:Int) (w:World) (h:xbL t p q n≠0):Calls Tryz.prog 165 #[.agg #[.string t,.int .i64 p,.int .i64 q],.int .i64 n] w
  fun e w'=>e=.returned (.tuple #[.string { data:=#[] },.agg #[.string t,.int .i64 p,.int .i64 (xbL t p q n)]])∧Below w.heap.size w w':=by
 have hne:(xbL t p q n != 0)=true:=by simp only[bne_iff_ne,ne_eq];exact h
 clear h
 go_enter Tryz.func165,Tryz.ntmps165
 go_wp2_with fail
 refine(xgz _ _ (by simp) t p q n).mono ?_
 rintro e w1 ⟨rfl,hb⟩
 have hz:w.heap.size+4≤w1.heap.size:=by have:=hb.size;simp at this;omega
 have hbw:Below w.heap.size w w1:=Below.trans (by go_grown) (hb.mono (by omega))
 have c0:w1.cell? ⟨w.heap.size,0,none⟩=some (.string t):=((xag hb).1 _ _ (by omega)).trans (by simp[go_sem])
 have c1:w1.cell? ⟨w.heap.size,1,none⟩=some (.int .i64 p):=((xag hb).1 _ _ (by omega)).trans (by simp[go_sem])
 have c2:w1.cell? ⟨w.heap.size,2,none⟩=some (.int .i64 q):=((xag hb).1 _ _ (by omega)).trans (by simp[go_sem])
 have c3:w1.cell? ⟨w.heap.size+1,0,none⟩=some (.string { data:=#[] }):=((xag hb).1 _ _ (by omega)).trans (by simp[go_sem])
 have c4:w1.cell? ⟨w.heap.size+1,1,none⟩=some (.int .i64 0):=((xag hb).1 _ _ (by omega)).trans (by simp[go_sem])
 have c5:w1.cell? ⟨w.heap.size+1,2,none⟩=some (.int .i64 0):=((xag hb).1 _ _ (by omega)).trans (by simp[go_sem])
 have f0:∀ o,w1.frozen? ⟨w.heap.size,o,none⟩=false:=fun o=>((xag hb).2 _ _ (by omega)).trans (by simp[go_sem])
 have f1:∀ o,w1.frozen? ⟨w.heap.size+1,o,none⟩=false:=fun o=>((xag hb).2 _ _ (by omega)).trans (by simp[go_sem])
 clear hb
 obtain⟨r,hr⟩:∃ r,xbL t p q n=r:=⟨_,rfl⟩
 have HR:=lH hr
 rw[hr] at hne ⊢
 clear hr
 go_wp2_with fail
 go_region
 go_wp2
 refine bodyPost_ret (v:=.tuple #[.string { data:=#[] },.agg #[.string t,.int .i64 p,.int .i64 r]]) (by simp[results,Tryz.results165,go_sem,c3,c4,c5]) rfl ⟨by rw[HR.out],?_⟩
 go_grown
theorem xjI (t:ByteArray) (p n:Int) (w:World) (hm:t.size≤maxLen) (h:xbL t p 0 n=0) (p0:0≤p) (n0:0≤n) (hp:p+n≤t.size):Calls Tryz.prog 165 #[.agg #[.string t,.int .i64 p,.int .i64 0],.int .i64 n] w
  fun e w'=>e=.returned (.tuple #[.string (t.extract p.toNat (p+n).toNat),.agg #[.string t,.int .i64 (p+n),.int .i64 0]])∧Below w.heap.size w w':=by
 have H:=lH h;clear h
 have HM:=lH hm;clear hm
 go_enter Tryz.func165,Tryz.ntmps165
 go_wp2_with fail
 refine(xgz _ _ (by simp) t p 0 n).mono ?_
 rintro e w1 ⟨rfl,hb⟩
 have hz:w.heap.size+4≤w1.heap.size:=by have:=hb.size;simp at this;omega
 have hbw:Below w.heap.size w w1:=Below.trans (by go_grown) (hb.mono (by omega))
 have c0:w1.cell? ⟨w.heap.size,0,none⟩=some (.string t):=((xag hb).1 _ _ (by omega)).trans (by simp[go_sem])
 have c1:w1.cell? ⟨w.heap.size,1,none⟩=some (.int .i64 p):=((xag hb).1 _ _ (by omega)).trans (by simp[go_sem])
 have c2:w1.cell? ⟨w.heap.size,2,none⟩=some (.int .i64 0):=((xag hb).1 _ _ (by omega)).trans (by simp[go_sem])
 have c3:w1.cell? ⟨w.heap.size+1,0,none⟩=some (.string { data:=#[] }):=((xag hb).1 _ _ (by omega)).trans (by simp[go_sem])
 have c4:w1.cell? ⟨w.heap.size+1,1,none⟩=some (.int .i64 0):=((xag hb).1 _ _ (by omega)).trans (by simp[go_sem])
 have c5:w1.cell? ⟨w.heap.size+1,2,none⟩=some (.int .i64 0):=((xag hb).1 _ _ (by omega)).trans (by simp[go_sem])
 have f0:∀ o,w1.frozen? ⟨w.heap.size,o,none⟩=false:=fun o=>((xag hb).2 _ _ (by omega)).trans (by simp[go_sem])
 have f1:∀ o,w1.frozen? ⟨w.heap.size+1,o,none⟩=false:=fun o=>((xag hb).2 _ _ (by omega)).trans (by simp[go_sem])
 clear hb
 rw[H.out]
 go_wp2_with fail
 refine(xmF t p 0 n _ (by omega) (by omega) (by omega) HM.out).mono ?_
 rintro e w2 ⟨rfl,hb⟩
 have hz2:w1.heap.size≤w2.heap.size:=by have:=hb.size;rw[World.size_setCell] at this;exact this
 have hbw2:Below w.heap.size w w2:=Below.trans (by go_grown) (hb.mono (by rw[World.size_setCell];omega))
 have d3:w2.cell? ⟨w.heap.size+1,0,none⟩=some (.string { data:=#[] }):=((xag hb).1 _ _ (by rw[World.size_setCell];omega)).trans (by simp[go_sem,c3])
 have d4:w2.cell? ⟨w.heap.size+1,1,none⟩=some (.int .i64 0):=((xag hb).1 _ _ (by rw[World.size_setCell];omega)).trans (by simp[go_sem,c4])
 have d5:w2.cell? ⟨w.heap.size+1,2,none⟩=some (.int .i64 0):=((xag hb).1 _ _ (by rw[World.size_setCell];omega)).trans (by simp[go_sem,c5])
 have g1:∀ o,w2.frozen? ⟨w.heap.size+1,o,none⟩=false:=fun o=>((xag hb).2 _ _ (by rw[World.size_setCell];omega)).trans (by simp[go_sem,f1])
 clear hb c0 c1 c2 c3 c4 c5 f0 f1 hbw
 obtain⟨x,he⟩:∃ x,t.extract p.toNat (p+n).toNat=x:=⟨_,rfl⟩
 rw[he]
 have HE:=lH he;clear he
 go_wp2_with fail
 refine bodyPost_ret (v:=.tuple #[.string x,.agg #[.string t,.int .i64 (p+n),.int .i64 0]]) (by simp[results,Tryz.results165,go_sem,d3,d4,d5]) rfl ⟨by rw[HE.out],?_⟩
 go_grown
theorem xlo (t:ByteArray) (p:Int) (w:World) (hm:t.size≤maxLen) (h:xbq t p 0=0) (p0:0≤p) (hp:p≤t.size):Calls Tryz.prog 269 #[.agg #[.string t,.int .i64 p,.int .i64 0]] w
  fun e w'=>e=.returned (.string (t.extract p.toNat t.size))∧Below w.heap.size w w':=by
 have H:=lH h;clear h
 unfold maxLen at hm
 go_enter Tryz.func269,Tryz.ntmps269
 go_wp2_with fail
 refine(xnr _ _ (by simp) t p 0).mono ?_
 rintro e w1 ⟨rfl,hb⟩
 have hz:w.heap.size+2≤w1.heap.size:=by have:=hb.size;simp at this;omega
 have hbw:Below w.heap.size w w1:=Below.trans (by go_grown) (hb.mono (by omega))
 have c0:w1.cell? ⟨w.heap.size,0,none⟩=some (.string t):=((xag hb).1 _ _ (by omega)).trans (by simp[go_sem])
 have c1:w1.cell? ⟨w.heap.size,1,none⟩=some (.int .i64 p):=((xag hb).1 _ _ (by omega)).trans (by simp[go_sem])
 have c2:w1.cell? ⟨w.heap.size,2,none⟩=some (.int .i64 0):=((xag hb).1 _ _ (by omega)).trans (by simp[go_sem])
 clear hb
 rw[H.out]
 go_wp2_with fail
 go_ret
 exact⟨rfl,hbw⟩
theorem xqz (t:ByteArray) (p q:Int) (w:World):Calls Tryz.prog 121 #[.agg #[.string t,.int .i64 p,.int .i64 q]] w
  fun e w'=>e=.returned (.int .i64 (xup t p q))∧Below w.heap.size w w':=by
 go_enter Tryz.func121,Tryz.ntmps121
 go_wp2_with fail
 refine(xoH _ _ (by simp) t p q).mono ?_
 rintro e w1 ⟨rfl,hb⟩
 have hz:w.heap.size+2≤w1.heap.size:=by have:=hb.size;simp at this;omega
 have hbw:Below w.heap.size w w1:=Below.trans (by go_grown) (hb.mono (by omega))
 have c0:w1.cell? ⟨w.heap.size,0,none⟩=some (.string t):=((xag hb).1 _ _ (by omega)).trans (by simp[go_sem])
 have c1:w1.cell? ⟨w.heap.size,1,none⟩=some (.int .i64 p):=((xag hb).1 _ _ (by omega)).trans (by simp[go_sem])
 have c2:w1.cell? ⟨w.heap.size,2,none⟩=some (.int .i64 q):=((xag hb).1 _ _ (by omega)).trans (by simp[go_sem])
 clear hb
 go_wp2_with fail
 go_ret
 exact⟨rfl,hbw⟩
end Go.Proofs.YtjinnigjfopbcaaGreatDoor
