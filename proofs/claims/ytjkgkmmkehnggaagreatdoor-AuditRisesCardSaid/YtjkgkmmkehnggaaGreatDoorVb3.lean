/- bMA bMC. -/
import Derived.Test.YtjkgkmmkehnggaaGreatDoorVa5
import Derived.Test.YtjkgkmmkehnggaaGreatDoorVb1
namespace Go.Proofs.YtjkgkmmkehnggaaGreatDoor
set_option linter.unusedVariables false
set_option linter.unusedSimpArgs false
open Go.RowKit
set_option maxRecDepth 20000
def sgn (x n:Int):Int:=if x % 2 ^ (8*n).toNat<2 ^ (8*n - 1).toNat then x % 2 ^ (8*n).toNat else x % 2 ^ (8*n).toNat - 2 ^ (8*n).toNat
theorem widths {n:Int} (h0:1≤n) (h1:n≤8):n=1∨n=2∨n=3∨n=4∨n=5∨n=6∨n=7∨n=8:=by omega
theorem wrap_u64 (n:Int):IntKind.u64.wrap n=n % 18446744073709551616:=by
 simp only[IntKind.wrap,IntKind.bits,IntKind.signed,Bool.false_and,Int.reducePow];simp
theorem shifts_signed (x n:Int) (h0:1≤n) (h1:n≤8) :
  wrap64 (IntKind.u64.wrap (x*2 ^ (8*(8 - n)).toNat)) / 2 ^ (8*(8 - n)).toNat=sgn x n:=by
 unfold sgn
 rw[wrap_u64]
 unfold wrap64
 rcases widths h0 h1 with rfl|rfl|rfl|rfl|rfl|rfl|rfl|rfl <;> simp only[Int.reduceMul,Int.reduceSub,Int.reduceToNat,Int.reducePow,Int.mul_one] <;> split <;> omega
theorem isw_yes (n:Int) (w:World) (h0:1≤n) (h1:n≤8):Calls Tryz.prog 220 #[.int .i64 n] w fun e w'=>e=.returned (.bool true)∧w=w':=by
 go_enter Tryz.func220,Tryz.ntmps220
 go_wp2
 go_ret
 exact⟨rfl,rfl⟩
theorem isw_no (n:Int) (w:World) (h:n<1∨8<n):Calls Tryz.prog 220 #[.int .i64 n] w fun e w'=>e=.returned (.bool false)∧w=w':=by
 rcases h with h|h
 ·go_enter Tryz.func220,Tryz.ntmps220
  go_wp2
  go_ret
  exact⟨rfl,rfl⟩
 ·have h1:1≤n:=by omega
  have h2:decide (n≤8)=false:=by simp;omega
  go_enter Tryz.func220,Tryz.ntmps220
  go_wp2
  go_ret
  exact⟨rfl,rfl⟩
theorem signed_yes (x n:Int) (w:World) (h0:1≤n) (h1:n≤8):Calls Tryz.prog 221 #[.int .u64 x,.int .i64 n] w fun e w'=>e=.returned (.tuple #[.int .i64 (sgn x n),.int .i64 0])∧w=w':=by
 go_enter Tryz.func221,Tryz.ntmps221
 go_wp2_with (go_at_call 220;refine(isw_yes _ _ (by omega) (by omega)).mono ?_;rintro e w' ⟨rfl,rfl⟩)
 go_ret2
 exact⟨ret2 (shifts_signed x n h0 h1) rfl,rfl⟩
theorem held_any (t:ByteArray) (p b:Int) (w:World):Calls Tryz.prog 166 #[.agg #[.string t,.int .i64 p,.int .i64 b]] w fun e w'=>e=.returned (.int .i64 b)∧Below w.heap.size w w':=by
 go_enter Tryz.func166,Tryz.ntmps166
 go_wp2
 go_ret
 exact⟨rfl,(Below.refl _ _).alloc (Nat.le_refl _) _⟩
theorem placed_yes (t:ByteArray) (p b:Int) (w:World) (h0:0≤p) (h1:p≤t.size):Calls Tryz.prog 167 #[.agg #[.string t,.int .i64 p,.int .i64 b]] w fun e w'=>e=.returned (.int .i64 0)∧Below w.heap.size w w':=by
 go_enter Tryz.func167,Tryz.ntmps167
 go_wp2
 go_ret
 exact⟨rfl,(Below.refl _ _).alloc (Nat.le_refl _) _⟩
theorem placed_no (t:ByteArray) (p b:Int) (w:World) (h:p<0∨t.size<p):Calls Tryz.prog 167 #[.agg #[.string t,.int .i64 p,.int .i64 b]] w fun e w'=>e=.returned (.int .i64 2)∧Below w.heap.size w w':=by
 rcases h with h|h
 ·go_enter Tryz.func167,Tryz.ntmps167
  go_wp2
  go_ret
  exact⟨rfl,(Below.refl _ _).alloc (Nat.le_refl _) _⟩
 ·have h0:¬ p<0:=by omega
  go_enter Tryz.func167,Tryz.ntmps167
  go_wp2
  go_ret
  exact⟨rfl,(Below.refl _ _).alloc (Nat.le_refl _) _⟩
def firstOf:List Int→Int
 | []=>0
 | r :: t=>if r=0 then firstOf t else r
def Upto (rs:List Int) (k:Nat):Prop:=firstOf (rs.drop k)=firstOf rs
theorem firstOf_zero (rs:List Int) (k:Nat) (h:k<rs.length) (hz:rs.getD k 0=0):firstOf (rs.drop (k+1))=firstOf (rs.drop k):=by
 rw[List.drop_eq_getElem_cons h]
 have:rs[k]=0:=by simpa[h] using hz
 simp[firstOf,this]
theorem firstOf_hit (rs:List Int) (k:Nat) (h:k<rs.length) (hz:rs.getD k 0≠0):rs.getD k 0=firstOf (rs.drop k):=by
 rw[List.drop_eq_getElem_cons h]
 have e:rs.getD k 0=rs[k]:=by simp[h]
 rw[e] at hz ⊢
 simp[firstOf,hz]
def Asks (w:World) (b i:Nat) (r:Int):Prop:=∃ f caps,w.cell? ⟨b,i,none⟩=some (.func (.func f) caps #[])∧(∀ W,Sem.run Tryz.prog (callFunc f caps) W=.ok (.enter f caps) W)∧∀ W,Calls Tryz.prog f caps W fun e W'=>e=.returned (.int .i64 r)∧Below W.heap.size W W'
theorem first_any (b len:Nat) (rs:List Int) (w:World) (hb:b<w.heap.size) (hl:rs.length=len) (hm:len≤4) (hA:∀ i,i<len→Asks w b i (rs.getD i 0)) :
  Calls Tryz.prog 165 #[.slice (some ⟨b,0,none⟩) len len] w fun e w'=>e=.returned (.int .i64 (firstOf rs))∧Below w.heap.size w w':=by
 have HA:=Lib.hid hA;clear hA
 have HL:=Lib.hid hl;clear hl
 go_enter Tryz.func165,Tryz.ntmps165
 go_wp2
 go_loopw [8] (fun i wr=>∃ k:Nat,k≤len∧i=.int .i64 k∧Upto rs k∧Below w.heap.size w wr) (fun i _=>len - (intOf i).toNat)
 case atStart=>exact⟨0,Nat.zero_le _,rfl,by simp[Upto],Below.refl _ _⟩
 case round =>
  obtain⟨k,hk,rfl,hu,hbw⟩:=hrel
  by_cases hlt:k<len
  ·obtain⟨f,caps,hcell,hrun,hc⟩:=HA.out k hlt
   have hcell':=(hbw.cell (p:=⟨b,k,none⟩) hb).trans hcell
   clear hcell
   have HC:=Lib.hid hc;clear hc
   by_cases hz:rs.getD k 0=0
   ·have hU:Upto rs (k+1):=(firstOf_zero rs k (by rw[HL.out];exact hlt) hz).trans hu
    have hz':(rs.getD k 0 != 0)=false:=by simp only[hz];rfl
    have HZ:=Lib.hid hz;clear hz
    generalize rs.getD k 0=r at *
    go_wp2_with (with_reducible (refine(HC.out _).mono ?_);rintro e w1 ⟨rfl,hb1⟩)
    go_roundw
    case rel=>exact⟨k+1,by omega,by go_num,hU,hbw.trans (hb1.mono hbw.size)⟩
    case measure=>simp[intOf];omega
   ·have hU:rs.getD k 0=firstOf rs:=(firstOf_hit rs k (by rw[HL.out];exact hlt) hz).trans hu
    have hz':(rs.getD k 0 != 0)=true:=by simp only[bne_iff_ne,ne_eq];exact hz
    have HU:=Lib.hid hU;clear hU
    clear hz
    generalize rs.getD k 0=r at *
    go_wp2_with (with_reducible (refine(HC.out _).mono ?_);rintro e w1 ⟨rfl,hb1⟩)
    go_ret
    exact⟨ret_int HU.out,hbw.trans (hb1.mono hbw.size)⟩
  ·obtain rfl:k=len:=by omega
   go_wp2
   go_ret
   refine⟨ret_int ?_,hbw⟩
   rw[← hu,← HL.out,List.drop_length];rfl
def placedV (t:ByteArray) (p:Int):Int:=if 0≤p∧p≤t.size then 0 else 2
def wideV (n:Int):Int:=if 1≤n∧n≤8 then 0 else 2
def countedV (n:Int):Int:=if n<0 then 2 else 0
def leftV (t:ByteArray) (p n:Int):Int:=if wrap64 (t.size - p)<n then 3 else 0
def spentV (t:ByteArray) (p:Int):Int:=if p<t.size then 4 else 0
theorem placed_any (t:ByteArray) (p b:Int) (w:World):Calls Tryz.prog 167 #[.agg #[.string t,.int .i64 p,.int .i64 b]] w fun e w'=>e=.returned (.int .i64 (placedV t p))∧Below w.heap.size w w':=by
 by_cases h:0≤p∧p≤t.size
 ·rw[show placedV t p=0 from if_pos h]
  exact placed_yes t p b w h.1 h.2
 ·rw[show placedV t p=2 from if_neg h]
  exact placed_no t p b w (by omega)
theorem wide_any (t:ByteArray) (p b n:Int) (w:World):Calls Tryz.prog 171 #[.agg #[.string t,.int .i64 p,.int .i64 b,.int .i64 n]] w fun e w'=>e=.returned (.int .i64 (wideV n))∧Below w.heap.size w w':=by
 by_cases h:1≤n∧n≤8
 ·have H:Hid (wideV n=0):=if_pos h
  go_enter Tryz.func171,Tryz.ntmps171
  go_wp2_with (go_at_call 220;refine(isw_yes _ _ (by omega) (by omega)).mono ?_;rintro e w' ⟨rfl,rfl⟩)
  go_ret
  exact⟨ret_int H.out.symm,(Below.refl _ _).alloc (Nat.le_refl _) _⟩
 ·have H:Hid (wideV n=2):=if_neg h
  have h':n<1∨8<n:=by omega
  clear h
  go_enter Tryz.func171,Tryz.ntmps171
  go_wp2_with (go_at_call 220;refine(isw_no _ _ (by omega)).mono ?_;rintro e w' ⟨rfl,rfl⟩)
  go_ret
  exact⟨ret_int H.out.symm,(Below.refl _ _).alloc (Nat.le_refl _) _⟩
theorem counted_any (t:ByteArray) (p b n:Int) (w:World):Calls Tryz.prog 168 #[.agg #[.string t,.int .i64 p,.int .i64 b,.int .i64 n]] w fun e w'=>e=.returned (.int .i64 (countedV n))∧Below w.heap.size w w':=by
 by_cases h:n<0
 ·have H:Hid (countedV n=2):=if_pos h
  go_enter Tryz.func168,Tryz.ntmps168
  go_wp2
  go_ret
  exact⟨ret_int H.out.symm,(Below.refl _ _).alloc (Nat.le_refl _) _⟩
 ·have H:Hid (countedV n=0):=if_neg h
  go_enter Tryz.func168,Tryz.ntmps168
  go_wp2
  go_ret
  exact⟨ret_int H.out.symm,(Below.refl _ _).alloc (Nat.le_refl _) _⟩
theorem left_any (t:ByteArray) (p b n:Int) (w:World):Calls Tryz.prog 169 #[.agg #[.string t,.int .i64 p,.int .i64 b,.int .i64 n]] w fun e w'=>e=.returned (.int .i64 (leftV t p n))∧Below w.heap.size w w':=by
 by_cases h:wrap64 (t.size - p)<n
 ·have H:Hid (leftV t p n=3):=if_pos h
  go_enter Tryz.func169,Tryz.ntmps169
  go_wp2
  all_goals
   go_ret
   exact⟨ret_int H.out.symm,(Below.refl _ _).alloc (Nat.le_refl _) _⟩
 ·have H:Hid (leftV t p n=0):=if_neg h
  go_enter Tryz.func169,Tryz.ntmps169
  go_wp2
  all_goals
   go_ret
   exact⟨ret_int H.out.symm,(Below.refl _ _).alloc (Nat.le_refl _) _⟩
theorem spent_any (t:ByteArray) (p b:Int) (w:World):Calls Tryz.prog 183 #[.agg #[.string t,.int .i64 p,.int .i64 b]] w fun e w'=>e=.returned (.int .i64 (spentV t p))∧Below w.heap.size w w':=by
 by_cases h:p<t.size
 ·have H:Hid (spentV t p=4):=if_pos h
  go_enter Tryz.func183,Tryz.ntmps183
  go_wp2
  go_ret
  exact⟨ret_int H.out.symm,(Below.refl _ _).alloc (Nat.le_refl _) _⟩
 ·have H:Hid (spentV t p=0):=if_neg h
  go_enter Tryz.func183,Tryz.ntmps183
  go_wp2
  go_ret
  exact⟨ret_int H.out.symm,(Below.refl _ _).alloc (Nat.le_refl _) _⟩
theorem step_any (t:ByteArray) (p b n:Int) (w:World) (p0:0≤p) (n0:0≤n) (hp:p+n≤t.size) (hm:t.size≤maxLen) :
  Calls Tryz.prog 170 #[.agg #[.string t,.int .i64 p,.int .i64 b],.int .i64 n] w fun e w'=>e=.returned (.tuple #[.string (t.extract p.toNat (p+n).toNat),.agg #[.string t,.int .i64 (p+n),.int .i64 b]])∧Below w.heap.size w w':=by
 unfold maxLen at hm
 go_enter Tryz.func170,Tryz.ntmps170
 go_wp2
 go_region
 all_goals
  go_wp2
  refine bodyPost_ret (v:=.tuple #[.string (t.extract p.toNat (p+n).toNat),.agg #[.string t,.int .i64 (p+n),.int .i64 b]]) (by simp[results,Tryz.results170,go_sem]) rfl ⟨rfl,?_⟩
  go_grown
def numB:List UInt8→Int
 | []=>0
 | c :: t=>c.toNat+256*numB t
def pow256:Nat→Int
 | 0=>1
 | k+1=>256*pow256 k
theorem numB_bd (l:List UInt8):0≤numB l∧numB l<pow256 l.length:=by
 induction l with
 | nil=>simp[numB,pow256]
 | cons c t ih =>
  have:c.toNat<256:=c.toNat_lt
  simp only[numB,pow256,List.length_cons]
  omega
theorem pow256_le (k:Nat) (h:k≤7):pow256 k≤72057594037927936:=by
 rcases(by omega:k=0∨k=1∨k=2∨k=3∨k=4∨k=5∨k=6∨k=7) with rfl|rfl|rfl|rfl|rfl|rfl|rfl|rfl <;> decide
theorem byte_bd (c:UInt8):c.toNat<256:=c.toNat_lt
theorem or_byte (x:Int) (c:Nat) (x0:0≤x) (x1:x<72057594037927936) (hc:c<256):bits BinOp.or IntKind.u64 (x*256) (IntKind.u64.wrap c)=c+256*x:=by
 rw[wrap_u64]
 rw[u64_or _ _ (by omega) (by omega) (by omega) (by omega)]
 rw[nat_join 8 _ _ (by omega) (by omega)]
 omega
theorem numB_step (l:List UInt8) (k:Nat) (h1:1≤k) (hk:k≤l.length):numB (l.drop (k - 1))=(l[k - 1]'(by omega)).toNat+256*numB (l.drop k):=by
 rw[List.drop_eq_getElem_cons (by omega:k - 1<l.length)]
 simp only[numB]
 rw[show k - 1+1=k from by omega]
theorem number_any (t:ByteArray) (w:World) (h8:t.size≤8) :
  Calls Tryz.prog 172 #[.string t] w fun e w'=>e=.returned (.int .u64 (numB t.data.toList))∧w=w':=by
 go_enter Tryz.func172,Tryz.ntmps172
 go_wp2
 go_loop [3,4] (fun x i=>∃ k:Nat,k≤t.size∧i=.int .i64 ((k:Int) - 1)∧x=.int .u64 (numB (t.data.toList.drop k))) (fun _ i=>(intOf i+1).toNat)
 case atStart=>exact⟨t.size,Nat.le_refl _,rfl,by rw[List.drop_of_length_le (by simp)];rfl⟩
 case round =>
  obtain⟨k,hk,rfl,rfl⟩:=hrel
  by_cases hlt:1≤k
  ·have hbd:0≤numB (t.data.toList.drop k)∧numB (t.data.toList.drop k)<72057594037927936:=by
    have:=numB_bd (t.data.toList.drop k)
    have:=pow256_le (t.data.toList.drop k).length (by simp;omega)
    omega
   generalize hx:numB (t.data.toList.drop k)=x at *
   have HX:=Lib.hid hx;clear hx
   have hs:=numB_step t.data.toList k hlt (by simpa using hk)
   rw[HX.out] at hs
   have hc:t[k - 1].toNat<256:=byte_bd _
   have ho:=or_byte x (t[k - 1].toNat) hbd.1 hbd.2 hc
   have HS:=Lib.hid (ho.trans hs.symm);clear hs ho hc
   go_wp2
   refine⟨⟨k - 1,by omega,?_,?_⟩,?_⟩
   ·congr 1;omega
   ·exact congrArg _ HS.out
   ·simp[intOf];omega
  ·obtain rfl:k=0:=by omega
   go_wp2
   go_ret
   exact⟨by simp,rfl⟩
theorem asks_held (w:World) (b i:Nat) (t:ByteArray) (p q:Int) (h:w.cell? ⟨b,i,none⟩=some (.func (.func 166) #[.agg #[.string t,.int .i64 p,.int .i64 q]] #[])):Asks w b i q :=
 ⟨166,_,h,fun _=>by kernel_rfl,fun W=>held_any t p q W⟩
theorem asks_placed (w:World) (b i:Nat) (t:ByteArray) (p q:Int) (h:w.cell? ⟨b,i,none⟩=some (.func (.func 167) #[.agg #[.string t,.int .i64 p,.int .i64 q]] #[])):Asks w b i (placedV t p) :=
 ⟨167,_,h,fun _=>by kernel_rfl,fun W=>placed_any t p q W⟩
theorem asks_wide (w:World) (b i:Nat) (t:ByteArray) (p q n:Int) (h:w.cell? ⟨b,i,none⟩=some (.func (.func 171) #[.agg #[.string t,.int .i64 p,.int .i64 q,.int .i64 n]] #[])):Asks w b i (wideV n) :=
 ⟨171,_,h,fun _=>by kernel_rfl,fun W=>wide_any t p q n W⟩
theorem asks_left (w:World) (b i:Nat) (t:ByteArray) (p q n:Int) (h:w.cell? ⟨b,i,none⟩=some (.func (.func 169) #[.agg #[.string t,.int .i64 p,.int .i64 q,.int .i64 n]] #[])):Asks w b i (leftV t p n) :=
 ⟨169,_,h,fun _=>by kernel_rfl,fun W=>left_any t p q n W⟩
theorem asks_counted (w:World) (b i:Nat) (t:ByteArray) (p q n:Int) (h:w.cell? ⟨b,i,none⟩=some (.func (.func 168) #[.agg #[.string t,.int .i64 p,.int .i64 q,.int .i64 n]] #[])):Asks w b i (countedV n) :=
 ⟨168,_,h,fun _=>by kernel_rfl,fun W=>counted_any t p q n W⟩
theorem asks_spent (w:World) (b i:Nat) (t:ByteArray) (p q:Int) (h:w.cell? ⟨b,i,none⟩=some (.func (.func 183) #[.agg #[.string t,.int .i64 p,.int .i64 q]] #[])):Asks w b i (spentV t p) :=
 ⟨183,_,h,fun _=>by kernel_rfl,fun W=>spent_any t p q W⟩
theorem cell_new (W:World) (b:Nat) (cs:Array Value) (T:TypeId) (hb:b=W.heap.size) (i:Nat) (v:Value) (h:cs[i]?=some v):(W.alloc (.cells cs T)).cell? ⟨b,i,none⟩=some v:=by
 rw[World.cell?_alloc_at _ _ _ _ hb];exact h
theorem bcell {B:Nat} {W w1:World} (hb:Below B W w1):(∀ b o,b<B→w1.cell? ⟨b,o,none⟩=W.cell? ⟨b,o,none⟩)∧(∀ b o,b<B→w1.frozen? ⟨b,o,none⟩=W.frozen? ⟨b,o,none⟩) :=
 ⟨fun b o h=>hb.cell (p:=⟨b,o,none⟩) h,fun b o h=>hb.frozen (p:=⟨b,o,none⟩) h⟩
def numBad (t:ByteArray) (p q n:Int):Int:=firstOf [q,placedV t p,wideV n,leftV t p n]
def bytesBad (t:ByteArray) (p q n:Int):Int:=firstOf [q,placedV t p,countedV n,leftV t p n]
def restBad (t:ByteArray) (p q:Int):Int:=firstOf [q,placedV t p]
def endV (t:ByteArray) (p q:Int):Int:=firstOf [q,placedV t p,spentV t p]
theorem first_num (W:World) (b:Nat) (hb:b=W.heap.size) (t:ByteArray) (p q n:Int) :
  Calls Tryz.prog 165 #[.slice (some ⟨b,0,none⟩) 4 4] (W.alloc (.cells #[.func (.func 166) #[.agg #[.string t,.int .i64 p,.int .i64 q]] #[],.func (.func 167) #[.agg #[.string t,.int .i64 p,.int .i64 q]] #[],.func (.func 171) #[.agg #[.string t,.int .i64 p,.int .i64 q,.int .i64 n]] #[],.func (.func 169) #[.agg #[.string t,.int .i64 p,.int .i64 q,.int .i64 n]] #[]] 207))
   fun e w'=>e=.returned (.int .i64 (numBad t p q n))∧Below (b+1) (W.alloc (.cells #[.func (.func 166) #[.agg #[.string t,.int .i64 p,.int .i64 q]] #[],.func (.func 167) #[.agg #[.string t,.int .i64 p,.int .i64 q]] #[],.func (.func 171) #[.agg #[.string t,.int .i64 p,.int .i64 q,.int .i64 n]] #[],.func (.func 169) #[.agg #[.string t,.int .i64 p,.int .i64 q,.int .i64 n]] #[]] 207)) w':=by
 refine(first_any b 4 [q,placedV t p,wideV n,leftV t p n] _ (by rw[World.size_alloc];omega) rfl (by omega) ?_).mono ?_
 ·intro i hi
  rcases(by omega:i=0∨i=1∨i=2∨i=3) with rfl|rfl|rfl|rfl
  ·exact asks_held _ _ _ t p q (cell_new _ _ _ _ hb _ _ rfl)
  ·exact asks_placed _ _ _ t p q (cell_new _ _ _ _ hb _ _ rfl)
  ·exact asks_wide _ _ _ t p q n (cell_new _ _ _ _ hb _ _ rfl)
  ·exact asks_left _ _ _ t p q n (cell_new _ _ _ _ hb _ _ rfl)
 ·rintro e w' ⟨rfl,h⟩
  exact⟨rfl,h.mono (by rw[World.size_alloc];omega)⟩
theorem first_bytes (W:World) (b:Nat) (hb:b=W.heap.size) (t:ByteArray) (p q n:Int) :
  Calls Tryz.prog 165 #[.slice (some ⟨b,0,none⟩) 4 4] (W.alloc (.cells #[.func (.func 166) #[.agg #[.string t,.int .i64 p,.int .i64 q]] #[],.func (.func 167) #[.agg #[.string t,.int .i64 p,.int .i64 q]] #[],.func (.func 168) #[.agg #[.string t,.int .i64 p,.int .i64 q,.int .i64 n]] #[],.func (.func 169) #[.agg #[.string t,.int .i64 p,.int .i64 q,.int .i64 n]] #[]] 207))
   fun e w'=>e=.returned (.int .i64 (bytesBad t p q n))∧Below (b+1) (W.alloc (.cells #[.func (.func 166) #[.agg #[.string t,.int .i64 p,.int .i64 q]] #[],.func (.func 167) #[.agg #[.string t,.int .i64 p,.int .i64 q]] #[],.func (.func 168) #[.agg #[.string t,.int .i64 p,.int .i64 q,.int .i64 n]] #[],.func (.func 169) #[.agg #[.string t,.int .i64 p,.int .i64 q,.int .i64 n]] #[]] 207)) w':=by
 refine(first_any b 4 [q,placedV t p,countedV n,leftV t p n] _ (by rw[World.size_alloc];omega) rfl (by omega) ?_).mono ?_
 ·intro i hi
  rcases(by omega:i=0∨i=1∨i=2∨i=3) with rfl|rfl|rfl|rfl
  ·exact asks_held _ _ _ t p q (cell_new _ _ _ _ hb _ _ rfl)
  ·exact asks_placed _ _ _ t p q (cell_new _ _ _ _ hb _ _ rfl)
  ·exact asks_counted _ _ _ t p q n (cell_new _ _ _ _ hb _ _ rfl)
  ·exact asks_left _ _ _ t p q n (cell_new _ _ _ _ hb _ _ rfl)
 ·rintro e w' ⟨rfl,h⟩
  exact⟨rfl,h.mono (by rw[World.size_alloc];omega)⟩
theorem first_rest (W:World) (b:Nat) (hb:b=W.heap.size) (t:ByteArray) (p q:Int) :
  Calls Tryz.prog 165 #[.slice (some ⟨b,0,none⟩) 2 2] (W.alloc (.cells #[.func (.func 166) #[.agg #[.string t,.int .i64 p,.int .i64 q]] #[],.func (.func 167) #[.agg #[.string t,.int .i64 p,.int .i64 q]] #[]] 207))
   fun e w'=>e=.returned (.int .i64 (restBad t p q))∧Below (b+1) (W.alloc (.cells #[.func (.func 166) #[.agg #[.string t,.int .i64 p,.int .i64 q]] #[],.func (.func 167) #[.agg #[.string t,.int .i64 p,.int .i64 q]] #[]] 207)) w':=by
 refine(first_any b 2 [q,placedV t p] _ (by rw[World.size_alloc];omega) rfl (by omega) ?_).mono ?_
 ·intro i hi
  rcases(by omega:i=0∨i=1) with rfl|rfl
  ·exact asks_held _ _ _ t p q (cell_new _ _ _ _ hb _ _ rfl)
  ·exact asks_placed _ _ _ t p q (cell_new _ _ _ _ hb _ _ rfl)
 ·rintro e w' ⟨rfl,h⟩
  exact⟨rfl,h.mono (by rw[World.size_alloc];omega)⟩
theorem first_end (W:World) (b:Nat) (hb:b=W.heap.size) (t:ByteArray) (p q:Int) :
  Calls Tryz.prog 165 #[.slice (some ⟨b,0,none⟩) 3 3] (W.alloc (.cells #[.func (.func 166) #[.agg #[.string t,.int .i64 p,.int .i64 q]] #[],.func (.func 167) #[.agg #[.string t,.int .i64 p,.int .i64 q]] #[],.func (.func 183) #[.agg #[.string t,.int .i64 p,.int .i64 q]] #[]] 207))
   fun e w'=>e=.returned (.int .i64 (endV t p q))∧Below (b+1) (W.alloc (.cells #[.func (.func 166) #[.agg #[.string t,.int .i64 p,.int .i64 q]] #[],.func (.func 167) #[.agg #[.string t,.int .i64 p,.int .i64 q]] #[],.func (.func 183) #[.agg #[.string t,.int .i64 p,.int .i64 q]] #[]] 207)) w':=by
 refine(first_any b 3 [q,placedV t p,spentV t p] _ (by rw[World.size_alloc];omega) rfl (by omega) ?_).mono ?_
 ·intro i hi
  rcases(by omega:i=0∨i=1∨i=2) with rfl|rfl|rfl
  ·exact asks_held _ _ _ t p q (cell_new _ _ _ _ hb _ _ rfl)
  ·exact asks_placed _ _ _ t p q (cell_new _ _ _ _ hb _ _ rfl)
  ·exact asks_spent _ _ _ t p q (cell_new _ _ _ _ hb _ _ rfl)
 ·rintro e w' ⟨rfl,h⟩
  exact⟨rfl,h.mono (by rw[World.size_alloc];omega)⟩
set_option maxHeartbeats 1000000 in
theorem num_yes (t:ByteArray) (p n:Int) (w:World) (hm:t.size≤maxLen) (h:numBad t p 0 n=0) (p0:0≤p) (n0:1≤n) (n1:n≤8) (hp:p+n≤t.size):Calls Tryz.prog 97 #[.agg #[.string t,.int .i64 p,.int .i64 0],.int .i64 n] w
  fun e w'=>e=.returned (.tuple #[.int .u64 (numB (t.extract p.toNat (p+n).toNat).data.toList),.agg #[.string t,.int .i64 (p+n),.int .i64 0]])∧Below w.heap.size w w':=by
 have H:=Lib.hid h;clear h
 have HM:=Lib.hid hm;clear hm
 go_enter Tryz.func97,Tryz.ntmps97
 go_wp2_with fail
 refine(first_num _ _ (by simp) t p 0 n).mono ?_
 rintro e w1 ⟨rfl,hb⟩
 have hz:w.heap.size+4≤w1.heap.size:=by have:=hb.size;simp at this;omega
 have hbw:Below w.heap.size w w1:=Below.trans (by go_grown) (hb.mono (by omega))
 have c0:w1.cell? ⟨w.heap.size,0,none⟩=some (.string t):=((bcell hb).1 _ _ (by omega)).trans (by simp[go_sem])
 have c1:w1.cell? ⟨w.heap.size,1,none⟩=some (.int .i64 p):=((bcell hb).1 _ _ (by omega)).trans (by simp[go_sem])
 have c2:w1.cell? ⟨w.heap.size,2,none⟩=some (.int .i64 0):=((bcell hb).1 _ _ (by omega)).trans (by simp[go_sem])
 have c3:w1.cell? ⟨w.heap.size+1,0,none⟩=some (.string { data:=#[] }):=((bcell hb).1 _ _ (by omega)).trans (by simp[go_sem])
 have c4:w1.cell? ⟨w.heap.size+1,1,none⟩=some (.int .i64 0):=((bcell hb).1 _ _ (by omega)).trans (by simp[go_sem])
 have c5:w1.cell? ⟨w.heap.size+1,2,none⟩=some (.int .i64 0):=((bcell hb).1 _ _ (by omega)).trans (by simp[go_sem])
 have f0:∀ o,w1.frozen? ⟨w.heap.size,o,none⟩=false:=fun o=>((bcell hb).2 _ _ (by omega)).trans (by simp[go_sem])
 have f1:∀ o,w1.frozen? ⟨w.heap.size+1,o,none⟩=false:=fun o=>((bcell hb).2 _ _ (by omega)).trans (by simp[go_sem])
 clear hb
 rw[H.out]
 go_wp2_with fail
 refine(step_any t p 0 n _ (by omega) (by omega) (by omega) HM.out).mono ?_
 rintro e w2 ⟨rfl,hb⟩
 have hz2:w1.heap.size≤w2.heap.size:=by have:=hb.size;rw[World.size_setCell] at this;exact this
 have hbw2:Below w.heap.size w w2:=Below.trans (by go_grown) (hb.mono (by rw[World.size_setCell];omega))
 have d0:w2.cell? ⟨w.heap.size,0,none⟩=some (.string t):=((bcell hb).1 _ _ (by rw[World.size_setCell];omega)).trans (by simp[go_sem,c0])
 have d1:w2.cell? ⟨w.heap.size,1,none⟩=some (.int .i64 p):=((bcell hb).1 _ _ (by rw[World.size_setCell];omega)).trans (by simp[go_sem,c1])
 have d2:w2.cell? ⟨w.heap.size,2,none⟩=some (.int .i64 0):=((bcell hb).1 _ _ (by rw[World.size_setCell];omega)).trans (by simp[go_sem,c2])
 have d3:w2.cell? ⟨w.heap.size+1,0,none⟩=some (.string { data:=#[] }):=((bcell hb).1 _ _ (by rw[World.size_setCell];omega)).trans (by simp[go_sem,c3])
 have d4:w2.cell? ⟨w.heap.size+1,1,none⟩=some (.int .i64 0):=((bcell hb).1 _ _ (by rw[World.size_setCell];omega)).trans (by simp[go_sem,c4])
 have d5:w2.cell? ⟨w.heap.size+1,2,none⟩=some (.int .i64 0):=((bcell hb).1 _ _ (by rw[World.size_setCell];omega)).trans (by simp[go_sem,c5])
 have g0:∀ o,w2.frozen? ⟨w.heap.size,o,none⟩=false:=fun o=>((bcell hb).2 _ _ (by rw[World.size_setCell];omega)).trans (by simp[go_sem,f0])
 have g1:∀ o,w2.frozen? ⟨w.heap.size+1,o,none⟩=false:=fun o=>((bcell hb).2 _ _ (by rw[World.size_setCell];omega)).trans (by simp[go_sem,f1])
 clear hb c0 c1 c2 c3 c4 c5 f0 f1 hbw
 have hx:(t.extract p.toNat (p+n).toNat).size≤8:=by simp;omega
 obtain⟨x,he⟩:∃ x,t.extract p.toNat (p+n).toNat=x:=⟨_,rfl⟩
 rw[he] at hx ⊢
 have HE:=Lib.hid he;clear he
 go_wp2_with fail
 go_region_with (go_at_call 172;refine(number_any x _ hx).mono ?_;rintro e w' ⟨rfl,rfl⟩)
 all_goals
  go_wp2
  refine bodyPost_ret (v:=.tuple #[.int .u64 (numB x.data.toList),.agg #[.string t,.int .i64 (p+n),.int .i64 0]]) (by simp[results,Tryz.results97,go_sem,d3,d4,d5]) rfl ⟨by rw[HE.out],?_⟩
  go_grown
theorem bytes_no (t:ByteArray) (p q n:Int) (w:World) (h:bytesBad t p q n≠0):Calls Tryz.prog 96 #[.agg #[.string t,.int .i64 p,.int .i64 q],.int .i64 n] w
  fun e w'=>e=.returned (.tuple #[.string { data:=#[] },.agg #[.string t,.int .i64 p,.int .i64 (bytesBad t p q n)]])∧Below w.heap.size w w':=by
 have hne:(bytesBad t p q n != 0)=true:=by simp only[bne_iff_ne,ne_eq];exact h
 clear h
 go_enter Tryz.func96,Tryz.ntmps96
 go_wp2_with fail
 refine(first_bytes _ _ (by simp) t p q n).mono ?_
 rintro e w1 ⟨rfl,hb⟩
 have hz:w.heap.size+4≤w1.heap.size:=by have:=hb.size;simp at this;omega
 have hbw:Below w.heap.size w w1:=Below.trans (by go_grown) (hb.mono (by omega))
 have c0:w1.cell? ⟨w.heap.size,0,none⟩=some (.string t):=((bcell hb).1 _ _ (by omega)).trans (by simp[go_sem])
 have c1:w1.cell? ⟨w.heap.size,1,none⟩=some (.int .i64 p):=((bcell hb).1 _ _ (by omega)).trans (by simp[go_sem])
 have c2:w1.cell? ⟨w.heap.size,2,none⟩=some (.int .i64 q):=((bcell hb).1 _ _ (by omega)).trans (by simp[go_sem])
 have c3:w1.cell? ⟨w.heap.size+1,0,none⟩=some (.string { data:=#[] }):=((bcell hb).1 _ _ (by omega)).trans (by simp[go_sem])
 have c4:w1.cell? ⟨w.heap.size+1,1,none⟩=some (.int .i64 0):=((bcell hb).1 _ _ (by omega)).trans (by simp[go_sem])
 have c5:w1.cell? ⟨w.heap.size+1,2,none⟩=some (.int .i64 0):=((bcell hb).1 _ _ (by omega)).trans (by simp[go_sem])
 have f0:∀ o,w1.frozen? ⟨w.heap.size,o,none⟩=false:=fun o=>((bcell hb).2 _ _ (by omega)).trans (by simp[go_sem])
 have f1:∀ o,w1.frozen? ⟨w.heap.size+1,o,none⟩=false:=fun o=>((bcell hb).2 _ _ (by omega)).trans (by simp[go_sem])
 clear hb
 obtain⟨r,hr⟩:∃ r,bytesBad t p q n=r:=⟨_,rfl⟩
 have HR:=Lib.hid hr
 rw[hr] at hne ⊢
 clear hr
 go_wp2_with fail
 go_region
 go_wp2
 refine bodyPost_ret (v:=.tuple #[.string { data:=#[] },.agg #[.string t,.int .i64 p,.int .i64 r]]) (by simp[results,Tryz.results96,go_sem,c3,c4,c5]) rfl ⟨by rw[HR.out],?_⟩
 go_grown
theorem bytes_yes (t:ByteArray) (p n:Int) (w:World) (hm:t.size≤maxLen) (h:bytesBad t p 0 n=0) (p0:0≤p) (n0:0≤n) (hp:p+n≤t.size):Calls Tryz.prog 96 #[.agg #[.string t,.int .i64 p,.int .i64 0],.int .i64 n] w
  fun e w'=>e=.returned (.tuple #[.string (t.extract p.toNat (p+n).toNat),.agg #[.string t,.int .i64 (p+n),.int .i64 0]])∧Below w.heap.size w w':=by
 have H:=Lib.hid h;clear h
 have HM:=Lib.hid hm;clear hm
 go_enter Tryz.func96,Tryz.ntmps96
 go_wp2_with fail
 refine(first_bytes _ _ (by simp) t p 0 n).mono ?_
 rintro e w1 ⟨rfl,hb⟩
 have hz:w.heap.size+4≤w1.heap.size:=by have:=hb.size;simp at this;omega
 have hbw:Below w.heap.size w w1:=Below.trans (by go_grown) (hb.mono (by omega))
 have c0:w1.cell? ⟨w.heap.size,0,none⟩=some (.string t):=((bcell hb).1 _ _ (by omega)).trans (by simp[go_sem])
 have c1:w1.cell? ⟨w.heap.size,1,none⟩=some (.int .i64 p):=((bcell hb).1 _ _ (by omega)).trans (by simp[go_sem])
 have c2:w1.cell? ⟨w.heap.size,2,none⟩=some (.int .i64 0):=((bcell hb).1 _ _ (by omega)).trans (by simp[go_sem])
 have c3:w1.cell? ⟨w.heap.size+1,0,none⟩=some (.string { data:=#[] }):=((bcell hb).1 _ _ (by omega)).trans (by simp[go_sem])
 have c4:w1.cell? ⟨w.heap.size+1,1,none⟩=some (.int .i64 0):=((bcell hb).1 _ _ (by omega)).trans (by simp[go_sem])
 have c5:w1.cell? ⟨w.heap.size+1,2,none⟩=some (.int .i64 0):=((bcell hb).1 _ _ (by omega)).trans (by simp[go_sem])
 have f0:∀ o,w1.frozen? ⟨w.heap.size,o,none⟩=false:=fun o=>((bcell hb).2 _ _ (by omega)).trans (by simp[go_sem])
 have f1:∀ o,w1.frozen? ⟨w.heap.size+1,o,none⟩=false:=fun o=>((bcell hb).2 _ _ (by omega)).trans (by simp[go_sem])
 clear hb
 rw[H.out]
 go_wp2_with fail
 refine(step_any t p 0 n _ (by omega) (by omega) (by omega) HM.out).mono ?_
 rintro e w2 ⟨rfl,hb⟩
 have hz2:w1.heap.size≤w2.heap.size:=by have:=hb.size;rw[World.size_setCell] at this;exact this
 have hbw2:Below w.heap.size w w2:=Below.trans (by go_grown) (hb.mono (by rw[World.size_setCell];omega))
 have d3:w2.cell? ⟨w.heap.size+1,0,none⟩=some (.string { data:=#[] }):=((bcell hb).1 _ _ (by rw[World.size_setCell];omega)).trans (by simp[go_sem,c3])
 have d4:w2.cell? ⟨w.heap.size+1,1,none⟩=some (.int .i64 0):=((bcell hb).1 _ _ (by rw[World.size_setCell];omega)).trans (by simp[go_sem,c4])
 have d5:w2.cell? ⟨w.heap.size+1,2,none⟩=some (.int .i64 0):=((bcell hb).1 _ _ (by rw[World.size_setCell];omega)).trans (by simp[go_sem,c5])
 have g1:∀ o,w2.frozen? ⟨w.heap.size+1,o,none⟩=false:=fun o=>((bcell hb).2 _ _ (by rw[World.size_setCell];omega)).trans (by simp[go_sem,f1])
 clear hb c0 c1 c2 c3 c4 c5 f0 f1 hbw
 obtain⟨x,he⟩:∃ x,t.extract p.toNat (p+n).toNat=x:=⟨_,rfl⟩
 rw[he]
 have HE:=Lib.hid he;clear he
 go_wp2_with fail
 refine bodyPost_ret (v:=.tuple #[.string x,.agg #[.string t,.int .i64 (p+n),.int .i64 0]]) (by simp[results,Tryz.results96,go_sem,d3,d4,d5]) rfl ⟨by rw[HE.out],?_⟩
 go_grown
theorem rest_yes (t:ByteArray) (p:Int) (w:World) (hm:t.size≤maxLen) (h:restBad t p 0=0) (p0:0≤p) (hp:p≤t.size):Calls Tryz.prog 225 #[.agg #[.string t,.int .i64 p,.int .i64 0]] w
  fun e w'=>e=.returned (.string (t.extract p.toNat t.size))∧Below w.heap.size w w':=by
 have H:=Lib.hid h;clear h
 unfold maxLen at hm
 go_enter Tryz.func225,Tryz.ntmps225
 go_wp2_with fail
 refine(first_rest _ _ (by simp) t p 0).mono ?_
 rintro e w1 ⟨rfl,hb⟩
 have hz:w.heap.size+2≤w1.heap.size:=by have:=hb.size;simp at this;omega
 have hbw:Below w.heap.size w w1:=Below.trans (by go_grown) (hb.mono (by omega))
 have c0:w1.cell? ⟨w.heap.size,0,none⟩=some (.string t):=((bcell hb).1 _ _ (by omega)).trans (by simp[go_sem])
 have c1:w1.cell? ⟨w.heap.size,1,none⟩=some (.int .i64 p):=((bcell hb).1 _ _ (by omega)).trans (by simp[go_sem])
 have c2:w1.cell? ⟨w.heap.size,2,none⟩=some (.int .i64 0):=((bcell hb).1 _ _ (by omega)).trans (by simp[go_sem])
 clear hb
 rw[H.out]
 go_wp2_with fail
 go_ret
 exact⟨rfl,hbw⟩
theorem end_anyBb (t:ByteArray) (p q:Int) (w:World):Calls Tryz.prog 107 #[.agg #[.string t,.int .i64 p,.int .i64 q]] w
  fun e w'=>e=.returned (.int .i64 (endV t p q))∧Below w.heap.size w w':=by
 go_enter Tryz.func107,Tryz.ntmps107
 go_wp2_with fail
 refine(first_end _ _ (by simp) t p q).mono ?_
 rintro e w1 ⟨rfl,hb⟩
 have hz:w.heap.size+2≤w1.heap.size:=by have:=hb.size;simp at this;omega
 have hbw:Below w.heap.size w w1:=Below.trans (by go_grown) (hb.mono (by omega))
 have c0:w1.cell? ⟨w.heap.size,0,none⟩=some (.string t):=((bcell hb).1 _ _ (by omega)).trans (by simp[go_sem])
 have c1:w1.cell? ⟨w.heap.size,1,none⟩=some (.int .i64 p):=((bcell hb).1 _ _ (by omega)).trans (by simp[go_sem])
 have c2:w1.cell? ⟨w.heap.size,2,none⟩=some (.int .i64 q):=((bcell hb).1 _ _ (by omega)).trans (by simp[go_sem])
 clear hb
 go_wp2_with fail
 go_ret
 exact⟨rfl,hbw⟩
end Go.Proofs.YtjkgkmmkehnggaaGreatDoor
namespace Go.Proofs.YtjkgkmmkehnggaaGreatDoor
set_option linter.unusedVariables false
set_option linter.unusedSimpArgs false
open Go.RowKit
set_option maxRecDepth 20000
open Go.RowKit
set_option maxRecDepth 20000
theorem bytesBad0 (t:ByteArray) (p q:Int) (hm:t.size≤maxLen):bytesBad t p q 0=restBad t p q:=by
 unfold bytesBad restBad
 simp only[firstOf]
 by_cases h1:q=0
 ·rw[if_pos h1,if_pos h1]
  by_cases h2:placedV t p=0
  ·have h3:0≤p∧p≤t.size:=by
    unfold placedV at h2
    split at h2
    ·assumption
    ·cases h2
   have h4:leftV t p 0=0:=by
    unfold leftV wrap64
    unfold maxLen at hm
    rw[if_neg (by omega)]
   rw[if_pos h2,if_pos h2,h4]
   simp[countedV]
  ·rw[if_neg h2,if_neg h2]
 ·rw[if_neg h1,if_neg h1]
theorem restBad_ok (t:ByteArray) (p q:Int) (h:restBad t p q=0):q=0∧0≤p∧p≤t.size:=by
 unfold restBad at h
 simp only[firstOf] at h
 split at h
 ·rename_i h1
  split at h
  ·rename_i h2
   unfold placedV at h2
   split at h2
   ·exact⟨h1,by assumption⟩
   ·cases h2
  ·contradiction
 ·contradiction
theorem vplaced_any (t:ByteArray) (p q:Int) (w:World) (hm:t.size≤maxLen):Calls Tryz.prog 223 #[.agg #[.string t,.int .i64 p,.int .i64 q]] w
  fun e w'=>e=.returned (.agg #[.string t,.int .i64 p,.int .i64 (restBad t p q)])∧Below w.heap.size w w':=by
 have hb0:=bytesBad0 t p q hm
 obtain⟨r,hr⟩:∃ r,restBad t p q=r:=⟨_,rfl⟩
 rw[hr] at hb0 ⊢
 by_cases h:r=0
 ·subst h
  obtain⟨rfl,p0,p1⟩:=restBad_ok t p q hr
  have HM:=Lib.hid hm;clear hm hr
  have H0:=Lib.hid hb0;clear hb0
  go_enter Tryz.func223,Tryz.ntmps223
  go_wp2_with fail
  refine(bytes_yes t p 0 _ HM.out H0.out p0 (by omega) (by omega)).mono ?_
  rintro e w1 ⟨rfl,hb⟩
  have hz:w.heap.size+2≤w1.heap.size:=by have:=hb.size;simp at this;omega
  have hbw:Below w.heap.size w w1:=Below.trans (by go_grown) (hb.mono (by simp;omega))
  have f0:∀ o,w1.frozen? ⟨w.heap.size,o,none⟩=false:=fun o=>((bcell hb).2 _ _ (by simp;omega)).trans (by simp[go_sem])
  have f1:∀ o,w1.frozen? ⟨w.heap.size+1,o,none⟩=false:=fun o=>((bcell hb).2 _ _ (by simp)).trans (by simp[go_sem])
  have c0:w1.cell? ⟨w.heap.size,0,none⟩=some (.string t):=((bcell hb).1 _ _ (by simp;omega)).trans (by simp[go_sem])
  have c1:w1.cell? ⟨w.heap.size,1,none⟩=some (.int .i64 p):=((bcell hb).1 _ _ (by simp;omega)).trans (by simp[go_sem])
  have c2:w1.cell? ⟨w.heap.size,2,none⟩=some (.int .i64 0):=((bcell hb).1 _ _ (by simp;omega)).trans (by simp[go_sem])
  have c3:w1.cell? ⟨w.heap.size+1,0,none⟩=some (.string { data:=#[] }):=((bcell hb).1 _ _ (by simp)).trans (by simp[go_sem])
  have c4:w1.cell? ⟨w.heap.size+1,1,none⟩=some (.int .i64 0):=((bcell hb).1 _ _ (by simp)).trans (by simp[go_sem])
  have c5:w1.cell? ⟨w.heap.size+1,2,none⟩=some (.int .i64 0):=((bcell hb).1 _ _ (by simp)).trans (by simp[go_sem])
  clear hb
  have hp:p+0=p:=by omega
  rw[hp]
  go_wp2_with fail
  refine bodyPost_ret (v:=.agg #[.string t,.int .i64 p,.int .i64 0]) (by simp[results,Tryz.results223,go_sem,c3,c4,c5]) rfl ⟨rfl,?_⟩
  go_grown
 ·have hb1:=bytes_no t p q 0
  rw[hb0] at hb1
  have HB:=Lib.hid (fun w=>hb1 w h);clear hb1 hb0 hm h hr
  go_enter Tryz.func223,Tryz.ntmps223
  go_wp2_with fail
  refine(HB.out _).mono ?_
  rintro e w1 ⟨rfl,hb⟩
  have hz:w.heap.size+2≤w1.heap.size:=by have:=hb.size;simp at this;omega
  have hbw:Below w.heap.size w w1:=Below.trans (by go_grown) (hb.mono (by simp;omega))
  have f0:∀ o,w1.frozen? ⟨w.heap.size,o,none⟩=false:=fun o=>((bcell hb).2 _ _ (by simp;omega)).trans (by simp[go_sem])
  have f1:∀ o,w1.frozen? ⟨w.heap.size+1,o,none⟩=false:=fun o=>((bcell hb).2 _ _ (by simp)).trans (by simp[go_sem])
  have c0:w1.cell? ⟨w.heap.size,0,none⟩=some (.string t):=((bcell hb).1 _ _ (by simp;omega)).trans (by simp[go_sem])
  have c1:w1.cell? ⟨w.heap.size,1,none⟩=some (.int .i64 p):=((bcell hb).1 _ _ (by simp;omega)).trans (by simp[go_sem])
  have c2:w1.cell? ⟨w.heap.size,2,none⟩=some (.int .i64 q):=((bcell hb).1 _ _ (by simp;omega)).trans (by simp[go_sem])
  have c3:w1.cell? ⟨w.heap.size+1,0,none⟩=some (.string { data:=#[] }):=((bcell hb).1 _ _ (by simp)).trans (by simp[go_sem])
  have c4:w1.cell? ⟨w.heap.size+1,1,none⟩=some (.int .i64 0):=((bcell hb).1 _ _ (by simp)).trans (by simp[go_sem])
  have c5:w1.cell? ⟨w.heap.size+1,2,none⟩=some (.int .i64 0):=((bcell hb).1 _ _ (by simp)).trans (by simp[go_sem])
  clear hb
  go_wp2_with fail
  refine bodyPost_ret (v:=.agg #[.string t,.int .i64 p,.int .i64 r]) (by simp[results,Tryz.results223,go_sem,c3,c4,c5]) rfl ⟨rfl,?_⟩
  go_grown
def fstX (l:List UInt8):Int:=if errV l=0 then valV l else 0
def fstN (l:List UInt8):Int:=if errV l=0 then cntV l else 0
theorem fst_ok (l:List UInt8) (h:errV l=0):fstX l=valV l∧fstN l=cntV l:=by unfold fstX fstN;rw[if_pos h,if_pos h];exact⟨rfl,rfl⟩
theorem fst_no (l:List UInt8) (e:Int) (he:errV l=e) (h:e≠0):fstX l=0∧fstN l=0:=by unfold fstX fstN;rw[if_neg (by omega),if_neg (by omega)];exact⟨rfl,rfl⟩
theorem list_at (t:ByteArray) (k:Nat) (h:k<t.size):t.data.toList.getD k 0=t[k]:=by
 have:k<t.data.size:=h
 simp[List.getD,Array.getElem?_eq_getElem this];rfl
theorem two_pow7 (k:Nat):(2:Int) ^ (7*k)=p7 k:=by rw[← two7];simp
theorem or7 (k:Nat) (y c:Int) (y0:0≤y) (y1:y<p7 k) (c0:0≤c) (c1:c*p7 k<18446744073709551616) (y2:y<18446744073709551616):bits BinOp.or IntKind.u64 y (c*p7 k)=y+c*p7 k:=by
 have hp:=p7_pos k
 have hz:0≤c*p7 k:=Int.mul_nonneg c0 (by omega)
 rw[u64_or _ _ y0 y2 hz c1]
 have e:=two7 k
 have h1:(c*p7 k).toNat=c.toNat*2 ^ (7*k):=by
  rw[← e]
  have:c=(c.toNat:Int):=by omega
  rw[this,← Int.natCast_mul,Int.toNat_natCast,Int.toNat_natCast]
 have h2:y.toNat<2 ^ (7*k):=by omega
 rw[Nat.or_comm,nat_join (7*k) _ _ (by rw[h1];exact Nat.mul_mod_left _ _) h2]
 omega
theorem or7w (k:Nat) (y c:Int) (y0:0≤y) (y1:y<p7 k) (c0:0≤c) (c1:c*p7 k<18446744073709551616) (y2:y<18446744073709551616):bits BinOp.or IntKind.u64 y (IntKind.u64.wrap (c*2 ^ (7*k)))=y+c*p7 k:=by
 have hz:0≤c*p7 k:=Int.mul_nonneg c0 (by have:=p7_pos k;omega)
 rw[two_pow7,IntWalk.u64_in _ (by omega),or7 k y c y0 y1 c0 c1 y2]
theorem stop_at (l:List UInt8) (k:Nat) (c:Nat) (hk:k≤lead 10 l) (hlt:k<l.length) (h10:k<10) (hc:(l.getD k 0).toNat=c) (h:c<128) :
  (k=9∧1<c→errV l=11)∧(¬ (k=9∧1<c)→0<k∧c=0→errV l=4)∧(¬ (k=9∧1<c)→¬ (0<k∧c=0)→errV l=0∧cntV l=k+1∧valV l=numV (l.take k)+c*p7 k∧numV (l.take k)<p7 k∧0≤numV (l.take k)∧(c:Int)*p7 k<18446744073709551616∧numV (l.take k)<18446744073709551616):=by
 have hl:=lead_at l k hk (by omega)
 have he:errV l=if k=10 then 11 else if k=l.length then 3 else if k=9∧1<c then 11 else if 0<k∧c=0 then 4 else 0:=by
  unfold errV;rw[hl,hc]
 rw[if_neg (by omega),if_neg (by omega)] at he
 refine⟨fun a=>by rw[he,if_pos a],fun a b=>by rw[he,if_neg a,if_pos b],fun a b=>?_⟩
 have hb:=numV_bd (l.take k)
 have hlen:(l.take k).length=k:=by simp;omega
 rw[hlen] at hb
 have h9:=p7_mono k 9 (by omega)
 have ht:=p7_top.2
 refine⟨by rw[he,if_neg a,if_neg b],by unfold cntV;rw[hl];simp,?_,hb.2,hb.1,?_,by omega⟩
 ·unfold valV
  rw[hl,numV_take l k hlt,hc]
  congr 2
  omega
 ·by_cases hk9:k=9
  ·subst hk9;rw[ht];omega
  ·have h8:=p7_mono k 8 (by omega)
   have e8:p7 8=72057594037927936:=by decide
   have:(c:Int)*p7 k≤127*p7 k:=Int.mul_le_mul_of_nonneg_right (by omega) (by have:=p7_pos k;omega)
   omega
theorem round_val (l:List UInt8) (k:Nat) (y:Int) (c:Nat) (hk:k≤lead 10 l) (hlt:k<l.length) (hc:(l.getD k 0).toNat=c) (h:128≤c) (hy:k≤9→y=numV (l.take k)) (h9:k+1≤9):bits BinOp.or IntKind.u64 y (IntKind.u64.wrap (((c:Int) - 128)*2 ^ (7*k)))=numV (l.take (k+1)):=by
 have hb:=numV_bd (l.take k)
 have hlen:(l.take k).length=k:=by simp;omega
 rw[hlen] at hb
 have hx:=byte_lt (l.getD k 0)
 have h8:=p7_mono k 8 (by omega)
 have e8:p7 8=72057594037927936:=by decide
 have:((c:Int) - 128)*p7 k≤127*p7 k:=Int.mul_le_mul_of_nonneg_right (by omega) (by have:=p7_pos k;omega)
 rw[hy (by omega),or7w k _ _ hb.1 hb.2 (by omega) (by omega) (by omega),numV_take l k hlt,hc]
 congr 2
 omega
set_option maxRecDepth 20000 in
theorem vfirst_any (t:ByteArray) (w:World) (hm:t.size≤maxLen):Calls Tryz.prog 224 #[.string t] w fun e w'=>e=.returned (.tuple #[.int .u64 (fstX t.data.toList),.int .i64 (fstN t.data.toList),.int .i64 (errV t.data.toList)])∧w=w':=by
 unfold maxLen at hm
 obtain⟨l,hl⟩:∃ l,t.data.toList=l:=⟨_,rfl⟩
 have hlen:l.length=t.size:=by rw[← hl];simp
 have hat:∀ k (h:k<t.size),(l.getD k 0).toNat=t[k].toNat:=fun k h=>by rw[← hl,list_at t k h]
 rw[hl]
 have HAT:=Lib.hid hat;have HLEN:=Lib.hid hlen;clear hat hlen hl
 obtain⟨X,hX⟩:∃ X,fstX l=X:=⟨_,rfl⟩
 obtain⟨N,hN⟩:∃ N,fstN l=N:=⟨_,rfl⟩
 obtain⟨E,hE⟩:∃ E,errV l=E:=⟨_,rfl⟩
 rw[hX,hN,hE]
 have HX:=Lib.hid hX;have HN:=Lib.hid hN;have HE:=Lib.hid hE;clear hX hN hE
 go_enter Tryz.func224,Tryz.ntmps224
 go_wp2_with fail
 go_step3
 go_wp2_with fail
 go_step3
 go_wp2_with fail
 go_loop [5,6] (fun x i=>∃ (k:Nat) (y:Int),k≤lead 10 l∧i=.int .i64 k∧x=.int .u64 y∧Hid (k≤9→y=numV (l.take k))) (fun _ i=>10 - (intOf i).toNat)
 case atStart=>exact⟨0,0,Nat.zero_le _,rfl,rfl,Lib.hid (fun _=>by simp[numV])⟩
 case round =>
  obtain⟨k,y,hk,rfl,rfl,HY⟩:=hrel
  have hll:=lead_le 10 l
  by_cases h10:k=10
  ·subst h10
   have HF:Hid (X=0∧N=0∧E=11):=by
    have hl:lead 10 l=10:=by omega
    have he:errV l=11:=by unfold errV;rw[if_pos hl]
    have:=fst_no l 11 he (by decide)
    exact Lib.hid ⟨by rw[← HX.out,this.1],by rw[← HN.out,this.2],by rw[← HE.out,he]⟩
   clear hll hk
   go_wp2_with fail
   try rw[Exit.noGoto_ret]
   go_ret3
   exact⟨ret3 HF.out.1.symm HF.out.2.1.symm HF.out.2.2.symm,rfl⟩
  ·by_cases hn:k=t.size
   ·subst hn
    have HF:Hid (X=0∧N=0∧E=3):=by
     have hl:lead 10 l=t.size:=by have:=HLEN.out;omega
     have he:errV l=3:=by have:=HLEN.out;unfold errV;rw[if_neg (by omega),if_pos (by omega)]
     have:=fst_no l 3 he (by decide)
     exact Lib.hid ⟨by rw[← HX.out,this.1],by rw[← HN.out,this.2],by rw[← HE.out,he]⟩
    have hk9:((t.size:Int) == 10)=false:=by simp;omega
    clear hll hk
    go_wp2_with fail
    try rw[Exit.noGoto_ret]
    go_ret3
    exact⟨ret3 HF.out.1.symm HF.out.2.1.symm HF.out.2.2.symm,rfl⟩
   ·have hlt:k<t.size:=by have:=HLEN.out;omega
    have h10':k<10:=by omega
    have hk0:(0:Int)≤(k:Int):=Int.natCast_nonneg _
    have hk1:(k:Int)<(t.size:Int):=by omega
    have hk9:((k:Int) == 10)=false:=by simp;omega
    have hkt:((k:Int) == (t.size:Int))=false:=by simp;omega
    have hca:=HAT.out k hlt
    have hcb:t[k].toNat<256:=byte_lt _
    by_cases hc:128≤t[k].toNat
    ·have HK:Hid (k+1≤lead 10 l):=Lib.hid (lead_next 10 l k hk h10' (by rw[HLEN.out];exact hlt) (by rw[hca];exact hc))
     have HV:Hid (k+1≤9→bits BinOp.or IntKind.u64 y (IntKind.u64.wrap (((t[k].toNat:Int) - 128)*2 ^ (7*k)))=numV (l.take (k+1))) :=
      Lib.hid (fun h9=>round_val l k y _ hk (by rw[HLEN.out];exact hlt) hca hc HY.out h9)
     have hw8:IntKind.u8.wrap ((t[k].toNat:Int) - 128)=(t[k].toNat:Int) - 128:=IntWalk.u8_in _ (by omega)
     clear HY hca hll hk
     go_wp2_with fail
     exact⟨⟨k+1,_,HK.out,by go_num,rfl,HV⟩,by simp[intOf];omega⟩
    ·have HS:=Lib.hid (stop_at l k _ hk (by rw[HLEN.out];exact hlt) h10' hca (by omega))
     clear hca hll hk
     by_cases hA:k=9∧1<t[k].toNat
     ·have HF:Hid (X=0∧N=0∧E=11):=by
       have he:=HS.out.1 hA
       have:=fst_no l 11 he (by decide)
       exact Lib.hid ⟨by rw[← HX.out,this.1],by rw[← HN.out,this.2],by rw[← HE.out,he]⟩
      clear HS
      obtain⟨rfl,hA2⟩:=hA
      go_wp2_with fail
      try rw[Exit.noGoto_ret]
      go_ret3
      exact⟨ret3 HF.out.1.symm HF.out.2.1.symm HF.out.2.2.symm,rfl⟩
     ·by_cases hB:0<k∧t[k].toNat=0
      ·have HF:Hid (X=0∧N=0∧E=4):=by
        have he:=HS.out.2.1 hA hB
        have:=fst_no l 4 he (by decide)
        exact Lib.hid ⟨by rw[← HX.out,this.1],by rw[← HN.out,this.2],by rw[← HE.out,he]⟩
       clear HS
       obtain⟨hB1,hB2⟩:=hB
       have hc0:((t[k].toNat:Int) == 0)=true:=by simp;omega
       have hc1:decide (1<(t[k].toNat:Int))=false:=by simp;omega
       by_cases h9:k=9
       ·subst h9
        go_wp2_with fail
        try rw[Exit.noGoto_ret]
        go_ret3
        exact⟨ret3 HF.out.1.symm HF.out.2.1.symm HF.out.2.2.symm,rfl⟩
       ·have h9':((k:Int) == 9)=false:=by simp;omega
        go_wp2_with fail
        try rw[Exit.noGoto_ret]
        go_ret3
        exact⟨ret3 HF.out.1.symm HF.out.2.1.symm HF.out.2.2.symm,rfl⟩
      ·have hs:=HS.out.2.2 hA hB
       have hy:=HY.out (by omega)
       have hf:=fst_ok l hs.1
       have HF:Hid (X=y+t[k].toNat*p7 k∧N=(k:Int)+1∧E=0) :=
        Lib.hid ⟨by rw[← HX.out,hf.1,hs.2.2.1,← hy],by rw[← HN.out,hf.2,hs.2.1],by rw[← HE.out,hs.1]⟩
       obtain⟨_,_,_,q1,q2,q3,q4⟩:=hs
       rw[← hy] at q1 q2 q4
       have HQ:=Lib.hid (And.intro q1 (And.intro q2 (And.intro q3 q4)))
       clear HS q1 q2 q3 q4 hf hy HY
       by_cases h9:k=9
       ·subst h9
        have hc0:((t[9].toNat:Int) == 0)=false:=by simp;omega
        have hc1:(t[9].toNat:Int)≤1:=by omega
        go_wp2_with fail
        try rw[Exit.noGoto_ret]
        go_ret3
        refine⟨ret3 ?_ HF.out.2.1.symm HF.out.2.2.symm,rfl⟩
        rw[HF.out.1]
        have:=or7 9 y t[9].toNat HQ.out.2.1 HQ.out.1 (by omega) HQ.out.2.2.1 HQ.out.2.2.2
        rw[← this,p7_top.2]
       ·have h9':((k:Int) == 9)=false:=by simp;omega
        have hd:(decide (0<(k:Int)) && ((t[k].toNat:Int) == 0))=false:=by simp;omega
        by_cases hk00:k=0
        ·subst hk00
         go_wp2_with fail
         try rw[Exit.noGoto_ret]
         go_ret3
         refine⟨ret3 ?_ HF.out.2.1.symm HF.out.2.2.symm,rfl⟩
         rw[HF.out.1]
         have:=or7 0 y t[0].toNat HQ.out.2.1 HQ.out.1 (by omega) HQ.out.2.2.1 HQ.out.2.2.2
         rw[← this]
         simp[p7]
        ·have hc0:((t[k].toNat:Int) == 0)=false:=by simp;omega
         have hkp:0<k:=by omega
         go_wp2_with fail
         try rw[Exit.noGoto_ret]
         go_ret3
         refine⟨ret3 ?_ HF.out.2.1.symm HF.out.2.2.symm,rfl⟩
         rw[HF.out.1]
         exact or7w k y t[k].toNat HQ.out.2.1 HQ.out.1 (by omega) HQ.out.2.2.1 HQ.out.2.2.2
def rst (t:ByteArray) (p:Int):List UInt8:=t.data.toList.drop p.toNat
theorem ext_rst (t:ByteArray) (p:Int):(t.extract p.toNat t.size).data.toList=rst t p:=by
 unfold rst
 rw[ByteArray.data_extract,Array.toList_extract,List.extract_eq_take_drop,List.take_of_length_le]
 simp
theorem rst_len (t:ByteArray) (p:Int) (p0:0≤p) (p1:p≤t.size):((rst t p).length:Int)=t.size - p:=by
 unfold rst
 rw[List.length_drop]
 have:t.data.toList.length=t.size:=by simp
 omega
theorem cnt_bd (t:ByteArray) (p:Int) (p0:0≤p) (p1:p≤t.size) (h:errV (rst t p)=0):1≤cntV (rst t p)∧p+cntV (rst t p)≤t.size∧cntV (rst t p)≤10:=by
 have h1:=errV_ok _ h
 have h2:=rst_len t p p0 p1
 unfold cntV
 omega
def GetEnd (t:ByteArray) (x p q:Int) (w:World) (e:Ending) (w':World):Prop:=e=.returned (.tuple #[.int .u64 x,.agg #[.string t,.int .i64 p,.int .i64 q]])∧Below w.heap.size w w'
theorem get_1 (t:ByteArray) (p q r:Int) (w:World) (hm:t.size≤maxLen) (hr:restBad t p q=r) (h:r≠0):Calls Tryz.prog 180 #[.agg #[.string t,.int .i64 p,.int .i64 q]] w (GetEnd t 0 p r w):=by
 have HV:=Lib.hid (fun W=>hr ▸ vplaced_any t p q W hm)
 have hne:(r != 0)=true:=by simp only[bne_iff_ne,ne_eq];exact h
 clear hr h hm
 go_enter Tryz.func180,Tryz.ntmps180
 go_wp2_with fail
 refine(HV.out _).mono ?_
 rintro e w1 ⟨rfl,hb⟩
 have hz:w.heap.size+2≤w1.heap.size:=by have:=hb.size;simp at this;omega
 have hbw:Below w.heap.size w w1:=Below.trans (by go_grown) (hb.mono (by simp;omega))
 have f0:∀ o,w1.frozen? ⟨w.heap.size,o,none⟩=false:=fun o=>((bcell hb).2 _ _ (by simp;omega)).trans (by simp[go_sem])
 have f1:∀ o,w1.frozen? ⟨w.heap.size+1,o,none⟩=false:=fun o=>((bcell hb).2 _ _ (by simp)).trans (by simp[go_sem])
 have c0:w1.cell? ⟨w.heap.size,0,none⟩=some (.string t):=((bcell hb).1 _ _ (by simp;omega)).trans (by simp[go_sem])
 have c1:w1.cell? ⟨w.heap.size,1,none⟩=some (.int .i64 p):=((bcell hb).1 _ _ (by simp;omega)).trans (by simp[go_sem])
 have c2:w1.cell? ⟨w.heap.size,2,none⟩=some (.int .i64 q):=((bcell hb).1 _ _ (by simp;omega)).trans (by simp[go_sem])
 have c3:w1.cell? ⟨w.heap.size+1,0,none⟩=some (.string { data:=#[] }):=((bcell hb).1 _ _ (by simp)).trans (by simp[go_sem])
 have c4:w1.cell? ⟨w.heap.size+1,1,none⟩=some (.int .i64 0):=((bcell hb).1 _ _ (by simp)).trans (by simp[go_sem])
 have c5:w1.cell? ⟨w.heap.size+1,2,none⟩=some (.int .i64 0):=((bcell hb).1 _ _ (by simp)).trans (by simp[go_sem])
 clear hb HV
 go_wp2_with fail
 go_region
 all_goals
  go_wp2
  refine bodyPost_ret (v:=.tuple #[.int .u64 0,.agg #[.string t,.int .i64 p,.int .i64 r]]) (by simp[results,Tryz.results180,go_sem,c3,c4,c5]) rfl ⟨rfl,?_⟩
  go_grown
theorem get_2 (t:ByteArray) (p q r:Int) (w:World) (hm:t.size≤maxLen) (h0:restBad t p q=0) (hr:errV (rst t p)=r) (h:r≠0):Calls Tryz.prog 180 #[.agg #[.string t,.int .i64 p,.int .i64 q]] w (GetEnd t 0 p r w):=by
 have HV:=Lib.hid (fun W=>h0 ▸ vplaced_any t p q W hm)
 obtain⟨rfl,p0,p1⟩:=restBad_ok t p q h0
 have hne:(r != 0)=true:=by simp only[bne_iff_ne,ne_eq];exact h
 have hzz:(t.extract p.toNat t.size).size≤maxLen:=by simp;omega
 have HF:Hid (∀ W,Calls Tryz.prog 224 #[.string (t.extract p.toNat t.size)] W fun e w'=>e=.returned (.tuple #[.int .u64 0,.int .i64 0,.int .i64 r])∧W=w'):=by
  apply Lib.hid
  intro W
  have:=vfirst_any (t.extract p.toNat t.size) W hzz
  rw[ext_rst,hr,(fst_no _ r hr h).1,(fst_no _ r hr h).2] at this
  exact this
 have HM:=Lib.hid hm
 have H0:=Lib.hid h0
 clear hr h hm hzz h0
 go_enter Tryz.func180,Tryz.ntmps180
 go_wp2_with fail
 refine(HV.out _).mono ?_
 rintro e w1 ⟨rfl,hb⟩
 have hz:w.heap.size+2≤w1.heap.size:=by have:=hb.size;simp at this;omega
 have hbw:Below w.heap.size w w1:=Below.trans (by go_grown) (hb.mono (by simp;omega))
 have f0:∀ o,w1.frozen? ⟨w.heap.size,o,none⟩=false:=fun o=>((bcell hb).2 _ _ (by simp;omega)).trans (by simp[go_sem])
 have f1:∀ o,w1.frozen? ⟨w.heap.size+1,o,none⟩=false:=fun o=>((bcell hb).2 _ _ (by simp)).trans (by simp[go_sem])
 have c0:w1.cell? ⟨w.heap.size,0,none⟩=some (.string t):=((bcell hb).1 _ _ (by simp;omega)).trans (by simp[go_sem])
 have c1:w1.cell? ⟨w.heap.size,1,none⟩=some (.int .i64 p):=((bcell hb).1 _ _ (by simp;omega)).trans (by simp[go_sem])
 have c2:w1.cell? ⟨w.heap.size,2,none⟩=some (.int .i64 0):=((bcell hb).1 _ _ (by simp;omega)).trans (by simp[go_sem])
 have c3:w1.cell? ⟨w.heap.size+1,0,none⟩=some (.string { data:=#[] }):=((bcell hb).1 _ _ (by simp)).trans (by simp[go_sem])
 have c4:w1.cell? ⟨w.heap.size+1,1,none⟩=some (.int .i64 0):=((bcell hb).1 _ _ (by simp)).trans (by simp[go_sem])
 have c5:w1.cell? ⟨w.heap.size+1,2,none⟩=some (.int .i64 0):=((bcell hb).1 _ _ (by simp)).trans (by simp[go_sem])
 clear hb HV
 go_wp2_with fail
 refine(rest_yes t p _ HM.out H0.out p0 p1).mono ?_
 rintro e w2 ⟨rfl,hb⟩
 have hz2:w1.heap.size≤w2.heap.size:=by have:=hb.size;simp only[World.size_setCell] at this;exact this
 have hbw2:Below w.heap.size w w2:=Below.trans (by go_grown) (hb.mono (by simp only[World.size_setCell];omega))
 have g0:∀ o,w2.frozen? ⟨w.heap.size,o,none⟩=false:=fun o=>((bcell hb).2 _ _ (by simp only[World.size_setCell];omega)).trans (by simp[go_sem,f0])
 have g1:∀ o,w2.frozen? ⟨w.heap.size+1,o,none⟩=false:=fun o=>((bcell hb).2 _ _ (by simp only[World.size_setCell];omega)).trans (by simp[go_sem,f1])
 have d0:w2.cell? ⟨w.heap.size,0,none⟩=some (.string t):=((bcell hb).1 _ _ (by simp only[World.size_setCell];omega)).trans (by simp[go_sem,c0])
 have d1:w2.cell? ⟨w.heap.size,1,none⟩=some (.int .i64 p):=((bcell hb).1 _ _ (by simp only[World.size_setCell];omega)).trans (by simp[go_sem,c1])
 have d2:w2.cell? ⟨w.heap.size,2,none⟩=some (.int .i64 0):=((bcell hb).1 _ _ (by simp only[World.size_setCell];omega)).trans (by simp[go_sem,c2])
 have d3:w2.cell? ⟨w.heap.size+1,0,none⟩=some (.string { data:=#[] }):=((bcell hb).1 _ _ (by simp only[World.size_setCell];omega)).trans (by simp[go_sem,c3])
 have d4:w2.cell? ⟨w.heap.size+1,1,none⟩=some (.int .i64 0):=((bcell hb).1 _ _ (by simp only[World.size_setCell];omega)).trans (by simp[go_sem,c4])
 have d5:w2.cell? ⟨w.heap.size+1,2,none⟩=some (.int .i64 0):=((bcell hb).1 _ _ (by simp only[World.size_setCell];omega)).trans (by simp[go_sem,c5])
 clear hb c0 c1 c2 c3 c4 c5 f0 f1 hbw
 go_wp2_with fail
 refine(HF.out _).mono ?_
 rintro e w3 ⟨rfl,rfl⟩
 clear HF
 go_wp2_with fail
 go_region
 all_goals
  go_wp2
  refine bodyPost_ret (v:=.tuple #[.int .u64 0,.agg #[.string t,.int .i64 p,.int .i64 r]]) (by simp[results,Tryz.results180,go_sem,d3,d4,d5]) rfl ⟨rfl,?_⟩
  go_grown
theorem get_3 (t:ByteArray) (p q x n:Int) (w:World) (hm:t.size≤maxLen) (h0:restBad t p q=0) (hr:errV (rst t p)=0) (hx:valV (rst t p)=x) (hn:cntV (rst t p)=n):Calls Tryz.prog 180 #[.agg #[.string t,.int .i64 p,.int .i64 q]] w (GetEnd t x (p+n) 0 w):=by
 have HV:=Lib.hid (fun W=>h0 ▸ vplaced_any t p q W hm)
 obtain⟨rfl,p0,p1⟩:=restBad_ok t p q h0
 have hcb:=cnt_bd t p p0 p1 hr
 rw[hn] at hcb
 have hzz:(t.extract p.toNat t.size).size≤maxLen:=by simp;omega
 have HF:Hid (∀ W,Calls Tryz.prog 224 #[.string (t.extract p.toNat t.size)] W fun e w'=>e=.returned (.tuple #[.int .u64 x,.int .i64 n,.int .i64 0])∧W=w'):=by
  apply Lib.hid
  intro W
  have:=vfirst_any (t.extract p.toNat t.size) W hzz
  rw[ext_rst,hr,(fst_ok _ hr).1,(fst_ok _ hr).2,hx,hn] at this
  exact this
 have HM:=Lib.hid hm
 have H0:=Lib.hid h0
 have hm63:=hm
 unfold maxLen at hm63
 clear hr hm hzz h0 hx hn
 obtain⟨n0,n1,n2⟩:=hcb
 go_enter Tryz.func180,Tryz.ntmps180
 go_wp2_with fail
 refine(HV.out _).mono ?_
 rintro e w1 ⟨rfl,hb⟩
 have hz:w.heap.size+2≤w1.heap.size:=by have:=hb.size;simp at this;omega
 have hbw:Below w.heap.size w w1:=Below.trans (by go_grown) (hb.mono (by simp;omega))
 have f0:∀ o,w1.frozen? ⟨w.heap.size,o,none⟩=false:=fun o=>((bcell hb).2 _ _ (by simp;omega)).trans (by simp[go_sem])
 have f1:∀ o,w1.frozen? ⟨w.heap.size+1,o,none⟩=false:=fun o=>((bcell hb).2 _ _ (by simp)).trans (by simp[go_sem])
 have c0:w1.cell? ⟨w.heap.size,0,none⟩=some (.string t):=((bcell hb).1 _ _ (by simp;omega)).trans (by simp[go_sem])
 have c1:w1.cell? ⟨w.heap.size,1,none⟩=some (.int .i64 p):=((bcell hb).1 _ _ (by simp;omega)).trans (by simp[go_sem])
 have c2:w1.cell? ⟨w.heap.size,2,none⟩=some (.int .i64 0):=((bcell hb).1 _ _ (by simp;omega)).trans (by simp[go_sem])
 have c3:w1.cell? ⟨w.heap.size+1,0,none⟩=some (.string { data:=#[] }):=((bcell hb).1 _ _ (by simp)).trans (by simp[go_sem])
 have c4:w1.cell? ⟨w.heap.size+1,1,none⟩=some (.int .i64 0):=((bcell hb).1 _ _ (by simp)).trans (by simp[go_sem])
 have c5:w1.cell? ⟨w.heap.size+1,2,none⟩=some (.int .i64 0):=((bcell hb).1 _ _ (by simp)).trans (by simp[go_sem])
 clear hb HV
 go_wp2_with fail
 refine(rest_yes t p _ HM.out H0.out p0 p1).mono ?_
 rintro e w2 ⟨rfl,hb⟩
 have hz2:w1.heap.size≤w2.heap.size:=by have:=hb.size;simp only[World.size_setCell] at this;exact this
 have hbw2:Below w.heap.size w w2:=Below.trans (by go_grown) (hb.mono (by simp only[World.size_setCell];omega))
 have g0:∀ o,w2.frozen? ⟨w.heap.size,o,none⟩=false:=fun o=>((bcell hb).2 _ _ (by simp only[World.size_setCell];omega)).trans (by simp[go_sem,f0])
 have g1:∀ o,w2.frozen? ⟨w.heap.size+1,o,none⟩=false:=fun o=>((bcell hb).2 _ _ (by simp only[World.size_setCell];omega)).trans (by simp[go_sem,f1])
 have d0:w2.cell? ⟨w.heap.size,0,none⟩=some (.string t):=((bcell hb).1 _ _ (by simp only[World.size_setCell];omega)).trans (by simp[go_sem,c0])
 have d1:w2.cell? ⟨w.heap.size,1,none⟩=some (.int .i64 p):=((bcell hb).1 _ _ (by simp only[World.size_setCell];omega)).trans (by simp[go_sem,c1])
 have d2:w2.cell? ⟨w.heap.size,2,none⟩=some (.int .i64 0):=((bcell hb).1 _ _ (by simp only[World.size_setCell];omega)).trans (by simp[go_sem,c2])
 have d3:w2.cell? ⟨w.heap.size+1,0,none⟩=some (.string { data:=#[] }):=((bcell hb).1 _ _ (by simp only[World.size_setCell];omega)).trans (by simp[go_sem,c3])
 have d4:w2.cell? ⟨w.heap.size+1,1,none⟩=some (.int .i64 0):=((bcell hb).1 _ _ (by simp only[World.size_setCell];omega)).trans (by simp[go_sem,c4])
 have d5:w2.cell? ⟨w.heap.size+1,2,none⟩=some (.int .i64 0):=((bcell hb).1 _ _ (by simp only[World.size_setCell];omega)).trans (by simp[go_sem,c5])
 clear hb c0 c1 c2 c3 c4 c5 f0 f1 hbw
 go_wp2_with fail
 refine(HF.out _).mono ?_
 rintro e w3 ⟨rfl,rfl⟩
 clear HF
 go_wp2_with fail
 go_region
 all_goals
  go_wp2
  refine bodyPost_ret (v:=.tuple #[.int .u64 x,.agg #[.string t,.int .i64 (p+n),.int .i64 0]]) (by simp[results,Tryz.results180,go_sem,d3,d4,d5]) rfl ⟨rfl,?_⟩
  go_grown
end Go.Proofs.YtjkgkmmkehnggaaGreatDoor
