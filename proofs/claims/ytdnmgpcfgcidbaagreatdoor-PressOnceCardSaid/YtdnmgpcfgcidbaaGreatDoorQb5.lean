/- bMA. -/
import Derived.Test.YtdnmgpcfgcidbaaGreatDoorQa6
import Derived.Test.YtdnmgpcfgcidbaaGreatDoorQb1
namespace Go.Proofs.YtdnmgpcfgcidbaaGreatDoor
set_option linter.unusedVariables false
set_option linter.unusedSimpArgs false
open Go.RowKit
set_option maxRecDepth 20000
def sgn (x n:Int):Int:=if x % 2 ^ (8*n).toNat<2 ^ (8*n-1).toNat then x % 2 ^ (8*n).toNat else x % 2 ^ (8*n).toNat-2 ^ (8*n).toNat
theorem widths {n:Int} (h0:1≤n) (h1:n≤8):n=1∨n=2∨n=3∨n=4∨n=5∨n=6∨n=7∨n=8:=by omega
theorem wrap_u64 (n:Int):IntKind.u64.wrap n=n % 18446744073709551616:=by
 simp only [IntKind.wrap,IntKind.bits,IntKind.signed,Bool.false_and,Int.reducePow];simp
theorem shifts_signed (x n:Int) (h0:1≤n) (h1:n≤8) :
  wrap64 (IntKind.u64.wrap (x*2 ^ (8*(8-n)).toNat)) / 2 ^ (8*(8-n)).toNat=sgn x n:=by
 unfold sgn
 rw [wrap_u64]
 unfold wrap64
 rcases widths h0 h1 with rfl|rfl|rfl|rfl|rfl|rfl|rfl|rfl <;> simp only [Int.reduceMul,Int.reduceSub,Int.reduceToNat,Int.reducePow,Int.mul_one] <;> split <;> omega
theorem isw_yes (n:Int) (w:World) (h0:1≤n) (h1:n≤8):Calls Tryz.prog 225 #[.int .i64 n] w fun e w'=>e=.returned (.bool true)∧w=w':=by
 go_enter Tryz.func225,Tryz.ntmps225
 go_wp2
 go_ret
 exact ⟨rfl,rfl⟩
theorem isw_no (n:Int) (w:World) (h:n<1∨8<n):Calls Tryz.prog 225 #[.int .i64 n] w fun e w'=>e=.returned (.bool false)∧w=w':=by
 rcases h with h|h
 ·go_enter Tryz.func225,Tryz.ntmps225
  go_wp2
  go_ret
  exact ⟨rfl,rfl⟩
 ·have h1:1≤n:=by omega
  have h2:decide (n≤8)=false:=by simp;omega
  go_enter Tryz.func225,Tryz.ntmps225
  go_wp2
  go_ret
  exact ⟨rfl,rfl⟩
theorem signed_yes (x n:Int) (w:World) (h0:1≤n) (h1:n≤8):Calls Tryz.prog 226 #[.int .u64 x,.int .i64 n] w fun e w'=>e=.returned (.tuple #[.int .i64 (sgn x n),.int .i64 0])∧w=w':=by
 go_enter Tryz.func226,Tryz.ntmps226
 go_wp2_with (go_at_call 225;refine (isw_yes _ _ (by omega) (by omega)).mono ?_;rintro e w' ⟨rfl,rfl⟩)
 go_ret2
 exact ⟨ret2 (shifts_signed x n h0 h1) rfl,rfl⟩
theorem held_any (t:ByteArray) (p b:Int) (w:World):Calls Tryz.prog 116 #[.agg #[.string t,.int .i64 p,.int .i64 b]] w fun e w'=>e=.returned (.int .i64 b)∧Below w.heap.size w w':=by
 go_enter Tryz.func116,Tryz.ntmps116
 go_wp2
 go_ret
 exact ⟨rfl,(Below.refl _ _).alloc (Nat.le_refl _) _⟩
theorem placed_yes (t:ByteArray) (p b:Int) (w:World) (h0:0≤p) (h1:p≤t.size):Calls Tryz.prog 117 #[.agg #[.string t,.int .i64 p,.int .i64 b]] w fun e w'=>e=.returned (.int .i64 0)∧Below w.heap.size w w':=by
 go_enter Tryz.func117,Tryz.ntmps117
 go_wp2
 go_ret
 exact ⟨rfl,(Below.refl _ _).alloc (Nat.le_refl _) _⟩
theorem placed_no (t:ByteArray) (p b:Int) (w:World) (h:p<0∨t.size<p):Calls Tryz.prog 117 #[.agg #[.string t,.int .i64 p,.int .i64 b]] w fun e w'=>e=.returned (.int .i64 2)∧Below w.heap.size w w':=by
 rcases h with h|h
 ·go_enter Tryz.func117,Tryz.ntmps117
  go_wp2
  go_ret
  exact ⟨rfl,(Below.refl _ _).alloc (Nat.le_refl _) _⟩
 ·have h0:¬ p<0:=by omega
  go_enter Tryz.func117,Tryz.ntmps117
  go_wp2
  go_ret
  exact ⟨rfl,(Below.refl _ _).alloc (Nat.le_refl _) _⟩
def firstOf:List Int→Int
 | []=>0
 | r :: t=>if r=0 then firstOf t else r
def Upto (rs:List Int) (k:Nat):Prop:=firstOf (rs.drop k)=firstOf rs
theorem firstOf_zero (rs:List Int) (k:Nat) (h:k<rs.length) (hz:rs.getD k 0=0):firstOf (rs.drop (k+1))=firstOf (rs.drop k):=by
 rw [List.drop_eq_getElem_cons h]
 have:rs[k]=0:=by simpa [h] using hz
 simp [firstOf,this]
theorem firstOf_hit (rs:List Int) (k:Nat) (h:k<rs.length) (hz:rs.getD k 0≠0):rs.getD k 0=firstOf (rs.drop k):=by
 rw [List.drop_eq_getElem_cons h]
 have e:rs.getD k 0=rs[k]:=by simp [h]
 rw [e] at hz ⊢
 simp [firstOf,hz]
def Asks (w:World) (b i:Nat) (r:Int):Prop:=∃ f caps,w.cell? ⟨b,i,none⟩=some (.func (.func f) caps #[])∧(∀ W,Sem.run Tryz.prog (callFunc f caps) W=.ok (.enter f caps) W)∧∀ W,Calls Tryz.prog f caps W fun e W'=>e=.returned (.int .i64 r)∧Below W.heap.size W W'
theorem first_any (b len:Nat) (rs:List Int) (w:World) (hb:b<w.heap.size) (hl:rs.length=len) (hm:len≤4) (hA:∀ i,i<len→Asks w b i (rs.getD i 0)) :
  Calls Tryz.prog 115 #[.slice (some ⟨b,0,none⟩) len len] w fun e w'=>e=.returned (.int .i64 (firstOf rs))∧Below w.heap.size w w':=by
 have HA:=Lib.hid hA;clear hA
 have HL:=Lib.hid hl;clear hl
 go_enter Tryz.func115,Tryz.ntmps115
 go_wp2
 go_loopw [8] (fun i wr=>∃ k:Nat,k≤len∧i=.int .i64 k∧Upto rs k∧Below w.heap.size w wr) (fun i _=>len-(intOf i).toNat)
 case atStart=>exact ⟨0,Nat.zero_le _,rfl,by simp [Upto],Below.refl _ _⟩
 case round =>
  obtain ⟨k,hk,rfl,hu,hbw⟩:=hrel
  by_cases hlt:k<len
  ·obtain ⟨f,caps,hcell,hrun,hc⟩:=HA.out k hlt
   have hcell':=(hbw.cell (p:=⟨b,k,none⟩) hb).trans hcell
   clear hcell
   have HC:=Lib.hid hc;clear hc
   by_cases hz:rs.getD k 0=0
   ·have hU:Upto rs (k+1):=(firstOf_zero rs k (by rw [HL.out];exact hlt) hz).trans hu
    have hz':(rs.getD k 0 != 0)=false:=by simp only [hz];rfl
    have HZ:=Lib.hid hz;clear hz
    generalize rs.getD k 0=r at *
    go_wp2_with (with_reducible (refine (HC.out _).mono ?_);rintro e w1 ⟨rfl,hb1⟩)
    go_roundw
    case rel=>exact ⟨k+1,by omega,by go_num,hU,hbw.trans (hb1.mono hbw.size)⟩
    case measure=>simp [intOf];omega
   ·have hU:rs.getD k 0=firstOf rs:=(firstOf_hit rs k (by rw [HL.out];exact hlt) hz).trans hu
    have hz':(rs.getD k 0 != 0)=true:=by simp only [bne_iff_ne,ne_eq];exact hz
    have HU:=Lib.hid hU;clear hU
    clear hz
    generalize rs.getD k 0=r at *
    go_wp2_with (with_reducible (refine (HC.out _).mono ?_);rintro e w1 ⟨rfl,hb1⟩)
    go_ret
    exact ⟨ret_int HU.out,hbw.trans (hb1.mono hbw.size)⟩
  ·obtain rfl:k=len:=by omega
   go_wp2
   go_ret
   refine ⟨ret_int ?_,hbw⟩
   rw [← hu,← HL.out,List.drop_length];rfl
def placedV (t:ByteArray) (p:Int):Int:=if 0≤p∧p≤t.size then 0 else 2
def wideV (n:Int):Int:=if 1≤n∧n≤8 then 0 else 2
def countedV (n:Int):Int:=if n<0 then 2 else 0
def leftV (t:ByteArray) (p n:Int):Int:=if wrap64 (t.size-p)<n then 3 else 0
theorem placed_any (t:ByteArray) (p b:Int) (w:World):Calls Tryz.prog 117 #[.agg #[.string t,.int .i64 p,.int .i64 b]] w fun e w'=>e=.returned (.int .i64 (placedV t p))∧Below w.heap.size w w':=by
 by_cases h:0≤p∧p≤t.size
 ·rw [show placedV t p=0 from if_pos h]
  exact placed_yes t p b w h.1 h.2
 ·rw [show placedV t p=2 from if_neg h]
  exact placed_no t p b w (by omega)
theorem wide_any (t:ByteArray) (p b n:Int) (w:World):Calls Tryz.prog 180 #[.agg #[.string t,.int .i64 p,.int .i64 b,.int .i64 n]] w fun e w'=>e=.returned (.int .i64 (wideV n))∧Below w.heap.size w w':=by
 by_cases h:1≤n∧n≤8
 ·have H:Hid (wideV n=0):=if_pos h
  go_enter Tryz.func180,Tryz.ntmps180
  go_wp2_with (go_at_call 225;refine (isw_yes _ _ (by omega) (by omega)).mono ?_;rintro e w' ⟨rfl,rfl⟩)
  go_ret
  exact ⟨ret_int H.out.symm,(Below.refl _ _).alloc (Nat.le_refl _) _⟩
 ·have H:Hid (wideV n=2):=if_neg h
  have h':n<1∨8<n:=by omega
  clear h
  go_enter Tryz.func180,Tryz.ntmps180
  go_wp2_with (go_at_call 225;refine (isw_no _ _ (by omega)).mono ?_;rintro e w' ⟨rfl,rfl⟩)
  go_ret
  exact ⟨ret_int H.out.symm,(Below.refl _ _).alloc (Nat.le_refl _) _⟩
theorem counted_any (t:ByteArray) (p b n:Int) (w:World):Calls Tryz.prog 177 #[.agg #[.string t,.int .i64 p,.int .i64 b,.int .i64 n]] w fun e w'=>e=.returned (.int .i64 (countedV n))∧Below w.heap.size w w':=by
 by_cases h:n<0
 ·have H:Hid (countedV n=2):=if_pos h
  go_enter Tryz.func177,Tryz.ntmps177
  go_wp2
  go_ret
  exact ⟨ret_int H.out.symm,(Below.refl _ _).alloc (Nat.le_refl _) _⟩
 ·have H:Hid (countedV n=0):=if_neg h
  go_enter Tryz.func177,Tryz.ntmps177
  go_wp2
  go_ret
  exact ⟨ret_int H.out.symm,(Below.refl _ _).alloc (Nat.le_refl _) _⟩
theorem left_any (t:ByteArray) (p b n:Int) (w:World):Calls Tryz.prog 178 #[.agg #[.string t,.int .i64 p,.int .i64 b,.int .i64 n]] w fun e w'=>e=.returned (.int .i64 (leftV t p n))∧Below w.heap.size w w':=by
 by_cases h:wrap64 (t.size-p)<n
 ·have H:Hid (leftV t p n=3):=if_pos h
  go_enter Tryz.func178,Tryz.ntmps178
  go_wp2
  all_goals
   go_ret
   exact ⟨ret_int H.out.symm,(Below.refl _ _).alloc (Nat.le_refl _) _⟩
 ·have H:Hid (leftV t p n=0):=if_neg h
  go_enter Tryz.func178,Tryz.ntmps178
  go_wp2
  all_goals
   go_ret
   exact ⟨ret_int H.out.symm,(Below.refl _ _).alloc (Nat.le_refl _) _⟩
theorem step_any (t:ByteArray) (p b n:Int) (w:World) (p0:0≤p) (n0:0≤n) (hp:p+n≤t.size) (hm:t.size≤maxLen) :
  Calls Tryz.prog 179 #[.agg #[.string t,.int .i64 p,.int .i64 b],.int .i64 n] w fun e w'=>e=.returned (.tuple #[.string (t.extract p.toNat (p+n).toNat),.agg #[.string t,.int .i64 (p+n),.int .i64 b]])∧Below w.heap.size w w':=by
 unfold maxLen at hm
 go_enter Tryz.func179,Tryz.ntmps179
 go_wp2
 go_region
 all_goals
  go_wp2
  refine bodyPost_ret (v:=.tuple #[.string (t.extract p.toNat (p+n).toNat),.agg #[.string t,.int .i64 (p+n),.int .i64 b]]) (by simp [results,Tryz.results179,go_sem]) rfl ⟨rfl,?_⟩
  go_grown
def numB:List UInt8→Int
 | []=>0
 | c :: t=>c.toNat+256*numB t
def pow256:Nat→Int
 | 0=>1
 | k+1=>256*pow256 k
theorem numB_bd (l:List UInt8):0≤numB l∧numB l<pow256 l.length:=by
 induction l with
 | nil=>simp [numB,pow256]
 | cons c t ih =>
  have:c.toNat<256:=c.toNat_lt
  simp only [numB,pow256,List.length_cons]
  omega
theorem pow256_le (k:Nat) (h:k≤7):pow256 k≤72057594037927936:=by
 rcases (by omega:k=0∨k=1∨k=2∨k=3∨k=4∨k=5∨k=6∨k=7) with rfl|rfl|rfl|rfl|rfl|rfl|rfl|rfl <;> decide
theorem byte_bd (c:UInt8):c.toNat<256:=c.toNat_lt
theorem or_byte (x:Int) (c:Nat) (x0:0≤x) (x1:x<72057594037927936) (hc:c<256):bits BinOp.or IntKind.u64 (x*256) (IntKind.u64.wrap c)=c+256*x:=by
 rw [wrap_u64]
 rw [u64_or _ _ (by omega) (by omega) (by omega) (by omega)]
 rw [nat_join 8 _ _ (by omega) (by omega)]
 omega
theorem numB_step (l:List UInt8) (k:Nat) (h1:1≤k) (hk:k≤l.length):numB (l.drop (k-1))=(l[k-1]'(by omega)).toNat+256*numB (l.drop k):=by
 rw [List.drop_eq_getElem_cons (by omega:k-1<l.length)]
 simp only [numB]
 rw [show k-1+1=k from by omega]
theorem number_any (t:ByteArray) (w:World) (h8:t.size≤8) :
  Calls Tryz.prog 181 #[.string t] w fun e w'=>e=.returned (.int .u64 (numB t.data.toList))∧w=w':=by
 go_enter Tryz.func181,Tryz.ntmps181
 go_wp2
 go_loop [3,4] (fun x i=>∃ k:Nat,k≤t.size∧i=.int .i64 ((k:Int)-1)∧x=.int .u64 (numB (t.data.toList.drop k))) (fun _ i=>(intOf i+1).toNat)
 case atStart=>exact ⟨t.size,Nat.le_refl _,rfl,by rw [List.drop_of_length_le (by simp)];rfl⟩
 case round =>
  obtain ⟨k,hk,rfl,rfl⟩:=hrel
  by_cases hlt:1≤k
  ·have hbd:0≤numB (t.data.toList.drop k)∧numB (t.data.toList.drop k)<72057594037927936:=by
    have:=numB_bd (t.data.toList.drop k)
    have:=pow256_le (t.data.toList.drop k).length (by simp;omega)
    omega
   generalize hx:numB (t.data.toList.drop k)=x at *
   have HX:=Lib.hid hx;clear hx
   have hs:=numB_step t.data.toList k hlt (by simpa using hk)
   rw [HX.out] at hs
   have hc:t[k-1].toNat<256:=byte_bd _
   have ho:=or_byte x (t[k-1].toNat) hbd.1 hbd.2 hc
   have HS:=Lib.hid (ho.trans hs.symm);clear hs ho hc
   go_wp2
   refine ⟨⟨k-1,by omega,?_,?_⟩,?_⟩
   ·congr 1;omega
   ·exact congrArg _ HS.out
   ·simp [intOf];omega
  ·obtain rfl:k=0:=by omega
   go_wp2
   go_ret
   exact ⟨by simp,rfl⟩
theorem asks_held (w:World) (b i:Nat) (t:ByteArray) (p q:Int) (h:w.cell? ⟨b,i,none⟩=some (.func (.func 116) #[.agg #[.string t,.int .i64 p,.int .i64 q]] #[])):Asks w b i q :=
 ⟨116,_,h,fun _=>by kernel_rfl,fun W=>held_any t p q W⟩
theorem asks_placed (w:World) (b i:Nat) (t:ByteArray) (p q:Int) (h:w.cell? ⟨b,i,none⟩=some (.func (.func 117) #[.agg #[.string t,.int .i64 p,.int .i64 q]] #[])):Asks w b i (placedV t p) :=
 ⟨117,_,h,fun _=>by kernel_rfl,fun W=>placed_any t p q W⟩
theorem asks_wide (w:World) (b i:Nat) (t:ByteArray) (p q n:Int) (h:w.cell? ⟨b,i,none⟩=some (.func (.func 180) #[.agg #[.string t,.int .i64 p,.int .i64 q,.int .i64 n]] #[])):Asks w b i (wideV n) :=
 ⟨180,_,h,fun _=>by kernel_rfl,fun W=>wide_any t p q n W⟩
theorem asks_left (w:World) (b i:Nat) (t:ByteArray) (p q n:Int) (h:w.cell? ⟨b,i,none⟩=some (.func (.func 178) #[.agg #[.string t,.int .i64 p,.int .i64 q,.int .i64 n]] #[])):Asks w b i (leftV t p n) :=
 ⟨178,_,h,fun _=>by kernel_rfl,fun W=>left_any t p q n W⟩
theorem asks_counted (w:World) (b i:Nat) (t:ByteArray) (p q n:Int) (h:w.cell? ⟨b,i,none⟩=some (.func (.func 177) #[.agg #[.string t,.int .i64 p,.int .i64 q,.int .i64 n]] #[])):Asks w b i (countedV n) :=
 ⟨177,_,h,fun _=>by kernel_rfl,fun W=>counted_any t p q n W⟩
theorem cell_new (W:World) (b:Nat) (cs:Array Value) (T:TypeId) (hb:b=W.heap.size) (i:Nat) (v:Value) (h:cs[i]?=some v):(W.alloc (.cells cs T)).cell? ⟨b,i,none⟩=some v:=by
 rw [World.cell?_alloc_at _ _ _ _ hb];exact h
theorem bcell {B:Nat} {W w1:World} (hb:Below B W w1):(∀ b o,b<B→w1.cell? ⟨b,o,none⟩=W.cell? ⟨b,o,none⟩)∧(∀ b o,b<B→w1.frozen? ⟨b,o,none⟩=W.frozen? ⟨b,o,none⟩) :=
 ⟨fun b o h=>hb.cell (p:=⟨b,o,none⟩) h,fun b o h=>hb.frozen (p:=⟨b,o,none⟩) h⟩
def numBad (t:ByteArray) (p q n:Int):Int:=firstOf [q,placedV t p,wideV n,leftV t p n]
def bytesBad (t:ByteArray) (p q n:Int):Int:=firstOf [q,placedV t p,countedV n,leftV t p n]
theorem first_num (W:World) (b:Nat) (hb:b=W.heap.size) (t:ByteArray) (p q n:Int) :
  Calls Tryz.prog 115 #[.slice (some ⟨b,0,none⟩) 4 4] (W.alloc (.cells #[.func (.func 116) #[.agg #[.string t,.int .i64 p,.int .i64 q]] #[],.func (.func 117) #[.agg #[.string t,.int .i64 p,.int .i64 q]] #[],.func (.func 180) #[.agg #[.string t,.int .i64 p,.int .i64 q,.int .i64 n]] #[],.func (.func 178) #[.agg #[.string t,.int .i64 p,.int .i64 q,.int .i64 n]] #[]] 125))
   fun e w'=>e=.returned (.int .i64 (numBad t p q n))∧Below (b+1) (W.alloc (.cells #[.func (.func 116) #[.agg #[.string t,.int .i64 p,.int .i64 q]] #[],.func (.func 117) #[.agg #[.string t,.int .i64 p,.int .i64 q]] #[],.func (.func 180) #[.agg #[.string t,.int .i64 p,.int .i64 q,.int .i64 n]] #[],.func (.func 178) #[.agg #[.string t,.int .i64 p,.int .i64 q,.int .i64 n]] #[]] 125)) w':=by
 refine (first_any b 4 [q,placedV t p,wideV n,leftV t p n] _ (by rw [World.size_alloc];omega) rfl (by omega) ?_).mono ?_
 ·intro i hi
  rcases (by omega:i=0∨i=1∨i=2∨i=3) with rfl|rfl|rfl|rfl
  ·exact asks_held _ _ _ t p q (cell_new _ _ _ _ hb _ _ rfl)
  ·exact asks_placed _ _ _ t p q (cell_new _ _ _ _ hb _ _ rfl)
  ·exact asks_wide _ _ _ t p q n (cell_new _ _ _ _ hb _ _ rfl)
  ·exact asks_left _ _ _ t p q n (cell_new _ _ _ _ hb _ _ rfl)
 ·rintro e w' ⟨rfl,h⟩
  exact ⟨rfl,h.mono (by rw [World.size_alloc];omega)⟩
theorem first_bytes (W:World) (b:Nat) (hb:b=W.heap.size) (t:ByteArray) (p q n:Int) :
  Calls Tryz.prog 115 #[.slice (some ⟨b,0,none⟩) 4 4] (W.alloc (.cells #[.func (.func 116) #[.agg #[.string t,.int .i64 p,.int .i64 q]] #[],.func (.func 117) #[.agg #[.string t,.int .i64 p,.int .i64 q]] #[],.func (.func 177) #[.agg #[.string t,.int .i64 p,.int .i64 q,.int .i64 n]] #[],.func (.func 178) #[.agg #[.string t,.int .i64 p,.int .i64 q,.int .i64 n]] #[]] 125))
   fun e w'=>e=.returned (.int .i64 (bytesBad t p q n))∧Below (b+1) (W.alloc (.cells #[.func (.func 116) #[.agg #[.string t,.int .i64 p,.int .i64 q]] #[],.func (.func 117) #[.agg #[.string t,.int .i64 p,.int .i64 q]] #[],.func (.func 177) #[.agg #[.string t,.int .i64 p,.int .i64 q,.int .i64 n]] #[],.func (.func 178) #[.agg #[.string t,.int .i64 p,.int .i64 q,.int .i64 n]] #[]] 125)) w':=by
 refine (first_any b 4 [q,placedV t p,countedV n,leftV t p n] _ (by rw [World.size_alloc];omega) rfl (by omega) ?_).mono ?_
 ·intro i hi
  rcases (by omega:i=0∨i=1∨i=2∨i=3) with rfl|rfl|rfl|rfl
  ·exact asks_held _ _ _ t p q (cell_new _ _ _ _ hb _ _ rfl)
  ·exact asks_placed _ _ _ t p q (cell_new _ _ _ _ hb _ _ rfl)
  ·exact asks_counted _ _ _ t p q n (cell_new _ _ _ _ hb _ _ rfl)
  ·exact asks_left _ _ _ t p q n (cell_new _ _ _ _ hb _ _ rfl)
 ·rintro e w' ⟨rfl,h⟩
  exact ⟨rfl,h.mono (by rw [World.size_alloc];omega)⟩
set_option maxHeartbeats 1000000 in
theorem num_yes (t:ByteArray) (p n:Int) (w:World) (hm:t.size≤maxLen) (h:numBad t p 0 n=0) (p0:0≤p) (n0:1≤n) (n1:n≤8) (hp:p+n≤t.size):Calls Tryz.prog 109 #[.agg #[.string t,.int .i64 p,.int .i64 0],.int .i64 n] w
  fun e w'=>e=.returned (.tuple #[.int .u64 (numB (t.extract p.toNat (p+n).toNat).data.toList),.agg #[.string t,.int .i64 (p+n),.int .i64 0]])∧Below w.heap.size w w':=by
 have H:=Lib.hid h;clear h
 have HM:=Lib.hid hm;clear hm
 go_enter Tryz.func109,Tryz.ntmps109
 go_wp2_with fail
 refine (first_num _ _ (by simp) t p 0 n).mono ?_
 rintro e w1 ⟨rfl,hb⟩
 have hz:w.heap.size+4≤w1.heap.size:=by have:=hb.size;simp at this;omega
 have hbw:Below w.heap.size w w1:=Below.trans (by go_grown) (hb.mono (by omega))
 have c0:w1.cell? ⟨w.heap.size,0,none⟩=some (.string t):=((bcell hb).1 _ _ (by omega)).trans (by simp [go_sem])
 have c1:w1.cell? ⟨w.heap.size,1,none⟩=some (.int .i64 p):=((bcell hb).1 _ _ (by omega)).trans (by simp [go_sem])
 have c2:w1.cell? ⟨w.heap.size,2,none⟩=some (.int .i64 0):=((bcell hb).1 _ _ (by omega)).trans (by simp [go_sem])
 have c3:w1.cell? ⟨w.heap.size+1,0,none⟩=some (.string { data:=#[] }):=((bcell hb).1 _ _ (by omega)).trans (by simp [go_sem])
 have c4:w1.cell? ⟨w.heap.size+1,1,none⟩=some (.int .i64 0):=((bcell hb).1 _ _ (by omega)).trans (by simp [go_sem])
 have c5:w1.cell? ⟨w.heap.size+1,2,none⟩=some (.int .i64 0):=((bcell hb).1 _ _ (by omega)).trans (by simp [go_sem])
 have f0:∀ o,w1.frozen? ⟨w.heap.size,o,none⟩=false:=fun o=>((bcell hb).2 _ _ (by omega)).trans (by simp [go_sem])
 have f1:∀ o,w1.frozen? ⟨w.heap.size+1,o,none⟩=false:=fun o=>((bcell hb).2 _ _ (by omega)).trans (by simp [go_sem])
 clear hb
 rw [H.out]
 go_wp2_with fail
 refine (step_any t p 0 n _ (by omega) (by omega) (by omega) HM.out).mono ?_
 rintro e w2 ⟨rfl,hb⟩
 have hz2:w1.heap.size≤w2.heap.size:=by have:=hb.size;rw [World.size_setCell] at this;exact this
 have hbw2:Below w.heap.size w w2:=Below.trans (by go_grown) (hb.mono (by rw [World.size_setCell];omega))
 have d0:w2.cell? ⟨w.heap.size,0,none⟩=some (.string t):=((bcell hb).1 _ _ (by rw [World.size_setCell];omega)).trans (by simp [go_sem,c0])
 have d1:w2.cell? ⟨w.heap.size,1,none⟩=some (.int .i64 p):=((bcell hb).1 _ _ (by rw [World.size_setCell];omega)).trans (by simp [go_sem,c1])
 have d2:w2.cell? ⟨w.heap.size,2,none⟩=some (.int .i64 0):=((bcell hb).1 _ _ (by rw [World.size_setCell];omega)).trans (by simp [go_sem,c2])
 have d3:w2.cell? ⟨w.heap.size+1,0,none⟩=some (.string { data:=#[] }):=((bcell hb).1 _ _ (by rw [World.size_setCell];omega)).trans (by simp [go_sem,c3])
 have d4:w2.cell? ⟨w.heap.size+1,1,none⟩=some (.int .i64 0):=((bcell hb).1 _ _ (by rw [World.size_setCell];omega)).trans (by simp [go_sem,c4])
 have d5:w2.cell? ⟨w.heap.size+1,2,none⟩=some (.int .i64 0):=((bcell hb).1 _ _ (by rw [World.size_setCell];omega)).trans (by simp [go_sem,c5])
 have g0:∀ o,w2.frozen? ⟨w.heap.size,o,none⟩=false:=fun o=>((bcell hb).2 _ _ (by rw [World.size_setCell];omega)).trans (by simp [go_sem,f0])
 have g1:∀ o,w2.frozen? ⟨w.heap.size+1,o,none⟩=false:=fun o=>((bcell hb).2 _ _ (by rw [World.size_setCell];omega)).trans (by simp [go_sem,f1])
 clear hb c0 c1 c2 c3 c4 c5 f0 f1 hbw
 have hx:(t.extract p.toNat (p+n).toNat).size≤8:=by simp;omega
 obtain ⟨x,he⟩:∃ x,t.extract p.toNat (p+n).toNat=x:=⟨_,rfl⟩
 rw [he] at hx ⊢
 have HE:=Lib.hid he;clear he
 go_wp2_with fail
 go_region_with (go_at_call 181;refine (number_any x _ hx).mono ?_;rintro e w' ⟨rfl,rfl⟩)
 all_goals
  go_wp2
  refine bodyPost_ret (v:=.tuple #[.int .u64 (numB x.data.toList),.agg #[.string t,.int .i64 (p+n),.int .i64 0]]) (by simp [results,Tryz.results109,go_sem,d3,d4,d5]) rfl ⟨by rw [HE.out],?_⟩
  go_grown
theorem bytes_yes (t:ByteArray) (p n:Int) (w:World) (hm:t.size≤maxLen) (h:bytesBad t p 0 n=0) (p0:0≤p) (n0:0≤n) (hp:p+n≤t.size):Calls Tryz.prog 108 #[.agg #[.string t,.int .i64 p,.int .i64 0],.int .i64 n] w
  fun e w'=>e=.returned (.tuple #[.string (t.extract p.toNat (p+n).toNat),.agg #[.string t,.int .i64 (p+n),.int .i64 0]])∧Below w.heap.size w w':=by
 have H:=Lib.hid h;clear h
 have HM:=Lib.hid hm;clear hm
 go_enter Tryz.func108,Tryz.ntmps108
 go_wp2_with fail
 refine (first_bytes _ _ (by simp) t p 0 n).mono ?_
 rintro e w1 ⟨rfl,hb⟩
 have hz:w.heap.size+4≤w1.heap.size:=by have:=hb.size;simp at this;omega
 have hbw:Below w.heap.size w w1:=Below.trans (by go_grown) (hb.mono (by omega))
 have c0:w1.cell? ⟨w.heap.size,0,none⟩=some (.string t):=((bcell hb).1 _ _ (by omega)).trans (by simp [go_sem])
 have c1:w1.cell? ⟨w.heap.size,1,none⟩=some (.int .i64 p):=((bcell hb).1 _ _ (by omega)).trans (by simp [go_sem])
 have c2:w1.cell? ⟨w.heap.size,2,none⟩=some (.int .i64 0):=((bcell hb).1 _ _ (by omega)).trans (by simp [go_sem])
 have c3:w1.cell? ⟨w.heap.size+1,0,none⟩=some (.string { data:=#[] }):=((bcell hb).1 _ _ (by omega)).trans (by simp [go_sem])
 have c4:w1.cell? ⟨w.heap.size+1,1,none⟩=some (.int .i64 0):=((bcell hb).1 _ _ (by omega)).trans (by simp [go_sem])
 have c5:w1.cell? ⟨w.heap.size+1,2,none⟩=some (.int .i64 0):=((bcell hb).1 _ _ (by omega)).trans (by simp [go_sem])
 have f0:∀ o,w1.frozen? ⟨w.heap.size,o,none⟩=false:=fun o=>((bcell hb).2 _ _ (by omega)).trans (by simp [go_sem])
 have f1:∀ o,w1.frozen? ⟨w.heap.size+1,o,none⟩=false:=fun o=>((bcell hb).2 _ _ (by omega)).trans (by simp [go_sem])
 clear hb
 rw [H.out]
 go_wp2_with fail
 refine (step_any t p 0 n _ (by omega) (by omega) (by omega) HM.out).mono ?_
 rintro e w2 ⟨rfl,hb⟩
 have hz2:w1.heap.size≤w2.heap.size:=by have:=hb.size;rw [World.size_setCell] at this;exact this
 have hbw2:Below w.heap.size w w2:=Below.trans (by go_grown) (hb.mono (by rw [World.size_setCell];omega))
 have d3:w2.cell? ⟨w.heap.size+1,0,none⟩=some (.string { data:=#[] }):=((bcell hb).1 _ _ (by rw [World.size_setCell];omega)).trans (by simp [go_sem,c3])
 have d4:w2.cell? ⟨w.heap.size+1,1,none⟩=some (.int .i64 0):=((bcell hb).1 _ _ (by rw [World.size_setCell];omega)).trans (by simp [go_sem,c4])
 have d5:w2.cell? ⟨w.heap.size+1,2,none⟩=some (.int .i64 0):=((bcell hb).1 _ _ (by rw [World.size_setCell];omega)).trans (by simp [go_sem,c5])
 have g1:∀ o,w2.frozen? ⟨w.heap.size+1,o,none⟩=false:=fun o=>((bcell hb).2 _ _ (by rw [World.size_setCell];omega)).trans (by simp [go_sem,f1])
 clear hb c0 c1 c2 c3 c4 c5 f0 f1 hbw
 obtain ⟨x,he⟩:∃ x,t.extract p.toNat (p+n).toNat=x:=⟨_,rfl⟩
 rw [he]
 have HE:=Lib.hid he;clear he
 go_wp2_with fail
 refine bodyPost_ret (v:=.tuple #[.string x,.agg #[.string t,.int .i64 (p+n),.int .i64 0]]) (by simp [results,Tryz.results108,go_sem,d3,d4,d5]) rfl ⟨by rw [HE.out],?_⟩
 go_grown
end Go.Proofs.YtdnmgpcfgcidbaaGreatDoor
