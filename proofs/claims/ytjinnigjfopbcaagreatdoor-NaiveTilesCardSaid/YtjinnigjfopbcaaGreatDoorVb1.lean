/- bMB bMG. -/
import Derived.Test.YtjinnigjfopbcaaGreatDoorVs
import Derived.Lib.SlBytesConst
import Derived.Test.YtjinnigjfopbcaaGreatDoorVa6
namespace Go.Proofs.YtjinnigjfopbcaaGreatDoor
set_option linter.unusedVariables false
set_option linter.unusedSimpArgs false
open Go.RowKit
set_option maxRecDepth 20000
def p7:Nat→Int
 | 0=>1
 | k+1=>128*p7 k
def xed:Nat→Int→List Int
 | 0,x=>[x]
 | k+1,x=>if x<128 then [x] else (x % 128+128) :: xed k (x / 128)
def enc (x:Int):List Int:=xed 9 x
theorem xji (k:Nat):1≤p7 k:=by
 induction k with
 | zero=>simp[p7]
 | succ k ih=>simp only[p7];omega
theorem xia (j k:Nat) (h:j≤k):p7 j≤p7 k:=by
 induction h with
 | refl=>omega
 | step _ ih=>simp only[p7];have:=xji j;omega
theorem xi9 (x:Int) (k:Nat) (h:x<p7 (k+1)):x / 128<p7 k:=by
 simp only[p7] at h;omega
theorem xp5 (k:Nat) (x:Int) (h0:0≤x) (h:x<p7 (k+1)):xed (k+1) x=xed k x:=by
 induction k generalizing x with
 | zero =>
  simp only[p7] at h
  have:x<128:=by omega
  simp[xed,this]
 | succ k ih =>
  rw[xed]
  by_cases hx:x<128
  ·rw[if_pos hx,xed,if_pos hx]
  ·rw[if_neg hx,ih (x / 128) (by omega) (xi9 x (k+1) h)]
   conv=>rhs;rw[xed,if_neg hx]
theorem xhp:p7 10=1180591620717411303424∧p7 9=9223372036854775808:=by decide
theorem xyl (x:Int) (h:x<128):enc x=[x]:=by unfold enc;rw[xed,if_pos h]
theorem xxL (x:Int) (h:128≤x) (h1:x≤18446744073709551615):enc x=(x % 128+128) :: enc (x / 128):=by
 unfold enc
 rw[xed,if_neg (by omega),← xp5 8 (x / 128) (by omega) (by rw[xhp.2];omega)]
theorem xmc (k:Nat) (x:Int):1≤(xed k x).length∧(xed k x).length≤k+1:=by
 induction k generalizing x with
 | zero=>simp[xed]
 | succ k ih =>
  rw[xed]
  split
  ·simp
  ·have:=ih (x / 128)
   simp only[List.length_cons];omega
theorem xe4 (x:Int):1≤(enc x).length∧(enc x).length≤10:=xmc 9 x
theorem xvQ (k:Nat) (x:Int) (h:x<p7 (k+1)):x<p7 (xed k x).length:=by
 induction k generalizing x with
 | zero=>simpa[xed] using h
 | succ k ih =>
  rw[xed]
  split
  ·simp[p7];assumption
  ·have:=ih (x / 128) (xi9 x (k+1) h)
   simp only[List.length_cons,p7];omega
theorem xvO (k:Nat) (x:Int) (h:2≤(xed k x).length):p7 ((xed k x).length - 1)≤x:=by
 induction k generalizing x with
 | zero=>simp[xed] at h
 | succ k ih =>
  rw[xed] at h ⊢
  split at h
  ·simp at h
  ·rename_i hx
   rw[if_neg hx]
   simp only[List.length_cons] at h ⊢
   have h1:=(xmc k (x / 128)).1
   by_cases h2:2≤(xed k (x / 128)).length
   ·have:=ih (x / 128) h2
    obtain⟨m,hm⟩:∃ m,(xed k (x / 128)).length=m+1:=⟨(xed k (x / 128)).length - 1,by omega⟩
    rw[hm] at this ⊢
    simp only[Nat.add_sub_cancel,p7] at this ⊢
    omega
   ·rw[show (xed k (x / 128)).length=1 from by omega]
    simp only[Nat.add_sub_cancel,p7];omega
theorem xxp (x:Int) (h1:x≤18446744073709551615):x<p7 (enc x).length:=xvQ 9 x (by have:=xhp.1;simp only[Nat.reduceAdd];omega)
theorem xxh (x:Int) (h:2≤(enc x).length):p7 ((enc x).length - 1)≤x:=xvO 9 x h
def xaK:Nat→List UInt8→Nat
 | 0,_=>0
 | _+1,[]=>0
 | k+1,c :: t=>if 128≤c.toNat then xaK k t+1 else 0
def xch:List UInt8→Int
 | []=>0
 | c :: t=>(c.toNat:Int) % 128+128*xch t
def xbj (l:List UInt8):Int :=
 if xaK 10 l=10 then 11 else if xaK 10 l=l.length then 3 else if xaK 10 l=9∧1<(l.getD (xaK 10 l) 0).toNat then 11 else if 0<xaK 10 l∧(l.getD (xaK 10 l) 0).toNat=0 then 4 else 0
def xl0 (l:List UInt8):Int:=(xaK 10 l+1:Nat)
def xaZ (l:List UInt8):Int:=xch (l.take (xaK 10 l+1))
theorem xgb (k:Nat) (l:List UInt8):xaK k l≤k∧xaK k l≤l.length:=by
 induction k generalizing l with
 | zero=>simp[xaK]
 | succ k ih =>
  cases l with
  | nil=>simp[xaK]
  | cons c t =>
   rw[xaK]
   have:=ih t
   split <;> simp only[List.length_cons] <;> omega
theorem xox (k:Nat) (l:List UInt8) (i:Nat) (h:i<xaK k l):128≤(l.getD i 0).toNat:=by
 induction k generalizing l i with
 | zero=>simp[xaK] at h
 | succ k ih =>
  cases l with
  | nil=>simp[xaK] at h
  | cons c t =>
   rw[xaK] at h
   split at h
   ·cases i with
    | zero=>simpa
    | succ i=>simpa using ih t i (by omega)
   ·omega
theorem xgv (k:Nat) (l:List UInt8) (i:Nat) (h:i≤xaK k l) (hk:i<k) (hl:i<l.length) (hc:128≤(l.getD i 0).toNat):i+1≤xaK k l:=by
 induction k generalizing l i with
 | zero=>omega
 | succ k ih =>
  cases l with
  | nil=>simp at hl
  | cons c t =>
   rw[xaK] at h ⊢
   cases i with
   | zero =>
    have:128≤c.toNat:=by simpa using hc
    rw[if_pos this];omega
   | succ i =>
    split at h
    ·rename_i hh
     rw[if_pos hh]
     have:=ih t i (by omega) (by omega) (by simpa using hl) (by simpa using hc)
     omega
    ·omega
theorem xwc (l:List UInt8) (i:Nat) (h:i≤xaK 10 l) (hs:i=10∨i=l.length∨(l.getD i 0).toNat<128):xaK 10 l=i:=by
 have h1:=xgb 10 l
 by_cases he:i=xaK 10 l
 ·exact he.symm
 ·have:=xox 10 l i (by omega)
  omega
theorem xhS (c:UInt8):c.toNat<256:=c.toNat_lt
theorem xdR (l:List UInt8):0≤xch l∧xch l<p7 l.length:=by
 induction l with
 | nil=>simp[xch,p7]
 | cons c t ih =>
  simp only[xch,p7,List.length_cons]
  omega
theorem xpj (l:List UInt8) (c:UInt8):xch (l++[c])=xch l+(c.toNat:Int) % 128*p7 l.length:=by
 induction l with
 | nil=>simp[xch,p7]
 | cons d t ih =>
  rw[List.cons_append]
  simp only[xch,ih,p7,List.length_cons]
  rw[Int.mul_add,← Int.mul_assoc,Int.mul_comm 128 ((c.toNat:Int) % 128),Int.mul_assoc,Int.add_assoc]
theorem xgl (l:List UInt8) (i:Nat) (h:i<l.length):xch (l.take (i+1))=xch (l.take i)+((l.getD i 0).toNat:Int) % 128*p7 i:=by
 rw[List.take_succ_eq_append_getElem h,xpj]
 simp[h,Nat.min_eq_left (Nat.le_of_lt h)]
theorem xq3 (l:List UInt8) (i:Nat) (h:i<l.length):xch (l.drop i)=((l.getD i 0).toNat:Int) % 128+128*xch (l.drop (i+1)):=by
 rw[List.drop_eq_getElem_cons h]
 simp[xch,h]
theorem xi6 (l:List UInt8) (i:Nat):xch (l.drop i)≤xch l:=by
 induction i generalizing l with
 | zero=>simp
 | succ i ih =>
  cases l with
  | nil=>simp
  | cons c t =>
   have:=ih t
   have:=(xdR t).1
   simp only[List.drop_succ_cons,xch]
   omega
theorem xct (l:List UInt8) (h:xbj l=0):0≤xaZ l∧xaZ l≤18446744073709551615:=by
 have h1:=xgb 10 l
 unfold xbj at h
 split at h
 ·cases h
 rename_i a
 split at h
 ·cases h
 rename_i b
 split at h
 ·cases h
 rename_i c
 unfold xaZ
 refine⟨(xdR _).1,?_⟩
 by_cases h9:xaK 10 l=9
 ·rw[xgl l _ (by omega)]
  have h2:=(xdR (l.take (xaK 10 l))).2
  rw[h9] at h2 c ⊢
  have h3:(l.take 9).length=9:=by simp;omega
  rw[h3] at h2
  have h4:=xhp.2
  rw[h4] at h2 ⊢
  have:(l.getD 9 0).toNat≤1:=by omega
  omega
 ·have h2:=(xdR (l.take (xaK 10 l+1))).2
  have h3:=xia (l.take (xaK 10 l+1)).length 9 (by simp;omega)
  have h4:=xhp.2
  omega
def ub (n:Int):UInt8:=UInt8.ofNat n.toNat
theorem xoy (c:UInt8):ub (c.toNat:Int)=c:=by unfold ub;simp
theorem xtm (k:Nat) (l:List UInt8) (hk:l.length≤k+1) (h:∀ i,i+1<l.length→128≤(l.getD i 0).toNat) (h1:0<l.length) (h2:(l.getD (l.length - 1) 0).toNat<128) (h3:1<l.length→(l.getD (l.length - 1) 0).toNat≠0):xed k (xch l)=l.map (fun c=>(c.toNat:Int))∧(1<l.length→1≤xch l)∧(l.length=1→xch l=(l.getD 0 0).toNat):=by
 induction l generalizing k with
 | nil=>simp at h1
 | cons c t ih =>
  cases t with
  | nil =>
   have hc:c.toNat<128:=by simpa using h2
   have e:xch [c]=c.toNat:=by simp only[xch];omega
   refine⟨?_,by simp,fun _=>by rw[e];simp⟩
   rw[e]
   cases k with
   | zero=>simp[xed]
   | succ k=>rw[xed,if_pos (by omega)];simp
  | cons d t =>
   have hc:128≤c.toNat:=by simpa using h 0 (by simp)
   have hc':=xhS c
   cases k with
   | zero=>simp at hk
   | succ k =>
    have hh:=ih k (by simpa using hk) (fun i hi=>by simpa using h (i+1) (by simpa using hi)) (by simp) (by simpa using h2) (fun _=>by simpa using h3 (by simp))
    have hl:(d.toNat≠0∨1<(d :: t).length):=by
     cases t with
     | nil=>left;simpa using h3 (by simp)
     | cons _ _=>right;simp
    have h1':1≤xch (d :: t):=by
     by_cases hq:1<(d :: t).length
     ·exact hh.2.1 hq
     ·have:=hh.2.2 (by simp at hq ⊢;exact hq)
      rw[this]
      simp only[List.getD_cons_zero]
      omega
    have e:xch (c :: d :: t)=(c.toNat:Int) % 128+128*xch (d :: t):=rfl
    refine⟨?_,fun _=>by omega,by simp⟩
    rw[e,xed,if_neg (by omega),List.map_cons,show ((c.toNat:Int) % 128+128*xch (d :: t)) / 128=xch (d :: t) from by omega,hh.1]
    congr 1
    omega
theorem xde (l:List UInt8) (h:xbj l=0):xaK 10 l≤9∧xaK 10 l<l.length∧(xaK 10 l=9→(l.getD (xaK 10 l) 0).toNat≤1)∧(0<xaK 10 l→(l.getD (xaK 10 l) 0).toNat≠0)∧(l.getD (xaK 10 l) 0).toNat<128:=by
 have h1:=xgb 10 l
 unfold xbj at h
 split at h
 ·cases h
 rename_i a
 split at h
 ·cases h
 rename_i b
 split at h
 ·cases h
 rename_i c
 split at h
 ·cases h
 rename_i d
 refine⟨by omega,by omega,fun h=>by omega,fun h=>by omega,?_⟩
 by_cases hx:(l.getD (xaK 10 l) 0).toNat<128
 ·exact hx
 ·have:=xgv 10 l (xaK 10 l) (Nat.le_refl _) (by omega) (by omega) (by omega)
  omega
theorem xjf (l:List UInt8) (h:xbj l=0):enc (xaZ l)=(l.take (xaK 10 l+1)).map (fun c=>(c.toNat:Int)):=by
 obtain⟨h1,h2,h3,h4,h5⟩:=xde l h
 have hl:(l.take (xaK 10 l+1)).length=xaK 10 l+1:=by simp;omega
 have hg:∀ i,i<xaK 10 l+1→(l.take (xaK 10 l+1)).getD i 0=l.getD i 0:=by
  intro i hi
  simp[hi]
 refine(xtm 9 (l.take (xaK 10 l+1)) (by omega) ?_ (by omega) ?_ ?_).1
 ·intro i hi
  rw[hg i (by omega)]
  exact xox 10 l i (by omega)
 ·rw[hl,Nat.add_sub_cancel,hg _ (by omega)];exact h5
 ·intro hx
  rw[hl,Nat.add_sub_cancel,hg _ (by omega)];exact h4 (by omega)
theorem xw7 (x:Int) (x0:0≤x) (x1:x≤18446744073709551615):bits BinOp.or IntKind.u64 x 1=2*(x / 2)+1:=by
 rw[u64_or _ _ (by omega) (by omega) (by omega) (by omega)]
 have h:x.toNat ||| (1:Int).toNat=2*(x.toNat / 2)+1:=by
  rcases Nat.mod_two_eq_zero_or_one x.toNat with h|h
  ·rw[show (1:Int).toNat=1 from rfl,nat_join 1 _ _ (by omega) (by omega)];omega
  ·have e:x.toNat=(2*(x.toNat / 2)) ||| 1:=by rw[nat_join 1 _ _ (by omega) (by omega)];omega
   rw[show (1:Int).toNat=1 from rfl]
   conv=>lhs;rw[e,Nat.or_assoc,Nat.or_self]
   rw[nat_join 1 _ _ (by omega) (by omega)]
 rw[h];omega
theorem xyu (m:Nat):((2 ^ (7*m):Nat):Int)=p7 m:=by
 induction m with
 | zero=>rfl
 | succ m ih =>
  rw[show 7*(m+1)=7*m+7 from by omega,Nat.pow_add,p7,← ih]
  simp only[Nat.reducePow];omega
theorem xse (x:Int) (n:Nat) (x0:0≤x) (x1:x≤18446744073709551615) (h:Len n (2*(x / 2)+1)):(n+6) / 7=(enc x).length:=by
 obtain⟨h64,h⟩:=h
 have hu:=xxp x x1
 have hd:=xxh x
 have hl:=xe4 x
 generalize (enc x).length=m at *
 rcases h with ⟨rfl,h⟩|⟨hn,ha,hb⟩
 ·omega
 have h1:n≤7*m:=by
  rcases Nat.lt_or_ge (7*m) n with hc|hc
  ·have:=Nat.pow_le_pow_right (by omega:0<2) (by omega:7*m≤n - 1)
   have e:=xyu m
   have ev:p7 m % 2=0:=by
    obtain⟨k,rfl⟩:∃ k,m=k+1:=⟨m - 1,by omega⟩
    rw[p7];omega
   omega
  ·exact hc
 have h2:7*(m - 1)<n:=by
  rcases Nat.lt_or_ge (7*(m - 1)) n with hc|hc
  ·exact hc
  ·have:=Nat.pow_le_pow_right (by omega:0<2) hc
   have e:=xyu (m - 1)
   by_cases hm:2≤m
   ·have:=hd hm
    omega
   ·omega
 omega
theorem xig (x:Int) (w:World) (x0:0≤x) (x1:x≤18446744073709551615):Calls Tryz.prog 210 #[.int .u64 x] w fun e w'=>e=.returned (.int .i64 (enc x).length)∧w=w':=by
 have ho:=xw7 x x0 x1
 go_enter Tryz.func210,Tryz.ntmps210
 go_wp2_with fail
 refine(xjZ _ _ (by omega) (by omega)).mono ?_
 rintro e w' ⟨⟨n,rfl,hn⟩,rfl⟩
 have hs:=xse x n x0 x1 hn
 have h64:=hn.1
 clear hn ho
 go_wp2
 go_ret
 refine⟨xal ?_,rfl⟩
 omega
theorem xry:(Tryz.prog.info? 5).map (fun i=>(i.zero,i.size,i.bytes))=some (some (.int .u8 0),1,1):=by kernel_rfl
theorem xiW (x:Addr) (j:Nat):(x.add j).block=x.block:=by unfold Addr.add;split <;> rfl
def xaO (w:World) (v:Value) (l:List Int):Prop :=
 ∃ a cap,v=.slice a l.length cap∧l.length≤cap∧cap≤maxLen∧(0<l.length→∃ x:Addr,a=some x∧x.block<w.heap.size∧∀ i,i<l.length→w.cell? (x.add i)=some (.int .u8 (l.getD i 0)))
def Own (w:World) (B:Nat) (v:Value) (l:List Int):Prop:=w.ownsRow B 5 1 v l.length (l.map (Value.int .u8))
theorem Own.snoc {w':World} {B:Nat} {v':Value} {l:List Int} {c:Int} (hs:w'.ownsRow B 5 1 v' (l.length+1) (l.map (Value.int .u8)++[.int .u8 c])):Own w' B v' (l++[c]):=by
 unfold Own
 rw[List.length_append,List.map_append]
 exact hs
theorem xcI {w2:World} {g m:Nat} {l:List Int} (h:w2.heap[g]?=some (.cells (splice (List.replicate (l.length+m) (Value.int .u8 0)) 0 (l.map (Value.int .u8))).toArray 5 (0,0))) (hl:l.length+m≤maxLen):Own w2 g (.slice (some ⟨g,0,none⟩) l.length (l.length+m)) l:=by
 refine⟨by simp,.inr ⟨g,l.length+m,_,rfl,Nat.le_refl _,h,by omega,hl,?_,?_⟩⟩
 ·rw[List.size_toArray,length_splice _ _ _ (by simp)];simp
 ·simp[splice]
def xlW (w:World) (l:List Int) (e:Ending) (w':World):Prop:=∃ v,e=.returned v∧Own w' w.heap.size v l∧Below w.heap.size w w'
theorem xvz (y:Int) (y0:0≤y):bits BinOp.or IntKind.u8 (y % 256) 128=y % 128+128:=by
 rw[u8_or _ _ (by omega) (by omega) (by omega) (by omega)]
 have h:(y % 256).toNat ||| (128:Int).toNat=128+(y % 128).toNat:=by
  have e:(y % 256).toNat=(if y % 256<128 then 0 else 128) ||| (y % 128).toNat:=by
   split
   ·rw[Nat.zero_or];omega
   ·rw[nat_join 7 _ _ (by omega) (by omega)];omega
  rw[e,show (128:Int).toNat=128 from rfl]
  split
  ·rw[Nat.zero_or,Nat.or_comm,nat_join 7 _ _ (by omega) (by omega)]
  ·rw[Nat.or_comm,← Nat.or_assoc,Nat.or_self,nat_join 7 _ _ (by omega) (by omega)]
 rw[h];omega
def xwQ (B:Nat) (w:World) (l:List Int) (e:Ending) (w':World):Prop:=∃ v,e=.returned v∧Own w' B v l∧Below B w w'
theorem xoK (B:Nat) (v:Value) (l:List Int) (x:Int) (w:World) (ho:Own w B v l) (hB:B≤w.heap.size) (hl:l.length≤1000000) (x0:0≤x) (x1:x≤18446744073709551615) :
  Calls Tryz.prog 212 #[v,.int .u64 x] w (xwQ B w (l++enc x)):=by
 obtain⟨i0,hi,hz0,hz1,hz2⟩:=xaq xry
 go_enter Tryz.func212,Tryz.ntmps212
 go_wp2
 go_loopw [0,1] (fun v x' wr=>∃ (pre:List Int) (y:Int),x'=.int .u64 y∧0≤y∧y≤18446744073709551615∧Hid (enc x=pre++enc y)∧Own wr B v (l++pre)∧Below B w wr) (fun _ x' _=>(intOf x').toNat)
 case atStart=>exact⟨[],x,rfl,x0,x1,rfl,by simpa using ho,Below.refl _ _⟩
 case round =>
  obtain⟨pre,y,rfl,y0,y1,HY,hown,hbw⟩:=hrel
  have hlen:(l++pre).length≤l.length+10:=by
   have:=congrArg List.length HY.out
   have:=xe4 x
   simp only[List.length_append] at *
   omega
  have hsz:=hbw.size
  have hlm:(l++pre).length≤1000010:=by omega
  clear hlen
  generalize hL:(l++pre)=L at *
  have HL:=lH hL;clear hL
  by_cases hlt:128≤y
  ·have hor:=xvz y y0
   have HE:Hid (enc x=(pre++[y % 128+128])++enc (y / 128)):=by
    have:=HY.out
    rw[xxL y hlt y1] at this
    exact lH (by simpa using this)
   go_wp2_with (first|(at_builtin;refine wpList_append_own _ rfl _ _ 23 rfl B 5 i0 (.int .u8 0) 1 1 Tryz.underlying23 hi hz0 hz1 hz2 rfl (by decide) _ _ _ rfl (World.ownsRow.alloc hown _) ⟨wr.heap.size,0,none⟩ 1 1 [.int .u8 (y % 128+128)] rfl rfl ?c1 ?c2 ?c3 ?c4 ?c5 ?_)|fail)
   case c1 =>
    intro j u hj
    match j,hj with
    | 0,hj=>simp at hj;subst hj;simp[Addr.add]
   case c2=>intro u hu;simp at hu;subst hu;rfl
   case c3=>unfold maxLen;omega
   case c4=>omega
   case c5=>rw[World.size_alloc];omega
   intro v' w1 hown' hgrow _
   have hbel:Below B w w1:=(hbw.alloc (by omega) _).grown hgrow (by rw[World.size_alloc];omega) (fun g hg=>(World.ownsRow.lt hown g hg).1)
   have hO':Own w1 B v' (l++(pre++[y % 128+128])):=by
    rw[← List.append_assoc,HL.out]
    exact Own.snoc (by simpa using hown')
   clear hown' hgrow hown hbw HY hor
   go_wp2
   go_roundw
   case rel=>exact⟨_,y / 128,rfl,by omega,by omega,HE,hO',hbel⟩
   case measure=>simp[intOf];omega
  ·have hmod:y % 256=y:=by omega
   have HE:Hid (enc x=pre++[y]):=by
    have:=HY.out
    rw[xyl y (by omega)] at this
    exact lH this
   go_wp2_with (first|(at_builtin;refine wpList_append_own _ rfl _ _ 23 rfl B 5 i0 (.int .u8 0) 1 1 Tryz.underlying23 hi hz0 hz1 hz2 rfl (by decide) _ _ _ rfl (World.ownsRow.alloc hown _) ⟨wr.heap.size,0,none⟩ 1 1 [.int .u8 y] rfl rfl ?c1 ?c2 ?c3 ?c4 ?c5 ?_)|fail)
   case c2=>rfl
   case c3=>unfold maxLen;omega
   case c4=>omega
   case c5=>omega
   intro v' w1 hown' hgrow _
   have hbel:Below B w w1:=(hbw.alloc (by omega) _).grown hgrow (by rw[World.size_alloc];omega) (fun g hg=>(World.ownsRow.lt hown g hg).1)
   have hO':Own w1 B v' (l++enc x):=by
    rw[HE.out,← List.append_assoc,HL.out]
    exact Own.snoc (by simpa using hown')
   clear hown' hgrow hown hbw HY
   go_wp2
   go_ret
   exact⟨_,rfl,hO',hbel⟩
theorem xnK (L m:Nat) (W:World) (h:L+m≤1000100):(Instr.makeSlice 23 (.int .i64 (L:Int)) (.int .i64 ((L:Int)+(m:Int)))).run Tryz.prog W=.ok (.slice (some ⟨W.heap.size,0,none⟩) L (L+m)) (W.alloc (.cells (madeCells #[.int .u8 0] (L+m)) 5)):=by
 obtain⟨i0,hi,hz0,hz1,hz2⟩:=xaq xry
 have:=run_make (P:=Tryz.prog) W 23 5 i0 (.int .u8 0) Tryz.underlying23 hi hz0 .i64 .i64 (L:Int) ((L:Int)+(m:Int)) (by omega) (by omega) (by rw[hz2];omega) (by omega)
 rw[this,hz1]
 simp only[Int.toNat_natCast]
 rw[show ((L:Int)+(m:Int)).toNat=L+m from by omega,Nat.mul_one]
 rfl
def str (l:List Int):ByteArray:=l.foldl (fun r n=>r.push (UInt8.ofNat n.toNat)) ByteArray.empty
theorem xsc (l:List Int) (r:ByteArray):(l.foldl (fun r n=>r.push (UInt8.ofNat n.toNat)) r).data.toList=r.data.toList++l.map (fun n=>UInt8.ofNat n.toNat):=by
 induction l generalizing r with
 | nil=>simp
 | cons n l ih=>rw[List.foldl_cons,ih];simp[ByteArray.push]
theorem xft (l:List Int):(str l).data.toList=l.map (fun n=>UInt8.ofNat n.toNat):=by
 unfold str;rw[xsc];simp
theorem xmh (l:List Int):(str l).size=l.length:=by
 have:=congrArg List.length (xft l)
 simpa using this
theorem xhV (w:World) (v:Value) (l:List Int) (h:xaO w v l):(convert 23 9 v).run Tryz.prog w=.ok (.string (str l)) w:=by
 obtain⟨a,cap,rfl,h1,h2,hc⟩:=h
 rw[run_convert_bytes_string w 23 9 5 a l.length cap Tryz.underlying23 Tryz.underlying5 Tryz.underlying9]
 by_cases h0:0<l.length
 ·obtain⟨x,rfl,hb,hx⟩:=hc h0
  refine run_bytesToString w x l.length cap l ?_
  have:=run_loadCells_list (P:=Tryz.prog) (w:=w) x (l.map (Value.int .u8)) (by
   intro j v hj
   have hjl:j<l.length:=by have:=(List.getElem?_eq_some_iff.1 hj).1;simpa using this
   rw[hx j hjl]
   simpa[hjl] using hj)
  simpa using this
 ·obtain rfl:l=[]:=List.eq_nil_of_length_eq_zero (by omega)
  cases a with
  | none=>rfl
  | some x =>
   have:=run_loadCells_list (P:=Tryz.prog) (w:=w) x [] (by intro j v hj;simp at hj)
   exact run_bytesToString w x 0 cap [] (by simpa using this)
theorem Own.bytesAt {w:World} {B:Nat} {v:Value} {l:List Int} (h:Own w B v l):xaO w v l:=by
 have hlt:=World.ownsRow.lt h
 have h':=h
 obtain⟨hx,hv⟩:=h'
 rcases hv with ⟨rfl,hn⟩|⟨g,cap,cur,rfl,hB,hh,hle,hm,hcs,htk⟩
 ·obtain rfl:l=[]:=List.eq_nil_of_length_eq_zero hn
  exact⟨none,0,rfl,Nat.le_refl _,by simp,fun h=>by simp at h⟩
 ·refine⟨_,cap,rfl,hle,hm,fun _=>⟨_,rfl,(hlt g rfl).2,fun i hi=>?_⟩⟩
  have:=World.ownsRow.cellAt h i (by omega)
  have e:(⟨g,0,none⟩:Addr).add i=⟨g,i,none⟩:=by simp[Addr.add];omega
  rw[e]
  simpa[hi] using this
theorem xaO.below {w w':World} {v:Value} {l:List Int} (h:xaO w v l) (hb:Below w.heap.size w w'):xaO w' v l:=by
 obtain⟨a,cap,rfl,h1,h2,hc⟩:=h
 refine⟨a,cap,rfl,h1,h2,fun h0=>?_⟩
 obtain⟨x,rfl,hx,hcell⟩:=hc h0
 refine⟨x,rfl,Nat.lt_of_lt_of_le hx hb.size,fun i hi=>?_⟩
 rw[← hcell i hi]
 exact hb.cell (p:=x.add i) (by rw[xiW];exact hx)
theorem xuV {w:World} {a:Addr} {v:Value} (h:w.cell? a=some v):a.block<w.heap.size:=by
 rcases Nat.lt_or_ge a.block w.heap.size with h'|h'
 ·exact h'
 ·simp[World.cell?,Array.getElem?_eq_none h'] at h
theorem xam {w w':World} {a:Addr} {v:Value} (hb:Below w.heap.size w w') (h:w.cell? a=some v):w'.cell? a=some v:=(hb.cell (p:=a) (xuV h)).trans h
theorem Own.below {w w':World} {B:Nat} {v:Value} {l:List Int} (h:Own w B v l) (hb:Below w.heap.size w w'):Own w' B v l:=by
 have hlt:=World.ownsRow.lt h
 obtain⟨h1,h2⟩:=h
 refine⟨h1,?_⟩
 rcases h2 with h2|⟨g,cap,cur,hv,hg,hh,r⟩
 ·exact .inl h2
 ·refine .inr ⟨g,cap,cur,hv,hg,?_,r⟩
  rw[hb.block g (hlt g (by rw[hv];rfl)).2];exact hh
def xgx (w:World) (v:Value) (l:List Int):Prop :=
 ∃ a cap,v=.slice a l.length cap∧∀ k,k<l.length→∃ b off,a=some ⟨b,off,none⟩∧b<w.heap.size∧w.cell? ⟨b,off+k,none⟩=some (.int .u64 (l.getD k 0))
theorem xgx.below {w w':World} {v:Value} {l:List Int} (h:xgx w v l) (hb:Below w.heap.size w w'):xgx w' v l:=by
 obtain⟨a,cap,rfl,hc⟩:=h
 refine⟨a,cap,rfl,fun k hk=>?_⟩
 obtain⟨b,off,ha,hx,hcell⟩:=hc k hk
 exact⟨b,off,ha,Nat.lt_of_lt_of_le hx hb.size,xam hb hcell⟩
def xzB (l:List Int):Prop:=∀ k,k<l.length→0≤l.getD k 0∧l.getD k 0≤18446744073709551615
def encs:List Int→List Int
 | []=>[]
 | x :: t=>enc x++encs t
theorem xge (l:List Int) (x:Int):encs (l++[x])=encs l++enc x:=by
 induction l with
 | nil=>simp[encs]
 | cons y t ih=>simp[encs,ih]
theorem xma (l:List Int):(encs l).length≤10*l.length:=by
 induction l with
 | nil=>simp[encs]
 | cons y t ih =>
  have:=xe4 y
  simp only[encs,List.length_append,List.length_cons];omega
theorem xgt (l:List Int) (k:Nat) (h:k<l.length):l.take (k+1)=l.take k++[l.getD k 0]:=by
 rw[List.take_succ_eq_append_getElem h];simp[h]
theorem xiM (l:List Int) (k:Nat) (h:k<l.length):encs (l.take (k+1))=encs (l.take k)++enc (l.getD k 0):=by
 rw[xgt l k h,xge]
theorem xkJ (m:Nat) (W:World) (h:m≤1000100):(Instr.makeSlice 23 (.int .i64 0) (.int .i64 (m:Int))).run Tryz.prog W=.ok (.slice (some ⟨W.heap.size,0,none⟩) 0 m) (W.alloc (.cells (madeCells #[.int .u8 0] m) 5)):=by
 have:=xnK 0 m W (by omega)
 simpa using this
theorem xtl (w:World) (m:Nat) (h:m≤1000100):Own (w.alloc (.cells (madeCells #[.int .u8 0] m) 5)) w.heap.size (.slice (some ⟨w.heap.size,0,none⟩) 0 m) []:=by
 have:=xcI (w2:=w.alloc (.cells (madeCells #[.int .u8 0] m) 5)) (g:=w.heap.size) (m:=m) (l:=[]) (by
  rw[heap_alloc_new]
  have:=toList_madeCells_one (.int .u8 0) m
  simp[splice,← this]) (by simp;unfold maxLen;omega)
 simpa using this
end Go.Proofs.YtjinnigjfopbcaaGreatDoor
namespace Go.Proofs.YtjinnigjfopbcaaGreatDoor
set_option linter.unusedVariables false
set_option linter.unusedSimpArgs false
def gE (l:List En) (k:Nat):En:=l.getD k xcF
def nxE (l:List En) (k:Nat):Int:=((gE l k).off+(gE l k).ln) % 18446744073709551616
def xeX (l:List En) (c k:Nat):Int :=
 if c=0 then (if k=0 then (gE l 0).id else ((gE l k).id - (gE l (k - 1)).id) % 18446744073709551616)
 else if c=1 then (gE l k).rn else if c=2 then (gE l k).ln
 else if 0<k∧(gE l k).off=nxE l (k - 1) then 0 else ((gE l k).off+1) % 18446744073709551616
def xbo (l:List En) (c k:Nat) (x:Int):Int :=
 if c=0∧0<k∧18446744073709551616≤(gE l (k - 1)).id+x then 11
 else if (c=1∨c=2)∧4294967295<x then 11
 else if c=3∧k=0∧x=0 then 4
 else if c=3∧0<k∧0<x∧x - 1=nxE l (k - 1) then 4 else 0
def xkF (l:List En) (c k:Nat) (x:Int):En :=
 if c=0 then { gE l k with id:=if 0<k then ((gE l (k - 1)).id+x) % 18446744073709551616 else x }
 else if c=1 then { gE l k with rn:=x % 4294967296 }
 else if c=2 then { gE l k with ln:=x % 4294967296 }
 else { gE l k with off:=if x=0 then nxE l (k - 1) else x - 1 }
def xdW (l:List En) (c k:Nat) (x:Int):List En:=l.set k (xkF l c k x)
theorem xcQ (l:List En) (c k:Nat) (x:Int):(xdW l c k x).length=l.length:=by simp[xdW]
theorem xlD (l:List En) (c k:Nat) (x:Int) (j:Nat) (hk:k<l.length):gE (xdW l c k x) j=if j=k then xkF l c k x else gE l j:=by
 unfold gE xdW
 rw[List.getD_eq_getElem?_getD,List.getD_eq_getElem?_getD,List.getElem?_set]
 by_cases h:j=k
 ·subst h;simp[hk]
 ·rw[if_neg (fun e=>h e.symm),if_neg h]
theorem xxM (l:List En) (k:Nat):xeX l 0 k=if k=0 then (gE l 0).id else ((gE l k).id - (gE l (k - 1)).id) % 18446744073709551616:=by simp[xeX]
theorem xxE (l:List En) (k:Nat):xeX l 1 k=(gE l k).rn:=by simp[xeX]
theorem xxS (l:List En) (k:Nat):xeX l 2 k=(gE l k).ln:=by simp[xeX]
theorem xw5 (l:List En) (k:Nat):xeX l 3 k=if 0<k∧(gE l k).off=nxE l (k - 1) then 0 else ((gE l k).off+1) % 18446744073709551616:=by simp[xeX]
theorem xxG (l:List En) (k:Nat) (x:Int):xkF l 0 k x={ gE l k with id:=if 0<k then ((gE l (k - 1)).id+x) % 18446744073709551616 else x }:=by simp[xkF]
theorem xyp (l:List En) (k:Nat) (x:Int):xkF l 1 k x={ gE l k with rn:=x % 4294967296 }:=by simp[xkF]
theorem xyD (l:List En) (k:Nat) (x:Int):xkF l 2 k x={ gE l k with ln:=x % 4294967296 }:=by simp[xkF]
theorem xw0 (l:List En) (k:Nat) (x:Int):xkF l 3 k x={ gE l k with off:=if x=0 then nxE l (k - 1) else x - 1 }:=by simp[xkF]
def Agr (n:Nat) (l m:List En) (i:Nat):Prop:=∀ j,j<n→(j<i→(gE l j).id=(gE m j).id)∧(n+j<i→(gE l j).rn=(gE m j).rn)∧(2*n+j<i→(gE l j).ln=(gE m j).ln)∧(3*n+j<i→(gE l j).off=(gE m j).off)
theorem Agr.symm {n:Nat} {l m:List En} {i:Nat} (h:Agr n l m i):Agr n m l i:=fun j hj=>⟨fun a=>((h j hj).1 a).symm,fun a=>((h j hj).2.1 a).symm,fun a=>((h j hj).2.2.1 a).symm,fun a=>((h j hj).2.2.2 a).symm⟩
theorem Agr.all {n:Nat} {l m:List En} (h:Agr n l m (4*n)) (hl:l.length=n) (hm:m.length=n):l=m:=by
 apply List.ext_getElem (by omega)
 intro j h1 h2
 have a:=h j (by omega)
 have e1:gE l j=l[j]:=by unfold gE;rw[List.getD_eq_getElem?_getD,List.getElem?_eq_getElem h1];rfl
 have e2:gE m j=m[j]:=by unfold gE;rw[List.getD_eq_getElem?_getD,List.getElem?_eq_getElem h2];rfl
 rw[← e1,← e2,En.eq_iff]
 exact⟨a.1 (by omega),a.2.2.2 (by omega),a.2.2.1 (by omega),a.2.1 (by omega)⟩
theorem xi0 {n i:Nat} (h:i<4*n):(i / n=0∧i % n=i∧i<n)∨(i / n=1∧i=n+i % n∧i % n<n)∨(i / n=2∧i=2*n+i % n∧i % n<n)∨(i / n=3∧i=3*n+i % n∧i % n<n):=by
 have hn:0<n:=by omega
 have h1:i / n<4:=(Nat.div_lt_iff_lt_mul hn).2 h
 have h2:=Nat.mod_lt i hn
 have h3:=Nat.div_add_mod i n
 generalize i / n=c at h1 h3 ⊢
 generalize i % n=k at h2 h3 ⊢
 rcases(show c=0∨c=1∨c=2∨c=3 by omega) with rfl|rfl|rfl|rfl
 ·exact .inl ⟨rfl,by omega,by omega⟩
 ·exact .inr (.inl ⟨rfl,by omega,h2⟩)
 ·exact .inr (.inr (.inl ⟨rfl,by omega,h2⟩))
 ·exact .inr (.inr (.inr ⟨rfl,by omega,h2⟩))
theorem xu3 {n:Nat} {l m:List En} {i j:Nat} (h:Agr n l m i) (hj:j<i) (hi:j<4*n):xeX l (j / n) (j % n)=xeX m (j / n) (j % n):=by
 rcases xi0 hi with ⟨hc,hk,h1⟩|⟨hc,hk,h1⟩|⟨hc,hk,h1⟩|⟨hc,hk,h1⟩ <;> rw[hc] <;> generalize j % n=k at *
 ·rw[xxM,xxM,(h 0 (by omega)).1 (by omega),(h k (by omega)).1 (by omega),(h (k - 1) (by omega)).1 (by omega)]
 ·rw[xxE,xxE];exact(h k h1).2.1 (by omega)
 ·rw[xxS,xxS];exact(h k h1).2.2.1 (by omega)
 ·rw[xw5,xw5,(h k h1).2.2.2 (by omega)]
  by_cases h0:0<k
  ·have e:nxE l (k - 1)=nxE m (k - 1):=by
    unfold nxE
    rw[(h (k - 1) (by omega)).2.2.2 (by omega),(h (k - 1) (by omega)).2.2.1 (by omega)]
   rw[e]
  ·simp[h0]
theorem xwr {n:Nat} {l:List En} (x:Int) {i:Nat} (hl:l.length=n) (hi:i<4*n):Agr n l (xdW l (i / n) (i % n) x) i:=by
 intro j hj
 have hk:i % n<l.length:=by rw[hl];exact Nat.mod_lt _ (by omega)
 rw[xlD _ _ _ _ _ hk]
 by_cases e:j=i % n
 ·rw[if_pos e]
  rcases xi0 hi with ⟨hc,h0,h1⟩|⟨hc,h0,h1⟩|⟨hc,h0,h1⟩|⟨hc,h0,h1⟩ <;> rw[hc] <;> generalize i % n=k at*<;> subst e <;> simp only[xkF] <;> refine⟨fun a=>?_,fun a=>?_,fun a=>?_,fun a=>?_⟩ <;> first|rfl|omega|simp
 ·rw[if_neg e]
  exact⟨fun _=>rfl,fun _=>rfl,fun _=>rfl,fun _=>rfl⟩
theorem xht (l:List En) (j:Nat) (hj:j<l.length):gE l j ∈ l:=by
 unfold gE
 rw[List.getD_eq_getElem?_getD,List.getElem?_eq_getElem hj]
 exact List.getElem_mem hj
theorem xxo {n:Nat} {m:List En} {i:Nat} (hi:i<4*n) (hm:∀ j,j<n→xaY (gE m j)):0≤xeX m (i / n) (i % n)∧xeX m (i / n) (i % n)≤18446744073709551615:=by
 unfold xaY at hm
 rcases xi0 hi with ⟨hc,h0,hk⟩|⟨hc,h0,hk⟩|⟨hc,h0,hk⟩|⟨hc,h0,hk⟩ <;> rw[hc] <;> generalize i % n=k at *
 ·rw[xxM]
  have:=hm 0 (by omega)
  split <;> omega
 ·rw[xxE];have:=hm k hk;omega
 ·rw[xxS];have:=hm k hk;omega
 ·rw[xw5];split <;> omega
theorem xvv {n:Nat} {l:List En} {i:Nat} {x:Int} (hl:l.length=n) (hi:i<4*n) (hm:∀ j,j<n→xaY (gE l j)) (hx:0≤x∧x≤18446744073709551615) (h:xbo l (i / n) (i % n) x=0):xeX (xdW l (i / n) (i % n) x) (i / n) (i % n)=x:=by
 have hk':i % n<l.length:=by rw[hl];exact Nat.mod_lt _ (by omega)
 have he:=fun j=>xlD l (i / n) (i % n) x j hk'
 generalize xdW l (i / n) (i % n) x=l' at *
 unfold xaY at hm
 rcases xi0 hi with ⟨hc,h0,hk⟩|⟨hc,h0,hk⟩|⟨hc,h0,hk⟩|⟨hc,h0,hk⟩ <;> rw[hc] at h he ⊢ <;> generalize i % n=k at*<;> unfold xbo at h <;> have e1:=he k <;> rw[if_pos rfl] at e1
 ·rw[xxM]
  rw[xxG] at e1
  by_cases z:k=0
  ·rw[if_pos z]
   subst z
   rw[e1]
   simp
  ·have e2:=he (k - 1)
   rw[if_neg (show ¬ (k - 1=k) by omega)] at e2
   rw[if_neg z,e1,e2]
   simp only
   have:=hm (k - 1) (by omega)
   rw[if_pos (show 0<k by omega)]
   split at h
   ·omega
   ·omega
 ·rw[xxE,e1,xyp]
  simp only
  split at h
  ·omega
  split at h
  ·omega
  omega
 ·rw[xxS,e1,xyD]
  simp only
  split at h
  ·omega
  split at h
  ·omega
  omega
 ·rw[xw0] at e1
  rw[xw5,e1]
  simp only
  split at h
  ·omega
  split at h
  ·omega
  split at h
  ·omega
  rename_i g3
  split at h
  ·omega
  rename_i g4
  by_cases z:0<k
  ·have e:nxE l' (k - 1)=nxE l (k - 1):=by
    have e2:=he (k - 1)
    rw[if_neg (show ¬ (k - 1=k) by omega)] at e2
    unfold nxE
    rw[e2]
   rw[e]
   by_cases z1:x=0
   ·rw[if_pos z1,if_pos ⟨z,rfl⟩,z1]
   ·rw[if_neg z1,if_neg (by rintro⟨-,q⟩;exact g4 ⟨rfl,z,by omega,q⟩)]
    omega
  ·rw[if_neg (by rintro⟨q,-⟩;exact z q),if_neg (by omega)]
   omega
theorem xh3 {n:Nat} {l:List En} {i:Nat} {x:Int} (hl:l.length=n) (hi:i<4*n) (hm:∀ j,j<n→xaY (gE l j)) (hx:0≤x∧x≤18446744073709551615):∀ j,j<n→xaY (gE (xdW l (i / n) (i % n) x) j):=by
 intro j hj
 have hk':i % n<l.length:=by rw[hl];exact Nat.mod_lt _ (by omega)
 rw[xlD _ _ _ _ _ hk']
 split
 ·have a:=hm (i % n) (by omega)
  unfold xaY at a ⊢
  rcases xi0 hi with ⟨hc,h0,hk⟩|⟨hc,h0,hk⟩|⟨hc,h0,hk⟩|⟨hc,h0,hk⟩ <;> rw[hc] <;> generalize i % n=k at *
  ·rw[xxG];simp only;split <;> omega
  ·rw[xyp];simp only;omega
  ·rw[xyD];simp only;omega
  ·rw[xw0];simp only;unfold nxE;split <;> omega
 ·exact hm j hj
def xtT (x:Int):List UInt8:=(enc x).map ub
theorem xmz (x:Int):1≤(xtT x).length∧(xtT x).length≤10:=by
 unfold xtT;rw[List.length_map];exact xe4 x
def xdx (L:List En) (n:Nat):Nat→Nat→List UInt8
 | 0,_=>[]
 | m+1,i=>xtT (xeX L (i / n) (i % n))++xdx L n m (i+1)
theorem xqL (L:List En) (n m i:Nat):(xdx L n m i).length≤10*m:=by
 induction m generalizing i with
 | zero=>simp[xdx]
 | succ m ih =>
  rw[xdx,List.length_append]
  have:=ih (i+1)
  have:=xmz (xeX L (i / n) (i % n))
  omega
def xiU (l:List En):List UInt8:=xtT l.length++xdx l l.length (4*l.length) 0
def goD (t:List UInt8) (n:Nat):Nat→Nat→List En→Nat→List En × Nat × Int
 | 0,_,l,a=>(l,a,0)
 | m+1,i,l,a =>
  if xbj (t.drop a)≠0 then ([],a,xbj (t.drop a)) else
  if xbo l (i / n) (i % n) (xaZ (t.drop a))≠0 then ([],a,xbo l (i / n) (i % n) (xaZ (t.drop a))) else
  goD t n m (i+1) (xdW l (i / n) (i % n) (xaZ (t.drop a))) (a+(xaK 10 (t.drop a)+1))
theorem xvP (t:List UInt8) (n:Nat):∀ (m i:Nat) (l:List En) (a:Nat),a≤t.length →
  ((goD t n m i l a).2.2≠0→(goD t n m i l a).1=[])∧a≤(goD t n m i l a).2.1∧(goD t n m i l a).2.1≤t.length:=by
 intro m
 induction m with
 | zero=>intro i l a ha;simp[goD];exact ha
 | succ m ih =>
  intro i l a ha
  rw[goD]
  split
  ·simp;exact ha
  ·rename_i he
   split
   ·simp;exact ha
   ·have hk:=(xde _ (by simpa using he)).2.1
    rw[List.length_drop] at hk
    have:=ih (i+1) (xdW l (i / n) (i % n) (xaZ (t.drop a))) (a+(xaK 10 (t.drop a)+1)) (by omega)
    refine⟨this.1,by omega,this.2.2⟩
theorem xt4 (t:List UInt8) (n:Nat):∀ (m i:Nat) (l:List En) (a:Nat),i+m=4*n→l.length=n→(∀ j,j<n→xaY (gE l j))→a≤t.length→(goD t n m i l a).2.2=0 →
  Agr n l (goD t n m i l a).1 i∧(goD t n m i l a).1.length=n∧(∀ j,j<n→xaY (gE (goD t n m i l a).1 j))∧a≤(goD t n m i l a).2.1∧(goD t n m i l a).2.1≤t.length∧(t.drop a).take ((goD t n m i l a).2.1 - a)=xdx (goD t n m i l a).1 n m i:=by
 intro m
 induction m with
 | zero =>
  intro i l a hi hl hm ha h
  simp[goD,xdx,hl,ha]
  exact⟨fun j _=>⟨fun _=>rfl,fun _=>rfl,fun _=>rfl,fun _=>rfl⟩,hm⟩
 | succ m ih =>
  intro i l a hi hl hm ha h
  rw[goD] at h ⊢
  by_cases he:¬ xbj (t.drop a)=0
  ·rw[if_pos he] at h;exact absurd h he
  have he:=Classical.not_not.1 he
  rw[if_neg (by simpa using he)] at h ⊢
  by_cases hw:¬ xbo l (i / n) (i % n) (xaZ (t.drop a))=0
  ·rw[if_pos hw] at h;exact absurd h hw
  have hw:=Classical.not_not.1 hw
  rw[if_neg (by simpa using hw)] at h ⊢
  have hx:=xct _ he
  have hk:=(xde _ he).2.1
  rw[List.length_drop] at hk
  have hp:=xvv hl (by omega) hm hx hw
  have q:=ih (i+1) (xdW l (i / n) (i % n) (xaZ (t.drop a))) (a+(xaK 10 (t.drop a)+1)) (by omega) (by rw[xcQ,hl]) (xh3 hl (by omega) hm hx) (by omega) h
  generalize goD t n m (i+1) (xdW l (i / n) (i % n) (xaZ (t.drop a))) (a+(xaK 10 (t.drop a)+1))=R at q ⊢
  obtain⟨L,b,e⟩:=R
  obtain⟨q1,q2,q3,q4,q5,q6⟩:=q
  simp only at q1 q2 q3 q4 q5 q6 ⊢
  have hA:=xwr (xaZ (t.drop a)) hl (show i<4*n by omega)
  refine⟨fun j hj=>?_,q2,q3,by omega,q5,?_⟩
  ·have u:=hA j hj
   have v:=q1 j hj
   exact⟨fun z=>(u.1 z).trans (v.1 (by omega)),fun z=>(u.2.1 z).trans (v.2.1 (by omega)),fun z=>(u.2.2.1 z).trans (v.2.2.1 (by omega)),fun z=>(u.2.2.2 z).trans (v.2.2.2 (by omega))⟩
  ·have hc:=xu3 q1 (Nat.lt_succ_self i) (show i<4*n by omega)
   rw[xdx,← hc,hp,← q6]
   have hen:xtT (xaZ (t.drop a))=(t.drop a).take (xaK 10 (t.drop a)+1):=by
    unfold xtT
    rw[xjf _ he,List.map_map]
    conv=>rhs;rw[← List.map_id ((t.drop a).take (xaK 10 (t.drop a)+1))]
    exact List.map_congr_left fun c _=>xoy c
   rw[hen,← List.drop_drop]
   generalize t.drop a=T at *
   rw[show b - a=(xaK 10 T+1)+(b - (a+(xaK 10 T+1))) from by omega,List.take_add]
def xax (n:Nat):List En:=List.replicate n xcF
theorem xtk (n j:Nat):gE (xax n) j=xcF:=by
 unfold gE xax
 rw[List.getD_eq_getElem?_getD,List.getElem?_replicate]
 split <;> rfl
theorem xgu (n:Nat):∀ j,j<n→xaY (gE (xax n) j):=by
 intro j _
 rw[xtk]
 unfold xaY xcF
 simp
def xbF (t:List UInt8):List En × Nat × Int :=
 if 65536<t.length then ([],0,5) else
 if xbj t≠0 then ([],0,xbj t) else
 if 4096<xaZ t then ([],0,21) else
 if (goD t (xaZ t).toNat (4*(xaZ t).toNat) 0 (xax (xaZ t).toNat) (xaK 10 t+1)).2.2≠0 then goD t (xaZ t).toNat (4*(xaZ t).toNat) 0 (xax (xaZ t).toNat) (xaK 10 t+1) else
 if (goD t (xaZ t).toNat (4*(xaZ t).toNat) 0 (xax (xaZ t).toNat) (xaK 10 t+1)).2.1<t.length then ([],(goD t (xaZ t).toNat (4*(xaZ t).toNat) 0 (xax (xaZ t).toNat) (xaK 10 t+1)).2.1,4) else
 if xa5 (goD t (xaZ t).toNat (4*(xaZ t).toNat) 0 (xax (xaZ t).toNat) (xaK 10 t+1)).1≠0 then ([],t.length,xa5 (goD t (xaZ t).toNat (4*(xaZ t).toNat) 0 (xax (xaZ t).toNat) (xaK 10 t+1)).1) else
 ((goD t (xaZ t).toNat (4*(xaZ t).toNat) 0 (xax (xaZ t).toNat) (xaK 10 t+1)).1,t.length,0)
theorem xjv (l:List En):1≤(xiU l).length∧(xiU l).length≤10+40*l.length:=by
 unfold xiU
 rw[List.length_append]
 have:=xmz l.length
 have:=xqL l l.length (4*l.length) 0
 omega
theorem xfm {l:List En} (h:xa5 l=0):l.length≤4096:=by
 unfold xa5 at h
 split at h <;> omega
theorem xcg (t:List UInt8) (h:(xbF t).2.2=0):xa5 (xbF t).1=0∧(∀ e ∈ (xbF t).1,xaY e)∧xiU (xbF t).1=t∧(xbF t).2.1=t.length∧t.length≤65536:=by
 unfold xbF at h ⊢
 by_cases h1:65536<t.length
 ·rw[if_pos h1] at h;simp at h
 rw[if_neg h1] at h ⊢
 by_cases h2:¬ xbj t=0
 ·rw[if_pos h2] at h;exact absurd h h2
 have h2:=Classical.not_not.1 h2
 rw[if_neg (by simpa using h2)] at h ⊢
 by_cases h3:4096<xaZ t
 ·rw[if_pos h3] at h;simp at h
 rw[if_neg h3] at h ⊢
 have hx:=xct _ h2
 have hk:=(xde _ h2).2.1
 have hb:=xjf _ h2
 obtain⟨n,hn⟩:∃ n:Nat,xaZ t=n:=⟨(xaZ t).toNat,by omega⟩
 rw[hn] at h ⊢
 rw[hn] at hb
 simp only[Int.toNat_natCast] at h ⊢
 have q:=xt4 t n (4*n) 0 (xax n) (xaK 10 t+1) (by omega) (by simp[xax]) (xgu n) (by omega)
 generalize goD t n (4*n) 0 (xax n) (xaK 10 t+1)=R at *
 obtain⟨L,b,e⟩:=R
 simp only at h q ⊢
 by_cases h4:¬ e=0
 ·rw[if_pos h4] at h;exact absurd h h4
 have h4:=Classical.not_not.1 h4
 rw[if_neg (by simpa using h4)] at h ⊢
 by_cases h5:b<t.length
 ·rw[if_pos h5] at h;simp at h
 rw[if_neg h5] at h ⊢
 by_cases h6:¬ xa5 L=0
 ·rw[if_pos h6] at h;exact absurd h h6
 have h6:=Classical.not_not.1 h6
 rw[if_neg (by simpa using h6)]
 obtain⟨q1,q2,q3,q4,q5,q6⟩:=q h4
 refine⟨h6,?_,?_,rfl,by omega⟩
 ·intro x hx'
  change x ∈ L at hx'
  obtain⟨j,hj,rfl⟩:=List.getElem_of_mem hx'
  have:=q3 j (by omega)
  unfold gE at this
  rwa[List.getD_eq_getElem?_getD,List.getElem?_eq_getElem hj] at this
 ·simp only
  unfold xiU
  rw[q2,← q6]
  have hen:xtT (n:Int)=t.take (xaK 10 t+1):=by
   unfold xtT
   rw[hb,List.map_map]
   conv=>rhs;rw[← List.map_id (t.take (xaK 10 t+1))]
   exact List.map_congr_left fun c _=>xoy c
  have hd:(t.drop (xaK 10 t+1)).take (b - (xaK 10 t+1))=t.drop (xaK 10 t+1):=List.take_of_length_le (by rw[List.length_drop];omega)
  rw[hen,hd,List.take_append_drop]
theorem xr8 (t:List UInt8):((xbF t).2.2≠0→(xbF t).1=[])∧(xbF t).2.1≤t.length:=by
 unfold xbF
 split
 ·simp
 split
 ·simp
 rename_i h2
 split
 ·simp
 have hk:=(xde t (by simpa using h2)).2.1
 have q:=xvP t (xaZ t).toNat (4*(xaZ t).toNat) 0 (xax (xaZ t).toNat) (xaK 10 t+1) (by omega)
 generalize goD t (xaZ t).toNat (4*(xaZ t).toNat) 0 (xax (xaZ t).toNat) (xaK 10 t+1)=R at *
 split
 ·exact⟨q.1,q.2.2⟩
 split
 ·exact⟨fun _=>rfl,q.2.2⟩
 split
 ·exact⟨fun _=>rfl,Nat.le_refl _⟩
 ·exact⟨fun h=>absurd rfl h,Nat.le_refl _⟩
def xgP (l:List En) (c:Nat):Nat→List Int
 | 0=>[]
 | k+1=>xgP l c k++enc (xeX l c k)
def xcN (l:List En):List Int:=enc l.length++(xgP l 0 l.length++(xgP l 1 l.length++(xgP l 2 l.length++xgP l 3 l.length)))
theorem xea (L:List En) (n m1 m2 i:Nat):xdx L n (m1+m2) i=xdx L n m1 i++xdx L n m2 (i+m1):=by
 induction m1 generalizing i with
 | zero=>simp[xdx]
 | succ m ih =>
  rw[show m+1+m2=(m+m2)+1 from by omega,xdx,xdx,ih,List.append_assoc,show i+1+m=i+(m+1) from by omega]
theorem xdw (L:List En) (n c m:Nat) (hm:m≤n):xdx L n m (c*n)=(xgP L c m).map ub:=by
 induction m with
 | zero=>rfl
 | succ m ih =>
  rw[xea,ih (by omega),xgP,List.map_append]
  have e1:(c*n+m) / n=c:=by rw[Nat.mul_comm,Nat.mul_add_div (by omega),Nat.div_eq_of_lt (by omega)];omega
  have e2:(c*n+m) % n=m:=by rw[Nat.mul_comm,Nat.mul_add_mod,Nat.mod_eq_of_lt (by omega)]
  simp only[xdx,e1,e2,List.append_nil]
  rfl
theorem xm2 (l:List En):xiU l=(xcN l).map ub:=by
 unfold xiU xcN
 have h0:=xdw l l.length 0 l.length (Nat.le_refl _)
 have h1:=xdw l l.length 1 l.length (Nat.le_refl _)
 have h2:=xdw l l.length 2 l.length (Nat.le_refl _)
 have h3:=xdw l l.length 3 l.length (Nat.le_refl _)
 rw[show 4*l.length=l.length+(l.length+(l.length+l.length)) from by omega,xea,xea,xea]
 simp only[Nat.zero_mul,Nat.one_mul,Nat.zero_add] at h0 h1 ⊢
 rw[show l.length+l.length=2*l.length from by omega,show 2*l.length+l.length=3*l.length from by omega,h0,h1,h2,h3]
 simp only[List.map_append]
 rfl
theorem xjH (l:List En):(xcN l).length=(xiU l).length:=by rw[xm2,List.length_map]
end Go.Proofs.YtjinnigjfopbcaaGreatDoor
