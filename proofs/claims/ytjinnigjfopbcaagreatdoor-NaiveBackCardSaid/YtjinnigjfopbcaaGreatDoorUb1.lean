/- bMB bMG bMS bMH bUa. -/
import Derived.Test.YtjinnigjfopbcaaGreatDoorUs
import Derived.Lib.SlBytesConst
import Derived.Test.YtjinnigjfopbcaaGreatDoorUa6
namespace Go.Proofs.YtjinnigjfopbcaaGreatDoor
set_option linter.unusedVariables false
set_option linter.unusedSimpArgs false
open Go.RowKit
set_option maxRecDepth 20000
def p7:Nat→Int
 | 0=>1
 | k+1=>128*p7 k
def xbz:Nat→Int→List Int
 | 0,x=>[x]
 | k+1,x=>if x<128 then [x] else (x % 128+128) :: xbz k (x / 128)
def enc (x:Int):List Int:=xbz 9 x
theorem xkC (k:Nat):1≤p7 k:=by
 induction k with
 | zero=>simp[p7]
 | succ k ih=>simp only[p7];omega
theorem xh8 (j k:Nat) (h:j≤k):p7 j≤p7 k:=by
 induction h with
 | refl=>omega
 | step _ ih=>simp only[p7];have:=xkC j;omega
theorem xcJ (x:Int) (k:Nat) (h:x<p7 (k+1)):x / 128<p7 k:=by
 simp only[p7] at h;omega
theorem xrv (k:Nat) (x:Int) (h0:0≤x) (h:x<p7 (k+1)):xbz (k+1) x=xbz k x:=by
 induction k generalizing x with
 | zero =>
  simp only[p7] at h
  have:x<128:=by omega
  simp[xbz,this]
 | succ k ih =>
  rw[xbz]
  by_cases hx:x<128
  ·rw[if_pos hx,xbz,if_pos hx]
  ·rw[if_neg hx,ih (x / 128) (by omega) (xcJ x (k+1) h)]
   conv=>rhs;rw[xbz,if_neg hx]
theorem xfN:p7 10=1180591620717411303424∧p7 9=9223372036854775808:=by decide
theorem xzA (x:Int) (h:x<128):enc x=[x]:=by unfold enc;rw[xbz,if_pos h]
theorem xzu (x:Int) (h:128≤x) (h1:x≤18446744073709551615):enc x=(x % 128+128) :: enc (x / 128):=by
 unfold enc
 rw[xbz,if_neg (by omega),← xrv 8 (x / 128) (by omega) (by rw[xfN.2];omega)]
theorem xiU (k:Nat) (x:Int):1≤(xbz k x).length∧(xbz k x).length≤k+1:=by
 induction k generalizing x with
 | zero=>simp[xbz]
 | succ k ih =>
  rw[xbz]
  split
  ·simp
  ·have:=ih (x / 128)
   simp only[List.length_cons];omega
theorem xei (x:Int):1≤(enc x).length∧(enc x).length≤10:=xiU 9 x
theorem xyW (k:Nat) (x:Int) (h:x<p7 (k+1)):x<p7 (xbz k x).length:=by
 induction k generalizing x with
 | zero=>simpa[xbz] using h
 | succ k ih =>
  rw[xbz]
  split
  ·simp[p7];assumption
  ·have:=ih (x / 128) (xcJ x (k+1) h)
   simp only[List.length_cons,p7];omega
theorem xwg (k:Nat) (x:Int) (h:2≤(xbz k x).length):p7 ((xbz k x).length - 1)≤x:=by
 induction k generalizing x with
 | zero=>simp[xbz] at h
 | succ k ih =>
  rw[xbz] at h ⊢
  split at h
  ·simp at h
  ·rename_i hx
   rw[if_neg hx]
   simp only[List.length_cons] at h ⊢
   have h1:=(xiU k (x / 128)).1
   by_cases h2:2≤(xbz k (x / 128)).length
   ·have:=ih (x / 128) h2
    obtain⟨m,hm⟩:∃ m,(xbz k (x / 128)).length=m+1:=⟨(xbz k (x / 128)).length - 1,by omega⟩
    rw[hm] at this ⊢
    simp only[Nat.add_sub_cancel,p7] at this ⊢
    omega
   ·rw[show (xbz k (x / 128)).length=1 from by omega]
    simp only[Nat.add_sub_cancel,p7];omega
theorem xAJ (x:Int) (h1:x≤18446744073709551615):x<p7 (enc x).length:=xyW 9 x (by have:=xfN.1;simp only[Nat.reduceAdd];omega)
theorem xAO (x:Int) (h:2≤(enc x).length):p7 ((enc x).length - 1)≤x:=xwg 9 x h
theorem xsh (k:Nat) (x:Int) (h0:0≤x) (h:x<p7 (k+1)):∀ c ∈ xbz k x,0≤c∧c<256:=by
 induction k generalizing x with
 | zero=>simp only[p7] at h;simp[xbz];omega
 | succ k ih =>
  rw[xbz]
  split
  ·simp;omega
  ·intro c hc
   rcases List.mem_cons.1 hc with rfl|hc
   ·omega
   ·exact ih (x / 128) (by omega) (xcJ x (k+1) h) c hc
def xaV:Nat→List UInt8→Nat
 | 0,_=>0
 | _+1,[]=>0
 | k+1,c :: t=>if 128≤c.toNat then xaV k t+1 else 0
def xdg:List UInt8→Int
 | []=>0
 | c :: t=>(c.toNat:Int) % 128+128*xdg t
def xbK (l:List UInt8):Int :=
 if xaV 10 l=10 then 11 else if xaV 10 l=l.length then 3 else if xaV 10 l=9∧1<(l.getD (xaV 10 l) 0).toNat then 11 else if 0<xaV 10 l∧(l.getD (xaV 10 l) 0).toNat=0 then 4 else 0
def xl7 (l:List UInt8):Int:=(xaV 10 l+1:Nat)
def xbc (l:List UInt8):Int:=xdg (l.take (xaV 10 l+1))
theorem xil (k:Nat) (l:List UInt8):xaV k l≤k∧xaV k l≤l.length:=by
 induction k generalizing l with
 | zero=>simp[xaV]
 | succ k ih =>
  cases l with
  | nil=>simp[xaV]
  | cons c t =>
   rw[xaV]
   have:=ih t
   split <;> simp only[List.length_cons] <;> omega
theorem xrI (k:Nat) (l:List UInt8) (i:Nat) (h:i<xaV k l):128≤(l.getD i 0).toNat:=by
 induction k generalizing l i with
 | zero=>simp[xaV] at h
 | succ k ih =>
  cases l with
  | nil=>simp[xaV] at h
  | cons c t =>
   rw[xaV] at h
   split at h
   ·cases i with
    | zero=>simpa
    | succ i=>simpa using ih t i (by omega)
   ·omega
theorem xjD (k:Nat) (l:List UInt8) (i:Nat) (h:i≤xaV k l) (hk:i<k) (hl:i<l.length) (hc:128≤(l.getD i 0).toNat):i+1≤xaV k l:=by
 induction k generalizing l i with
 | zero=>omega
 | succ k ih =>
  cases l with
  | nil=>simp at hl
  | cons c t =>
   rw[xaV] at h ⊢
   cases i with
   | zero =>
    have:128≤c.toNat:=by simpa using hc
    rw[if_pos this];omega
   | succ i =>
    split at h
    ·rename_i hh
     rw[if_pos hh]
     have:=ih t i (by omega) (by omega) (by simpa using hl) (by simpa using hc)
     omega
    ·omega
theorem xws (l:List UInt8) (i:Nat) (h:i≤xaV 10 l) (hs:i=10∨i=l.length∨(l.getD i 0).toNat<128):xaV 10 l=i:=by
 have h1:=xil 10 l
 by_cases he:i=xaV 10 l
 ·exact he.symm
 ·have:=xrI 10 l i (by omega)
  omega
theorem xlZ (c:UInt8):c.toNat<256:=c.toNat_lt
theorem xgn (l:List UInt8):0≤xdg l∧xdg l<p7 l.length:=by
 induction l with
 | nil=>simp[xdg,p7]
 | cons c t ih =>
  simp only[xdg,p7,List.length_cons]
  omega
theorem xrF (l:List UInt8) (c:UInt8):xdg (l++[c])=xdg l+(c.toNat:Int) % 128*p7 l.length:=by
 induction l with
 | nil=>simp[xdg,p7]
 | cons d t ih =>
  rw[List.cons_append]
  simp only[xdg,ih,p7,List.length_cons]
  rw[Int.mul_add,← Int.mul_assoc,Int.mul_comm 128 ((c.toNat:Int) % 128),Int.mul_assoc,Int.add_assoc]
theorem xg2 (l:List UInt8) (i:Nat) (h:i<l.length):xdg (l.take (i+1))=xdg (l.take i)+((l.getD i 0).toNat:Int) % 128*p7 i:=by
 rw[List.take_succ_eq_append_getElem h,xrF]
 simp[h,Nat.min_eq_left (Nat.le_of_lt h)]
theorem xd8 (l:List UInt8) (h:xbK l=0):0≤xbc l∧xbc l≤18446744073709551615:=by
 have h1:=xil 10 l
 unfold xbK at h
 split at h
 ·cases h
 rename_i a
 split at h
 ·cases h
 rename_i b
 split at h
 ·cases h
 rename_i c
 unfold xbc
 refine⟨(xgn _).1,?_⟩
 by_cases h9:xaV 10 l=9
 ·rw[xg2 l _ (by omega)]
  have h2:=(xgn (l.take (xaV 10 l))).2
  rw[h9] at h2 c ⊢
  have h3:(l.take 9).length=9:=by simp;omega
  rw[h3] at h2
  have h4:=xfN.2
  rw[h4] at h2 ⊢
  have:(l.getD 9 0).toNat≤1:=by omega
  omega
 ·have h2:=(xgn (l.take (xaV 10 l+1))).2
  have h3:=xh8 (l.take (xaV 10 l+1)).length 9 (by simp;omega)
  have h4:=xfN.2
  omega
def ub (n:Int):UInt8:=UInt8.ofNat n.toNat
theorem xcV (n:Int) (h0:0≤n) (h1:n<256):((ub n).toNat:Int)=n:=by
 unfold ub;simp;omega
theorem xq3 (c:UInt8):ub (c.toNat:Int)=c:=by unfold ub;simp
theorem xu6 (k:Nat) (x:Int) (h0:0≤x) (h:x<p7 (k+1)) (r:List UInt8) (m:Nat) (hm:k<m):xaV m ((xbz k x).map ub++r)+1=(xbz k x).length:=by
 induction k generalizing x m with
 | zero =>
  simp only[p7] at h
  obtain⟨m,rfl⟩:∃ j,m=j+1:=⟨m - 1,by omega⟩
  have:=xcV x h0 (by omega)
  simp only[xbz,List.map_cons,List.map_nil,List.cons_append,xaV,List.length_cons,List.length_nil]
  rw[if_neg (by omega)]
 | succ k ih =>
  obtain⟨m,rfl⟩:∃ j,m=j+1:=⟨m - 1,by omega⟩
  rw[xbz]
  split
  ·have:=xcV x h0 (by omega)
   simp only[List.map_cons,List.map_nil,List.cons_append,xaV,List.length_cons,List.length_nil]
   rw[if_neg (by omega)]
  ·have:=xcV (x % 128+128) (by omega) (by omega)
   simp only[List.map_cons,List.cons_append,xaV,List.length_cons]
   rw[if_pos (by omega),ih (x / 128) (by omega) (xcJ x (k+1) h) m (by omega)]
theorem xvp (k:Nat) (x:Int) (h0:0≤x) (h:x<p7 (k+1)):xdg ((xbz k x).map ub)=x:=by
 induction k generalizing x with
 | zero =>
  simp only[p7] at h
  have:=xcV x h0 (by omega)
  simp only[xbz,List.map_cons,List.map_nil,xdg];omega
 | succ k ih =>
  rw[xbz]
  split
  ·have:=xcV x h0 (by omega)
   simp only[List.map_cons,List.map_nil,xdg];omega
  ·have:=xcV (x % 128+128) (by omega) (by omega)
   simp only[List.map_cons,xdg,ih (x / 128) (by omega) (xcJ x (k+1) h)]
   omega
theorem xti (k:Nat) (x:Int) (h0:0≤x) (h:x<p7 (k+1)):((xbz k x).getD ((xbz k x).length - 1) 0=x∧(xbz k x).length=1)∨(1≤(xbz k x).getD ((xbz k x).length - 1) 0∧(xbz k x).getD ((xbz k x).length - 1) 0*p7 ((xbz k x).length - 1)≤x):=by
 induction k generalizing x with
 | zero=>exact .inl ⟨by simp[xbz],by simp[xbz]⟩
 | succ k ih =>
  rw[xbz]
  split
  ·exact .inl ⟨by simp,by simp⟩
  ·have hl:=xiU k (x / 128)
   have e:((x % 128+128) :: xbz k (x / 128)).getD (((x % 128+128) :: xbz k (x / 128)).length - 1) 0=(xbz k (x / 128)).getD ((xbz k (x / 128)).length - 1) 0:=by
    rw[List.length_cons,show (xbz k (x / 128)).length+1 - 1=((xbz k (x / 128)).length - 1)+1 from by omega,List.getD_cons_succ]
   rw[e,List.length_cons]
   refine .inr ?_
   rcases ih (x / 128) (by omega) (xcJ x (k+1) h) with ⟨a,b⟩|⟨a,b⟩
   ·rw[a,b];simp only[Nat.add_sub_cancel,p7];omega
   ·refine⟨a,?_⟩
    rw[show (xbz k (x / 128)).length+1 - 1=((xbz k (x / 128)).length - 1)+1 from by omega,p7]
    generalize (xbz k (x / 128)).getD ((xbz k (x / 128)).length - 1) 0=z at *
    generalize p7 ((xbz k (x / 128)).length - 1)=q at *
    rw[← Int.mul_assoc,Int.mul_comm z 128,Int.mul_assoc]
    omega
theorem xm5 (x:Int) (h0:0≤x) (h1:x≤18446744073709551615) (r:List UInt8):xbK ((enc x).map ub++r)=0∧xl7 ((enc x).map ub++r)=(enc x).length∧xbc ((enc x).map ub++r)=x:=by
 have hp:x<p7 (9+1):=by have:=xfN.1;simp only[Nat.reduceAdd];omega
 have hl:=xu6 9 x h0 hp r 10 (by omega)
 have hb:=xsh 9 x h0 hp
 have hz:=xti 9 x h0 hp
 have hv:=xvp 9 x h0 hp
 change xaV 10 ((enc x).map ub++r)+1=(enc x).length at hl
 change ∀ c ∈ enc x,_ at hb
 change ((enc x).getD ((enc x).length - 1) 0=x∧(enc x).length=1)∨(1≤(enc x).getD ((enc x).length - 1) 0∧(enc x).getD ((enc x).length - 1) 0*p7 ((enc x).length - 1)≤x) at hz
 change xdg ((enc x).map ub)=x at hv
 have hn:=xei x
 have hk:xaV 10 ((enc x).map ub++r)=(enc x).length - 1:=by omega
 have hg:(((enc x).map ub++r).getD ((enc x).length - 1) 0).toNat=(enc x).getD ((enc x).length - 1) 0:=by
  have hi:(enc x).length - 1<(enc x).length:=by omega
  have:=hb ((enc x)[(enc x).length - 1]) (List.getElem_mem hi)
  have h2:=xcV _ this.1 this.2
  rw[List.getD_eq_getElem?_getD,List.getElem?_append_left (by simpa using hi)]
  simpa[hi] using h2
 refine⟨?_,?_,?_⟩
 ·unfold xbK
  rw[hk]
  rw[if_neg (by omega),if_neg (by simp;omega)]
  rw[if_neg,if_neg]
  ·rintro⟨a,b⟩
   omega
  ·rintro⟨a,b⟩
   rw[a] at hz
   have:=xfN.2
   rw[this] at hz
   rw[a] at hg b
   omega
 ·unfold xl7;rw[hl]
 ·unfold xbc
  rw[hl,List.take_append_of_le_length (by simp),List.take_of_length_le (by simp),hv]
theorem xtq (k:Nat) (l:List UInt8) (hk:l.length≤k+1) (h:∀ i,i+1<l.length→128≤(l.getD i 0).toNat) (h1:0<l.length) (h2:(l.getD (l.length - 1) 0).toNat<128) (h3:1<l.length→(l.getD (l.length - 1) 0).toNat≠0):xbz k (xdg l)=l.map (fun c=>(c.toNat:Int))∧(1<l.length→1≤xdg l)∧(l.length=1→xdg l=(l.getD 0 0).toNat):=by
 induction l generalizing k with
 | nil=>simp at h1
 | cons c t ih =>
  cases t with
  | nil =>
   have hc:c.toNat<128:=by simpa using h2
   have e:xdg [c]=c.toNat:=by simp only[xdg];omega
   refine⟨?_,by simp,fun _=>by rw[e];simp⟩
   rw[e]
   cases k with
   | zero=>simp[xbz]
   | succ k=>rw[xbz,if_pos (by omega)];simp
  | cons d t =>
   have hc:128≤c.toNat:=by simpa using h 0 (by simp)
   have hc':=xlZ c
   cases k with
   | zero=>simp at hk
   | succ k =>
    have hh:=ih k (by simpa using hk) (fun i hi=>by simpa using h (i+1) (by simpa using hi)) (by simp) (by simpa using h2) (fun _=>by simpa using h3 (by simp))
    have hl:(d.toNat≠0∨1<(d :: t).length):=by
     cases t with
     | nil=>left;simpa using h3 (by simp)
     | cons _ _=>right;simp
    have h1':1≤xdg (d :: t):=by
     by_cases hq:1<(d :: t).length
     ·exact hh.2.1 hq
     ·have:=hh.2.2 (by simp at hq ⊢;exact hq)
      rw[this]
      simp only[List.getD_cons_zero]
      omega
    have e:xdg (c :: d :: t)=(c.toNat:Int) % 128+128*xdg (d :: t):=rfl
    refine⟨?_,fun _=>by omega,by simp⟩
    rw[e,xbz,if_neg (by omega),List.map_cons,show ((c.toNat:Int) % 128+128*xdg (d :: t)) / 128=xdg (d :: t) from by omega,hh.1]
    congr 1
    omega
theorem xds (l:List UInt8) (h:xbK l=0):xaV 10 l≤9∧xaV 10 l<l.length∧(xaV 10 l=9→(l.getD (xaV 10 l) 0).toNat≤1)∧(0<xaV 10 l→(l.getD (xaV 10 l) 0).toNat≠0)∧(l.getD (xaV 10 l) 0).toNat<128:=by
 have h1:=xil 10 l
 unfold xbK at h
 split at h
 ·cases h
 rename_i a
 split at h
 ·cases h
 rename_i b
 split at h
 ·cases h
 rename_i c
 split at h
 ·cases h
 rename_i d
 refine⟨by omega,by omega,fun h=>by omega,fun h=>by omega,?_⟩
 by_cases hx:(l.getD (xaV 10 l) 0).toNat<128
 ·exact hx
 ·have:=xjD 10 l (xaV 10 l) (Nat.le_refl _) (by omega) (by omega) (by omega)
  omega
theorem xi2 (l:List UInt8) (h:xbK l=0):enc (xbc l)=(l.take (xaV 10 l+1)).map (fun c=>(c.toNat:Int)):=by
 obtain⟨h1,h2,h3,h4,h5⟩:=xds l h
 have hl:(l.take (xaV 10 l+1)).length=xaV 10 l+1:=by simp;omega
 have hg:∀ i,i<xaV 10 l+1→(l.take (xaV 10 l+1)).getD i 0=l.getD i 0:=by
  intro i hi
  simp[hi]
 refine(xtq 9 (l.take (xaV 10 l+1)) (by omega) ?_ (by omega) ?_ ?_).1
 ·intro i hi
  rw[hg i (by omega)]
  exact xrI 10 l i (by omega)
 ·rw[hl,Nat.add_sub_cancel,hg _ (by omega)];exact h5
 ·intro hx
  rw[hl,Nat.add_sub_cancel,hg _ (by omega)];exact h4 (by omega)
theorem xzs (x:Int) (x0:0≤x) (x1:x≤18446744073709551615):bits BinOp.or IntKind.u64 x 1=2*(x / 2)+1:=by
 rw[u64_or _ _ (by omega) (by omega) (by omega) (by omega)]
 have h:x.toNat ||| (1:Int).toNat=2*(x.toNat / 2)+1:=by
  rcases Nat.mod_two_eq_zero_or_one x.toNat with h|h
  ·rw[show (1:Int).toNat=1 from rfl,nat_join 1 _ _ (by omega) (by omega)];omega
  ·have e:x.toNat=(2*(x.toNat / 2)) ||| 1:=by rw[nat_join 1 _ _ (by omega) (by omega)];omega
   rw[show (1:Int).toNat=1 from rfl]
   conv=>lhs;rw[e,Nat.or_assoc,Nat.or_self]
   rw[nat_join 1 _ _ (by omega) (by omega)]
 rw[h];omega
theorem two7 (m:Nat):((2 ^ (7*m):Nat):Int)=p7 m:=by
 induction m with
 | zero=>rfl
 | succ m ih =>
  rw[show 7*(m+1)=7*m+7 from by omega,Nat.pow_add,p7,← ih]
  simp only[Nat.reducePow];omega
theorem xs2 (x:Int) (n:Nat) (x0:0≤x) (x1:x≤18446744073709551615) (h:Len n (2*(x / 2)+1)):(n+6) / 7=(enc x).length:=by
 obtain⟨h64,h⟩:=h
 have hu:=xAJ x x1
 have hd:=xAO x
 have hl:=xei x
 generalize (enc x).length=m at *
 rcases h with ⟨rfl,h⟩|⟨hn,ha,hb⟩
 ·omega
 have h1:n≤7*m:=by
  rcases Nat.lt_or_ge (7*m) n with hc|hc
  ·have:=Nat.pow_le_pow_right (by omega:0<2) (by omega:7*m≤n - 1)
   have e:=two7 m
   have ev:p7 m % 2=0:=by
    obtain⟨k,rfl⟩:∃ k,m=k+1:=⟨m - 1,by omega⟩
    rw[p7];omega
   omega
  ·exact hc
 have h2:7*(m - 1)<n:=by
  rcases Nat.lt_or_ge (7*(m - 1)) n with hc|hc
  ·exact hc
  ·have:=Nat.pow_le_pow_right (by omega:0<2) hc
   have e:=two7 (m - 1)
   by_cases hm:2≤m
   ·have:=hd hm
    omega
   ·omega
 omega
theorem xiG (x:Int) (w:World) (x0:0≤x) (x1:x≤18446744073709551615):Calls Tryz.prog 210 #[.int .u64 x] w fun e w'=>e=.returned (.int .i64 (enc x).length)∧w=w':=by
 have ho:=xzs x x0 x1
 go_enter Tryz.func210,Tryz.ntmps210
 go_wp2_with fail
 refine(xjJ _ _ (by omega) (by omega)).mono ?_
 rintro e w' ⟨⟨n,rfl,hn⟩,rfl⟩
 have hs:=xs2 x n x0 x1 hn
 have h64:=hn.1
 clear hn ho
 go_wp2
 go_ret
 refine⟨xaH ?_,rfl⟩
 omega
theorem xm1:(Tryz.prog.info? 5).map (fun i=>(i.zero,i.size,i.bytes))=some (some (.int .u8 0),1,1):=by kernel_rfl
theorem xkj (x:Addr) (j:Nat):(x.add j).block=x.block:=by unfold Addr.add;split <;> rfl
def xaT (w:World) (v:Value) (l:List Int):Prop :=
 ∃ a cap,v=.slice a l.length cap∧l.length≤cap∧cap≤maxLen∧(0<l.length→∃ x:Addr,a=some x∧x.block<w.heap.size∧∀ i,i<l.length→w.cell? (x.add i)=some (.int .u8 (l.getD i 0)))
def Own (w:World) (B:Nat) (v:Value) (l:List Int):Prop:=w.ownsRow B 5 1 v l.length (l.map (Value.int .u8))
theorem Own.snoc {w':World} {B:Nat} {v':Value} {l:List Int} {c:Int} (hs:w'.ownsRow B 5 1 v' (l.length+1) (l.map (Value.int .u8)++[.int .u8 c])):Own w' B v' (l++[c]):=by
 unfold Own
 rw[List.length_append,List.map_append]
 exact hs
theorem xcX {w2:World} {g m:Nat} {l:List Int} (h:w2.heap[g]?=some (.cells (splice (List.replicate (l.length+m) (Value.int .u8 0)) 0 (l.map (Value.int .u8))).toArray 5 (0,0))) (hl:l.length+m≤maxLen):Own w2 g (.slice (some ⟨g,0,none⟩) l.length (l.length+m)) l:=by
 refine⟨by simp,.inr ⟨g,l.length+m,_,rfl,Nat.le_refl _,h,by omega,hl,?_,?_⟩⟩
 ·rw[List.size_toArray,length_splice _ _ _ (by simp)];simp
 ·simp[splice]
def xmy (w:World) (l:List Int) (e:Ending) (w':World):Prop:=∃ v,e=.returned v∧Own w' w.heap.size v l∧Below w.heap.size w w'
theorem xwx (y:Int) (y0:0≤y):bits BinOp.or IntKind.u8 (y % 256) 128=y % 128+128:=by
 rw[u8_or _ _ (by omega) (by omega) (by omega) (by omega)]
 have h:(y % 256).toNat ||| (128:Int).toNat=128+(y % 128).toNat:=by
  have e:(y % 256).toNat=(if y % 256<128 then 0 else 128) ||| (y % 128).toNat:=by
   split
   ·rw[Nat.zero_or];omega
   ·rw[nat_join 7 _ _ (by omega) (by omega)];omega
  rw[e,show (128:Int).toNat=128 from rfl]
  split
  ·rw[Nat.zero_or,Nat.or_comm,nat_join 7 _ _ (by omega) (by omega)]
  ·rw[Nat.or_comm,← Nat.or_assoc,Nat.or_self,nat_join 7 _ _ (by omega) (by omega)]
 rw[h];omega
def xAu (B:Nat) (w:World) (l:List Int) (e:Ending) (w':World):Prop:=∃ v,e=.returned v∧Own w' B v l∧Below B w w'
theorem xrs (B:Nat) (v:Value) (l:List Int) (x:Int) (w:World) (ho:Own w B v l) (hB:B≤w.heap.size) (hl:l.length≤1000000) (x0:0≤x) (x1:x≤18446744073709551615) :
  Calls Tryz.prog 212 #[v,.int .u64 x] w (xAu B w (l++enc x)):=by
 obtain⟨i0,hi,hz0,hz1,hz2⟩:=xau xm1
 go_enter Tryz.func212,Tryz.ntmps212
 go_wp2
 go_loopw [0,1] (fun v x' wr=>∃ (pre:List Int) (y:Int),x'=.int .u64 y∧0≤y∧y≤18446744073709551615∧Hid (enc x=pre++enc y)∧Own wr B v (l++pre)∧Below B w wr) (fun _ x' _=>(intOf x').toNat)
 case atStart=>exact⟨[],x,rfl,x0,x1,rfl,by simpa using ho,Below.refl _ _⟩
 case round =>
  obtain⟨pre,y,rfl,y0,y1,HY,hown,hbw⟩:=hrel
  have hlen:(l++pre).length≤l.length+10:=by
   have:=congrArg List.length HY.out
   have:=xei x
   simp only[List.length_append] at *
   omega
  have hsz:=hbw.size
  have hlm:(l++pre).length≤1000010:=by omega
  clear hlen
  generalize hL:(l++pre)=L at *
  have HL:=lH hL;clear hL
  by_cases hlt:128≤y
  ·have hor:=xwx y y0
   have HE:Hid (enc x=(pre++[y % 128+128])++enc (y / 128)):=by
    have:=HY.out
    rw[xzu y hlt y1] at this
    exact lH (by simpa using this)
   go_wp2_with (first|(at_builtin;refine wpList_append_own _ rfl _ _ 23 rfl B 5 i0 (.int .u8 0) 1 1 Tryz.underlying23 hi hz0 hz1 hz2 rfl (by decide) _ _ _ rfl (World.ownsRow.alloc hown _) ⟨wr.heap.size,0,none⟩ 1 1 [.int .u8 (y % 128+128)] rfl rfl ?c1 ?c2 ?c3 ?c4 ?c5 ?_)|fail)
   case c1 =>
    intro j u hj
    match j,hj with
    | 0,hj=>simp at hj;subst hj;simp[Addr.add]
   case c2=>intro u hu;simp at hu;subst hu;rfl
   case c3=>unfold maxLen;omega
   case c4=>omega
   case c5=>rw[World.size_alloc];omega
   intro v' w1 hown' hgrow _
   have hbel:Below B w w1:=(hbw.alloc (by omega) _).grown hgrow (by rw[World.size_alloc];omega) (fun g hg=>(World.ownsRow.lt hown g hg).1)
   have hO':Own w1 B v' (l++(pre++[y % 128+128])):=by
    rw[← List.append_assoc,HL.out]
    exact Own.snoc (by simpa using hown')
   clear hown' hgrow hown hbw HY hor
   go_wp2
   go_roundw
   case rel=>exact⟨_,y / 128,rfl,by omega,by omega,HE,hO',hbel⟩
   case measure=>simp[intOf];omega
  ·have hmod:y % 256=y:=by omega
   have HE:Hid (enc x=pre++[y]):=by
    have:=HY.out
    rw[xzA y (by omega)] at this
    exact lH this
   go_wp2_with (first|(at_builtin;refine wpList_append_own _ rfl _ _ 23 rfl B 5 i0 (.int .u8 0) 1 1 Tryz.underlying23 hi hz0 hz1 hz2 rfl (by decide) _ _ _ rfl (World.ownsRow.alloc hown _) ⟨wr.heap.size,0,none⟩ 1 1 [.int .u8 y] rfl rfl ?c1 ?c2 ?c3 ?c4 ?c5 ?_)|fail)
   case c2=>rfl
   case c3=>unfold maxLen;omega
   case c4=>omega
   case c5=>omega
   intro v' w1 hown' hgrow _
   have hbel:Below B w w1:=(hbw.alloc (by omega) _).grown hgrow (by rw[World.size_alloc];omega) (fun g hg=>(World.ownsRow.lt hown g hg).1)
   have hO':Own w1 B v' (l++enc x):=by
    rw[HE.out,← List.append_assoc,HL.out]
    exact Own.snoc (by simpa using hown')
   clear hown' hgrow hown hbw HY
   go_wp2
   go_ret
   exact⟨_,rfl,hO',hbel⟩
theorem xob (L m:Nat) (W:World) (h:L+m≤1000100):(Instr.makeSlice 23 (.int .i64 (L:Int)) (.int .i64 ((L:Int)+(m:Int)))).run Tryz.prog W=.ok (.slice (some ⟨W.heap.size,0,none⟩) L (L+m)) (W.alloc (.cells (madeCells #[.int .u8 0] (L+m)) 5)):=by
 obtain⟨i0,hi,hz0,hz1,hz2⟩:=xau xm1
 have:=run_make (P:=Tryz.prog) W 23 5 i0 (.int .u8 0) Tryz.underlying23 hi hz0 .i64 .i64 (L:Int) ((L:Int)+(m:Int)) (by omega) (by omega) (by rw[hz2];omega) (by omega)
 rw[this,hz1]
 simp only[Int.toNat_natCast]
 rw[show ((L:Int)+(m:Int)).toNat=L+m from by omega,Nat.mul_one]
 rfl
def str (l:List Int):ByteArray:=l.foldl (fun r n=>r.push (UInt8.ofNat n.toNat)) ByteArray.empty
theorem xvk (l:List Int) (r:ByteArray):(l.foldl (fun r n=>r.push (UInt8.ofNat n.toNat)) r).data.toList=r.data.toList++l.map (fun n=>UInt8.ofNat n.toNat):=by
 induction l generalizing r with
 | nil=>simp
 | cons n l ih=>rw[List.foldl_cons,ih];simp[ByteArray.push]
theorem xbF (l:List Int):(str l).data.toList=l.map (fun n=>UInt8.ofNat n.toNat):=by
 unfold str;rw[xvk];simp
theorem xbu (l:List Int):(str l).size=l.length:=by
 have:=congrArg List.length (xbF l)
 simpa using this
theorem xgw (w:World) (v:Value) (l:List Int) (h:xaT w v l):(convert 23 9 v).run Tryz.prog w=.ok (.string (str l)) w:=by
 obtain⟨a,cap,rfl,h1,h2,hc⟩:=h
 rw[run_convert_bytes_string w 23 9 5 a l.length cap Tryz.underlying23 Tryz.underlying5 Tryz.underlying9]
 by_cases h0:0<l.length
 ·obtain⟨x,rfl,hb,hx⟩:=hc h0
  refine run_bytesToString w x l.length cap l ?_
  have:=run_loadCells_list (P:=Tryz.prog) (w:=w) x (l.map (Value.int .u8)) (by
   intro j v hj
   have hjl:j<l.length:=by have:=(List.getElem?_eq_some_iff.1 hj).1;simpa using this
   rw[hx j hjl]
   simpa[hjl] using hj)
  simpa using this
 ·obtain rfl:l=[]:=List.eq_nil_of_length_eq_zero (by omega)
  cases a with
  | none=>rfl
  | some x =>
   have:=run_loadCells_list (P:=Tryz.prog) (w:=w) x [] (by intro j v hj;simp at hj)
   exact run_bytesToString w x 0 cap [] (by simpa using this)
theorem Own.bytesAt {w:World} {B:Nat} {v:Value} {l:List Int} (h:Own w B v l):xaT w v l:=by
 have hlt:=World.ownsRow.lt h
 have h':=h
 obtain⟨hx,hv⟩:=h'
 rcases hv with ⟨rfl,hn⟩|⟨g,cap,cur,rfl,hB,hh,hle,hm,hcs,htk⟩
 ·obtain rfl:l=[]:=List.eq_nil_of_length_eq_zero hn
  exact⟨none,0,rfl,Nat.le_refl _,by simp,fun h=>by simp at h⟩
 ·refine⟨_,cap,rfl,hle,hm,fun _=>⟨_,rfl,(hlt g rfl).2,fun i hi=>?_⟩⟩
  have:=World.ownsRow.cellAt h i (by omega)
  have e:(⟨g,0,none⟩:Addr).add i=⟨g,i,none⟩:=by simp[Addr.add];omega
  rw[e]
  simpa[hi] using this
theorem xaT.below {w w':World} {v:Value} {l:List Int} (h:xaT w v l) (hb:Below w.heap.size w w'):xaT w' v l:=by
 obtain⟨a,cap,rfl,h1,h2,hc⟩:=h
 refine⟨a,cap,rfl,h1,h2,fun h0=>?_⟩
 obtain⟨x,rfl,hx,hcell⟩:=hc h0
 refine⟨x,rfl,Nat.lt_of_lt_of_le hx hb.size,fun i hi=>?_⟩
 rw[← hcell i hi]
 exact hb.cell (p:=x.add i) (by rw[xkj];exact hx)
theorem xxc {w:World} {a:Addr} {v:Value} (h:w.cell? a=some v):a.block<w.heap.size:=by
 rcases Nat.lt_or_ge a.block w.heap.size with h'|h'
 ·exact h'
 ·simp[World.cell?,Array.getElem?_eq_none h'] at h
theorem xak {w w':World} {a:Addr} {v:Value} (hb:Below w.heap.size w w') (h:w.cell? a=some v):w'.cell? a=some v:=(hb.cell (p:=a) (xxc h)).trans h
theorem Own.below {w w':World} {B:Nat} {v:Value} {l:List Int} (h:Own w B v l) (hb:Below w.heap.size w w'):Own w' B v l:=by
 have hlt:=World.ownsRow.lt h
 obtain⟨h1,h2⟩:=h
 refine⟨h1,?_⟩
 rcases h2 with h2|⟨g,cap,cur,hv,hg,hh,r⟩
 ·exact .inl h2
 ·refine .inr ⟨g,cap,cur,hv,hg,?_,r⟩
  rw[hb.block g (hlt g (by rw[hv];rfl)).2];exact hh
def xgu (w:World) (v:Value) (l:List Int):Prop :=
 ∃ a cap,v=.slice a l.length cap∧∀ k,k<l.length→∃ b off,a=some ⟨b,off,none⟩∧b<w.heap.size∧w.cell? ⟨b,off+k,none⟩=some (.int .u64 (l.getD k 0))
theorem xgu.below {w w':World} {v:Value} {l:List Int} (h:xgu w v l) (hb:Below w.heap.size w w'):xgu w' v l:=by
 obtain⟨a,cap,rfl,hc⟩:=h
 refine⟨a,cap,rfl,fun k hk=>?_⟩
 obtain⟨b,off,ha,hx,hcell⟩:=hc k hk
 exact⟨b,off,ha,Nat.lt_of_lt_of_le hx hb.size,xak hb hcell⟩
def xBv (l:List Int):Prop:=∀ k,k<l.length→0≤l.getD k 0∧l.getD k 0≤18446744073709551615
def encs:List Int→List Int
 | []=>[]
 | x :: t=>enc x++encs t
theorem xgV (l:List Int) (x:Int):encs (l++[x])=encs l++enc x:=by
 induction l with
 | nil=>simp[encs]
 | cons y t ih=>simp[encs,ih]
theorem xm2 (l:List Int):(encs l).length≤10*l.length:=by
 induction l with
 | nil=>simp[encs]
 | cons y t ih =>
  have:=xei y
  simp only[encs,List.length_append,List.length_cons];omega
theorem xgD (l:List Int) (k:Nat) (h:k<l.length):l.take (k+1)=l.take k++[l.getD k 0]:=by
 rw[List.take_succ_eq_append_getElem h];simp[h]
theorem xjg (l:List Int) (k:Nat) (h:k<l.length):encs (l.take (k+1))=encs (l.take k)++enc (l.getD k 0):=by
 rw[xgD l k h,xgV]
theorem xoF (a b:List Int):str a++str b=str (a++b):=by
 apply ByteArray.ext
 apply Array.ext'
 rw[ByteArray.data_append,Array.toList_append,xbF,xbF,xbF,List.map_append]
theorem xlK (m:Nat) (W:World) (h:m≤1000100):(Instr.makeSlice 23 (.int .i64 0) (.int .i64 (m:Int))).run Tryz.prog W=.ok (.slice (some ⟨W.heap.size,0,none⟩) 0 m) (W.alloc (.cells (madeCells #[.int .u8 0] m) 5)):=by
 have:=xob 0 m W (by omega)
 simpa using this
theorem xuP (w:World) (m:Nat) (h:m≤1000100):Own (w.alloc (.cells (madeCells #[.int .u8 0] m) 5)) w.heap.size (.slice (some ⟨w.heap.size,0,none⟩) 0 m) []:=by
 have:=xcX (w2:=w.alloc (.cells (madeCells #[.int .u8 0] m) 5)) (g:=w.heap.size) (m:=m) (l:=[]) (by
  rw[heap_alloc_new]
  have:=toList_madeCells_one (.int .u8 0) m
  simp[splice,← this]) (by simp;unfold maxLen;omega)
 simpa using this
end Go.Proofs.YtjinnigjfopbcaaGreatDoor
namespace Go.Proofs.YtjinnigjfopbcaaGreatDoor
set_option linter.unusedVariables false
set_option linter.unusedSimpArgs false
def gE (l:List En) (k:Nat):En:=l.getD k xdo
def nxE (l:List En) (k:Nat):Int:=((gE l k).off+(gE l k).ln) % 18446744073709551616
def xdS (l:List En) (c k:Nat):Int :=
 if c=0 then (if k=0 then (gE l 0).id else ((gE l k).id - (gE l (k - 1)).id) % 18446744073709551616)
 else if c=1 then (gE l k).rn else if c=2 then (gE l k).ln
 else if 0<k∧(gE l k).off=nxE l (k - 1) then 0 else ((gE l k).off+1) % 18446744073709551616
def xcW (l:List En) (c k:Nat) (x:Int):Int :=
 if c=0∧0<k∧18446744073709551616≤(gE l (k - 1)).id+x then 11
 else if (c=1∨c=2)∧4294967295<x then 11
 else if c=3∧k=0∧x=0 then 4
 else if c=3∧0<k∧0<x∧x - 1=nxE l (k - 1) then 4 else 0
def xlD (l:List En) (c k:Nat) (x:Int):En :=
 if c=0 then { gE l k with id:=if 0<k then ((gE l (k - 1)).id+x) % 18446744073709551616 else x }
 else if c=1 then { gE l k with rn:=x % 4294967296 }
 else if c=2 then { gE l k with ln:=x % 4294967296 }
 else { gE l k with off:=if x=0 then nxE l (k - 1) else x - 1 }
def xfS (l:List En) (c k:Nat) (x:Int):List En:=l.set k (xlD l c k x)
theorem xc1 (l:List En) (c k:Nat) (x:Int):(xfS l c k x).length=l.length:=by simp[xfS]
theorem xjI (l:List En) (c k:Nat) (x:Int) (j:Nat) (hk:k<l.length):gE (xfS l c k x) j=if j=k then xlD l c k x else gE l j:=by
 unfold gE xfS
 rw[List.getD_eq_getElem?_getD,List.getD_eq_getElem?_getD,List.getElem?_set]
 by_cases h:j=k
 ·subst h;simp[hk]
 ·rw[if_neg (fun e=>h e.symm),if_neg h]
theorem xyX (l:List En) (k:Nat):xdS l 0 k=if k=0 then (gE l 0).id else ((gE l k).id - (gE l (k - 1)).id) % 18446744073709551616:=by simp[xdS]
theorem xxF (l:List En) (k:Nat):xdS l 1 k=(gE l k).rn:=by simp[xdS]
theorem xwM (l:List En) (k:Nat):xdS l 2 k=(gE l k).ln:=by simp[xdS]
theorem xxw (l:List En) (k:Nat):xdS l 3 k=if 0<k∧(gE l k).off=nxE l (k - 1) then 0 else ((gE l k).off+1) % 18446744073709551616:=by simp[xdS]
theorem xz9 (l:List En) (k:Nat) (x:Int):xlD l 0 k x={ gE l k with id:=if 0<k then ((gE l (k - 1)).id+x) % 18446744073709551616 else x }:=by simp[xlD]
theorem xAR (l:List En) (k:Nat) (x:Int):xlD l 1 k x={ gE l k with rn:=x % 4294967296 }:=by simp[xlD]
theorem xAU (l:List En) (k:Nat) (x:Int):xlD l 2 k x={ gE l k with ln:=x % 4294967296 }:=by simp[xlD]
theorem xzR (l:List En) (k:Nat) (x:Int):xlD l 3 k x={ gE l k with off:=if x=0 then nxE l (k - 1) else x - 1 }:=by simp[xlD]
def Agr (n:Nat) (l m:List En) (i:Nat):Prop:=∀ j,j<n→(j<i→(gE l j).id=(gE m j).id)∧(n+j<i→(gE l j).rn=(gE m j).rn)∧(2*n+j<i→(gE l j).ln=(gE m j).ln)∧(3*n+j<i→(gE l j).off=(gE m j).off)
theorem Agr.symm {n:Nat} {l m:List En} {i:Nat} (h:Agr n l m i):Agr n m l i:=fun j hj=>⟨fun a=>((h j hj).1 a).symm,fun a=>((h j hj).2.1 a).symm,fun a=>((h j hj).2.2.1 a).symm,fun a=>((h j hj).2.2.2 a).symm⟩
theorem Agr.all {n:Nat} {l m:List En} (h:Agr n l m (4*n)) (hl:l.length=n) (hm:m.length=n):l=m:=by
 apply List.ext_getElem (by omega)
 intro j h1 h2
 have a:=h j (by omega)
 have e1:gE l j=l[j]:=by unfold gE;rw[List.getD_eq_getElem?_getD,List.getElem?_eq_getElem h1];rfl
 have e2:gE m j=m[j]:=by unfold gE;rw[List.getD_eq_getElem?_getD,List.getElem?_eq_getElem h2];rfl
 rw[← e1,← e2,En.eq_iff]
 exact⟨a.1 (by omega),a.2.2.2 (by omega),a.2.2.1 (by omega),a.2.1 (by omega)⟩
theorem xgT {n i:Nat} (h:i<4*n):(i / n=0∧i % n=i∧i<n)∨(i / n=1∧i=n+i % n∧i % n<n)∨(i / n=2∧i=2*n+i % n∧i % n<n)∨(i / n=3∧i=3*n+i % n∧i % n<n):=by
 have hn:0<n:=by omega
 have h1:i / n<4:=(Nat.div_lt_iff_lt_mul hn).2 h
 have h2:=Nat.mod_lt i hn
 have h3:=Nat.div_add_mod i n
 generalize i / n=c at h1 h3 ⊢
 generalize i % n=k at h2 h3 ⊢
 rcases(show c=0∨c=1∨c=2∨c=3 by omega) with rfl|rfl|rfl|rfl
 ·exact .inl ⟨rfl,by omega,by omega⟩
 ·exact .inr (.inl ⟨rfl,by omega,h2⟩)
 ·exact .inr (.inr (.inl ⟨rfl,by omega,h2⟩))
 ·exact .inr (.inr (.inr ⟨rfl,by omega,h2⟩))
theorem xyG {n:Nat} {l m:List En} {i j:Nat} (h:Agr n l m i) (hj:j<i) (hi:j<4*n):xdS l (j / n) (j % n)=xdS m (j / n) (j % n):=by
 rcases xgT hi with ⟨hc,hk,h1⟩|⟨hc,hk,h1⟩|⟨hc,hk,h1⟩|⟨hc,hk,h1⟩ <;> rw[hc] <;> generalize j % n=k at *
 ·rw[xyX,xyX,(h 0 (by omega)).1 (by omega),(h k (by omega)).1 (by omega),(h (k - 1) (by omega)).1 (by omega)]
 ·rw[xxF,xxF];exact(h k h1).2.1 (by omega)
 ·rw[xwM,xwM];exact(h k h1).2.2.1 (by omega)
 ·rw[xxw,xxw,(h k h1).2.2.2 (by omega)]
  by_cases h0:0<k
  ·have e:nxE l (k - 1)=nxE m (k - 1):=by
    unfold nxE
    rw[(h (k - 1) (by omega)).2.2.2 (by omega),(h (k - 1) (by omega)).2.2.1 (by omega)]
   rw[e]
  ·simp[h0]
theorem xx7 {n:Nat} {l:List En} (x:Int) {i:Nat} (hl:l.length=n) (hi:i<4*n):Agr n l (xfS l (i / n) (i % n) x) i:=by
 intro j hj
 have hk:i % n<l.length:=by rw[hl];exact Nat.mod_lt _ (by omega)
 rw[xjI _ _ _ _ _ hk]
 by_cases e:j=i % n
 ·rw[if_pos e]
  rcases xgT hi with ⟨hc,h0,h1⟩|⟨hc,h0,h1⟩|⟨hc,h0,h1⟩|⟨hc,h0,h1⟩ <;> rw[hc] <;> generalize i % n=k at*<;> subst e <;> simp only[xlD] <;> refine⟨fun a=>?_,fun a=>?_,fun a=>?_,fun a=>?_⟩ <;> first|rfl|omega|simp
 ·rw[if_neg e]
  exact⟨fun _=>rfl,fun _=>rfl,fun _=>rfl,fun _=>rfl⟩
theorem xpM {n:Nat} {l m:List En} {i:Nat} (hl:l.length=n) (hi:i<4*n) (hm:∀ j,j<n→xa2 (gE m j)∧(gE m j).off≤1099511627776) (h:Agr n l m i):Agr n (xfS l (i / n) (i % n) (xdS m (i / n) (i % n))) m (i+1):=by
 intro j hj
 have hk:i % n<l.length:=by rw[hl];exact Nat.mod_lt _ (by omega)
 rw[xjI _ _ _ _ _ hk]
 have a:=h j hj
 by_cases e:j=i % n
 ·rw[if_pos e]
  have b:=hm j hj
  unfold xa2 at b
  rcases xgT hi with ⟨hc,h0,h1⟩|⟨hc,h0,h1⟩|⟨hc,h0,h1⟩|⟨hc,h0,h1⟩ <;> rw[hc] <;> generalize i % n=k at*<;> subst e
  ·refine⟨fun _=>?_,fun q=>by omega,fun q=>by omega,fun q=>by omega⟩
   rw[xz9,xyX]
   simp only
   by_cases h2:j=0
   ·subst h2;simp
   ·rw[if_pos (by omega),if_neg h2,(h (j - 1) (by omega)).1 (by omega)]
    have:=hm (j - 1) (by omega)
    unfold xa2 at this
    omega
  ·refine⟨fun q=>a.1 (by omega),fun _=>?_,fun q=>by omega,fun q=>by omega⟩
   rw[xAR,xxF]
   simp only
   omega
  ·refine⟨fun q=>a.1 (by omega),fun q=>a.2.1 (by omega),fun _=>?_,fun q=>by omega⟩
   rw[xAU,xwM]
   simp only
   omega
  ·refine⟨fun q=>a.1 (by omega),fun q=>a.2.1 (by omega),fun q=>a.2.2.1 (by omega),fun _=>?_⟩
   rw[xzR,xxw]
   simp only
   by_cases h2:0<j∧(gE m j).off=nxE m (j - 1)
   ·rw[if_pos h2,if_pos rfl,h2.2]
    unfold nxE
    rw[(h (j - 1) (by omega)).2.2.2 (by omega),(h (j - 1) (by omega)).2.2.1 (by omega)]
   ·rw[if_neg h2,if_neg (by omega)]
    omega
 ·rw[if_neg e]
  have hne:∀ q:Nat,q≤3→q*n+j=i→j=i % n:=by
   intro q _ hq
   rw[← hq,Nat.mul_comm,Nat.mul_add_mod,Nat.mod_eq_of_lt hj]
  refine⟨fun q=>a.1 ?_,fun q=>a.2.1 ?_,fun q=>a.2.2.1 ?_,fun q=>a.2.2.2 ?_⟩
  ·have:¬ (0*n+j=i):=fun w=>e (hne 0 (by omega) w)
   omega
  ·have:¬ (1*n+j=i):=fun w=>e (hne 1 (by omega) w)
   omega
  ·have:¬ (2*n+j=i):=fun w=>e (hne 2 (by omega) w)
   omega
  ·have:¬ (3*n+j=i):=fun w=>e (hne 3 (by omega) w)
   omega
def xA2 (n:Nat) (m:List En):Prop:=(∀ j,j<n→xa2 (gE m j)∧(gE m j).off≤1099511627776)∧∀ j,j+1<n→(gE m j).id<(gE m (j+1)).id
theorem xvq (p:Int) (l:List En) (h:xcH p l=0) (hm:∀ e ∈ l,xa2 e) (j:Nat) (hj:j+1<l.length):(gE l j).id<(gE l (j+1)).id:=by
 induction l generalizing p j with
 | nil=>simp at hj
 | cons e l ih =>
  have a:=xbZ p e l h
  cases j with
  | zero =>
   cases l with
   | nil=>simp at hj
   | cons e' l' =>
    have b:=xbZ _ _ _ a.2.2
    have c:=xlr e (hm e (List.mem_cons_self ..)) a.1
    show e.id<e'.id
    omega
  | succ j=>exact ih (laN e) a.2.2 (fun x hx=>hm x (List.mem_cons_of_mem _ hx)) j (by simpa using hj)
theorem xfE (l:List En) (j:Nat) (hj:j<l.length):gE l j ∈ l:=by
 unfold gE
 rw[List.getD_eq_getElem?_getD,List.getElem?_eq_getElem hj]
 exact List.getElem_mem hj
theorem xyT (l:List En) (hm:∀ e ∈ l,xa2 e) (h:xaN l=0):xA2 l.length l:=by
 unfold xaN at h
 split at h
 ·omega
 refine⟨fun j hj=>⟨hm _ (xfE l j hj),?_⟩,fun j hj=>xvq _ l h hm j hj⟩
 exact(xiX _ (xcL _ l hm h _ (xfE l j hj)).2).2.2.2.2
theorem xrd {n:Nat} {l m:List En} {i:Nat} (hi:i<4*n) (hm:xA2 n m) (h:Agr n l m i):xcW l (i / n) (i % n) (xdS m (i / n) (i % n))=0:=by
 obtain⟨h1,h2⟩:=hm
 unfold xa2 at h1
 rcases xgT hi with ⟨hc,h0,hk⟩|⟨hc,h0,hk⟩|⟨hc,h0,hk⟩|⟨hc,h0,hk⟩ <;> rw[hc] <;> generalize i % n=k at *
 ·rw[xyX]
  unfold xcW
  rw[if_neg,if_neg (by omega),if_neg (by omega),if_neg (by omega)]
  rintro⟨-,hk0,hb⟩
  rw[if_neg (by omega),(h (k - 1) (by omega)).1 (by omega)] at hb
  have a:=h1 k (by omega)
  have b:=h1 (k - 1) (by omega)
  have c:=h2 (k - 1) (by omega)
  rw[show k - 1+1=k from by omega] at c
  omega
 ·rw[xxF]
  have a:=h1 k hk
  unfold xcW
  rw[if_neg (by omega),if_neg (by omega),if_neg (by omega),if_neg (by omega)]
 ·rw[xwM]
  have a:=h1 k hk
  unfold xcW
  rw[if_neg (by omega),if_neg (by omega),if_neg (by omega),if_neg (by omega)]
 ·rw[xxw]
  have a:=h1 k hk
  unfold xcW
  rw[if_neg (by omega),if_neg (by omega)]
  by_cases hz:0<k∧(gE m k).off=nxE m (k - 1)
  ·rw[if_pos hz,if_neg (by omega),if_neg (by omega)]
  ·rw[if_neg hz,if_neg (by omega),if_neg]
   rintro⟨-,hk0,-,he⟩
   refine hz ⟨hk0,?_⟩
   have e:nxE l (k - 1)=nxE m (k - 1):=by
    unfold nxE
    rw[(h (k - 1) (by omega)).2.2.2 (by omega),(h (k - 1) (by omega)).2.2.1 (by omega)]
   rw[e] at he
   omega
theorem xv8 {n:Nat} {m:List En} {i:Nat} (hi:i<4*n) (hm:∀ j,j<n→xa2 (gE m j)):0≤xdS m (i / n) (i % n)∧xdS m (i / n) (i % n)≤18446744073709551615:=by
 unfold xa2 at hm
 rcases xgT hi with ⟨hc,h0,hk⟩|⟨hc,h0,hk⟩|⟨hc,h0,hk⟩|⟨hc,h0,hk⟩ <;> rw[hc] <;> generalize i % n=k at *
 ·rw[xyX]
  have:=hm 0 (by omega)
  split <;> omega
 ·rw[xxF];have:=hm k hk;omega
 ·rw[xwM];have:=hm k hk;omega
 ·rw[xxw];split <;> omega
theorem xxo {n:Nat} {l:List En} {i:Nat} {x:Int} (hl:l.length=n) (hi:i<4*n) (hm:∀ j,j<n→xa2 (gE l j)) (hx:0≤x∧x≤18446744073709551615) (h:xcW l (i / n) (i % n) x=0):xdS (xfS l (i / n) (i % n) x) (i / n) (i % n)=x:=by
 have hk':i % n<l.length:=by rw[hl];exact Nat.mod_lt _ (by omega)
 have he:=fun j=>xjI l (i / n) (i % n) x j hk'
 generalize xfS l (i / n) (i % n) x=l' at *
 unfold xa2 at hm
 rcases xgT hi with ⟨hc,h0,hk⟩|⟨hc,h0,hk⟩|⟨hc,h0,hk⟩|⟨hc,h0,hk⟩ <;> rw[hc] at h he ⊢ <;> generalize i % n=k at*<;> unfold xcW at h <;> have e1:=he k <;> rw[if_pos rfl] at e1
 ·rw[xyX]
  rw[xz9] at e1
  by_cases z:k=0
  ·rw[if_pos z]
   subst z
   rw[e1]
   simp
  ·have e2:=he (k - 1)
   rw[if_neg (show ¬ (k - 1=k) by omega)] at e2
   rw[if_neg z,e1,e2]
   simp only
   have:=hm (k - 1) (by omega)
   rw[if_pos (show 0<k by omega)]
   split at h
   ·omega
   ·omega
 ·rw[xxF,e1,xAR]
  simp only
  split at h
  ·omega
  split at h
  ·omega
  omega
 ·rw[xwM,e1,xAU]
  simp only
  split at h
  ·omega
  split at h
  ·omega
  omega
 ·rw[xzR] at e1
  rw[xxw,e1]
  simp only
  split at h
  ·omega
  split at h
  ·omega
  split at h
  ·omega
  rename_i g3
  split at h
  ·omega
  rename_i g4
  by_cases z:0<k
  ·have e:nxE l' (k - 1)=nxE l (k - 1):=by
    have e2:=he (k - 1)
    rw[if_neg (show ¬ (k - 1=k) by omega)] at e2
    unfold nxE
    rw[e2]
   rw[e]
   by_cases z1:x=0
   ·rw[if_pos z1,if_pos ⟨z,rfl⟩,z1]
   ·rw[if_neg z1,if_neg (by rintro⟨-,q⟩;exact g4 ⟨rfl,z,by omega,q⟩)]
    omega
  ·rw[if_neg (by rintro⟨q,-⟩;exact z q),if_neg (by omega)]
   omega
theorem xlF {n:Nat} {l:List En} {i:Nat} {x:Int} (hl:l.length=n) (hi:i<4*n) (hm:∀ j,j<n→xa2 (gE l j)) (hx:0≤x∧x≤18446744073709551615):∀ j,j<n→xa2 (gE (xfS l (i / n) (i % n) x) j):=by
 intro j hj
 have hk':i % n<l.length:=by rw[hl];exact Nat.mod_lt _ (by omega)
 rw[xjI _ _ _ _ _ hk']
 split
 ·have a:=hm (i % n) (by omega)
  unfold xa2 at a ⊢
  rcases xgT hi with ⟨hc,h0,hk⟩|⟨hc,h0,hk⟩|⟨hc,h0,hk⟩|⟨hc,h0,hk⟩ <;> rw[hc] <;> generalize i % n=k at *
  ·rw[xz9];simp only;split <;> omega
  ·rw[xAR];simp only;omega
  ·rw[xAU];simp only;omega
  ·rw[xzR];simp only;unfold nxE;split <;> omega
 ·exact hm j hj
def xhT (x:Int):List UInt8:=(enc x).map ub
theorem xmY (x:Int):1≤(xhT x).length∧(xhT x).length≤10:=by
 unfold xhT;rw[List.length_map];exact xei x
def xbB (L:List En) (n:Nat):Nat→Nat→List UInt8
 | 0,_=>[]
 | m+1,i=>xhT (xdS L (i / n) (i % n))++xbB L n m (i+1)
theorem xq4 (L:List En) (n m i:Nat):(xbB L n m i).length≤10*m:=by
 induction m generalizing i with
 | zero=>simp[xbB]
 | succ m ih =>
  rw[xbB,List.length_append]
  have:=ih (i+1)
  have:=xmY (xdS L (i / n) (i % n))
  omega
def xci (l:List En):List UInt8:=xhT l.length++xbB l l.length (4*l.length) 0
def goD (t:List UInt8) (n:Nat):Nat→Nat→List En→Nat→List En × Nat × Int
 | 0,_,l,a=>(l,a,0)
 | m+1,i,l,a =>
  if xbK (t.drop a)≠0 then ([],a,xbK (t.drop a)) else
  if xcW l (i / n) (i % n) (xbc (t.drop a))≠0 then ([],a,xcW l (i / n) (i % n) (xbc (t.drop a))) else
  goD t n m (i+1) (xfS l (i / n) (i % n) (xbc (t.drop a))) (a+(xaV 10 (t.drop a)+1))
theorem xuI {n:Nat} {L:List En} (hL:L.length=n) (hr:xA2 n L) (r:List UInt8):∀ (m i:Nat) (l:List En) (pre:List UInt8),i+m=4*n→l.length=n→Agr n l L i →
  goD (pre++(xbB L n m i++r)) n m i l pre.length=(L,(pre++xbB L n m i).length,0):=by
 intro m
 induction m with
 | zero =>
  intro i l pre hi hl ha
  rw[show i=4*n from by omega] at ha
  rw[ha.all hl hL]
  simp[goD,xbB]
 | succ m ih =>
  intro i l pre hi hl ha
  have hb:=xv8 (i:=i) (by omega) (fun j hj=>(hr.1 j hj).1)
  obtain⟨e1,e2,e3⟩:=xm5 _ hb.1 hb.2 (xbB L n m (i+1)++r)
  have hd:(pre++(xbB L n (m+1) i++r)).drop pre.length=(enc (xdS L (i / n) (i % n))).map ub++(xbB L n m (i+1)++r):=by
   rw[List.drop_left,xbB,List.append_assoc];rfl
  rw[goD,hd,e1,e3,if_neg (by simp),if_neg (by rw[xrd (by omega) hr ha];simp)]
  have hz:pre.length+(xaV 10 ((enc (xdS L (i / n) (i % n))).map ub++(xbB L n m (i+1)++r))+1)=(pre++xhT (xdS L (i / n) (i % n))).length:=by
   unfold xl7 at e2
   rw[List.length_append]
   unfold xhT
   rw[List.length_map]
   omega
  rw[hz]
  have hq:pre++(xbB L n (m+1) i++r)=(pre++xhT (xdS L (i / n) (i % n)))++(xbB L n m (i+1)++r):=by
   rw[xbB];simp only[List.append_assoc]
  rw[hq,ih (i+1) _ _ (by omega) (by rw[xc1,hl]) (xpM hl (by omega) hr.1 ha),xbB]
  simp only[List.append_assoc]
theorem xxn (t:List UInt8) (n:Nat):∀ (m i:Nat) (l:List En) (a:Nat),a≤t.length →
  ((goD t n m i l a).2.2≠0→(goD t n m i l a).1=[])∧a≤(goD t n m i l a).2.1∧(goD t n m i l a).2.1≤t.length:=by
 intro m
 induction m with
 | zero=>intro i l a ha;simp[goD];exact ha
 | succ m ih =>
  intro i l a ha
  rw[goD]
  split
  ·simp;exact ha
  ·rename_i he
   split
   ·simp;exact ha
   ·have hk:=(xds _ (by simpa using he)).2.1
    rw[List.length_drop] at hk
    have:=ih (i+1) (xfS l (i / n) (i % n) (xbc (t.drop a))) (a+(xaV 10 (t.drop a)+1)) (by omega)
    refine⟨this.1,by omega,this.2.2⟩
theorem xtu (t:List UInt8) (n:Nat):∀ (m i:Nat) (l:List En) (a:Nat),i+m=4*n→l.length=n→(∀ j,j<n→xa2 (gE l j))→a≤t.length→(goD t n m i l a).2.2=0 →
  Agr n l (goD t n m i l a).1 i∧(goD t n m i l a).1.length=n∧(∀ j,j<n→xa2 (gE (goD t n m i l a).1 j))∧a≤(goD t n m i l a).2.1∧(goD t n m i l a).2.1≤t.length∧(t.drop a).take ((goD t n m i l a).2.1 - a)=xbB (goD t n m i l a).1 n m i:=by
 intro m
 induction m with
 | zero =>
  intro i l a hi hl hm ha h
  simp[goD,xbB,hl,ha]
  exact⟨fun j _=>⟨fun _=>rfl,fun _=>rfl,fun _=>rfl,fun _=>rfl⟩,hm⟩
 | succ m ih =>
  intro i l a hi hl hm ha h
  rw[goD] at h ⊢
  by_cases he:¬ xbK (t.drop a)=0
  ·rw[if_pos he] at h;exact absurd h he
  have he:=Classical.not_not.1 he
  rw[if_neg (by simpa using he)] at h ⊢
  by_cases hw:¬ xcW l (i / n) (i % n) (xbc (t.drop a))=0
  ·rw[if_pos hw] at h;exact absurd h hw
  have hw:=Classical.not_not.1 hw
  rw[if_neg (by simpa using hw)] at h ⊢
  have hx:=xd8 _ he
  have hk:=(xds _ he).2.1
  rw[List.length_drop] at hk
  have hp:=xxo hl (by omega) hm hx hw
  have q:=ih (i+1) (xfS l (i / n) (i % n) (xbc (t.drop a))) (a+(xaV 10 (t.drop a)+1)) (by omega) (by rw[xc1,hl]) (xlF hl (by omega) hm hx) (by omega) h
  generalize goD t n m (i+1) (xfS l (i / n) (i % n) (xbc (t.drop a))) (a+(xaV 10 (t.drop a)+1))=R at q ⊢
  obtain⟨L,b,e⟩:=R
  obtain⟨q1,q2,q3,q4,q5,q6⟩:=q
  simp only at q1 q2 q3 q4 q5 q6 ⊢
  have hA:=xx7 (xbc (t.drop a)) hl (show i<4*n by omega)
  refine⟨fun j hj=>?_,q2,q3,by omega,q5,?_⟩
  ·have u:=hA j hj
   have v:=q1 j hj
   exact⟨fun z=>(u.1 z).trans (v.1 (by omega)),fun z=>(u.2.1 z).trans (v.2.1 (by omega)),fun z=>(u.2.2.1 z).trans (v.2.2.1 (by omega)),fun z=>(u.2.2.2 z).trans (v.2.2.2 (by omega))⟩
  ·have hc:=xyG q1 (Nat.lt_succ_self i) (show i<4*n by omega)
   rw[xbB,← hc,hp,← q6]
   have hen:xhT (xbc (t.drop a))=(t.drop a).take (xaV 10 (t.drop a)+1):=by
    unfold xhT
    rw[xi2 _ he,List.map_map]
    conv=>rhs;rw[← List.map_id ((t.drop a).take (xaV 10 (t.drop a)+1))]
    exact List.map_congr_left fun c _=>xq3 c
   rw[hen,← List.drop_drop]
   generalize t.drop a=T at *
   rw[show b - a=(xaV 10 T+1)+(b - (a+(xaV 10 T+1))) from by omega,List.take_add]
def xaG (n:Nat):List En:=List.replicate n xdo
theorem xtG (n j:Nat):gE (xaG n) j=xdo:=by
 unfold gE xaG
 rw[List.getD_eq_getElem?_getD,List.getElem?_replicate]
 split <;> rfl
theorem xry (n:Nat) (L:List En):Agr n (xaG n) L 0:=fun j _=>⟨fun h=>absurd h (by omega),fun h=>absurd h (by omega),fun h=>absurd h (by omega),fun h=>absurd h (by omega)⟩
theorem xjR (n:Nat):∀ j,j<n→xa2 (gE (xaG n) j):=by
 intro j _
 rw[xtG]
 unfold xa2 xdo
 simp
def xco (t:List UInt8):List En × Nat × Int :=
 if 65536<t.length then ([],0,5) else
 if xbK t≠0 then ([],0,xbK t) else
 if 4096<xbc t then ([],0,21) else
 if (goD t (xbc t).toNat (4*(xbc t).toNat) 0 (xaG (xbc t).toNat) (xaV 10 t+1)).2.2≠0 then goD t (xbc t).toNat (4*(xbc t).toNat) 0 (xaG (xbc t).toNat) (xaV 10 t+1) else
 if (goD t (xbc t).toNat (4*(xbc t).toNat) 0 (xaG (xbc t).toNat) (xaV 10 t+1)).2.1<t.length then ([],(goD t (xbc t).toNat (4*(xbc t).toNat) 0 (xaG (xbc t).toNat) (xaV 10 t+1)).2.1,4) else
 if xaN (goD t (xbc t).toNat (4*(xbc t).toNat) 0 (xaG (xbc t).toNat) (xaV 10 t+1)).1≠0 then ([],t.length,xaN (goD t (xbc t).toNat (4*(xbc t).toNat) 0 (xaG (xbc t).toNat) (xaV 10 t+1)).1) else
 ((goD t (xbc t).toNat (4*(xbc t).toNat) 0 (xaG (xbc t).toNat) (xaV 10 t+1)).1,t.length,0)
theorem xg0 (l:List En):1≤(xci l).length∧(xci l).length≤10+40*l.length:=by
 unfold xci
 rw[List.length_append]
 have:=xmY l.length
 have:=xq4 l l.length (4*l.length) 0
 omega
theorem xeG {l:List En} (h:xaN l=0):l.length≤4096:=by
 unfold xaN at h
 split at h <;> omega
theorem xwY (l:List En) (hm:∀ e ∈ l,xa2 e) (h:xaN l=0) (r:List UInt8) :
  xbK (xci l++r)=0∧(xbc (xci l++r)).toNat=l.length∧xbc (xci l++r)=l.length ∧
  goD (xci l++r) l.length (4*l.length) 0 (xaG l.length) (xaV 10 (xci l++r)+1)=(l,(xci l).length,0):=by
 have hn:=xeG h
 obtain⟨e1,e2,e3⟩:=xm5 l.length (by omega) (by omega) (xbB l l.length (4*l.length) 0++r)
 have ht:xci l++r=xhT l.length++(xbB l l.length (4*l.length) 0++r):=by unfold xci;rw[List.append_assoc]
 change xbK (xhT _++_)=_ at e1
 change xl7 (xhT _++_)=_ at e2
 change xbc (xhT _++_)=_ at e3
 rw[← ht] at e1 e2 e3
 have hg:=xuI (n:=l.length) rfl (xyT l hm h) r (4*l.length) 0 (xaG l.length) (xhT l.length) (by omega) (by simp[xaG]) (xry _ _)
 refine⟨e1,by rw[e3];simp,e3,?_⟩
 have hz:xaV 10 (xci l++r)+1=(xhT (l.length:Int)).length:=by
  unfold xl7 at e2
  have:(xhT (l.length:Int)).length=(enc (l.length:Int)).length:=by unfold xhT;rw[List.length_map]
  omega
 rw[hz]
 rw[← ht] at hg
 exact hg
theorem xjV (l:List En) (hm:∀ e ∈ l,xa2 e) (h:xaN l=0) (hl:(xci l).length≤65536):xco (xci l)=(l,(xci l).length,0):=by
 obtain⟨e1,e2,e3,e4⟩:=xwY l hm h []
 rw[List.append_nil] at e1 e2 e3 e4
 have:=xeG h
 unfold xco
 rw[e2,e4]
 simp only
 rw[if_neg (by omega),e1,if_neg (by simp),e3,if_neg (by omega),if_neg (by simp),if_neg (by omega),if_neg (by rw[h];simp)]
theorem xdj (t:List UInt8) (h:(xco t).2.2=0):xaN (xco t).1=0∧(∀ e ∈ (xco t).1,xa2 e)∧xci (xco t).1=t∧(xco t).2.1=t.length∧t.length≤65536:=by
 unfold xco at h ⊢
 by_cases h1:65536<t.length
 ·rw[if_pos h1] at h;simp at h
 rw[if_neg h1] at h ⊢
 by_cases h2:¬ xbK t=0
 ·rw[if_pos h2] at h;exact absurd h h2
 have h2:=Classical.not_not.1 h2
 rw[if_neg (by simpa using h2)] at h ⊢
 by_cases h3:4096<xbc t
 ·rw[if_pos h3] at h;simp at h
 rw[if_neg h3] at h ⊢
 have hx:=xd8 _ h2
 have hk:=(xds _ h2).2.1
 have hb:=xi2 _ h2
 obtain⟨n,hn⟩:∃ n:Nat,xbc t=n:=⟨(xbc t).toNat,by omega⟩
 rw[hn] at h ⊢
 rw[hn] at hb
 simp only[Int.toNat_natCast] at h ⊢
 have q:=xtu t n (4*n) 0 (xaG n) (xaV 10 t+1) (by omega) (by simp[xaG]) (xjR n) (by omega)
 generalize goD t n (4*n) 0 (xaG n) (xaV 10 t+1)=R at *
 obtain⟨L,b,e⟩:=R
 simp only at h q ⊢
 by_cases h4:¬ e=0
 ·rw[if_pos h4] at h;exact absurd h h4
 have h4:=Classical.not_not.1 h4
 rw[if_neg (by simpa using h4)] at h ⊢
 by_cases h5:b<t.length
 ·rw[if_pos h5] at h;simp at h
 rw[if_neg h5] at h ⊢
 by_cases h6:¬ xaN L=0
 ·rw[if_pos h6] at h;exact absurd h h6
 have h6:=Classical.not_not.1 h6
 rw[if_neg (by simpa using h6)]
 obtain⟨q1,q2,q3,q4,q5,q6⟩:=q h4
 refine⟨h6,?_,?_,rfl,by omega⟩
 ·intro x hx'
  change x ∈ L at hx'
  obtain⟨j,hj,rfl⟩:=List.getElem_of_mem hx'
  have:=q3 j (by omega)
  unfold gE at this
  rwa[List.getD_eq_getElem?_getD,List.getElem?_eq_getElem hj] at this
 ·simp only
  unfold xci
  rw[q2,← q6]
  have hen:xhT (n:Int)=t.take (xaV 10 t+1):=by
   unfold xhT
   rw[hb,List.map_map]
   conv=>rhs;rw[← List.map_id (t.take (xaV 10 t+1))]
   exact List.map_congr_left fun c _=>xq3 c
  have hd:(t.drop (xaV 10 t+1)).take (b - (xaV 10 t+1))=t.drop (xaV 10 t+1):=List.take_of_length_le (by rw[List.length_drop];omega)
  rw[hen,hd,List.take_append_drop]
theorem xvg (t:List UInt8):((xco t).2.2≠0→(xco t).1=[])∧(xco t).2.1≤t.length:=by
 unfold xco
 split
 ·simp
 split
 ·simp
 rename_i h2
 split
 ·simp
 have hk:=(xds t (by simpa using h2)).2.1
 have q:=xxn t (xbc t).toNat (4*(xbc t).toNat) 0 (xaG (xbc t).toNat) (xaV 10 t+1) (by omega)
 generalize goD t (xbc t).toNat (4*(xbc t).toNat) 0 (xaG (xbc t).toNat) (xaV 10 t+1)=R at *
 split
 ·exact⟨q.1,q.2.2⟩
 split
 ·exact⟨fun _=>rfl,q.2.2⟩
 split
 ·exact⟨fun _=>rfl,Nat.le_refl _⟩
 ·exact⟨fun h=>absurd rfl h,Nat.le_refl _⟩
def xhl (l:List En) (c:Nat):Nat→List Int
 | 0=>[]
 | k+1=>xhl l c k++enc (xdS l c k)
def xaz (l:List En):List Int:=enc l.length++(xhl l 0 l.length++(xhl l 1 l.length++(xhl l 2 l.length++xhl l 3 l.length)))
theorem xeS (L:List En) (n m1 m2 i:Nat):xbB L n (m1+m2) i=xbB L n m1 i++xbB L n m2 (i+m1):=by
 induction m1 generalizing i with
 | zero=>simp[xbB]
 | succ m ih =>
  rw[show m+1+m2=(m+m2)+1 from by omega,xbB,xbB,ih,List.append_assoc,show i+1+m=i+(m+1) from by omega]
theorem xdJ (L:List En) (n c m:Nat) (hm:m≤n):xbB L n m (c*n)=(xhl L c m).map ub:=by
 induction m with
 | zero=>rfl
 | succ m ih =>
  rw[xeS,ih (by omega),xhl,List.map_append]
  have e1:(c*n+m) / n=c:=by rw[Nat.mul_comm,Nat.mul_add_div (by omega),Nat.div_eq_of_lt (by omega)];omega
  have e2:(c*n+m) % n=m:=by rw[Nat.mul_comm,Nat.mul_add_mod,Nat.mod_eq_of_lt (by omega)]
  simp only[xbB,e1,e2,List.append_nil]
  rfl
theorem xhL (l:List En):xci l=(xaz l).map ub:=by
 unfold xci xaz
 have h0:=xdJ l l.length 0 l.length (Nat.le_refl _)
 have h1:=xdJ l l.length 1 l.length (Nat.le_refl _)
 have h2:=xdJ l l.length 2 l.length (Nat.le_refl _)
 have h3:=xdJ l l.length 3 l.length (Nat.le_refl _)
 rw[show 4*l.length=l.length+(l.length+(l.length+l.length)) from by omega,xeS,xeS,xeS]
 simp only[Nat.zero_mul,Nat.one_mul,Nat.zero_add] at h0 h1 ⊢
 rw[show l.length+l.length=2*l.length from by omega,show 2*l.length+l.length=3*l.length from by omega,h0,h1,h2,h3]
 simp only[List.map_append]
 rfl
theorem xdi (l:List En):(xaz l).length=(xci l).length:=by rw[xhL,List.length_map]
def gS (l:List En) (k:Nat):En:=l.getD k xdo
theorem xmi (l:List En) (k:Nat) (h:k<l.length):l[k]?=some (gS l k):=by
 rw[List.getElem?_eq_getElem h,gS,List.getD_eq_getElem?_getD,List.getElem?_eq_getElem h];rfl
theorem xvN (l:List En) (k:Nat) (h:k<l.length):gS l k ∈ l:=List.mem_of_getElem? (xmi l k h)
def xao (l:List En):List En:=l.filter fun e=>decide (e.rn=0)
theorem xrT {l:List En} (h:xaN l=0):xcH (-1) l=0∧l.length≤4096:=by
 unfold xaN at h
 split at h
 ·omega
 ·exact⟨h,by omega⟩
theorem xva {l:List En} (h:xaN l=0) (n:Nat):xaN (l.take n)=0:=by
 obtain⟨h1,h2⟩:=xrT h
 unfold xaN
 rw[if_neg (by rw[List.length_take];omega)]
 exact xeT (-1) (l.take n) (l.drop n) (by rw[List.take_append_drop];exact h1)
theorem xuU {l:List En} (hm:∀ e ∈ l,xa2 e) (h:xaN l=0) (n:Nat):xaN (l.drop n)=0:=by
 obtain⟨h1,h2⟩:=xrT h
 unfold xaN
 rw[if_neg (by rw[List.length_drop];omega)]
 have hl:=xeT (-1) (l.take n) (l.drop n) (by rw[List.take_append_drop];exact h1)
 have ha:=xbN (-1) (l.take n) (l.drop n) hl
 rw[List.take_append_drop,h1] at ha
 refine xjd _ (-1) (l.drop n) ha.symm ?_
 have key:∀ (m:List En) (p:Int),-1≤p→(∀ e ∈ m,xa2 e)→xcH p m=0→-1≤m.foldl (fun _ e=>laN e) p:=by
  intro m
  induction m with
  | nil=>intro p hp _ _;exact hp
  | cons e m ih =>
   intro p hp hm' hr
   obtain⟨c1,c2,c3⟩:=xbZ p e m hr
   have:=xlr e (hm' e (List.mem_cons_self ..)) c1
   exact ih (laN e) (by omega) (fun x hx=>hm' x (List.mem_cons_of_mem _ hx)) c3
 exact key _ _ (by omega) (fun e he=>hm e (List.mem_of_mem_take he)) hl
end Go.Proofs.YtjinnigjfopbcaaGreatDoor
namespace Go.Proofs.YtjinnigjfopbcaaGreatDoor
set_option linter.unusedVariables false
set_option linter.unusedSimpArgs false
open Go.RowKit
set_option maxRecDepth 20000
open Go.RowKit
set_option maxRecDepth 20000
def xlR (l:List En):Int:=if xaN l=0 then (if 65536<(xaz l).length then 5 else 0) else xaN l
def xpc (l:List En):ByteArray:=if xlR l=0 then str (xaz l) else ByteArray.mk #[]
def xfK (l:List En):Int:=if xaN l=0 then (xaz l).length else 0
end Go.Proofs.YtjinnigjfopbcaaGreatDoor
namespace Go.Proofs.YtjinnigjfopbcaaGreatDoor
set_option linter.unusedVariables false
set_option linter.unusedSimpArgs false
set_option maxRecDepth 20000
def xrh (n:Nat):Nat→List En→List (List En)
 | 0,_=>[]
 | f+1,l=>if l=[] then [] else l.take n :: xrh n f (l.drop n)
def xbQ (n:Nat) (l:List En):List (List En):=xrh n l.length l
theorem xyQ (n:Nat) (hn:1≤n) (d:Nat):∀ (g:Nat) (m:List En),m.length≤g→xrh n (g+d) m=xrh n g m:=by
 intro g
 induction g with
 | zero=>intro m hm;rw[List.eq_nil_of_length_eq_zero (Nat.le_zero.1 hm)];cases d <;> simp[xrh]
 | succ g ihg =>
  intro m hm
  cases m with
  | nil=>rw[show g+1+d=(g+d)+1 by omega];simp[xrh]
  | cons x m =>
   rw[show g+1+d=(g+d)+1 by omega,xrh,xrh,if_neg (by simp),if_neg (by simp),ihg]
   rw[List.length_cons] at hm
   rw[List.length_drop,List.length_cons]
   omega
theorem xr5 (n:Nat) (hn:1≤n) (f:Nat) (l:List En) (h:l.length≤f):xrh n f l=xrh n l.length l:=by
 have:=xyQ n hn (f - l.length) l.length l (Nat.le_refl _)
 rwa[show l.length+(f - l.length)=f by omega] at this
theorem xeU (n:Nat):xbQ n []=[]:=rfl
theorem xb2 (n:Nat) (hn:1≤n) (l:List En) (h:l≠[]):xbQ n l=l.take n :: xbQ n (l.drop n):=by
 unfold xbQ
 cases l with
 | nil=>exact absurd rfl h
 | cons e l =>
  rw[List.length_cons,xrh,if_neg h,xr5 n hn l.length ((e :: l).drop n) (by rw[List.length_drop,List.length_cons];omega)]
theorem xjv (n:Nat) (hn:1≤n) (l:List En) (h:l≠[]) (hl:l.length≤n):xbQ n l=[l]:=by
 rw[xb2 n hn l h,List.take_of_length_le hl,List.drop_of_length_le hl,xeU]
theorem xlI {M:List En→Prop} (n:Nat) (hn:1≤n) (h0:M []) (hs:∀ l,l≠[]→M (l.drop n)→M l) (l:List En):M l:=by
 have key:∀ (k:Nat) (l:List En),l.length≤k→M l:=by
  intro k
  induction k with
  | zero=>intro l hl;rw[List.eq_nil_of_length_eq_zero (Nat.le_zero.1 hl)];exact h0
  | succ k ih =>
   intro l hl
   by_cases h:l=[]
   ·rw[h];exact h0
   ·have:0<l.length:=List.length_pos_iff.2 h
    exact hs l h (ih _ (by rw[List.length_drop];omega))
 exact key l.length l (Nat.le_refl _)
theorem xcw (n:Nat) (hn:1≤n) (l:List En):(xbQ n l).flatten=l:=by
 refine xlI (M:=fun l=>(xbQ n l).flatten=l) n hn rfl (fun l h ih=>?_) l
 rw[xb2 n hn l h,List.flatten_cons,ih,List.take_append_drop]
theorem xiB (n:Nat) (hn:1≤n) (l:List En):∀ p ∈ xbQ n l,p≠[]∧p.length≤n:=by
 refine xlI (M:=fun l=>∀ p ∈ xbQ n l,p≠[]∧p.length≤n) n hn (by simp[xeU]) (fun l h ih=>?_) l
 rw[xb2 n hn l h]
 intro p hp
 rcases List.mem_cons.1 hp with rfl|hp
 ·refine⟨fun e=>h ?_,by rw[List.length_take];omega⟩
  have:=congrArg List.length e
  rw[List.length_take,List.length_nil] at this
  have:=List.length_pos_iff.2 h
  omega
 ·exact ih p hp
theorem xgN (n:Nat) (hn:1≤n) (l:List En):(xbQ n l).length≤l.length:=by
 refine xlI (M:=fun l=>(xbQ n l).length≤l.length) n hn (by simp[xeU]) (fun l h ih=>?_) l
 rw[xb2 n hn l h,List.length_cons]
 have:=List.length_pos_iff.2 h
 rw[List.length_drop] at ih
 omega
def xaL (ps:List (List En)):List Int:=ps.flatMap xaz
def xaF:Nat→List (List En)→List En
 | _,[]=>[]
 | o,p :: ps=>⟨(gS p 0).id,o,(xaz p).length,0⟩ :: xaF (o+(xaz p).length) ps
theorem xbO (p:List En) (ps:List (List En)):xaL (p :: ps)=xaz p++xaL ps:=rfl
theorem xej (a b:List (List En)):xaL (a++b)=xaL a++xaL b:=by simp[xaL]
theorem xcA (p:List En):1≤(xaz p).length∧(xaz p).length≤10+40*p.length:=by rw[xdi];exact xg0 p
theorem xgq (ps:List (List En)):(xaL ps).length≤10*ps.length+40*ps.flatten.length:=by
 induction ps with
 | nil=>simp[xaL]
 | cons p ps ih =>
  have:=(xcA p).2
  rw[xbO,List.length_append,List.flatten_cons,List.length_append,List.length_cons]
  omega
theorem xcc:∀ (o:Nat) (ps:List (List En)),(xaF o ps).length=ps.length
 | _,[]=>rfl
 | o,p :: ps=>by rw[xaF,List.length_cons,List.length_cons,xcc]
theorem xek:∀ (o:Nat) (a b:List (List En)),xaF o (a++b)=xaF o a++xaF (o+(xaL a).length) b
 | o,[],b=>by simp[xaF,xaL]
 | o,p :: a,b=>by rw[List.cons_append,xaF,xaF,xek,xbO,List.length_append,List.cons_append,Nat.add_assoc]
theorem xhB:∀ (o:Nat) (ps:List (List En)) (e:En),e ∈ xaF o ps→e.rn=0∧∃ p ∈ ps,e.id=(gS p 0).id∧e.ln=(xaz p).length∧0≤e.off∧e.off+e.ln≤o+(xaL ps).length
 | o,p :: ps,e,h=>by
  rw[xaF] at h
  rcases List.mem_cons.1 h with rfl|h
  ·refine⟨rfl,p,by simp,rfl,rfl,by simp,?_⟩
   rw[xbO,List.length_append]
   simp only
   omega
  ·obtain⟨h1,q,hq,h2,h3,h4,h5⟩:=xhB _ ps e h
   refine⟨h1,q,by simp[hq],h2,h3,h4,?_⟩
   rw[xbO,List.length_append]
   omega
theorem xjc {o:Nat} {ps:List (List En)} (hm:∀ e ∈ ps.flatten,xa2 e) (hp:∀ p ∈ ps,p≠[]) (hb:∀ p ∈ ps,(xaz p).length≤4294967295) (ht:o+(xaL ps).length≤1099511627776):∀ e ∈ xaF o ps,xa2 e:=by
 intro e he
 obtain⟨h1,p,hq,h2,h3,h4,h5⟩:=xhB o ps e he
 have hlen:0<p.length:=List.length_pos_iff.2 (hp p hq)
 have h6:=hm (gS p 0) (List.mem_flatten.2 ⟨p,hq,xvN p 0 hlen⟩)
 have h7:=hb p hq
 unfold xa2 at h6 ⊢
 rw[h1,h2,h3] at *
 omega
theorem xsa:∀ (l:List En) (p:Int),(∀ e ∈ l,xa2 e)→xcH p l=0→p≤l.foldl (fun _ e=>laN e) p
 | [],p,_,_=>Int.le_refl _
 | e :: l,p,hm,h=>by
  obtain⟨c1,c2,c3⟩:=xbZ p e l h
  have h1:=xlr e (hm e (by simp)) c1
  have h2:=xsa l (laN e) (fun x hx=>hm x (by simp[hx])) c3
  rw[List.foldl_cons]
  omega
theorem xjQ:∀ (ps:List (List En)) (o:Nat) (p:Int),(∀ e ∈ ps.flatten,xa2 e)→(∀ q ∈ ps,q≠[])→o+(xaL ps).length≤1099511627776→xcH p ps.flatten=0→xcH p (xaF o ps)=0
 | [],_,_,_,_,_,_=>rfl
 | q :: ps,o,p,hm,hp,ht,h=>by
  cases q with
  | nil=>exact absurd rfl (hp [] (by simp))
  | cons e q =>
   rw[List.flatten_cons,List.cons_append] at h hm
   obtain⟨c1,c2,c3⟩:=xbZ p e _ h
   have hme:=hm e (by simp)
   have hck:=xiX e c1
   have hwd:=xnb e hme.2.2.2.1
   have hla:=xlr e hme c1
   have hln:=(xcA (e :: q)).1
   rw[xbO,List.length_append] at ht
   have hid:(gS (e :: q) 0).id=e.id:=rfl
   have hr:ckN ⟨(gS (e :: q) 0).id,o,(xaz (e :: q)).length,0⟩=0:=by
    unfold ckN cnN wdN
    simp only[hid]
    rw[if_neg (by omega),if_neg (by simp;omega),if_neg (by omega)]
   have hl:laN ⟨(gS (e :: q) 0).id,o,(xaz (e :: q)).length,0⟩=e.id:=by
    unfold laN
    rw[if_pos hr]
    unfold wdN
    simp only[hid]
    simp
   rw[xaF,xcH,if_neg (by rw[hr];simp),if_neg (by simp only[hid];omega),hl]
   have c4:=xeT (laN e) q ps.flatten c3
   have c5:=xbN (laN e) q ps.flatten c4
   rw[c3] at c5
   have c6:=xsa q (laN e) (fun x hx=>hm x (by simp[hx])) c4
   exact xjQ ps _ e.id (fun x hx=>hm x (by simp[hx])) (fun x hx=>hp x (by simp[hx])) (by omega) (xjd _ _ _ c5.symm (by omega))
theorem xhs {l:List En} (n:Nat) (hn:1≤n) (hm:∀ e ∈ l,xa2 e) (h:xaN l=0) (hl:l.length≤5000):xaN (xaF 0 (xbQ n l))=0:=by
 obtain⟨h1,h2⟩:=xrT h
 have hf:=xcw n hn l
 have hc:=xgN n hn l
 have ht:=xgq (xbQ n l)
 rw[hf] at ht
 unfold xaN
 rw[if_neg (by rw[xcc];omega)]
 exact xjQ (xbQ n l) 0 (-1) (by rw[hf];exact hm) (fun q hq=>(xiB n hn l q hq).1) (by omega) (by rw[hf];exact h1)
end Go.Proofs.YtjinnigjfopbcaaGreatDoor
