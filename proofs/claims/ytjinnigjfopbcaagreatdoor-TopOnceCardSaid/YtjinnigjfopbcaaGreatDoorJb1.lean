/- bMB bMG bMH bMS bUa. -/
import Derived.Test.YtjinnigjfopbcaaGreatDoorJs
import Derived.Lib.SlBytesConst
import Derived.Test.YtjinnigjfopbcaaGreatDoorJa6
namespace Go.Proofs.YtjinnigjfopbcaaGreatDoor
set_option linter.unusedVariables false
set_option linter.unusedSimpArgs false
open Go.RowKit
set_option maxRecDepth 20000
def p7:Nat→Int
 | 0=>1
 | k+1=>128*p7 k
def xbf:Nat→Int→List Int
 | 0,x=>[x]
 | k+1,x=>if x<128 then [x] else (x % 128+128) :: xbf k (x / 128)
def enc (x:Int):List Int:=xbf 9 x
theorem xht (k:Nat):1≤p7 k:=by
 induction k with
 | zero=>simp[p7]
 | succ k ih=>simp only[p7];omega
theorem xgv (j k:Nat) (h:j≤k):p7 j≤p7 k:=by
 induction h with
 | refl=>omega
 | step _ ih=>simp only[p7];have:=xht j;omega
theorem xce (x:Int) (k:Nat) (h:x<p7 (k+1)):x / 128<p7 k:=by
 simp only[p7] at h;omega
theorem xm2 (k:Nat) (x:Int) (h0:0≤x) (h:x<p7 (k+1)):xbf (k+1) x=xbf k x:=by
 induction k generalizing x with
 | zero =>
  simp only[p7] at h
  have:x<128:=by omega
  simp[xbf,this]
 | succ k ih =>
  rw[xbf]
  by_cases hx:x<128
  ·rw[if_pos hx,xbf,if_pos hx]
  ·rw[if_neg hx,ih (x / 128) (by omega) (xce x (k+1) h)]
   conv=>rhs;rw[xbf,if_neg hx]
theorem xew:p7 10=1180591620717411303424∧p7 9=9223372036854775808:=by decide
theorem xv3 (x:Int) (h:x<128):enc x=[x]:=by unfold enc;rw[xbf,if_pos h]
theorem xvi (x:Int) (h:128≤x) (h1:x≤18446744073709551615):enc x=(x % 128+128) :: enc (x / 128):=by
 unfold enc
 rw[xbf,if_neg (by omega),← xm2 8 (x / 128) (by omega) (by rw[xew.2];omega)]
theorem xgY (k:Nat) (x:Int):1≤(xbf k x).length∧(xbf k x).length≤k+1:=by
 induction k generalizing x with
 | zero=>simp[xbf]
 | succ k ih =>
  rw[xbf]
  split
  ·simp
  ·have:=ih (x / 128)
   simp only[List.length_cons];omega
theorem xdo (x:Int):1≤(enc x).length∧(enc x).length≤10:=xgY 9 x
theorem xsi (k:Nat) (x:Int) (h:x<p7 (k+1)):x<p7 (xbf k x).length:=by
 induction k generalizing x with
 | zero=>simpa[xbf] using h
 | succ k ih =>
  rw[xbf]
  split
  ·simp[p7];assumption
  ·have:=ih (x / 128) (xce x (k+1) h)
   simp only[List.length_cons,p7];omega
theorem xuJ (k:Nat) (x:Int) (h:2≤(xbf k x).length):p7 ((xbf k x).length - 1)≤x:=by
 induction k generalizing x with
 | zero=>simp[xbf] at h
 | succ k ih =>
  rw[xbf] at h ⊢
  split at h
  ·simp at h
  ·rename_i hx
   rw[if_neg hx]
   simp only[List.length_cons] at h ⊢
   have h1:=(xgY k (x / 128)).1
   by_cases h2:2≤(xbf k (x / 128)).length
   ·have:=ih (x / 128) h2
    obtain⟨m,hm⟩:∃ m,(xbf k (x / 128)).length=m+1:=⟨(xbf k (x / 128)).length - 1,by omega⟩
    rw[hm] at this ⊢
    simp only[Nat.add_sub_cancel,p7] at this ⊢
    omega
   ·rw[show (xbf k (x / 128)).length=1 from by omega]
    simp only[Nat.add_sub_cancel,p7];omega
theorem xvs (x:Int) (h1:x≤18446744073709551615):x<p7 (enc x).length:=xsi 9 x (by have:=xew.1;simp only[Nat.reduceAdd];omega)
theorem xvq (x:Int) (h:2≤(enc x).length):p7 ((enc x).length - 1)≤x:=xuJ 9 x h
theorem xoi (k:Nat) (x:Int) (h0:0≤x) (h:x<p7 (k+1)):∀ c ∈ xbf k x,0≤c∧c<256:=by
 induction k generalizing x with
 | zero=>simp only[p7] at h;simp[xbf];omega
 | succ k ih =>
  rw[xbf]
  split
  ·simp;omega
  ·intro c hc
   rcases List.mem_cons.1 hc with rfl|hc
   ·omega
   ·exact ih (x / 128) (by omega) (xce x (k+1) h) c hc
def xaG:Nat→List UInt8→Nat
 | 0,_=>0
 | _+1,[]=>0
 | k+1,c :: t=>if 128≤c.toNat then xaG k t+1 else 0
def xcF:List UInt8→Int
 | []=>0
 | c :: t=>(c.toNat:Int) % 128+128*xcF t
def xbo (l:List UInt8):Int :=
 if xaG 10 l=10 then 11 else if xaG 10 l=l.length then 3 else if xaG 10 l=9∧1<(l.getD (xaG 10 l) 0).toNat then 11 else if 0<xaG 10 l∧(l.getD (xaG 10 l) 0).toNat=0 then 4 else 0
def xjF (l:List UInt8):Int:=(xaG 10 l+1:Nat)
def xaW (l:List UInt8):Int:=xcF (l.take (xaG 10 l+1))
theorem xgu (k:Nat) (l:List UInt8):xaG k l≤k∧xaG k l≤l.length:=by
 induction k generalizing l with
 | zero=>simp[xaG]
 | succ k ih =>
  cases l with
  | nil=>simp[xaG]
  | cons c t =>
   rw[xaG]
   have:=ih t
   split <;> simp only[List.length_cons] <;> omega
theorem xmP (k:Nat) (l:List UInt8) (i:Nat) (h:i<xaG k l):128≤(l.getD i 0).toNat:=by
 induction k generalizing l i with
 | zero=>simp[xaG] at h
 | succ k ih =>
  cases l with
  | nil=>simp[xaG] at h
  | cons c t =>
   rw[xaG] at h
   split at h
   ·cases i with
    | zero=>simpa
    | succ i=>simpa using ih t i (by omega)
   ·omega
theorem xhe (k:Nat) (l:List UInt8) (i:Nat) (h:i≤xaG k l) (hk:i<k) (hl:i<l.length) (hc:128≤(l.getD i 0).toNat):i+1≤xaG k l:=by
 induction k generalizing l i with
 | zero=>omega
 | succ k ih =>
  cases l with
  | nil=>simp at hl
  | cons c t =>
   rw[xaG] at h ⊢
   cases i with
   | zero =>
    have:128≤c.toNat:=by simpa using hc
    rw[if_pos this];omega
   | succ i =>
    split at h
    ·rename_i hh
     rw[if_pos hh]
     have:=ih t i (by omega) (by omega) (by simpa using hl) (by simpa using hc)
     omega
    ·omega
theorem xuc (l:List UInt8) (i:Nat) (h:i≤xaG 10 l) (hs:i=10∨i=l.length∨(l.getD i 0).toNat<128):xaG 10 l=i:=by
 have h1:=xgu 10 l
 by_cases he:i=xaG 10 l
 ·exact he.symm
 ·have:=xmP 10 l i (by omega)
  omega
theorem xjz (c:UInt8):c.toNat<256:=c.toNat_lt
theorem xfJ (l:List UInt8):0≤xcF l∧xcF l<p7 l.length:=by
 induction l with
 | nil=>simp[xcF,p7]
 | cons c t ih =>
  simp only[xcF,p7,List.length_cons]
  omega
theorem xoX (l:List UInt8) (c:UInt8):xcF (l++[c])=xcF l+(c.toNat:Int) % 128*p7 l.length:=by
 induction l with
 | nil=>simp[xcF,p7]
 | cons d t ih =>
  rw[List.cons_append]
  simp only[xcF,ih,p7,List.length_cons]
  rw[Int.mul_add,← Int.mul_assoc,Int.mul_comm 128 ((c.toNat:Int) % 128),Int.mul_assoc,Int.add_assoc]
theorem xfq (l:List UInt8) (i:Nat) (h:i<l.length):xcF (l.take (i+1))=xcF (l.take i)+((l.getD i 0).toNat:Int) % 128*p7 i:=by
 rw[List.take_succ_eq_append_getElem h,xoX]
 simp[h,Nat.min_eq_left (Nat.le_of_lt h)]
theorem xdl (l:List UInt8) (h:xbo l=0):0≤xaW l∧xaW l≤18446744073709551615:=by
 have h1:=xgu 10 l
 unfold xbo at h
 split at h
 ·cases h
 rename_i a
 split at h
 ·cases h
 rename_i b
 split at h
 ·cases h
 rename_i c
 unfold xaW
 refine⟨(xfJ _).1,?_⟩
 by_cases h9:xaG 10 l=9
 ·rw[xfq l _ (by omega)]
  have h2:=(xfJ (l.take (xaG 10 l))).2
  rw[h9] at h2 c ⊢
  have h3:(l.take 9).length=9:=by simp;omega
  rw[h3] at h2
  have h4:=xew.2
  rw[h4] at h2 ⊢
  have:(l.getD 9 0).toNat≤1:=by omega
  omega
 ·have h2:=(xfJ (l.take (xaG 10 l+1))).2
  have h3:=xgv (l.take (xaG 10 l+1)).length 9 (by simp;omega)
  have h4:=xew.2
  omega
def ub (n:Int):UInt8:=UInt8.ofNat n.toNat
theorem xcu (n:Int) (h0:0≤n) (h1:n<256):((ub n).toNat:Int)=n:=by
 unfold ub;simp;omega
theorem xoc (c:UInt8):ub (c.toNat:Int)=c:=by unfold ub;simp
theorem xqd (k:Nat) (x:Int) (h0:0≤x) (h:x<p7 (k+1)) (r:List UInt8) (m:Nat) (hm:k<m):xaG m ((xbf k x).map ub++r)+1=(xbf k x).length:=by
 induction k generalizing x m with
 | zero =>
  simp only[p7] at h
  obtain⟨m,rfl⟩:∃ j,m=j+1:=⟨m - 1,by omega⟩
  have:=xcu x h0 (by omega)
  simp only[xbf,List.map_cons,List.map_nil,List.cons_append,xaG,List.length_cons,List.length_nil]
  rw[if_neg (by omega)]
 | succ k ih =>
  obtain⟨m,rfl⟩:∃ j,m=j+1:=⟨m - 1,by omega⟩
  rw[xbf]
  split
  ·have:=xcu x h0 (by omega)
   simp only[List.map_cons,List.map_nil,List.cons_append,xaG,List.length_cons,List.length_nil]
   rw[if_neg (by omega)]
  ·have:=xcu (x % 128+128) (by omega) (by omega)
   simp only[List.map_cons,List.cons_append,xaG,List.length_cons]
   rw[if_pos (by omega),ih (x / 128) (by omega) (xce x (k+1) h) m (by omega)]
theorem xrI (k:Nat) (x:Int) (h0:0≤x) (h:x<p7 (k+1)):xcF ((xbf k x).map ub)=x:=by
 induction k generalizing x with
 | zero =>
  simp only[p7] at h
  have:=xcu x h0 (by omega)
  simp only[xbf,List.map_cons,List.map_nil,xcF];omega
 | succ k ih =>
  rw[xbf]
  split
  ·have:=xcu x h0 (by omega)
   simp only[List.map_cons,List.map_nil,xcF];omega
  ·have:=xcu (x % 128+128) (by omega) (by omega)
   simp only[List.map_cons,xcF,ih (x / 128) (by omega) (xce x (k+1) h)]
   omega
theorem xpI (k:Nat) (x:Int) (h0:0≤x) (h:x<p7 (k+1)):((xbf k x).getD ((xbf k x).length - 1) 0=x∧(xbf k x).length=1)∨(1≤(xbf k x).getD ((xbf k x).length - 1) 0∧(xbf k x).getD ((xbf k x).length - 1) 0*p7 ((xbf k x).length - 1)≤x):=by
 induction k generalizing x with
 | zero=>exact .inl ⟨by simp[xbf],by simp[xbf]⟩
 | succ k ih =>
  rw[xbf]
  split
  ·exact .inl ⟨by simp,by simp⟩
  ·have hl:=xgY k (x / 128)
   have e:((x % 128+128) :: xbf k (x / 128)).getD (((x % 128+128) :: xbf k (x / 128)).length - 1) 0=(xbf k (x / 128)).getD ((xbf k (x / 128)).length - 1) 0:=by
    rw[List.length_cons,show (xbf k (x / 128)).length+1 - 1=((xbf k (x / 128)).length - 1)+1 from by omega,List.getD_cons_succ]
   rw[e,List.length_cons]
   refine .inr ?_
   rcases ih (x / 128) (by omega) (xce x (k+1) h) with ⟨a,b⟩|⟨a,b⟩
   ·rw[a,b];simp only[Nat.add_sub_cancel,p7];omega
   ·refine⟨a,?_⟩
    rw[show (xbf k (x / 128)).length+1 - 1=((xbf k (x / 128)).length - 1)+1 from by omega,p7]
    generalize (xbf k (x / 128)).getD ((xbf k (x / 128)).length - 1) 0=z at *
    generalize p7 ((xbf k (x / 128)).length - 1)=q at *
    rw[← Int.mul_assoc,Int.mul_comm z 128,Int.mul_assoc]
    omega
theorem xjL (x:Int) (h0:0≤x) (h1:x≤18446744073709551615) (r:List UInt8):xbo ((enc x).map ub++r)=0∧xjF ((enc x).map ub++r)=(enc x).length∧xaW ((enc x).map ub++r)=x:=by
 have hp:x<p7 (9+1):=by have:=xew.1;simp only[Nat.reduceAdd];omega
 have hl:=xqd 9 x h0 hp r 10 (by omega)
 have hb:=xoi 9 x h0 hp
 have hz:=xpI 9 x h0 hp
 have hv:=xrI 9 x h0 hp
 change xaG 10 ((enc x).map ub++r)+1=(enc x).length at hl
 change ∀ c ∈ enc x,_ at hb
 change ((enc x).getD ((enc x).length - 1) 0=x∧(enc x).length=1)∨(1≤(enc x).getD ((enc x).length - 1) 0∧(enc x).getD ((enc x).length - 1) 0*p7 ((enc x).length - 1)≤x) at hz
 change xcF ((enc x).map ub)=x at hv
 have hn:=xdo x
 have hk:xaG 10 ((enc x).map ub++r)=(enc x).length - 1:=by omega
 have hg:(((enc x).map ub++r).getD ((enc x).length - 1) 0).toNat=(enc x).getD ((enc x).length - 1) 0:=by
  have hi:(enc x).length - 1<(enc x).length:=by omega
  have:=hb ((enc x)[(enc x).length - 1]) (List.getElem_mem hi)
  have h2:=xcu _ this.1 this.2
  rw[List.getD_eq_getElem?_getD,List.getElem?_append_left (by simpa using hi)]
  simpa[hi] using h2
 refine⟨?_,?_,?_⟩
 ·unfold xbo
  rw[hk]
  rw[if_neg (by omega),if_neg (by simp;omega)]
  rw[if_neg,if_neg]
  ·rintro⟨a,b⟩
   omega
  ·rintro⟨a,b⟩
   rw[a] at hz
   have:=xew.2
   rw[this] at hz
   rw[a] at hg b
   omega
 ·unfold xjF;rw[hl]
 ·unfold xaW
  rw[hl,List.take_append_of_le_length (by simp),List.take_of_length_le (by simp),hv]
theorem xrd (k:Nat) (l:List UInt8) (hk:l.length≤k+1) (h:∀ i,i+1<l.length→128≤(l.getD i 0).toNat) (h1:0<l.length) (h2:(l.getD (l.length - 1) 0).toNat<128) (h3:1<l.length→(l.getD (l.length - 1) 0).toNat≠0):xbf k (xcF l)=l.map (fun c=>(c.toNat:Int))∧(1<l.length→1≤xcF l)∧(l.length=1→xcF l=(l.getD 0 0).toNat):=by
 induction l generalizing k with
 | nil=>simp at h1
 | cons c t ih =>
  cases t with
  | nil =>
   have hc:c.toNat<128:=by simpa using h2
   have e:xcF [c]=c.toNat:=by simp only[xcF];omega
   refine⟨?_,by simp,fun _=>by rw[e];simp⟩
   rw[e]
   cases k with
   | zero=>simp[xbf]
   | succ k=>rw[xbf,if_pos (by omega)];simp
  | cons d t =>
   have hc:128≤c.toNat:=by simpa using h 0 (by simp)
   have hc':=xjz c
   cases k with
   | zero=>simp at hk
   | succ k =>
    have hh:=ih k (by simpa using hk) (fun i hi=>by simpa using h (i+1) (by simpa using hi)) (by simp) (by simpa using h2) (fun _=>by simpa using h3 (by simp))
    have hl:(d.toNat≠0∨1<(d :: t).length):=by
     cases t with
     | nil=>left;simpa using h3 (by simp)
     | cons _ _=>right;simp
    have h1':1≤xcF (d :: t):=by
     by_cases hq:1<(d :: t).length
     ·exact hh.2.1 hq
     ·have:=hh.2.2 (by simp at hq ⊢;exact hq)
      rw[this]
      simp only[List.getD_cons_zero]
      omega
    have e:xcF (c :: d :: t)=(c.toNat:Int) % 128+128*xcF (d :: t):=rfl
    refine⟨?_,fun _=>by omega,by simp⟩
    rw[e,xbf,if_neg (by omega),List.map_cons,show ((c.toNat:Int) % 128+128*xcF (d :: t)) / 128=xcF (d :: t) from by omega,hh.1]
    congr 1
    omega
theorem xcM (l:List UInt8) (h:xbo l=0):xaG 10 l≤9∧xaG 10 l<l.length∧(xaG 10 l=9→(l.getD (xaG 10 l) 0).toNat≤1)∧(0<xaG 10 l→(l.getD (xaG 10 l) 0).toNat≠0)∧(l.getD (xaG 10 l) 0).toNat<128:=by
 have h1:=xgu 10 l
 unfold xbo at h
 split at h
 ·cases h
 rename_i a
 split at h
 ·cases h
 rename_i b
 split at h
 ·cases h
 rename_i c
 split at h
 ·cases h
 rename_i d
 refine⟨by omega,by omega,fun h=>by omega,fun h=>by omega,?_⟩
 by_cases hx:(l.getD (xaG 10 l) 0).toNat<128
 ·exact hx
 ·have:=xhe 10 l (xaG 10 l) (Nat.le_refl _) (by omega) (by omega) (by omega)
  omega
theorem xhu (l:List UInt8) (h:xbo l=0):enc (xaW l)=(l.take (xaG 10 l+1)).map (fun c=>(c.toNat:Int)):=by
 obtain⟨h1,h2,h3,h4,h5⟩:=xcM l h
 have hl:(l.take (xaG 10 l+1)).length=xaG 10 l+1:=by simp;omega
 have hg:∀ i,i<xaG 10 l+1→(l.take (xaG 10 l+1)).getD i 0=l.getD i 0:=by
  intro i hi
  simp[hi]
 refine(xrd 9 (l.take (xaG 10 l+1)) (by omega) ?_ (by omega) ?_ ?_).1
 ·intro i hi
  rw[hg i (by omega)]
  exact xmP 10 l i (by omega)
 ·rw[hl,Nat.add_sub_cancel,hg _ (by omega)];exact h5
 ·intro hx
  rw[hl,Nat.add_sub_cancel,hg _ (by omega)];exact h4 (by omega)
theorem xvK (x:Int) (x0:0≤x) (x1:x≤18446744073709551615):bits BinOp.or IntKind.u64 x 1=2*(x / 2)+1:=by
 rw[u64_or _ _ (by omega) (by omega) (by omega) (by omega)]
 have h:x.toNat ||| (1:Int).toNat=2*(x.toNat / 2)+1:=by
  rcases Nat.mod_two_eq_zero_or_one x.toNat with h|h
  ·rw[show (1:Int).toNat=1 from rfl,nat_join 1 _ _ (by omega) (by omega)];omega
  ·have e:x.toNat=(2*(x.toNat / 2)) ||| 1:=by rw[nat_join 1 _ _ (by omega) (by omega)];omega
   rw[show (1:Int).toNat=1 from rfl]
   conv=>lhs;rw[e,Nat.or_assoc,Nat.or_self]
   rw[nat_join 1 _ _ (by omega) (by omega)]
 rw[h];omega
theorem two7 (m:Nat):((2 ^ (7*m):Nat):Int)=p7 m:=by
 induction m with
 | zero=>rfl
 | succ m ih =>
  rw[show 7*(m+1)=7*m+7 from by omega,Nat.pow_add,p7,← ih]
  simp only[Nat.reducePow];omega
theorem xrn (x:Int) (n:Nat) (x0:0≤x) (x1:x≤18446744073709551615) (h:Len n (2*(x / 2)+1)):(n+6) / 7=(enc x).length:=by
 obtain⟨h64,h⟩:=h
 have hu:=xvs x x1
 have hd:=xvq x
 have hl:=xdo x
 generalize (enc x).length=m at *
 rcases h with ⟨rfl,h⟩|⟨hn,ha,hb⟩
 ·omega
 have h1:n≤7*m:=by
  rcases Nat.lt_or_ge (7*m) n with hc|hc
  ·have:=Nat.pow_le_pow_right (by omega:0<2) (by omega:7*m≤n - 1)
   have e:=two7 m
   have ev:p7 m % 2=0:=by
    obtain⟨k,rfl⟩:∃ k,m=k+1:=⟨m - 1,by omega⟩
    rw[p7];omega
   omega
  ·exact hc
 have h2:7*(m - 1)<n:=by
  rcases Nat.lt_or_ge (7*(m - 1)) n with hc|hc
  ·exact hc
  ·have:=Nat.pow_le_pow_right (by omega:0<2) hc
   have e:=two7 (m - 1)
   by_cases hm:2≤m
   ·have:=hd hm
    omega
   ·omega
 omega
theorem xgz (x:Int) (w:World) (x0:0≤x) (x1:x≤18446744073709551615):Calls Tryz.prog 210 #[.int .u64 x] w fun e w'=>e=.returned (.int .i64 (enc x).length)∧w=w':=by
 have ho:=xvK x x0 x1
 go_enter Tryz.func210,Tryz.ntmps210
 go_wp2_with fail
 refine(xil _ _ (by omega) (by omega)).mono ?_
 rintro e w' ⟨⟨n,rfl,hn⟩,rfl⟩
 have hs:=xrn x n x0 x1 hn
 have h64:=hn.1
 clear hn ho
 go_wp2
 go_ret
 refine⟨xav ?_,rfl⟩
 omega
theorem xj6:(Tryz.prog.info? 5).map (fun i=>(i.zero,i.size,i.bytes))=some (some (.int .u8 0),1,1):=by kernel_rfl
theorem xhW (x:Addr) (j:Nat):(x.add j).block=x.block:=by unfold Addr.add;split <;> rfl
def xaI (w:World) (v:Value) (l:List Int):Prop :=
 ∃ a cap,v=.slice a l.length cap∧l.length≤cap∧cap≤maxLen∧(0<l.length→∃ x:Addr,a=some x∧x.block<w.heap.size∧∀ i,i<l.length→w.cell? (x.add i)=some (.int .u8 (l.getD i 0)))
def Own (w:World) (B:Nat) (v:Value) (l:List Int):Prop:=w.ownsRow B 5 1 v l.length (l.map (Value.int .u8))
theorem Own.snoc {w':World} {B:Nat} {v':Value} {l:List Int} {c:Int} (hs:w'.ownsRow B 5 1 v' (l.length+1) (l.map (Value.int .u8)++[.int .u8 c])):Own w' B v' (l++[c]):=by
 unfold Own
 rw[List.length_append,List.map_append]
 exact hs
theorem xcw {w2:World} {g m:Nat} {l:List Int} (h:w2.heap[g]?=some (.cells (splice (List.replicate (l.length+m) (Value.int .u8 0)) 0 (l.map (Value.int .u8))).toArray 5 (0,0))) (hl:l.length+m≤maxLen):Own w2 g (.slice (some ⟨g,0,none⟩) l.length (l.length+m)) l:=by
 refine⟨by simp,.inr ⟨g,l.length+m,_,rfl,Nat.le_refl _,h,by omega,hl,?_,?_⟩⟩
 ·rw[List.size_toArray,length_splice _ _ _ (by simp)];simp
 ·simp[splice]
def xkC (w:World) (l:List Int) (e:Ending) (w':World):Prop:=∃ v,e=.returned v∧Own w' w.heap.size v l∧Below w.heap.size w w'
theorem xsq (y:Int) (y0:0≤y):bits BinOp.or IntKind.u8 (y % 256) 128=y % 128+128:=by
 rw[u8_or _ _ (by omega) (by omega) (by omega) (by omega)]
 have h:(y % 256).toNat ||| (128:Int).toNat=128+(y % 128).toNat:=by
  have e:(y % 256).toNat=(if y % 256<128 then 0 else 128) ||| (y % 128).toNat:=by
   split
   ·rw[Nat.zero_or];omega
   ·rw[nat_join 7 _ _ (by omega) (by omega)];omega
  rw[e,show (128:Int).toNat=128 from rfl]
  split
  ·rw[Nat.zero_or,Nat.or_comm,nat_join 7 _ _ (by omega) (by omega)]
  ·rw[Nat.or_comm,← Nat.or_assoc,Nat.or_self,nat_join 7 _ _ (by omega) (by omega)]
 rw[h];omega
def xvd (B:Nat) (w:World) (l:List Int) (e:Ending) (w':World):Prop:=∃ v,e=.returned v∧Own w' B v l∧Below B w w'
theorem xow (B:Nat) (v:Value) (l:List Int) (x:Int) (w:World) (ho:Own w B v l) (hB:B≤w.heap.size) (hl:l.length≤1000000) (x0:0≤x) (x1:x≤18446744073709551615) :
  Calls Tryz.prog 212 #[v,.int .u64 x] w (xvd B w (l++enc x)):=by
 obtain⟨i0,hi,hz0,hz1,hz2⟩:=xao xj6
 go_enter Tryz.func212,Tryz.ntmps212
 go_wp2
 go_loopw [0,1] (fun v x' wr=>∃ (pre:List Int) (y:Int),x'=.int .u64 y∧0≤y∧y≤18446744073709551615∧Hid (enc x=pre++enc y)∧Own wr B v (l++pre)∧Below B w wr) (fun _ x' _=>(intOf x').toNat)
 case atStart=>exact⟨[],x,rfl,x0,x1,rfl,by simpa using ho,Below.refl _ _⟩
 case round =>
  obtain⟨pre,y,rfl,y0,y1,HY,hown,hbw⟩:=hrel
  have hlen:(l++pre).length≤l.length+10:=by
   have:=congrArg List.length HY.out
   have:=xdo x
   simp only[List.length_append] at *
   omega
  have hsz:=hbw.size
  have hlm:(l++pre).length≤1000010:=by omega
  clear hlen
  generalize hL:(l++pre)=L at *
  have HL:=lH hL;clear hL
  by_cases hlt:128≤y
  ·have hor:=xsq y y0
   have HE:Hid (enc x=(pre++[y % 128+128])++enc (y / 128)):=by
    have:=HY.out
    rw[xvi y hlt y1] at this
    exact lH (by simpa using this)
   go_wp2_with (first|(at_builtin;refine wpList_append_own _ rfl _ _ 23 rfl B 5 i0 (.int .u8 0) 1 1 Tryz.underlying23 hi hz0 hz1 hz2 rfl (by decide) _ _ _ rfl (World.ownsRow.alloc hown _) ⟨wr.heap.size,0,none⟩ 1 1 [.int .u8 (y % 128+128)] rfl rfl ?c1 ?c2 ?c3 ?c4 ?c5 ?_)|fail)
   case c1 =>
    intro j u hj
    match j,hj with
    | 0,hj=>simp at hj;subst hj;simp[Addr.add]
   case c2=>intro u hu;simp at hu;subst hu;rfl
   case c3=>unfold maxLen;omega
   case c4=>omega
   case c5=>rw[World.size_alloc];omega
   intro v' w1 hown' hgrow _
   have hbel:Below B w w1:=(hbw.alloc (by omega) _).grown hgrow (by rw[World.size_alloc];omega) (fun g hg=>(World.ownsRow.lt hown g hg).1)
   have hO':Own w1 B v' (l++(pre++[y % 128+128])):=by
    rw[← List.append_assoc,HL.out]
    exact Own.snoc (by simpa using hown')
   clear hown' hgrow hown hbw HY hor
   go_wp2
   go_roundw
   case rel=>exact⟨_,y / 128,rfl,by omega,by omega,HE,hO',hbel⟩
   case measure=>simp[intOf];omega
  ·have hmod:y % 256=y:=by omega
   have HE:Hid (enc x=pre++[y]):=by
    have:=HY.out
    rw[xv3 y (by omega)] at this
    exact lH this
   go_wp2_with (first|(at_builtin;refine wpList_append_own _ rfl _ _ 23 rfl B 5 i0 (.int .u8 0) 1 1 Tryz.underlying23 hi hz0 hz1 hz2 rfl (by decide) _ _ _ rfl (World.ownsRow.alloc hown _) ⟨wr.heap.size,0,none⟩ 1 1 [.int .u8 y] rfl rfl ?c1 ?c2 ?c3 ?c4 ?c5 ?_)|fail)
   case c2=>rfl
   case c3=>unfold maxLen;omega
   case c4=>omega
   case c5=>omega
   intro v' w1 hown' hgrow _
   have hbel:Below B w w1:=(hbw.alloc (by omega) _).grown hgrow (by rw[World.size_alloc];omega) (fun g hg=>(World.ownsRow.lt hown g hg).1)
   have hO':Own w1 B v' (l++enc x):=by
    rw[HE.out,← List.append_assoc,HL.out]
    exact Own.snoc (by simpa using hown')
   clear hown' hgrow hown hbw HY
   go_wp2
   go_ret
   exact⟨_,rfl,hO',hbel⟩
theorem xli (L m:Nat) (W:World) (h:L+m≤1000100):(Instr.makeSlice 23 (.int .i64 (L:Int)) (.int .i64 ((L:Int)+(m:Int)))).run Tryz.prog W=.ok (.slice (some ⟨W.heap.size,0,none⟩) L (L+m)) (W.alloc (.cells (madeCells #[.int .u8 0] (L+m)) 5)):=by
 obtain⟨i0,hi,hz0,hz1,hz2⟩:=xao xj6
 have:=run_make (P:=Tryz.prog) W 23 5 i0 (.int .u8 0) Tryz.underlying23 hi hz0 .i64 .i64 (L:Int) ((L:Int)+(m:Int)) (by omega) (by omega) (by rw[hz2];omega) (by omega)
 rw[this,hz1]
 simp only[Int.toNat_natCast]
 rw[show ((L:Int)+(m:Int)).toNat=L+m from by omega,Nat.mul_one]
 rfl
def str (l:List Int):ByteArray:=l.foldl (fun r n=>r.push (UInt8.ofNat n.toNat)) ByteArray.empty
theorem xrc (l:List Int) (r:ByteArray):(l.foldl (fun r n=>r.push (UInt8.ofNat n.toNat)) r).data.toList=r.data.toList++l.map (fun n=>UInt8.ofNat n.toNat):=by
 induction l generalizing r with
 | nil=>simp
 | cons n l ih=>rw[List.foldl_cons,ih];simp[ByteArray.push]
theorem xbE (l:List Int):(str l).data.toList=l.map (fun n=>UInt8.ofNat n.toNat):=by
 unfold str;rw[xrc];simp
theorem xa9 (l:List Int):(str l).size=l.length:=by
 have:=congrArg List.length (xbE l)
 simpa using this
theorem xgT (w:World) (v:Value) (l:List Int) (h:xaI w v l):(convert 23 9 v).run Tryz.prog w=.ok (.string (str l)) w:=by
 obtain⟨a,cap,rfl,h1,h2,hc⟩:=h
 rw[run_convert_bytes_string w 23 9 5 a l.length cap Tryz.underlying23 Tryz.underlying5 Tryz.underlying9]
 by_cases h0:0<l.length
 ·obtain⟨x,rfl,hb,hx⟩:=hc h0
  refine run_bytesToString w x l.length cap l ?_
  have:=run_loadCells_list (P:=Tryz.prog) (w:=w) x (l.map (Value.int .u8)) (by
   intro j v hj
   have hjl:j<l.length:=by have:=(List.getElem?_eq_some_iff.1 hj).1;simpa using this
   rw[hx j hjl]
   simpa[hjl] using hj)
  simpa using this
 ·obtain rfl:l=[]:=List.eq_nil_of_length_eq_zero (by omega)
  cases a with
  | none=>rfl
  | some x =>
   have:=run_loadCells_list (P:=Tryz.prog) (w:=w) x [] (by intro j v hj;simp at hj)
   exact run_bytesToString w x 0 cap [] (by simpa using this)
theorem Own.bytesAt {w:World} {B:Nat} {v:Value} {l:List Int} (h:Own w B v l):xaI w v l:=by
 have hlt:=World.ownsRow.lt h
 have h':=h
 obtain⟨hx,hv⟩:=h'
 rcases hv with ⟨rfl,hn⟩|⟨g,cap,cur,rfl,hB,hh,hle,hm,hcs,htk⟩
 ·obtain rfl:l=[]:=List.eq_nil_of_length_eq_zero hn
  exact⟨none,0,rfl,Nat.le_refl _,by simp,fun h=>by simp at h⟩
 ·refine⟨_,cap,rfl,hle,hm,fun _=>⟨_,rfl,(hlt g rfl).2,fun i hi=>?_⟩⟩
  have:=World.ownsRow.cellAt h i (by omega)
  have e:(⟨g,0,none⟩:Addr).add i=⟨g,i,none⟩:=by simp[Addr.add];omega
  rw[e]
  simpa[hi] using this
theorem xaI.below {w w':World} {v:Value} {l:List Int} (h:xaI w v l) (hb:Below w.heap.size w w'):xaI w' v l:=by
 obtain⟨a,cap,rfl,h1,h2,hc⟩:=h
 refine⟨a,cap,rfl,h1,h2,fun h0=>?_⟩
 obtain⟨x,rfl,hx,hcell⟩:=hc h0
 refine⟨x,rfl,Nat.lt_of_lt_of_le hx hb.size,fun i hi=>?_⟩
 rw[← hcell i hi]
 exact hb.cell (p:=x.add i) (by rw[xhW];exact hx)
theorem xtg {w:World} {a:Addr} {v:Value} (h:w.cell? a=some v):a.block<w.heap.size:=by
 rcases Nat.lt_or_ge a.block w.heap.size with h'|h'
 ·exact h'
 ·simp[World.cell?,Array.getElem?_eq_none h'] at h
theorem xah {w w':World} {a:Addr} {v:Value} (hb:Below w.heap.size w w') (h:w.cell? a=some v):w'.cell? a=some v:=(hb.cell (p:=a) (xtg h)).trans h
theorem Own.below {w w':World} {B:Nat} {v:Value} {l:List Int} (h:Own w B v l) (hb:Below w.heap.size w w'):Own w' B v l:=by
 have hlt:=World.ownsRow.lt h
 obtain⟨h1,h2⟩:=h
 refine⟨h1,?_⟩
 rcases h2 with h2|⟨g,cap,cur,hv,hg,hh,r⟩
 ·exact .inl h2
 ·refine .inr ⟨g,cap,cur,hv,hg,?_,r⟩
  rw[hb.block g (hlt g (by rw[hv];rfl)).2];exact hh
def xe7 (w:World) (v:Value) (l:List Int):Prop :=
 ∃ a cap,v=.slice a l.length cap∧∀ k,k<l.length→∃ b off,a=some ⟨b,off,none⟩∧b<w.heap.size∧w.cell? ⟨b,off+k,none⟩=some (.int .u64 (l.getD k 0))
theorem xe7.below {w w':World} {v:Value} {l:List Int} (h:xe7 w v l) (hb:Below w.heap.size w w'):xe7 w' v l:=by
 obtain⟨a,cap,rfl,hc⟩:=h
 refine⟨a,cap,rfl,fun k hk=>?_⟩
 obtain⟨b,off,ha,hx,hcell⟩:=hc k hk
 exact⟨b,off,ha,Nat.lt_of_lt_of_le hx hb.size,xah hb hcell⟩
def xw1 (l:List Int):Prop:=∀ k,k<l.length→0≤l.getD k 0∧l.getD k 0≤18446744073709551615
def encs:List Int→List Int
 | []=>[]
 | x :: t=>enc x++encs t
theorem xfv (l:List Int) (x:Int):encs (l++[x])=encs l++enc x:=by
 induction l with
 | nil=>simp[encs]
 | cons y t ih=>simp[encs,ih]
theorem xks (l:List Int):(encs l).length≤10*l.length:=by
 induction l with
 | nil=>simp[encs]
 | cons y t ih =>
  have:=xdo y
  simp only[encs,List.length_append,List.length_cons];omega
theorem xfd (l:List Int) (k:Nat) (h:k<l.length):l.take (k+1)=l.take k++[l.getD k 0]:=by
 rw[List.take_succ_eq_append_getElem h];simp[h]
theorem xhZ (l:List Int) (k:Nat) (h:k<l.length):encs (l.take (k+1))=encs (l.take k)++enc (l.getD k 0):=by
 rw[xfd l k h,xfv]
theorem xlN (a b:List Int):str a++str b=str (a++b):=by
 apply ByteArray.ext
 apply Array.ext'
 rw[ByteArray.data_append,Array.toList_append,xbE,xbE,xbE,List.map_append]
theorem xjk (m:Nat) (W:World) (h:m≤1000100):(Instr.makeSlice 23 (.int .i64 0) (.int .i64 (m:Int))).run Tryz.prog W=.ok (.slice (some ⟨W.heap.size,0,none⟩) 0 m) (W.alloc (.cells (madeCells #[.int .u8 0] m) 5)):=by
 have:=xli 0 m W (by omega)
 simpa using this
theorem xpE (w:World) (m:Nat) (h:m≤1000100):Own (w.alloc (.cells (madeCells #[.int .u8 0] m) 5)) w.heap.size (.slice (some ⟨w.heap.size,0,none⟩) 0 m) []:=by
 have:=xcw (w2:=w.alloc (.cells (madeCells #[.int .u8 0] m) 5)) (g:=w.heap.size) (m:=m) (l:=[]) (by
  rw[heap_alloc_new]
  have:=toList_madeCells_one (.int .u8 0) m
  simp[splice,← this]) (by simp;unfold maxLen;omega)
 simpa using this
end Go.Proofs.YtjinnigjfopbcaaGreatDoor
namespace Go.Proofs.YtjinnigjfopbcaaGreatDoor
set_option linter.unusedVariables false
set_option linter.unusedSimpArgs false
def gE (l:List En) (k:Nat):En:=l.getD k xcT
def nxE (l:List En) (k:Nat):Int:=((gE l k).off+(gE l k).ln) % 18446744073709551616
def xdf (l:List En) (c k:Nat):Int :=
 if c=0 then (if k=0 then (gE l 0).id else ((gE l k).id - (gE l (k - 1)).id) % 18446744073709551616)
 else if c=1 then (gE l k).rn else if c=2 then (gE l k).ln
 else if 0<k∧(gE l k).off=nxE l (k - 1) then 0 else ((gE l k).off+1) % 18446744073709551616
def xcv (l:List En) (c k:Nat) (x:Int):Int :=
 if c=0∧0<k∧18446744073709551616≤(gE l (k - 1)).id+x then 11
 else if (c=1∨c=2)∧4294967295<x then 11
 else if c=3∧k=0∧x=0 then 4
 else if c=3∧0<k∧0<x∧x - 1=nxE l (k - 1) then 4 else 0
def xi9 (l:List En) (c k:Nat) (x:Int):En :=
 if c=0 then { gE l k with id:=if 0<k then ((gE l (k - 1)).id+x) % 18446744073709551616 else x }
 else if c=1 then { gE l k with rn:=x % 4294967296 }
 else if c=2 then { gE l k with ln:=x % 4294967296 }
 else { gE l k with off:=if x=0 then nxE l (k - 1) else x - 1 }
def xeI (l:List En) (c k:Nat) (x:Int):List En:=l.set k (xi9 l c k x)
theorem xcp (l:List En) (c k:Nat) (x:Int):(xeI l c k x).length=l.length:=by simp[xeI]
theorem xhg (l:List En) (c k:Nat) (x:Int) (j:Nat) (hk:k<l.length):gE (xeI l c k x) j=if j=k then xi9 l c k x else gE l j:=by
 unfold gE xeI
 rw[List.getD_eq_getElem?_getD,List.getD_eq_getElem?_getD,List.getElem?_set]
 by_cases h:j=k
 ·subst h;simp[hk]
 ·rw[if_neg (fun e=>h e.symm),if_neg h]
theorem xtz (l:List En) (k:Nat):xdf l 0 k=if k=0 then (gE l 0).id else ((gE l k).id - (gE l (k - 1)).id) % 18446744073709551616:=by simp[xdf]
theorem xup (l:List En) (k:Nat):xdf l 1 k=(gE l k).rn:=by simp[xdf]
theorem xui (l:List En) (k:Nat):xdf l 2 k=(gE l k).ln:=by simp[xdf]
theorem xsZ (l:List En) (k:Nat):xdf l 3 k=if 0<k∧(gE l k).off=nxE l (k - 1) then 0 else ((gE l k).off+1) % 18446744073709551616:=by simp[xdf]
theorem xuT (l:List En) (k:Nat) (x:Int):xi9 l 0 k x={ gE l k with id:=if 0<k then ((gE l (k - 1)).id+x) % 18446744073709551616 else x }:=by simp[xi9]
theorem xv9 (l:List En) (k:Nat) (x:Int):xi9 l 1 k x={ gE l k with rn:=x % 4294967296 }:=by simp[xi9]
theorem xwf (l:List En) (k:Nat) (x:Int):xi9 l 2 k x={ gE l k with ln:=x % 4294967296 }:=by simp[xi9]
theorem xv7 (l:List En) (k:Nat) (x:Int):xi9 l 3 k x={ gE l k with off:=if x=0 then nxE l (k - 1) else x - 1 }:=by simp[xi9]
def Agr (n:Nat) (l m:List En) (i:Nat):Prop:=∀ j,j<n→(j<i→(gE l j).id=(gE m j).id)∧(n+j<i→(gE l j).rn=(gE m j).rn)∧(2*n+j<i→(gE l j).ln=(gE m j).ln)∧(3*n+j<i→(gE l j).off=(gE m j).off)
theorem Agr.symm {n:Nat} {l m:List En} {i:Nat} (h:Agr n l m i):Agr n m l i:=fun j hj=>⟨fun a=>((h j hj).1 a).symm,fun a=>((h j hj).2.1 a).symm,fun a=>((h j hj).2.2.1 a).symm,fun a=>((h j hj).2.2.2 a).symm⟩
theorem Agr.all {n:Nat} {l m:List En} (h:Agr n l m (4*n)) (hl:l.length=n) (hm:m.length=n):l=m:=by
 apply List.ext_getElem (by omega)
 intro j h1 h2
 have a:=h j (by omega)
 have e1:gE l j=l[j]:=by unfold gE;rw[List.getD_eq_getElem?_getD,List.getElem?_eq_getElem h1];rfl
 have e2:gE m j=m[j]:=by unfold gE;rw[List.getD_eq_getElem?_getD,List.getElem?_eq_getElem h2];rfl
 rw[← e1,← e2,En.eq_iff]
 exact⟨a.1 (by omega),a.2.2.2 (by omega),a.2.2.1 (by omega),a.2.1 (by omega)⟩
theorem xfE {n i:Nat} (h:i<4*n):(i / n=0∧i % n=i∧i<n)∨(i / n=1∧i=n+i % n∧i % n<n)∨(i / n=2∧i=2*n+i % n∧i % n<n)∨(i / n=3∧i=3*n+i % n∧i % n<n):=by
 have hn:0<n:=by omega
 have h1:i / n<4:=(Nat.div_lt_iff_lt_mul hn).2 h
 have h2:=Nat.mod_lt i hn
 have h3:=Nat.div_add_mod i n
 generalize i / n=c at h1 h3 ⊢
 generalize i % n=k at h2 h3 ⊢
 rcases(show c=0∨c=1∨c=2∨c=3 by omega) with rfl|rfl|rfl|rfl
 ·exact .inl ⟨rfl,by omega,by omega⟩
 ·exact .inr (.inl ⟨rfl,by omega,h2⟩)
 ·exact .inr (.inr (.inl ⟨rfl,by omega,h2⟩))
 ·exact .inr (.inr (.inr ⟨rfl,by omega,h2⟩))
theorem xt6 {n:Nat} {l m:List En} {i j:Nat} (h:Agr n l m i) (hj:j<i) (hi:j<4*n):xdf l (j / n) (j % n)=xdf m (j / n) (j % n):=by
 rcases xfE hi with ⟨hc,hk,h1⟩|⟨hc,hk,h1⟩|⟨hc,hk,h1⟩|⟨hc,hk,h1⟩ <;> rw[hc] <;> generalize j % n=k at *
 ·rw[xtz,xtz,(h 0 (by omega)).1 (by omega),(h k (by omega)).1 (by omega),(h (k - 1) (by omega)).1 (by omega)]
 ·rw[xup,xup];exact(h k h1).2.1 (by omega)
 ·rw[xui,xui];exact(h k h1).2.2.1 (by omega)
 ·rw[xsZ,xsZ,(h k h1).2.2.2 (by omega)]
  by_cases h0:0<k
  ·have e:nxE l (k - 1)=nxE m (k - 1):=by
    unfold nxE
    rw[(h (k - 1) (by omega)).2.2.2 (by omega),(h (k - 1) (by omega)).2.2.1 (by omega)]
   rw[e]
  ·simp[h0]
theorem xut {n:Nat} {l:List En} (x:Int) {i:Nat} (hl:l.length=n) (hi:i<4*n):Agr n l (xeI l (i / n) (i % n) x) i:=by
 intro j hj
 have hk:i % n<l.length:=by rw[hl];exact Nat.mod_lt _ (by omega)
 rw[xhg _ _ _ _ _ hk]
 by_cases e:j=i % n
 ·rw[if_pos e]
  rcases xfE hi with ⟨hc,h0,h1⟩|⟨hc,h0,h1⟩|⟨hc,h0,h1⟩|⟨hc,h0,h1⟩ <;> rw[hc] <;> generalize i % n=k at*<;> subst e <;> simp only[xi9] <;> refine⟨fun a=>?_,fun a=>?_,fun a=>?_,fun a=>?_⟩ <;> first|rfl|omega|simp
 ·rw[if_neg e]
  exact⟨fun _=>rfl,fun _=>rfl,fun _=>rfl,fun _=>rfl⟩
theorem xnu {n:Nat} {l m:List En} {i:Nat} (hl:l.length=n) (hi:i<4*n) (hm:∀ j,j<n→xaO (gE m j)∧(gE m j).off≤1099511627776) (h:Agr n l m i):Agr n (xeI l (i / n) (i % n) (xdf m (i / n) (i % n))) m (i+1):=by
 intro j hj
 have hk:i % n<l.length:=by rw[hl];exact Nat.mod_lt _ (by omega)
 rw[xhg _ _ _ _ _ hk]
 have a:=h j hj
 by_cases e:j=i % n
 ·rw[if_pos e]
  have b:=hm j hj
  unfold xaO at b
  rcases xfE hi with ⟨hc,h0,h1⟩|⟨hc,h0,h1⟩|⟨hc,h0,h1⟩|⟨hc,h0,h1⟩ <;> rw[hc] <;> generalize i % n=k at*<;> subst e
  ·refine⟨fun _=>?_,fun q=>by omega,fun q=>by omega,fun q=>by omega⟩
   rw[xuT,xtz]
   simp only
   by_cases h2:j=0
   ·subst h2;simp
   ·rw[if_pos (by omega),if_neg h2,(h (j - 1) (by omega)).1 (by omega)]
    have:=hm (j - 1) (by omega)
    unfold xaO at this
    omega
  ·refine⟨fun q=>a.1 (by omega),fun _=>?_,fun q=>by omega,fun q=>by omega⟩
   rw[xv9,xup]
   simp only
   omega
  ·refine⟨fun q=>a.1 (by omega),fun q=>a.2.1 (by omega),fun _=>?_,fun q=>by omega⟩
   rw[xwf,xui]
   simp only
   omega
  ·refine⟨fun q=>a.1 (by omega),fun q=>a.2.1 (by omega),fun q=>a.2.2.1 (by omega),fun _=>?_⟩
   rw[xv7,xsZ]
   simp only
   by_cases h2:0<j∧(gE m j).off=nxE m (j - 1)
   ·rw[if_pos h2,if_pos rfl,h2.2]
    unfold nxE
    rw[(h (j - 1) (by omega)).2.2.2 (by omega),(h (j - 1) (by omega)).2.2.1 (by omega)]
   ·rw[if_neg h2,if_neg (by omega)]
    omega
 ·rw[if_neg e]
  have hne:∀ q:Nat,q≤3→q*n+j=i→j=i % n:=by
   intro q _ hq
   rw[← hq,Nat.mul_comm,Nat.mul_add_mod,Nat.mod_eq_of_lt hj]
  refine⟨fun q=>a.1 ?_,fun q=>a.2.1 ?_,fun q=>a.2.2.1 ?_,fun q=>a.2.2.2 ?_⟩
  ·have:¬ (0*n+j=i):=fun w=>e (hne 0 (by omega) w)
   omega
  ·have:¬ (1*n+j=i):=fun w=>e (hne 1 (by omega) w)
   omega
  ·have:¬ (2*n+j=i):=fun w=>e (hne 2 (by omega) w)
   omega
  ·have:¬ (3*n+j=i):=fun w=>e (hne 3 (by omega) w)
   omega
def xwj (n:Nat) (m:List En):Prop:=(∀ j,j<n→xaO (gE m j)∧(gE m j).off≤1099511627776)∧∀ j,j+1<n→(gE m j).id<(gE m (j+1)).id
theorem xpJ (p:Int) (l:List En) (h:xb9 p l=0) (hm:∀ e ∈ l,xaO e) (j:Nat) (hj:j+1<l.length):(gE l j).id<(gE l (j+1)).id:=by
 induction l generalizing p j with
 | nil=>simp at hj
 | cons e l ih =>
  have a:=xby p e l h
  cases j with
  | zero =>
   cases l with
   | nil=>simp at hj
   | cons e' l' =>
    have b:=xby _ _ _ a.2.2
    have c:=xi5 e (hm e (List.mem_cons_self ..)) a.1
    show e.id<e'.id
    omega
  | succ j=>exact ih (laN e) a.2.2 (fun x hx=>hm x (List.mem_cons_of_mem _ hx)) j (by simpa using hj)
theorem xev (l:List En) (j:Nat) (hj:j<l.length):gE l j ∈ l:=by
 unfold gE
 rw[List.getD_eq_getElem?_getD,List.getElem?_eq_getElem hj]
 exact List.getElem_mem hj
theorem xtn (l:List En) (hm:∀ e ∈ l,xaO e) (h:xaC l=0):xwj l.length l:=by
 unfold xaC at h
 split at h
 ·omega
 refine⟨fun j hj=>⟨hm _ (xev l j hj),?_⟩,fun j hj=>xpJ _ l h hm j hj⟩
 exact(xgr _ (xcZ _ l hm h _ (xev l j hj)).2).2.2.2.2
theorem xor {n:Nat} {l m:List En} {i:Nat} (hi:i<4*n) (hm:xwj n m) (h:Agr n l m i):xcv l (i / n) (i % n) (xdf m (i / n) (i % n))=0:=by
 obtain⟨h1,h2⟩:=hm
 unfold xaO at h1
 rcases xfE hi with ⟨hc,h0,hk⟩|⟨hc,h0,hk⟩|⟨hc,h0,hk⟩|⟨hc,h0,hk⟩ <;> rw[hc] <;> generalize i % n=k at *
 ·rw[xtz]
  unfold xcv
  rw[if_neg,if_neg (by omega),if_neg (by omega),if_neg (by omega)]
  rintro⟨-,hk0,hb⟩
  rw[if_neg (by omega),(h (k - 1) (by omega)).1 (by omega)] at hb
  have a:=h1 k (by omega)
  have b:=h1 (k - 1) (by omega)
  have c:=h2 (k - 1) (by omega)
  rw[show k - 1+1=k from by omega] at c
  omega
 ·rw[xup]
  have a:=h1 k hk
  unfold xcv
  rw[if_neg (by omega),if_neg (by omega),if_neg (by omega),if_neg (by omega)]
 ·rw[xui]
  have a:=h1 k hk
  unfold xcv
  rw[if_neg (by omega),if_neg (by omega),if_neg (by omega),if_neg (by omega)]
 ·rw[xsZ]
  have a:=h1 k hk
  unfold xcv
  rw[if_neg (by omega),if_neg (by omega)]
  by_cases hz:0<k∧(gE m k).off=nxE m (k - 1)
  ·rw[if_pos hz,if_neg (by omega),if_neg (by omega)]
  ·rw[if_neg hz,if_neg (by omega),if_neg]
   rintro⟨-,hk0,-,he⟩
   refine hz ⟨hk0,?_⟩
   have e:nxE l (k - 1)=nxE m (k - 1):=by
    unfold nxE
    rw[(h (k - 1) (by omega)).2.2.2 (by omega),(h (k - 1) (by omega)).2.2.1 (by omega)]
   rw[e] at he
   omega
theorem xr4 {n:Nat} {m:List En} {i:Nat} (hi:i<4*n) (hm:∀ j,j<n→xaO (gE m j)):0≤xdf m (i / n) (i % n)∧xdf m (i / n) (i % n)≤18446744073709551615:=by
 unfold xaO at hm
 rcases xfE hi with ⟨hc,h0,hk⟩|⟨hc,h0,hk⟩|⟨hc,h0,hk⟩|⟨hc,h0,hk⟩ <;> rw[hc] <;> generalize i % n=k at *
 ·rw[xtz]
  have:=hm 0 (by omega)
  split <;> omega
 ·rw[xup];have:=hm k hk;omega
 ·rw[xui];have:=hm k hk;omega
 ·rw[xsZ];split <;> omega
theorem xtj {n:Nat} {l:List En} {i:Nat} {x:Int} (hl:l.length=n) (hi:i<4*n) (hm:∀ j,j<n→xaO (gE l j)) (hx:0≤x∧x≤18446744073709551615) (h:xcv l (i / n) (i % n) x=0):xdf (xeI l (i / n) (i % n) x) (i / n) (i % n)=x:=by
 have hk':i % n<l.length:=by rw[hl];exact Nat.mod_lt _ (by omega)
 have he:=fun j=>xhg l (i / n) (i % n) x j hk'
 generalize xeI l (i / n) (i % n) x=l' at *
 unfold xaO at hm
 rcases xfE hi with ⟨hc,h0,hk⟩|⟨hc,h0,hk⟩|⟨hc,h0,hk⟩|⟨hc,h0,hk⟩ <;> rw[hc] at h he ⊢ <;> generalize i % n=k at*<;> unfold xcv at h <;> have e1:=he k <;> rw[if_pos rfl] at e1
 ·rw[xtz]
  rw[xuT] at e1
  by_cases z:k=0
  ·rw[if_pos z]
   subst z
   rw[e1]
   simp
  ·have e2:=he (k - 1)
   rw[if_neg (show ¬ (k - 1=k) by omega)] at e2
   rw[if_neg z,e1,e2]
   simp only
   have:=hm (k - 1) (by omega)
   rw[if_pos (show 0<k by omega)]
   split at h
   ·omega
   ·omega
 ·rw[xup,e1,xv9]
  simp only
  split at h
  ·omega
  split at h
  ·omega
  omega
 ·rw[xui,e1,xwf]
  simp only
  split at h
  ·omega
  split at h
  ·omega
  omega
 ·rw[xv7] at e1
  rw[xsZ,e1]
  simp only
  split at h
  ·omega
  split at h
  ·omega
  split at h
  ·omega
  rename_i g3
  split at h
  ·omega
  rename_i g4
  by_cases z:0<k
  ·have e:nxE l' (k - 1)=nxE l (k - 1):=by
    have e2:=he (k - 1)
    rw[if_neg (show ¬ (k - 1=k) by omega)] at e2
    unfold nxE
    rw[e2]
   rw[e]
   by_cases z1:x=0
   ·rw[if_pos z1,if_pos ⟨z,rfl⟩,z1]
   ·rw[if_neg z1,if_neg (by rintro⟨-,q⟩;exact g4 ⟨rfl,z,by omega,q⟩)]
    omega
  ·rw[if_neg (by rintro⟨q,-⟩;exact z q),if_neg (by omega)]
   omega
theorem xiI {n:Nat} {l:List En} {i:Nat} {x:Int} (hl:l.length=n) (hi:i<4*n) (hm:∀ j,j<n→xaO (gE l j)) (hx:0≤x∧x≤18446744073709551615):∀ j,j<n→xaO (gE (xeI l (i / n) (i % n) x) j):=by
 intro j hj
 have hk':i % n<l.length:=by rw[hl];exact Nat.mod_lt _ (by omega)
 rw[xhg _ _ _ _ _ hk']
 split
 ·have a:=hm (i % n) (by omega)
  unfold xaO at a ⊢
  rcases xfE hi with ⟨hc,h0,hk⟩|⟨hc,h0,hk⟩|⟨hc,h0,hk⟩|⟨hc,h0,hk⟩ <;> rw[hc] <;> generalize i % n=k at *
  ·rw[xuT];simp only;split <;> omega
  ·rw[xv9];simp only;omega
  ·rw[xwf];simp only;omega
  ·rw[xv7];simp only;unfold nxE;split <;> omega
 ·exact hm j hj
def xfZ (x:Int):List UInt8:=(enc x).map ub
theorem xj0 (x:Int):1≤(xfZ x).length∧(xfZ x).length≤10:=by
 unfold xfZ;rw[List.length_map];exact xdo x
def xbd (L:List En) (n:Nat):Nat→Nat→List UInt8
 | 0,_=>[]
 | m+1,i=>xfZ (xdf L (i / n) (i % n))++xbd L n m (i+1)
theorem xnZ (L:List En) (n m i:Nat):(xbd L n m i).length≤10*m:=by
 induction m generalizing i with
 | zero=>simp[xbd]
 | succ m ih =>
  rw[xbd,List.length_append]
  have:=ih (i+1)
  have:=xj0 (xdf L (i / n) (i % n))
  omega
def xbP (l:List En):List UInt8:=xfZ l.length++xbd l l.length (4*l.length) 0
def goD (t:List UInt8) (n:Nat):Nat→Nat→List En→Nat→List En × Nat × Int
 | 0,_,l,a=>(l,a,0)
 | m+1,i,l,a =>
  if xbo (t.drop a)≠0 then ([],a,xbo (t.drop a)) else
  if xcv l (i / n) (i % n) (xaW (t.drop a))≠0 then ([],a,xcv l (i / n) (i % n) (xaW (t.drop a))) else
  goD t n m (i+1) (xeI l (i / n) (i % n) (xaW (t.drop a))) (a+(xaG 10 (t.drop a)+1))
theorem xrD {n:Nat} {L:List En} (hL:L.length=n) (hr:xwj n L) (r:List UInt8):∀ (m i:Nat) (l:List En) (pre:List UInt8),i+m=4*n→l.length=n→Agr n l L i →
  goD (pre++(xbd L n m i++r)) n m i l pre.length=(L,(pre++xbd L n m i).length,0):=by
 intro m
 induction m with
 | zero =>
  intro i l pre hi hl ha
  rw[show i=4*n from by omega] at ha
  rw[ha.all hl hL]
  simp[goD,xbd]
 | succ m ih =>
  intro i l pre hi hl ha
  have hb:=xr4 (i:=i) (by omega) (fun j hj=>(hr.1 j hj).1)
  obtain⟨e1,e2,e3⟩:=xjL _ hb.1 hb.2 (xbd L n m (i+1)++r)
  have hd:(pre++(xbd L n (m+1) i++r)).drop pre.length=(enc (xdf L (i / n) (i % n))).map ub++(xbd L n m (i+1)++r):=by
   rw[List.drop_left,xbd,List.append_assoc];rfl
  rw[goD,hd,e1,e3,if_neg (by simp),if_neg (by rw[xor (by omega) hr ha];simp)]
  have hz:pre.length+(xaG 10 ((enc (xdf L (i / n) (i % n))).map ub++(xbd L n m (i+1)++r))+1)=(pre++xfZ (xdf L (i / n) (i % n))).length:=by
   unfold xjF at e2
   rw[List.length_append]
   unfold xfZ
   rw[List.length_map]
   omega
  rw[hz]
  have hq:pre++(xbd L n (m+1) i++r)=(pre++xfZ (xdf L (i / n) (i % n)))++(xbd L n m (i+1)++r):=by
   rw[xbd];simp only[List.append_assoc]
  rw[hq,ih (i+1) _ _ (by omega) (by rw[xcp,hl]) (xnu hl (by omega) hr.1 ha),xbd]
  simp only[List.append_assoc]
theorem xur (t:List UInt8) (n:Nat):∀ (m i:Nat) (l:List En) (a:Nat),a≤t.length →
  ((goD t n m i l a).2.2≠0→(goD t n m i l a).1=[])∧a≤(goD t n m i l a).2.1∧(goD t n m i l a).2.1≤t.length:=by
 intro m
 induction m with
 | zero=>intro i l a ha;simp[goD];exact ha
 | succ m ih =>
  intro i l a ha
  rw[goD]
  split
  ·simp;exact ha
  ·rename_i he
   split
   ·simp;exact ha
   ·have hk:=(xcM _ (by simpa using he)).2.1
    rw[List.length_drop] at hk
    have:=ih (i+1) (xeI l (i / n) (i % n) (xaW (t.drop a))) (a+(xaG 10 (t.drop a)+1)) (by omega)
    refine⟨this.1,by omega,this.2.2⟩
theorem xpa (t:List UInt8) (n:Nat):∀ (m i:Nat) (l:List En) (a:Nat),i+m=4*n→l.length=n→(∀ j,j<n→xaO (gE l j))→a≤t.length→(goD t n m i l a).2.2=0 →
  Agr n l (goD t n m i l a).1 i∧(goD t n m i l a).1.length=n∧(∀ j,j<n→xaO (gE (goD t n m i l a).1 j))∧a≤(goD t n m i l a).2.1∧(goD t n m i l a).2.1≤t.length∧(t.drop a).take ((goD t n m i l a).2.1 - a)=xbd (goD t n m i l a).1 n m i:=by
 intro m
 induction m with
 | zero =>
  intro i l a hi hl hm ha h
  simp[goD,xbd,hl,ha]
  exact⟨fun j _=>⟨fun _=>rfl,fun _=>rfl,fun _=>rfl,fun _=>rfl⟩,hm⟩
 | succ m ih =>
  intro i l a hi hl hm ha h
  rw[goD] at h ⊢
  by_cases he:¬ xbo (t.drop a)=0
  ·rw[if_pos he] at h;exact absurd h he
  have he:=Classical.not_not.1 he
  rw[if_neg (by simpa using he)] at h ⊢
  by_cases hw:¬ xcv l (i / n) (i % n) (xaW (t.drop a))=0
  ·rw[if_pos hw] at h;exact absurd h hw
  have hw:=Classical.not_not.1 hw
  rw[if_neg (by simpa using hw)] at h ⊢
  have hx:=xdl _ he
  have hk:=(xcM _ he).2.1
  rw[List.length_drop] at hk
  have hp:=xtj hl (by omega) hm hx hw
  have q:=ih (i+1) (xeI l (i / n) (i % n) (xaW (t.drop a))) (a+(xaG 10 (t.drop a)+1)) (by omega) (by rw[xcp,hl]) (xiI hl (by omega) hm hx) (by omega) h
  generalize goD t n m (i+1) (xeI l (i / n) (i % n) (xaW (t.drop a))) (a+(xaG 10 (t.drop a)+1))=R at q ⊢
  obtain⟨L,b,e⟩:=R
  obtain⟨q1,q2,q3,q4,q5,q6⟩:=q
  simp only at q1 q2 q3 q4 q5 q6 ⊢
  have hA:=xut (xaW (t.drop a)) hl (show i<4*n by omega)
  refine⟨fun j hj=>?_,q2,q3,by omega,q5,?_⟩
  ·have u:=hA j hj
   have v:=q1 j hj
   exact⟨fun z=>(u.1 z).trans (v.1 (by omega)),fun z=>(u.2.1 z).trans (v.2.1 (by omega)),fun z=>(u.2.2.1 z).trans (v.2.2.1 (by omega)),fun z=>(u.2.2.2 z).trans (v.2.2.2 (by omega))⟩
  ·have hc:=xt6 q1 (Nat.lt_succ_self i) (show i<4*n by omega)
   rw[xbd,← hc,hp,← q6]
   have hen:xfZ (xaW (t.drop a))=(t.drop a).take (xaG 10 (t.drop a)+1):=by
    unfold xfZ
    rw[xhu _ he,List.map_map]
    conv=>rhs;rw[← List.map_id ((t.drop a).take (xaG 10 (t.drop a)+1))]
    exact List.map_congr_left fun c _=>xoc c
   rw[hen,← List.drop_drop]
   generalize t.drop a=T at *
   rw[show b - a=(xaG 10 T+1)+(b - (a+(xaG 10 T+1))) from by omega,List.take_add]
def xax (n:Nat):List En:=List.replicate n xcT
theorem xqM (n j:Nat):gE (xax n) j=xcT:=by
 unfold gE xax
 rw[List.getD_eq_getElem?_getD,List.getElem?_replicate]
 split <;> rfl
theorem xmq (n:Nat) (L:List En):Agr n (xax n) L 0:=fun j _=>⟨fun h=>absurd h (by omega),fun h=>absurd h (by omega),fun h=>absurd h (by omega),fun h=>absurd h (by omega)⟩
theorem xh3 (n:Nat):∀ j,j<n→xaO (gE (xax n) j):=by
 intro j _
 rw[xqM]
 unfold xaO xcT
 simp
def xbR (t:List UInt8):List En × Nat × Int :=
 if 65536<t.length then ([],0,5) else
 if xbo t≠0 then ([],0,xbo t) else
 if 4096<xaW t then ([],0,21) else
 if (goD t (xaW t).toNat (4*(xaW t).toNat) 0 (xax (xaW t).toNat) (xaG 10 t+1)).2.2≠0 then goD t (xaW t).toNat (4*(xaW t).toNat) 0 (xax (xaW t).toNat) (xaG 10 t+1) else
 if (goD t (xaW t).toNat (4*(xaW t).toNat) 0 (xax (xaW t).toNat) (xaG 10 t+1)).2.1<t.length then ([],(goD t (xaW t).toNat (4*(xaW t).toNat) 0 (xax (xaW t).toNat) (xaG 10 t+1)).2.1,4) else
 if xaC (goD t (xaW t).toNat (4*(xaW t).toNat) 0 (xax (xaW t).toNat) (xaG 10 t+1)).1≠0 then ([],t.length,xaC (goD t (xaW t).toNat (4*(xaW t).toNat) 0 (xax (xaW t).toNat) (xaG 10 t+1)).1) else
 ((goD t (xaW t).toNat (4*(xaW t).toNat) 0 (xax (xaW t).toNat) (xaG 10 t+1)).1,t.length,0)
theorem xfK (l:List En):1≤(xbP l).length∧(xbP l).length≤10+40*l.length:=by
 unfold xbP
 rw[List.length_append]
 have:=xj0 l.length
 have:=xnZ l l.length (4*l.length) 0
 omega
theorem xdP {l:List En} (h:xaC l=0):l.length≤4096:=by
 unfold xaC at h
 split at h <;> omega
theorem xt2 (l:List En) (hm:∀ e ∈ l,xaO e) (h:xaC l=0) (r:List UInt8) :
  xbo (xbP l++r)=0∧(xaW (xbP l++r)).toNat=l.length∧xaW (xbP l++r)=l.length ∧
  goD (xbP l++r) l.length (4*l.length) 0 (xax l.length) (xaG 10 (xbP l++r)+1)=(l,(xbP l).length,0):=by
 have hn:=xdP h
 obtain⟨e1,e2,e3⟩:=xjL l.length (by omega) (by omega) (xbd l l.length (4*l.length) 0++r)
 have ht:xbP l++r=xfZ l.length++(xbd l l.length (4*l.length) 0++r):=by unfold xbP;rw[List.append_assoc]
 change xbo (xfZ _++_)=_ at e1
 change xjF (xfZ _++_)=_ at e2
 change xaW (xfZ _++_)=_ at e3
 rw[← ht] at e1 e2 e3
 have hg:=xrD (n:=l.length) rfl (xtn l hm h) r (4*l.length) 0 (xax l.length) (xfZ l.length) (by omega) (by simp[xax]) (xmq _ _)
 refine⟨e1,by rw[e3];simp,e3,?_⟩
 have hz:xaG 10 (xbP l++r)+1=(xfZ (l.length:Int)).length:=by
  unfold xjF at e2
  have:(xfZ (l.length:Int)).length=(enc (l.length:Int)).length:=by unfold xfZ;rw[List.length_map]
  omega
 rw[hz]
 rw[← ht] at hg
 exact hg
theorem xii (l:List En) (hm:∀ e ∈ l,xaO e) (h:xaC l=0) (hl:(xbP l).length≤65536):xbR (xbP l)=(l,(xbP l).length,0):=by
 obtain⟨e1,e2,e3,e4⟩:=xt2 l hm h []
 rw[List.append_nil] at e1 e2 e3 e4
 have:=xdP h
 unfold xbR
 rw[e2,e4]
 simp only
 rw[if_neg (by omega),e1,if_neg (by simp),e3,if_neg (by omega),if_neg (by simp),if_neg (by omega),if_neg (by rw[h];simp)]
theorem xcH (t:List UInt8) (h:(xbR t).2.2=0):xaC (xbR t).1=0∧(∀ e ∈ (xbR t).1,xaO e)∧xbP (xbR t).1=t∧(xbR t).2.1=t.length∧t.length≤65536:=by
 unfold xbR at h ⊢
 by_cases h1:65536<t.length
 ·rw[if_pos h1] at h;simp at h
 rw[if_neg h1] at h ⊢
 by_cases h2:¬ xbo t=0
 ·rw[if_pos h2] at h;exact absurd h h2
 have h2:=Classical.not_not.1 h2
 rw[if_neg (by simpa using h2)] at h ⊢
 by_cases h3:4096<xaW t
 ·rw[if_pos h3] at h;simp at h
 rw[if_neg h3] at h ⊢
 have hx:=xdl _ h2
 have hk:=(xcM _ h2).2.1
 have hb:=xhu _ h2
 obtain⟨n,hn⟩:∃ n:Nat,xaW t=n:=⟨(xaW t).toNat,by omega⟩
 rw[hn] at h ⊢
 rw[hn] at hb
 simp only[Int.toNat_natCast] at h ⊢
 have q:=xpa t n (4*n) 0 (xax n) (xaG 10 t+1) (by omega) (by simp[xax]) (xh3 n) (by omega)
 generalize goD t n (4*n) 0 (xax n) (xaG 10 t+1)=R at *
 obtain⟨L,b,e⟩:=R
 simp only at h q ⊢
 by_cases h4:¬ e=0
 ·rw[if_pos h4] at h;exact absurd h h4
 have h4:=Classical.not_not.1 h4
 rw[if_neg (by simpa using h4)] at h ⊢
 by_cases h5:b<t.length
 ·rw[if_pos h5] at h;simp at h
 rw[if_neg h5] at h ⊢
 by_cases h6:¬ xaC L=0
 ·rw[if_pos h6] at h;exact absurd h h6
 have h6:=Classical.not_not.1 h6
 rw[if_neg (by simpa using h6)]
 obtain⟨q1,q2,q3,q4,q5,q6⟩:=q h4
 refine⟨h6,?_,?_,rfl,by omega⟩
 ·intro x hx'
  change x ∈ L at hx'
  obtain⟨j,hj,rfl⟩:=List.getElem_of_mem hx'
  have:=q3 j (by omega)
  unfold gE at this
  rwa[List.getD_eq_getElem?_getD,List.getElem?_eq_getElem hj] at this
 ·simp only
  unfold xbP
  rw[q2,← q6]
  have hen:xfZ (n:Int)=t.take (xaG 10 t+1):=by
   unfold xfZ
   rw[hb,List.map_map]
   conv=>rhs;rw[← List.map_id (t.take (xaG 10 t+1))]
   exact List.map_congr_left fun c _=>xoc c
  have hd:(t.drop (xaG 10 t+1)).take (b - (xaG 10 t+1))=t.drop (xaG 10 t+1):=List.take_of_length_le (by rw[List.length_drop];omega)
  rw[hen,hd,List.take_append_drop]
theorem xpk (t:List UInt8):((xbR t).2.2≠0→(xbR t).1=[])∧(xbR t).2.1≤t.length:=by
 unfold xbR
 split
 ·simp
 split
 ·simp
 rename_i h2
 split
 ·simp
 have hk:=(xcM t (by simpa using h2)).2.1
 have q:=xur t (xaW t).toNat (4*(xaW t).toNat) 0 (xax (xaW t).toNat) (xaG 10 t+1) (by omega)
 generalize goD t (xaW t).toNat (4*(xaW t).toNat) 0 (xax (xaW t).toNat) (xaG 10 t+1)=R at *
 split
 ·exact⟨q.1,q.2.2⟩
 split
 ·exact⟨fun _=>rfl,q.2.2⟩
 split
 ·exact⟨fun _=>rfl,Nat.le_refl _⟩
 ·exact⟨fun h=>absurd rfl h,Nat.le_refl _⟩
def xfV (l:List En) (c:Nat):Nat→List Int
 | 0=>[]
 | k+1=>xfV l c k++enc (xdf l c k)
def xaq (l:List En):List Int:=enc l.length++(xfV l 0 l.length++(xfV l 1 l.length++(xfV l 2 l.length++xfV l 3 l.length)))
theorem xdF (L:List En) (n m1 m2 i:Nat):xbd L n (m1+m2) i=xbd L n m1 i++xbd L n m2 (i+m1):=by
 induction m1 generalizing i with
 | zero=>simp[xbd]
 | succ m ih =>
  rw[show m+1+m2=(m+m2)+1 from by omega,xbd,xbd,ih,List.append_assoc,show i+1+m=i+(m+1) from by omega]
theorem xdd (L:List En) (n c m:Nat) (hm:m≤n):xbd L n m (c*n)=(xfV L c m).map ub:=by
 induction m with
 | zero=>rfl
 | succ m ih =>
  rw[xdF,ih (by omega),xfV,List.map_append]
  have e1:(c*n+m) / n=c:=by rw[Nat.mul_comm,Nat.mul_add_div (by omega),Nat.div_eq_of_lt (by omega)];omega
  have e2:(c*n+m) % n=m:=by rw[Nat.mul_comm,Nat.mul_add_mod,Nat.mod_eq_of_lt (by omega)]
  simp only[xbd,e1,e2,List.append_nil]
  rfl
theorem xgh (l:List En):xbP l=(xaq l).map ub:=by
 unfold xbP xaq
 have h0:=xdd l l.length 0 l.length (Nat.le_refl _)
 have h1:=xdd l l.length 1 l.length (Nat.le_refl _)
 have h2:=xdd l l.length 2 l.length (Nat.le_refl _)
 have h3:=xdd l l.length 3 l.length (Nat.le_refl _)
 rw[show 4*l.length=l.length+(l.length+(l.length+l.length)) from by omega,xdF,xdF,xdF]
 simp only[Nat.zero_mul,Nat.one_mul,Nat.zero_add] at h0 h1 ⊢
 rw[show l.length+l.length=2*l.length from by omega,show 2*l.length+l.length=3*l.length from by omega,h0,h1,h2,h3]
 simp only[List.map_append]
 rfl
theorem xcL (l:List En):(xaq l).length=(xbP l).length:=by rw[xgh,List.length_map]
end Go.Proofs.YtjinnigjfopbcaaGreatDoor
namespace Go.Proofs.YtjinnigjfopbcaaGreatDoor
set_option linter.unusedVariables false
set_option linter.unusedSimpArgs false
open Go.RowKit
set_option maxRecDepth 20000
open Go.RowKit
set_option maxRecDepth 20000
def xjC (l:List En):Int:=if xaC l=0 then (if 65536<(xaq l).length then 5 else 0) else xaC l
def xmm (l:List En):ByteArray:=if xjC l=0 then str (xaq l) else ByteArray.mk #[]
def xez (l:List En):Int:=if xaC l=0 then (xaq l).length else 0
end Go.Proofs.YtjinnigjfopbcaaGreatDoor
namespace Go.Proofs.YtjinnigjfopbcaaGreatDoor
set_option linter.unusedVariables false
set_option linter.unusedSimpArgs false
def gS (l:List En) (k:Nat):En:=l.getD k xcT
theorem xke (l:List En) (k:Nat) (h:k<l.length):l[k]?=some (gS l k):=by
 rw[List.getElem?_eq_getElem h,gS,List.getD_eq_getElem?_getD,List.getElem?_eq_getElem h];rfl
theorem xrM (l:List En) (k:Nat) (h:k<l.length):gS l k ∈ l:=List.mem_of_getElem? (xke l k h)
def xaj (l:List En):List En:=l.filter fun e=>decide (e.rn=0)
theorem xqR {l:List En} (h:xaC l=0):xb9 (-1) l=0∧l.length≤4096:=by
 unfold xaC at h
 split at h
 ·omega
 ·exact⟨h,by omega⟩
theorem xqz {l:List En} (h:xaC l=0) (n:Nat):xaC (l.take n)=0:=by
 obtain⟨h1,h2⟩:=xqR h
 unfold xaC
 rw[if_neg (by rw[List.length_take];omega)]
 exact xdE (-1) (l.take n) (l.drop n) (by rw[List.take_append_drop];exact h1)
theorem xpl {l:List En} (hm:∀ e ∈ l,xaO e) (h:xaC l=0) (n:Nat):xaC (l.drop n)=0:=by
 obtain⟨h1,h2⟩:=xqR h
 unfold xaC
 rw[if_neg (by rw[List.length_drop];omega)]
 have hl:=xdE (-1) (l.take n) (l.drop n) (by rw[List.take_append_drop];exact h1)
 have ha:=xbl (-1) (l.take n) (l.drop n) hl
 rw[List.take_append_drop,h1] at ha
 refine xhf _ (-1) (l.drop n) ha.symm ?_
 have key:∀ (m:List En) (p:Int),-1≤p→(∀ e ∈ m,xaO e)→xb9 p m=0→-1≤m.foldl (fun _ e=>laN e) p:=by
  intro m
  induction m with
  | nil=>intro p hp _ _;exact hp
  | cons e m ih =>
   intro p hp hm' hr
   obtain⟨c1,c2,c3⟩:=xby p e m hr
   have:=xi5 e (hm' e (List.mem_cons_self ..)) c1
   exact ih (laN e) (by omega) (fun x hx=>hm' x (List.mem_cons_of_mem _ hx)) c3
 exact key _ _ (by omega) (fun e he=>hm e (List.mem_of_mem_take he)) hl
end Go.Proofs.YtjinnigjfopbcaaGreatDoor
namespace Go.Proofs.YtjinnigjfopbcaaGreatDoor
set_option linter.unusedVariables false
set_option linter.unusedSimpArgs false
set_option maxRecDepth 20000
def xmO (n:Nat):Nat→List En→List (List En)
 | 0,_=>[]
 | f+1,l=>if l=[] then [] else l.take n :: xmO n f (l.drop n)
def xbp (n:Nat) (l:List En):List (List En):=xmO n l.length l
theorem xtY (n:Nat) (hn:1≤n) (d:Nat):∀ (g:Nat) (m:List En),m.length≤g→xmO n (g+d) m=xmO n g m:=by
 intro g
 induction g with
 | zero=>intro m hm;rw[List.eq_nil_of_length_eq_zero (Nat.le_zero.1 hm)];cases d <;> simp[xmO]
 | succ g ihg =>
  intro m hm
  cases m with
  | nil=>rw[show g+1+d=(g+d)+1 by omega];simp[xmO]
  | cons x m =>
   rw[show g+1+d=(g+d)+1 by omega,xmO,xmO,if_neg (by simp),if_neg (by simp),ihg]
   rw[List.length_cons] at hm
   rw[List.length_drop,List.length_cons]
   omega
theorem xoI (n:Nat) (hn:1≤n) (f:Nat) (l:List En) (h:l.length≤f):xmO n f l=xmO n l.length l:=by
 have:=xtY n hn (f - l.length) l.length l (Nat.le_refl _)
 rwa[show l.length+(f - l.length)=f by omega] at this
theorem xdK (n:Nat):xbp n []=[]:=rfl
theorem xbr (n:Nat) (hn:1≤n) (l:List En) (h:l≠[]):xbp n l=l.take n :: xbp n (l.drop n):=by
 unfold xbp
 cases l with
 | nil=>exact absurd rfl h
 | cons e l =>
  rw[List.length_cons,xmO,if_neg h,xoI n hn l.length ((e :: l).drop n) (by rw[List.length_drop,List.length_cons];omega)]
theorem xhD (n:Nat) (hn:1≤n) (l:List En) (h:l≠[]) (hl:l.length≤n):xbp n l=[l]:=by
 rw[xbr n hn l h,List.take_of_length_le hl,List.drop_of_length_le hl,xdK]
theorem xjp {M:List En→Prop} (n:Nat) (hn:1≤n) (h0:M []) (hs:∀ l,l≠[]→M (l.drop n)→M l) (l:List En):M l:=by
 have key:∀ (k:Nat) (l:List En),l.length≤k→M l:=by
  intro k
  induction k with
  | zero=>intro l hl;rw[List.eq_nil_of_length_eq_zero (Nat.le_zero.1 hl)];exact h0
  | succ k ih =>
   intro l hl
   by_cases h:l=[]
   ·rw[h];exact h0
   ·have:0<l.length:=List.length_pos_iff.2 h
    exact hs l h (ih _ (by rw[List.length_drop];omega))
 exact key l.length l (Nat.le_refl _)
theorem xb4 (n:Nat) (hn:1≤n) (l:List En):(xbp n l).flatten=l:=by
 refine xjp (M:=fun l=>(xbp n l).flatten=l) n hn rfl (fun l h ih=>?_) l
 rw[xbr n hn l h,List.flatten_cons,ih,List.take_append_drop]
theorem xg0 (n:Nat) (hn:1≤n) (l:List En):∀ p ∈ xbp n l,p≠[]∧p.length≤n:=by
 refine xjp (M:=fun l=>∀ p ∈ xbp n l,p≠[]∧p.length≤n) n hn (by simp[xdK]) (fun l h ih=>?_) l
 rw[xbr n hn l h]
 intro p hp
 rcases List.mem_cons.1 hp with rfl|hp
 ·refine⟨fun e=>h ?_,by rw[List.length_take];omega⟩
  have:=congrArg List.length e
  rw[List.length_take,List.length_nil] at this
  have:=List.length_pos_iff.2 h
  omega
 ·exact ih p hp
theorem xfg (n:Nat) (hn:1≤n) (l:List En):(xbp n l).length≤l.length:=by
 refine xjp (M:=fun l=>(xbp n l).length≤l.length) n hn (by simp[xdK]) (fun l h ih=>?_) l
 rw[xbr n hn l h,List.length_cons]
 have:=List.length_pos_iff.2 h
 rw[List.length_drop] at ih
 omega
def xaA (ps:List (List En)):List Int:=ps.flatMap xaq
def xaw:Nat→List (List En)→List En
 | _,[]=>[]
 | o,p :: ps=>⟨(gS p 0).id,o,(xaq p).length,0⟩ :: xaw (o+(xaq p).length) ps
theorem xbj (p:List En) (ps:List (List En)):xaA (p :: ps)=xaq p++xaA ps:=rfl
theorem xdO (a b:List (List En)):xaA (a++b)=xaA a++xaA b:=by simp[xaA]
theorem xb5 (p:List En):1≤(xaq p).length∧(xaq p).length≤10+40*p.length:=by rw[xcL];exact xfK p
theorem xfj (ps:List (List En)):(xaA ps).length≤10*ps.length+40*ps.flatten.length:=by
 induction ps with
 | nil=>simp[xaA]
 | cons p ps ih =>
  have:=(xb5 p).2
  rw[xbj,List.length_append,List.flatten_cons,List.length_append,List.length_cons]
  omega
theorem xbI:∀ (o:Nat) (ps:List (List En)),(xaw o ps).length=ps.length
 | _,[]=>rfl
 | o,p :: ps=>by rw[xaw,List.length_cons,List.length_cons,xbI]
theorem xdz:∀ (o:Nat) (a b:List (List En)),xaw o (a++b)=xaw o a++xaw (o+(xaA a).length) b
 | o,[],b=>by simp[xaw,xaA]
 | o,p :: a,b=>by rw[List.cons_append,xaw,xaw,xdz,xbj,List.length_append,List.cons_append,Nat.add_assoc]
theorem xgp:∀ (o:Nat) (ps:List (List En)) (e:En),e ∈ xaw o ps→e.rn=0∧∃ p ∈ ps,e.id=(gS p 0).id∧e.ln=(xaq p).length∧0≤e.off∧e.off+e.ln≤o+(xaA ps).length
 | o,p :: ps,e,h=>by
  rw[xaw] at h
  rcases List.mem_cons.1 h with rfl|h
  ·refine⟨rfl,p,by simp,rfl,rfl,by simp,?_⟩
   rw[xbj,List.length_append]
   simp only
   omega
  ·obtain⟨h1,q,hq,h2,h3,h4,h5⟩:=xgp _ ps e h
   refine⟨h1,q,by simp[hq],h2,h3,h4,?_⟩
   rw[xbj,List.length_append]
   omega
theorem xiw {o:Nat} {ps:List (List En)} (hm:∀ e ∈ ps.flatten,xaO e) (hp:∀ p ∈ ps,p≠[]) (hb:∀ p ∈ ps,(xaq p).length≤4294967295) (ht:o+(xaA ps).length≤1099511627776):∀ e ∈ xaw o ps,xaO e:=by
 intro e he
 obtain⟨h1,p,hq,h2,h3,h4,h5⟩:=xgp o ps e he
 have hlen:0<p.length:=List.length_pos_iff.2 (hp p hq)
 have h6:=hm (gS p 0) (List.mem_flatten.2 ⟨p,hq,xrM p 0 hlen⟩)
 have h7:=hb p hq
 unfold xaO at h6 ⊢
 rw[h1,h2,h3] at *
 omega
theorem xov:∀ (l:List En) (p:Int),(∀ e ∈ l,xaO e)→xb9 p l=0→p≤l.foldl (fun _ e=>laN e) p
 | [],p,_,_=>Int.le_refl _
 | e :: l,p,hm,h=>by
  obtain⟨c1,c2,c3⟩:=xby p e l h
  have h1:=xi5 e (hm e (by simp)) c1
  have h2:=xov l (laN e) (fun x hx=>hm x (by simp[hx])) c3
  rw[List.foldl_cons]
  omega
theorem xhH:∀ (ps:List (List En)) (o:Nat) (p:Int),(∀ e ∈ ps.flatten,xaO e)→(∀ q ∈ ps,q≠[])→o+(xaA ps).length≤1099511627776→xb9 p ps.flatten=0→xb9 p (xaw o ps)=0
 | [],_,_,_,_,_,_=>rfl
 | q :: ps,o,p,hm,hp,ht,h=>by
  cases q with
  | nil=>exact absurd rfl (hp [] (by simp))
  | cons e q =>
   rw[List.flatten_cons,List.cons_append] at h hm
   obtain⟨c1,c2,c3⟩:=xby p e _ h
   have hme:=hm e (by simp)
   have hck:=xgr e c1
   have hwd:=xky e hme.2.2.2.1
   have hla:=xi5 e hme c1
   have hln:=(xb5 (e :: q)).1
   rw[xbj,List.length_append] at ht
   have hid:(gS (e :: q) 0).id=e.id:=rfl
   have hr:ckN ⟨(gS (e :: q) 0).id,o,(xaq (e :: q)).length,0⟩=0:=by
    unfold ckN cnN wdN
    simp only[hid]
    rw[if_neg (by omega),if_neg (by simp;omega),if_neg (by omega)]
   have hl:laN ⟨(gS (e :: q) 0).id,o,(xaq (e :: q)).length,0⟩=e.id:=by
    unfold laN
    rw[if_pos hr]
    unfold wdN
    simp only[hid]
    simp
   rw[xaw,xb9,if_neg (by rw[hr];simp),if_neg (by simp only[hid];omega),hl]
   have c4:=xdE (laN e) q ps.flatten c3
   have c5:=xbl (laN e) q ps.flatten c4
   rw[c3] at c5
   have c6:=xov q (laN e) (fun x hx=>hm x (by simp[hx])) c4
   exact xhH ps _ e.id (fun x hx=>hm x (by simp[hx])) (fun x hx=>hp x (by simp[hx])) (by omega) (xhf _ _ _ c5.symm (by omega))
theorem xgd {l:List En} (n:Nat) (hn:1≤n) (hm:∀ e ∈ l,xaO e) (h:xaC l=0) (hl:l.length≤5000):xaC (xaw 0 (xbp n l))=0:=by
 obtain⟨h1,h2⟩:=xqR h
 have hf:=xb4 n hn l
 have hc:=xfg n hn l
 have ht:=xfj (xbp n l)
 rw[hf] at ht
 unfold xaC
 rw[if_neg (by rw[xbI];omega)]
 exact xhH (xbp n l) 0 (-1) (by rw[hf];exact hm) (fun q hq=>(xg0 n hn l q hq).1) (by omega) (by rw[hf];exact h1)
end Go.Proofs.YtjinnigjfopbcaaGreatDoor
