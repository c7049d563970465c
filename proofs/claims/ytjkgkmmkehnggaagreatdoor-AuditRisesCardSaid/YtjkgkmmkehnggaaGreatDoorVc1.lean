/- cMH cYa cMA. -/
import Derived.Test.YtjkgkmmkehnggaaGreatDoorVb3
namespace Go.Proofs.YtjkgkmmkehnggaaGreatDoor
set_option linter.unusedVariables false
set_option linter.unusedSimpArgs false
def leH:Nat→Int→List Int
 | 0,_=>[]
 | n+1,x=>x % 256 :: leH n (x / 256)
def numH:List Int→Int
 | []=>0
 | c :: l=>c+256*numH l
def p256:Nat→Int
 | 0=>1
 | n+1=>256*p256 n
def Byts (l:List Int):Prop:=∀ c ∈ l,0≤c∧c<256
theorem leH_len (n:Nat) (x:Int):(leH n x).length=n:=by
 induction n generalizing x with
 | zero=>rfl
 | succ n ih=>simp[leH,ih]
theorem numH_bd (l:List Int) (h:Byts l):0≤numH l∧numH l<p256 l.length:=by
 induction l with
 | nil=>simp[numH,p256]
 | cons c l ih =>
  have hc:=h c List.mem_cons_self
  have:=ih (fun d hd=>h d (List.mem_cons_of_mem _ hd))
  simp only[numH,List.length_cons,p256]
  omega
def laysH:List Nat→List Int→List Int
 | w :: ws,x :: xs=>leH w x++laysH ws xs
 | _,_=>[]
def takesH:List Nat→List Int→List Int
 | [],_=>[]
 | w :: ws,l=>numH (l.take w) :: takesH ws (l.drop w)
def sumW:List Nat→Nat
 | []=>0
 | w :: ws=>w+sumW ws
def FitsH:List Nat→List Int→Prop
 | [],[]=>True
 | w :: ws,x :: xs=>(0≤x∧x<p256 w)∧FitsH ws xs
 | _,_=>False
theorem laysH_len (ws:List Nat) (xs:List Int) (h:FitsH ws xs):(laysH ws xs).length=sumW ws:=by
 induction ws generalizing xs with
 | nil=>cases xs <;> rfl
 | cons w ws ih =>
  cases xs with
  | nil=>exact h.elim
  | cons x xs=>rw[laysH,List.length_append,leH_len,ih xs h.2,sumW]
theorem takes_fit (ws:List Nat) (l:List Int) (hl:Byts l) (h:sumW ws≤l.length):FitsH ws (takesH ws l):=by
 induction ws generalizing l with
 | nil=>exact trivial
 | cons w ws ih =>
  simp only[sumW] at h
  have hb:=numH_bd (l.take w) (fun c hc=>hl c (List.mem_of_mem_take hc))
  rw[List.length_take,Nat.min_eq_left (by omega)] at hb
  exact⟨hb,ih (l.drop w) (fun c hc=>hl c (List.mem_of_mem_drop hc)) (by rw[List.length_drop];omega)⟩
structure Hd where
 rf:Int
 rl:Int
 mf:Int
 ml:Int
 lf:Int
 ll:Int
 df:Int
 dl:Int
 ad:Int
 en:Int
 co:Int
 cl:Bool
 inn:Int
 out:Int
 knd:Int
 z0:Int
 z1:Int
 lo0:Int
 la0:Int
 lo1:Int
 la1:Int
 zm:Int
 lon:Int
 lat:Int
def zeroH:Hd:=⟨0,0,0,0,0,0,0,0,0,0,0,false,0,0,0,0,0,0,0,0,0,0,0,0⟩
def secB (f l:Int):Bool:=decide (f≤1099511627776) && (decide (l≤1099511627776) && decide (f+l≤1099511627776))
def KindB (h:Hd):Bool:=decide (h.inn≤4) && (decide (h.out≤4) && decide (h.knd≤5))
def ZoomsB (h:Hd):Bool:=(decide (0≤h.z0) && decide (h.z0≤h.z1)) && (decide (h.z1≤26) && (decide (0≤h.zm) && decide (h.zm≤26)))
def DegB (h:Hd):Bool:=(decide (-1800000000≤h.lo0) && decide (h.lo0≤h.lo1)) && (decide (h.lo1≤1800000000) && ((decide (-900000000≤h.la0) && decide (h.la0≤h.la1)) && (decide (h.la1≤900000000) && ((decide (-1800000000≤h.lon) && decide (h.lon≤1800000000)) && (decide (-900000000≤h.lat) && decide (h.lat≤900000000))))))
def SecsB (h:Hd):Bool:=secB h.rf h.rl && (secB h.mf h.ml && (secB h.lf h.ll && secB h.df h.dl))
def ckH (h:Hd):Int:=if SecsB h=true then (if KindB h=true then (if ZoomsB h=true then (if DegB h=true then 0 else 8) else 8) else 14) else 8
def U64 (x:Int):Prop:=0≤x∧x≤18446744073709551615
def U8 (x:Int):Prop:=0≤x∧x≤255
def MayH (h:Hd):Prop:=U64 h.rf∧U64 h.rl∧U64 h.mf∧U64 h.ml∧U64 h.lf∧U64 h.ll∧U64 h.df∧U64 h.dl∧U64 h.ad∧U64 h.en∧U64 h.co∧U8 h.inn∧U8 h.out∧U8 h.knd
def unsg (x:Int):Int:=x % 4294967296
def sg (x:Int):Int:=if x<2147483648 then x else x - 4294967296
def cl01 (b:Bool):Int:=if b then 1 else 0
def widH:List Nat:=[8,8,8,8,8,8,8,8,8,8,8,1,1,1,1,1,1,4,4,4,4,1,4,4]
def numsH (h:Hd):List Int:=[h.rf,h.rl,h.mf,h.ml,h.lf,h.ll,h.df,h.dl,h.ad,h.en,h.co,cl01 h.cl,h.inn,h.out,h.knd,h.z0,h.z1,unsg h.lo0,unsg h.la0,unsg h.lo1,unsg h.la1,h.zm,unsg h.lon,unsg h.lat]
def ofNums (l:List Int):Hd:=⟨l.getD 0 0,l.getD 1 0,l.getD 2 0,l.getD 3 0,l.getD 4 0,l.getD 5 0,l.getD 6 0,l.getD 7 0,l.getD 8 0,l.getD 9 0,l.getD 10 0,l.getD 11 0 == 1,l.getD 12 0,l.getD 13 0,l.getD 14 0,l.getD 15 0,l.getD 16 0,sg (l.getD 17 0),sg (l.getD 18 0),sg (l.getD 19 0),sg (l.getD 20 0),l.getD 21 0,sg (l.getD 22 0),sg (l.getD 23 0)⟩
theorem p256_8:p256 8=18446744073709551616:=rfl
theorem p256_4:p256 4=4294967296:=rfl
theorem p256_1:p256 1=256:=rfl
theorem ck_zero (h:Hd) (hc:ckH h=0):SecsB h=true∧KindB h=true∧ZoomsB h=true∧DegB h=true:=by
 unfold ckH at hc
 split at hc
 ·split at hc
  ·split at hc
   ·split at hc
    ·exact⟨by assumption,by assumption,by assumption,by assumption⟩
    ·omega
   ·omega
  ·omega
 ·omega
theorem nums_fit (h:Hd) (hm:MayH h) (hc:ckH h=0):FitsH widH (numsH h):=by
 obtain⟨c1,c2,c3,c4⟩:=ck_zero h hc
 simp only[SecsB,secB,KindB,ZoomsB,DegB,Bool.and_eq_true,decide_eq_true_eq] at c1 c2 c3 c4
 unfold MayH U64 U8 at hm
 have hcl:0≤cl01 h.cl∧cl01 h.cl<256:=by unfold cl01;split <;> omega
 simp only[widH,numsH,FitsH,p256_8,p256_4,p256_1,unsg,and_true]
 refine⟨?_,?_,?_,?_,?_,?_,?_,?_,?_,?_,?_,hcl,?_,?_,?_,?_,?_,?_,?_,?_,?_,?_,?_,?_⟩ <;> omega
def mgH:List Int:=[80,77,84,105,108,101,115]
def headH:List Int:=[80,77,84,105,108,101,115,3]
def bytsH (h:Hd):List Int:=headH++laysH widH (numsH h)
def encH (h:Hd):List Int × Int:=if ckH h=0 then (bytsH h,0) else ([],ckH h)
def telH (l:List Int):Hd:=ofNums (takesH widH (l.drop 8))
def decH (l:List Int):Hd × Int :=
 if l.length<127 then (zeroH,3) else
 if l.take 7≠mgH then (zeroH,12) else
 if l.getD 7 0≠3 then (zeroH,13) else
 if 1<l.getD 96 0 then (zeroH,4) else
 if ckH (telH l)=0 then (telH l,0) else (zeroH,ckH (telH l))
theorem sumW_widH:sumW widH=119:=rfl
theorem bytsH_len (h:Hd) (hm:MayH h) (hc:ckH h=0):(bytsH h).length=127:=by
 rw[bytsH,List.length_append,laysH_len _ _ (nums_fit h hm hc),sumW_widH];rfl
theorem may_of (xs:List Int) (h:FitsH widH xs):MayH (ofNums xs):=by
 rcases xs with _|⟨x0,xs⟩
 ·exact h.elim
 obtain⟨h0,h⟩:=h
 rcases xs with _|⟨x1,xs⟩
 ·exact h.elim
 obtain⟨h1,h⟩:=h
 rcases xs with _|⟨x2,xs⟩
 ·exact h.elim
 obtain⟨h2,h⟩:=h
 rcases xs with _|⟨x3,xs⟩
 ·exact h.elim
 obtain⟨h3,h⟩:=h
 rcases xs with _|⟨x4,xs⟩
 ·exact h.elim
 obtain⟨h4,h⟩:=h
 rcases xs with _|⟨x5,xs⟩
 ·exact h.elim
 obtain⟨h5,h⟩:=h
 rcases xs with _|⟨x6,xs⟩
 ·exact h.elim
 obtain⟨h6,h⟩:=h
 rcases xs with _|⟨x7,xs⟩
 ·exact h.elim
 obtain⟨h7,h⟩:=h
 rcases xs with _|⟨x8,xs⟩
 ·exact h.elim
 obtain⟨h8,h⟩:=h
 rcases xs with _|⟨x9,xs⟩
 ·exact h.elim
 obtain⟨h9,h⟩:=h
 rcases xs with _|⟨x10,xs⟩
 ·exact h.elim
 obtain⟨h10,h⟩:=h
 rcases xs with _|⟨x11,xs⟩
 ·exact h.elim
 obtain⟨h11,h⟩:=h
 rcases xs with _|⟨x12,xs⟩
 ·exact h.elim
 obtain⟨h12,h⟩:=h
 rcases xs with _|⟨x13,xs⟩
 ·exact h.elim
 obtain⟨h13,h⟩:=h
 rcases xs with _|⟨x14,xs⟩
 ·exact h.elim
 obtain⟨h14,h⟩:=h
 rcases xs with _|⟨x15,xs⟩
 ·exact h.elim
 obtain⟨h15,h⟩:=h
 rcases xs with _|⟨x16,xs⟩
 ·exact h.elim
 obtain⟨h16,h⟩:=h
 rcases xs with _|⟨x17,xs⟩
 ·exact h.elim
 obtain⟨h17,h⟩:=h
 rcases xs with _|⟨x18,xs⟩
 ·exact h.elim
 obtain⟨h18,h⟩:=h
 rcases xs with _|⟨x19,xs⟩
 ·exact h.elim
 obtain⟨h19,h⟩:=h
 rcases xs with _|⟨x20,xs⟩
 ·exact h.elim
 obtain⟨h20,h⟩:=h
 rcases xs with _|⟨x21,xs⟩
 ·exact h.elim
 obtain⟨h21,h⟩:=h
 rcases xs with _|⟨x22,xs⟩
 ·exact h.elim
 obtain⟨h22,h⟩:=h
 rcases xs with _|⟨x23,xs⟩
 ·exact h.elim
 obtain⟨h23,h⟩:=h
 simp only[p256_8,p256_4,p256_1] at h0 h1 h2 h3 h4 h5 h6 h7 h8 h9 h10 h11 h12 h13 h14 h15 h16 h17 h18 h19 h20 h21 h22 h23
 simp only[MayH,U64,U8,ofNums,List.getD_cons_zero,List.getD_cons_succ]
 omega
theorem num_one (l:List Int) (n:Nat):numH ((l.drop n).take 1)=l.getD n 0:=by
 induction n generalizing l with
 | zero =>
  cases l with
  | nil=>rfl
  | cons c l=>simp[numH]
 | succ n ih =>
  cases l with
  | nil=>simp[numH]
  | cons c l=>rw[List.drop_succ_cons,ih,List.getD_cons_succ]
def laidB (h:Hd) (n:Int):Int :=
 if ckH h≠0 then ckH h else
 if h.rf<127 then 10 else
 if h.mf<h.rf+h.rl then 10 else
 if h.lf<h.mf+h.ml then 10 else
 if h.df<h.lf+h.ll then 10 else
 if n<h.df+h.dl then 8 else 0
open Go.RowKit
set_option maxRecDepth 20000
theorem flag_any (b:Bool) (w:World):Calls Tryz.prog 156 #[.bool b] w fun e w'=>e=.returned (.int .u8 (cl01 b))∧w=w':=by
 cases b
 ·go_enter Tryz.func156,Tryz.ntmps156
  go_wp2
  go_ret
  exact⟨rfl,rfl⟩
 ·go_enter Tryz.func156,Tryz.ntmps156
  go_wp2
  go_ret
  exact⟨rfl,rfl⟩
theorem end_sec (f l:Int) (w:World):Calls Tryz.prog 101 #[.agg #[.int .u64 f,.int .u64 l]] w fun e w'=>e=.returned (.int .u64 (IntKind.u64.wrap (f+l)))∧Below w.heap.size w w':=by
 go_enter Tryz.func101,Tryz.ntmps101
 go_wp2
 go_ret
 exact⟨rfl,(Below.refl _ _).alloc (Nat.le_refl _) _⟩
theorem ret_bool {a b:Bool} (h:a=b):Ending.returned (.bool a)=.returned (.bool b):=by rw[h]
theorem fits_any (f l:Int) (w:World) (hf:U64 f) (hl:U64 l):Calls Tryz.prog 177 #[.agg #[.int .u64 f,.int .u64 l]] w fun e w'=>e=.returned (.bool (secB f l))∧Below w.heap.size w w':=by
 unfold U64 at hf hl
 by_cases h:f≤1099511627776
 ·have hd:decide (f≤1099511627776)=true:=by simpa using h
  have hw:IntKind.u64.wrap (1099511627776 - f)=1099511627776 - f:=by rw[wrap_u64];omega
  have he:Hid (decide (l≤1099511627776 - f)=secB f l):=by
   apply Lib.hid
   unfold secB
   rw[hd,Bool.true_and,Bool.eq_iff_iff,Bool.and_eq_true,decide_eq_true_eq,decide_eq_true_eq,decide_eq_true_eq]
   omega
  clear h hf hl
  go_enter Tryz.func177,Tryz.ntmps177
  go_wp2
  go_ret
  exact⟨ret_bool he.out,(Below.refl _ _).alloc (Nat.le_refl _) _⟩
 ·have hd:decide (f≤1099511627776)=false:=by simpa using h
  have he:Hid (false=secB f l):=by
   apply Lib.hid
   unfold secB
   rw[hd,Bool.false_and]
  clear h hf hl
  go_enter Tryz.func177,Tryz.ntmps177
  go_wp2
  go_ret
  exact⟨ret_bool he.out,(Below.refl _ _).alloc (Nat.le_refl _) _⟩
theorem nan_anyCc (x:Int) (w:World):Calls Tryz.prog 304 #[.int .i64 x] w fun e w'=>e=.returned (.bool false)∧w=w':=by
 have h:(x != x)=false:=by simp
 go_enter Tryz.func304,Tryz.ntmps304
 go_wp2
 go_ret
 exact⟨rfl,rfl⟩
theorem less_any (x y:Int) (w:World):Calls Tryz.prog 281 #[.int .i64 x,.int .i64 y] w fun e w'=>e=.returned (.bool (decide (x<y)))∧w=w':=by
 go_enter Tryz.func281,Tryz.ntmps281
 go_wp2_with (go_at_call 304;refine(nan_anyCc _ _).mono ?_;rintro e w' ⟨rfl,rfl⟩)
 go_ret
 exact⟨rfl,rfl⟩
theorem less_q (x y:Int) (w:World):Calls Tryz.prog 281 #[.int .i64 x,.int .i64 y] w fun e w'=>e=.returned (.bool (decide (x<y)))∧w'=w:=(less_any x y w).mono fun _ _ ⟨h,g⟩=>⟨h,g.symm⟩
def NumsAt (k:IntKind) (w:World) (v:Value) (l:List Int):Prop :=
 ∃ b cap,v=.slice (some ⟨b,0,none⟩) l.length cap∧l.length≤cap∧cap≤maxLen∧b<w.heap.size∧∀ i,i<l.length→w.cell? ⟨b,i,none⟩=some (.int k (l.getD i 0))
def riseP (l:List Int):Prop:=∀ i,i+1<l.length→l.getD i 0≤l.getD (i+1) 0
theorem below_drewN {B:Nat} {w w':World} (h:Below B w w') (n:Nat):Below B w (w'.drewN n):=h.trans ⟨rfl,rfl,rfl,Nat.le_refl _,fun _ _=>rfl⟩
theorem sorted_any (v:Value) (l:List Int) (w:World) (hv:NumsAt .i64 w v l):Calls Tryz.prog 252 #[v] w fun e w'=>∃ b,e=.returned (.bool b)∧(b=true↔riseP l)∧Below w.heap.size w w':=by
 obtain⟨b,cap,rfl,hc1,hc2,hb,hcell⟩:=hv
 have HC:=Lib.hid hcell;clear hcell
 have hml:l.length≤9223372036854775807:=by unfold maxLen at hc2;omega
 have hw:IntKind.i64.wrap ((l.length:Int) - 1)=(l.length:Int) - 1:=by rw[IntKind.wrap_i64] <;> omega
 go_enter Tryz.func252,Tryz.ntmps252
 go_wp2_with fail
 go_loopw [3] (fun i wr=>∃ k:Nat,k≤l.length∧i=.int .i64 ((k:Int) - 1)∧(∀ j,k≤j+1→j+1<l.length→l.getD j 0≤l.getD (j+1) 0)∧Below w.heap.size w wr) (fun i _=>(intOf i+1).toNat)
 case atStart=>exact⟨l.length,Nat.le_refl _,rfl,fun j h1 h2=>by omega,Below.refl _ _⟩
 case round =>
  obtain⟨k,hk,rfl,hr,hbw⟩:=hrel
  have HR:=Lib.hid hr;clear hr
  by_cases h2:2≤k
  ·obtain⟨j,rfl⟩:∃ j,k=j+2:=⟨k - 2,by omega⟩
   have e1:((j+2:Nat):Int) - 1=((j+1:Nat):Int):=by omega
   rw[e1]
   clear e1
   have c1:=(hbw.cell (p:=⟨b,j+1,none⟩) hb).trans (HC.out (j+1) (by omega))
   have c0:=(hbw.cell (p:=⟨b,j,none⟩) hb).trans (HC.out j (by omega))
   obtain⟨y,hy⟩:∃ y,l.getD (j+1) 0=y:=⟨_,rfl⟩
   obtain⟨x,hx⟩:∃ x,l.getD j 0=x:=⟨_,rfl⟩
   rw[hy] at c1
   rw[hx] at c0
   have HX:=Lib.hid hx
   have HY:=Lib.hid hy
   clear hx hy
   obtain⟨i,hi⟩:∃ i,j+1=i:=⟨_,rfl⟩
   rw[hi] at c1 ⊢
   have hgt:decide (0<(i:Int))=true:=by simp;omega
   have hsub:(i:Int) - 1=(j:Int):=by omega
   have hwj:IntKind.i64.wrap (j:Int)=(j:Int):=by rw[IntKind.wrap_i64] <;> omega
   have hi1:i<l.length:=by omega
   have HI:=Lib.hid hi;clear hi
   have hj1:j<l.length:=by omega
   by_cases hlt:y<x
   ·have hd:decide (y<x)=true:=by simpa using hlt
    have HB:=Lib.hid hbw;clear hbw
    go_wp2_with fail
    go_quiet (first|(go_at_call 281;(with_reducible refine Calls.quiet_of_same (less_q _ _ _)))|fail)
    go_wp2_with fail
    go_ret
    refine⟨false,rfl,⟨fun h=>(by cases h),fun h=>?_⟩,below_drewN HB.out nq⟩
    have hle:=h j (by rw[HI.out];exact hi1)
    rw[HX.out,HY.out] at hle
    omega
   ·have hd:decide (y<x)=false:=by simpa using hlt
    go_wp2_with fail
    go_quiet (first|(go_at_call 281;(with_reducible refine Calls.quiet_of_same (less_q _ _ _)))|fail)
    go_wp2_with fail
    go_roundw
    case rel =>
     refine⟨i,by omega,by congr 1;omega,fun m h1 h3=>?_,below_drewN hbw nq⟩
     rcases Nat.lt_or_ge m i with h4|h4
     ·obtain rfl:m=j:=by have:=HI.out;omega
      rw[HX.out,HY.out]
      exact hlt
     ·exact HR.out m (by have:=HI.out;omega) h3
    case measure=>simp[intOf];omega
  ·go_wp2_with fail
   go_ret
   exact⟨true,rfl,⟨fun _ m hm=>HR.out m (by omega) hm,fun _=>rfl⟩,hbw⟩
theorem rises_any (v:Value) (l:List Int) (w:World) (hv:NumsAt .i64 w v l):Calls Tryz.prog 222 #[v] w fun e w'=>∃ b,e=.returned (.bool b)∧(b=true↔riseP l)∧Below w.heap.size w w':=by
 have HV:=Lib.hid hv;clear hv
 go_enter Tryz.func222,Tryz.ntmps222
 go_wp2_with fail
 refine(sorted_any v l w HV.out).mono ?_
 rintro e w1 ⟨b,rfl,hb,hbw⟩
 go_wp2_with fail
 go_ret
 exact⟨b,rfl,hb,hbw⟩
theorem nums_built (k:IntKind) (w:World) (l:List Int) (T:TypeId) (n:Nat) (f:Nat × Nat) (hn:n=w.heap.size) (h:l.length≤maxLen):NumsAt k (w.alloc (.cells (l.map (Value.int k)).toArray T f)) (.slice (some ⟨n,0,none⟩) l.length l.length) l:=by
 subst hn
 refine⟨_,_,rfl,Nat.le_refl _,h,by rw[World.size_alloc];omega,fun i hi=>?_⟩
 rw[World.cell?_alloc_mark]
 simp[hi]
set_option maxRecDepth 20000 in
theorem sections_any (h:Hd) (w:World):Calls Tryz.prog 100 #[.agg #[.int .u64 h.rf,.int .u64 h.rl,.int .u64 h.mf,.int .u64 h.ml,.int .u64 h.lf,.int .u64 h.ll,.int .u64 h.df,.int .u64 h.dl,.int .u64 h.ad,.int .u64 h.en,.int .u64 h.co,.bool h.cl,.int .u8 h.inn,.int .u8 h.out,.int .u8 h.knd,.int .i64 h.z0,.int .i64 h.z1,.int .i64 h.lo0,.int .i64 h.la0,.int .i64 h.lo1,.int .i64 h.la1,.int .i64 h.zm,.int .i64 h.lon,.int .i64 h.lat]] w fun e w'=>e=.returned (.agg #[.int .u64 h.rf,.int .u64 h.rl,.int .u64 h.mf,.int .u64 h.ml,.int .u64 h.lf,.int .u64 h.ll,.int .u64 h.df,.int .u64 h.dl])∧Below w.heap.size w w':=by
 go_enter Tryz.func100,Tryz.ntmps100
 go_wp2_with fail
 refine bodyPost_ret (v:=.agg #[.int .u64 h.rf,.int .u64 h.rl,.int .u64 h.mf,.int .u64 h.ml,.int .u64 h.lf,.int .u64 h.ll,.int .u64 h.df,.int .u64 h.dl]) (by simp[results,Tryz.results100,go_sem]) rfl ⟨rfl,by go_grown⟩
theorem rise3 (a b c:Int):riseP [a,b,c]↔a≤b∧b≤c:=by
 constructor
 ·intro h
  exact⟨h 0 (by simp),h 1 (by simp)⟩
 ·rintro⟨h0,h1⟩ i hi
  simp only[List.length_cons,List.length_nil] at hi
  rcases(by omega:i=0∨i=1) with rfl|rfl
  ·exact h0
  ·exact h1
theorem rise4 (a b c d:Int):riseP [a,b,c,d]↔a≤b∧b≤c∧c≤d:=by
 constructor
 ·intro h
  exact⟨h 0 (by simp),h 1 (by simp),h 2 (by simp)⟩
 ·rintro⟨h0,h1,h2⟩ i hi
  simp only[List.length_cons,List.length_nil] at hi
  rcases(by omega:i=0∨i=1∨i=2) with rfl|rfl|rfl
  ·exact h0
  ·exact h1
  ·exact h2
theorem rises4 (a b c d:Int) (w:World) (n:Nat) (hn:n=w.heap.size):Calls Tryz.prog 222 #[.slice (some ⟨n,0,none⟩) 4 4] (w.alloc (.cells #[.int .i64 a,.int .i64 b,.int .i64 c,.int .i64 d] 3)) fun e w'=>e=.returned (.bool (decide (a≤b) && (decide (b≤c) && decide (c≤d))))∧Below w.heap.size w w':=by
 refine(rises_any _ [a,b,c,d] _ (nums_built .i64 w [a,b,c,d] 3 n (0,0) hn (by simp[maxLen]))).mono ?_
 rintro e w' ⟨r,rfl,hr,hb⟩
 refine⟨?_,((Below.refl _ _).alloc (Nat.le_refl _) _).trans (hb.mono (by rw[World.size_alloc];omega))⟩
 congr 2
 rw[rise4] at hr
 rw[Bool.eq_iff_iff,hr]
 simp
theorem rises3 (a b c:Int) (w:World) (n:Nat) (hn:n=w.heap.size):Calls Tryz.prog 222 #[.slice (some ⟨n,0,none⟩) 3 3] (w.alloc (.cells #[.int .i64 a,.int .i64 b,.int .i64 c] 3)) fun e w'=>e=.returned (.bool (decide (a≤b) && decide (b≤c)))∧Below w.heap.size w w':=by
 refine(rises_any _ [a,b,c] _ (nums_built .i64 w [a,b,c] 3 n (0,0) hn (by simp[maxLen]))).mono ?_
 rintro e w' ⟨r,rfl,hr,hb⟩
 refine⟨?_,((Below.refl _ _).alloc (Nat.le_refl _) _).trans (hb.mono (by rw[World.size_alloc];omega))⟩
 congr 2
 rw[rise3] at hr
 rw[Bool.eq_iff_iff,hr]
 simp
set_option maxRecDepth 20000 in
theorem zooms_anyCc (h:Hd) (w:World):Calls Tryz.prog 178 #[.agg #[.int .u64 h.rf,.int .u64 h.rl,.int .u64 h.mf,.int .u64 h.ml,.int .u64 h.lf,.int .u64 h.ll,.int .u64 h.df,.int .u64 h.dl,.int .u64 h.ad,.int .u64 h.en,.int .u64 h.co,.bool h.cl,.int .u8 h.inn,.int .u8 h.out,.int .u8 h.knd,.int .i64 h.z0,.int .i64 h.z1,.int .i64 h.lo0,.int .i64 h.la0,.int .i64 h.lo1,.int .i64 h.la1,.int .i64 h.zm,.int .i64 h.lon,.int .i64 h.lat]] w fun e w'=>e=.returned (.bool (ZoomsB h))∧Below w.heap.size w w':=by
 obtain⟨b1,hb1⟩:∃ b,(decide (0≤h.z0) && (decide (h.z0≤h.z1) && decide (h.z1≤26)))=b:=⟨_,rfl⟩
 obtain⟨b2,hb2⟩:∃ b,(decide (0≤h.zm) && decide (h.zm≤26))=b:=⟨_,rfl⟩
 have he:Hid ((b1 && b2)=ZoomsB h):=by
  apply Lib.hid
  unfold ZoomsB
  rw[← hb1,← hb2]
  simp only[Bool.and_assoc]
 have R4:∀ W n,n=W.heap.size→Calls Tryz.prog 222 #[.slice (some ⟨n,0,none⟩) 4 4] (W.alloc (.cells #[.int .i64 0,.int .i64 h.z0,.int .i64 h.z1,.int .i64 26] 3)) fun e w'=>e=.returned (.bool b1)∧Below W.heap.size W w':=fun W n hn=>hb1 ▸ rises4 0 h.z0 h.z1 26 W n hn
 have R3:∀ W n,n=W.heap.size→Calls Tryz.prog 222 #[.slice (some ⟨n,0,none⟩) 3 3] (W.alloc (.cells #[.int .i64 0,.int .i64 h.zm,.int .i64 26] 3)) fun e w'=>e=.returned (.bool b2)∧Below W.heap.size W w':=fun W n hn=>hb2 ▸ rises3 0 h.zm 26 W n hn
 have H4:=Lib.hid R4
 have H3:=Lib.hid R3
 clear R4 R3 hb1 hb2
 cases b1
 ·go_enter Tryz.func178,Tryz.ntmps178
  go_wp2_with fail
  refine(H4.out _ _ (by simp)).mono ?_
  rintro e w1 ⟨rfl,hb⟩
  have hbw:Below w.heap.size w w1:=Below.trans (by go_grown) (hb.mono (by rw[World.size_alloc];omega))
  clear hb
  go_wp2_with fail
  go_ret
  exact⟨ret_bool he.out,hbw⟩
 ·go_enter Tryz.func178,Tryz.ntmps178
  go_wp2_with fail
  refine(H4.out _ _ (by simp)).mono ?_
  rintro e w1 ⟨rfl,hb⟩
  have hbw:Below w.heap.size w w1:=Below.trans (by go_grown) (hb.mono (by rw[World.size_alloc];omega))
  have c1:w1.cell? ⟨w.heap.size,21,none⟩=some (.int .i64 h.zm):=(hb.cell (p:=⟨w.heap.size,21,none⟩) (by simp)).trans (by simp[go_sem])
  clear hb
  go_wp2_with fail
  refine(H3.out _ _ (by simp)).mono ?_
  rintro e w2 ⟨rfl,hb⟩
  have hbw2:Below w.heap.size w w2:=hbw.trans (hb.mono hbw.size)
  clear hb hbw
  go_wp2_with fail
  go_ret
  exact⟨ret_bool he.out,hbw2⟩
set_option maxRecDepth 20000 in
theorem degrees_any (h:Hd) (w:World):Calls Tryz.prog 179 #[.agg #[.int .u64 h.rf,.int .u64 h.rl,.int .u64 h.mf,.int .u64 h.ml,.int .u64 h.lf,.int .u64 h.ll,.int .u64 h.df,.int .u64 h.dl,.int .u64 h.ad,.int .u64 h.en,.int .u64 h.co,.bool h.cl,.int .u8 h.inn,.int .u8 h.out,.int .u8 h.knd,.int .i64 h.z0,.int .i64 h.z1,.int .i64 h.lo0,.int .i64 h.la0,.int .i64 h.lo1,.int .i64 h.la1,.int .i64 h.zm,.int .i64 h.lon,.int .i64 h.lat]] w fun e w'=>e=.returned (.bool (DegB h))∧Below w.heap.size w w':=by
 obtain⟨b0,hb0⟩:∃ b,(decide (-1800000000≤h.lo0) && (decide (h.lo0≤h.lo1) && decide (h.lo1≤1800000000)))=b:=⟨_,rfl⟩
 obtain⟨b1,hb1⟩:∃ b,(decide (-900000000≤h.la0) && (decide (h.la0≤h.la1) && decide (h.la1≤900000000)))=b:=⟨_,rfl⟩
 obtain⟨b2,hb2⟩:∃ b,(decide (-1800000000≤h.lon) && decide (h.lon≤1800000000))=b:=⟨_,rfl⟩
 obtain⟨b3,hb3⟩:∃ b,(decide (-900000000≤h.lat) && decide (h.lat≤900000000))=b:=⟨_,rfl⟩
 have he:Hid ((b0 && (b1 && (b2 && b3)))=DegB h):=by
  apply Lib.hid
  unfold DegB
  rw[← hb0,← hb1,← hb2,← hb3]
  simp only[Bool.and_assoc]
 have R0:∀ W n,n=W.heap.size→Calls Tryz.prog 222 #[.slice (some ⟨n,0,none⟩) 4 4] (W.alloc (.cells #[.int .i64 (-1800000000),.int .i64 h.lo0,.int .i64 h.lo1,.int .i64 1800000000] 3)) fun e w'=>e=.returned (.bool b0)∧Below W.heap.size W w':=fun W n hn=>hb0 ▸ rises4 (-1800000000) h.lo0 h.lo1 1800000000 W n hn
 have H0:=Lib.hid R0;clear R0 hb0
 have R1:∀ W n,n=W.heap.size→Calls Tryz.prog 222 #[.slice (some ⟨n,0,none⟩) 4 4] (W.alloc (.cells #[.int .i64 (-900000000),.int .i64 h.la0,.int .i64 h.la1,.int .i64 900000000] 3)) fun e w'=>e=.returned (.bool b1)∧Below W.heap.size W w':=fun W n hn=>hb1 ▸ rises4 (-900000000) h.la0 h.la1 900000000 W n hn
 have H1:=Lib.hid R1;clear R1 hb1
 have R2:∀ W n,n=W.heap.size→Calls Tryz.prog 222 #[.slice (some ⟨n,0,none⟩) 3 3] (W.alloc (.cells #[.int .i64 (-1800000000),.int .i64 h.lon,.int .i64 1800000000] 3)) fun e w'=>e=.returned (.bool b2)∧Below W.heap.size W w':=fun W n hn=>hb2 ▸ rises3 (-1800000000) h.lon 1800000000 W n hn
 have H2:=Lib.hid R2;clear R2 hb2
 have R3:∀ W n,n=W.heap.size→Calls Tryz.prog 222 #[.slice (some ⟨n,0,none⟩) 3 3] (W.alloc (.cells #[.int .i64 (-900000000),.int .i64 h.lat,.int .i64 900000000] 3)) fun e w'=>e=.returned (.bool b3)∧Below W.heap.size W w':=fun W n hn=>hb3 ▸ rises3 (-900000000) h.lat 900000000 W n hn
 have H3:=Lib.hid R3;clear R3 hb3
 cases b0
 ·go_enter Tryz.func179,Tryz.ntmps179
  go_wp2_with fail
  refine(H0.out _ _ (by simp)).mono ?_
  rintro e w1 ⟨rfl,hb⟩
  have u1:Below w.heap.size w w1:=Below.trans (by go_grown) (hb.mono (by rw[World.size_alloc];omega))
  have c18:w1.cell? ⟨w.heap.size,18,none⟩=some (.int .i64 h.la0):=(hb.cell (p:=⟨w.heap.size,18,none⟩) (by simp)).trans (by simp[go_sem])
  have c20:w1.cell? ⟨w.heap.size,20,none⟩=some (.int .i64 h.la1):=(hb.cell (p:=⟨w.heap.size,20,none⟩) (by simp)).trans (by simp[go_sem])
  have c22:w1.cell? ⟨w.heap.size,22,none⟩=some (.int .i64 h.lon):=(hb.cell (p:=⟨w.heap.size,22,none⟩) (by simp)).trans (by simp[go_sem])
  have c23:w1.cell? ⟨w.heap.size,23,none⟩=some (.int .i64 h.lat):=(hb.cell (p:=⟨w.heap.size,23,none⟩) (by simp)).trans (by simp[go_sem])
  clear hb
  go_wp2_with fail
  go_ret
  exact⟨ret_bool he.out,u1⟩
 ·cases b1
  ·go_enter Tryz.func179,Tryz.ntmps179
   go_wp2_with fail
   refine(H0.out _ _ (by simp)).mono ?_
   rintro e w1 ⟨rfl,hb⟩
   have u1:Below w.heap.size w w1:=Below.trans (by go_grown) (hb.mono (by rw[World.size_alloc];omega))
   have c18:w1.cell? ⟨w.heap.size,18,none⟩=some (.int .i64 h.la0):=(hb.cell (p:=⟨w.heap.size,18,none⟩) (by simp)).trans (by simp[go_sem])
   have c20:w1.cell? ⟨w.heap.size,20,none⟩=some (.int .i64 h.la1):=(hb.cell (p:=⟨w.heap.size,20,none⟩) (by simp)).trans (by simp[go_sem])
   have c22:w1.cell? ⟨w.heap.size,22,none⟩=some (.int .i64 h.lon):=(hb.cell (p:=⟨w.heap.size,22,none⟩) (by simp)).trans (by simp[go_sem])
   have c23:w1.cell? ⟨w.heap.size,23,none⟩=some (.int .i64 h.lat):=(hb.cell (p:=⟨w.heap.size,23,none⟩) (by simp)).trans (by simp[go_sem])
   clear hb
   go_wp2_with fail
   refine(H1.out _ _ (by simp)).mono ?_
   rintro e w2 ⟨rfl,hb⟩
   have u2:=u1.trans (hb.mono u1.size)
   replace c18:=cell_later hb c18
   replace c20:=cell_later hb c20
   replace c22:=cell_later hb c22
   replace c23:=cell_later hb c23
   clear u1
   clear hb
   go_wp2_with fail
   go_ret
   exact⟨ret_bool he.out,u2⟩
  ·cases b2
   ·go_enter Tryz.func179,Tryz.ntmps179
    go_wp2_with fail
    refine(H0.out _ _ (by simp)).mono ?_
    rintro e w1 ⟨rfl,hb⟩
    have u1:Below w.heap.size w w1:=Below.trans (by go_grown) (hb.mono (by rw[World.size_alloc];omega))
    have c18:w1.cell? ⟨w.heap.size,18,none⟩=some (.int .i64 h.la0):=(hb.cell (p:=⟨w.heap.size,18,none⟩) (by simp)).trans (by simp[go_sem])
    have c20:w1.cell? ⟨w.heap.size,20,none⟩=some (.int .i64 h.la1):=(hb.cell (p:=⟨w.heap.size,20,none⟩) (by simp)).trans (by simp[go_sem])
    have c22:w1.cell? ⟨w.heap.size,22,none⟩=some (.int .i64 h.lon):=(hb.cell (p:=⟨w.heap.size,22,none⟩) (by simp)).trans (by simp[go_sem])
    have c23:w1.cell? ⟨w.heap.size,23,none⟩=some (.int .i64 h.lat):=(hb.cell (p:=⟨w.heap.size,23,none⟩) (by simp)).trans (by simp[go_sem])
    clear hb
    go_wp2_with fail
    refine(H1.out _ _ (by simp)).mono ?_
    rintro e w2 ⟨rfl,hb⟩
    have u2:=u1.trans (hb.mono u1.size)
    replace c18:=cell_later hb c18
    replace c20:=cell_later hb c20
    replace c22:=cell_later hb c22
    replace c23:=cell_later hb c23
    clear u1
    clear hb
    go_wp2_with fail
    refine(H2.out _ _ (by simp)).mono ?_
    rintro e w3 ⟨rfl,hb⟩
    have u3:=u2.trans (hb.mono u2.size)
    replace c18:=cell_later hb c18
    replace c20:=cell_later hb c20
    replace c22:=cell_later hb c22
    replace c23:=cell_later hb c23
    clear u2
    clear hb
    go_wp2_with fail
    go_ret
    exact⟨ret_bool he.out,u3⟩
   ·go_enter Tryz.func179,Tryz.ntmps179
    go_wp2_with fail
    refine(H0.out _ _ (by simp)).mono ?_
    rintro e w1 ⟨rfl,hb⟩
    have u1:Below w.heap.size w w1:=Below.trans (by go_grown) (hb.mono (by rw[World.size_alloc];omega))
    have c18:w1.cell? ⟨w.heap.size,18,none⟩=some (.int .i64 h.la0):=(hb.cell (p:=⟨w.heap.size,18,none⟩) (by simp)).trans (by simp[go_sem])
    have c20:w1.cell? ⟨w.heap.size,20,none⟩=some (.int .i64 h.la1):=(hb.cell (p:=⟨w.heap.size,20,none⟩) (by simp)).trans (by simp[go_sem])
    have c22:w1.cell? ⟨w.heap.size,22,none⟩=some (.int .i64 h.lon):=(hb.cell (p:=⟨w.heap.size,22,none⟩) (by simp)).trans (by simp[go_sem])
    have c23:w1.cell? ⟨w.heap.size,23,none⟩=some (.int .i64 h.lat):=(hb.cell (p:=⟨w.heap.size,23,none⟩) (by simp)).trans (by simp[go_sem])
    clear hb
    go_wp2_with fail
    refine(H1.out _ _ (by simp)).mono ?_
    rintro e w2 ⟨rfl,hb⟩
    have u2:=u1.trans (hb.mono u1.size)
    replace c18:=cell_later hb c18
    replace c20:=cell_later hb c20
    replace c22:=cell_later hb c22
    replace c23:=cell_later hb c23
    clear u1
    clear hb
    go_wp2_with fail
    refine(H2.out _ _ (by simp)).mono ?_
    rintro e w3 ⟨rfl,hb⟩
    have u3:=u2.trans (hb.mono u2.size)
    replace c18:=cell_later hb c18
    replace c20:=cell_later hb c20
    replace c22:=cell_later hb c22
    replace c23:=cell_later hb c23
    clear u2
    clear hb
    go_wp2_with fail
    refine(H3.out _ _ (by simp)).mono ?_
    rintro e w4 ⟨rfl,hb⟩
    have u4:=u3.trans (hb.mono u3.size)
    replace c18:=cell_later hb c18
    replace c20:=cell_later hb c20
    replace c22:=cell_later hb c22
    replace c23:=cell_later hb c23
    clear u3
    clear hb
    go_wp2_with fail
    go_ret
    exact⟨ret_bool he.out,u4⟩
theorem cell_blk {w:World} {g:Nat} {cs:Array Value} {t:TypeId} {fr:Nat × Nat} (h:w.heap[g]?=some (.cells cs t fr)) (i:Nat):w.cell? ⟨g,i,none⟩=cs[i]?:=by simp[World.cell?,h]
theorem cellb_lt {w:World} {a:Addr} {v:Value} (h:w.cell? a=some v):a.block<w.heap.size:=by
 rcases Nat.lt_or_ge a.block w.heap.size with h'|h'
 ·exact h'
 ·simp[World.cell?,Array.getElem?_eq_none h'] at h
theorem cellb_later {w w':World} {a:Addr} {v:Value} (hb:Below w.heap.size w w') (h:w.cell? a=some v):w'.cell? a=some v:=(hb.cell (p:=a) (cellb_lt h)).trans h
def cH (h:Hd):Array Value:=#[.int .u64 h.rf,.int .u64 h.rl,.int .u64 h.mf,.int .u64 h.ml,.int .u64 h.lf,.int .u64 h.ll,.int .u64 h.df,.int .u64 h.dl,.int .u64 h.ad,.int .u64 h.en,.int .u64 h.co,.bool h.cl,.int .u8 h.inn,.int .u8 h.out,.int .u8 h.knd,.int .i64 h.z0,.int .i64 h.z1,.int .i64 h.lo0,.int .i64 h.la0,.int .i64 h.lo1,.int .i64 h.la1,.int .i64 h.zm,.int .i64 h.lon,.int .i64 h.lat]
def HAt (w:World) (b:Nat) (T:TypeId) (h:Hd):Prop:=w.heap[b]?=some (.cells (cH h) T (0,0))
theorem HAt.lt {w:World} {b:Nat} {T:TypeId} {h:Hd} (H:HAt w b T h):b<w.heap.size:=by
 rcases Nat.lt_or_ge b w.heap.size with h'|h'
 ·exact h'
 ·unfold HAt at H;rw[Array.getElem?_eq_none h'] at H;cases H
theorem HAt.below {w w':World} {B b:Nat} {T:TypeId} {h:Hd} (H:HAt w b T h) (hb:Below B w w') (hB:b<B):HAt w' b T h:=(hb.block b hB).trans H
theorem HAt.later {w w':World} {b:Nat} {T:TypeId} {h:Hd} (H:HAt w b T h) (hb:Below w.heap.size w w'):HAt w' b T h:=H.below hb H.lt
theorem HAt.made (w:World) (h:Hd) (T:TypeId):HAt (w.alloc (.cells (cH h) T)) w.heap.size T h:=heap_alloc_new w _
theorem at0 {w:World} {b:Nat} {T:TypeId} {h:Hd} (H:HAt w b T h):w.cell? ⟨b,0,none⟩=some (.int .u64 h.rf):=cell_blk H 0
theorem at1 {w:World} {b:Nat} {T:TypeId} {h:Hd} (H:HAt w b T h):w.cell? ⟨b,1,none⟩=some (.int .u64 h.rl):=cell_blk H 1
theorem at2 {w:World} {b:Nat} {T:TypeId} {h:Hd} (H:HAt w b T h):w.cell? ⟨b,2,none⟩=some (.int .u64 h.mf):=cell_blk H 2
theorem at3 {w:World} {b:Nat} {T:TypeId} {h:Hd} (H:HAt w b T h):w.cell? ⟨b,3,none⟩=some (.int .u64 h.ml):=cell_blk H 3
theorem at4 {w:World} {b:Nat} {T:TypeId} {h:Hd} (H:HAt w b T h):w.cell? ⟨b,4,none⟩=some (.int .u64 h.lf):=cell_blk H 4
theorem at5 {w:World} {b:Nat} {T:TypeId} {h:Hd} (H:HAt w b T h):w.cell? ⟨b,5,none⟩=some (.int .u64 h.ll):=cell_blk H 5
theorem at6 {w:World} {b:Nat} {T:TypeId} {h:Hd} (H:HAt w b T h):w.cell? ⟨b,6,none⟩=some (.int .u64 h.df):=cell_blk H 6
theorem at7 {w:World} {b:Nat} {T:TypeId} {h:Hd} (H:HAt w b T h):w.cell? ⟨b,7,none⟩=some (.int .u64 h.dl):=cell_blk H 7
theorem at8 {w:World} {b:Nat} {T:TypeId} {h:Hd} (H:HAt w b T h):w.cell? ⟨b,8,none⟩=some (.int .u64 h.ad):=cell_blk H 8
theorem at9 {w:World} {b:Nat} {T:TypeId} {h:Hd} (H:HAt w b T h):w.cell? ⟨b,9,none⟩=some (.int .u64 h.en):=cell_blk H 9
theorem at10 {w:World} {b:Nat} {T:TypeId} {h:Hd} (H:HAt w b T h):w.cell? ⟨b,10,none⟩=some (.int .u64 h.co):=cell_blk H 10
theorem at11 {w:World} {b:Nat} {T:TypeId} {h:Hd} (H:HAt w b T h):w.cell? ⟨b,11,none⟩=some (.bool h.cl):=cell_blk H 11
theorem at12 {w:World} {b:Nat} {T:TypeId} {h:Hd} (H:HAt w b T h):w.cell? ⟨b,12,none⟩=some (.int .u8 h.inn):=cell_blk H 12
theorem at13 {w:World} {b:Nat} {T:TypeId} {h:Hd} (H:HAt w b T h):w.cell? ⟨b,13,none⟩=some (.int .u8 h.out):=cell_blk H 13
theorem at14 {w:World} {b:Nat} {T:TypeId} {h:Hd} (H:HAt w b T h):w.cell? ⟨b,14,none⟩=some (.int .u8 h.knd):=cell_blk H 14
theorem at15 {w:World} {b:Nat} {T:TypeId} {h:Hd} (H:HAt w b T h):w.cell? ⟨b,15,none⟩=some (.int .i64 h.z0):=cell_blk H 15
theorem at16 {w:World} {b:Nat} {T:TypeId} {h:Hd} (H:HAt w b T h):w.cell? ⟨b,16,none⟩=some (.int .i64 h.z1):=cell_blk H 16
theorem at17 {w:World} {b:Nat} {T:TypeId} {h:Hd} (H:HAt w b T h):w.cell? ⟨b,17,none⟩=some (.int .i64 h.lo0):=cell_blk H 17
theorem at18 {w:World} {b:Nat} {T:TypeId} {h:Hd} (H:HAt w b T h):w.cell? ⟨b,18,none⟩=some (.int .i64 h.la0):=cell_blk H 18
theorem at19 {w:World} {b:Nat} {T:TypeId} {h:Hd} (H:HAt w b T h):w.cell? ⟨b,19,none⟩=some (.int .i64 h.lo1):=cell_blk H 19
theorem at20 {w:World} {b:Nat} {T:TypeId} {h:Hd} (H:HAt w b T h):w.cell? ⟨b,20,none⟩=some (.int .i64 h.la1):=cell_blk H 20
theorem at21 {w:World} {b:Nat} {T:TypeId} {h:Hd} (H:HAt w b T h):w.cell? ⟨b,21,none⟩=some (.int .i64 h.zm):=cell_blk H 21
theorem at22 {w:World} {b:Nat} {T:TypeId} {h:Hd} (H:HAt w b T h):w.cell? ⟨b,22,none⟩=some (.int .i64 h.lon):=cell_blk H 22
theorem at23 {w:World} {b:Nat} {T:TypeId} {h:Hd} (H:HAt w b T h):w.cell? ⟨b,23,none⟩=some (.int .i64 h.lat):=cell_blk H 23
theorem ck_secs (h:Hd) (e:SecsB h=false):ckH h=8:=by unfold ckH;rw[if_neg (by simp[e])]
theorem ck_kind (h:Hd) (e:SecsB h=true) (k:KindB h=false):ckH h=14:=by unfold ckH;rw[if_pos e,if_neg (by simp[k])]
theorem ck_zooms (h:Hd) (e:SecsB h=true) (k:KindB h=true) (z:ZoomsB h=false):ckH h=8:=by unfold ckH;rw[if_pos e,if_pos k,if_neg (by simp[z])]
theorem ck_deg (h:Hd) (e:SecsB h=true) (k:KindB h=true) (z:ZoomsB h=true) (d:DegB h=false):ckH h=8:=by unfold ckH;rw[if_pos e,if_pos k,if_pos z,if_neg (by simp[d])]
theorem ck_okCc (h:Hd) (e:SecsB h=true) (k:KindB h=true) (z:ZoomsB h=true) (d:DegB h=true):ckH h=0:=by unfold ckH;rw[if_pos e,if_pos k,if_pos z,if_pos d]
def SecsUp (h:Hd) (k:Nat):Prop:=(0<k→secB h.rf h.rl=true)∧(1<k→secB h.mf h.ml=true)∧(2<k→secB h.lf h.ll=true)∧(3<k→secB h.df h.dl=true)
theorem secs_all (h:Hd) (s:SecsUp h 4):SecsB h=true:=by
 unfold SecsB
 rw[s.1 (by omega),s.2.1 (by omega),s.2.2.1 (by omega),s.2.2.2 (by omega)]
 rfl
theorem size_sec:Tryz.t91.size=2:=by kernel_rfl
theorem idx_sec (c0 c1 c2 c3 c4 c5 c6 c7:Value) (W:World) :
  Sem.run Tryz.prog (Instr.index 165 (.agg #[c0,c1,c2,c3,c4,c5,c6,c7]) (.int .i64 0)) W=.ok (.agg #[c0,c1]) W ∧
  Sem.run Tryz.prog (Instr.index 165 (.agg #[c0,c1,c2,c3,c4,c5,c6,c7]) (.int .i64 1)) W=.ok (.agg #[c2,c3]) W ∧
  Sem.run Tryz.prog (Instr.index 165 (.agg #[c0,c1,c2,c3,c4,c5,c6,c7]) (.int .i64 2)) W=.ok (.agg #[c4,c5]) W ∧
  Sem.run Tryz.prog (Instr.index 165 (.agg #[c0,c1,c2,c3,c4,c5,c6,c7]) (.int .i64 3)) W=.ok (.agg #[c6,c7]) W:=by
 refine⟨?_,?_,?_,?_⟩ <;> simp[Instr.index,run_underlying Tryz.underlying165,asIntOf,part,sizeOf,size_sec,go_sem]
theorem head_size:(Tryz.prog.info? 93).map (·.size)=some 24:=by kernel_rfl
theorem sections_h (h:Hd) (w:World):Calls Tryz.prog 100 #[.agg (cH h)] w fun e w'=>e=.returned (.agg #[.int .u64 h.rf,.int .u64 h.rl,.int .u64 h.mf,.int .u64 h.ml,.int .u64 h.lf,.int .u64 h.ll,.int .u64 h.df,.int .u64 h.dl])∧Below w.heap.size w w':=sections_any h w
theorem zooms_h (h:Hd) (w:World):Calls Tryz.prog 178 #[.agg (cH h)] w fun e w'=>e=.returned (.bool (ZoomsB h))∧Below w.heap.size w w':=zooms_anyCc h w
theorem degrees_h (h:Hd) (w:World):Calls Tryz.prog 179 #[.agg (cH h)] w fun e w'=>e=.returned (.bool (DegB h))∧Below w.heap.size w w':=degrees_any h w
theorem load_head {ops:Array Oper} {rest:List Oper} {o:Oper} {a:Act} {w:World} {Q:Exit→Act→World→Prop} (hw:Region.wanted o (yielded ops a.tmps)=true) (x:Operand) (ho:o.op=.load 93 x)
  (g:Nat) (hx:a.eval x=.pointer (some ⟨g,0,none⟩)) (T:TypeId) (h:Hd) (H:HAt w g T h) (k:wpList Tryz.prog ops Q rest (a.put o.dst (.agg (cH h))) w):wpList Tryz.prog ops Q (o :: rest) a w :=
 BigFrame.wpList_want hw fun _ hK=>wp_load_row 93 x ho g hx T (cH h) (0,0) _ H Tryz.underlying93 rfl head_size (hK _ _ k)
set_option maxRecDepth 20000 in
theorem check_anyCc (h:Hd) (w:World) (hm:MayH h):Calls Tryz.prog 99 #[.agg (cH h)] w fun e w'=>e=.returned (.int .i64 (ckH h))∧Below w.heap.size w w':=by
 have HM:=Lib.hid hm;clear hm
 have H0:=HAt.made w h 93
 go_enter Tryz.func99,Tryz.ntmps99
 go_wp2_with (first|(refine load_head (by rfl) _ rfl _ rfl _ h (by assumption) ?_)|fail)
 refine(sections_h h _).mono ?_
 rintro e w1 ⟨rfl,hb⟩
 have H1:=H0.below hb (by rw[World.size_alloc];omega)
 have hz1:w.heap.size<w1.heap.size:=by have:=hb.size;rw[World.size_alloc] at this;omega
 have u1:Below w.heap.size w w1:=Below.trans (by go_grown) (hb.mono (by rw[World.size_alloc];omega))
 have HH1:=Lib.hid H1
 have HU:=Lib.hid u1
 clear hb H0 H1 u1
 go_wp2_with fail
 go_loopw [7] (fun i wr=>∃ k:Nat,k≤4∧i=.int .i64 k∧Hid (SecsUp h k)∧Below w1.heap.size w1 wr) (fun i _=>4 - (intOf i).toNat)
 case atStart=>exact⟨0,by omega,rfl,Lib.hid ⟨by omega,by omega,by omega,by omega⟩,Below.refl _ _⟩
 case round =>
  obtain⟨k,hk,rfl,HS,hbw⟩:=hrel
  have hIX:=fun W=>idx_sec (.int .u64 h.rf) (.int .u64 h.rl) (.int .u64 h.mf) (.int .u64 h.ml) (.int .u64 h.lf) (.int .u64 h.ll) (.int .u64 h.df) (.int .u64 h.dl) W
  have hzr:=hbw.size
  have HHr:=Lib.hid (HH1.out.below hbw hz1)
  have HUr:=Lib.hid (HU.out.trans (hbw.mono (by omega)))
  rcases(by omega:k=0∨k=1∨k=2∨k=3∨k=4) with rfl|rfl|rfl|rfl|rfl
  ·have hI:=fun W=>(hIX W).1
   clear hIX
   have HF:=Lib.hid (fun W=>fits_any h.rf h.rl W HM.out.1 HM.out.2.1)
   obtain⟨b,hs⟩:∃ b,secB h.rf h.rl=b:=⟨_,rfl⟩
   rw[hs] at HF
   cases b
   ·have hc:Hid (8=ckH h):=Lib.hid (ck_secs h (by unfold SecsB;simp only[hs];simp)).symm
    clear hs
    go_wp2_with fail
    refine(HF.out _).mono ?_
    rintro e w2 ⟨rfl,hb⟩
    have u2:Below w.heap.size w w2:=(HUr.out.alloc (by omega) _).trans (hb.mono (by rw[World.size_alloc];omega))
    clear hb
    go_wp2_with fail
    go_ret
    exact⟨ret_int hc.out,u2⟩
   ·have HS2:Hid (SecsUp h 1):=Lib.hid ⟨fun _=>hs,fun hh=>by omega,fun hh=>by omega,fun hh=>by omega⟩
    clear hs
    go_wp2_with fail
    refine(HF.out _).mono ?_
    rintro e w2 ⟨rfl,hb⟩
    have u2:Below w1.heap.size w1 w2:=(hbw.alloc hzr _).trans (hb.mono (by rw[World.size_alloc];omega))
    clear hb
    go_wp2_with fail
    go_roundw
    case rel=>exact⟨1,by omega,by rfl,HS2,u2⟩
    case measure=>simp[intOf]
  ·have hI:=fun W=>(hIX W).2.1
   clear hIX
   have HF:=Lib.hid (fun W=>fits_any h.mf h.ml W HM.out.2.2.1 HM.out.2.2.2.1)
   obtain⟨b,hs⟩:∃ b,secB h.mf h.ml=b:=⟨_,rfl⟩
   rw[hs] at HF
   cases b
   ·have hc:Hid (8=ckH h):=Lib.hid (ck_secs h (by unfold SecsB;simp only[hs,HS.out.1 (by omega)];simp)).symm
    clear hs
    go_wp2_with fail
    refine(HF.out _).mono ?_
    rintro e w2 ⟨rfl,hb⟩
    have u2:Below w.heap.size w w2:=(HUr.out.alloc (by omega) _).trans (hb.mono (by rw[World.size_alloc];omega))
    clear hb
    go_wp2_with fail
    go_ret
    exact⟨ret_int hc.out,u2⟩
   ·have HS2:Hid (SecsUp h 2):=Lib.hid ⟨fun _=>HS.out.1 (by omega),fun hh=>hs,fun hh=>by omega,fun hh=>by omega⟩
    clear hs
    go_wp2_with fail
    refine(HF.out _).mono ?_
    rintro e w2 ⟨rfl,hb⟩
    have u2:Below w1.heap.size w1 w2:=(hbw.alloc hzr _).trans (hb.mono (by rw[World.size_alloc];omega))
    clear hb
    go_wp2_with fail
    go_roundw
    case rel=>exact⟨2,by omega,by rfl,HS2,u2⟩
    case measure=>simp[intOf]
  ·have hI:=fun W=>(hIX W).2.2.1
   clear hIX
   have HF:=Lib.hid (fun W=>fits_any h.lf h.ll W HM.out.2.2.2.2.1 HM.out.2.2.2.2.2.1)
   obtain⟨b,hs⟩:∃ b,secB h.lf h.ll=b:=⟨_,rfl⟩
   rw[hs] at HF
   cases b
   ·have hc:Hid (8=ckH h):=Lib.hid (ck_secs h (by unfold SecsB;simp only[hs,HS.out.1 (by omega),HS.out.2.1 (by omega)];simp)).symm
    clear hs
    go_wp2_with fail
    refine(HF.out _).mono ?_
    rintro e w2 ⟨rfl,hb⟩
    have u2:Below w.heap.size w w2:=(HUr.out.alloc (by omega) _).trans (hb.mono (by rw[World.size_alloc];omega))
    clear hb
    go_wp2_with fail
    go_ret
    exact⟨ret_int hc.out,u2⟩
   ·have HS2:Hid (SecsUp h 3):=Lib.hid ⟨fun _=>HS.out.1 (by omega),fun hh=>HS.out.2.1 (by omega),fun hh=>hs,fun hh=>by omega⟩
    clear hs
    go_wp2_with fail
    refine(HF.out _).mono ?_
    rintro e w2 ⟨rfl,hb⟩
    have u2:Below w1.heap.size w1 w2:=(hbw.alloc hzr _).trans (hb.mono (by rw[World.size_alloc];omega))
    clear hb
    go_wp2_with fail
    go_roundw
    case rel=>exact⟨3,by omega,by rfl,HS2,u2⟩
    case measure=>simp[intOf]
  ·have hI:=fun W=>(hIX W).2.2.2
   clear hIX
   have HF:=Lib.hid (fun W=>fits_any h.df h.dl W HM.out.2.2.2.2.2.2.1 HM.out.2.2.2.2.2.2.2.1)
   obtain⟨b,hs⟩:∃ b,secB h.df h.dl=b:=⟨_,rfl⟩
   rw[hs] at HF
   cases b
   ·have hc:Hid (8=ckH h):=Lib.hid (ck_secs h (by unfold SecsB;simp only[hs,HS.out.1 (by omega),HS.out.2.1 (by omega),HS.out.2.2.1 (by omega)];simp)).symm
    clear hs
    go_wp2_with fail
    refine(HF.out _).mono ?_
    rintro e w2 ⟨rfl,hb⟩
    have u2:Below w.heap.size w w2:=(HUr.out.alloc (by omega) _).trans (hb.mono (by rw[World.size_alloc];omega))
    clear hb
    go_wp2_with fail
    go_ret
    exact⟨ret_int hc.out,u2⟩
   ·have HS2:Hid (SecsUp h 4):=Lib.hid ⟨fun _=>HS.out.1 (by omega),fun hh=>HS.out.2.1 (by omega),fun hh=>HS.out.2.2.1 (by omega),fun hh=>hs⟩
    clear hs
    go_wp2_with fail
    refine(HF.out _).mono ?_
    rintro e w2 ⟨rfl,hb⟩
    have u2:Below w1.heap.size w1 w2:=(hbw.alloc hzr _).trans (hb.mono (by rw[World.size_alloc];omega))
    clear hb
    go_wp2_with fail
    go_roundw
    case rel=>exact⟨4,by omega,by rfl,HS2,u2⟩
    case measure=>simp[intOf]
  ·have hS:SecsB h=true:=secs_all h HS.out
   have c12:=at12 HHr.out
   have c13:=at13 HHr.out
   have c14:=at14 HHr.out
   clear hIX HM
   have hHr:=HHr.out
   by_cases k1:h.inn≤4
   ·have d1:decide (4<h.inn)=false:=by simp;omega
    by_cases k2:h.out≤4
    ·have d2:decide (4<h.out)=false:=by simp;omega
     by_cases k3:h.knd≤5
     ·have d3:decide (5<h.knd)=false:=by simp;omega
      have hK:KindB h=true:=by unfold KindB;simp[k1,k2,k3]
      have HZ:=Lib.hid (fun W=>zooms_h h W)
      have HD:=Lib.hid (fun W=>degrees_h h W)
      clear k1 k2 k3
      obtain⟨b,hz⟩:∃ b,ZoomsB h=b:=⟨_,rfl⟩
      rw[hz] at HZ
      cases b
      ·have hc:Hid (8=ckH h):=Lib.hid (ck_zooms h hS hK hz).symm
       clear hS hK hz
       go_wp2_with (first|(refine load_head (by rfl) _ rfl _ rfl _ h (by assumption) ?_)|fail)
       refine(HZ.out _).mono ?_
       rintro e w2 ⟨rfl,hb⟩
       have u2:=HUr.out.trans (hb.mono (by omega))
       clear hb
       go_wp2_with fail
       go_ret
       exact⟨ret_int hc.out,u2⟩
      ·obtain⟨b,hg⟩:∃ b,DegB h=b:=⟨_,rfl⟩
       rw[hg] at HD
       cases b
       ·have hc:Hid (8=ckH h):=Lib.hid (ck_deg h hS hK hz hg).symm
        clear hS hK hz hg
        go_wp2_with (first|(refine load_head (by rfl) _ rfl _ rfl _ h (by assumption) ?_)|fail)
        refine(HZ.out _).mono ?_
        rintro e w2 ⟨rfl,hb⟩
        have u2:=HUr.out.trans (hb.mono (by omega))
        have h2:=hHr.later hb
        have hz2:=hb.size
        clear hb hHr
        go_wp2_with (first|(refine load_head (by rfl) _ rfl _ rfl _ h (by assumption) ?_)|fail)
        refine(HD.out _).mono ?_
        rintro e w3 ⟨rfl,hb⟩
        have u3:=u2.trans (hb.mono (by omega))
        clear hb
        go_wp2_with fail
        go_ret
        exact⟨ret_int hc.out,u3⟩
       ·have hc:Hid (0=ckH h):=Lib.hid (ck_okCc h hS hK hz hg).symm
        clear hS hK hz hg
        go_wp2_with (first|(refine load_head (by rfl) _ rfl _ rfl _ h (by assumption) ?_)|fail)
        refine(HZ.out _).mono ?_
        rintro e w2 ⟨rfl,hb⟩
        have u2:=HUr.out.trans (hb.mono (by omega))
        have h2:=hHr.later hb
        have hz2:=hb.size
        clear hb hHr
        go_wp2_with (first|(refine load_head (by rfl) _ rfl _ rfl _ h (by assumption) ?_)|fail)
        refine(HD.out _).mono ?_
        rintro e w3 ⟨rfl,hb⟩
        have u3:=u2.trans (hb.mono (by omega))
        clear hb
        go_wp2_with fail
        go_ret
        exact⟨ret_int hc.out,u3⟩
     ·have d3:decide (5<h.knd)=true:=by simp;omega
      have hc:Hid (14=ckH h):=Lib.hid (ck_kind h hS (by unfold KindB;simp[k3])).symm
      clear hS k1 k2 k3
      go_wp2_with fail
      go_ret
      exact⟨ret_int hc.out,HUr.out⟩
    ·have d2:decide (4<h.out)=true:=by simp;omega
     have hc:Hid (14=ckH h):=Lib.hid (ck_kind h hS (by unfold KindB;simp[k2])).symm
     clear hS k1 k2
     go_wp2_with fail
     go_ret
     exact⟨ret_int hc.out,HUr.out⟩
   ·have d1:decide (4<h.inn)=true:=by simp;omega
    have hc:Hid (14=ckH h):=Lib.hid (ck_kind h hS (by unfold KindB;simp[k1])).symm
    clear hS k1
    go_wp2_with fail
    go_ret
    exact⟨ret_int hc.out,HUr.out⟩
end Go.Proofs.YtjkgkmmkehnggaaGreatDoor
namespace Go.Proofs.YtjkgkmmkehnggaaGreatDoor
set_option linter.unusedVariables false
set_option linter.unusedSimpArgs false
set_option maxRecDepth 20000
structure Sc where
 rf:Int
 rl:Int
 mf:Int
 ml:Int
 lf:Int
 ll:Int
 df:Int
 dl:Int
deriving DecidableEq
def zeroSc:Sc:=⟨0,0,0,0,0,0,0,0⟩
structure Pl where
 sec:Sc
 all:Int
 err:Int
def tooBig (a b c d:Int):Prop:=1099511627776<a∨1099511627776<b∨1099511627776<c∨1099511627776<d∨1099511627776<127+a+b+c+d
instance (a b c d:Int):Decidable (tooBig a b c d):=by unfold tooBig;infer_instance
def secsN (a b c d:Int):Pl:=if tooBig a b c d then ⟨zeroSc,0,8⟩ else ⟨⟨127,a,127+a,b,127+a+b,c,127+a+b+c,d⟩,127+a+b+c+d,0⟩
def withN (h:Hd) (s:Sc):Hd:={ h with rf:=s.rf,rl:=s.rl,mf:=s.mf,ml:=s.ml,lf:=s.lf,ll:=s.ll,df:=s.df,dl:=s.dl }
structure Pt where
 p0:ByteArray
 p1:ByteArray
 p2:ByteArray
 p3:ByteArray
def noBCc:ByteArray:={ data:=#[] }
def secOf (p:Pt):Pl:=secsN p.p0.size p.p1.size p.p2.size p.p3.size
def glueN (h:Hd) (p:Pt):ByteArray × Int :=
 if (secOf p).err≠0 then (noBCc,(secOf p).err) else if (encH (withN h (secOf p).sec)).2≠0 then (noBCc,(encH (withN h (secOf p).sec)).2)
 else (str (encH (withN h (secOf p).sec)).1++p.p0++p.p1++p.p2++p.p3,0)
def MayS (s:Sc):Prop:=U64 s.rf∧U64 s.rl∧U64 s.mf∧U64 s.ml∧U64 s.lf∧U64 s.ll∧U64 s.df∧U64 s.dl
end Go.Proofs.YtjkgkmmkehnggaaGreatDoor
namespace Go.Proofs.YtjkgkmmkehnggaaGreatDoor
set_option linter.unusedVariables false
set_option linter.unusedSimpArgs false
open Go.RowKit
set_option maxRecDepth 20000
open Go.RowKit
set_option maxRecDepth 20000
open Go.RowKit
set_option maxRecDepth 20000
open Go.RowKit
set_option maxRecDepth 20000
open Go.RowKit
set_option maxRecDepth 20000
open Go.RowKit
set_option maxRecDepth 20000
open Go.RowKit
set_option maxRecDepth 20000
open Go.RowKit
set_option maxRecDepth 20000
def leB:Nat→Int→List Int
 | 0,_=>[]
 | k+1,x=>x % 256 :: leB k (x / 256)
def shr:Nat→Int→Int
 | 0,x=>x
 | k+1,x=>shr k (x / 256)
theorem leB_len (k:Nat) (x:Int):(leB k x).length=k:=by
 induction k generalizing x with
 | zero=>rfl
 | succ k ih=>simp[leB,ih]
theorem shr_succ (k:Nat) (x:Int):shr (k+1) x=shr k x / 256:=by
 induction k generalizing x with
 | zero=>rfl
 | succ k ih=>exact ih (x / 256)
theorem leB_succ (k:Nat) (x:Int):leB (k+1) x=leB k x++[shr k x % 256]:=by
 induction k generalizing x with
 | zero=>rfl
 | succ k ih =>
  show x % 256 :: leB (k+1) (x / 256)=x % 256 :: leB k (x / 256)++[shr k (x / 256) % 256]
  rw[ih];rfl
theorem put_anyCc (v:Value) (l:List Int) (n x:Int) (m:Nat) (w:World) (hb:BytesAt w v l) (hl:l.length≤1000000) (hn:n=m∧1≤m∧m≤8∨m=0∧(n<1∨8<n)) (x0:0≤x) (x1:x≤18446744073709551615) :
  Calls Tryz.prog 214 #[v,.int .i64 n,.int .u64 x] w (PutEndBb w (l++leB m x)):=by
 obtain⟨a,cap,rfl,hc1,hc2,hcell⟩:=hb
 obtain⟨i0,hi,hz0,hz1,hz2⟩:=info_parts infoU8
 have HM:∀ (L:Nat) (W:World),L≤1000000→(Instr.makeSlice 23 (.int .i64 (L:Int)) (.int .i64 ((L:Int)+(m:Int)))).run Tryz.prog W=.ok (.slice (some ⟨W.heap.size,0,none⟩) L (L+m)) (W.alloc (.cells (madeCells #[.int .u8 0] ((L+m)*1)) 5)):=by
  intro L W hL
  have:=run_make (P:=Tryz.prog) W 23 5 i0 (.int .u8 0) Tryz.underlying23 hi hz0 .i64 .i64 (L:Int) ((L:Int)+(m:Int)) (by omega) (by omega) (by rw[hz2];omega) (by omega)
  rw[this,hz1]
  simp only[Int.toNat_natCast]
  rw[show ((L:Int)+(m:Int)).toNat=L+m from by omega]
  rfl
 have hmk:=HM l.length
 clear HM
 have hG:(w.alloc (.cells (madeCells #[.int .u8 0] (l.length+m)) 5)).heap[w.heap.size]?=some (.cells (List.replicate (l.length+m) (Value.int .u8 0)).toArray 5 (0,0)):=by
  rw[heap_alloc_new]
  have:=toList_madeCells_one (.int .u8 0) (l.length+m)
  rw[← this]
 have hpos:0<(l.map (Value.int .u8)).length→∃ ad,a=some ad∧∀ j u,(l.map (Value.int .u8))[j]?=some u→(w.alloc (.cells (madeCells #[.int .u8 0] (l.length+m)) 5)).cell? (ad.add j)=some u:=by
  intro h
  obtain⟨y,hy,hyb,hyc⟩:=hcell (by simpa using h)
  refine⟨y,hy,fun j u hj=>?_⟩
  have hjl:j<l.length:=by
   have:=(List.getElem?_eq_some_iff.1 hj).1
   simpa using this
  have hu:u=.int .u8 (l.getD j 0):=by simpa[hjl] using hj.symm
  rw[hu,← hyc j hjl]
  exact((Below.refl w.heap.size w).alloc (Nat.le_refl _) _).cell (p:=y.add j) (by rw[add_block];exact hyb)
 have HG:=Lib.hid hG;clear hG
 have HP:=Lib.hid hpos;clear hpos
 clear hcell
 have hml:l.length+8≤maxLen:=by unfold maxLen;omega
 rcases hn with ⟨rfl,hm1,hm8⟩|⟨rfl,hn⟩
 ·go_enter Tryz.func214,Tryz.ntmps214
  go_wp2_with (first|(go_at_call 220;refine(isw_yes _ _ (by omega) (by omega)).mono ?_;rintro e w' ⟨rfl,rfl⟩)|(with_reducible refine wpList_copy_splice rfl (.tmp 18) (.tmp 19) 23 23 rfl 5 Tryz.underlying23 (by kernel_rfl) _ _ _ _ _ _ rfl rfl w.heap.size 0 (List.replicate (l.length+m) (Value.int .u8 0)) 5 HG.out (l.map (Value.int .u8)) (by simp) (fun h=>⟨rfl,HP.out h⟩) (by simp) (ints_oneCell _ _) w.heap.size w ((Below.refl _ _).alloc (Nat.le_refl _) _) (Nat.le_refl _) ?_;intro w2 HG2 HB2)|fail)
  have hO:=own_of_splice HG2.out (by omega)
  clear HG2 HG HP hmk
  go_loopw [7,2,22] (fun v x' i wr=>∃ (k:Nat) (y:Int),k≤m∧i=.int .i64 k∧x'=.int .u64 y∧0≤y∧y≤18446744073709551615∧Hid (shr k x=y)∧Own wr w.heap.size v (l++leB k x)∧Below w.heap.size w wr) (fun _ _ i _=>m - (intOf i).toNat)
  case atStart=>exact⟨0,x,Nat.zero_le _,rfl,rfl,x0,x1,rfl,by simpa[leB] using hO,HB2⟩
  case round =>
   obtain⟨k,y,hk,rfl,rfl,y0,y1,HY,hown,hbw⟩:=hrel
   have hlen:(l++leB k x).length=l.length+k:=by rw[List.length_append,leB_len]
   have HL:=Lib.hid hlen;clear hlen
   have hsz:=hbw.size
   by_cases hlt:k<m
   ·go_wp2_with (first|(at_builtin;refine wpList_append_own _ rfl _ _ 23 rfl w.heap.size 5 i0 (.int .u8 0) 1 1 Tryz.underlying23 hi hz0 hz1 hz2 rfl (by decide) _ _ _ rfl (World.ownsRow.alloc hown _) ⟨wr.heap.size,0,none⟩ 1 1 [.int .u8 (y % 256)] rfl rfl ?c1 ?c2 ?c3 ?c4 ?c5 ?_)|fail)
    case c1 =>
     intro j u hj
     match j,hj with
     | 0,hj=>simp at hj;subst hj;simp[Addr.add]
    case c2=>intro u hu;simp at hu;subst hu;rfl
    case c3=>rw[HL.out];unfold maxLen;omega
    case c4=>rw[HL.out];omega
    case c5=>rw[World.size_alloc];omega
    intro v' w1 hown' hgrow _
    have hbel:Below w.heap.size w w1:=(hbw.alloc (by omega) _).grown hgrow (by rw[World.size_alloc];omega) (fun g hg=>(World.ownsRow.lt hown g hg).1)
    have hO':Own w1 w.heap.size v' (l++leB (k+1) x):=by
     rw[leB_succ,HY.out,← List.append_assoc]
     exact Own.snoc (by simpa using hown')
    have HY':Hid (shr (k+1) x=y / 256):=by
     have:=shr_succ k x
     rw[HY.out] at this
     exact Lib.hid this
    clear hown' hgrow hown hbw HY
    go_wp2
    go_roundw
    case rel=>exact⟨k+1,y / 256,by omega,by go_num,rfl,by omega,by omega,HY',hO',hbel⟩
    case measure=>simp[intOf];omega
   ·obtain rfl:k=m:=by omega
    go_wp2
    go_ret
    exact⟨_,rfl,hown,hbw⟩
 ·simp only[Nat.add_zero] at HG HP
  have hmk0:∀ (W:World),(Instr.makeSlice 23 (.int .i64 (l.length:Int)) (.int .i64 (l.length:Int))).run Tryz.prog W=.ok (.slice (some ⟨W.heap.size,0,none⟩) l.length l.length) (W.alloc (.cells (madeCells #[.int .u8 0] l.length) 5)):=by
   intro W
   have:=hmk W hl
   simpa using this
  clear hmk
  go_enter Tryz.func214,Tryz.ntmps214
  go_wp2_with (first|(go_at_call 220;refine(isw_no _ _ (by omega)).mono ?_;rintro e w' ⟨rfl,rfl⟩)|(with_reducible refine wpList_copy_splice rfl (.tmp 18) (.tmp 19) 23 23 rfl 5 Tryz.underlying23 (by kernel_rfl) _ _ _ _ _ _ rfl rfl w.heap.size 0 (List.replicate l.length (Value.int .u8 0)) 5 HG.out (l.map (Value.int .u8)) (by simp) (fun h=>⟨rfl,HP.out h⟩) (by simp) (ints_oneCell _ _) w.heap.size w ((Below.refl _ _).alloc (Nat.le_refl _) _) (Nat.le_refl _) ?_;intro w2 HG2 HB2)|fail)
  have hO:=own_of_splice (m:=0) HG2.out (by omega)
  clear HG2 HG HP hmk0
  refine wp_loop_rounds 1 ?_
  rw[rounds_succ]
  go_wp2
  go_ret
  exact⟨_,rfl,by simpa[leB] using hO,HB2⟩
end Go.Proofs.YtjkgkmmkehnggaaGreatDoor
