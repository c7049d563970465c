/- cMH. -/
import Derived.Test.YtjinnigjfopbcaaGreatDoorJs
import Derived.Test.YtjinnigjfopbcaaGreatDoorJb3
namespace Go.Proofs.YtjinnigjfopbcaaGreatDoor
set_option linter.unusedVariables false
set_option linter.unusedSimpArgs false
def leH:Nat→Int→List Int
 | 0,_=>[]
 | n+1,x=>x % 256 :: leH n (x / 256)
def xf0:List Int→Int
 | []=>0
 | c :: l=>c+256*xf0 l
def xjs:Nat→Int
 | 0=>1
 | n+1=>256*xjs n
theorem xpw (n:Nat):1≤xjs n:=by
 induction n with
 | zero=>simp[xjs]
 | succ n ih=>simp only[xjs];omega
def xkI (l:List Int):Prop:=∀ c ∈ l,0≤c∧c<256
theorem xgA (n:Nat) (x:Int):(leH n x).length=n:=by
 induction n generalizing x with
 | zero=>rfl
 | succ n ih=>simp[leH,ih]
theorem xpZ (n:Nat) (x:Int):xkI (leH n x):=by
 induction n generalizing x with
 | zero=>intro c hc;simp[leH] at hc
 | succ n ih =>
  intro c hc
  rcases List.mem_cons.1 hc with rfl|hc
  ·omega
  ·exact ih _ c hc
theorem xtG (n:Nat) (x:Int) (h0:0≤x) (h1:x<xjs n):xf0 (leH n x)=x:=by
 induction n generalizing x with
 | zero=>simp only[xjs] at h1;simp only[leH,xf0];omega
 | succ n ih =>
  simp only[xjs] at h1
  have hp:=xpw n
  rw[leH,xf0,ih (x / 256) (by omega) (by omega)]
  omega
theorem xiX (l:List Int) (h:xkI l):0≤xf0 l∧xf0 l<xjs l.length:=by
 induction l with
 | nil=>simp[xf0,xjs]
 | cons c l ih =>
  have hc:=h c List.mem_cons_self
  have:=ih (fun d hd=>h d (List.mem_cons_of_mem _ hd))
  simp only[xf0,List.length_cons,xjs]
  omega
theorem xt0 (l:List Int) (h:xkI l):leH l.length (xf0 l)=l:=by
 induction l with
 | nil=>rfl
 | cons c l ih =>
  have hc:=h c List.mem_cons_self
  have hl:xkI l:=fun d hd=>h d (List.mem_cons_of_mem _ hd)
  have hb:=xiX l hl
  rw[List.length_cons,xf0,leH,show (c+256*xf0 l) % 256=c from by omega,show (c+256*xf0 l) / 256=xf0 l from by omega,ih hl]
def xd5:List Nat→List Int→List Int
 | w :: ws,x :: xs=>leH w x++xd5 ws xs
 | _,_=>[]
def xcI:List Nat→List Int→List Int
 | [],_=>[]
 | w :: ws,l=>xf0 (l.take w) :: xcI ws (l.drop w)
def xml:List Nat→Nat
 | []=>0
 | w :: ws=>w+xml ws
def xhI:List Nat→List Int→Prop
 | [],[]=>True
 | w :: ws,x :: xs=>(0≤x∧x<xjs w)∧xhI ws xs
 | _,_=>False
theorem xnB (ws:List Nat) (xs:List Int) (h:xhI ws xs):(xd5 ws xs).length=xml ws:=by
 induction ws generalizing xs with
 | nil=>cases xs <;> rfl
 | cons w ws ih =>
  cases xs with
  | nil=>exact h.elim
  | cons x xs=>rw[xd5,List.length_append,xgA,ih xs h.2,xml]
theorem xlt (ws:List Nat) (xs:List Int):xkI (xd5 ws xs):=by
 induction ws generalizing xs with
 | nil=>intro c hc;simp[xd5] at hc
 | cons w ws ih =>
  cases xs with
  | nil=>intro c hc;simp[xd5] at hc
  | cons x xs =>
   intro c hc
   rcases List.mem_append.1 hc with hc|hc
   ·exact xpZ w x c hc
   ·exact ih xs c hc
theorem xmf (ws:List Nat) (xs r:List Int) (h:xhI ws xs):xcI ws (xd5 ws xs++r)=xs:=by
 induction ws generalizing xs with
 | nil =>
  cases xs with
  | nil=>rfl
  | cons x xs=>exact h.elim
 | cons w ws ih =>
  cases xs with
  | nil=>exact h.elim
  | cons x xs =>
   have hl:=xgA w x
   rw[xd5,xcI,List.append_assoc,List.take_left' hl,List.drop_left' hl,xtG w x h.1.1 h.1.2,ih xs h.2]
theorem xiv (ws:List Nat) (l:List Int) (hl:xkI l) (h:xml ws≤l.length):xhI ws (xcI ws l):=by
 induction ws generalizing l with
 | nil=>exact trivial
 | cons w ws ih =>
  simp only[xml] at h
  have hb:=xiX (l.take w) (fun c hc=>hl c (List.mem_of_mem_take hc))
  rw[List.length_take,Nat.min_eq_left (by omega)] at hb
  exact⟨hb,ih (l.drop w) (fun c hc=>hl c (List.mem_of_mem_drop hc)) (by rw[List.length_drop];omega)⟩
theorem xle (ws:List Nat) (l:List Int) (hl:xkI l) (h:xml ws≤l.length):xd5 ws (xcI ws l)=l.take (xml ws):=by
 induction ws generalizing l with
 | nil=>simp[xd5,xml]
 | cons w ws ih =>
  simp only[xml] at h
  have hw:(l.take w).length=w:=by rw[List.length_take];omega
  have e:=xt0 (l.take w) (fun c hc=>hl c (List.mem_of_mem_take hc))
  rw[hw] at e
  rw[xcI,xd5,e,ih (l.drop w) (fun c hc=>hl c (List.mem_of_mem_drop hc)) (by rw[List.length_drop];omega),xml,List.take_add]
structure Hd where
 rf:Int
 rl:Int
 mf:Int
 ml:Int
 lf:Int
 ll:Int
 df:Int
 dl:Int
 ad:Int
 en:Int
 co:Int
 cl:Bool
 inn:Int
 out:Int
 knd:Int
 z0:Int
 z1:Int
 lo0:Int
 la0:Int
 lo1:Int
 la1:Int
 zm:Int
 lon:Int
 lat:Int
theorem Hd.eq_iff (a b:Hd):a=b↔(a.rf=b.rf∧a.rl=b.rl∧a.mf=b.mf∧a.ml=b.ml∧a.lf=b.lf∧a.ll=b.ll∧a.df=b.df∧a.dl=b.dl∧a.ad=b.ad∧a.en=b.en∧a.co=b.co∧a.cl=b.cl∧a.inn=b.inn∧a.out=b.out∧a.knd=b.knd∧a.z0=b.z0∧a.z1=b.z1∧a.lo0=b.lo0∧a.la0=b.la0∧a.lo1=b.lo1∧a.la1=b.la1∧a.zm=b.zm∧a.lon=b.lon∧a.lat=b.lat):=by
 constructor
 ·rintro rfl;simp
 ·cases a;cases b;simp only;rintro⟨rfl,rfl,rfl,rfl,rfl,rfl,rfl,rfl,rfl,rfl,rfl,rfl,rfl,rfl,rfl,rfl,rfl,rfl,rfl,rfl,rfl,rfl,rfl,rfl⟩;rfl
def xac:Hd:=⟨0,0,0,0,0,0,0,0,0,0,0,false,0,0,0,0,0,0,0,0,0,0,0,0⟩
def xfS (f l:Int):Bool:=decide (f≤1099511627776) && (decide (l≤1099511627776) && decide (f+l≤1099511627776))
def xd9 (h:Hd):Bool:=decide (h.inn≤4) && (decide (h.out≤4) && decide (h.knd≤5))
def xcx (h:Hd):Bool:=(decide (0≤h.z0) && decide (h.z0≤h.z1)) && (decide (h.z1≤26) && (decide (0≤h.zm) && decide (h.zm≤26)))
def xmk (h:Hd):Bool:=(decide (-1800000000≤h.lo0) && decide (h.lo0≤h.lo1)) && (decide (h.lo1≤1800000000) && ((decide (-900000000≤h.la0) && decide (h.la0≤h.la1)) && (decide (h.la1≤900000000) && ((decide (-1800000000≤h.lon) && decide (h.lon≤1800000000)) && (decide (-900000000≤h.lat) && decide (h.lat≤900000000))))))
def xcJ (h:Hd):Bool:=xfS h.rf h.rl && (xfS h.mf h.ml && (xfS h.lf h.ll && xfS h.df h.dl))
def ckH (h:Hd):Int:=if xcJ h=true then (if xd9 h=true then (if xcx h=true then (if xmk h=true then 0 else 8) else 8) else 14) else 8
def U64 (x:Int):Prop:=0≤x∧x≤18446744073709551615
def U8 (x:Int):Prop:=0≤x∧x≤255
def xeJ (h:Hd):Prop:=U64 h.rf∧U64 h.rl∧U64 h.mf∧U64 h.ml∧U64 h.lf∧U64 h.ll∧U64 h.df∧U64 h.dl∧U64 h.ad∧U64 h.en∧U64 h.co∧U8 h.inn∧U8 h.out∧U8 h.knd
def xmp (x:Int):Int:=x % 4294967296
def sg (x:Int):Int:=if x<2147483648 then x else x - 4294967296
def xhc (b:Bool):Int:=if b then 1 else 0
def xiD:List Nat:=[8,8,8,8,8,8,8,8,8,8,8,1,1,1,1,1,1,4,4,4,4,1,4,4]
def xgI (h:Hd):List Int:=[h.rf,h.rl,h.mf,h.ml,h.lf,h.ll,h.df,h.dl,h.ad,h.en,h.co,xhc h.cl,h.inn,h.out,h.knd,h.z0,h.z1,xmp h.lo0,xmp h.la0,xmp h.lo1,xmp h.la1,h.zm,xmp h.lon,xmp h.lat]
def xeD (l:List Int):Hd:=⟨l.getD 0 0,l.getD 1 0,l.getD 2 0,l.getD 3 0,l.getD 4 0,l.getD 5 0,l.getD 6 0,l.getD 7 0,l.getD 8 0,l.getD 9 0,l.getD 10 0,l.getD 11 0 == 1,l.getD 12 0,l.getD 13 0,l.getD 14 0,l.getD 15 0,l.getD 16 0,sg (l.getD 17 0),sg (l.getD 18 0),sg (l.getD 19 0),sg (l.getD 20 0),l.getD 21 0,sg (l.getD 22 0),sg (l.getD 23 0)⟩
theorem xnq:xjs 8=18446744073709551616:=rfl
theorem xjP:xjs 4=4294967296:=rfl
theorem xhF:xjs 1=256:=rfl
theorem xiM (h:Hd) (hc:ckH h=0):xcJ h=true∧xd9 h=true∧xcx h=true∧xmk h=true:=by
 unfold ckH at hc
 split at hc
 ·split at hc
  ·split at hc
   ·split at hc
    ·exact⟨by assumption,by assumption,by assumption,by assumption⟩
    ·omega
   ·omega
  ·omega
 ·omega
theorem xen (x:Int) (h0:-2147483648≤x) (h1:x<2147483648):sg (xmp x)=x:=by
 unfold sg xmp
 split <;> omega
theorem xeo (x:Int) (h0:0≤x) (h1:x<4294967296):xmp (sg x)=x:=by
 unfold sg xmp
 split <;> omega
theorem xkk (h:Hd) (hm:xeJ h) (hc:ckH h=0):xhI xiD (xgI h):=by
 obtain⟨c1,c2,c3,c4⟩:=xiM h hc
 simp only[xcJ,xfS,xd9,xcx,xmk,Bool.and_eq_true,decide_eq_true_eq] at c1 c2 c3 c4
 unfold xeJ U64 U8 at hm
 have hcl:0≤xhc h.cl∧xhc h.cl<256:=by unfold xhc;split <;> omega
 simp only[xiD,xgI,xhI,xnq,xjP,xhF,xmp,and_true]
 refine⟨?_,?_,?_,?_,?_,?_,?_,?_,?_,?_,?_,hcl,?_,?_,?_,?_,?_,?_,?_,?_,?_,?_,?_,?_⟩ <;> omega
theorem xsz (h:Hd) (hc:ckH h=0):xeD (xgI h)=h:=by
 obtain⟨c1,c2,c3,c4⟩:=xiM h hc
 simp only[xmk,Bool.and_eq_true,decide_eq_true_eq] at c4
 have hcl:(xhc h.cl == 1)=h.cl:=by unfold xhc;cases h.cl <;> rfl
 rw[Hd.eq_iff]
 simp only[xeD,xgI,List.getD_cons_zero,List.getD_cons_succ]
 refine⟨trivial,trivial,trivial,trivial,trivial,trivial,trivial,trivial,trivial,trivial,trivial,hcl,trivial,trivial,trivial,trivial,trivial,xen _ (by omega) (by omega),xen _ (by omega) (by omega),xen _ (by omega) (by omega),xen _ (by omega) (by omega),trivial,xen _ (by omega) (by omega),xen _ (by omega) (by omega)⟩
def mgH:List Int:=[80,77,84,105,108,101,115]
def xgZ:List Int:=[80,77,84,105,108,101,115,3]
theorem xkW:xkI xgZ:=by
 intro c hc
 simp only[xgZ,List.mem_cons,List.not_mem_nil,or_false] at hc
 omega
def xbg (h:Hd):List Int:=xgZ++xd5 xiD (xgI h)
def xfp (h:Hd):List Int × Int:=if ckH h=0 then (xbg h,0) else ([],ckH h)
def xqB (l:List Int):Hd:=xeD (xcI xiD (l.drop 8))
def xch (l:List Int):Hd × Int :=
 if l.length<127 then (xac,3) else
 if l.take 7≠mgH then (xac,12) else
 if l.getD 7 0≠3 then (xac,13) else
 if 1<l.getD 96 0 then (xac,4) else
 if ckH (xqB l)=0 then (xqB l,0) else (xac,ckH (xqB l))
theorem xd4:xml xiD=119:=rfl
theorem xd6 (h:Hd) (hm:xeJ h) (hc:ckH h=0):(xbg h).length=127:=by
 rw[xbg,List.length_append,xnB _ _ (xkk h hm hc),xd4];rfl
theorem xlV (h:Hd):xkI (xbg h):=by
 intro c hc
 rcases List.mem_append.1 hc with hc|hc
 ·exact xkW c hc
 ·exact xlt _ _ c hc
theorem xro (h:Hd) (r:List Int) (hm:xeJ h) (hc:ckH h=0):xqB (xbg h++r)=h:=by
 rw[xqB,xbg,List.append_assoc,List.drop_left' (by rfl),xmf _ _ _ (xkk h hm hc),xsz h hc]
theorem xsQ (h:Hd) (r:List Int):(xbg h++r).getD 96 0=xhc h.cl:=by
 have hcl:(xhc h.cl) % 256=xhc h.cl:=by unfold xhc;cases h.cl <;> rfl
 simp only[xbg,xgZ,xiD,xgI,xd5,leH,List.cons_append,List.nil_append,List.getD_cons_succ,List.getD_cons_zero,hcl]
theorem xsM (h:Hd) (r:List Int) (hm:xeJ h) (hc:ckH h=0):xch (xbg h++r)=(h,0):=by
 have hl:=xd6 h hm hc
 have h7:(xbg h++r).take 7=mgH:=by simp only[xbg,xgZ,mgH,List.cons_append,List.take_succ_cons,List.take_zero]
 have h3:(xbg h++r).getD 7 0=3:=by simp only[xbg,xgZ,List.cons_append,List.getD_cons_succ,List.getD_cons_zero]
 have hcl:¬ 1<(xbg h++r).getD 96 0:=by rw[xsQ];unfold xhc;cases h.cl <;> simp
 unfold xch
 rw[if_neg (by rw[List.length_append];omega),if_neg (by rw[h7];exact fun f=>f rfl),if_neg (by rw[h3];exact fun f=>f rfl),if_neg hcl,xro h r hm hc,if_pos hc]
theorem xvV (l:List Int) (y:Hd) (h:xch l=(y,0)):127≤l.length∧l.take 7=mgH∧l.getD 7 0=3∧l.getD 96 0≤1∧y=xqB l∧ckH y=0:=by
 unfold xch at h
 split at h
 ·simp at h
 split at h
 ·simp at h
 split at h
 ·simp at h
 split at h
 ·simp at h
 split at h
 ·obtain⟨e,-⟩:=Prod.mk.injEq .. ▸ h
  subst e
  refine⟨by omega,?_,?_,by omega,rfl,by assumption⟩
  ·rename_i h1 _ _ _;exact Classical.not_not.1 h1
  ·rename_i h1 _ _;exact Classical.not_not.1 h1
 ·obtain⟨-,e⟩:=Prod.mk.injEq .. ▸ h
  contradiction
theorem xsN (xs:List Int) (h:xhI xiD xs) (hcl:xs.getD 11 0≤1):xgI (xeD xs)=xs:=by
 rcases xs with _|⟨x0,xs⟩
 ·exact h.elim
 obtain⟨h0,h⟩:=h
 rcases xs with _|⟨x1,xs⟩
 ·exact h.elim
 obtain⟨h1,h⟩:=h
 rcases xs with _|⟨x2,xs⟩
 ·exact h.elim
 obtain⟨h2,h⟩:=h
 rcases xs with _|⟨x3,xs⟩
 ·exact h.elim
 obtain⟨h3,h⟩:=h
 rcases xs with _|⟨x4,xs⟩
 ·exact h.elim
 obtain⟨h4,h⟩:=h
 rcases xs with _|⟨x5,xs⟩
 ·exact h.elim
 obtain⟨h5,h⟩:=h
 rcases xs with _|⟨x6,xs⟩
 ·exact h.elim
 obtain⟨h6,h⟩:=h
 rcases xs with _|⟨x7,xs⟩
 ·exact h.elim
 obtain⟨h7,h⟩:=h
 rcases xs with _|⟨x8,xs⟩
 ·exact h.elim
 obtain⟨h8,h⟩:=h
 rcases xs with _|⟨x9,xs⟩
 ·exact h.elim
 obtain⟨h9,h⟩:=h
 rcases xs with _|⟨x10,xs⟩
 ·exact h.elim
 obtain⟨h10,h⟩:=h
 rcases xs with _|⟨x11,xs⟩
 ·exact h.elim
 obtain⟨h11,h⟩:=h
 rcases xs with _|⟨x12,xs⟩
 ·exact h.elim
 obtain⟨h12,h⟩:=h
 rcases xs with _|⟨x13,xs⟩
 ·exact h.elim
 obtain⟨h13,h⟩:=h
 rcases xs with _|⟨x14,xs⟩
 ·exact h.elim
 obtain⟨h14,h⟩:=h
 rcases xs with _|⟨x15,xs⟩
 ·exact h.elim
 obtain⟨h15,h⟩:=h
 rcases xs with _|⟨x16,xs⟩
 ·exact h.elim
 obtain⟨h16,h⟩:=h
 rcases xs with _|⟨x17,xs⟩
 ·exact h.elim
 obtain⟨h17,h⟩:=h
 rcases xs with _|⟨x18,xs⟩
 ·exact h.elim
 obtain⟨h18,h⟩:=h
 rcases xs with _|⟨x19,xs⟩
 ·exact h.elim
 obtain⟨h19,h⟩:=h
 rcases xs with _|⟨x20,xs⟩
 ·exact h.elim
 obtain⟨h20,h⟩:=h
 rcases xs with _|⟨x21,xs⟩
 ·exact h.elim
 obtain⟨h21,h⟩:=h
 rcases xs with _|⟨x22,xs⟩
 ·exact h.elim
 obtain⟨h22,h⟩:=h
 rcases xs with _|⟨x23,xs⟩
 ·exact h.elim
 obtain⟨h23,h⟩:=h
 rcases xs with _|⟨y,xs⟩
 ·simp only[List.getD_cons_zero,List.getD_cons_succ] at hcl
  simp only[xnq,xjP,xhF] at h0 h1 h2 h3 h4 h5 h6 h7 h8 h9 h10 h11 h12 h13 h14 h15 h16 h17 h18 h19 h20 h21 h22 h23
  have e:xhc (x11 == 1)=x11:=by
   rcases(by omega:x11=0∨x11=1) with rfl|rfl <;> rfl
  simp only[xgI,xeD,List.getD_cons_zero,List.getD_cons_succ,e,xeo x17 h17.1 h17.2,xeo x18 h18.1 h18.2,xeo x19 h19.1 h19.2,xeo x20 h20.1 h20.2,xeo x22 h22.1 h22.2,xeo x23 h23.1 h23.2]
 ·exact h.elim
theorem xrY (xs:List Int) (h:xhI xiD xs):xeJ (xeD xs):=by
 rcases xs with _|⟨x0,xs⟩
 ·exact h.elim
 obtain⟨h0,h⟩:=h
 rcases xs with _|⟨x1,xs⟩
 ·exact h.elim
 obtain⟨h1,h⟩:=h
 rcases xs with _|⟨x2,xs⟩
 ·exact h.elim
 obtain⟨h2,h⟩:=h
 rcases xs with _|⟨x3,xs⟩
 ·exact h.elim
 obtain⟨h3,h⟩:=h
 rcases xs with _|⟨x4,xs⟩
 ·exact h.elim
 obtain⟨h4,h⟩:=h
 rcases xs with _|⟨x5,xs⟩
 ·exact h.elim
 obtain⟨h5,h⟩:=h
 rcases xs with _|⟨x6,xs⟩
 ·exact h.elim
 obtain⟨h6,h⟩:=h
 rcases xs with _|⟨x7,xs⟩
 ·exact h.elim
 obtain⟨h7,h⟩:=h
 rcases xs with _|⟨x8,xs⟩
 ·exact h.elim
 obtain⟨h8,h⟩:=h
 rcases xs with _|⟨x9,xs⟩
 ·exact h.elim
 obtain⟨h9,h⟩:=h
 rcases xs with _|⟨x10,xs⟩
 ·exact h.elim
 obtain⟨h10,h⟩:=h
 rcases xs with _|⟨x11,xs⟩
 ·exact h.elim
 obtain⟨h11,h⟩:=h
 rcases xs with _|⟨x12,xs⟩
 ·exact h.elim
 obtain⟨h12,h⟩:=h
 rcases xs with _|⟨x13,xs⟩
 ·exact h.elim
 obtain⟨h13,h⟩:=h
 rcases xs with _|⟨x14,xs⟩
 ·exact h.elim
 obtain⟨h14,h⟩:=h
 rcases xs with _|⟨x15,xs⟩
 ·exact h.elim
 obtain⟨h15,h⟩:=h
 rcases xs with _|⟨x16,xs⟩
 ·exact h.elim
 obtain⟨h16,h⟩:=h
 rcases xs with _|⟨x17,xs⟩
 ·exact h.elim
 obtain⟨h17,h⟩:=h
 rcases xs with _|⟨x18,xs⟩
 ·exact h.elim
 obtain⟨h18,h⟩:=h
 rcases xs with _|⟨x19,xs⟩
 ·exact h.elim
 obtain⟨h19,h⟩:=h
 rcases xs with _|⟨x20,xs⟩
 ·exact h.elim
 obtain⟨h20,h⟩:=h
 rcases xs with _|⟨x21,xs⟩
 ·exact h.elim
 obtain⟨h21,h⟩:=h
 rcases xs with _|⟨x22,xs⟩
 ·exact h.elim
 obtain⟨h22,h⟩:=h
 rcases xs with _|⟨x23,xs⟩
 ·exact h.elim
 obtain⟨h23,h⟩:=h
 simp only[xnq,xjP,xhF] at h0 h1 h2 h3 h4 h5 h6 h7 h8 h9 h10 h11 h12 h13 h14 h15 h16 h17 h18 h19 h20 h21 h22 h23
 simp only[xeJ,U64,U8,xeD,List.getD_cons_zero,List.getD_cons_succ]
 omega
theorem xni (l:List Int) (n:Nat):xf0 ((l.drop n).take 1)=l.getD n 0:=by
 induction n generalizing l with
 | zero =>
  cases l with
  | nil=>rfl
  | cons c l=>simp[xf0]
 | succ n ih =>
  cases l with
  | nil=>simp[xf0]
  | cons c l=>rw[List.drop_succ_cons,ih,List.getD_cons_succ]
theorem xrf (l:List Int):(xcI xiD (l.drop 8)).getD 11 0=l.getD 96 0:=by
 simp only[xiD,xcI,List.getD_cons_succ,List.getD_cons_zero,List.drop_drop,xni]
theorem xwk (l:List Int) (h:l.take 7=mgH) (h3:l.getD 7 0=3):l.take 8=xgZ:=by
 rcases l with _|⟨a0,l⟩
 ·simp[mgH] at h
 rcases l with _|⟨a1,l⟩
 ·simp[mgH] at h h3
 rcases l with _|⟨a2,l⟩
 ·simp[mgH] at h h3
 rcases l with _|⟨a3,l⟩
 ·simp[mgH] at h h3
 rcases l with _|⟨a4,l⟩
 ·simp[mgH] at h h3
 rcases l with _|⟨a5,l⟩
 ·simp[mgH] at h h3
 rcases l with _|⟨a6,l⟩
 ·simp[mgH] at h h3
 rcases l with _|⟨a7,l⟩
 ·simp[mgH] at h h3
 simp only[List.take_succ_cons,List.take_zero,mgH,List.cons.injEq,and_true] at h
 simp only[List.getD_cons_zero,List.getD_cons_succ] at h3
 obtain⟨rfl,rfl,rfl,rfl,rfl,rfl,rfl⟩:=h
 subst h3
 rfl
theorem xsl (l:List Int) (y:Hd) (hl:xkI l) (h:xch l=(y,0)):xeJ y∧ckH y=0∧xbg y=l.take 127:=by
 obtain⟨h1,h2,h3,h4,rfl,h6⟩:=xvV l y h
 have hd:xkI (l.drop 8):=fun c hc=>hl c (List.mem_of_mem_drop hc)
 have hs:xml xiD≤(l.drop 8).length:=by rw[List.length_drop,xd4];omega
 have hf:=xiv xiD _ hd hs
 have hc:(xcI xiD (l.drop 8)).getD 11 0≤1:=by rw[xrf];exact h4
 refine⟨xrY _ hf,h6,?_⟩
 rw[xbg,xqB,xsN _ hf hc,xle _ _ hd hs,xd4,← xwk l h2 h3,← List.take_add]
def xsS (h:Hd) (n:Int):Int :=
 if ckH h≠0 then ckH h else
 if h.rf<127 then 10 else
 if h.mf<h.rf+h.rl then 10 else
 if h.lf<h.mf+h.ml then 10 else
 if h.df<h.lf+h.ll then 10 else
 if n<h.df+h.dl then 8 else 0
open Go.RowKit
set_option maxRecDepth 20000
theorem xpz (b:Bool) (w:World):Calls Tryz.prog 223 #[.bool b] w fun e w'=>e=.returned (.int .u8 (xhc b))∧w=w':=by
 cases b
 ·go_enter Tryz.func223,Tryz.ntmps223
  go_wp2
  go_ret
  exact⟨rfl,rfl⟩
 ·go_enter Tryz.func223,Tryz.ntmps223
  go_wp2
  go_ret
  exact⟨rfl,rfl⟩
theorem xbS {a b:Bool} (h:a=b):Ending.returned (.bool a)=.returned (.bool b):=by rw[h]
theorem xeZ (f l:Int) (w:World) (hf:U64 f) (hl:U64 l):Calls Tryz.prog 247 #[.agg #[.int .u64 f,.int .u64 l]] w fun e w'=>e=.returned (.bool (xfS f l))∧Below w.heap.size w w':=by
 unfold U64 at hf hl
 by_cases h:f≤1099511627776
 ·have hd:decide (f≤1099511627776)=true:=by simpa using h
  have hw:IntKind.u64.wrap (1099511627776 - f)=1099511627776 - f:=by rw[wrap_u64];omega
  have he:Hid (decide (l≤1099511627776 - f)=xfS f l):=by
   apply lH
   unfold xfS
   rw[hd,Bool.true_and,Bool.eq_iff_iff,Bool.and_eq_true,decide_eq_true_eq,decide_eq_true_eq,decide_eq_true_eq]
   omega
  clear h hf hl
  go_enter Tryz.func247,Tryz.ntmps247
  go_wp2
  go_ret
  exact⟨xbS he.out,(Below.refl _ _).alloc (Nat.le_refl _) _⟩
 ·have hd:decide (f≤1099511627776)=false:=by simpa using h
  have he:Hid (false=xfS f l):=by
   apply lH
   unfold xfS
   rw[hd,Bool.false_and]
  clear h hf hl
  go_enter Tryz.func247,Tryz.ntmps247
  go_wp2
  go_ret
  exact⟨xbS he.out,(Below.refl _ _).alloc (Nat.le_refl _) _⟩
theorem xoh (x:Int) (w:World):Calls Tryz.prog 377 #[.int .i64 x] w fun e w'=>e=.returned (.bool false)∧w=w':=by
 have h:(x != x)=false:=by simp
 go_enter Tryz.func377,Tryz.ntmps377
 go_wp2
 go_ret
 exact⟨rfl,rfl⟩
theorem xq4 (x y:Int) (w:World):Calls Tryz.prog 360 #[.int .i64 x,.int .i64 y] w fun e w'=>e=.returned (.bool (decide (x<y)))∧w=w':=by
 go_enter Tryz.func360,Tryz.ntmps360
 go_wp2_with (go_at_call 377;refine(xoh _ _).mono ?_;rintro e w' ⟨rfl,rfl⟩)
 go_ret
 exact⟨rfl,rfl⟩
theorem xrO (x y:Int) (w:World):Calls Tryz.prog 360 #[.int .i64 x,.int .i64 y] w fun e w'=>e=.returned (.bool (decide (x<y)))∧w'=w:=(xq4 x y w).mono fun _ _ ⟨h,g⟩=>⟨h,g.symm⟩
def xdh (k:IntKind) (w:World) (v:Value) (l:List Int):Prop :=
 ∃ b cap,v=.slice (some ⟨b,0,none⟩) l.length cap∧l.length≤cap∧cap≤maxLen∧b<w.heap.size∧∀ i,i<l.length→w.cell? ⟨b,i,none⟩=some (.int k (l.getD i 0))
theorem xdh.below {k:IntKind} {w w':World} {v:Value} {l:List Int} (h:xdh k w v l) (hb:Below w.heap.size w w'):xdh k w' v l:=by
 obtain⟨b,cap,h1,h2,h3,h4,h5⟩:=h
 exact⟨b,cap,h1,h2,h3,Nat.lt_of_lt_of_le h4 hb.size,fun i hi=>(hb.cell (p:=⟨b,i,none⟩) h4).trans (h5 i hi)⟩
def xpK (l:List Int):Prop:=∀ i,i+1<l.length→l.getD i 0≤l.getD (i+1) 0
theorem xdu {B:Nat} {w w':World} (h:Below B w w') (n:Nat):Below B w (w'.drewN n):=h.trans ⟨rfl,rfl,rfl,Nat.le_refl _,fun _ _=>rfl⟩
theorem xls (v:Value) (l:List Int) (w:World) (hv:xdh .i64 w v l):Calls Tryz.prog 327 #[v] w fun e w'=>∃ b,e=.returned (.bool b)∧(b=true↔xpK l)∧Below w.heap.size w w':=by
 obtain⟨b,cap,rfl,hc1,hc2,hb,hcell⟩:=hv
 have HC:=lH hcell;clear hcell
 have hml:l.length≤9223372036854775807:=by unfold maxLen at hc2;omega
 have hw:IntKind.i64.wrap ((l.length:Int) - 1)=(l.length:Int) - 1:=by rw[IntKind.wrap_i64] <;> omega
 go_enter Tryz.func327,Tryz.ntmps327
 go_wp2_with fail
 go_loopw [3] (fun i wr=>∃ k:Nat,k≤l.length∧i=.int .i64 ((k:Int) - 1)∧(∀ j,k≤j+1→j+1<l.length→l.getD j 0≤l.getD (j+1) 0)∧Below w.heap.size w wr) (fun i _=>(intOf i+1).toNat)
 case atStart=>exact⟨l.length,Nat.le_refl _,rfl,fun j h1 h2=>by omega,Below.refl _ _⟩
 case round =>
  obtain⟨k,hk,rfl,hr,hbw⟩:=hrel
  have HR:=lH hr;clear hr
  by_cases h2:2≤k
  ·obtain⟨j,rfl⟩:∃ j,k=j+2:=⟨k - 2,by omega⟩
   have e1:((j+2:Nat):Int) - 1=((j+1:Nat):Int):=by omega
   rw[e1]
   clear e1
   have c1:=(hbw.cell (p:=⟨b,j+1,none⟩) hb).trans (HC.out (j+1) (by omega))
   have c0:=(hbw.cell (p:=⟨b,j,none⟩) hb).trans (HC.out j (by omega))
   obtain⟨y,hy⟩:∃ y,l.getD (j+1) 0=y:=⟨_,rfl⟩
   obtain⟨x,hx⟩:∃ x,l.getD j 0=x:=⟨_,rfl⟩
   rw[hy] at c1
   rw[hx] at c0
   have HX:=lH hx
   have HY:=lH hy
   clear hx hy
   obtain⟨i,hi⟩:∃ i,j+1=i:=⟨_,rfl⟩
   rw[hi] at c1 ⊢
   have hgt:decide (0<(i:Int))=true:=by simp;omega
   have hsub:(i:Int) - 1=(j:Int):=by omega
   have hwj:IntKind.i64.wrap (j:Int)=(j:Int):=by rw[IntKind.wrap_i64] <;> omega
   have hi1:i<l.length:=by omega
   have HI:=lH hi;clear hi
   have hj1:j<l.length:=by omega
   by_cases hlt:y<x
   ·have hd:decide (y<x)=true:=by simpa using hlt
    have HB:=lH hbw;clear hbw
    go_wp2_with fail
    go_quiet (first|(go_at_call 360;(with_reducible refine Calls.quiet_of_same (xrO _ _ _)))|fail)
    go_wp2_with fail
    go_ret
    refine⟨false,rfl,⟨fun h=>(by cases h),fun h=>?_⟩,xdu HB.out nq⟩
    have hle:=h j (by rw[HI.out];exact hi1)
    rw[HX.out,HY.out] at hle
    omega
   ·have hd:decide (y<x)=false:=by simpa using hlt
    go_wp2_with fail
    go_quiet (first|(go_at_call 360;(with_reducible refine Calls.quiet_of_same (xrO _ _ _)))|fail)
    go_wp2_with fail
    go_roundw
    case rel =>
     refine⟨i,by omega,by congr 1;omega,fun m h1 h3=>?_,xdu hbw nq⟩
     rcases Nat.lt_or_ge m i with h4|h4
     ·obtain rfl:m=j:=by have:=HI.out;omega
      rw[HX.out,HY.out]
      exact hlt
     ·exact HR.out m (by have:=HI.out;omega) h3
    case measure=>simp[intOf];omega
  ·go_wp2_with fail
   go_ret
   exact⟨true,rfl,⟨fun _ m hm=>HR.out m (by omega) hm,fun _=>rfl⟩,hbw⟩
theorem xhR (v:Value) (l:List Int) (w:World) (hv:xdh .i64 w v l):Calls Tryz.prog 298 #[v] w fun e w'=>∃ b,e=.returned (.bool b)∧(b=true↔xpK l)∧Below w.heap.size w w':=by
 have HV:=lH hv;clear hv
 go_enter Tryz.func298,Tryz.ntmps298
 go_wp2_with fail
 refine(xls v l w HV.out).mono ?_
 rintro e w1 ⟨b,rfl,hb,hbw⟩
 go_wp2_with fail
 go_ret
 exact⟨b,rfl,hb,hbw⟩
theorem xaU (k:IntKind) (w:World) (l:List Int) (T:TypeId) (n:Nat) (f:Nat × Nat) (hn:n=w.heap.size) (h:l.length≤maxLen):xdh k (w.alloc (.cells (l.map (Value.int k)).toArray T f)) (.slice (some ⟨n,0,none⟩) l.length l.length) l:=by
 subst hn
 refine⟨_,_,rfl,Nat.le_refl _,h,by rw[World.size_alloc];omega,fun i hi=>?_⟩
 rw[World.cell?_alloc_mark]
 simp[hi]
set_option maxRecDepth 20000 in
theorem xh2 (h:Hd) (w:World):Calls Tryz.prog 169 #[.agg #[.int .u64 h.rf,.int .u64 h.rl,.int .u64 h.mf,.int .u64 h.ml,.int .u64 h.lf,.int .u64 h.ll,.int .u64 h.df,.int .u64 h.dl,.int .u64 h.ad,.int .u64 h.en,.int .u64 h.co,.bool h.cl,.int .u8 h.inn,.int .u8 h.out,.int .u8 h.knd,.int .i64 h.z0,.int .i64 h.z1,.int .i64 h.lo0,.int .i64 h.la0,.int .i64 h.lo1,.int .i64 h.la1,.int .i64 h.zm,.int .i64 h.lon,.int .i64 h.lat]] w fun e w'=>e=.returned (.agg #[.int .u64 h.rf,.int .u64 h.rl,.int .u64 h.mf,.int .u64 h.ml,.int .u64 h.lf,.int .u64 h.ll,.int .u64 h.df,.int .u64 h.dl])∧Below w.heap.size w w':=by
 go_enter Tryz.func169,Tryz.ntmps169
 go_wp2_with fail
 refine bodyPost_ret (v:=.agg #[.int .u64 h.rf,.int .u64 h.rl,.int .u64 h.mf,.int .u64 h.ml,.int .u64 h.lf,.int .u64 h.ll,.int .u64 h.df,.int .u64 h.dl]) (by simp[results,Tryz.results169,go_sem]) rfl ⟨rfl,by go_grown⟩
theorem xwC (a b c:Int):xpK [a,b,c]↔a≤b∧b≤c:=by
 constructor
 ·intro h
  exact⟨h 0 (by simp),h 1 (by simp)⟩
 ·rintro⟨h0,h1⟩ i hi
  simp only[List.length_cons,List.length_nil] at hi
  rcases(by omega:i=0∨i=1) with rfl|rfl
  ·exact h0
  ·exact h1
theorem xwi (a b c d:Int):xpK [a,b,c,d]↔a≤b∧b≤c∧c≤d:=by
 constructor
 ·intro h
  exact⟨h 0 (by simp),h 1 (by simp),h 2 (by simp)⟩
 ·rintro⟨h0,h1,h2⟩ i hi
  simp only[List.length_cons,List.length_nil] at hi
  rcases(by omega:i=0∨i=1∨i=2) with rfl|rfl|rfl
  ·exact h0
  ·exact h1
  ·exact h2
theorem xmL (a b c d:Int) (w:World) (n:Nat) (hn:n=w.heap.size):Calls Tryz.prog 298 #[.slice (some ⟨n,0,none⟩) 4 4] (w.alloc (.cells #[.int .i64 a,.int .i64 b,.int .i64 c,.int .i64 d] 3)) fun e w'=>e=.returned (.bool (decide (a≤b) && (decide (b≤c) && decide (c≤d))))∧Below w.heap.size w w':=by
 refine(xhR _ [a,b,c,d] _ (xaU .i64 w [a,b,c,d] 3 n (0,0) hn (by simp[maxLen]))).mono ?_
 rintro e w' ⟨r,rfl,hr,hb⟩
 refine⟨?_,((Below.refl _ _).alloc (Nat.le_refl _) _).trans (hb.mono (by rw[World.size_alloc];omega))⟩
 congr 2
 rw[xwi] at hr
 rw[Bool.eq_iff_iff,hr]
 simp
theorem xnV (a b c:Int) (w:World) (n:Nat) (hn:n=w.heap.size):Calls Tryz.prog 298 #[.slice (some ⟨n,0,none⟩) 3 3] (w.alloc (.cells #[.int .i64 a,.int .i64 b,.int .i64 c] 3)) fun e w'=>e=.returned (.bool (decide (a≤b) && decide (b≤c)))∧Below w.heap.size w w':=by
 refine(xhR _ [a,b,c] _ (xaU .i64 w [a,b,c] 3 n (0,0) hn (by simp[maxLen]))).mono ?_
 rintro e w' ⟨r,rfl,hr,hb⟩
 refine⟨?_,((Below.refl _ _).alloc (Nat.le_refl _) _).trans (hb.mono (by rw[World.size_alloc];omega))⟩
 congr 2
 rw[xwC] at hr
 rw[Bool.eq_iff_iff,hr]
 simp
set_option maxRecDepth 20000 in
theorem xjx (h:Hd) (w:World):Calls Tryz.prog 248 #[.agg #[.int .u64 h.rf,.int .u64 h.rl,.int .u64 h.mf,.int .u64 h.ml,.int .u64 h.lf,.int .u64 h.ll,.int .u64 h.df,.int .u64 h.dl,.int .u64 h.ad,.int .u64 h.en,.int .u64 h.co,.bool h.cl,.int .u8 h.inn,.int .u8 h.out,.int .u8 h.knd,.int .i64 h.z0,.int .i64 h.z1,.int .i64 h.lo0,.int .i64 h.la0,.int .i64 h.lo1,.int .i64 h.la1,.int .i64 h.zm,.int .i64 h.lon,.int .i64 h.lat]] w fun e w'=>e=.returned (.bool (xcx h))∧Below w.heap.size w w':=by
 obtain⟨b1,hb1⟩:∃ b,(decide (0≤h.z0) && (decide (h.z0≤h.z1) && decide (h.z1≤26)))=b:=⟨_,rfl⟩
 obtain⟨b2,hb2⟩:∃ b,(decide (0≤h.zm) && decide (h.zm≤26))=b:=⟨_,rfl⟩
 have he:Hid ((b1 && b2)=xcx h):=by
  apply lH
  unfold xcx
  rw[← hb1,← hb2]
  simp only[Bool.and_assoc]
 have R4:∀ W n,n=W.heap.size→Calls Tryz.prog 298 #[.slice (some ⟨n,0,none⟩) 4 4] (W.alloc (.cells #[.int .i64 0,.int .i64 h.z0,.int .i64 h.z1,.int .i64 26] 3)) fun e w'=>e=.returned (.bool b1)∧Below W.heap.size W w':=fun W n hn=>hb1 ▸ xmL 0 h.z0 h.z1 26 W n hn
 have R3:∀ W n,n=W.heap.size→Calls Tryz.prog 298 #[.slice (some ⟨n,0,none⟩) 3 3] (W.alloc (.cells #[.int .i64 0,.int .i64 h.zm,.int .i64 26] 3)) fun e w'=>e=.returned (.bool b2)∧Below W.heap.size W w':=fun W n hn=>hb2 ▸ xnV 0 h.zm 26 W n hn
 have H4:=lH R4
 have H3:=lH R3
 clear R4 R3 hb1 hb2
 cases b1
 ·go_enter Tryz.func248,Tryz.ntmps248
  go_wp2_with fail
  refine(H4.out _ _ (by simp)).mono ?_
  rintro e w1 ⟨rfl,hb⟩
  have hbw:Below w.heap.size w w1:=Below.trans (by go_grown) (hb.mono (by rw[World.size_alloc];omega))
  clear hb
  go_wp2_with fail
  go_ret
  exact⟨xbS he.out,hbw⟩
 ·go_enter Tryz.func248,Tryz.ntmps248
  go_wp2_with fail
  refine(H4.out _ _ (by simp)).mono ?_
  rintro e w1 ⟨rfl,hb⟩
  have hbw:Below w.heap.size w w1:=Below.trans (by go_grown) (hb.mono (by rw[World.size_alloc];omega))
  have c1:w1.cell? ⟨w.heap.size,21,none⟩=some (.int .i64 h.zm):=(hb.cell (p:=⟨w.heap.size,21,none⟩) (by simp)).trans (by simp[go_sem])
  clear hb
  go_wp2_with fail
  refine(H3.out _ _ (by simp)).mono ?_
  rintro e w2 ⟨rfl,hb⟩
  have hbw2:Below w.heap.size w w2:=hbw.trans (hb.mono hbw.size)
  clear hb hbw
  go_wp2_with fail
  go_ret
  exact⟨xbS he.out,hbw2⟩
set_option maxRecDepth 20000 in
theorem xjA (h:Hd) (w:World):Calls Tryz.prog 249 #[.agg #[.int .u64 h.rf,.int .u64 h.rl,.int .u64 h.mf,.int .u64 h.ml,.int .u64 h.lf,.int .u64 h.ll,.int .u64 h.df,.int .u64 h.dl,.int .u64 h.ad,.int .u64 h.en,.int .u64 h.co,.bool h.cl,.int .u8 h.inn,.int .u8 h.out,.int .u8 h.knd,.int .i64 h.z0,.int .i64 h.z1,.int .i64 h.lo0,.int .i64 h.la0,.int .i64 h.lo1,.int .i64 h.la1,.int .i64 h.zm,.int .i64 h.lon,.int .i64 h.lat]] w fun e w'=>e=.returned (.bool (xmk h))∧Below w.heap.size w w':=by
 obtain⟨b0,hb0⟩:∃ b,(decide (-1800000000≤h.lo0) && (decide (h.lo0≤h.lo1) && decide (h.lo1≤1800000000)))=b:=⟨_,rfl⟩
 obtain⟨b1,hb1⟩:∃ b,(decide (-900000000≤h.la0) && (decide (h.la0≤h.la1) && decide (h.la1≤900000000)))=b:=⟨_,rfl⟩
 obtain⟨b2,hb2⟩:∃ b,(decide (-1800000000≤h.lon) && decide (h.lon≤1800000000))=b:=⟨_,rfl⟩
 obtain⟨b3,hb3⟩:∃ b,(decide (-900000000≤h.lat) && decide (h.lat≤900000000))=b:=⟨_,rfl⟩
 have he:Hid ((b0 && (b1 && (b2 && b3)))=xmk h):=by
  apply lH
  unfold xmk
  rw[← hb0,← hb1,← hb2,← hb3]
  simp only[Bool.and_assoc]
 have R0:∀ W n,n=W.heap.size→Calls Tryz.prog 298 #[.slice (some ⟨n,0,none⟩) 4 4] (W.alloc (.cells #[.int .i64 (-1800000000),.int .i64 h.lo0,.int .i64 h.lo1,.int .i64 1800000000] 3)) fun e w'=>e=.returned (.bool b0)∧Below W.heap.size W w':=fun W n hn=>hb0 ▸ xmL (-1800000000) h.lo0 h.lo1 1800000000 W n hn
 have H0:=lH R0;clear R0 hb0
 have R1:∀ W n,n=W.heap.size→Calls Tryz.prog 298 #[.slice (some ⟨n,0,none⟩) 4 4] (W.alloc (.cells #[.int .i64 (-900000000),.int .i64 h.la0,.int .i64 h.la1,.int .i64 900000000] 3)) fun e w'=>e=.returned (.bool b1)∧Below W.heap.size W w':=fun W n hn=>hb1 ▸ xmL (-900000000) h.la0 h.la1 900000000 W n hn
 have H1:=lH R1;clear R1 hb1
 have R2:∀ W n,n=W.heap.size→Calls Tryz.prog 298 #[.slice (some ⟨n,0,none⟩) 3 3] (W.alloc (.cells #[.int .i64 (-1800000000),.int .i64 h.lon,.int .i64 1800000000] 3)) fun e w'=>e=.returned (.bool b2)∧Below W.heap.size W w':=fun W n hn=>hb2 ▸ xnV (-1800000000) h.lon 1800000000 W n hn
 have H2:=lH R2;clear R2 hb2
 have R3:∀ W n,n=W.heap.size→Calls Tryz.prog 298 #[.slice (some ⟨n,0,none⟩) 3 3] (W.alloc (.cells #[.int .i64 (-900000000),.int .i64 h.lat,.int .i64 900000000] 3)) fun e w'=>e=.returned (.bool b3)∧Below W.heap.size W w':=fun W n hn=>hb3 ▸ xnV (-900000000) h.lat 900000000 W n hn
 have H3:=lH R3;clear R3 hb3
 cases b0
 ·go_enter Tryz.func249,Tryz.ntmps249
  go_wp2_with fail
  refine(H0.out _ _ (by simp)).mono ?_
  rintro e w1 ⟨rfl,hb⟩
  have u1:Below w.heap.size w w1:=Below.trans (by go_grown) (hb.mono (by rw[World.size_alloc];omega))
  have c18:w1.cell? ⟨w.heap.size,18,none⟩=some (.int .i64 h.la0):=(hb.cell (p:=⟨w.heap.size,18,none⟩) (by simp)).trans (by simp[go_sem])
  have c20:w1.cell? ⟨w.heap.size,20,none⟩=some (.int .i64 h.la1):=(hb.cell (p:=⟨w.heap.size,20,none⟩) (by simp)).trans (by simp[go_sem])
  have c22:w1.cell? ⟨w.heap.size,22,none⟩=some (.int .i64 h.lon):=(hb.cell (p:=⟨w.heap.size,22,none⟩) (by simp)).trans (by simp[go_sem])
  have c23:w1.cell? ⟨w.heap.size,23,none⟩=some (.int .i64 h.lat):=(hb.cell (p:=⟨w.heap.size,23,none⟩) (by simp)).trans (by simp[go_sem])
  clear hb
  go_wp2_with fail
  go_ret
  exact⟨xbS he.out,u1⟩
 ·cases b1
  ·go_enter Tryz.func249,Tryz.ntmps249
   go_wp2_with fail
   refine(H0.out _ _ (by simp)).mono ?_
   rintro e w1 ⟨rfl,hb⟩
   have u1:Below w.heap.size w w1:=Below.trans (by go_grown) (hb.mono (by rw[World.size_alloc];omega))
   have c18:w1.cell? ⟨w.heap.size,18,none⟩=some (.int .i64 h.la0):=(hb.cell (p:=⟨w.heap.size,18,none⟩) (by simp)).trans (by simp[go_sem])
   have c20:w1.cell? ⟨w.heap.size,20,none⟩=some (.int .i64 h.la1):=(hb.cell (p:=⟨w.heap.size,20,none⟩) (by simp)).trans (by simp[go_sem])
   have c22:w1.cell? ⟨w.heap.size,22,none⟩=some (.int .i64 h.lon):=(hb.cell (p:=⟨w.heap.size,22,none⟩) (by simp)).trans (by simp[go_sem])
   have c23:w1.cell? ⟨w.heap.size,23,none⟩=some (.int .i64 h.lat):=(hb.cell (p:=⟨w.heap.size,23,none⟩) (by simp)).trans (by simp[go_sem])
   clear hb
   go_wp2_with fail
   refine(H1.out _ _ (by simp)).mono ?_
   rintro e w2 ⟨rfl,hb⟩
   have u2:=u1.trans (hb.mono u1.size)
   replace c18:=xah hb c18
   replace c20:=xah hb c20
   replace c22:=xah hb c22
   replace c23:=xah hb c23
   clear u1
   clear hb
   go_wp2_with fail
   go_ret
   exact⟨xbS he.out,u2⟩
  ·cases b2
   ·go_enter Tryz.func249,Tryz.ntmps249
    go_wp2_with fail
    refine(H0.out _ _ (by simp)).mono ?_
    rintro e w1 ⟨rfl,hb⟩
    have u1:Below w.heap.size w w1:=Below.trans (by go_grown) (hb.mono (by rw[World.size_alloc];omega))
    have c18:w1.cell? ⟨w.heap.size,18,none⟩=some (.int .i64 h.la0):=(hb.cell (p:=⟨w.heap.size,18,none⟩) (by simp)).trans (by simp[go_sem])
    have c20:w1.cell? ⟨w.heap.size,20,none⟩=some (.int .i64 h.la1):=(hb.cell (p:=⟨w.heap.size,20,none⟩) (by simp)).trans (by simp[go_sem])
    have c22:w1.cell? ⟨w.heap.size,22,none⟩=some (.int .i64 h.lon):=(hb.cell (p:=⟨w.heap.size,22,none⟩) (by simp)).trans (by simp[go_sem])
    have c23:w1.cell? ⟨w.heap.size,23,none⟩=some (.int .i64 h.lat):=(hb.cell (p:=⟨w.heap.size,23,none⟩) (by simp)).trans (by simp[go_sem])
    clear hb
    go_wp2_with fail
    refine(H1.out _ _ (by simp)).mono ?_
    rintro e w2 ⟨rfl,hb⟩
    have u2:=u1.trans (hb.mono u1.size)
    replace c18:=xah hb c18
    replace c20:=xah hb c20
    replace c22:=xah hb c22
    replace c23:=xah hb c23
    clear u1
    clear hb
    go_wp2_with fail
    refine(H2.out _ _ (by simp)).mono ?_
    rintro e w3 ⟨rfl,hb⟩
    have u3:=u2.trans (hb.mono u2.size)
    replace c18:=xah hb c18
    replace c20:=xah hb c20
    replace c22:=xah hb c22
    replace c23:=xah hb c23
    clear u2
    clear hb
    go_wp2_with fail
    go_ret
    exact⟨xbS he.out,u3⟩
   ·go_enter Tryz.func249,Tryz.ntmps249
    go_wp2_with fail
    refine(H0.out _ _ (by simp)).mono ?_
    rintro e w1 ⟨rfl,hb⟩
    have u1:Below w.heap.size w w1:=Below.trans (by go_grown) (hb.mono (by rw[World.size_alloc];omega))
    have c18:w1.cell? ⟨w.heap.size,18,none⟩=some (.int .i64 h.la0):=(hb.cell (p:=⟨w.heap.size,18,none⟩) (by simp)).trans (by simp[go_sem])
    have c20:w1.cell? ⟨w.heap.size,20,none⟩=some (.int .i64 h.la1):=(hb.cell (p:=⟨w.heap.size,20,none⟩) (by simp)).trans (by simp[go_sem])
    have c22:w1.cell? ⟨w.heap.size,22,none⟩=some (.int .i64 h.lon):=(hb.cell (p:=⟨w.heap.size,22,none⟩) (by simp)).trans (by simp[go_sem])
    have c23:w1.cell? ⟨w.heap.size,23,none⟩=some (.int .i64 h.lat):=(hb.cell (p:=⟨w.heap.size,23,none⟩) (by simp)).trans (by simp[go_sem])
    clear hb
    go_wp2_with fail
    refine(H1.out _ _ (by simp)).mono ?_
    rintro e w2 ⟨rfl,hb⟩
    have u2:=u1.trans (hb.mono u1.size)
    replace c18:=xah hb c18
    replace c20:=xah hb c20
    replace c22:=xah hb c22
    replace c23:=xah hb c23
    clear u1
    clear hb
    go_wp2_with fail
    refine(H2.out _ _ (by simp)).mono ?_
    rintro e w3 ⟨rfl,hb⟩
    have u3:=u2.trans (hb.mono u2.size)
    replace c18:=xah hb c18
    replace c20:=xah hb c20
    replace c22:=xah hb c22
    replace c23:=xah hb c23
    clear u2
    clear hb
    go_wp2_with fail
    refine(H3.out _ _ (by simp)).mono ?_
    rintro e w4 ⟨rfl,hb⟩
    have u4:=u3.trans (hb.mono u3.size)
    replace c18:=xah hb c18
    replace c20:=xah hb c20
    replace c22:=xah hb c22
    replace c23:=xah hb c23
    clear u3
    clear hb
    go_wp2_with fail
    go_ret
    exact⟨xbS he.out,u4⟩
theorem xai {w:World} {g:Nat} {cs:Array Value} {t:TypeId} {fr:Nat × Nat} (h:w.heap[g]?=some (.cells cs t fr)) (i:Nat):w.cell? ⟨g,i,none⟩=cs[i]?:=by simp[World.cell?,h]
theorem xkb {w:World} {a:Addr} {v:Value} (h:w.cell? a=some v):a.block<w.heap.size:=by
 rcases Nat.lt_or_ge a.block w.heap.size with h'|h'
 ·exact h'
 ·simp[World.cell?,Array.getElem?_eq_none h'] at h
theorem xaY {w w':World} {a:Addr} {v:Value} (hb:Below w.heap.size w w') (h:w.cell? a=some v):w'.cell? a=some v:=(hb.cell (p:=a) (xkb h)).trans h
def cH (h:Hd):Array Value:=#[.int .u64 h.rf,.int .u64 h.rl,.int .u64 h.mf,.int .u64 h.ml,.int .u64 h.lf,.int .u64 h.ll,.int .u64 h.df,.int .u64 h.dl,.int .u64 h.ad,.int .u64 h.en,.int .u64 h.co,.bool h.cl,.int .u8 h.inn,.int .u8 h.out,.int .u8 h.knd,.int .i64 h.z0,.int .i64 h.z1,.int .i64 h.lo0,.int .i64 h.la0,.int .i64 h.lo1,.int .i64 h.la1,.int .i64 h.zm,.int .i64 h.lon,.int .i64 h.lat]
def HAt (w:World) (b:Nat) (T:TypeId) (h:Hd):Prop:=w.heap[b]?=some (.cells (cH h) T (0,0))
theorem HAt.lt {w:World} {b:Nat} {T:TypeId} {h:Hd} (H:HAt w b T h):b<w.heap.size:=by
 rcases Nat.lt_or_ge b w.heap.size with h'|h'
 ·exact h'
 ·unfold HAt at H;rw[Array.getElem?_eq_none h'] at H;cases H
theorem HAt.below {w w':World} {B b:Nat} {T:TypeId} {h:Hd} (H:HAt w b T h) (hb:Below B w w') (hB:b<B):HAt w' b T h:=(hb.block b hB).trans H
theorem HAt.later {w w':World} {b:Nat} {T:TypeId} {h:Hd} (H:HAt w b T h) (hb:Below w.heap.size w w'):HAt w' b T h:=H.below hb H.lt
theorem HAt.made (w:World) (h:Hd) (T:TypeId):HAt (w.alloc (.cells (cH h) T)) w.heap.size T h:=heap_alloc_new w _
theorem at8 {w:World} {b:Nat} {T:TypeId} {h:Hd} (H:HAt w b T h):w.cell? ⟨b,8,none⟩=some (.int .u64 h.ad):=xai H 8
theorem at9 {w:World} {b:Nat} {T:TypeId} {h:Hd} (H:HAt w b T h):w.cell? ⟨b,9,none⟩=some (.int .u64 h.en):=xai H 9
theorem xxd {w:World} {b:Nat} {T:TypeId} {h:Hd} (H:HAt w b T h):w.cell? ⟨b,10,none⟩=some (.int .u64 h.co):=xai H 10
theorem xwT {w:World} {b:Nat} {T:TypeId} {h:Hd} (H:HAt w b T h):w.cell? ⟨b,11,none⟩=some (.bool h.cl):=xai H 11
theorem xwJ {w:World} {b:Nat} {T:TypeId} {h:Hd} (H:HAt w b T h):w.cell? ⟨b,12,none⟩=some (.int .u8 h.inn):=xai H 12
theorem xwN {w:World} {b:Nat} {T:TypeId} {h:Hd} (H:HAt w b T h):w.cell? ⟨b,13,none⟩=some (.int .u8 h.out):=xai H 13
theorem xwV {w:World} {b:Nat} {T:TypeId} {h:Hd} (H:HAt w b T h):w.cell? ⟨b,14,none⟩=some (.int .u8 h.knd):=xai H 14
theorem xxc {w:World} {b:Nat} {T:TypeId} {h:Hd} (H:HAt w b T h):w.cell? ⟨b,15,none⟩=some (.int .i64 h.z0):=xai H 15
theorem xw3 {w:World} {b:Nat} {T:TypeId} {h:Hd} (H:HAt w b T h):w.cell? ⟨b,16,none⟩=some (.int .i64 h.z1):=xai H 16
theorem xxn {w:World} {b:Nat} {T:TypeId} {h:Hd} (H:HAt w b T h):w.cell? ⟨b,17,none⟩=some (.int .i64 h.lo0):=xai H 17
theorem xw4 {w:World} {b:Nat} {T:TypeId} {h:Hd} (H:HAt w b T h):w.cell? ⟨b,18,none⟩=some (.int .i64 h.la0):=xai H 18
theorem xw9 {w:World} {b:Nat} {T:TypeId} {h:Hd} (H:HAt w b T h):w.cell? ⟨b,19,none⟩=some (.int .i64 h.lo1):=xai H 19
theorem xxm {w:World} {b:Nat} {T:TypeId} {h:Hd} (H:HAt w b T h):w.cell? ⟨b,20,none⟩=some (.int .i64 h.la1):=xai H 20
theorem xw8 {w:World} {b:Nat} {T:TypeId} {h:Hd} (H:HAt w b T h):w.cell? ⟨b,21,none⟩=some (.int .i64 h.zm):=xai H 21
theorem xxj {w:World} {b:Nat} {T:TypeId} {h:Hd} (H:HAt w b T h):w.cell? ⟨b,22,none⟩=some (.int .i64 h.lon):=xai H 22
theorem xxk {w:World} {b:Nat} {T:TypeId} {h:Hd} (H:HAt w b T h):w.cell? ⟨b,23,none⟩=some (.int .i64 h.lat):=xai H 23
theorem xgK (h:Hd) (e:xcJ h=false):ckH h=8:=by unfold ckH;rw[if_neg (by simp[e])]
theorem xi3 (h:Hd) (e:xcJ h=true) (k:xd9 h=false):ckH h=14:=by unfold ckH;rw[if_pos e,if_neg (by simp[k])]
theorem xp9 (h:Hd) (e:xcJ h=true) (k:xd9 h=true) (z:xcx h=false):ckH h=8:=by unfold ckH;rw[if_pos e,if_pos k,if_neg (by simp[z])]
theorem xvj (h:Hd) (e:xcJ h=true) (k:xd9 h=true) (z:xcx h=true) (d:xmk h=false):ckH h=8:=by unfold ckH;rw[if_pos e,if_pos k,if_pos z,if_neg (by simp[d])]
theorem xuD (h:Hd) (e:xcJ h=true) (k:xd9 h=true) (z:xcx h=true) (d:xmk h=true):ckH h=0:=by unfold ckH;rw[if_pos e,if_pos k,if_pos z,if_pos d]
def xge (h:Hd) (k:Nat):Prop:=(0<k→xfS h.rf h.rl=true)∧(1<k→xfS h.mf h.ml=true)∧(2<k→xfS h.lf h.ll=true)∧(3<k→xfS h.df h.dl=true)
theorem xph (h:Hd) (s:xge h 4):xcJ h=true:=by
 unfold xcJ
 rw[s.1 (by omega),s.2.1 (by omega),s.2.2.1 (by omega),s.2.2.2 (by omega)]
 rfl
theorem xq7:Tryz.t122.size=2:=by kernel_rfl
theorem xjv (c0 c1 c2 c3 c4 c5 c6 c7:Value) (W:World) :
  Sem.run Tryz.prog (Instr.index 199 (.agg #[c0,c1,c2,c3,c4,c5,c6,c7]) (.int .i64 0)) W=.ok (.agg #[c0,c1]) W ∧
  Sem.run Tryz.prog (Instr.index 199 (.agg #[c0,c1,c2,c3,c4,c5,c6,c7]) (.int .i64 1)) W=.ok (.agg #[c2,c3]) W ∧
  Sem.run Tryz.prog (Instr.index 199 (.agg #[c0,c1,c2,c3,c4,c5,c6,c7]) (.int .i64 2)) W=.ok (.agg #[c4,c5]) W ∧
  Sem.run Tryz.prog (Instr.index 199 (.agg #[c0,c1,c2,c3,c4,c5,c6,c7]) (.int .i64 3)) W=.ok (.agg #[c6,c7]) W:=by
 refine⟨?_,?_,?_,?_⟩ <;> simp[Instr.index,run_underlying Tryz.underlying199,asIntOf,part,sizeOf,xq7,go_sem]
theorem xar:(Tryz.prog.info? 124).map (·.size)=some 24:=by kernel_rfl
theorem xf9 (h:Hd) (w:World):Calls Tryz.prog 169 #[.agg (cH h)] w fun e w'=>e=.returned (.agg #[.int .u64 h.rf,.int .u64 h.rl,.int .u64 h.mf,.int .u64 h.ml,.int .u64 h.lf,.int .u64 h.ll,.int .u64 h.df,.int .u64 h.dl])∧Below w.heap.size w w':=xh2 h w
theorem xs7 (h:Hd) (w:World):Calls Tryz.prog 248 #[.agg (cH h)] w fun e w'=>e=.returned (.bool (xcx h))∧Below w.heap.size w w':=xjx h w
theorem xnJ (h:Hd) (w:World):Calls Tryz.prog 249 #[.agg (cH h)] w fun e w'=>e=.returned (.bool (xmk h))∧Below w.heap.size w w':=xjA h w
theorem xaT {ops:Array Oper} {rest:List Oper} {o:Oper} {a:Act} {w:World} {Q:Exit→Act→World→Prop} (hw:Region.wanted o (yielded ops a.tmps)=true) (x:Operand) (ho:o.op=.load 124 x)
  (g:Nat) (hx:a.eval x=.pointer (some ⟨g,0,none⟩)) (T:TypeId) (h:Hd) (H:HAt w g T h) (k:wpList Tryz.prog ops Q rest (a.put o.dst (.agg (cH h))) w):wpList Tryz.prog ops Q (o :: rest) a w :=
 BigFrame.wpList_want hw fun _ hK=>wp_load_row 124 x ho g hx T (cH h) (0,0) _ H Tryz.underlying124 rfl xar (hK _ _ k)
set_option maxRecDepth 20000 in
theorem xfA (h:Hd) (w:World) (hm:xeJ h):Calls Tryz.prog 168 #[.agg (cH h)] w fun e w'=>e=.returned (.int .i64 (ckH h))∧Below w.heap.size w w':=by
 have HM:=lH hm;clear hm
 have H0:=HAt.made w h 124
 go_enter Tryz.func168,Tryz.ntmps168
 go_wp2_with (first|(refine xaT (by rfl) _ rfl _ rfl _ h (by assumption) ?_)|fail)
 refine(xf9 h _).mono ?_
 rintro e w1 ⟨rfl,hb⟩
 have H1:=H0.below hb (by rw[World.size_alloc];omega)
 have hz1:w.heap.size<w1.heap.size:=by have:=hb.size;rw[World.size_alloc] at this;omega
 have u1:Below w.heap.size w w1:=Below.trans (by go_grown) (hb.mono (by rw[World.size_alloc];omega))
 have HH1:=lH H1
 have HU:=lH u1
 clear hb H0 H1 u1
 go_wp2_with fail
 go_loopw [7] (fun i wr=>∃ k:Nat,k≤4∧i=.int .i64 k∧Hid (xge h k)∧Below w1.heap.size w1 wr) (fun i _=>4 - (intOf i).toNat)
 case atStart=>exact⟨0,by omega,rfl,lH ⟨by omega,by omega,by omega,by omega⟩,Below.refl _ _⟩
 case round =>
  obtain⟨k,hk,rfl,HS,hbw⟩:=hrel
  have hIX:=fun W=>xjv (.int .u64 h.rf) (.int .u64 h.rl) (.int .u64 h.mf) (.int .u64 h.ml) (.int .u64 h.lf) (.int .u64 h.ll) (.int .u64 h.df) (.int .u64 h.dl) W
  have hzr:=hbw.size
  have HHr:=lH (HH1.out.below hbw hz1)
  have HUr:=lH (HU.out.trans (hbw.mono (by omega)))
  rcases(by omega:k=0∨k=1∨k=2∨k=3∨k=4) with rfl|rfl|rfl|rfl|rfl
  ·have hI:=fun W=>(hIX W).1
   clear hIX
   have HF:=lH (fun W=>xeZ h.rf h.rl W HM.out.1 HM.out.2.1)
   obtain⟨b,hs⟩:∃ b,xfS h.rf h.rl=b:=⟨_,rfl⟩
   rw[hs] at HF
   cases b
   ·have hc:Hid (8=ckH h):=lH (xgK h (by unfold xcJ;simp only[hs];simp)).symm
    clear hs
    go_wp2_with fail
    refine(HF.out _).mono ?_
    rintro e w2 ⟨rfl,hb⟩
    have u2:Below w.heap.size w w2:=(HUr.out.alloc (by omega) _).trans (hb.mono (by rw[World.size_alloc];omega))
    clear hb
    go_wp2_with fail
    go_ret
    exact⟨xav hc.out,u2⟩
   ·have HS2:Hid (xge h 1):=lH ⟨fun _=>hs,fun hh=>by omega,fun hh=>by omega,fun hh=>by omega⟩
    clear hs
    go_wp2_with fail
    refine(HF.out _).mono ?_
    rintro e w2 ⟨rfl,hb⟩
    have u2:Below w1.heap.size w1 w2:=(hbw.alloc hzr _).trans (hb.mono (by rw[World.size_alloc];omega))
    clear hb
    go_wp2_with fail
    go_roundw
    case rel=>exact⟨1,by omega,by rfl,HS2,u2⟩
    case measure=>simp[intOf]
  ·have hI:=fun W=>(hIX W).2.1
   clear hIX
   have HF:=lH (fun W=>xeZ h.mf h.ml W HM.out.2.2.1 HM.out.2.2.2.1)
   obtain⟨b,hs⟩:∃ b,xfS h.mf h.ml=b:=⟨_,rfl⟩
   rw[hs] at HF
   cases b
   ·have hc:Hid (8=ckH h):=lH (xgK h (by unfold xcJ;simp only[hs,HS.out.1 (by omega)];simp)).symm
    clear hs
    go_wp2_with fail
    refine(HF.out _).mono ?_
    rintro e w2 ⟨rfl,hb⟩
    have u2:Below w.heap.size w w2:=(HUr.out.alloc (by omega) _).trans (hb.mono (by rw[World.size_alloc];omega))
    clear hb
    go_wp2_with fail
    go_ret
    exact⟨xav hc.out,u2⟩
   ·have HS2:Hid (xge h 2):=lH ⟨fun _=>HS.out.1 (by omega),fun hh=>hs,fun hh=>by omega,fun hh=>by omega⟩
    clear hs
    go_wp2_with fail
    refine(HF.out _).mono ?_
    rintro e w2 ⟨rfl,hb⟩
    have u2:Below w1.heap.size w1 w2:=(hbw.alloc hzr _).trans (hb.mono (by rw[World.size_alloc];omega))
    clear hb
    go_wp2_with fail
    go_roundw
    case rel=>exact⟨2,by omega,by rfl,HS2,u2⟩
    case measure=>simp[intOf]
  ·have hI:=fun W=>(hIX W).2.2.1
   clear hIX
   have HF:=lH (fun W=>xeZ h.lf h.ll W HM.out.2.2.2.2.1 HM.out.2.2.2.2.2.1)
   obtain⟨b,hs⟩:∃ b,xfS h.lf h.ll=b:=⟨_,rfl⟩
   rw[hs] at HF
   cases b
   ·have hc:Hid (8=ckH h):=lH (xgK h (by unfold xcJ;simp only[hs,HS.out.1 (by omega),HS.out.2.1 (by omega)];simp)).symm
    clear hs
    go_wp2_with fail
    refine(HF.out _).mono ?_
    rintro e w2 ⟨rfl,hb⟩
    have u2:Below w.heap.size w w2:=(HUr.out.alloc (by omega) _).trans (hb.mono (by rw[World.size_alloc];omega))
    clear hb
    go_wp2_with fail
    go_ret
    exact⟨xav hc.out,u2⟩
   ·have HS2:Hid (xge h 3):=lH ⟨fun _=>HS.out.1 (by omega),fun hh=>HS.out.2.1 (by omega),fun hh=>hs,fun hh=>by omega⟩
    clear hs
    go_wp2_with fail
    refine(HF.out _).mono ?_
    rintro e w2 ⟨rfl,hb⟩
    have u2:Below w1.heap.size w1 w2:=(hbw.alloc hzr _).trans (hb.mono (by rw[World.size_alloc];omega))
    clear hb
    go_wp2_with fail
    go_roundw
    case rel=>exact⟨3,by omega,by rfl,HS2,u2⟩
    case measure=>simp[intOf]
  ·have hI:=fun W=>(hIX W).2.2.2
   clear hIX
   have HF:=lH (fun W=>xeZ h.df h.dl W HM.out.2.2.2.2.2.2.1 HM.out.2.2.2.2.2.2.2.1)
   obtain⟨b,hs⟩:∃ b,xfS h.df h.dl=b:=⟨_,rfl⟩
   rw[hs] at HF
   cases b
   ·have hc:Hid (8=ckH h):=lH (xgK h (by unfold xcJ;simp only[hs,HS.out.1 (by omega),HS.out.2.1 (by omega),HS.out.2.2.1 (by omega)];simp)).symm
    clear hs
    go_wp2_with fail
    refine(HF.out _).mono ?_
    rintro e w2 ⟨rfl,hb⟩
    have u2:Below w.heap.size w w2:=(HUr.out.alloc (by omega) _).trans (hb.mono (by rw[World.size_alloc];omega))
    clear hb
    go_wp2_with fail
    go_ret
    exact⟨xav hc.out,u2⟩
   ·have HS2:Hid (xge h 4):=lH ⟨fun _=>HS.out.1 (by omega),fun hh=>HS.out.2.1 (by omega),fun hh=>HS.out.2.2.1 (by omega),fun hh=>hs⟩
    clear hs
    go_wp2_with fail
    refine(HF.out _).mono ?_
    rintro e w2 ⟨rfl,hb⟩
    have u2:Below w1.heap.size w1 w2:=(hbw.alloc hzr _).trans (hb.mono (by rw[World.size_alloc];omega))
    clear hb
    go_wp2_with fail
    go_roundw
    case rel=>exact⟨4,by omega,by rfl,HS2,u2⟩
    case measure=>simp[intOf]
  ·have hS:xcJ h=true:=xph h HS.out
   have c12:=xwJ HHr.out
   have c13:=xwN HHr.out
   have c14:=xwV HHr.out
   clear hIX HM
   have hHr:=HHr.out
   by_cases k1:h.inn≤4
   ·have d1:decide (4<h.inn)=false:=by simp;omega
    by_cases k2:h.out≤4
    ·have d2:decide (4<h.out)=false:=by simp;omega
     by_cases k3:h.knd≤5
     ·have d3:decide (5<h.knd)=false:=by simp;omega
      have hK:xd9 h=true:=by unfold xd9;simp[k1,k2,k3]
      have HZ:=lH (fun W=>xs7 h W)
      have HD:=lH (fun W=>xnJ h W)
      clear k1 k2 k3
      obtain⟨b,hz⟩:∃ b,xcx h=b:=⟨_,rfl⟩
      rw[hz] at HZ
      cases b
      ·have hc:Hid (8=ckH h):=lH (xp9 h hS hK hz).symm
       clear hS hK hz
       go_wp2_with (first|(refine xaT (by rfl) _ rfl _ rfl _ h (by assumption) ?_)|fail)
       refine(HZ.out _).mono ?_
       rintro e w2 ⟨rfl,hb⟩
       have u2:=HUr.out.trans (hb.mono (by omega))
       clear hb
       go_wp2_with fail
       go_ret
       exact⟨xav hc.out,u2⟩
      ·obtain⟨b,hg⟩:∃ b,xmk h=b:=⟨_,rfl⟩
       rw[hg] at HD
       cases b
       ·have hc:Hid (8=ckH h):=lH (xvj h hS hK hz hg).symm
        clear hS hK hz hg
        go_wp2_with (first|(refine xaT (by rfl) _ rfl _ rfl _ h (by assumption) ?_)|fail)
        refine(HZ.out _).mono ?_
        rintro e w2 ⟨rfl,hb⟩
        have u2:=HUr.out.trans (hb.mono (by omega))
        have h2:=hHr.later hb
        have hz2:=hb.size
        clear hb hHr
        go_wp2_with (first|(refine xaT (by rfl) _ rfl _ rfl _ h (by assumption) ?_)|fail)
        refine(HD.out _).mono ?_
        rintro e w3 ⟨rfl,hb⟩
        have u3:=u2.trans (hb.mono (by omega))
        clear hb
        go_wp2_with fail
        go_ret
        exact⟨xav hc.out,u3⟩
       ·have hc:Hid (0=ckH h):=lH (xuD h hS hK hz hg).symm
        clear hS hK hz hg
        go_wp2_with (first|(refine xaT (by rfl) _ rfl _ rfl _ h (by assumption) ?_)|fail)
        refine(HZ.out _).mono ?_
        rintro e w2 ⟨rfl,hb⟩
        have u2:=HUr.out.trans (hb.mono (by omega))
        have h2:=hHr.later hb
        have hz2:=hb.size
        clear hb hHr
        go_wp2_with (first|(refine xaT (by rfl) _ rfl _ rfl _ h (by assumption) ?_)|fail)
        refine(HD.out _).mono ?_
        rintro e w3 ⟨rfl,hb⟩
        have u3:=u2.trans (hb.mono (by omega))
        clear hb
        go_wp2_with fail
        go_ret
        exact⟨xav hc.out,u3⟩
     ·have d3:decide (5<h.knd)=true:=by simp;omega
      have hc:Hid (14=ckH h):=lH (xi3 h hS (by unfold xd9;simp[k3])).symm
      clear hS k1 k2 k3
      go_wp2_with fail
      go_ret
      exact⟨xav hc.out,HUr.out⟩
    ·have d2:decide (4<h.out)=true:=by simp;omega
     have hc:Hid (14=ckH h):=lH (xi3 h hS (by unfold xd9;simp[k2])).symm
     clear hS k1 k2
     go_wp2_with fail
     go_ret
     exact⟨xav hc.out,HUr.out⟩
   ·have d1:decide (4<h.inn)=true:=by simp;omega
    have hc:Hid (14=ckH h):=lH (xi3 h hS (by unfold xd9;simp[k1])).symm
    clear hS k1
    go_wp2_with fail
    go_ret
    exact⟨xav hc.out,HUr.out⟩
end Go.Proofs.YtjinnigjfopbcaaGreatDoor
