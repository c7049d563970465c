/- cMH. -/
import Derived.Test.YtjinnigjfopbcaaGreatDoorUs
import Derived.Test.YtjinnigjfopbcaaGreatDoorUb3
namespace Go.Proofs.YtjinnigjfopbcaaGreatDoor
set_option linter.unusedVariables false
set_option linter.unusedSimpArgs false
def leH:Nat→Int→List Int
 | 0,_=>[]
 | n+1,x=>x % 256 :: leH n (x / 256)
def xhp:List Int→Int
 | []=>0
 | c :: l=>c+256*xhp l
def xl5:Nat→Int
 | 0=>1
 | n+1=>256*xl5 n
theorem xtk (n:Nat):1≤xl5 n:=by
 induction n with
 | zero=>simp[xl5]
 | succ n ih=>simp only[xl5];omega
def xnf (l:List Int):Prop:=∀ c ∈ l,0≤c∧c<256
theorem xik (n:Nat) (x:Int):(leH n x).length=n:=by
 induction n generalizing x with
 | zero=>rfl
 | succ n ih=>simp[leH,ih]
theorem xtO (n:Nat) (x:Int):xnf (leH n x):=by
 induction n generalizing x with
 | zero=>intro c hc;simp[leH] at hc
 | succ n ih =>
  intro c hc
  rcases List.mem_cons.1 hc with rfl|hc
  ·omega
  ·exact ih _ c hc
theorem xxy (n:Nat) (x:Int) (h0:0≤x) (h1:x<xl5 n):xhp (leH n x)=x:=by
 induction n generalizing x with
 | zero=>simp only[xl5] at h1;simp only[leH,xhp];omega
 | succ n ih =>
  simp only[xl5] at h1
  have hp:=xtk n
  rw[leH,xhp,ih (x / 256) (by omega) (by omega)]
  omega
theorem xk6 (l:List Int) (h:xnf l):0≤xhp l∧xhp l<xl5 l.length:=by
 induction l with
 | nil=>simp[xhp,xl5]
 | cons c l ih =>
  have hc:=h c List.mem_cons_self
  have:=ih (fun d hd=>h d (List.mem_cons_of_mem _ hd))
  simp only[xhp,List.length_cons,xl5]
  omega
theorem xxa (l:List Int) (h:xnf l):leH l.length (xhp l)=l:=by
 induction l with
 | nil=>rfl
 | cons c l ih =>
  have hc:=h c List.mem_cons_self
  have hl:xnf l:=fun d hd=>h d (List.mem_cons_of_mem _ hd)
  have hb:=xk6 l hl
  rw[List.length_cons,xhp,leH,show (c+256*xhp l) % 256=c from by omega,show (c+256*xhp l) / 256=xhp l from by omega,ih hl]
def xeu:List Nat→List Int→List Int
 | w :: ws,x :: xs=>leH w x++xeu ws xs
 | _,_=>[]
def xdq:List Nat→List Int→List Int
 | [],_=>[]
 | w :: ws,l=>xhp (l.take w) :: xdq ws (l.drop w)
def xpb:List Nat→Nat
 | []=>0
 | w :: ws=>w+xpb ws
def xkd:List Nat→List Int→Prop
 | [],[]=>True
 | w :: ws,x :: xs=>(0≤x∧x<xl5 w)∧xkd ws xs
 | _,_=>False
theorem xsl (ws:List Nat) (xs:List Int) (h:xkd ws xs):(xeu ws xs).length=xpb ws:=by
 induction ws generalizing xs with
 | nil=>cases xs <;> rfl
 | cons w ws ih =>
  cases xs with
  | nil=>exact h.elim
  | cons x xs=>rw[xeu,List.length_append,xik,ih xs h.2,xpb]
theorem xoo (ws:List Nat) (xs:List Int):xnf (xeu ws xs):=by
 induction ws generalizing xs with
 | nil=>intro c hc;simp[xeu] at hc
 | cons w ws ih =>
  cases xs with
  | nil=>intro c hc;simp[xeu] at hc
  | cons x xs =>
   intro c hc
   rcases List.mem_append.1 hc with hc|hc
   ·exact xtO w x c hc
   ·exact ih xs c hc
theorem xot (ws:List Nat) (xs r:List Int) (h:xkd ws xs):xdq ws (xeu ws xs++r)=xs:=by
 induction ws generalizing xs with
 | nil =>
  cases xs with
  | nil=>rfl
  | cons x xs=>exact h.elim
 | cons w ws ih =>
  cases xs with
  | nil=>exact h.elim
  | cons x xs =>
   have hl:=xik w x
   rw[xeu,xdq,List.append_assoc,List.take_left' hl,List.drop_left' hl,xxy w x h.1.1 h.1.2,ih xs h.2]
theorem xj3 (ws:List Nat) (l:List Int) (hl:xnf l) (h:xpb ws≤l.length):xkd ws (xdq ws l):=by
 induction ws generalizing l with
 | nil=>exact trivial
 | cons w ws ih =>
  simp only[xpb] at h
  have hb:=xk6 (l.take w) (fun c hc=>hl c (List.mem_of_mem_take hc))
  rw[List.length_take,Nat.min_eq_left (by omega)] at hb
  exact⟨hb,ih (l.drop w) (fun c hc=>hl c (List.mem_of_mem_drop hc)) (by rw[List.length_drop];omega)⟩
theorem xo5 (ws:List Nat) (l:List Int) (hl:xnf l) (h:xpb ws≤l.length):xeu ws (xdq ws l)=l.take (xpb ws):=by
 induction ws generalizing l with
 | nil=>simp[xeu,xpb]
 | cons w ws ih =>
  simp only[xpb] at h
  have hw:(l.take w).length=w:=by rw[List.length_take];omega
  have e:=xxa (l.take w) (fun c hc=>hl c (List.mem_of_mem_take hc))
  rw[hw] at e
  rw[xdq,xeu,e,ih (l.drop w) (fun c hc=>hl c (List.mem_of_mem_drop hc)) (by rw[List.length_drop];omega),xpb,List.take_add]
structure Hd where
 rf:Int
 rl:Int
 mf:Int
 ml:Int
 lf:Int
 ll:Int
 df:Int
 dl:Int
 ad:Int
 en:Int
 co:Int
 cl:Bool
 inn:Int
 out:Int
 knd:Int
 z0:Int
 z1:Int
 lo0:Int
 la0:Int
 lo1:Int
 la1:Int
 zm:Int
 lon:Int
 lat:Int
theorem Hd.eq_iff (a b:Hd):a=b↔(a.rf=b.rf∧a.rl=b.rl∧a.mf=b.mf∧a.ml=b.ml∧a.lf=b.lf∧a.ll=b.ll∧a.df=b.df∧a.dl=b.dl∧a.ad=b.ad∧a.en=b.en∧a.co=b.co∧a.cl=b.cl∧a.inn=b.inn∧a.out=b.out∧a.knd=b.knd∧a.z0=b.z0∧a.z1=b.z1∧a.lo0=b.lo0∧a.la0=b.la0∧a.lo1=b.lo1∧a.la1=b.la1∧a.zm=b.zm∧a.lon=b.lon∧a.lat=b.lat):=by
 constructor
 ·rintro rfl;simp
 ·cases a;cases b;simp only;rintro⟨rfl,rfl,rfl,rfl,rfl,rfl,rfl,rfl,rfl,rfl,rfl,rfl,rfl,rfl,rfl,rfl,rfl,rfl,rfl,rfl,rfl,rfl,rfl,rfl⟩;rfl
def xad:Hd:=⟨0,0,0,0,0,0,0,0,0,0,0,false,0,0,0,0,0,0,0,0,0,0,0,0⟩
def xhj (f l:Int):Bool:=decide (f≤1099511627776) && (decide (l≤1099511627776) && decide (f+l≤1099511627776))
def xe9 (h:Hd):Bool:=decide (h.inn≤4) && (decide (h.out≤4) && decide (h.knd≤5))
def xdb (h:Hd):Bool:=(decide (0≤h.z0) && decide (h.z0≤h.z1)) && (decide (h.z1≤26) && (decide (0≤h.zm) && decide (h.zm≤26)))
def xpd (h:Hd):Bool:=(decide (-1800000000≤h.lo0) && decide (h.lo0≤h.lo1)) && (decide (h.lo1≤1800000000) && ((decide (-900000000≤h.la0) && decide (h.la0≤h.la1)) && (decide (h.la1≤900000000) && ((decide (-1800000000≤h.lon) && decide (h.lon≤1800000000)) && (decide (-900000000≤h.lat) && decide (h.lat≤900000000))))))
def xdm (h:Hd):Bool:=xhj h.rf h.rl && (xhj h.mf h.ml && (xhj h.lf h.ll && xhj h.df h.dl))
def ckH (h:Hd):Int:=if xdm h=true then (if xe9 h=true then (if xdb h=true then (if xpd h=true then 0 else 8) else 8) else 14) else 8
def U64 (x:Int):Prop:=0≤x∧x≤18446744073709551615
def U8 (x:Int):Prop:=0≤x∧x≤255
def xfX (h:Hd):Prop:=U64 h.rf∧U64 h.rl∧U64 h.mf∧U64 h.ml∧U64 h.lf∧U64 h.ll∧U64 h.df∧U64 h.dl∧U64 h.ad∧U64 h.en∧U64 h.co∧U8 h.inn∧U8 h.out∧U8 h.knd
def xpf (x:Int):Int:=x % 4294967296
def sg (x:Int):Int:=if x<2147483648 then x else x - 4294967296
def xi0 (b:Bool):Int:=if b then 1 else 0
def xkQ:List Nat:=[8,8,8,8,8,8,8,8,8,8,8,1,1,1,1,1,1,4,4,4,4,1,4,4]
def xiJ (h:Hd):List Int:=[h.rf,h.rl,h.mf,h.ml,h.lf,h.ll,h.df,h.dl,h.ad,h.en,h.co,xi0 h.cl,h.inn,h.out,h.knd,h.z0,h.z1,xpf h.lo0,xpf h.la0,xpf h.lo1,xpf h.la1,h.zm,xpf h.lon,xpf h.lat]
def xfL (l:List Int):Hd:=⟨l.getD 0 0,l.getD 1 0,l.getD 2 0,l.getD 3 0,l.getD 4 0,l.getD 5 0,l.getD 6 0,l.getD 7 0,l.getD 8 0,l.getD 9 0,l.getD 10 0,l.getD 11 0 == 1,l.getD 12 0,l.getD 13 0,l.getD 14 0,l.getD 15 0,l.getD 16 0,sg (l.getD 17 0),sg (l.getD 18 0),sg (l.getD 19 0),sg (l.getD 20 0),l.getD 21 0,sg (l.getD 22 0),sg (l.getD 23 0)⟩
theorem xqv:xl5 8=18446744073709551616:=rfl
theorem xmn:xl5 4=4294967296:=rfl
theorem xjo:xl5 1=256:=rfl
theorem xma (h:Hd) (hc:ckH h=0):xdm h=true∧xe9 h=true∧xdb h=true∧xpd h=true:=by
 unfold ckH at hc
 split at hc
 ·split at hc
  ·split at hc
   ·split at hc
    ·exact⟨by assumption,by assumption,by assumption,by assumption⟩
    ·omega
   ·omega
  ·omega
 ·omega
theorem xff (x:Int) (h0:-2147483648≤x) (h1:x<2147483648):sg (xpf x)=x:=by
 unfold sg xpf
 split <;> omega
theorem xfr (x:Int) (h0:0≤x) (h1:x<4294967296):xpf (sg x)=x:=by
 unfold sg xpf
 split <;> omega
theorem xm0 (h:Hd) (hm:xfX h) (hc:ckH h=0):xkd xkQ (xiJ h):=by
 obtain⟨c1,c2,c3,c4⟩:=xma h hc
 simp only[xdm,xhj,xe9,xdb,xpd,Bool.and_eq_true,decide_eq_true_eq] at c1 c2 c3 c4
 unfold xfX U64 U8 at hm
 have hcl:0≤xi0 h.cl∧xi0 h.cl<256:=by unfold xi0;split <;> omega
 simp only[xkQ,xiJ,xkd,xqv,xmn,xjo,xpf,and_true]
 refine⟨?_,?_,?_,?_,?_,?_,?_,?_,?_,?_,?_,hcl,?_,?_,?_,?_,?_,?_,?_,?_,?_,?_,?_,?_⟩ <;> omega
theorem xyJ (h:Hd) (hc:ckH h=0):xfL (xiJ h)=h:=by
 obtain⟨c1,c2,c3,c4⟩:=xma h hc
 simp only[xpd,Bool.and_eq_true,decide_eq_true_eq] at c4
 have hcl:(xi0 h.cl == 1)=h.cl:=by unfold xi0;cases h.cl <;> rfl
 rw[Hd.eq_iff]
 simp only[xfL,xiJ,List.getD_cons_zero,List.getD_cons_succ]
 refine⟨trivial,trivial,trivial,trivial,trivial,trivial,trivial,trivial,trivial,trivial,trivial,hcl,trivial,trivial,trivial,trivial,trivial,xff _ (by omega) (by omega),xff _ (by omega) (by omega),xff _ (by omega) (by omega),xff _ (by omega) (by omega),trivial,xff _ (by omega) (by omega),xff _ (by omega) (by omega)⟩
def mgH:List Int:=[80,77,84,105,108,101,115]
def xh6:List Int:=[80,77,84,105,108,101,115,3]
theorem xnH:xnf xh6:=by
 intro c hc
 simp only[xh6,List.mem_cons,List.not_mem_nil,or_false] at hc
 omega
def xbE (h:Hd):List Int:=xh6++xeu xkQ (xiJ h)
def xgO (h:Hd):List Int × Int:=if ckH h=0 then (xbE h,0) else ([],ckH h)
def xtf (l:List Int):Hd:=xfL (xdq xkQ (l.drop 8))
def xcy (l:List Int):Hd × Int :=
 if l.length<127 then (xad,3) else
 if l.take 7≠mgH then (xad,12) else
 if l.getD 7 0≠3 then (xad,13) else
 if 1<l.getD 96 0 then (xad,4) else
 if ckH (xtf l)=0 then (xtf l,0) else (xad,ckH (xtf l))
theorem xe2:xpb xkQ=119:=rfl
theorem xem (h:Hd) (hm:xfX h) (hc:ckH h=0):(xbE h).length=127:=by
 rw[xbE,List.length_append,xsl _ _ (xm0 h hm hc),xe2];rfl
theorem xnE (h:Hd):xnf (xbE h):=by
 intro c hc
 rcases List.mem_append.1 hc with hc|hc
 ·exact xnH c hc
 ·exact xoo _ _ c hc
theorem xuR (h:Hd) (r:List Int) (hm:xfX h) (hc:ckH h=0):xtf (xbE h++r)=h:=by
 rw[xtf,xbE,List.append_assoc,List.drop_left' (by rfl),xot _ _ _ (xm0 h hm hc),xyJ h hc]
theorem xyg (h:Hd) (r:List Int):(xbE h++r).getD 96 0=xi0 h.cl:=by
 have hcl:(xi0 h.cl) % 256=xi0 h.cl:=by unfold xi0;cases h.cl <;> rfl
 simp only[xbE,xh6,xkQ,xiJ,xeu,leH,List.cons_append,List.nil_append,List.getD_cons_succ,List.getD_cons_zero,hcl]
theorem xpE (h:Hd) (r:List Int) (hm:xfX h) (hc:ckH h=0):xcy (xbE h++r)=(h,0):=by
 have hl:=xem h hm hc
 have h7:(xbE h++r).take 7=mgH:=by simp only[xbE,xh6,mgH,List.cons_append,List.take_succ_cons,List.take_zero]
 have h3:(xbE h++r).getD 7 0=3:=by simp only[xbE,xh6,List.cons_append,List.getD_cons_succ,List.getD_cons_zero]
 have hcl:¬ 1<(xbE h++r).getD 96 0:=by rw[xyg];unfold xi0;cases h.cl <;> simp
 unfold xcy
 rw[if_neg (by rw[List.length_append];omega),if_neg (by rw[h7];exact fun f=>f rfl),if_neg (by rw[h3];exact fun f=>f rfl),if_neg hcl,xuR h r hm hc,if_pos hc]
theorem xzc (l:List Int) (y:Hd) (h:xcy l=(y,0)):127≤l.length∧l.take 7=mgH∧l.getD 7 0=3∧l.getD 96 0≤1∧y=xtf l∧ckH y=0:=by
 unfold xcy at h
 split at h
 ·simp at h
 split at h
 ·simp at h
 split at h
 ·simp at h
 split at h
 ·simp at h
 split at h
 ·obtain⟨e,-⟩:=Prod.mk.injEq .. ▸ h
  subst e
  refine⟨by omega,?_,?_,by omega,rfl,by assumption⟩
  ·rename_i h1 _ _ _;exact Classical.not_not.1 h1
  ·rename_i h1 _ _;exact Classical.not_not.1 h1
 ·obtain⟨-,e⟩:=Prod.mk.injEq .. ▸ h
  contradiction
theorem xyZ (xs:List Int) (h:xkd xkQ xs) (hcl:xs.getD 11 0≤1):xiJ (xfL xs)=xs:=by
 rcases xs with _|⟨x0,xs⟩
 ·exact h.elim
 obtain⟨h0,h⟩:=h
 rcases xs with _|⟨x1,xs⟩
 ·exact h.elim
 obtain⟨h1,h⟩:=h
 rcases xs with _|⟨x2,xs⟩
 ·exact h.elim
 obtain⟨h2,h⟩:=h
 rcases xs with _|⟨x3,xs⟩
 ·exact h.elim
 obtain⟨h3,h⟩:=h
 rcases xs with _|⟨x4,xs⟩
 ·exact h.elim
 obtain⟨h4,h⟩:=h
 rcases xs with _|⟨x5,xs⟩
 ·exact h.elim
 obtain⟨h5,h⟩:=h
 rcases xs with _|⟨x6,xs⟩
 ·exact h.elim
 obtain⟨h6,h⟩:=h
 rcases xs with _|⟨x7,xs⟩
 ·exact h.elim
 obtain⟨h7,h⟩:=h
 rcases xs with _|⟨x8,xs⟩
 ·exact h.elim
 obtain⟨h8,h⟩:=h
 rcases xs with _|⟨x9,xs⟩
 ·exact h.elim
 obtain⟨h9,h⟩:=h
 rcases xs with _|⟨x10,xs⟩
 ·exact h.elim
 obtain⟨h10,h⟩:=h
 rcases xs with _|⟨x11,xs⟩
 ·exact h.elim
 obtain⟨h11,h⟩:=h
 rcases xs with _|⟨x12,xs⟩
 ·exact h.elim
 obtain⟨h12,h⟩:=h
 rcases xs with _|⟨x13,xs⟩
 ·exact h.elim
 obtain⟨h13,h⟩:=h
 rcases xs with _|⟨x14,xs⟩
 ·exact h.elim
 obtain⟨h14,h⟩:=h
 rcases xs with _|⟨x15,xs⟩
 ·exact h.elim
 obtain⟨h15,h⟩:=h
 rcases xs with _|⟨x16,xs⟩
 ·exact h.elim
 obtain⟨h16,h⟩:=h
 rcases xs with _|⟨x17,xs⟩
 ·exact h.elim
 obtain⟨h17,h⟩:=h
 rcases xs with _|⟨x18,xs⟩
 ·exact h.elim
 obtain⟨h18,h⟩:=h
 rcases xs with _|⟨x19,xs⟩
 ·exact h.elim
 obtain⟨h19,h⟩:=h
 rcases xs with _|⟨x20,xs⟩
 ·exact h.elim
 obtain⟨h20,h⟩:=h
 rcases xs with _|⟨x21,xs⟩
 ·exact h.elim
 obtain⟨h21,h⟩:=h
 rcases xs with _|⟨x22,xs⟩
 ·exact h.elim
 obtain⟨h22,h⟩:=h
 rcases xs with _|⟨x23,xs⟩
 ·exact h.elim
 obtain⟨h23,h⟩:=h
 rcases xs with _|⟨y,xs⟩
 ·simp only[List.getD_cons_zero,List.getD_cons_succ] at hcl
  simp only[xqv,xmn,xjo] at h0 h1 h2 h3 h4 h5 h6 h7 h8 h9 h10 h11 h12 h13 h14 h15 h16 h17 h18 h19 h20 h21 h22 h23
  have e:xi0 (x11 == 1)=x11:=by
   rcases(by omega:x11=0∨x11=1) with rfl|rfl <;> rfl
  simp only[xiJ,xfL,List.getD_cons_zero,List.getD_cons_succ,e,xfr x17 h17.1 h17.2,xfr x18 h18.1 h18.2,xfr x19 h19.1 h19.2,xfr x20 h20.1 h20.2,xfr x22 h22.1 h22.2,xfr x23 h23.1 h23.2]
 ·exact h.elim
theorem xwb (xs:List Int) (h:xkd xkQ xs):xfX (xfL xs):=by
 rcases xs with _|⟨x0,xs⟩
 ·exact h.elim
 obtain⟨h0,h⟩:=h
 rcases xs with _|⟨x1,xs⟩
 ·exact h.elim
 obtain⟨h1,h⟩:=h
 rcases xs with _|⟨x2,xs⟩
 ·exact h.elim
 obtain⟨h2,h⟩:=h
 rcases xs with _|⟨x3,xs⟩
 ·exact h.elim
 obtain⟨h3,h⟩:=h
 rcases xs with _|⟨x4,xs⟩
 ·exact h.elim
 obtain⟨h4,h⟩:=h
 rcases xs with _|⟨x5,xs⟩
 ·exact h.elim
 obtain⟨h5,h⟩:=h
 rcases xs with _|⟨x6,xs⟩
 ·exact h.elim
 obtain⟨h6,h⟩:=h
 rcases xs with _|⟨x7,xs⟩
 ·exact h.elim
 obtain⟨h7,h⟩:=h
 rcases xs with _|⟨x8,xs⟩
 ·exact h.elim
 obtain⟨h8,h⟩:=h
 rcases xs with _|⟨x9,xs⟩
 ·exact h.elim
 obtain⟨h9,h⟩:=h
 rcases xs with _|⟨x10,xs⟩
 ·exact h.elim
 obtain⟨h10,h⟩:=h
 rcases xs with _|⟨x11,xs⟩
 ·exact h.elim
 obtain⟨h11,h⟩:=h
 rcases xs with _|⟨x12,xs⟩
 ·exact h.elim
 obtain⟨h12,h⟩:=h
 rcases xs with _|⟨x13,xs⟩
 ·exact h.elim
 obtain⟨h13,h⟩:=h
 rcases xs with _|⟨x14,xs⟩
 ·exact h.elim
 obtain⟨h14,h⟩:=h
 rcases xs with _|⟨x15,xs⟩
 ·exact h.elim
 obtain⟨h15,h⟩:=h
 rcases xs with _|⟨x16,xs⟩
 ·exact h.elim
 obtain⟨h16,h⟩:=h
 rcases xs with _|⟨x17,xs⟩
 ·exact h.elim
 obtain⟨h17,h⟩:=h
 rcases xs with _|⟨x18,xs⟩
 ·exact h.elim
 obtain⟨h18,h⟩:=h
 rcases xs with _|⟨x19,xs⟩
 ·exact h.elim
 obtain⟨h19,h⟩:=h
 rcases xs with _|⟨x20,xs⟩
 ·exact h.elim
 obtain⟨h20,h⟩:=h
 rcases xs with _|⟨x21,xs⟩
 ·exact h.elim
 obtain⟨h21,h⟩:=h
 rcases xs with _|⟨x22,xs⟩
 ·exact h.elim
 obtain⟨h22,h⟩:=h
 rcases xs with _|⟨x23,xs⟩
 ·exact h.elim
 obtain⟨h23,h⟩:=h
 simp only[xqv,xmn,xjo] at h0 h1 h2 h3 h4 h5 h6 h7 h8 h9 h10 h11 h12 h13 h14 h15 h16 h17 h18 h19 h20 h21 h22 h23
 simp only[xfX,U64,U8,xfL,List.getD_cons_zero,List.getD_cons_succ]
 omega
theorem xqs (l:List Int) (n:Nat):xhp ((l.drop n).take 1)=l.getD n 0:=by
 induction n generalizing l with
 | zero =>
  cases l with
  | nil=>rfl
  | cons c l=>simp[xhp]
 | succ n ih =>
  cases l with
  | nil=>simp[xhp]
  | cons c l=>rw[List.drop_succ_cons,ih,List.getD_cons_succ]
theorem xtH (l:List Int):(xdq xkQ (l.drop 8)).getD 11 0=l.getD 96 0:=by
 simp only[xkQ,xdq,List.getD_cons_succ,List.getD_cons_zero,List.drop_drop,xqs]
theorem xA5 (l:List Int) (h:l.take 7=mgH) (h3:l.getD 7 0=3):l.take 8=xh6:=by
 rcases l with _|⟨a0,l⟩
 ·simp[mgH] at h
 rcases l with _|⟨a1,l⟩
 ·simp[mgH] at h h3
 rcases l with _|⟨a2,l⟩
 ·simp[mgH] at h h3
 rcases l with _|⟨a3,l⟩
 ·simp[mgH] at h h3
 rcases l with _|⟨a4,l⟩
 ·simp[mgH] at h h3
 rcases l with _|⟨a5,l⟩
 ·simp[mgH] at h h3
 rcases l with _|⟨a6,l⟩
 ·simp[mgH] at h h3
 rcases l with _|⟨a7,l⟩
 ·simp[mgH] at h h3
 simp only[List.take_succ_cons,List.take_zero,mgH,List.cons.injEq,and_true] at h
 simp only[List.getD_cons_zero,List.getD_cons_succ] at h3
 obtain⟨rfl,rfl,rfl,rfl,rfl,rfl,rfl⟩:=h
 subst h3
 rfl
theorem xlC (l:List Int) (y:Hd) (hl:xnf l) (h:xcy l=(y,0)):xfX y∧ckH y=0∧xbE y=l.take 127:=by
 obtain⟨h1,h2,h3,h4,rfl,h6⟩:=xzc l y h
 have hd:xnf (l.drop 8):=fun c hc=>hl c (List.mem_of_mem_drop hc)
 have hs:xpb xkQ≤(l.drop 8).length:=by rw[List.length_drop,xe2];omega
 have hf:=xj3 xkQ _ hd hs
 have hc:(xdq xkQ (l.drop 8)).getD 11 0≤1:=by rw[xtH];exact h4
 refine⟨xwb _ hf,h6,?_⟩
 rw[xbE,xtf,xyZ _ hf hc,xo5 _ _ hd hs,xe2,← xA5 l h2 h3,← List.take_add]
def xxu (h:Hd) (n:Int):Int :=
 if ckH h≠0 then ckH h else
 if h.rf<127 then 10 else
 if h.mf<h.rf+h.rl then 10 else
 if h.lf<h.mf+h.ml then 10 else
 if h.df<h.lf+h.ll then 10 else
 if n<h.df+h.dl then 8 else 0
open Go.RowKit
set_option maxRecDepth 20000
theorem xs4 (b:Bool) (w:World):Calls Tryz.prog 223 #[.bool b] w fun e w'=>e=.returned (.int .u8 (xi0 b))∧w=w':=by
 cases b
 ·go_enter Tryz.func223,Tryz.ntmps223
  go_wp2
  go_ret
  exact⟨rfl,rfl⟩
 ·go_enter Tryz.func223,Tryz.ntmps223
  go_wp2
  go_ret
  exact⟨rfl,rfl⟩
theorem xct {a b:Bool} (h:a=b):Ending.returned (.bool a)=.returned (.bool b):=by rw[h]
theorem xgf (f l:Int) (w:World) (hf:U64 f) (hl:U64 l):Calls Tryz.prog 247 #[.agg #[.int .u64 f,.int .u64 l]] w fun e w'=>e=.returned (.bool (xhj f l))∧Below w.heap.size w w':=by
 unfold U64 at hf hl
 by_cases h:f≤1099511627776
 ·have hd:decide (f≤1099511627776)=true:=by simpa using h
  have hw:IntKind.u64.wrap (1099511627776 - f)=1099511627776 - f:=by rw[wrap_u64];omega
  have he:Hid (decide (l≤1099511627776 - f)=xhj f l):=by
   apply lH
   unfold xhj
   rw[hd,Bool.true_and,Bool.eq_iff_iff,Bool.and_eq_true,decide_eq_true_eq,decide_eq_true_eq,decide_eq_true_eq]
   omega
  clear h hf hl
  go_enter Tryz.func247,Tryz.ntmps247
  go_wp2
  go_ret
  exact⟨xct he.out,(Below.refl _ _).alloc (Nat.le_refl _) _⟩
 ·have hd:decide (f≤1099511627776)=false:=by simpa using h
  have he:Hid (false=xhj f l):=by
   apply lH
   unfold xhj
   rw[hd,Bool.false_and]
  clear h hf hl
  go_enter Tryz.func247,Tryz.ntmps247
  go_wp2
  go_ret
  exact⟨xct he.out,(Below.refl _ _).alloc (Nat.le_refl _) _⟩
theorem xro (x:Int) (w:World):Calls Tryz.prog 377 #[.int .i64 x] w fun e w'=>e=.returned (.bool false)∧w=w':=by
 have h:(x != x)=false:=by simp
 go_enter Tryz.func377,Tryz.ntmps377
 go_wp2
 go_ret
 exact⟨rfl,rfl⟩
theorem xsY (x y:Int) (w:World):Calls Tryz.prog 360 #[.int .i64 x,.int .i64 y] w fun e w'=>e=.returned (.bool (decide (x<y)))∧w=w':=by
 go_enter Tryz.func360,Tryz.ntmps360
 go_wp2_with (go_at_call 377;refine(xro _ _).mono ?_;rintro e w' ⟨rfl,rfl⟩)
 go_ret
 exact⟨rfl,rfl⟩
theorem xvY (x y:Int) (w:World):Calls Tryz.prog 360 #[.int .i64 x,.int .i64 y] w fun e w'=>e=.returned (.bool (decide (x<y)))∧w'=w:=(xsY x y w).mono fun _ _ ⟨h,g⟩=>⟨h,g.symm⟩
def xdZ (k:IntKind) (w:World) (v:Value) (l:List Int):Prop :=
 ∃ b cap,v=.slice (some ⟨b,0,none⟩) l.length cap∧l.length≤cap∧cap≤maxLen∧b<w.heap.size∧∀ i,i<l.length→w.cell? ⟨b,i,none⟩=some (.int k (l.getD i 0))
theorem xdZ.below {k:IntKind} {w w':World} {v:Value} {l:List Int} (h:xdZ k w v l) (hb:Below w.heap.size w w'):xdZ k w' v l:=by
 obtain⟨b,cap,h1,h2,h3,h4,h5⟩:=h
 exact⟨b,cap,h1,h2,h3,Nat.lt_of_lt_of_le h4 hb.size,fun i hi=>(hb.cell (p:=⟨b,i,none⟩) h4).trans (h5 i hi)⟩
def xut (l:List Int):Prop:=∀ i,i+1<l.length→l.getD i 0≤l.getD (i+1) 0
theorem xgI {B:Nat} {w w':World} (h:Below B w w') (n:Nat):Below B w (w'.drewN n):=h.trans ⟨rfl,rfl,rfl,Nat.le_refl _,fun _ _=>rfl⟩
theorem xnW (v:Value) (l:List Int) (w:World) (hv:xdZ .i64 w v l):Calls Tryz.prog 327 #[v] w fun e w'=>∃ b,e=.returned (.bool b)∧(b=true↔xut l)∧Below w.heap.size w w':=by
 obtain⟨b,cap,rfl,hc1,hc2,hb,hcell⟩:=hv
 have HC:=lH hcell;clear hcell
 have hml:l.length≤9223372036854775807:=by unfold maxLen at hc2;omega
 have hw:IntKind.i64.wrap ((l.length:Int) - 1)=(l.length:Int) - 1:=by rw[IntKind.wrap_i64] <;> omega
 go_enter Tryz.func327,Tryz.ntmps327
 go_wp2_with fail
 go_loopw [3] (fun i wr=>∃ k:Nat,k≤l.length∧i=.int .i64 ((k:Int) - 1)∧(∀ j,k≤j+1→j+1<l.length→l.getD j 0≤l.getD (j+1) 0)∧Below w.heap.size w wr) (fun i _=>(intOf i+1).toNat)
 case atStart=>exact⟨l.length,Nat.le_refl _,rfl,fun j h1 h2=>by omega,Below.refl _ _⟩
 case round =>
  obtain⟨k,hk,rfl,hr,hbw⟩:=hrel
  have HR:=lH hr;clear hr
  by_cases h2:2≤k
  ·obtain⟨j,rfl⟩:∃ j,k=j+2:=⟨k - 2,by omega⟩
   have e1:((j+2:Nat):Int) - 1=((j+1:Nat):Int):=by omega
   rw[e1]
   clear e1
   have c1:=(hbw.cell (p:=⟨b,j+1,none⟩) hb).trans (HC.out (j+1) (by omega))
   have c0:=(hbw.cell (p:=⟨b,j,none⟩) hb).trans (HC.out j (by omega))
   obtain⟨y,hy⟩:∃ y,l.getD (j+1) 0=y:=⟨_,rfl⟩
   obtain⟨x,hx⟩:∃ x,l.getD j 0=x:=⟨_,rfl⟩
   rw[hy] at c1
   rw[hx] at c0
   have HX:=lH hx
   have HY:=lH hy
   clear hx hy
   obtain⟨i,hi⟩:∃ i,j+1=i:=⟨_,rfl⟩
   rw[hi] at c1 ⊢
   have hgt:decide (0<(i:Int))=true:=by simp;omega
   have hsub:(i:Int) - 1=(j:Int):=by omega
   have hwj:IntKind.i64.wrap (j:Int)=(j:Int):=by rw[IntKind.wrap_i64] <;> omega
   have hi1:i<l.length:=by omega
   have HI:=lH hi;clear hi
   have hj1:j<l.length:=by omega
   by_cases hlt:y<x
   ·have hd:decide (y<x)=true:=by simpa using hlt
    have HB:=lH hbw;clear hbw
    go_wp2_with fail
    go_quiet (first|(go_at_call 360;(with_reducible refine Calls.quiet_of_same (xvY _ _ _)))|fail)
    go_wp2_with fail
    go_ret
    refine⟨false,rfl,⟨fun h=>(by cases h),fun h=>?_⟩,xgI HB.out nq⟩
    have hle:=h j (by rw[HI.out];exact hi1)
    rw[HX.out,HY.out] at hle
    omega
   ·have hd:decide (y<x)=false:=by simpa using hlt
    go_wp2_with fail
    go_quiet (first|(go_at_call 360;(with_reducible refine Calls.quiet_of_same (xvY _ _ _)))|fail)
    go_wp2_with fail
    go_roundw
    case rel =>
     refine⟨i,by omega,by congr 1;omega,fun m h1 h3=>?_,xgI hbw nq⟩
     rcases Nat.lt_or_ge m i with h4|h4
     ·obtain rfl:m=j:=by have:=HI.out;omega
      rw[HX.out,HY.out]
      exact hlt
     ·exact HR.out m (by have:=HI.out;omega) h3
    case measure=>simp[intOf];omega
  ·go_wp2_with fail
   go_ret
   exact⟨true,rfl,⟨fun _ m hm=>HR.out m (by omega) hm,fun _=>rfl⟩,hbw⟩
theorem xjw (v:Value) (l:List Int) (w:World) (hv:xdZ .i64 w v l):Calls Tryz.prog 298 #[v] w fun e w'=>∃ b,e=.returned (.bool b)∧(b=true↔xut l)∧Below w.heap.size w w':=by
 have HV:=lH hv;clear hv
 go_enter Tryz.func298,Tryz.ntmps298
 go_wp2_with fail
 refine(xnW v l w HV.out).mono ?_
 rintro e w1 ⟨b,rfl,hb,hbw⟩
 go_wp2_with fail
 go_ret
 exact⟨b,rfl,hb,hbw⟩
theorem xbb (k:IntKind) (w:World) (l:List Int) (T:TypeId) (n:Nat) (f:Nat × Nat) (hn:n=w.heap.size) (h:l.length≤maxLen):xdZ k (w.alloc (.cells (l.map (Value.int k)).toArray T f)) (.slice (some ⟨n,0,none⟩) l.length l.length) l:=by
 subst hn
 refine⟨_,_,rfl,Nat.le_refl _,h,by rw[World.size_alloc];omega,fun i hi=>?_⟩
 rw[World.cell?_alloc_mark]
 simp[hi]
set_option maxRecDepth 20000 in
theorem xjC (h:Hd) (w:World):Calls Tryz.prog 169 #[.agg #[.int .u64 h.rf,.int .u64 h.rl,.int .u64 h.mf,.int .u64 h.ml,.int .u64 h.lf,.int .u64 h.ll,.int .u64 h.df,.int .u64 h.dl,.int .u64 h.ad,.int .u64 h.en,.int .u64 h.co,.bool h.cl,.int .u8 h.inn,.int .u8 h.out,.int .u8 h.knd,.int .i64 h.z0,.int .i64 h.z1,.int .i64 h.lo0,.int .i64 h.la0,.int .i64 h.lo1,.int .i64 h.la1,.int .i64 h.zm,.int .i64 h.lon,.int .i64 h.lat]] w fun e w'=>e=.returned (.agg #[.int .u64 h.rf,.int .u64 h.rl,.int .u64 h.mf,.int .u64 h.ml,.int .u64 h.lf,.int .u64 h.ll,.int .u64 h.df,.int .u64 h.dl])∧Below w.heap.size w w':=by
 go_enter Tryz.func169,Tryz.ntmps169
 go_wp2_with fail
 refine bodyPost_ret (v:=.agg #[.int .u64 h.rf,.int .u64 h.rl,.int .u64 h.mf,.int .u64 h.ml,.int .u64 h.lf,.int .u64 h.ll,.int .u64 h.df,.int .u64 h.dl]) (by simp[results,Tryz.results169,go_sem]) rfl ⟨rfl,by go_grown⟩
theorem xBr (a b c:Int):xut [a,b,c]↔a≤b∧b≤c:=by
 constructor
 ·intro h
  exact⟨h 0 (by simp),h 1 (by simp)⟩
 ·rintro⟨h0,h1⟩ i hi
  simp only[List.length_cons,List.length_nil] at hi
  rcases(by omega:i=0∨i=1) with rfl|rfl
  ·exact h0
  ·exact h1
theorem xAY (a b c d:Int):xut [a,b,c,d]↔a≤b∧b≤c∧c≤d:=by
 constructor
 ·intro h
  exact⟨h 0 (by simp),h 1 (by simp),h 2 (by simp)⟩
 ·rintro⟨h0,h1,h2⟩ i hi
  simp only[List.length_cons,List.length_nil] at hi
  rcases(by omega:i=0∨i=1∨i=2) with rfl|rfl|rfl
  ·exact h0
  ·exact h1
  ·exact h2
theorem xrA (a b c d:Int) (w:World) (n:Nat) (hn:n=w.heap.size):Calls Tryz.prog 298 #[.slice (some ⟨n,0,none⟩) 4 4] (w.alloc (.cells #[.int .i64 a,.int .i64 b,.int .i64 c,.int .i64 d] 3)) fun e w'=>e=.returned (.bool (decide (a≤b) && (decide (b≤c) && decide (c≤d))))∧Below w.heap.size w w':=by
 refine(xjw _ [a,b,c,d] _ (xbb .i64 w [a,b,c,d] 3 n (0,0) hn (by simp[maxLen]))).mono ?_
 rintro e w' ⟨r,rfl,hr,hb⟩
 refine⟨?_,((Below.refl _ _).alloc (Nat.le_refl _) _).trans (hb.mono (by rw[World.size_alloc];omega))⟩
 congr 2
 rw[xAY] at hr
 rw[Bool.eq_iff_iff,hr]
 simp
theorem xrS (a b c:Int) (w:World) (n:Nat) (hn:n=w.heap.size):Calls Tryz.prog 298 #[.slice (some ⟨n,0,none⟩) 3 3] (w.alloc (.cells #[.int .i64 a,.int .i64 b,.int .i64 c] 3)) fun e w'=>e=.returned (.bool (decide (a≤b) && decide (b≤c)))∧Below w.heap.size w w':=by
 refine(xjw _ [a,b,c] _ (xbb .i64 w [a,b,c] 3 n (0,0) hn (by simp[maxLen]))).mono ?_
 rintro e w' ⟨r,rfl,hr,hb⟩
 refine⟨?_,((Below.refl _ _).alloc (Nat.le_refl _) _).trans (hb.mono (by rw[World.size_alloc];omega))⟩
 congr 2
 rw[xBr] at hr
 rw[Bool.eq_iff_iff,hr]
 simp
set_option maxRecDepth 20000 in
theorem xkV (h:Hd) (w:World):Calls Tryz.prog 248 #[.agg #[.int .u64 h.rf,.int .u64 h.rl,.int .u64 h.mf,.int .u64 h.ml,.int .u64 h.lf,.int .u64 h.ll,.int .u64 h.df,.int .u64 h.dl,.int .u64 h.ad,.int .u64 h.en,.int .u64 h.co,.bool h.cl,.int .u8 h.inn,.int .u8 h.out,.int .u8 h.knd,.int .i64 h.z0,.int .i64 h.z1,.int .i64 h.lo0,.int .i64 h.la0,.int .i64 h.lo1,.int .i64 h.la1,.int .i64 h.zm,.int .i64 h.lon,.int .i64 h.lat]] w fun e w'=>e=.returned (.bool (xdb h))∧Below w.heap.size w w':=by
 obtain⟨b1,hb1⟩:∃ b,(decide (0≤h.z0) && (decide (h.z0≤h.z1) && decide (h.z1≤26)))=b:=⟨_,rfl⟩
 obtain⟨b2,hb2⟩:∃ b,(decide (0≤h.zm) && decide (h.zm≤26))=b:=⟨_,rfl⟩
 have he:Hid ((b1 && b2)=xdb h):=by
  apply lH
  unfold xdb
  rw[← hb1,← hb2]
  simp only[Bool.and_assoc]
 have R4:∀ W n,n=W.heap.size→Calls Tryz.prog 298 #[.slice (some ⟨n,0,none⟩) 4 4] (W.alloc (.cells #[.int .i64 0,.int .i64 h.z0,.int .i64 h.z1,.int .i64 26] 3)) fun e w'=>e=.returned (.bool b1)∧Below W.heap.size W w':=fun W n hn=>hb1 ▸ xrA 0 h.z0 h.z1 26 W n hn
 have R3:∀ W n,n=W.heap.size→Calls Tryz.prog 298 #[.slice (some ⟨n,0,none⟩) 3 3] (W.alloc (.cells #[.int .i64 0,.int .i64 h.zm,.int .i64 26] 3)) fun e w'=>e=.returned (.bool b2)∧Below W.heap.size W w':=fun W n hn=>hb2 ▸ xrS 0 h.zm 26 W n hn
 have H4:=lH R4
 have H3:=lH R3
 clear R4 R3 hb1 hb2
 cases b1
 ·go_enter Tryz.func248,Tryz.ntmps248
  go_wp2_with fail
  refine(H4.out _ _ (by simp)).mono ?_
  rintro e w1 ⟨rfl,hb⟩
  have hbw:Below w.heap.size w w1:=Below.trans (by go_grown) (hb.mono (by rw[World.size_alloc];omega))
  clear hb
  go_wp2_with fail
  go_ret
  exact⟨xct he.out,hbw⟩
 ·go_enter Tryz.func248,Tryz.ntmps248
  go_wp2_with fail
  refine(H4.out _ _ (by simp)).mono ?_
  rintro e w1 ⟨rfl,hb⟩
  have hbw:Below w.heap.size w w1:=Below.trans (by go_grown) (hb.mono (by rw[World.size_alloc];omega))
  have c1:w1.cell? ⟨w.heap.size,21,none⟩=some (.int .i64 h.zm):=(hb.cell (p:=⟨w.heap.size,21,none⟩) (by simp)).trans (by simp[go_sem])
  clear hb
  go_wp2_with fail
  refine(H3.out _ _ (by simp)).mono ?_
  rintro e w2 ⟨rfl,hb⟩
  have hbw2:Below w.heap.size w w2:=hbw.trans (hb.mono hbw.size)
  clear hb hbw
  go_wp2_with fail
  go_ret
  exact⟨xct he.out,hbw2⟩
set_option maxRecDepth 20000 in
theorem xlT (h:Hd) (w:World):Calls Tryz.prog 249 #[.agg #[.int .u64 h.rf,.int .u64 h.rl,.int .u64 h.mf,.int .u64 h.ml,.int .u64 h.lf,.int .u64 h.ll,.int .u64 h.df,.int .u64 h.dl,.int .u64 h.ad,.int .u64 h.en,.int .u64 h.co,.bool h.cl,.int .u8 h.inn,.int .u8 h.out,.int .u8 h.knd,.int .i64 h.z0,.int .i64 h.z1,.int .i64 h.lo0,.int .i64 h.la0,.int .i64 h.lo1,.int .i64 h.la1,.int .i64 h.zm,.int .i64 h.lon,.int .i64 h.lat]] w fun e w'=>e=.returned (.bool (xpd h))∧Below w.heap.size w w':=by
 obtain⟨b0,hb0⟩:∃ b,(decide (-1800000000≤h.lo0) && (decide (h.lo0≤h.lo1) && decide (h.lo1≤1800000000)))=b:=⟨_,rfl⟩
 obtain⟨b1,hb1⟩:∃ b,(decide (-900000000≤h.la0) && (decide (h.la0≤h.la1) && decide (h.la1≤900000000)))=b:=⟨_,rfl⟩
 obtain⟨b2,hb2⟩:∃ b,(decide (-1800000000≤h.lon) && decide (h.lon≤1800000000))=b:=⟨_,rfl⟩
 obtain⟨b3,hb3⟩:∃ b,(decide (-900000000≤h.lat) && decide (h.lat≤900000000))=b:=⟨_,rfl⟩
 have he:Hid ((b0 && (b1 && (b2 && b3)))=xpd h):=by
  apply lH
  unfold xpd
  rw[← hb0,← hb1,← hb2,← hb3]
  simp only[Bool.and_assoc]
 have R0:∀ W n,n=W.heap.size→Calls Tryz.prog 298 #[.slice (some ⟨n,0,none⟩) 4 4] (W.alloc (.cells #[.int .i64 (-1800000000),.int .i64 h.lo0,.int .i64 h.lo1,.int .i64 1800000000] 3)) fun e w'=>e=.returned (.bool b0)∧Below W.heap.size W w':=fun W n hn=>hb0 ▸ xrA (-1800000000) h.lo0 h.lo1 1800000000 W n hn
 have H0:=lH R0;clear R0 hb0
 have R1:∀ W n,n=W.heap.size→Calls Tryz.prog 298 #[.slice (some ⟨n,0,none⟩) 4 4] (W.alloc (.cells #[.int .i64 (-900000000),.int .i64 h.la0,.int .i64 h.la1,.int .i64 900000000] 3)) fun e w'=>e=.returned (.bool b1)∧Below W.heap.size W w':=fun W n hn=>hb1 ▸ xrA (-900000000) h.la0 h.la1 900000000 W n hn
 have H1:=lH R1;clear R1 hb1
 have R2:∀ W n,n=W.heap.size→Calls Tryz.prog 298 #[.slice (some ⟨n,0,none⟩) 3 3] (W.alloc (.cells #[.int .i64 (-1800000000),.int .i64 h.lon,.int .i64 1800000000] 3)) fun e w'=>e=.returned (.bool b2)∧Below W.heap.size W w':=fun W n hn=>hb2 ▸ xrS (-1800000000) h.lon 1800000000 W n hn
 have H2:=lH R2;clear R2 hb2
 have R3:∀ W n,n=W.heap.size→Calls Tryz.prog 298 #[.slice (some ⟨n,0,none⟩) 3 3] (W.alloc (.cells #[.int .i64 (-900000000),.int .i64 h.lat,.int .i64 900000000] 3)) fun e w'=>e=.returned (.bool b3)∧Below W.heap.size W w':=fun W n hn=>hb3 ▸ xrS (-900000000) h.lat 900000000 W n hn
 have H3:=lH R3;clear R3 hb3
 cases b0
 ·go_enter Tryz.func249,Tryz.ntmps249
  go_wp2_with fail
  refine(H0.out _ _ (by simp)).mono ?_
  rintro e w1 ⟨rfl,hb⟩
  have u1:Below w.heap.size w w1:=Below.trans (by go_grown) (hb.mono (by rw[World.size_alloc];omega))
  have c18:w1.cell? ⟨w.heap.size,18,none⟩=some (.int .i64 h.la0):=(hb.cell (p:=⟨w.heap.size,18,none⟩) (by simp)).trans (by simp[go_sem])
  have c20:w1.cell? ⟨w.heap.size,20,none⟩=some (.int .i64 h.la1):=(hb.cell (p:=⟨w.heap.size,20,none⟩) (by simp)).trans (by simp[go_sem])
  have c22:w1.cell? ⟨w.heap.size,22,none⟩=some (.int .i64 h.lon):=(hb.cell (p:=⟨w.heap.size,22,none⟩) (by simp)).trans (by simp[go_sem])
  have c23:w1.cell? ⟨w.heap.size,23,none⟩=some (.int .i64 h.lat):=(hb.cell (p:=⟨w.heap.size,23,none⟩) (by simp)).trans (by simp[go_sem])
  clear hb
  go_wp2_with fail
  go_ret
  exact⟨xct he.out,u1⟩
 ·cases b1
  ·go_enter Tryz.func249,Tryz.ntmps249
   go_wp2_with fail
   refine(H0.out _ _ (by simp)).mono ?_
   rintro e w1 ⟨rfl,hb⟩
   have u1:Below w.heap.size w w1:=Below.trans (by go_grown) (hb.mono (by rw[World.size_alloc];omega))
   have c18:w1.cell? ⟨w.heap.size,18,none⟩=some (.int .i64 h.la0):=(hb.cell (p:=⟨w.heap.size,18,none⟩) (by simp)).trans (by simp[go_sem])
   have c20:w1.cell? ⟨w.heap.size,20,none⟩=some (.int .i64 h.la1):=(hb.cell (p:=⟨w.heap.size,20,none⟩) (by simp)).trans (by simp[go_sem])
   have c22:w1.cell? ⟨w.heap.size,22,none⟩=some (.int .i64 h.lon):=(hb.cell (p:=⟨w.heap.size,22,none⟩) (by simp)).trans (by simp[go_sem])
   have c23:w1.cell? ⟨w.heap.size,23,none⟩=some (.int .i64 h.lat):=(hb.cell (p:=⟨w.heap.size,23,none⟩) (by simp)).trans (by simp[go_sem])
   clear hb
   go_wp2_with fail
   refine(H1.out _ _ (by simp)).mono ?_
   rintro e w2 ⟨rfl,hb⟩
   have u2:=u1.trans (hb.mono u1.size)
   replace c18:=xak hb c18
   replace c20:=xak hb c20
   replace c22:=xak hb c22
   replace c23:=xak hb c23
   clear u1
   clear hb
   go_wp2_with fail
   go_ret
   exact⟨xct he.out,u2⟩
  ·cases b2
   ·go_enter Tryz.func249,Tryz.ntmps249
    go_wp2_with fail
    refine(H0.out _ _ (by simp)).mono ?_
    rintro e w1 ⟨rfl,hb⟩
    have u1:Below w.heap.size w w1:=Below.trans (by go_grown) (hb.mono (by rw[World.size_alloc];omega))
    have c18:w1.cell? ⟨w.heap.size,18,none⟩=some (.int .i64 h.la0):=(hb.cell (p:=⟨w.heap.size,18,none⟩) (by simp)).trans (by simp[go_sem])
    have c20:w1.cell? ⟨w.heap.size,20,none⟩=some (.int .i64 h.la1):=(hb.cell (p:=⟨w.heap.size,20,none⟩) (by simp)).trans (by simp[go_sem])
    have c22:w1.cell? ⟨w.heap.size,22,none⟩=some (.int .i64 h.lon):=(hb.cell (p:=⟨w.heap.size,22,none⟩) (by simp)).trans (by simp[go_sem])
    have c23:w1.cell? ⟨w.heap.size,23,none⟩=some (.int .i64 h.lat):=(hb.cell (p:=⟨w.heap.size,23,none⟩) (by simp)).trans (by simp[go_sem])
    clear hb
    go_wp2_with fail
    refine(H1.out _ _ (by simp)).mono ?_
    rintro e w2 ⟨rfl,hb⟩
    have u2:=u1.trans (hb.mono u1.size)
    replace c18:=xak hb c18
    replace c20:=xak hb c20
    replace c22:=xak hb c22
    replace c23:=xak hb c23
    clear u1
    clear hb
    go_wp2_with fail
    refine(H2.out _ _ (by simp)).mono ?_
    rintro e w3 ⟨rfl,hb⟩
    have u3:=u2.trans (hb.mono u2.size)
    replace c18:=xak hb c18
    replace c20:=xak hb c20
    replace c22:=xak hb c22
    replace c23:=xak hb c23
    clear u2
    clear hb
    go_wp2_with fail
    go_ret
    exact⟨xct he.out,u3⟩
   ·go_enter Tryz.func249,Tryz.ntmps249
    go_wp2_with fail
    refine(H0.out _ _ (by simp)).mono ?_
    rintro e w1 ⟨rfl,hb⟩
    have u1:Below w.heap.size w w1:=Below.trans (by go_grown) (hb.mono (by rw[World.size_alloc];omega))
    have c18:w1.cell? ⟨w.heap.size,18,none⟩=some (.int .i64 h.la0):=(hb.cell (p:=⟨w.heap.size,18,none⟩) (by simp)).trans (by simp[go_sem])
    have c20:w1.cell? ⟨w.heap.size,20,none⟩=some (.int .i64 h.la1):=(hb.cell (p:=⟨w.heap.size,20,none⟩) (by simp)).trans (by simp[go_sem])
    have c22:w1.cell? ⟨w.heap.size,22,none⟩=some (.int .i64 h.lon):=(hb.cell (p:=⟨w.heap.size,22,none⟩) (by simp)).trans (by simp[go_sem])
    have c23:w1.cell? ⟨w.heap.size,23,none⟩=some (.int .i64 h.lat):=(hb.cell (p:=⟨w.heap.size,23,none⟩) (by simp)).trans (by simp[go_sem])
    clear hb
    go_wp2_with fail
    refine(H1.out _ _ (by simp)).mono ?_
    rintro e w2 ⟨rfl,hb⟩
    have u2:=u1.trans (hb.mono u1.size)
    replace c18:=xak hb c18
    replace c20:=xak hb c20
    replace c22:=xak hb c22
    replace c23:=xak hb c23
    clear u1
    clear hb
    go_wp2_with fail
    refine(H2.out _ _ (by simp)).mono ?_
    rintro e w3 ⟨rfl,hb⟩
    have u3:=u2.trans (hb.mono u2.size)
    replace c18:=xak hb c18
    replace c20:=xak hb c20
    replace c22:=xak hb c22
    replace c23:=xak hb c23
    clear u2
    clear hb
    go_wp2_with fail
    refine(H3.out _ _ (by simp)).mono ?_
    rintro e w4 ⟨rfl,hb⟩
    have u4:=u3.trans (hb.mono u3.size)
    replace c18:=xak hb c18
    replace c20:=xak hb c20
    replace c22:=xak hb c22
    replace c23:=xak hb c23
    clear u3
    clear hb
    go_wp2_with fail
    go_ret
    exact⟨xct he.out,u4⟩
theorem xal {w:World} {g:Nat} {cs:Array Value} {t:TypeId} {fr:Nat × Nat} (h:w.heap[g]?=some (.cells cs t fr)) (i:Nat):w.cell? ⟨g,i,none⟩=cs[i]?:=by simp[World.cell?,h]
theorem xmK {w:World} {a:Addr} {v:Value} (h:w.cell? a=some v):a.block<w.heap.size:=by
 rcases Nat.lt_or_ge a.block w.heap.size with h'|h'
 ·exact h'
 ·simp[World.cell?,Array.getElem?_eq_none h'] at h
theorem xbe {w w':World} {a:Addr} {v:Value} (hb:Below w.heap.size w w') (h:w.cell? a=some v):w'.cell? a=some v:=(hb.cell (p:=a) (xmK h)).trans h
def cH (h:Hd):Array Value:=#[.int .u64 h.rf,.int .u64 h.rl,.int .u64 h.mf,.int .u64 h.ml,.int .u64 h.lf,.int .u64 h.ll,.int .u64 h.df,.int .u64 h.dl,.int .u64 h.ad,.int .u64 h.en,.int .u64 h.co,.bool h.cl,.int .u8 h.inn,.int .u8 h.out,.int .u8 h.knd,.int .i64 h.z0,.int .i64 h.z1,.int .i64 h.lo0,.int .i64 h.la0,.int .i64 h.lo1,.int .i64 h.la1,.int .i64 h.zm,.int .i64 h.lon,.int .i64 h.lat]
def HAt (w:World) (b:Nat) (T:TypeId) (h:Hd):Prop:=w.heap[b]?=some (.cells (cH h) T (0,0))
theorem HAt.lt {w:World} {b:Nat} {T:TypeId} {h:Hd} (H:HAt w b T h):b<w.heap.size:=by
 rcases Nat.lt_or_ge b w.heap.size with h'|h'
 ·exact h'
 ·unfold HAt at H;rw[Array.getElem?_eq_none h'] at H;cases H
theorem HAt.below {w w':World} {B b:Nat} {T:TypeId} {h:Hd} (H:HAt w b T h) (hb:Below B w w') (hB:b<B):HAt w' b T h:=(hb.block b hB).trans H
theorem HAt.later {w w':World} {b:Nat} {T:TypeId} {h:Hd} (H:HAt w b T h) (hb:Below w.heap.size w w'):HAt w' b T h:=H.below hb H.lt
theorem HAt.made (w:World) (h:Hd) (T:TypeId):HAt (w.alloc (.cells (cH h) T)) w.heap.size T h:=heap_alloc_new w _
theorem at8 {w:World} {b:Nat} {T:TypeId} {h:Hd} (H:HAt w b T h):w.cell? ⟨b,8,none⟩=some (.int .u64 h.ad):=xal H 8
theorem at9 {w:World} {b:Nat} {T:TypeId} {h:Hd} (H:HAt w b T h):w.cell? ⟨b,9,none⟩=some (.int .u64 h.en):=xal H 9
theorem xBZ {w:World} {b:Nat} {T:TypeId} {h:Hd} (H:HAt w b T h):w.cell? ⟨b,10,none⟩=some (.int .u64 h.co):=xal H 10
theorem xBH {w:World} {b:Nat} {T:TypeId} {h:Hd} (H:HAt w b T h):w.cell? ⟨b,11,none⟩=some (.bool h.cl):=xal H 11
theorem xBM {w:World} {b:Nat} {T:TypeId} {h:Hd} (H:HAt w b T h):w.cell? ⟨b,12,none⟩=some (.int .u8 h.inn):=xal H 12
theorem xBz {w:World} {b:Nat} {T:TypeId} {h:Hd} (H:HAt w b T h):w.cell? ⟨b,13,none⟩=some (.int .u8 h.out):=xal H 13
theorem xBG {w:World} {b:Nat} {T:TypeId} {h:Hd} (H:HAt w b T h):w.cell? ⟨b,14,none⟩=some (.int .u8 h.knd):=xal H 14
theorem xB5 {w:World} {b:Nat} {T:TypeId} {h:Hd} (H:HAt w b T h):w.cell? ⟨b,15,none⟩=some (.int .i64 h.z0):=xal H 15
theorem xB3 {w:World} {b:Nat} {T:TypeId} {h:Hd} (H:HAt w b T h):w.cell? ⟨b,16,none⟩=some (.int .i64 h.z1):=xal H 16
theorem xBW {w:World} {b:Nat} {T:TypeId} {h:Hd} (H:HAt w b T h):w.cell? ⟨b,17,none⟩=some (.int .i64 h.lo0):=xal H 17
theorem xBS {w:World} {b:Nat} {T:TypeId} {h:Hd} (H:HAt w b T h):w.cell? ⟨b,18,none⟩=some (.int .i64 h.la0):=xal H 18
theorem xB2 {w:World} {b:Nat} {T:TypeId} {h:Hd} (H:HAt w b T h):w.cell? ⟨b,19,none⟩=some (.int .i64 h.lo1):=xal H 19
theorem xBN {w:World} {b:Nat} {T:TypeId} {h:Hd} (H:HAt w b T h):w.cell? ⟨b,20,none⟩=some (.int .i64 h.la1):=xal H 20
theorem xB9 {w:World} {b:Nat} {T:TypeId} {h:Hd} (H:HAt w b T h):w.cell? ⟨b,21,none⟩=some (.int .i64 h.zm):=xal H 21
theorem xCa {w:World} {b:Nat} {T:TypeId} {h:Hd} (H:HAt w b T h):w.cell? ⟨b,22,none⟩=some (.int .i64 h.lon):=xal H 22
theorem xBR {w:World} {b:Nat} {T:TypeId} {h:Hd} (H:HAt w b T h):w.cell? ⟨b,23,none⟩=some (.int .i64 h.lat):=xal H 23
theorem xiu (h:Hd) (e:xdm h=false):ckH h=8:=by unfold ckH;rw[if_neg (by simp[e])]
theorem xk9 (h:Hd) (e:xdm h=true) (k:xe9 h=false):ckH h=14:=by unfold ckH;rw[if_pos e,if_neg (by simp[k])]
theorem xuX (h:Hd) (e:xdm h=true) (k:xe9 h=true) (z:xdb h=false):ckH h=8:=by unfold ckH;rw[if_pos e,if_pos k,if_neg (by simp[z])]
theorem xAd (h:Hd) (e:xdm h=true) (k:xe9 h=true) (z:xdb h=true) (d:xpd h=false):ckH h=8:=by unfold ckH;rw[if_pos e,if_pos k,if_pos z,if_neg (by simp[d])]
theorem xxq (h:Hd) (e:xdm h=true) (k:xe9 h=true) (z:xdb h=true) (d:xpd h=true):ckH h=0:=by unfold ckH;rw[if_pos e,if_pos k,if_pos z,if_pos d]
def xhK (h:Hd) (k:Nat):Prop:=(0<k→xhj h.rf h.rl=true)∧(1<k→xhj h.mf h.ml=true)∧(2<k→xhj h.lf h.ll=true)∧(3<k→xhj h.df h.dl=true)
theorem xtW (h:Hd) (s:xhK h 4):xdm h=true:=by
 unfold xdm
 rw[s.1 (by omega),s.2.1 (by omega),s.2.2.1 (by omega),s.2.2.2 (by omega)]
 rfl
theorem xts:Tryz.t122.size=2:=by kernel_rfl
theorem xkU (c0 c1 c2 c3 c4 c5 c6 c7:Value) (W:World) :
  Sem.run Tryz.prog (Instr.index 199 (.agg #[c0,c1,c2,c3,c4,c5,c6,c7]) (.int .i64 0)) W=.ok (.agg #[c0,c1]) W ∧
  Sem.run Tryz.prog (Instr.index 199 (.agg #[c0,c1,c2,c3,c4,c5,c6,c7]) (.int .i64 1)) W=.ok (.agg #[c2,c3]) W ∧
  Sem.run Tryz.prog (Instr.index 199 (.agg #[c0,c1,c2,c3,c4,c5,c6,c7]) (.int .i64 2)) W=.ok (.agg #[c4,c5]) W ∧
  Sem.run Tryz.prog (Instr.index 199 (.agg #[c0,c1,c2,c3,c4,c5,c6,c7]) (.int .i64 3)) W=.ok (.agg #[c6,c7]) W:=by
 refine⟨?_,?_,?_,?_⟩ <;> simp[Instr.index,run_underlying Tryz.underlying199,asIntOf,part,sizeOf,xts,go_sem]
theorem xaB:(Tryz.prog.info? 124).map (·.size)=some 24:=by kernel_rfl
theorem xhP (h:Hd) (w:World):Calls Tryz.prog 169 #[.agg (cH h)] w fun e w'=>e=.returned (.agg #[.int .u64 h.rf,.int .u64 h.rl,.int .u64 h.mf,.int .u64 h.ml,.int .u64 h.lf,.int .u64 h.ll,.int .u64 h.df,.int .u64 h.dl])∧Below w.heap.size w w':=xjC h w
theorem xyO (h:Hd) (w:World):Calls Tryz.prog 248 #[.agg (cH h)] w fun e w'=>e=.returned (.bool (xdb h))∧Below w.heap.size w w':=xkV h w
theorem xrD (h:Hd) (w:World):Calls Tryz.prog 249 #[.agg (cH h)] w fun e w'=>e=.returned (.bool (xpd h))∧Below w.heap.size w w':=xlT h w
theorem xba {ops:Array Oper} {rest:List Oper} {o:Oper} {a:Act} {w:World} {Q:Exit→Act→World→Prop} (hw:Region.wanted o (yielded ops a.tmps)=true) (x:Operand) (ho:o.op=.load 124 x)
  (g:Nat) (hx:a.eval x=.pointer (some ⟨g,0,none⟩)) (T:TypeId) (h:Hd) (H:HAt w g T h) (k:wpList Tryz.prog ops Q rest (a.put o.dst (.agg (cH h))) w):wpList Tryz.prog ops Q (o :: rest) a w :=
 BigFrame.wpList_want hw fun _ hK=>wp_load_row 124 x ho g hx T (cH h) (0,0) _ H Tryz.underlying124 rfl xaB (hK _ _ k)
set_option maxRecDepth 20000 in
theorem xgk (h:Hd) (w:World) (hm:xfX h):Calls Tryz.prog 168 #[.agg (cH h)] w fun e w'=>e=.returned (.int .i64 (ckH h))∧Below w.heap.size w w':=by
 have HM:=lH hm;clear hm
 have H0:=HAt.made w h 124
 go_enter Tryz.func168,Tryz.ntmps168
 go_wp2_with (first|(refine xba (by rfl) _ rfl _ rfl _ h (by assumption) ?_)|fail)
 refine(xhP h _).mono ?_
 rintro e w1 ⟨rfl,hb⟩
 have H1:=H0.below hb (by rw[World.size_alloc];omega)
 have hz1:w.heap.size<w1.heap.size:=by have:=hb.size;rw[World.size_alloc] at this;omega
 have u1:Below w.heap.size w w1:=Below.trans (by go_grown) (hb.mono (by rw[World.size_alloc];omega))
 have HH1:=lH H1
 have HU:=lH u1
 clear hb H0 H1 u1
 go_wp2_with fail
 go_loopw [7] (fun i wr=>∃ k:Nat,k≤4∧i=.int .i64 k∧Hid (xhK h k)∧Below w1.heap.size w1 wr) (fun i _=>4 - (intOf i).toNat)
 case atStart=>exact⟨0,by omega,rfl,lH ⟨by omega,by omega,by omega,by omega⟩,Below.refl _ _⟩
 case round =>
  obtain⟨k,hk,rfl,HS,hbw⟩:=hrel
  have hIX:=fun W=>xkU (.int .u64 h.rf) (.int .u64 h.rl) (.int .u64 h.mf) (.int .u64 h.ml) (.int .u64 h.lf) (.int .u64 h.ll) (.int .u64 h.df) (.int .u64 h.dl) W
  have hzr:=hbw.size
  have HHr:=lH (HH1.out.below hbw hz1)
  have HUr:=lH (HU.out.trans (hbw.mono (by omega)))
  rcases(by omega:k=0∨k=1∨k=2∨k=3∨k=4) with rfl|rfl|rfl|rfl|rfl
  ·have hI:=fun W=>(hIX W).1
   clear hIX
   have HF:=lH (fun W=>xgf h.rf h.rl W HM.out.1 HM.out.2.1)
   obtain⟨b,hs⟩:∃ b,xhj h.rf h.rl=b:=⟨_,rfl⟩
   rw[hs] at HF
   cases b
   ·have hc:Hid (8=ckH h):=lH (xiu h (by unfold xdm;simp only[hs];simp)).symm
    clear hs
    go_wp2_with fail
    refine(HF.out _).mono ?_
    rintro e w2 ⟨rfl,hb⟩
    have u2:Below w.heap.size w w2:=(HUr.out.alloc (by omega) _).trans (hb.mono (by rw[World.size_alloc];omega))
    clear hb
    go_wp2_with fail
    go_ret
    exact⟨xaH hc.out,u2⟩
   ·have HS2:Hid (xhK h 1):=lH ⟨fun _=>hs,fun hh=>by omega,fun hh=>by omega,fun hh=>by omega⟩
    clear hs
    go_wp2_with fail
    refine(HF.out _).mono ?_
    rintro e w2 ⟨rfl,hb⟩
    have u2:Below w1.heap.size w1 w2:=(hbw.alloc hzr _).trans (hb.mono (by rw[World.size_alloc];omega))
    clear hb
    go_wp2_with fail
    go_roundw
    case rel=>exact⟨1,by omega,by rfl,HS2,u2⟩
    case measure=>simp[intOf]
  ·have hI:=fun W=>(hIX W).2.1
   clear hIX
   have HF:=lH (fun W=>xgf h.mf h.ml W HM.out.2.2.1 HM.out.2.2.2.1)
   obtain⟨b,hs⟩:∃ b,xhj h.mf h.ml=b:=⟨_,rfl⟩
   rw[hs] at HF
   cases b
   ·have hc:Hid (8=ckH h):=lH (xiu h (by unfold xdm;simp only[hs,HS.out.1 (by omega)];simp)).symm
    clear hs
    go_wp2_with fail
    refine(HF.out _).mono ?_
    rintro e w2 ⟨rfl,hb⟩
    have u2:Below w.heap.size w w2:=(HUr.out.alloc (by omega) _).trans (hb.mono (by rw[World.size_alloc];omega))
    clear hb
    go_wp2_with fail
    go_ret
    exact⟨xaH hc.out,u2⟩
   ·have HS2:Hid (xhK h 2):=lH ⟨fun _=>HS.out.1 (by omega),fun hh=>hs,fun hh=>by omega,fun hh=>by omega⟩
    clear hs
    go_wp2_with fail
    refine(HF.out _).mono ?_
    rintro e w2 ⟨rfl,hb⟩
    have u2:Below w1.heap.size w1 w2:=(hbw.alloc hzr _).trans (hb.mono (by rw[World.size_alloc];omega))
    clear hb
    go_wp2_with fail
    go_roundw
    case rel=>exact⟨2,by omega,by rfl,HS2,u2⟩
    case measure=>simp[intOf]
  ·have hI:=fun W=>(hIX W).2.2.1
   clear hIX
   have HF:=lH (fun W=>xgf h.lf h.ll W HM.out.2.2.2.2.1 HM.out.2.2.2.2.2.1)
   obtain⟨b,hs⟩:∃ b,xhj h.lf h.ll=b:=⟨_,rfl⟩
   rw[hs] at HF
   cases b
   ·have hc:Hid (8=ckH h):=lH (xiu h (by unfold xdm;simp only[hs,HS.out.1 (by omega),HS.out.2.1 (by omega)];simp)).symm
    clear hs
    go_wp2_with fail
    refine(HF.out _).mono ?_
    rintro e w2 ⟨rfl,hb⟩
    have u2:Below w.heap.size w w2:=(HUr.out.alloc (by omega) _).trans (hb.mono (by rw[World.size_alloc];omega))
    clear hb
    go_wp2_with fail
    go_ret
    exact⟨xaH hc.out,u2⟩
   ·have HS2:Hid (xhK h 3):=lH ⟨fun _=>HS.out.1 (by omega),fun hh=>HS.out.2.1 (by omega),fun hh=>hs,fun hh=>by omega⟩
    clear hs
    go_wp2_with fail
    refine(HF.out _).mono ?_
    rintro e w2 ⟨rfl,hb⟩
    have u2:Below w1.heap.size w1 w2:=(hbw.alloc hzr _).trans (hb.mono (by rw[World.size_alloc];omega))
    clear hb
    go_wp2_with fail
    go_roundw
    case rel=>exact⟨3,by omega,by rfl,HS2,u2⟩
    case measure=>simp[intOf]
  ·have hI:=fun W=>(hIX W).2.2.2
   clear hIX
   have HF:=lH (fun W=>xgf h.df h.dl W HM.out.2.2.2.2.2.2.1 HM.out.2.2.2.2.2.2.2.1)
   obtain⟨b,hs⟩:∃ b,xhj h.df h.dl=b:=⟨_,rfl⟩
   rw[hs] at HF
   cases b
   ·have hc:Hid (8=ckH h):=lH (xiu h (by unfold xdm;simp only[hs,HS.out.1 (by omega),HS.out.2.1 (by omega),HS.out.2.2.1 (by omega)];simp)).symm
    clear hs
    go_wp2_with fail
    refine(HF.out _).mono ?_
    rintro e w2 ⟨rfl,hb⟩
    have u2:Below w.heap.size w w2:=(HUr.out.alloc (by omega) _).trans (hb.mono (by rw[World.size_alloc];omega))
    clear hb
    go_wp2_with fail
    go_ret
    exact⟨xaH hc.out,u2⟩
   ·have HS2:Hid (xhK h 4):=lH ⟨fun _=>HS.out.1 (by omega),fun hh=>HS.out.2.1 (by omega),fun hh=>HS.out.2.2.1 (by omega),fun hh=>hs⟩
    clear hs
    go_wp2_with fail
    refine(HF.out _).mono ?_
    rintro e w2 ⟨rfl,hb⟩
    have u2:Below w1.heap.size w1 w2:=(hbw.alloc hzr _).trans (hb.mono (by rw[World.size_alloc];omega))
    clear hb
    go_wp2_with fail
    go_roundw
    case rel=>exact⟨4,by omega,by rfl,HS2,u2⟩
    case measure=>simp[intOf]
  ·have hS:xdm h=true:=xtW h HS.out
   have c12:=xBM HHr.out
   have c13:=xBz HHr.out
   have c14:=xBG HHr.out
   clear hIX HM
   have hHr:=HHr.out
   by_cases k1:h.inn≤4
   ·have d1:decide (4<h.inn)=false:=by simp;omega
    by_cases k2:h.out≤4
    ·have d2:decide (4<h.out)=false:=by simp;omega
     by_cases k3:h.knd≤5
     ·have d3:decide (5<h.knd)=false:=by simp;omega
      have hK:xe9 h=true:=by unfold xe9;simp[k1,k2,k3]
      have HZ:=lH (fun W=>xyO h W)
      have HD:=lH (fun W=>xrD h W)
      clear k1 k2 k3
      obtain⟨b,hz⟩:∃ b,xdb h=b:=⟨_,rfl⟩
      rw[hz] at HZ
      cases b
      ·have hc:Hid (8=ckH h):=lH (xuX h hS hK hz).symm
       clear hS hK hz
       go_wp2_with (first|(refine xba (by rfl) _ rfl _ rfl _ h (by assumption) ?_)|fail)
       refine(HZ.out _).mono ?_
       rintro e w2 ⟨rfl,hb⟩
       have u2:=HUr.out.trans (hb.mono (by omega))
       clear hb
       go_wp2_with fail
       go_ret
       exact⟨xaH hc.out,u2⟩
      ·obtain⟨b,hg⟩:∃ b,xpd h=b:=⟨_,rfl⟩
       rw[hg] at HD
       cases b
       ·have hc:Hid (8=ckH h):=lH (xAd h hS hK hz hg).symm
        clear hS hK hz hg
        go_wp2_with (first|(refine xba (by rfl) _ rfl _ rfl _ h (by assumption) ?_)|fail)
        refine(HZ.out _).mono ?_
        rintro e w2 ⟨rfl,hb⟩
        have u2:=HUr.out.trans (hb.mono (by omega))
        have h2:=hHr.later hb
        have hz2:=hb.size
        clear hb hHr
        go_wp2_with (first|(refine xba (by rfl) _ rfl _ rfl _ h (by assumption) ?_)|fail)
        refine(HD.out _).mono ?_
        rintro e w3 ⟨rfl,hb⟩
        have u3:=u2.trans (hb.mono (by omega))
        clear hb
        go_wp2_with fail
        go_ret
        exact⟨xaH hc.out,u3⟩
       ·have hc:Hid (0=ckH h):=lH (xxq h hS hK hz hg).symm
        clear hS hK hz hg
        go_wp2_with (first|(refine xba (by rfl) _ rfl _ rfl _ h (by assumption) ?_)|fail)
        refine(HZ.out _).mono ?_
        rintro e w2 ⟨rfl,hb⟩
        have u2:=HUr.out.trans (hb.mono (by omega))
        have h2:=hHr.later hb
        have hz2:=hb.size
        clear hb hHr
        go_wp2_with (first|(refine xba (by rfl) _ rfl _ rfl _ h (by assumption) ?_)|fail)
        refine(HD.out _).mono ?_
        rintro e w3 ⟨rfl,hb⟩
        have u3:=u2.trans (hb.mono (by omega))
        clear hb
        go_wp2_with fail
        go_ret
        exact⟨xaH hc.out,u3⟩
     ·have d3:decide (5<h.knd)=true:=by simp;omega
      have hc:Hid (14=ckH h):=lH (xk9 h hS (by unfold xe9;simp[k3])).symm
      clear hS k1 k2 k3
      go_wp2_with fail
      go_ret
      exact⟨xaH hc.out,HUr.out⟩
    ·have d2:decide (4<h.out)=true:=by simp;omega
     have hc:Hid (14=ckH h):=lH (xk9 h hS (by unfold xe9;simp[k2])).symm
     clear hS k1 k2
     go_wp2_with fail
     go_ret
     exact⟨xaH hc.out,HUr.out⟩
   ·have d1:decide (4<h.inn)=true:=by simp;omega
    have hc:Hid (14=ckH h):=lH (xk9 h hS (by unfold xe9;simp[k1])).symm
    clear hS k1
    go_wp2_with fail
    go_ret
    exact⟨xaH hc.out,HUr.out⟩
end Go.Proofs.YtjinnigjfopbcaaGreatDoor
