/- cMH cMK cYa. -/
import Derived.Test.YtjkgkmmkehnggaaGreatDoorYs
import Derived.Test.YtjkgkmmkehnggaaGreatDoorYb4
namespace Go.Proofs.YtjkgkmmkehnggaaGreatDoor
set_option linter.unusedVariables false
set_option linter.unusedSimpArgs false
def leH:Nat→Int→List Int
 | 0,_=>[]
 | n+1,x=>x % 256 :: leH n (x / 256)
def xlM:List Int→Int
 | []=>0
 | c :: l=>c+256*xlM l
def xlP:Nat→Int
 | 0=>1
 | n+1=>256*xlP n
theorem xvM (n:Nat):1≤xlP n:=by
 induction n with
 | zero=>simp[xlP]
 | succ n ih=>simp only[xlP];omega
def xwN (l:List Int):Prop:=∀ c ∈ l,0≤c∧c<256
theorem xit (n:Nat) (x:Int):(leH n x).length=n:=by
 induction n generalizing x with
 | zero=>rfl
 | succ n ih=>simp[leH,ih]
theorem xt6 (n:Nat) (x:Int):xwN (leH n x):=by
 induction n generalizing x with
 | zero=>intro c hc;simp[leH] at hc
 | succ n ih =>
  intro c hc
  rcases List.mem_cons.1 hc with rfl|hc
  ·omega
  ·exact ih _ c hc
theorem xzm (n:Nat) (x:Int) (h0:0≤x) (h1:x<xlP n):xlM (leH n x)=x:=by
 induction n generalizing x with
 | zero=>simp only[xlP] at h1;simp only[leH,xlM];omega
 | succ n ih =>
  simp only[xlP] at h1
  have hp:=xvM n
  rw[leH,xlM,ih (x / 256) (by omega) (by omega)]
  omega
theorem xtv (l:List Int) (h:xwN l):0≤xlM l∧xlM l<xlP l.length:=by
 induction l with
 | nil=>simp[xlM,xlP]
 | cons c l ih =>
  have hc:=h c List.mem_cons_self
  have:=ih (fun d hd=>h d (List.mem_cons_of_mem _ hd))
  simp only[xlM,List.length_cons,xlP]
  omega
def xgY:List Nat→List Int→List Int
 | w :: ws,x :: xs=>leH w x++xgY ws xs
 | _,_=>[]
def xh2:List Nat→List Int→List Int
 | [],_=>[]
 | w :: ws,l=>xlM (l.take w) :: xh2 ws (l.drop w)
def xAw:List Nat→Nat
 | []=>0
 | w :: ws=>w+xAw ws
def xle:List Nat→List Int→Prop
 | [],[]=>True
 | w :: ws,x :: xs=>(0≤x∧x<xlP w)∧xle ws xs
 | _,_=>False
theorem xtl (ws:List Nat) (xs:List Int) (h:xle ws xs):(xgY ws xs).length=xAw ws:=by
 induction ws generalizing xs with
 | nil=>cases xs <;> rfl
 | cons w ws ih =>
  cases xs with
  | nil=>exact h.elim
  | cons x xs=>rw[xgY,List.length_append,xit,ih xs h.2,xAw]
theorem xov (ws:List Nat) (xs:List Int):xwN (xgY ws xs):=by
 induction ws generalizing xs with
 | nil=>intro c hc;simp[xgY] at hc
 | cons w ws ih =>
  cases xs with
  | nil=>intro c hc;simp[xgY] at hc
  | cons x xs =>
   intro c hc
   rcases List.mem_append.1 hc with hc|hc
   ·exact xt6 w x c hc
   ·exact ih xs c hc
theorem xpR (ws:List Nat) (xs r:List Int) (h:xle ws xs):xh2 ws (xgY ws xs++r)=xs:=by
 induction ws generalizing xs with
 | nil =>
  cases xs with
  | nil=>rfl
  | cons x xs=>exact h.elim
 | cons w ws ih =>
  cases xs with
  | nil=>exact h.elim
  | cons x xs =>
   have hl:=xit w x
   rw[xgY,xh2,List.append_assoc,List.take_left' hl,List.drop_left' hl,xzm w x h.1.1 h.1.2,ih xs h.2]
theorem xqK (ws:List Nat) (l:List Int) (hl:xwN l) (h:xAw ws≤l.length):xle ws (xh2 ws l):=by
 induction ws generalizing l with
 | nil=>exact trivial
 | cons w ws ih =>
  simp only[xAw] at h
  have hb:=xtv (l.take w) (fun c hc=>hl c (List.mem_of_mem_take hc))
  rw[List.length_take,Nat.min_eq_left (by omega)] at hb
  exact⟨hb,ih (l.drop w) (fun c hc=>hl c (List.mem_of_mem_drop hc)) (by rw[List.length_drop];omega)⟩
structure Hd where
 rf:Int
 rl:Int
 mf:Int
 ml:Int
 lf:Int
 ll:Int
 df:Int
 dl:Int
 ad:Int
 en:Int
 co:Int
 cl:Bool
 inn:Int
 out:Int
 knd:Int
 z0:Int
 z1:Int
 lo0:Int
 la0:Int
 lo1:Int
 la1:Int
 zm:Int
 lon:Int
 lat:Int
theorem Hd.eq_iff (a b:Hd):a=b↔(a.rf=b.rf∧a.rl=b.rl∧a.mf=b.mf∧a.ml=b.ml∧a.lf=b.lf∧a.ll=b.ll∧a.df=b.df∧a.dl=b.dl∧a.ad=b.ad∧a.en=b.en∧a.co=b.co∧a.cl=b.cl∧a.inn=b.inn∧a.out=b.out∧a.knd=b.knd∧a.z0=b.z0∧a.z1=b.z1∧a.lo0=b.lo0∧a.la0=b.la0∧a.lo1=b.lo1∧a.la1=b.la1∧a.zm=b.zm∧a.lon=b.lon∧a.lat=b.lat):=by
 constructor
 ·rintro rfl;simp
 ·cases a;cases b;simp only;rintro⟨rfl,rfl,rfl,rfl,rfl,rfl,rfl,rfl,rfl,rfl,rfl,rfl,rfl,rfl,rfl,rfl,rfl,rfl,rfl,rfl,rfl,rfl,rfl,rfl⟩;rfl
def xae:Hd:=⟨0,0,0,0,0,0,0,0,0,0,0,false,0,0,0,0,0,0,0,0,0,0,0,0⟩
def xhf (f l:Int):Bool:=decide (f≤1099511627776) && (decide (l≤1099511627776) && decide (f+l≤1099511627776))
def xfE (h:Hd):Bool:=decide (h.inn≤4) && (decide (h.out≤4) && decide (h.knd≤5))
def xdd (h:Hd):Bool:=(decide (0≤h.z0) && decide (h.z0≤h.z1)) && (decide (h.z1≤26) && (decide (0≤h.zm) && decide (h.zm≤26)))
def xp2 (h:Hd):Bool:=(decide (-1800000000≤h.lo0) && decide (h.lo0≤h.lo1)) && (decide (h.lo1≤1800000000) && ((decide (-900000000≤h.la0) && decide (h.la0≤h.la1)) && (decide (h.la1≤900000000) && ((decide (-1800000000≤h.lon) && decide (h.lon≤1800000000)) && (decide (-900000000≤h.lat) && decide (h.lat≤900000000))))))
def xcG (h:Hd):Bool:=xhf h.rf h.rl && (xhf h.mf h.ml && (xhf h.lf h.ll && xhf h.df h.dl))
def ckH (h:Hd):Int:=if xcG h=true then (if xfE h=true then (if xdd h=true then (if xp2 h=true then 0 else 8) else 8) else 14) else 8
def U64 (x:Int):Prop:=0≤x∧x≤18446744073709551615
def U8 (x:Int):Prop:=0≤x∧x≤255
def xeR (h:Hd):Prop:=U64 h.rf∧U64 h.rl∧U64 h.mf∧U64 h.ml∧U64 h.lf∧U64 h.ll∧U64 h.df∧U64 h.dl∧U64 h.ad∧U64 h.en∧U64 h.co∧U8 h.inn∧U8 h.out∧U8 h.knd
def xtI (x:Int):Int:=x % 4294967296
def sg (x:Int):Int:=if x<2147483648 then x else x - 4294967296
def xjG (b:Bool):Int:=if b then 1 else 0
def xtF:List Nat:=[8,8,8,8,8,8,8,8,8,8,8,1,1,1,1,1,1,4,4,4,4,1,4,4]
def xl8 (h:Hd):List Int:=[h.rf,h.rl,h.mf,h.ml,h.lf,h.ll,h.df,h.dl,h.ad,h.en,h.co,xjG h.cl,h.inn,h.out,h.knd,h.z0,h.z1,xtI h.lo0,xtI h.la0,xtI h.lo1,xtI h.la1,h.zm,xtI h.lon,xtI h.lat]
def xhX (l:List Int):Hd:=⟨l.getD 0 0,l.getD 1 0,l.getD 2 0,l.getD 3 0,l.getD 4 0,l.getD 5 0,l.getD 6 0,l.getD 7 0,l.getD 8 0,l.getD 9 0,l.getD 10 0,l.getD 11 0 == 1,l.getD 12 0,l.getD 13 0,l.getD 14 0,l.getD 15 0,l.getD 16 0,sg (l.getD 17 0),sg (l.getD 18 0),sg (l.getD 19 0),sg (l.getD 20 0),l.getD 21 0,sg (l.getD 22 0),sg (l.getD 23 0)⟩
theorem xxn:xlP 8=18446744073709551616:=rfl
theorem xrP:xlP 4=4294967296:=rfl
theorem xns:xlP 1=256:=rfl
theorem xlU (h:Hd) (hc:ckH h=0):xcG h=true∧xfE h=true∧xdd h=true∧xp2 h=true:=by
 unfold ckH at hc
 split at hc
 ·split at hc
  ·split at hc
   ·split at hc
    ·exact⟨by assumption,by assumption,by assumption,by assumption⟩
    ·omega
   ·omega
  ·omega
 ·omega
theorem xff (x:Int) (h0:-2147483648≤x) (h1:x<2147483648):sg (xtI x)=x:=by
 unfold sg xtI
 split <;> omega
theorem xnw (h:Hd) (hm:xeR h) (hc:ckH h=0):xle xtF (xl8 h):=by
 obtain⟨c1,c2,c3,c4⟩:=xlU h hc
 simp only[xcG,xhf,xfE,xdd,xp2,Bool.and_eq_true,decide_eq_true_eq] at c1 c2 c3 c4
 unfold xeR U64 U8 at hm
 have hcl:0≤xjG h.cl∧xjG h.cl<256:=by unfold xjG;split <;> omega
 simp only[xtF,xl8,xle,xxn,xrP,xns,xtI,and_true]
 refine⟨?_,?_,?_,?_,?_,?_,?_,?_,?_,?_,?_,hcl,?_,?_,?_,?_,?_,?_,?_,?_,?_,?_,?_,?_⟩ <;> omega
theorem xyY (h:Hd) (hc:ckH h=0):xhX (xl8 h)=h:=by
 obtain⟨c1,c2,c3,c4⟩:=xlU h hc
 simp only[xp2,Bool.and_eq_true,decide_eq_true_eq] at c4
 have hcl:(xjG h.cl == 1)=h.cl:=by unfold xjG;cases h.cl <;> rfl
 rw[Hd.eq_iff]
 simp only[xhX,xl8,List.getD_cons_zero,List.getD_cons_succ]
 refine⟨trivial,trivial,trivial,trivial,trivial,trivial,trivial,trivial,trivial,trivial,trivial,hcl,trivial,trivial,trivial,trivial,trivial,xff _ (by omega) (by omega),xff _ (by omega) (by omega),xff _ (by omega) (by omega),xff _ (by omega) (by omega),trivial,xff _ (by omega) (by omega),xff _ (by omega) (by omega)⟩
def mgH:List Int:=[80,77,84,105,108,101,115]
def xkd:List Int:=[80,77,84,105,108,101,115,3]
theorem xoB:xwN xkd:=by
 intro c hc
 simp only[xkd,List.mem_cons,List.not_mem_nil,or_false] at hc
 omega
def xbL (h:Hd):List Int:=xkd++xgY xtF (xl8 h)
def xg2 (h:Hd):List Int × Int:=if ckH h=0 then (xbL h,0) else ([],ckH h)
def xxj (l:List Int):Hd:=xhX (xh2 xtF (l.drop 8))
def xcB (l:List Int):Hd × Int :=
 if l.length<127 then (xae,3) else
 if l.take 7≠mgH then (xae,12) else
 if l.getD 7 0≠3 then (xae,13) else
 if 1<l.getD 96 0 then (xae,4) else
 if ckH (xxj l)=0 then (xxj l,0) else (xae,ckH (xxj l))
theorem xjU:xAw xtF=119:=rfl
theorem xeV (h:Hd) (hm:xeR h) (hc:ckH h=0):(xbL h).length=127:=by
 rw[xbL,List.length_append,xtl _ _ (xnw h hm hc),xjU];rfl
theorem xoT (h:Hd):xwN (xbL h):=by
 intro c hc
 rcases List.mem_append.1 hc with hc|hc
 ·exact xoB c hc
 ·exact xov _ _ c hc
theorem xvP (h:Hd) (r:List Int) (hm:xeR h) (hc:ckH h=0):xxj (xbL h++r)=h:=by
 rw[xxj,xbL,List.append_assoc,List.drop_left' (by rfl),xpR _ _ _ (xnw h hm hc),xyY h hc]
theorem xzy (h:Hd) (r:List Int):(xbL h++r).getD 96 0=xjG h.cl:=by
 have hcl:(xjG h.cl) % 256=xjG h.cl:=by unfold xjG;cases h.cl <;> rfl
 simp only[xbL,xkd,xtF,xl8,xgY,leH,List.cons_append,List.nil_append,List.getD_cons_succ,List.getD_cons_zero,hcl]
theorem xx0 (h:Hd) (r:List Int) (hm:xeR h) (hc:ckH h=0):xcB (xbL h++r)=(h,0):=by
 have hl:=xeV h hm hc
 have h7:(xbL h++r).take 7=mgH:=by simp only[xbL,xkd,mgH,List.cons_append,List.take_succ_cons,List.take_zero]
 have h3:(xbL h++r).getD 7 0=3:=by simp only[xbL,xkd,List.cons_append,List.getD_cons_succ,List.getD_cons_zero]
 have hcl:¬ 1<(xbL h++r).getD 96 0:=by rw[xzy];unfold xjG;cases h.cl <;> simp
 unfold xcB
 rw[if_neg (by rw[List.length_append];omega),if_neg (by rw[h7];exact fun f=>f rfl),if_neg (by rw[h3];exact fun f=>f rfl),if_neg hcl,xvP h r hm hc,if_pos hc]
theorem xB7 (xs:List Int) (h:xle xtF xs):xeR (xhX xs):=by
 rcases xs with _|⟨x0,xs⟩
 ·exact h.elim
 obtain⟨h0,h⟩:=h
 rcases xs with _|⟨x1,xs⟩
 ·exact h.elim
 obtain⟨h1,h⟩:=h
 rcases xs with _|⟨x2,xs⟩
 ·exact h.elim
 obtain⟨h2,h⟩:=h
 rcases xs with _|⟨x3,xs⟩
 ·exact h.elim
 obtain⟨h3,h⟩:=h
 rcases xs with _|⟨x4,xs⟩
 ·exact h.elim
 obtain⟨h4,h⟩:=h
 rcases xs with _|⟨x5,xs⟩
 ·exact h.elim
 obtain⟨h5,h⟩:=h
 rcases xs with _|⟨x6,xs⟩
 ·exact h.elim
 obtain⟨h6,h⟩:=h
 rcases xs with _|⟨x7,xs⟩
 ·exact h.elim
 obtain⟨h7,h⟩:=h
 rcases xs with _|⟨x8,xs⟩
 ·exact h.elim
 obtain⟨h8,h⟩:=h
 rcases xs with _|⟨x9,xs⟩
 ·exact h.elim
 obtain⟨h9,h⟩:=h
 rcases xs with _|⟨x10,xs⟩
 ·exact h.elim
 obtain⟨h10,h⟩:=h
 rcases xs with _|⟨x11,xs⟩
 ·exact h.elim
 obtain⟨h11,h⟩:=h
 rcases xs with _|⟨x12,xs⟩
 ·exact h.elim
 obtain⟨h12,h⟩:=h
 rcases xs with _|⟨x13,xs⟩
 ·exact h.elim
 obtain⟨h13,h⟩:=h
 rcases xs with _|⟨x14,xs⟩
 ·exact h.elim
 obtain⟨h14,h⟩:=h
 rcases xs with _|⟨x15,xs⟩
 ·exact h.elim
 obtain⟨h15,h⟩:=h
 rcases xs with _|⟨x16,xs⟩
 ·exact h.elim
 obtain⟨h16,h⟩:=h
 rcases xs with _|⟨x17,xs⟩
 ·exact h.elim
 obtain⟨h17,h⟩:=h
 rcases xs with _|⟨x18,xs⟩
 ·exact h.elim
 obtain⟨h18,h⟩:=h
 rcases xs with _|⟨x19,xs⟩
 ·exact h.elim
 obtain⟨h19,h⟩:=h
 rcases xs with _|⟨x20,xs⟩
 ·exact h.elim
 obtain⟨h20,h⟩:=h
 rcases xs with _|⟨x21,xs⟩
 ·exact h.elim
 obtain⟨h21,h⟩:=h
 rcases xs with _|⟨x22,xs⟩
 ·exact h.elim
 obtain⟨h22,h⟩:=h
 rcases xs with _|⟨x23,xs⟩
 ·exact h.elim
 obtain⟨h23,h⟩:=h
 simp only[xxn,xrP,xns] at h0 h1 h2 h3 h4 h5 h6 h7 h8 h9 h10 h11 h12 h13 h14 h15 h16 h17 h18 h19 h20 h21 h22 h23
 simp only[xeR,U64,U8,xhX,List.getD_cons_zero,List.getD_cons_succ]
 omega
theorem xyB (l:List Int) (n:Nat):xlM ((l.drop n).take 1)=l.getD n 0:=by
 induction n generalizing l with
 | zero =>
  cases l with
  | nil=>rfl
  | cons c l=>simp[xlM]
 | succ n ih =>
  cases l with
  | nil=>simp[xlM]
  | cons c l=>rw[List.drop_succ_cons,ih,List.getD_cons_succ]
def xfW (h:Hd) (n:Int):Int :=
 if ckH h≠0 then ckH h else
 if h.rf<127 then 10 else
 if h.mf<h.rf+h.rl then 10 else
 if h.lf<h.mf+h.ml then 10 else
 if h.df<h.lf+h.ll then 10 else
 if n<h.df+h.dl then 8 else 0
open Go.RowKit
set_option maxRecDepth 20000
theorem xvQ (b:Bool) (w:World):Calls Tryz.prog 156 #[.bool b] w fun e w'=>e=.returned (.int .u8 (xjG b))∧w=w':=by
 cases b
 ·go_enter Tryz.func156,Tryz.ntmps156
  go_wp2
  go_ret
  exact⟨rfl,rfl⟩
 ·go_enter Tryz.func156,Tryz.ntmps156
  go_wp2
  go_ret
  exact⟨rfl,rfl⟩
theorem xmc (f l:Int) (w:World):Calls Tryz.prog 101 #[.agg #[.int .u64 f,.int .u64 l]] w fun e w'=>e=.returned (.int .u64 (IntKind.u64.wrap (f+l)))∧Below w.heap.size w w':=by
 go_enter Tryz.func101,Tryz.ntmps101
 go_wp2
 go_ret
 exact⟨rfl,(Below.refl _ _).alloc (Nat.le_refl _) _⟩
theorem xcy {a b:Bool} (h:a=b):Ending.returned (.bool a)=.returned (.bool b):=by rw[h]
theorem xf6 (f l:Int) (w:World) (hf:U64 f) (hl:U64 l):Calls Tryz.prog 177 #[.agg #[.int .u64 f,.int .u64 l]] w fun e w'=>e=.returned (.bool (xhf f l))∧Below w.heap.size w w':=by
 unfold U64 at hf hl
 by_cases h:f≤1099511627776
 ·have hd:decide (f≤1099511627776)=true:=by simpa using h
  have hw:IntKind.u64.wrap (1099511627776 - f)=1099511627776 - f:=by rw[wrap_u64];omega
  have he:Hid (decide (l≤1099511627776 - f)=xhf f l):=by
   apply lH
   unfold xhf
   rw[hd,Bool.true_and,Bool.eq_iff_iff,Bool.and_eq_true,decide_eq_true_eq,decide_eq_true_eq,decide_eq_true_eq]
   omega
  clear h hf hl
  go_enter Tryz.func177,Tryz.ntmps177
  go_wp2
  go_ret
  exact⟨xcy he.out,(Below.refl _ _).alloc (Nat.le_refl _) _⟩
 ·have hd:decide (f≤1099511627776)=false:=by simpa using h
  have he:Hid (false=xhf f l):=by
   apply lH
   unfold xhf
   rw[hd,Bool.false_and]
  clear h hf hl
  go_enter Tryz.func177,Tryz.ntmps177
  go_wp2
  go_ret
  exact⟨xcy he.out,(Below.refl _ _).alloc (Nat.le_refl _) _⟩
theorem xr0 (x:Int) (w:World):Calls Tryz.prog 304 #[.int .i64 x] w fun e w'=>e=.returned (.bool false)∧w=w':=by
 have h:(x != x)=false:=by simp
 go_enter Tryz.func304,Tryz.ntmps304
 go_wp2
 go_ret
 exact⟨rfl,rfl⟩
theorem xvF (x y:Int) (w:World):Calls Tryz.prog 281 #[.int .i64 x,.int .i64 y] w fun e w'=>e=.returned (.bool (decide (x<y)))∧w=w':=by
 go_enter Tryz.func281,Tryz.ntmps281
 go_wp2_with (go_at_call 304;refine(xr0 _ _).mono ?_;rintro e w' ⟨rfl,rfl⟩)
 go_ret
 exact⟨rfl,rfl⟩
theorem xxy (x y:Int) (w:World):Calls Tryz.prog 281 #[.int .i64 x,.int .i64 y] w fun e w'=>e=.returned (.bool (decide (x<y)))∧w'=w:=(xvF x y w).mono fun _ _ ⟨h,g⟩=>⟨h,g.symm⟩
def xgj (k:IntKind) (w:World) (v:Value) (l:List Int):Prop :=
 ∃ b cap,v=.slice (some ⟨b,0,none⟩) l.length cap∧l.length≤cap∧cap≤maxLen∧b<w.heap.size∧∀ i,i<l.length→w.cell? ⟨b,i,none⟩=some (.int k (l.getD i 0))
def xvp (l:List Int):Prop:=∀ i,i+1<l.length→l.getD i 0≤l.getD (i+1) 0
theorem xa9 {B:Nat} {w w':World} (h:Below B w w') (n:Nat):Below B w (w'.drewN n):=h.trans ⟨rfl,rfl,rfl,Nat.le_refl _,fun _ _=>rfl⟩
theorem xox (v:Value) (l:List Int) (w:World) (hv:xgj .i64 w v l):Calls Tryz.prog 252 #[v] w fun e w'=>∃ b,e=.returned (.bool b)∧(b=true↔xvp l)∧Below w.heap.size w w':=by
 obtain⟨b,cap,rfl,hc1,hc2,hb,hcell⟩:=hv
 have HC:=lH hcell;clear hcell
 have hml:l.length≤9223372036854775807:=by unfold maxLen at hc2;omega
 have hw:IntKind.i64.wrap ((l.length:Int) - 1)=(l.length:Int) - 1:=by rw[IntKind.wrap_i64] <;> omega
 go_enter Tryz.func252,Tryz.ntmps252
 go_wp2_with fail
 go_loopw [3] (fun i wr=>∃ k:Nat,k≤l.length∧i=.int .i64 ((k:Int) - 1)∧(∀ j,k≤j+1→j+1<l.length→l.getD j 0≤l.getD (j+1) 0)∧Below w.heap.size w wr) (fun i _=>(intOf i+1).toNat)
 case atStart=>exact⟨l.length,Nat.le_refl _,rfl,fun j h1 h2=>by omega,Below.refl _ _⟩
 case round =>
  obtain⟨k,hk,rfl,hr,hbw⟩:=hrel
  have HR:=lH hr;clear hr
  by_cases h2:2≤k
  ·obtain⟨j,rfl⟩:∃ j,k=j+2:=⟨k - 2,by omega⟩
   have e1:((j+2:Nat):Int) - 1=((j+1:Nat):Int):=by omega
   rw[e1]
   clear e1
   have c1:=(hbw.cell (p:=⟨b,j+1,none⟩) hb).trans (HC.out (j+1) (by omega))
   have c0:=(hbw.cell (p:=⟨b,j,none⟩) hb).trans (HC.out j (by omega))
   obtain⟨y,hy⟩:∃ y,l.getD (j+1) 0=y:=⟨_,rfl⟩
   obtain⟨x,hx⟩:∃ x,l.getD j 0=x:=⟨_,rfl⟩
   rw[hy] at c1
   rw[hx] at c0
   have HX:=lH hx
   have HY:=lH hy
   clear hx hy
   obtain⟨i,hi⟩:∃ i,j+1=i:=⟨_,rfl⟩
   rw[hi] at c1 ⊢
   have hgt:decide (0<(i:Int))=true:=by simp;omega
   have hsub:(i:Int) - 1=(j:Int):=by omega
   have hwj:IntKind.i64.wrap (j:Int)=(j:Int):=by rw[IntKind.wrap_i64] <;> omega
   have hi1:i<l.length:=by omega
   have HI:=lH hi;clear hi
   have hj1:j<l.length:=by omega
   by_cases hlt:y<x
   ·have hd:decide (y<x)=true:=by simpa using hlt
    have HB:=lH hbw;clear hbw
    go_wp2_with fail
    go_quiet (first|(go_at_call 281;(with_reducible refine Calls.quiet_of_same (xxy _ _ _)))|fail)
    go_wp2_with fail
    go_ret
    refine⟨false,rfl,⟨fun h=>(by cases h),fun h=>?_⟩,xa9 HB.out nq⟩
    have hle:=h j (by rw[HI.out];exact hi1)
    rw[HX.out,HY.out] at hle
    omega
   ·have hd:decide (y<x)=false:=by simpa using hlt
    go_wp2_with fail
    go_quiet (first|(go_at_call 281;(with_reducible refine Calls.quiet_of_same (xxy _ _ _)))|fail)
    go_wp2_with fail
    go_roundw
    case rel =>
     refine⟨i,by omega,by congr 1;omega,fun m h1 h3=>?_,xa9 hbw nq⟩
     rcases Nat.lt_or_ge m i with h4|h4
     ·obtain rfl:m=j:=by have:=HI.out;omega
      rw[HX.out,HY.out]
      exact hlt
     ·exact HR.out m (by have:=HI.out;omega) h3
    case measure=>simp[intOf];omega
  ·go_wp2_with fail
   go_ret
   exact⟨true,rfl,⟨fun _ m hm=>HR.out m (by omega) hm,fun _=>rfl⟩,hbw⟩
theorem xkO (v:Value) (l:List Int) (w:World) (hv:xgj .i64 w v l):Calls Tryz.prog 222 #[v] w fun e w'=>∃ b,e=.returned (.bool b)∧(b=true↔xvp l)∧Below w.heap.size w w':=by
 have HV:=lH hv;clear hv
 go_enter Tryz.func222,Tryz.ntmps222
 go_wp2_with fail
 refine(xox v l w HV.out).mono ?_
 rintro e w1 ⟨b,rfl,hb,hbw⟩
 go_wp2_with fail
 go_ret
 exact⟨b,rfl,hb,hbw⟩
theorem xa6 (k:IntKind) (w:World) (l:List Int) (T:TypeId) (n:Nat) (f:Nat × Nat) (hn:n=w.heap.size) (h:l.length≤maxLen):xgj k (w.alloc (.cells (l.map (Value.int k)).toArray T f)) (.slice (some ⟨n,0,none⟩) l.length l.length) l:=by
 subst hn
 refine⟨_,_,rfl,Nat.le_refl _,h,by rw[World.size_alloc];omega,fun i hi=>?_⟩
 rw[World.cell?_alloc_mark]
 simp[hi]
set_option maxRecDepth 20000 in
theorem xkj (h:Hd) (w:World):Calls Tryz.prog 100 #[.agg #[.int .u64 h.rf,.int .u64 h.rl,.int .u64 h.mf,.int .u64 h.ml,.int .u64 h.lf,.int .u64 h.ll,.int .u64 h.df,.int .u64 h.dl,.int .u64 h.ad,.int .u64 h.en,.int .u64 h.co,.bool h.cl,.int .u8 h.inn,.int .u8 h.out,.int .u8 h.knd,.int .i64 h.z0,.int .i64 h.z1,.int .i64 h.lo0,.int .i64 h.la0,.int .i64 h.lo1,.int .i64 h.la1,.int .i64 h.zm,.int .i64 h.lon,.int .i64 h.lat]] w fun e w'=>e=.returned (.agg #[.int .u64 h.rf,.int .u64 h.rl,.int .u64 h.mf,.int .u64 h.ml,.int .u64 h.lf,.int .u64 h.ll,.int .u64 h.df,.int .u64 h.dl])∧Below w.heap.size w w':=by
 go_enter Tryz.func100,Tryz.ntmps100
 go_wp2_with fail
 refine bodyPost_ret (v:=.agg #[.int .u64 h.rf,.int .u64 h.rl,.int .u64 h.mf,.int .u64 h.ml,.int .u64 h.lf,.int .u64 h.ll,.int .u64 h.df,.int .u64 h.dl]) (by simp[results,Tryz.results100,go_sem]) rfl ⟨rfl,by go_grown⟩
theorem xCk (a b c:Int):xvp [a,b,c]↔a≤b∧b≤c:=by
 constructor
 ·intro h
  exact⟨h 0 (by simp),h 1 (by simp)⟩
 ·rintro⟨h0,h1⟩ i hi
  simp only[List.length_cons,List.length_nil] at hi
  rcases(by omega:i=0∨i=1) with rfl|rfl
  ·exact h0
  ·exact h1
theorem xCW (a b c d:Int):xvp [a,b,c,d]↔a≤b∧b≤c∧c≤d:=by
 constructor
 ·intro h
  exact⟨h 0 (by simp),h 1 (by simp),h 2 (by simp)⟩
 ·rintro⟨h0,h1,h2⟩ i hi
  simp only[List.length_cons,List.length_nil] at hi
  rcases(by omega:i=0∨i=1∨i=2) with rfl|rfl|rfl
  ·exact h0
  ·exact h1
  ·exact h2
theorem xtf (a b c d:Int) (w:World) (n:Nat) (hn:n=w.heap.size):Calls Tryz.prog 222 #[.slice (some ⟨n,0,none⟩) 4 4] (w.alloc (.cells #[.int .i64 a,.int .i64 b,.int .i64 c,.int .i64 d] 3)) fun e w'=>e=.returned (.bool (decide (a≤b) && (decide (b≤c) && decide (c≤d))))∧Below w.heap.size w w':=by
 refine(xkO _ [a,b,c,d] _ (xa6 .i64 w [a,b,c,d] 3 n (0,0) hn (by simp[maxLen]))).mono ?_
 rintro e w' ⟨r,rfl,hr,hb⟩
 refine⟨?_,((Below.refl _ _).alloc (Nat.le_refl _) _).trans (hb.mono (by rw[World.size_alloc];omega))⟩
 congr 2
 rw[xCW] at hr
 rw[Bool.eq_iff_iff,hr]
 simp
theorem xsP (a b c:Int) (w:World) (n:Nat) (hn:n=w.heap.size):Calls Tryz.prog 222 #[.slice (some ⟨n,0,none⟩) 3 3] (w.alloc (.cells #[.int .i64 a,.int .i64 b,.int .i64 c] 3)) fun e w'=>e=.returned (.bool (decide (a≤b) && decide (b≤c)))∧Below w.heap.size w w':=by
 refine(xkO _ [a,b,c] _ (xa6 .i64 w [a,b,c] 3 n (0,0) hn (by simp[maxLen]))).mono ?_
 rintro e w' ⟨r,rfl,hr,hb⟩
 refine⟨?_,((Below.refl _ _).alloc (Nat.le_refl _) _).trans (hb.mono (by rw[World.size_alloc];omega))⟩
 congr 2
 rw[xCk] at hr
 rw[Bool.eq_iff_iff,hr]
 simp
set_option maxRecDepth 20000 in
theorem xly (h:Hd) (w:World):Calls Tryz.prog 178 #[.agg #[.int .u64 h.rf,.int .u64 h.rl,.int .u64 h.mf,.int .u64 h.ml,.int .u64 h.lf,.int .u64 h.ll,.int .u64 h.df,.int .u64 h.dl,.int .u64 h.ad,.int .u64 h.en,.int .u64 h.co,.bool h.cl,.int .u8 h.inn,.int .u8 h.out,.int .u8 h.knd,.int .i64 h.z0,.int .i64 h.z1,.int .i64 h.lo0,.int .i64 h.la0,.int .i64 h.lo1,.int .i64 h.la1,.int .i64 h.zm,.int .i64 h.lon,.int .i64 h.lat]] w fun e w'=>e=.returned (.bool (xdd h))∧Below w.heap.size w w':=by
 obtain⟨b1,hb1⟩:∃ b,(decide (0≤h.z0) && (decide (h.z0≤h.z1) && decide (h.z1≤26)))=b:=⟨_,rfl⟩
 obtain⟨b2,hb2⟩:∃ b,(decide (0≤h.zm) && decide (h.zm≤26))=b:=⟨_,rfl⟩
 have he:Hid ((b1 && b2)=xdd h):=by
  apply lH
  unfold xdd
  rw[← hb1,← hb2]
  simp only[Bool.and_assoc]
 have R4:∀ W n,n=W.heap.size→Calls Tryz.prog 222 #[.slice (some ⟨n,0,none⟩) 4 4] (W.alloc (.cells #[.int .i64 0,.int .i64 h.z0,.int .i64 h.z1,.int .i64 26] 3)) fun e w'=>e=.returned (.bool b1)∧Below W.heap.size W w':=fun W n hn=>hb1 ▸ xtf 0 h.z0 h.z1 26 W n hn
 have R3:∀ W n,n=W.heap.size→Calls Tryz.prog 222 #[.slice (some ⟨n,0,none⟩) 3 3] (W.alloc (.cells #[.int .i64 0,.int .i64 h.zm,.int .i64 26] 3)) fun e w'=>e=.returned (.bool b2)∧Below W.heap.size W w':=fun W n hn=>hb2 ▸ xsP 0 h.zm 26 W n hn
 have H4:=lH R4
 have H3:=lH R3
 clear R4 R3 hb1 hb2
 cases b1
 ·go_enter Tryz.func178,Tryz.ntmps178
  go_wp2_with fail
  refine(H4.out _ _ (by simp)).mono ?_
  rintro e w1 ⟨rfl,hb⟩
  have hbw:Below w.heap.size w w1:=Below.trans (by go_grown) (hb.mono (by rw[World.size_alloc];omega))
  clear hb
  go_wp2_with fail
  go_ret
  exact⟨xcy he.out,hbw⟩
 ·go_enter Tryz.func178,Tryz.ntmps178
  go_wp2_with fail
  refine(H4.out _ _ (by simp)).mono ?_
  rintro e w1 ⟨rfl,hb⟩
  have hbw:Below w.heap.size w w1:=Below.trans (by go_grown) (hb.mono (by rw[World.size_alloc];omega))
  have c1:w1.cell? ⟨w.heap.size,21,none⟩=some (.int .i64 h.zm):=(hb.cell (p:=⟨w.heap.size,21,none⟩) (by simp)).trans (by simp[go_sem])
  clear hb
  go_wp2_with fail
  refine(H3.out _ _ (by simp)).mono ?_
  rintro e w2 ⟨rfl,hb⟩
  have hbw2:Below w.heap.size w w2:=hbw.trans (hb.mono hbw.size)
  clear hb hbw
  go_wp2_with fail
  go_ret
  exact⟨xcy he.out,hbw2⟩
set_option maxRecDepth 20000 in
theorem xlx (h:Hd) (w:World):Calls Tryz.prog 179 #[.agg #[.int .u64 h.rf,.int .u64 h.rl,.int .u64 h.mf,.int .u64 h.ml,.int .u64 h.lf,.int .u64 h.ll,.int .u64 h.df,.int .u64 h.dl,.int .u64 h.ad,.int .u64 h.en,.int .u64 h.co,.bool h.cl,.int .u8 h.inn,.int .u8 h.out,.int .u8 h.knd,.int .i64 h.z0,.int .i64 h.z1,.int .i64 h.lo0,.int .i64 h.la0,.int .i64 h.lo1,.int .i64 h.la1,.int .i64 h.zm,.int .i64 h.lon,.int .i64 h.lat]] w fun e w'=>e=.returned (.bool (xp2 h))∧Below w.heap.size w w':=by
 obtain⟨b0,hb0⟩:∃ b,(decide (-1800000000≤h.lo0) && (decide (h.lo0≤h.lo1) && decide (h.lo1≤1800000000)))=b:=⟨_,rfl⟩
 obtain⟨b1,hb1⟩:∃ b,(decide (-900000000≤h.la0) && (decide (h.la0≤h.la1) && decide (h.la1≤900000000)))=b:=⟨_,rfl⟩
 obtain⟨b2,hb2⟩:∃ b,(decide (-1800000000≤h.lon) && decide (h.lon≤1800000000))=b:=⟨_,rfl⟩
 obtain⟨b3,hb3⟩:∃ b,(decide (-900000000≤h.lat) && decide (h.lat≤900000000))=b:=⟨_,rfl⟩
 have he:Hid ((b0 && (b1 && (b2 && b3)))=xp2 h):=by
  apply lH
  unfold xp2
  rw[← hb0,← hb1,← hb2,← hb3]
  simp only[Bool.and_assoc]
 have R0:∀ W n,n=W.heap.size→Calls Tryz.prog 222 #[.slice (some ⟨n,0,none⟩) 4 4] (W.alloc (.cells #[.int .i64 (-1800000000),.int .i64 h.lo0,.int .i64 h.lo1,.int .i64 1800000000] 3)) fun e w'=>e=.returned (.bool b0)∧Below W.heap.size W w':=fun W n hn=>hb0 ▸ xtf (-1800000000) h.lo0 h.lo1 1800000000 W n hn
 have H0:=lH R0;clear R0 hb0
 have R1:∀ W n,n=W.heap.size→Calls Tryz.prog 222 #[.slice (some ⟨n,0,none⟩) 4 4] (W.alloc (.cells #[.int .i64 (-900000000),.int .i64 h.la0,.int .i64 h.la1,.int .i64 900000000] 3)) fun e w'=>e=.returned (.bool b1)∧Below W.heap.size W w':=fun W n hn=>hb1 ▸ xtf (-900000000) h.la0 h.la1 900000000 W n hn
 have H1:=lH R1;clear R1 hb1
 have R2:∀ W n,n=W.heap.size→Calls Tryz.prog 222 #[.slice (some ⟨n,0,none⟩) 3 3] (W.alloc (.cells #[.int .i64 (-1800000000),.int .i64 h.lon,.int .i64 1800000000] 3)) fun e w'=>e=.returned (.bool b2)∧Below W.heap.size W w':=fun W n hn=>hb2 ▸ xsP (-1800000000) h.lon 1800000000 W n hn
 have H2:=lH R2;clear R2 hb2
 have R3:∀ W n,n=W.heap.size→Calls Tryz.prog 222 #[.slice (some ⟨n,0,none⟩) 3 3] (W.alloc (.cells #[.int .i64 (-900000000),.int .i64 h.lat,.int .i64 900000000] 3)) fun e w'=>e=.returned (.bool b3)∧Below W.heap.size W w':=fun W n hn=>hb3 ▸ xsP (-900000000) h.lat 900000000 W n hn
 have H3:=lH R3;clear R3 hb3
 cases b0
 ·go_enter Tryz.func179,Tryz.ntmps179
  go_wp2_with fail
  refine(H0.out _ _ (by simp)).mono ?_
  rintro e w1 ⟨rfl,hb⟩
  have u1:Below w.heap.size w w1:=Below.trans (by go_grown) (hb.mono (by rw[World.size_alloc];omega))
  have c18:w1.cell? ⟨w.heap.size,18,none⟩=some (.int .i64 h.la0):=(hb.cell (p:=⟨w.heap.size,18,none⟩) (by simp)).trans (by simp[go_sem])
  have c20:w1.cell? ⟨w.heap.size,20,none⟩=some (.int .i64 h.la1):=(hb.cell (p:=⟨w.heap.size,20,none⟩) (by simp)).trans (by simp[go_sem])
  have c22:w1.cell? ⟨w.heap.size,22,none⟩=some (.int .i64 h.lon):=(hb.cell (p:=⟨w.heap.size,22,none⟩) (by simp)).trans (by simp[go_sem])
  have c23:w1.cell? ⟨w.heap.size,23,none⟩=some (.int .i64 h.lat):=(hb.cell (p:=⟨w.heap.size,23,none⟩) (by simp)).trans (by simp[go_sem])
  clear hb
  go_wp2_with fail
  go_ret
  exact⟨xcy he.out,u1⟩
 ·cases b1
  ·go_enter Tryz.func179,Tryz.ntmps179
   go_wp2_with fail
   refine(H0.out _ _ (by simp)).mono ?_
   rintro e w1 ⟨rfl,hb⟩
   have u1:Below w.heap.size w w1:=Below.trans (by go_grown) (hb.mono (by rw[World.size_alloc];omega))
   have c18:w1.cell? ⟨w.heap.size,18,none⟩=some (.int .i64 h.la0):=(hb.cell (p:=⟨w.heap.size,18,none⟩) (by simp)).trans (by simp[go_sem])
   have c20:w1.cell? ⟨w.heap.size,20,none⟩=some (.int .i64 h.la1):=(hb.cell (p:=⟨w.heap.size,20,none⟩) (by simp)).trans (by simp[go_sem])
   have c22:w1.cell? ⟨w.heap.size,22,none⟩=some (.int .i64 h.lon):=(hb.cell (p:=⟨w.heap.size,22,none⟩) (by simp)).trans (by simp[go_sem])
   have c23:w1.cell? ⟨w.heap.size,23,none⟩=some (.int .i64 h.lat):=(hb.cell (p:=⟨w.heap.size,23,none⟩) (by simp)).trans (by simp[go_sem])
   clear hb
   go_wp2_with fail
   refine(H1.out _ _ (by simp)).mono ?_
   rintro e w2 ⟨rfl,hb⟩
   have u2:=u1.trans (hb.mono u1.size)
   replace c18:=cell_later hb c18
   replace c20:=cell_later hb c20
   replace c22:=cell_later hb c22
   replace c23:=cell_later hb c23
   clear u1
   clear hb
   go_wp2_with fail
   go_ret
   exact⟨xcy he.out,u2⟩
  ·cases b2
   ·go_enter Tryz.func179,Tryz.ntmps179
    go_wp2_with fail
    refine(H0.out _ _ (by simp)).mono ?_
    rintro e w1 ⟨rfl,hb⟩
    have u1:Below w.heap.size w w1:=Below.trans (by go_grown) (hb.mono (by rw[World.size_alloc];omega))
    have c18:w1.cell? ⟨w.heap.size,18,none⟩=some (.int .i64 h.la0):=(hb.cell (p:=⟨w.heap.size,18,none⟩) (by simp)).trans (by simp[go_sem])
    have c20:w1.cell? ⟨w.heap.size,20,none⟩=some (.int .i64 h.la1):=(hb.cell (p:=⟨w.heap.size,20,none⟩) (by simp)).trans (by simp[go_sem])
    have c22:w1.cell? ⟨w.heap.size,22,none⟩=some (.int .i64 h.lon):=(hb.cell (p:=⟨w.heap.size,22,none⟩) (by simp)).trans (by simp[go_sem])
    have c23:w1.cell? ⟨w.heap.size,23,none⟩=some (.int .i64 h.lat):=(hb.cell (p:=⟨w.heap.size,23,none⟩) (by simp)).trans (by simp[go_sem])
    clear hb
    go_wp2_with fail
    refine(H1.out _ _ (by simp)).mono ?_
    rintro e w2 ⟨rfl,hb⟩
    have u2:=u1.trans (hb.mono u1.size)
    replace c18:=cell_later hb c18
    replace c20:=cell_later hb c20
    replace c22:=cell_later hb c22
    replace c23:=cell_later hb c23
    clear u1
    clear hb
    go_wp2_with fail
    refine(H2.out _ _ (by simp)).mono ?_
    rintro e w3 ⟨rfl,hb⟩
    have u3:=u2.trans (hb.mono u2.size)
    replace c18:=cell_later hb c18
    replace c20:=cell_later hb c20
    replace c22:=cell_later hb c22
    replace c23:=cell_later hb c23
    clear u2
    clear hb
    go_wp2_with fail
    go_ret
    exact⟨xcy he.out,u3⟩
   ·go_enter Tryz.func179,Tryz.ntmps179
    go_wp2_with fail
    refine(H0.out _ _ (by simp)).mono ?_
    rintro e w1 ⟨rfl,hb⟩
    have u1:Below w.heap.size w w1:=Below.trans (by go_grown) (hb.mono (by rw[World.size_alloc];omega))
    have c18:w1.cell? ⟨w.heap.size,18,none⟩=some (.int .i64 h.la0):=(hb.cell (p:=⟨w.heap.size,18,none⟩) (by simp)).trans (by simp[go_sem])
    have c20:w1.cell? ⟨w.heap.size,20,none⟩=some (.int .i64 h.la1):=(hb.cell (p:=⟨w.heap.size,20,none⟩) (by simp)).trans (by simp[go_sem])
    have c22:w1.cell? ⟨w.heap.size,22,none⟩=some (.int .i64 h.lon):=(hb.cell (p:=⟨w.heap.size,22,none⟩) (by simp)).trans (by simp[go_sem])
    have c23:w1.cell? ⟨w.heap.size,23,none⟩=some (.int .i64 h.lat):=(hb.cell (p:=⟨w.heap.size,23,none⟩) (by simp)).trans (by simp[go_sem])
    clear hb
    go_wp2_with fail
    refine(H1.out _ _ (by simp)).mono ?_
    rintro e w2 ⟨rfl,hb⟩
    have u2:=u1.trans (hb.mono u1.size)
    replace c18:=cell_later hb c18
    replace c20:=cell_later hb c20
    replace c22:=cell_later hb c22
    replace c23:=cell_later hb c23
    clear u1
    clear hb
    go_wp2_with fail
    refine(H2.out _ _ (by simp)).mono ?_
    rintro e w3 ⟨rfl,hb⟩
    have u3:=u2.trans (hb.mono u2.size)
    replace c18:=cell_later hb c18
    replace c20:=cell_later hb c20
    replace c22:=cell_later hb c22
    replace c23:=cell_later hb c23
    clear u2
    clear hb
    go_wp2_with fail
    refine(H3.out _ _ (by simp)).mono ?_
    rintro e w4 ⟨rfl,hb⟩
    have u4:=u3.trans (hb.mono u3.size)
    replace c18:=cell_later hb c18
    replace c20:=cell_later hb c20
    replace c22:=cell_later hb c22
    replace c23:=cell_later hb c23
    clear u3
    clear hb
    go_wp2_with fail
    go_ret
    exact⟨xcy he.out,u4⟩
theorem xag {w:World} {g:Nat} {cs:Array Value} {t:TypeId} {fr:Nat × Nat} (h:w.heap[g]?=some (.cells cs t fr)) (i:Nat):w.cell? ⟨g,i,none⟩=cs[i]?:=by simp[World.cell?,h]
theorem xmB {w:World} {a:Addr} {v:Value} (h:w.cell? a=some v):a.block<w.heap.size:=by
 rcases Nat.lt_or_ge a.block w.heap.size with h'|h'
 ·exact h'
 ·simp[World.cell?,Array.getElem?_eq_none h'] at h
theorem xbe {w w':World} {a:Addr} {v:Value} (hb:Below w.heap.size w w') (h:w.cell? a=some v):w'.cell? a=some v:=(hb.cell (p:=a) (xmB h)).trans h
def cH (h:Hd):Array Value:=#[.int .u64 h.rf,.int .u64 h.rl,.int .u64 h.mf,.int .u64 h.ml,.int .u64 h.lf,.int .u64 h.ll,.int .u64 h.df,.int .u64 h.dl,.int .u64 h.ad,.int .u64 h.en,.int .u64 h.co,.bool h.cl,.int .u8 h.inn,.int .u8 h.out,.int .u8 h.knd,.int .i64 h.z0,.int .i64 h.z1,.int .i64 h.lo0,.int .i64 h.la0,.int .i64 h.lo1,.int .i64 h.la1,.int .i64 h.zm,.int .i64 h.lon,.int .i64 h.lat]
def HAt (w:World) (b:Nat) (T:TypeId) (h:Hd):Prop:=w.heap[b]?=some (.cells (cH h) T (0,0))
theorem HAt.lt {w:World} {b:Nat} {T:TypeId} {h:Hd} (H:HAt w b T h):b<w.heap.size:=by
 rcases Nat.lt_or_ge b w.heap.size with h'|h'
 ·exact h'
 ·unfold HAt at H;rw[Array.getElem?_eq_none h'] at H;cases H
theorem HAt.below {w w':World} {B b:Nat} {T:TypeId} {h:Hd} (H:HAt w b T h) (hb:Below B w w') (hB:b<B):HAt w' b T h:=(hb.block b hB).trans H
theorem HAt.later {w w':World} {b:Nat} {T:TypeId} {h:Hd} (H:HAt w b T h) (hb:Below w.heap.size w w'):HAt w' b T h:=H.below hb H.lt
theorem HAt.made (w:World) (h:Hd) (T:TypeId):HAt (w.alloc (.cells (cH h) T)) w.heap.size T h:=heap_alloc_new w _
theorem at0 {w:World} {b:Nat} {T:TypeId} {h:Hd} (H:HAt w b T h):w.cell? ⟨b,0,none⟩=some (.int .u64 h.rf):=xag H 0
theorem at1 {w:World} {b:Nat} {T:TypeId} {h:Hd} (H:HAt w b T h):w.cell? ⟨b,1,none⟩=some (.int .u64 h.rl):=xag H 1
theorem at2 {w:World} {b:Nat} {T:TypeId} {h:Hd} (H:HAt w b T h):w.cell? ⟨b,2,none⟩=some (.int .u64 h.mf):=xag H 2
theorem at3 {w:World} {b:Nat} {T:TypeId} {h:Hd} (H:HAt w b T h):w.cell? ⟨b,3,none⟩=some (.int .u64 h.ml):=xag H 3
theorem at4 {w:World} {b:Nat} {T:TypeId} {h:Hd} (H:HAt w b T h):w.cell? ⟨b,4,none⟩=some (.int .u64 h.lf):=xag H 4
theorem at5 {w:World} {b:Nat} {T:TypeId} {h:Hd} (H:HAt w b T h):w.cell? ⟨b,5,none⟩=some (.int .u64 h.ll):=xag H 5
theorem at6 {w:World} {b:Nat} {T:TypeId} {h:Hd} (H:HAt w b T h):w.cell? ⟨b,6,none⟩=some (.int .u64 h.df):=xag H 6
theorem at7 {w:World} {b:Nat} {T:TypeId} {h:Hd} (H:HAt w b T h):w.cell? ⟨b,7,none⟩=some (.int .u64 h.dl):=xag H 7
theorem at8 {w:World} {b:Nat} {T:TypeId} {h:Hd} (H:HAt w b T h):w.cell? ⟨b,8,none⟩=some (.int .u64 h.ad):=xag H 8
theorem at9 {w:World} {b:Nat} {T:TypeId} {h:Hd} (H:HAt w b T h):w.cell? ⟨b,9,none⟩=some (.int .u64 h.en):=xag H 9
theorem xC6 {w:World} {b:Nat} {T:TypeId} {h:Hd} (H:HAt w b T h):w.cell? ⟨b,10,none⟩=some (.int .u64 h.co):=xag H 10
theorem xCQ {w:World} {b:Nat} {T:TypeId} {h:Hd} (H:HAt w b T h):w.cell? ⟨b,11,none⟩=some (.bool h.cl):=xag H 11
theorem xCC {w:World} {b:Nat} {T:TypeId} {h:Hd} (H:HAt w b T h):w.cell? ⟨b,12,none⟩=some (.int .u8 h.inn):=xag H 12
theorem xCF {w:World} {b:Nat} {T:TypeId} {h:Hd} (H:HAt w b T h):w.cell? ⟨b,13,none⟩=some (.int .u8 h.out):=xag H 13
theorem xC9 {w:World} {b:Nat} {T:TypeId} {h:Hd} (H:HAt w b T h):w.cell? ⟨b,14,none⟩=some (.int .u8 h.knd):=xag H 14
theorem xC4 {w:World} {b:Nat} {T:TypeId} {h:Hd} (H:HAt w b T h):w.cell? ⟨b,15,none⟩=some (.int .i64 h.z0):=xag H 15
theorem xC8 {w:World} {b:Nat} {T:TypeId} {h:Hd} (H:HAt w b T h):w.cell? ⟨b,16,none⟩=some (.int .i64 h.z1):=xag H 16
theorem xDB {w:World} {b:Nat} {T:TypeId} {h:Hd} (H:HAt w b T h):w.cell? ⟨b,17,none⟩=some (.int .i64 h.lo0):=xag H 17
theorem xDt {w:World} {b:Nat} {T:TypeId} {h:Hd} (H:HAt w b T h):w.cell? ⟨b,18,none⟩=some (.int .i64 h.la0):=xag H 18
theorem xDz {w:World} {b:Nat} {T:TypeId} {h:Hd} (H:HAt w b T h):w.cell? ⟨b,19,none⟩=some (.int .i64 h.lo1):=xag H 19
theorem xDA {w:World} {b:Nat} {T:TypeId} {h:Hd} (H:HAt w b T h):w.cell? ⟨b,20,none⟩=some (.int .i64 h.la1):=xag H 20
theorem xDo {w:World} {b:Nat} {T:TypeId} {h:Hd} (H:HAt w b T h):w.cell? ⟨b,21,none⟩=some (.int .i64 h.zm):=xag H 21
theorem xDx {w:World} {b:Nat} {T:TypeId} {h:Hd} (H:HAt w b T h):w.cell? ⟨b,22,none⟩=some (.int .i64 h.lon):=xag H 22
theorem xDm {w:World} {b:Nat} {T:TypeId} {h:Hd} (H:HAt w b T h):w.cell? ⟨b,23,none⟩=some (.int .i64 h.lat):=xag H 23
theorem xiS (h:Hd) (e:xcG h=false):ckH h=8:=by unfold ckH;rw[if_neg (by simp[e])]
theorem xma (h:Hd) (e:xcG h=true) (k:xfE h=false):ckH h=14:=by unfold ckH;rw[if_pos e,if_neg (by simp[k])]
theorem xtP (h:Hd) (e:xcG h=true) (k:xfE h=true) (z:xdd h=false):ckH h=8:=by unfold ckH;rw[if_pos e,if_pos k,if_neg (by simp[z])]
theorem xBE (h:Hd) (e:xcG h=true) (k:xfE h=true) (z:xdd h=true) (d:xp2 h=false):ckH h=8:=by unfold ckH;rw[if_pos e,if_pos k,if_pos z,if_neg (by simp[d])]
theorem xzo (h:Hd) (e:xcG h=true) (k:xfE h=true) (z:xdd h=true) (d:xp2 h=true):ckH h=0:=by unfold ckH;rw[if_pos e,if_pos k,if_pos z,if_pos d]
def xh5 (h:Hd) (k:Nat):Prop:=(0<k→xhf h.rf h.rl=true)∧(1<k→xhf h.mf h.ml=true)∧(2<k→xhf h.lf h.ll=true)∧(3<k→xhf h.df h.dl=true)
theorem xwW (h:Hd) (s:xh5 h 4):xcG h=true:=by
 unfold xcG
 rw[s.1 (by omega),s.2.1 (by omega),s.2.2.1 (by omega),s.2.2.2 (by omega)]
 rfl
theorem xvl:Tryz.t91.size=2:=by kernel_rfl
theorem xli (c0 c1 c2 c3 c4 c5 c6 c7:Value) (W:World) :
  Sem.run Tryz.prog (Instr.index 165 (.agg #[c0,c1,c2,c3,c4,c5,c6,c7]) (.int .i64 0)) W=.ok (.agg #[c0,c1]) W ∧
  Sem.run Tryz.prog (Instr.index 165 (.agg #[c0,c1,c2,c3,c4,c5,c6,c7]) (.int .i64 1)) W=.ok (.agg #[c2,c3]) W ∧
  Sem.run Tryz.prog (Instr.index 165 (.agg #[c0,c1,c2,c3,c4,c5,c6,c7]) (.int .i64 2)) W=.ok (.agg #[c4,c5]) W ∧
  Sem.run Tryz.prog (Instr.index 165 (.agg #[c0,c1,c2,c3,c4,c5,c6,c7]) (.int .i64 3)) W=.ok (.agg #[c6,c7]) W:=by
 refine⟨?_,?_,?_,?_⟩ <;> simp[Instr.index,run_underlying Tryz.underlying165,asIntOf,part,sizeOf,xvl,go_sem]
theorem xaP:(Tryz.prog.info? 93).map (·.size)=some 24:=by kernel_rfl
theorem xfC (h:Hd) (w:World):Calls Tryz.prog 100 #[.agg (cH h)] w fun e w'=>e=.returned (.agg #[.int .u64 h.rf,.int .u64 h.rl,.int .u64 h.mf,.int .u64 h.ml,.int .u64 h.lf,.int .u64 h.ll,.int .u64 h.df,.int .u64 h.dl])∧Below w.heap.size w w':=xkj h w
theorem xyA (h:Hd) (w:World):Calls Tryz.prog 178 #[.agg (cH h)] w fun e w'=>e=.returned (.bool (xdd h))∧Below w.heap.size w w':=xly h w
theorem xrM (h:Hd) (w:World):Calls Tryz.prog 179 #[.agg (cH h)] w fun e w'=>e=.returned (.bool (xp2 h))∧Below w.heap.size w w':=xlx h w
theorem xaA {ops:Array Oper} {rest:List Oper} {o:Oper} {a:Act} {w:World} {Q:Exit→Act→World→Prop} (hw:Region.wanted o (yielded ops a.tmps)=true) (x:Operand) (ho:o.op=.load 93 x)
  (g:Nat) (hx:a.eval x=.pointer (some ⟨g,0,none⟩)) (T:TypeId) (h:Hd) (H:HAt w g T h) (k:wpList Tryz.prog ops Q rest (a.put o.dst (.agg (cH h))) w):wpList Tryz.prog ops Q (o :: rest) a w :=
 BigFrame.wpList_want hw fun _ hK=>wp_load_row 93 x ho g hx T (cH h) (0,0) _ H Tryz.underlying93 rfl xaP (hK _ _ k)
set_option maxRecDepth 20000 in
theorem xei (h:Hd) (w:World) (hm:xeR h):Calls Tryz.prog 99 #[.agg (cH h)] w fun e w'=>e=.returned (.int .i64 (ckH h))∧Below w.heap.size w w':=by
 have HM:=lH hm;clear hm
 have H0:=HAt.made w h 93
 go_enter Tryz.func99,Tryz.ntmps99
 go_wp2_with (first|(refine xaA (by rfl) _ rfl _ rfl _ h (by assumption) ?_)|fail)
 refine(xfC h _).mono ?_
 rintro e w1 ⟨rfl,hb⟩
 have H1:=H0.below hb (by rw[World.size_alloc];omega)
 have hz1:w.heap.size<w1.heap.size:=by have:=hb.size;rw[World.size_alloc] at this;omega
 have u1:Below w.heap.size w w1:=Below.trans (by go_grown) (hb.mono (by rw[World.size_alloc];omega))
 have HH1:=lH H1
 have HU:=lH u1
 clear hb H0 H1 u1
 go_wp2_with fail
 go_loopw [7] (fun i wr=>∃ k:Nat,k≤4∧i=.int .i64 k∧Hid (xh5 h k)∧Below w1.heap.size w1 wr) (fun i _=>4 - (intOf i).toNat)
 case atStart=>exact⟨0,by omega,rfl,lH ⟨by omega,by omega,by omega,by omega⟩,Below.refl _ _⟩
 case round =>
  obtain⟨k,hk,rfl,HS,hbw⟩:=hrel
  have hIX:=fun W=>xli (.int .u64 h.rf) (.int .u64 h.rl) (.int .u64 h.mf) (.int .u64 h.ml) (.int .u64 h.lf) (.int .u64 h.ll) (.int .u64 h.df) (.int .u64 h.dl) W
  have hzr:=hbw.size
  have HHr:=lH (HH1.out.below hbw hz1)
  have HUr:=lH (HU.out.trans (hbw.mono (by omega)))
  rcases(by omega:k=0∨k=1∨k=2∨k=3∨k=4) with rfl|rfl|rfl|rfl|rfl
  ·have hI:=fun W=>(hIX W).1
   clear hIX
   have HF:=lH (fun W=>xf6 h.rf h.rl W HM.out.1 HM.out.2.1)
   obtain⟨b,hs⟩:∃ b,xhf h.rf h.rl=b:=⟨_,rfl⟩
   rw[hs] at HF
   cases b
   ·have hc:Hid (8=ckH h):=lH (xiS h (by unfold xcG;simp only[hs];simp)).symm
    clear hs
    go_wp2_with fail
    refine(HF.out _).mono ?_
    rintro e w2 ⟨rfl,hb⟩
    have u2:Below w.heap.size w w2:=(HUr.out.alloc (by omega) _).trans (hb.mono (by rw[World.size_alloc];omega))
    clear hb
    go_wp2_with fail
    go_ret
    exact⟨xaH hc.out,u2⟩
   ·have HS2:Hid (xh5 h 1):=lH ⟨fun _=>hs,fun hh=>by omega,fun hh=>by omega,fun hh=>by omega⟩
    clear hs
    go_wp2_with fail
    refine(HF.out _).mono ?_
    rintro e w2 ⟨rfl,hb⟩
    have u2:Below w1.heap.size w1 w2:=(hbw.alloc hzr _).trans (hb.mono (by rw[World.size_alloc];omega))
    clear hb
    go_wp2_with fail
    go_roundw
    case rel=>exact⟨1,by omega,by rfl,HS2,u2⟩
    case measure=>simp[intOf]
  ·have hI:=fun W=>(hIX W).2.1
   clear hIX
   have HF:=lH (fun W=>xf6 h.mf h.ml W HM.out.2.2.1 HM.out.2.2.2.1)
   obtain⟨b,hs⟩:∃ b,xhf h.mf h.ml=b:=⟨_,rfl⟩
   rw[hs] at HF
   cases b
   ·have hc:Hid (8=ckH h):=lH (xiS h (by unfold xcG;simp only[hs,HS.out.1 (by omega)];simp)).symm
    clear hs
    go_wp2_with fail
    refine(HF.out _).mono ?_
    rintro e w2 ⟨rfl,hb⟩
    have u2:Below w.heap.size w w2:=(HUr.out.alloc (by omega) _).trans (hb.mono (by rw[World.size_alloc];omega))
    clear hb
    go_wp2_with fail
    go_ret
    exact⟨xaH hc.out,u2⟩
   ·have HS2:Hid (xh5 h 2):=lH ⟨fun _=>HS.out.1 (by omega),fun hh=>hs,fun hh=>by omega,fun hh=>by omega⟩
    clear hs
    go_wp2_with fail
    refine(HF.out _).mono ?_
    rintro e w2 ⟨rfl,hb⟩
    have u2:Below w1.heap.size w1 w2:=(hbw.alloc hzr _).trans (hb.mono (by rw[World.size_alloc];omega))
    clear hb
    go_wp2_with fail
    go_roundw
    case rel=>exact⟨2,by omega,by rfl,HS2,u2⟩
    case measure=>simp[intOf]
  ·have hI:=fun W=>(hIX W).2.2.1
   clear hIX
   have HF:=lH (fun W=>xf6 h.lf h.ll W HM.out.2.2.2.2.1 HM.out.2.2.2.2.2.1)
   obtain⟨b,hs⟩:∃ b,xhf h.lf h.ll=b:=⟨_,rfl⟩
   rw[hs] at HF
   cases b
   ·have hc:Hid (8=ckH h):=lH (xiS h (by unfold xcG;simp only[hs,HS.out.1 (by omega),HS.out.2.1 (by omega)];simp)).symm
    clear hs
    go_wp2_with fail
    refine(HF.out _).mono ?_
    rintro e w2 ⟨rfl,hb⟩
    have u2:Below w.heap.size w w2:=(HUr.out.alloc (by omega) _).trans (hb.mono (by rw[World.size_alloc];omega))
    clear hb
    go_wp2_with fail
    go_ret
    exact⟨xaH hc.out,u2⟩
   ·have HS2:Hid (xh5 h 3):=lH ⟨fun _=>HS.out.1 (by omega),fun hh=>HS.out.2.1 (by omega),fun hh=>hs,fun hh=>by omega⟩
    clear hs
    go_wp2_with fail
    refine(HF.out _).mono ?_
    rintro e w2 ⟨rfl,hb⟩
    have u2:Below w1.heap.size w1 w2:=(hbw.alloc hzr _).trans (hb.mono (by rw[World.size_alloc];omega))
    clear hb
    go_wp2_with fail
    go_roundw
    case rel=>exact⟨3,by omega,by rfl,HS2,u2⟩
    case measure=>simp[intOf]
  ·have hI:=fun W=>(hIX W).2.2.2
   clear hIX
   have HF:=lH (fun W=>xf6 h.df h.dl W HM.out.2.2.2.2.2.2.1 HM.out.2.2.2.2.2.2.2.1)
   obtain⟨b,hs⟩:∃ b,xhf h.df h.dl=b:=⟨_,rfl⟩
   rw[hs] at HF
   cases b
   ·have hc:Hid (8=ckH h):=lH (xiS h (by unfold xcG;simp only[hs,HS.out.1 (by omega),HS.out.2.1 (by omega),HS.out.2.2.1 (by omega)];simp)).symm
    clear hs
    go_wp2_with fail
    refine(HF.out _).mono ?_
    rintro e w2 ⟨rfl,hb⟩
    have u2:Below w.heap.size w w2:=(HUr.out.alloc (by omega) _).trans (hb.mono (by rw[World.size_alloc];omega))
    clear hb
    go_wp2_with fail
    go_ret
    exact⟨xaH hc.out,u2⟩
   ·have HS2:Hid (xh5 h 4):=lH ⟨fun _=>HS.out.1 (by omega),fun hh=>HS.out.2.1 (by omega),fun hh=>HS.out.2.2.1 (by omega),fun hh=>hs⟩
    clear hs
    go_wp2_with fail
    refine(HF.out _).mono ?_
    rintro e w2 ⟨rfl,hb⟩
    have u2:Below w1.heap.size w1 w2:=(hbw.alloc hzr _).trans (hb.mono (by rw[World.size_alloc];omega))
    clear hb
    go_wp2_with fail
    go_roundw
    case rel=>exact⟨4,by omega,by rfl,HS2,u2⟩
    case measure=>simp[intOf]
  ·have hS:xcG h=true:=xwW h HS.out
   have c12:=xCC HHr.out
   have c13:=xCF HHr.out
   have c14:=xC9 HHr.out
   clear hIX HM
   have hHr:=HHr.out
   by_cases k1:h.inn≤4
   ·have d1:decide (4<h.inn)=false:=by simp;omega
    by_cases k2:h.out≤4
    ·have d2:decide (4<h.out)=false:=by simp;omega
     by_cases k3:h.knd≤5
     ·have d3:decide (5<h.knd)=false:=by simp;omega
      have hK:xfE h=true:=by unfold xfE;simp[k1,k2,k3]
      have HZ:=lH (fun W=>xyA h W)
      have HD:=lH (fun W=>xrM h W)
      clear k1 k2 k3
      obtain⟨b,hz⟩:∃ b,xdd h=b:=⟨_,rfl⟩
      rw[hz] at HZ
      cases b
      ·have hc:Hid (8=ckH h):=lH (xtP h hS hK hz).symm
       clear hS hK hz
       go_wp2_with (first|(refine xaA (by rfl) _ rfl _ rfl _ h (by assumption) ?_)|fail)
       refine(HZ.out _).mono ?_
       rintro e w2 ⟨rfl,hb⟩
       have u2:=HUr.out.trans (hb.mono (by omega))
       clear hb
       go_wp2_with fail
       go_ret
       exact⟨xaH hc.out,u2⟩
      ·obtain⟨b,hg⟩:∃ b,xp2 h=b:=⟨_,rfl⟩
       rw[hg] at HD
       cases b
       ·have hc:Hid (8=ckH h):=lH (xBE h hS hK hz hg).symm
        clear hS hK hz hg
        go_wp2_with (first|(refine xaA (by rfl) _ rfl _ rfl _ h (by assumption) ?_)|fail)
        refine(HZ.out _).mono ?_
        rintro e w2 ⟨rfl,hb⟩
        have u2:=HUr.out.trans (hb.mono (by omega))
        have h2:=hHr.later hb
        have hz2:=hb.size
        clear hb hHr
        go_wp2_with (first|(refine xaA (by rfl) _ rfl _ rfl _ h (by assumption) ?_)|fail)
        refine(HD.out _).mono ?_
        rintro e w3 ⟨rfl,hb⟩
        have u3:=u2.trans (hb.mono (by omega))
        clear hb
        go_wp2_with fail
        go_ret
        exact⟨xaH hc.out,u3⟩
       ·have hc:Hid (0=ckH h):=lH (xzo h hS hK hz hg).symm
        clear hS hK hz hg
        go_wp2_with (first|(refine xaA (by rfl) _ rfl _ rfl _ h (by assumption) ?_)|fail)
        refine(HZ.out _).mono ?_
        rintro e w2 ⟨rfl,hb⟩
        have u2:=HUr.out.trans (hb.mono (by omega))
        have h2:=hHr.later hb
        have hz2:=hb.size
        clear hb hHr
        go_wp2_with (first|(refine xaA (by rfl) _ rfl _ rfl _ h (by assumption) ?_)|fail)
        refine(HD.out _).mono ?_
        rintro e w3 ⟨rfl,hb⟩
        have u3:=u2.trans (hb.mono (by omega))
        clear hb
        go_wp2_with fail
        go_ret
        exact⟨xaH hc.out,u3⟩
     ·have d3:decide (5<h.knd)=true:=by simp;omega
      have hc:Hid (14=ckH h):=lH (xma h hS (by unfold xfE;simp[k3])).symm
      clear hS k1 k2 k3
      go_wp2_with fail
      go_ret
      exact⟨xaH hc.out,HUr.out⟩
    ·have d2:decide (4<h.out)=true:=by simp;omega
     have hc:Hid (14=ckH h):=lH (xma h hS (by unfold xfE;simp[k2])).symm
     clear hS k1 k2
     go_wp2_with fail
     go_ret
     exact⟨xaH hc.out,HUr.out⟩
   ·have d1:decide (4<h.inn)=true:=by simp;omega
    have hc:Hid (14=ckH h):=lH (xma h hS (by unfold xfE;simp[k1])).symm
    clear hS k1
    go_wp2_with fail
    go_ret
    exact⟨xaH hc.out,HUr.out⟩
end Go.Proofs.YtjkgkmmkehnggaaGreatDoor
namespace Go.Proofs.YtjkgkmmkehnggaaGreatDoor
set_option linter.unusedVariables false
set_option linter.unusedSimpArgs false
open Go.RowKit
set_option maxRecDepth 20000
def xb2 (t:ByteArray):List Int:=t.data.toList.map (fun c=>(c.toNat:Int))
theorem xcv (t:ByteArray):(xb2 t).length=t.size:=by simp[xb2]
theorem xts (t:ByteArray):xwN (xb2 t):=by
 intro c hc
 obtain⟨b,_,rfl⟩:=List.mem_map.1 hc
 have:=xr1 b
 omega
theorem xqb (l:List UInt8):xjh l=xlM (l.map (fun c=>(c.toNat:Int))):=by
 induction l with
 | nil=>rfl
 | cons c l ih=>rw[xjh,List.map_cons,xlM,ih]
theorem xfN (t:ByteArray) (i j:Nat):(t.extract i j).data.toList=(t.data.toList.drop i).take (j - i):=by
 simp[ByteArray.data_extract]
def nmB (t:ByteArray) (o w:Nat):Int:=xjh (t.extract o (o+w)).data.toList
theorem xqe (t:ByteArray) (o w:Nat):nmB t o w=xlM (((xb2 t).drop o).take w):=by
 unfold nmB xb2
 rw[xqb,xfN,Nat.add_sub_cancel_left,List.map_take,List.map_drop]
theorem xrh (t:ByteArray) (o w:Nat) (h:o+w≤t.size):0≤nmB t o w∧nmB t o w<xlP w:=by
 rw[xqe]
 have hb:xwN (((xb2 t).drop o).take w):=fun c hc=>xts t c (List.mem_of_mem_drop (List.mem_of_mem_take hc))
 have:=xtv _ hb
 rw[List.length_take,List.length_drop,xcv,Nat.min_eq_left (by omega)] at this
 exact this
theorem xee (t:ByteArray) (o:Nat):nmB t o 1=(xb2 t).getD o 0:=by rw[xqe,xyB]
def sgB (t:ByteArray) (o:Nat):Int:=sgn (nmB t o 4) 4
theorem xAC (x:Int) (h0:0≤x) (h1:x<4294967296):sg x=sgn x 4:=by
 unfold sg sgn
 simp only[Int.reduceMul,Int.reduceSub,Int.reduceToNat,Int.reducePow]
 rw[Int.emod_eq_of_lt h0 h1]
def xaN (t:ByteArray):Hd:=⟨nmB t 8 8,nmB t 16 8,nmB t 24 8,nmB t 32 8,nmB t 40 8,nmB t 48 8,nmB t 56 8,nmB t 64 8,nmB t 72 8,nmB t 80 8,nmB t 88 8,nmB t 96 1 == 1,nmB t 97 1,nmB t 98 1,nmB t 99 1,nmB t 100 1,nmB t 101 1,sgB t 102,sgB t 106,sgB t 110,sgB t 114,nmB t 118 1,sgB t 119,sgB t 123⟩
theorem xyU (t:ByteArray):(xaN t).rf=nmB t 8 8:=by rw[xaN]
theorem xza (t:ByteArray):(xaN t).rl=nmB t 16 8:=by rw[xaN]
theorem xyq (t:ByteArray):(xaN t).mf=nmB t 24 8:=by rw[xaN]
theorem xAb (t:ByteArray):(xaN t).ml=nmB t 32 8:=by rw[xaN]
theorem xx3 (t:ByteArray):(xaN t).lf=nmB t 40 8:=by rw[xaN]
theorem xy0 (t:ByteArray):(xaN t).ll=nmB t 48 8:=by rw[xaN]
theorem xzi (t:ByteArray):(xaN t).df=nmB t 56 8:=by rw[xaN]
theorem xyz (t:ByteArray):(xaN t).dl=nmB t 64 8:=by rw[xaN]
theorem xzu (t:ByteArray):(xaN t).ad=nmB t 72 8:=by rw[xaN]
theorem xyp (t:ByteArray):(xaN t).en=nmB t 80 8:=by rw[xaN]
theorem xzM (t:ByteArray):(xaN t).co=nmB t 88 8:=by rw[xaN]
theorem xxN (t:ByteArray):(xaN t).cl=(nmB t 96 1 == 1):=by rw[xaN]
theorem xv6 (t:ByteArray):(xaN t).inn=nmB t 97 1:=by rw[xaN]
theorem xvO (t:ByteArray):(xaN t).out=nmB t 98 1:=by rw[xaN]
theorem xve (t:ByteArray):(xaN t).knd=nmB t 99 1:=by rw[xaN]
theorem xyV (t:ByteArray):(xaN t).z0=nmB t 100 1:=by rw[xaN]
theorem xy2 (t:ByteArray):(xaN t).z1=nmB t 101 1:=by rw[xaN]
theorem xvB (t:ByteArray):(xaN t).lo0=sgB t 102:=by rw[xaN]
theorem xv5 (t:ByteArray):(xaN t).la0=sgB t 106:=by rw[xaN]
theorem xuw (t:ByteArray):(xaN t).lo1=sgB t 110:=by rw[xaN]
theorem xvK (t:ByteArray):(xaN t).la1=sgB t 114:=by rw[xaN]
theorem xxJ (t:ByteArray):(xaN t).zm=nmB t 118 1:=by rw[xaN]
theorem xuO (t:ByteArray):(xaN t).lon=sgB t 119:=by rw[xaN]
theorem xvR (t:ByteArray):(xaN t).lat=sgB t 123:=by rw[xaN]
theorem xf9 (t:ByteArray) (h:127≤t.size):xxj (xb2 t)=xaN t:=by
 have hs:∀ q,q+4≤127→sg (nmB t q 4)=sgB t q:=fun q hq=>by
  have:=xrh t q 4 (by omega)
  rw[xrP] at this
  exact xAC _ this.1 this.2
 unfold xxj xaN xhX
 simp only[xtF,xh2,List.drop_drop,List.getD_cons_zero,List.getD_cons_succ,Nat.reduceAdd,← xqe]
 rw[hs 102 (by omega),hs 106 (by omega),hs 110 (by omega),hs 114 (by omega),hs 119 (by omega),hs 123 (by omega)]
theorem xnt (t:ByteArray) (h:127≤t.size):xeR (xaN t):=by
 rw[← xf9 t h]
 exact xB7 _ (xqK xtF _ (fun c hc=>xts t c (List.mem_of_mem_drop hc)) (by rw[List.length_drop,xcv,xjU];omega))
theorem xzd {a b:List UInt8} (h:a.map (fun c=>(c.toNat:Int))=b.map (fun c=>(c.toNat:Int))):a=b:=by
 induction a generalizing b with
 | nil=>cases b with
  | nil=>rfl
  | cons c b=>simp at h
 | cons c a ih=>cases b with
  | nil=>simp at h
  | cons d b =>
   simp only[List.map_cons,List.cons.injEq] at h
   have:c=d:=UInt8.toNat_inj.1 (by have:=h.1;omega)
   rw[this,ih h.2]
theorem xe4 (t:ByteArray):t.extract 0 7=⟨#[80,77,84,105,108,101,115]⟩↔(xb2 t).take 7=mgH:=by
 have e:(xb2 t).take 7=(t.extract 0 7).data.toList.map (fun c=>(c.toNat:Int)):=by
  rw[xfN,xb2,List.map_take]
  rfl
 rw[e]
 constructor
 ·intro h;rw[h];rfl
 ·intro h
  apply ByteArray.ext
  apply Array.ext'
  exact xzd (h.trans (by rfl:mgH=[80,77,84,105,108,101,115].map (fun c:UInt8=>(c.toNat:Int))))
theorem xpr (t:ByteArray) (h:t.size<127):xcB (xb2 t)=(xae,3):=by
 unfold xcB
 rw[if_pos (by rw[xcv];exact h)]
theorem xof (t:ByteArray) (h:127≤t.size) (hn:t.extract 0 7≠⟨#[80,77,84,105,108,101,115]⟩):xcB (xb2 t)=(xae,12):=by
 unfold xcB
 rw[if_neg (by rw[xcv];omega),if_pos (fun e=>hn ((xe4 t).2 e))]
theorem xkc (t:ByteArray) (h:127≤t.size) (hn:t.extract 0 7=⟨#[80,77,84,105,108,101,115]⟩) (hv:nmB t 7 1≠3):xcB (xb2 t)=(xae,13):=by
 unfold xcB
 rw[if_neg (by rw[xcv];omega),if_neg (fun e=>e ((xe4 t).1 hn)),if_pos (by rw[← xee];exact hv)]
theorem xqj (t:ByteArray) (h:127≤t.size) (hn:t.extract 0 7=⟨#[80,77,84,105,108,101,115]⟩) (hv:nmB t 7 1=3) (hf:1<nmB t 96 1):xcB (xb2 t)=(xae,4):=by
 unfold xcB
 rw[if_neg (by rw[xcv];omega),if_neg (fun e=>e ((xe4 t).1 hn)),if_neg (by rw[← xee];exact fun e=>e hv),if_pos (by rw[← xee];exact hf)]
theorem xtL (t:ByteArray) (h:127≤t.size) (hn:t.extract 0 7=⟨#[80,77,84,105,108,101,115]⟩) (hv:nmB t 7 1=3) (hf:¬ 1<nmB t 96 1) (hc:ckH (xaN t)≠0):xcB (xb2 t)=(xae,ckH (xaN t)):=by
 unfold xcB
 rw[if_neg (by rw[xcv];omega),if_neg (fun e=>e ((xe4 t).1 hn)),if_neg (by rw[← xee];exact fun e=>e hv),if_neg (by rw[← xee];exact hf),xf9 t h,if_neg hc]
theorem xz4 (t:ByteArray) (h:127≤t.size) (hn:t.extract 0 7=⟨#[80,77,84,105,108,101,115]⟩) (hv:nmB t 7 1=3) (hf:¬ 1<nmB t 96 1) (hc:ckH (xaN t)=0):xcB (xb2 t)=(xaN t,0):=by
 unfold xcB
 rw[if_neg (by rw[xcv];omega),if_neg (fun e=>e ((xe4 t).1 hn)),if_neg (by rw[← xee];exact fun e=>e hv),if_neg (by rw[← xee];exact hf),xf9 t h,if_pos hc]
theorem xsi (t:ByteArray) (p n:Int) (hm:t.size≤maxLen) (p0:0≤p) (n0:1≤n) (n1:n≤8) (hp:p+n≤t.size):xnQ t p 0 n=0:=by
 unfold maxLen at hm
 have e1:xaQ t p=0:=if_pos ⟨p0,by omega⟩
 have e2:xlw n=0:=if_pos ⟨n0,n1⟩
 have e3:xe7 t p n=0:=by
  unfold xe7
  rw[IntWalk.wrap64_in _ (by omega),if_neg (by omega)]
 simp[xnQ,xaR,e1,e2,e3]
theorem xlp (t:ByteArray) (p n:Int) (hm:t.size≤maxLen) (p0:0≤p) (n0:0≤n) (hp:p+n≤t.size):xbQ t p 0 n=0:=by
 unfold maxLen at hm
 have e1:xaQ t p=0:=if_pos ⟨p0,by omega⟩
 have e2:xcu n=0:=if_neg (by omega)
 have e3:xe7 t p n=0:=by
  unfold xe7
  rw[IntWalk.wrap64_in _ (by omega),if_neg (by omega)]
 simp[xbQ,xaR,e1,e2,e3]
theorem xjn (t:ByteArray) (p n:Nat) (w:World) (hm:t.size≤maxLen) (n0:1≤n) (n1:n≤8) (hp:p+n≤t.size):Calls Tryz.prog 97 #[.agg #[.string t,.int .i64 p,.int .i64 0],.int .i64 n] w
  fun e w'=>e=.returned (.tuple #[.int .u64 (nmB t p n),.agg #[.string t,.int .i64 ((p+n:Nat):Int),.int .i64 0]])∧Below w.heap.size w w':=by
 have key:=xAg t p n w hm (xsi t p n hm (by omega) (by omega) (by omega) (by omega)) (by omega) (by omega) (by omega) (by omega)
 rw[Int.toNat_natCast,show ((p:Int)+(n:Int)).toNat=p+n from by omega] at key
 have e:((p+n:Nat):Int)=(p:Int)+(n:Int):=by omega
 rw[e]
 exact key
theorem xlH {fn:Func} {p q:Tmp} {ty:TypeId} (h:fn.results=#[.cell p ty,.tmp q]) (tmps:Array Value) (w:World) (g:Nat) (a:Hd) (v:Value)
  (hp:tmps.getD p undef=.pointer (some ⟨g,0,none⟩)) (hq:tmps.getD q undef=v) (hl:(loadVar ty ⟨g,0,none⟩).run Tryz.prog w=.ok (.agg (cH a)) w) :
  (results fn tmps).run Tryz.prog w=.ok (.tuple #[.agg (cH a),v]) w:=by
 have hp':tmps[p]?.getD undef=.pointer (some ⟨g,0,none⟩):=by simpa using hp
 have hq':tmps[q]?.getD undef=v:=by simpa using hq
 simp[results,h,hp',hq',asAddr,hl]
theorem xba {fn:Func} {p q:Tmp} (h:fn.results=#[.cell p 93,.tmp q]) (tmps:Array Value) (w:World) (g:Nat) (T:TypeId) (a:Hd) (v:Value) (hp:tmps.getD p undef=.pointer (some ⟨g,0,none⟩)) (hq:tmps.getD q undef=v) (H:HAt w g T a) :
  (results fn tmps).run Tryz.prog w=.ok (.tuple #[.agg (cH a),v]) w:=xlH h tmps w g a v hp hq (run_loadVar_row w g T _ (cH a) (0,0) _ H Tryz.underlying93 rfl xaP)
theorem xBc {s:ByteArray} {l:List UInt8} (h:s≠⟨l.toArray⟩):(s.toList == l)=false:=by
 rw[beq_eq_false_iff_ne,ByteArray.toList_eq]
 intro e
 apply h
 apply ByteArray.ext
 apply Array.ext'
 exact e
theorem xB1 {s:ByteArray} {l:List UInt8} (h:s=⟨l.toArray⟩):(s.toList == l)=true:=by
 subst h
 rw[ByteArray.toList_eq]
 simp
end Go.Proofs.YtjkgkmmkehnggaaGreatDoor
namespace Go.Proofs.YtjkgkmmkehnggaaGreatDoor
set_option linter.unusedVariables false
set_option linter.unusedSimpArgs false
set_option maxRecDepth 20000
structure Sc where
 rf:Int
 rl:Int
 mf:Int
 ml:Int
 lf:Int
 ll:Int
 df:Int
 dl:Int
deriving DecidableEq
def xeT:Sc:=⟨0,0,0,0,0,0,0,0⟩
structure Pl where
 sec:Sc
 all:Int
 err:Int
def xgW (a b c d:Int):Prop:=1099511627776<a∨1099511627776<b∨1099511627776<c∨1099511627776<d∨1099511627776<127+a+b+c+d
instance (a b c d:Int):Decidable (xgW a b c d):=by unfold xgW;infer_instance
def xrj (a b c d:Int):Pl:=if xgW a b c d then ⟨xeT,0,8⟩ else ⟨⟨127,a,127+a,b,127+a+b,c,127+a+b+c,d⟩,127+a+b+c+d,0⟩
def xde (h:Hd) (s:Sc):Hd:={ h with rf:=s.rf,rl:=s.rl,mf:=s.mf,ml:=s.ml,lf:=s.lf,ll:=s.ll,df:=s.df,dl:=s.dl }
structure Pt where
 p0:ByteArray
 p1:ByteArray
 p2:ByteArray
 p3:ByteArray
def xjp:ByteArray:={ data:=#[] }
def xxw:Pt:=⟨xjp,xjp,xjp,xjp⟩
def xdf (p:Pt):Pl:=xrj p.p0.size p.p1.size p.p2.size p.p3.size
def xbB (h:Hd) (p:Pt):ByteArray × Int :=
 if (xdf p).err≠0 then (xjp,(xdf p).err) else if (xg2 (xde h (xdf p).sec)).2≠0 then (xjp,(xg2 (xde h (xdf p).sec)).2)
 else (str (xg2 (xde h (xdf p).sec)).1++p.p0++p.p1++p.p2++p.p3,0)
structure Ct where
 h:Hd
 p:Pt
 err:Int
def xkX (h:Hd) (n:Int):Prop:=n<h.rf+h.rl∨n<h.mf+h.ml∨n<h.lf+h.ll∨n<h.df+h.dl
instance (h:Hd) (n:Int):Decidable (xkX h n):=by unfold xkX;infer_instance
def xpm (t:ByteArray) (f l:Int):ByteArray:=t.extract f.toNat (f.toNat+l.toNat)
def xgA (t:ByteArray):Ct :=
 if (xcB (xb2 t)).2≠0 then ⟨xae,xxw,(xcB (xb2 t)).2⟩ else if xkX (xcB (xb2 t)).1 t.size then ⟨xae,xxw,8⟩
 else ⟨(xcB (xb2 t)).1,⟨xpm t (xcB (xb2 t)).1.rf (xcB (xb2 t)).1.rl,xpm t (xcB (xb2 t)).1.mf (xcB (xb2 t)).1.ml,xpm t (xcB (xb2 t)).1.lf (xcB (xb2 t)).1.ll,xpm t (xcB (xb2 t)).1.df (xcB (xb2 t)).1.dl⟩,0⟩
def xCS (s:Sc):Prop:=U64 s.rf∧U64 s.rl∧U64 s.mf∧U64 s.ml∧U64 s.lf∧U64 s.ll∧U64 s.df∧U64 s.dl
end Go.Proofs.YtjkgkmmkehnggaaGreatDoor
