/- cMH. -/
import Derived.Test.YtjinnigjfopbcaaGreatDoorVs
import Derived.Test.YtjinnigjfopbcaaGreatDoorVb2
import Derived.Test.YtjinnigjfopbcaaGreatDoorVb1
namespace Go.Proofs.YtjinnigjfopbcaaGreatDoor
set_option linter.unusedVariables false
set_option linter.unusedSimpArgs false
def leH:Nat→Int→List Int
 | 0,_=>[]
 | n+1,x=>x % 256 :: leH n (x / 256)
def xjw:List Int→Int
 | []=>0
 | c :: l=>c+256*xjw l
def xtK:Nat→Int
 | 0=>1
 | n+1=>256*xtK n
def xtt (l:List Int):Prop:=∀ c ∈ l,0≤c∧c<256
theorem xh0 (n:Nat) (x:Int):(leH n x).length=n:=by
 induction n generalizing x with
 | zero=>rfl
 | succ n ih=>simp[leH,ih]
theorem xkB (l:List Int) (h:xtt l):0≤xjw l∧xjw l<xtK l.length:=by
 induction l with
 | nil=>simp[xjw,xtK]
 | cons c l ih =>
  have hc:=h c List.mem_cons_self
  have:=ih (fun d hd=>h d (List.mem_cons_of_mem _ hd))
  simp only[xjw,List.length_cons,xtK]
  omega
theorem xu7 (l:List Int) (h:xtt l):leH l.length (xjw l)=l:=by
 induction l with
 | nil=>rfl
 | cons c l ih =>
  have hc:=h c List.mem_cons_self
  have hl:xtt l:=fun d hd=>h d (List.mem_cons_of_mem _ hd)
  have hb:=xkB l hl
  rw[List.length_cons,xjw,leH,show (c+256*xjw l) % 256=c from by omega,show (c+256*xjw l) / 256=xjw l from by omega,ih hl]
def xjj:List Nat→List Int→List Int
 | w :: ws,x :: xs=>leH w x++xjj ws xs
 | _,_=>[]
def xdY:List Nat→List Int→List Int
 | [],_=>[]
 | w :: ws,l=>xjw (l.take w) :: xdY ws (l.drop w)
def xoe:List Nat→Nat
 | []=>0
 | w :: ws=>w+xoe ws
def xlc:List Nat→List Int→Prop
 | [],[]=>True
 | w :: ws,x :: xs=>(0≤x∧x<xtK w)∧xlc ws xs
 | _,_=>False
theorem xpT (ws:List Nat) (xs:List Int) (h:xlc ws xs):(xjj ws xs).length=xoe ws:=by
 induction ws generalizing xs with
 | nil=>cases xs <;> rfl
 | cons w ws ih =>
  cases xs with
  | nil=>exact h.elim
  | cons x xs=>rw[xjj,List.length_append,xh0,ih xs h.2,xoe]
theorem xjs (ws:List Nat) (l:List Int) (hl:xtt l) (h:xoe ws≤l.length):xlc ws (xdY ws l):=by
 induction ws generalizing l with
 | nil=>exact trivial
 | cons w ws ih =>
  simp only[xoe] at h
  have hb:=xkB (l.take w) (fun c hc=>hl c (List.mem_of_mem_take hc))
  rw[List.length_take,Nat.min_eq_left (by omega)] at hb
  exact⟨hb,ih (l.drop w) (fun c hc=>hl c (List.mem_of_mem_drop hc)) (by rw[List.length_drop];omega)⟩
theorem xnc (ws:List Nat) (l:List Int) (hl:xtt l) (h:xoe ws≤l.length):xjj ws (xdY ws l)=l.take (xoe ws):=by
 induction ws generalizing l with
 | nil=>simp[xjj,xoe]
 | cons w ws ih =>
  simp only[xoe] at h
  have hw:(l.take w).length=w:=by rw[List.length_take];omega
  have e:=xu7 (l.take w) (fun c hc=>hl c (List.mem_of_mem_take hc))
  rw[hw] at e
  rw[xdY,xjj,e,ih (l.drop w) (fun c hc=>hl c (List.mem_of_mem_drop hc)) (by rw[List.length_drop];omega),xoe,List.take_add]
structure Hd where
 rf:Int
 rl:Int
 mf:Int
 ml:Int
 lf:Int
 ll:Int
 df:Int
 dl:Int
 ad:Int
 en:Int
 co:Int
 cl:Bool
 inn:Int
 out:Int
 knd:Int
 z0:Int
 z1:Int
 lo0:Int
 la0:Int
 lo1:Int
 la1:Int
 zm:Int
 lon:Int
 lat:Int
def xaa:Hd:=⟨0,0,0,0,0,0,0,0,0,0,0,false,0,0,0,0,0,0,0,0,0,0,0,0⟩
def xdJ (f l:Int):Bool:=decide (f≤1099511627776) && (decide (l≤1099511627776) && decide (f+l≤1099511627776))
def xbW (h:Hd):Bool:=decide (h.inn≤4) && (decide (h.out≤4) && decide (h.knd≤5))
def xcA (h:Hd):Bool:=(decide (0≤h.z0) && decide (h.z0≤h.z1)) && (decide (h.z1≤26) && (decide (0≤h.zm) && decide (h.zm≤26)))
def xoc (h:Hd):Bool:=(decide (-1800000000≤h.lo0) && decide (h.lo0≤h.lo1)) && (decide (h.lo1≤1800000000) && ((decide (-900000000≤h.la0) && decide (h.la0≤h.la1)) && (decide (h.la1≤900000000) && ((decide (-1800000000≤h.lon) && decide (h.lon≤1800000000)) && (decide (-900000000≤h.lat) && decide (h.lat≤900000000))))))
def xcZ (h:Hd):Bool:=xdJ h.rf h.rl && (xdJ h.mf h.ml && (xdJ h.lf h.ll && xdJ h.df h.dl))
def ckH (h:Hd):Int:=if xcZ h=true then (if xbW h=true then (if xcA h=true then (if xoc h=true then 0 else 8) else 8) else 14) else 8
def U64 (x:Int):Prop:=0≤x∧x≤18446744073709551615
def U8 (x:Int):Prop:=0≤x∧x≤255
def xi1 (h:Hd):Prop:=U64 h.rf∧U64 h.rl∧U64 h.mf∧U64 h.ml∧U64 h.lf∧U64 h.ll∧U64 h.df∧U64 h.dl∧U64 h.ad∧U64 h.en∧U64 h.co∧U8 h.inn∧U8 h.out∧U8 h.knd
def xrL (x:Int):Int:=x % 4294967296
def sg (x:Int):Int:=if x<2147483648 then x else x - 4294967296
def xpf (b:Bool):Int:=if b then 1 else 0
def xkx:List Nat:=[8,8,8,8,8,8,8,8,8,8,8,1,1,1,1,1,1,4,4,4,4,1,4,4]
def xmP (h:Hd):List Int:=[h.rf,h.rl,h.mf,h.ml,h.lf,h.ll,h.df,h.dl,h.ad,h.en,h.co,xpf h.cl,h.inn,h.out,h.knd,h.z0,h.z1,xrL h.lo0,xrL h.la0,xrL h.lo1,xrL h.la1,h.zm,xrL h.lon,xrL h.lat]
def xg1 (l:List Int):Hd:=⟨l.getD 0 0,l.getD 1 0,l.getD 2 0,l.getD 3 0,l.getD 4 0,l.getD 5 0,l.getD 6 0,l.getD 7 0,l.getD 8 0,l.getD 9 0,l.getD 10 0,l.getD 11 0 == 1,l.getD 12 0,l.getD 13 0,l.getD 14 0,l.getD 15 0,l.getD 16 0,sg (l.getD 17 0),sg (l.getD 18 0),sg (l.getD 19 0),sg (l.getD 20 0),l.getD 21 0,sg (l.getD 22 0),sg (l.getD 23 0)⟩
theorem xou:xtK 8=18446744073709551616:=rfl
theorem xl7:xtK 4=4294967296:=rfl
theorem xgZ:xtK 1=256:=rfl
theorem xp6 (h:Hd) (hc:ckH h=0):xcZ h=true∧xbW h=true∧xcA h=true∧xoc h=true:=by
 unfold ckH at hc
 split at hc
 ·split at hc
  ·split at hc
   ·split at hc
    ·exact⟨by assumption,by assumption,by assumption,by assumption⟩
    ·omega
   ·omega
  ·omega
 ·omega
theorem xeL (x:Int) (h0:0≤x) (h1:x<4294967296):xrL (sg x)=x:=by
 unfold sg xrL
 split <;> omega
theorem xsn (h:Hd) (hm:xi1 h) (hc:ckH h=0):xlc xkx (xmP h):=by
 obtain⟨c1,c2,c3,c4⟩:=xp6 h hc
 simp only[xcZ,xdJ,xbW,xcA,xoc,Bool.and_eq_true,decide_eq_true_eq] at c1 c2 c3 c4
 unfold xi1 U64 U8 at hm
 have hcl:0≤xpf h.cl∧xpf h.cl<256:=by unfold xpf;split <;> omega
 simp only[xkx,xmP,xlc,xou,xl7,xgZ,xrL,and_true]
 refine⟨?_,?_,?_,?_,?_,?_,?_,?_,?_,?_,?_,hcl,?_,?_,?_,?_,?_,?_,?_,?_,?_,?_,?_,?_⟩ <;> omega
def mgH:List Int:=[80,77,84,105,108,101,115]
def xsV:List Int:=[80,77,84,105,108,101,115,3]
def xhY (h:Hd):List Int:=xsV++xjj xkx (xmP h)
def xhq (h:Hd):List Int × Int:=if ckH h=0 then (xhY h,0) else ([],ckH h)
def xvA (l:List Int):Hd:=xg1 (xdY xkx (l.drop 8))
def xcD (l:List Int):Hd × Int :=
 if l.length<127 then (xaa,3) else
 if l.take 7≠mgH then (xaa,12) else
 if l.getD 7 0≠3 then (xaa,13) else
 if 1<l.getD 96 0 then (xaa,4) else
 if ckH (xvA l)=0 then (xvA l,0) else (xaa,ckH (xvA l))
theorem xes:xoe xkx=119:=rfl
theorem xpP (h:Hd) (hm:xi1 h) (hc:ckH h=0):(xhY h).length=127:=by
 rw[xhY,List.length_append,xpT _ _ (xsn h hm hc),xes];rfl
theorem xxd (l:List Int) (y:Hd) (h:xcD l=(y,0)):127≤l.length∧l.take 7=mgH∧l.getD 7 0=3∧l.getD 96 0≤1∧y=xvA l∧ckH y=0:=by
 unfold xcD at h
 split at h
 ·simp at h
 split at h
 ·simp at h
 split at h
 ·simp at h
 split at h
 ·simp at h
 split at h
 ·obtain⟨e,-⟩:=Prod.mk.injEq .. ▸ h
  subst e
  refine⟨by omega,?_,?_,by omega,rfl,by assumption⟩
  ·rename_i h1 _ _ _;exact Classical.not_not.1 h1
  ·rename_i h1 _ _;exact Classical.not_not.1 h1
 ·obtain⟨-,e⟩:=Prod.mk.injEq .. ▸ h
  contradiction
theorem xwy (xs:List Int) (h:xlc xkx xs) (hcl:xs.getD 11 0≤1):xmP (xg1 xs)=xs:=by
 rcases xs with _|⟨x0,xs⟩
 ·exact h.elim
 obtain⟨h0,h⟩:=h
 rcases xs with _|⟨x1,xs⟩
 ·exact h.elim
 obtain⟨h1,h⟩:=h
 rcases xs with _|⟨x2,xs⟩
 ·exact h.elim
 obtain⟨h2,h⟩:=h
 rcases xs with _|⟨x3,xs⟩
 ·exact h.elim
 obtain⟨h3,h⟩:=h
 rcases xs with _|⟨x4,xs⟩
 ·exact h.elim
 obtain⟨h4,h⟩:=h
 rcases xs with _|⟨x5,xs⟩
 ·exact h.elim
 obtain⟨h5,h⟩:=h
 rcases xs with _|⟨x6,xs⟩
 ·exact h.elim
 obtain⟨h6,h⟩:=h
 rcases xs with _|⟨x7,xs⟩
 ·exact h.elim
 obtain⟨h7,h⟩:=h
 rcases xs with _|⟨x8,xs⟩
 ·exact h.elim
 obtain⟨h8,h⟩:=h
 rcases xs with _|⟨x9,xs⟩
 ·exact h.elim
 obtain⟨h9,h⟩:=h
 rcases xs with _|⟨x10,xs⟩
 ·exact h.elim
 obtain⟨h10,h⟩:=h
 rcases xs with _|⟨x11,xs⟩
 ·exact h.elim
 obtain⟨h11,h⟩:=h
 rcases xs with _|⟨x12,xs⟩
 ·exact h.elim
 obtain⟨h12,h⟩:=h
 rcases xs with _|⟨x13,xs⟩
 ·exact h.elim
 obtain⟨h13,h⟩:=h
 rcases xs with _|⟨x14,xs⟩
 ·exact h.elim
 obtain⟨h14,h⟩:=h
 rcases xs with _|⟨x15,xs⟩
 ·exact h.elim
 obtain⟨h15,h⟩:=h
 rcases xs with _|⟨x16,xs⟩
 ·exact h.elim
 obtain⟨h16,h⟩:=h
 rcases xs with _|⟨x17,xs⟩
 ·exact h.elim
 obtain⟨h17,h⟩:=h
 rcases xs with _|⟨x18,xs⟩
 ·exact h.elim
 obtain⟨h18,h⟩:=h
 rcases xs with _|⟨x19,xs⟩
 ·exact h.elim
 obtain⟨h19,h⟩:=h
 rcases xs with _|⟨x20,xs⟩
 ·exact h.elim
 obtain⟨h20,h⟩:=h
 rcases xs with _|⟨x21,xs⟩
 ·exact h.elim
 obtain⟨h21,h⟩:=h
 rcases xs with _|⟨x22,xs⟩
 ·exact h.elim
 obtain⟨h22,h⟩:=h
 rcases xs with _|⟨x23,xs⟩
 ·exact h.elim
 obtain⟨h23,h⟩:=h
 rcases xs with _|⟨y,xs⟩
 ·simp only[List.getD_cons_zero,List.getD_cons_succ] at hcl
  simp only[xou,xl7,xgZ] at h0 h1 h2 h3 h4 h5 h6 h7 h8 h9 h10 h11 h12 h13 h14 h15 h16 h17 h18 h19 h20 h21 h22 h23
  have e:xpf (x11 == 1)=x11:=by
   rcases(by omega:x11=0∨x11=1) with rfl|rfl <;> rfl
  simp only[xmP,xg1,List.getD_cons_zero,List.getD_cons_succ,e,xeL x17 h17.1 h17.2,xeL x18 h18.1 h18.2,xeL x19 h19.1 h19.2,xeL x20 h20.1 h20.2,xeL x22 h22.1 h22.2,xeL x23 h23.1 h23.2]
 ·exact h.elim
theorem xux (xs:List Int) (h:xlc xkx xs):xi1 (xg1 xs):=by
 rcases xs with _|⟨x0,xs⟩
 ·exact h.elim
 obtain⟨h0,h⟩:=h
 rcases xs with _|⟨x1,xs⟩
 ·exact h.elim
 obtain⟨h1,h⟩:=h
 rcases xs with _|⟨x2,xs⟩
 ·exact h.elim
 obtain⟨h2,h⟩:=h
 rcases xs with _|⟨x3,xs⟩
 ·exact h.elim
 obtain⟨h3,h⟩:=h
 rcases xs with _|⟨x4,xs⟩
 ·exact h.elim
 obtain⟨h4,h⟩:=h
 rcases xs with _|⟨x5,xs⟩
 ·exact h.elim
 obtain⟨h5,h⟩:=h
 rcases xs with _|⟨x6,xs⟩
 ·exact h.elim
 obtain⟨h6,h⟩:=h
 rcases xs with _|⟨x7,xs⟩
 ·exact h.elim
 obtain⟨h7,h⟩:=h
 rcases xs with _|⟨x8,xs⟩
 ·exact h.elim
 obtain⟨h8,h⟩:=h
 rcases xs with _|⟨x9,xs⟩
 ·exact h.elim
 obtain⟨h9,h⟩:=h
 rcases xs with _|⟨x10,xs⟩
 ·exact h.elim
 obtain⟨h10,h⟩:=h
 rcases xs with _|⟨x11,xs⟩
 ·exact h.elim
 obtain⟨h11,h⟩:=h
 rcases xs with _|⟨x12,xs⟩
 ·exact h.elim
 obtain⟨h12,h⟩:=h
 rcases xs with _|⟨x13,xs⟩
 ·exact h.elim
 obtain⟨h13,h⟩:=h
 rcases xs with _|⟨x14,xs⟩
 ·exact h.elim
 obtain⟨h14,h⟩:=h
 rcases xs with _|⟨x15,xs⟩
 ·exact h.elim
 obtain⟨h15,h⟩:=h
 rcases xs with _|⟨x16,xs⟩
 ·exact h.elim
 obtain⟨h16,h⟩:=h
 rcases xs with _|⟨x17,xs⟩
 ·exact h.elim
 obtain⟨h17,h⟩:=h
 rcases xs with _|⟨x18,xs⟩
 ·exact h.elim
 obtain⟨h18,h⟩:=h
 rcases xs with _|⟨x19,xs⟩
 ·exact h.elim
 obtain⟨h19,h⟩:=h
 rcases xs with _|⟨x20,xs⟩
 ·exact h.elim
 obtain⟨h20,h⟩:=h
 rcases xs with _|⟨x21,xs⟩
 ·exact h.elim
 obtain⟨h21,h⟩:=h
 rcases xs with _|⟨x22,xs⟩
 ·exact h.elim
 obtain⟨h22,h⟩:=h
 rcases xs with _|⟨x23,xs⟩
 ·exact h.elim
 obtain⟨h23,h⟩:=h
 simp only[xou,xl7,xgZ] at h0 h1 h2 h3 h4 h5 h6 h7 h8 h9 h10 h11 h12 h13 h14 h15 h16 h17 h18 h19 h20 h21 h22 h23
 simp only[xi1,U64,U8,xg1,List.getD_cons_zero,List.getD_cons_succ]
 omega
theorem xqR (l:List Int) (n:Nat):xjw ((l.drop n).take 1)=l.getD n 0:=by
 induction n generalizing l with
 | zero =>
  cases l with
  | nil=>rfl
  | cons c l=>simp[xjw]
 | succ n ih =>
  cases l with
  | nil=>simp[xjw]
  | cons c l=>rw[List.drop_succ_cons,ih,List.getD_cons_succ]
theorem xtH (l:List Int):(xdY xkx (l.drop 8)).getD 11 0=l.getD 96 0:=by
 simp only[xkx,xdY,List.getD_cons_succ,List.getD_cons_zero,List.drop_drop,xqR]
theorem xyR (l:List Int) (h:l.take 7=mgH) (h3:l.getD 7 0=3):l.take 8=xsV:=by
 rcases l with _|⟨a0,l⟩
 ·simp[mgH] at h
 rcases l with _|⟨a1,l⟩
 ·simp[mgH] at h h3
 rcases l with _|⟨a2,l⟩
 ·simp[mgH] at h h3
 rcases l with _|⟨a3,l⟩
 ·simp[mgH] at h h3
 rcases l with _|⟨a4,l⟩
 ·simp[mgH] at h h3
 rcases l with _|⟨a5,l⟩
 ·simp[mgH] at h h3
 rcases l with _|⟨a6,l⟩
 ·simp[mgH] at h h3
 rcases l with _|⟨a7,l⟩
 ·simp[mgH] at h h3
 simp only[List.take_succ_cons,List.take_zero,mgH,List.cons.injEq,and_true] at h
 simp only[List.getD_cons_zero,List.getD_cons_succ] at h3
 obtain⟨rfl,rfl,rfl,rfl,rfl,rfl,rfl⟩:=h
 subst h3
 rfl
theorem xqO (l:List Int) (y:Hd) (hl:xtt l) (h:xcD l=(y,0)):xi1 y∧ckH y=0∧xhY y=l.take 127:=by
 obtain⟨h1,h2,h3,h4,rfl,h6⟩:=xxd l y h
 have hd:xtt (l.drop 8):=fun c hc=>hl c (List.mem_of_mem_drop hc)
 have hs:xoe xkx≤(l.drop 8).length:=by rw[List.length_drop,xes];omega
 have hf:=xjs xkx _ hd hs
 have hc:(xdY xkx (l.drop 8)).getD 11 0≤1:=by rw[xtH];exact h4
 refine⟨xux _ hf,h6,?_⟩
 rw[xhY,xvA,xwy _ hf hc,xnc _ _ hd hs,xes,← xyR l h2 h3,← List.take_add]
open Go.RowKit
set_option maxRecDepth 20000
theorem xrU (b:Bool) (w:World):Calls Tryz.prog 223 #[.bool b] w fun e w'=>e=.returned (.int .u8 (xpf b))∧w=w':=by
 cases b
 ·go_enter Tryz.func223,Tryz.ntmps223
  go_wp2
  go_ret
  exact⟨rfl,rfl⟩
 ·go_enter Tryz.func223,Tryz.ntmps223
  go_wp2
  go_ret
  exact⟨rfl,rfl⟩
theorem xbB {a b:Bool} (h:a=b):Ending.returned (.bool a)=.returned (.bool b):=by rw[h]
theorem xbK (n lo hi:Int) (w:World):Calls Tryz.prog 185 #[.int .i64 n,.int .i64 lo,.int .i64 hi] w fun e w'=>e=.returned (.bool (decide (lo≤n) && decide (n≤hi)))∧w=w':=by
 cases h:decide (lo≤n)
 ·go_enter Tryz.func185,Tryz.ntmps185
  go_wp2
  go_ret
  exact⟨rfl,rfl⟩
 ·go_enter Tryz.func185,Tryz.ntmps185
  go_wp2
  go_ret
  exact⟨rfl,rfl⟩
theorem xfq (f l:Int) (w:World) (hf:U64 f) (hl:U64 l):Calls Tryz.prog 247 #[.agg #[.int .u64 f,.int .u64 l]] w fun e w'=>e=.returned (.bool (xdJ f l))∧Below w.heap.size w w':=by
 unfold U64 at hf hl
 by_cases h:f≤1099511627776
 ·have hd:decide (f≤1099511627776)=true:=by simpa using h
  have hw:IntKind.u64.wrap (1099511627776 - f)=1099511627776 - f:=by rw[wrap_u64];omega
  have he:Hid (decide (l≤1099511627776 - f)=xdJ f l):=by
   apply lH
   unfold xdJ
   rw[hd,Bool.true_and,Bool.eq_iff_iff,Bool.and_eq_true,decide_eq_true_eq,decide_eq_true_eq,decide_eq_true_eq]
   omega
  clear h hf hl
  go_enter Tryz.func247,Tryz.ntmps247
  go_wp2
  go_ret
  exact⟨xbB he.out,(Below.refl _ _).alloc (Nat.le_refl _) _⟩
 ·have hd:decide (f≤1099511627776)=false:=by simpa using h
  have he:Hid (false=xdJ f l):=by
   apply lH
   unfold xdJ
   rw[hd,Bool.false_and]
  clear h hf hl
  go_enter Tryz.func247,Tryz.ntmps247
  go_wp2
  go_ret
  exact⟨xbB he.out,(Below.refl _ _).alloc (Nat.le_refl _) _⟩
theorem xd1 (f l:Int) (w:World) (hf:U64 f) (hl:U64 l):Calls Tryz.prog 184 #[.agg #[.int .u64 f,.int .u64 l]] w fun e w'=>e=.returned (.bool (xdJ f l))∧Below w.heap.size w w':=by
 unfold U64 at hf hl
 by_cases h:f≤1099511627776
 ·have hd:decide (f≤1099511627776)=true:=by simpa using h
  by_cases g:l≤1099511627776
  ·have hg:decide (l≤1099511627776)=true:=by simpa using g
   have hw:IntKind.u64.wrap (f+l)=f+l:=by rw[wrap_u64];omega
   have he:Hid (decide (f+l≤1099511627776)=xdJ f l):=by
    apply lH
    unfold xdJ
    rw[hd,hg,Bool.true_and,Bool.true_and]
   clear h g hf hl
   go_enter Tryz.func184,Tryz.ntmps184
   go_wp2
   go_ret
   exact⟨xbB he.out,(Below.refl _ _).alloc (Nat.le_refl _) _⟩
  ·have hg:decide (l≤1099511627776)=false:=by simpa using g
   have he:Hid (false=xdJ f l):=by
    apply lH
    unfold xdJ
    rw[hd,hg,Bool.true_and,Bool.false_and]
   clear h g hf hl
   go_enter Tryz.func184,Tryz.ntmps184
   go_wp2
   go_ret
   exact⟨xbB he.out,(Below.refl _ _).alloc (Nat.le_refl _) _⟩
 ·have hd:decide (f≤1099511627776)=false:=by simpa using h
  have he:Hid (false=xdJ f l):=by
   apply lH
   unfold xdJ
   rw[hd,Bool.false_and]
  clear h hf hl
  go_enter Tryz.func184,Tryz.ntmps184
  go_wp2
  go_ret
  exact⟨xbB he.out,(Below.refl _ _).alloc (Nat.le_refl _) _⟩
theorem xqa (x:Int) (w:World):Calls Tryz.prog 377 #[.int .i64 x] w fun e w'=>e=.returned (.bool false)∧w=w':=by
 have h:(x != x)=false:=by simp
 go_enter Tryz.func377,Tryz.ntmps377
 go_wp2
 go_ret
 exact⟨rfl,rfl⟩
theorem xto (x y:Int) (w:World):Calls Tryz.prog 360 #[.int .i64 x,.int .i64 y] w fun e w'=>e=.returned (.bool (decide (x<y)))∧w=w':=by
 go_enter Tryz.func360,Tryz.ntmps360
 go_wp2_with (go_at_call 377;refine(xqa _ _).mono ?_;rintro e w' ⟨rfl,rfl⟩)
 go_ret
 exact⟨rfl,rfl⟩
theorem xuz (x y:Int) (w:World):Calls Tryz.prog 360 #[.int .i64 x,.int .i64 y] w fun e w'=>e=.returned (.bool (decide (x<y)))∧w'=w:=(xto x y w).mono fun _ _ ⟨h,g⟩=>⟨h,g.symm⟩
def xdz (k:IntKind) (w:World) (v:Value) (l:List Int):Prop :=
 ∃ b cap,v=.slice (some ⟨b,0,none⟩) l.length cap∧l.length≤cap∧cap≤maxLen∧b<w.heap.size∧∀ i,i<l.length→w.cell? ⟨b,i,none⟩=some (.int k (l.getD i 0))
theorem xdz.below {k:IntKind} {w w':World} {v:Value} {l:List Int} (h:xdz k w v l) (hb:Below w.heap.size w w'):xdz k w' v l:=by
 obtain⟨b,cap,h1,h2,h3,h4,h5⟩:=h
 exact⟨b,cap,h1,h2,h3,Nat.lt_of_lt_of_le h4 hb.size,fun i hi=>(hb.cell (p:=⟨b,i,none⟩) h4).trans (h5 i hi)⟩
def xue (l:List Int):Prop:=∀ i,i+1<l.length→l.getD i 0≤l.getD (i+1) 0
theorem xdH {B:Nat} {w w':World} (h:Below B w w') (n:Nat):Below B w (w'.drewN n):=h.trans ⟨rfl,rfl,rfl,Nat.le_refl _,fun _ _=>rfl⟩
theorem xn8 (v:Value) (l:List Int) (w:World) (hv:xdz .i64 w v l):Calls Tryz.prog 327 #[v] w fun e w'=>∃ b,e=.returned (.bool b)∧(b=true↔xue l)∧Below w.heap.size w w':=by
 obtain⟨b,cap,rfl,hc1,hc2,hb,hcell⟩:=hv
 have HC:=lH hcell;clear hcell
 have hml:l.length≤9223372036854775807:=by unfold maxLen at hc2;omega
 have hw:IntKind.i64.wrap ((l.length:Int) - 1)=(l.length:Int) - 1:=by rw[IntKind.wrap_i64] <;> omega
 go_enter Tryz.func327,Tryz.ntmps327
 go_wp2_with fail
 go_loopw [3] (fun i wr=>∃ k:Nat,k≤l.length∧i=.int .i64 ((k:Int) - 1)∧(∀ j,k≤j+1→j+1<l.length→l.getD j 0≤l.getD (j+1) 0)∧Below w.heap.size w wr) (fun i _=>(intOf i+1).toNat)
 case atStart=>exact⟨l.length,Nat.le_refl _,rfl,fun j h1 h2=>by omega,Below.refl _ _⟩
 case round =>
  obtain⟨k,hk,rfl,hr,hbw⟩:=hrel
  have HR:=lH hr;clear hr
  by_cases h2:2≤k
  ·obtain⟨j,rfl⟩:∃ j,k=j+2:=⟨k - 2,by omega⟩
   have e1:((j+2:Nat):Int) - 1=((j+1:Nat):Int):=by omega
   rw[e1]
   clear e1
   have c1:=(hbw.cell (p:=⟨b,j+1,none⟩) hb).trans (HC.out (j+1) (by omega))
   have c0:=(hbw.cell (p:=⟨b,j,none⟩) hb).trans (HC.out j (by omega))
   obtain⟨y,hy⟩:∃ y,l.getD (j+1) 0=y:=⟨_,rfl⟩
   obtain⟨x,hx⟩:∃ x,l.getD j 0=x:=⟨_,rfl⟩
   rw[hy] at c1
   rw[hx] at c0
   have HX:=lH hx
   have HY:=lH hy
   clear hx hy
   obtain⟨i,hi⟩:∃ i,j+1=i:=⟨_,rfl⟩
   rw[hi] at c1 ⊢
   have hgt:decide (0<(i:Int))=true:=by simp;omega
   have hsub:(i:Int) - 1=(j:Int):=by omega
   have hwj:IntKind.i64.wrap (j:Int)=(j:Int):=by rw[IntKind.wrap_i64] <;> omega
   have hi1:i<l.length:=by omega
   have HI:=lH hi;clear hi
   have hj1:j<l.length:=by omega
   by_cases hlt:y<x
   ·have hd:decide (y<x)=true:=by simpa using hlt
    have HB:=lH hbw;clear hbw
    go_wp2_with fail
    go_quiet (first|(go_at_call 360;(with_reducible refine Calls.quiet_of_same (xuz _ _ _)))|fail)
    go_wp2_with fail
    go_ret
    refine⟨false,rfl,⟨fun h=>(by cases h),fun h=>?_⟩,xdH HB.out nq⟩
    have hle:=h j (by rw[HI.out];exact hi1)
    rw[HX.out,HY.out] at hle
    omega
   ·have hd:decide (y<x)=false:=by simpa using hlt
    go_wp2_with fail
    go_quiet (first|(go_at_call 360;(with_reducible refine Calls.quiet_of_same (xuz _ _ _)))|fail)
    go_wp2_with fail
    go_roundw
    case rel =>
     refine⟨i,by omega,by congr 1;omega,fun m h1 h3=>?_,xdH hbw nq⟩
     rcases Nat.lt_or_ge m i with h4|h4
     ·obtain rfl:m=j:=by have:=HI.out;omega
      rw[HX.out,HY.out]
      exact hlt
     ·exact HR.out m (by have:=HI.out;omega) h3
    case measure=>simp[intOf];omega
  ·go_wp2_with fail
   go_ret
   exact⟨true,rfl,⟨fun _ m hm=>HR.out m (by omega) hm,fun _=>rfl⟩,hbw⟩
theorem xiO (v:Value) (l:List Int) (w:World) (hv:xdz .i64 w v l):Calls Tryz.prog 298 #[v] w fun e w'=>∃ b,e=.returned (.bool b)∧(b=true↔xue l)∧Below w.heap.size w w':=by
 have HV:=lH hv;clear hv
 go_enter Tryz.func298,Tryz.ntmps298
 go_wp2_with fail
 refine(xn8 v l w HV.out).mono ?_
 rintro e w1 ⟨b,rfl,hb,hbw⟩
 go_wp2_with fail
 go_ret
 exact⟨b,rfl,hb,hbw⟩
theorem xa4 (k:IntKind) (w:World) (l:List Int) (T:TypeId) (n:Nat) (f:Nat × Nat) (hn:n=w.heap.size) (h:l.length≤maxLen):xdz k (w.alloc (.cells (l.map (Value.int k)).toArray T f)) (.slice (some ⟨n,0,none⟩) l.length l.length) l:=by
 subst hn
 refine⟨_,_,rfl,Nat.le_refl _,h,by rw[World.size_alloc];omega,fun i hi=>?_⟩
 rw[World.cell?_alloc_mark]
 simp[hi]
set_option maxRecDepth 20000 in
theorem xiy (h:Hd) (w:World):Calls Tryz.prog 169 #[.agg #[.int .u64 h.rf,.int .u64 h.rl,.int .u64 h.mf,.int .u64 h.ml,.int .u64 h.lf,.int .u64 h.ll,.int .u64 h.df,.int .u64 h.dl,.int .u64 h.ad,.int .u64 h.en,.int .u64 h.co,.bool h.cl,.int .u8 h.inn,.int .u8 h.out,.int .u8 h.knd,.int .i64 h.z0,.int .i64 h.z1,.int .i64 h.lo0,.int .i64 h.la0,.int .i64 h.lo1,.int .i64 h.la1,.int .i64 h.zm,.int .i64 h.lon,.int .i64 h.lat]] w fun e w'=>e=.returned (.agg #[.int .u64 h.rf,.int .u64 h.rl,.int .u64 h.mf,.int .u64 h.ml,.int .u64 h.lf,.int .u64 h.ll,.int .u64 h.df,.int .u64 h.dl])∧Below w.heap.size w w':=by
 go_enter Tryz.func169,Tryz.ntmps169
 go_wp2_with fail
 refine bodyPost_ret (v:=.agg #[.int .u64 h.rf,.int .u64 h.rl,.int .u64 h.mf,.int .u64 h.ml,.int .u64 h.lf,.int .u64 h.ll,.int .u64 h.df,.int .u64 h.dl]) (by simp[results,Tryz.results169,go_sem]) rfl ⟨rfl,by go_grown⟩
theorem xyU (a b c:Int):xue [a,b,c]↔a≤b∧b≤c:=by
 constructor
 ·intro h
  exact⟨h 0 (by simp),h 1 (by simp)⟩
 ·rintro⟨h0,h1⟩ i hi
  simp only[List.length_cons,List.length_nil] at hi
  rcases(by omega:i=0∨i=1) with rfl|rfl
  ·exact h0
  ·exact h1
theorem xzl (a b c d:Int):xue [a,b,c,d]↔a≤b∧b≤c∧c≤d:=by
 constructor
 ·intro h
  exact⟨h 0 (by simp),h 1 (by simp),h 2 (by simp)⟩
 ·rintro⟨h0,h1,h2⟩ i hi
  simp only[List.length_cons,List.length_nil] at hi
  rcases(by omega:i=0∨i=1∨i=2) with rfl|rfl|rfl
  ·exact h0
  ·exact h1
  ·exact h2
theorem xrr (a b c d:Int) (w:World) (n:Nat) (hn:n=w.heap.size):Calls Tryz.prog 298 #[.slice (some ⟨n,0,none⟩) 4 4] (w.alloc (.cells #[.int .i64 a,.int .i64 b,.int .i64 c,.int .i64 d] 3)) fun e w'=>e=.returned (.bool (decide (a≤b) && (decide (b≤c) && decide (c≤d))))∧Below w.heap.size w w':=by
 refine(xiO _ [a,b,c,d] _ (xa4 .i64 w [a,b,c,d] 3 n (0,0) hn (by simp[maxLen]))).mono ?_
 rintro e w' ⟨r,rfl,hr,hb⟩
 refine⟨?_,((Below.refl _ _).alloc (Nat.le_refl _) _).trans (hb.mono (by rw[World.size_alloc];omega))⟩
 congr 2
 rw[xzl] at hr
 rw[Bool.eq_iff_iff,hr]
 simp
theorem xqp (a b c:Int) (w:World) (n:Nat) (hn:n=w.heap.size):Calls Tryz.prog 298 #[.slice (some ⟨n,0,none⟩) 3 3] (w.alloc (.cells #[.int .i64 a,.int .i64 b,.int .i64 c] 3)) fun e w'=>e=.returned (.bool (decide (a≤b) && decide (b≤c)))∧Below w.heap.size w w':=by
 refine(xiO _ [a,b,c] _ (xa4 .i64 w [a,b,c] 3 n (0,0) hn (by simp[maxLen]))).mono ?_
 rintro e w' ⟨r,rfl,hr,hb⟩
 refine⟨?_,((Below.refl _ _).alloc (Nat.le_refl _) _).trans (hb.mono (by rw[World.size_alloc];omega))⟩
 congr 2
 rw[xyU] at hr
 rw[Bool.eq_iff_iff,hr]
 simp
set_option maxRecDepth 20000 in
theorem xle (h:Hd) (w:World):Calls Tryz.prog 248 #[.agg #[.int .u64 h.rf,.int .u64 h.rl,.int .u64 h.mf,.int .u64 h.ml,.int .u64 h.lf,.int .u64 h.ll,.int .u64 h.df,.int .u64 h.dl,.int .u64 h.ad,.int .u64 h.en,.int .u64 h.co,.bool h.cl,.int .u8 h.inn,.int .u8 h.out,.int .u8 h.knd,.int .i64 h.z0,.int .i64 h.z1,.int .i64 h.lo0,.int .i64 h.la0,.int .i64 h.lo1,.int .i64 h.la1,.int .i64 h.zm,.int .i64 h.lon,.int .i64 h.lat]] w fun e w'=>e=.returned (.bool (xcA h))∧Below w.heap.size w w':=by
 obtain⟨b1,hb1⟩:∃ b,(decide (0≤h.z0) && (decide (h.z0≤h.z1) && decide (h.z1≤26)))=b:=⟨_,rfl⟩
 obtain⟨b2,hb2⟩:∃ b,(decide (0≤h.zm) && decide (h.zm≤26))=b:=⟨_,rfl⟩
 have he:Hid ((b1 && b2)=xcA h):=by
  apply lH
  unfold xcA
  rw[← hb1,← hb2]
  simp only[Bool.and_assoc]
 have R4:∀ W n,n=W.heap.size→Calls Tryz.prog 298 #[.slice (some ⟨n,0,none⟩) 4 4] (W.alloc (.cells #[.int .i64 0,.int .i64 h.z0,.int .i64 h.z1,.int .i64 26] 3)) fun e w'=>e=.returned (.bool b1)∧Below W.heap.size W w':=fun W n hn=>hb1 ▸ xrr 0 h.z0 h.z1 26 W n hn
 have R3:∀ W n,n=W.heap.size→Calls Tryz.prog 298 #[.slice (some ⟨n,0,none⟩) 3 3] (W.alloc (.cells #[.int .i64 0,.int .i64 h.zm,.int .i64 26] 3)) fun e w'=>e=.returned (.bool b2)∧Below W.heap.size W w':=fun W n hn=>hb2 ▸ xqp 0 h.zm 26 W n hn
 have H4:=lH R4
 have H3:=lH R3
 clear R4 R3 hb1 hb2
 cases b1
 ·go_enter Tryz.func248,Tryz.ntmps248
  go_wp2_with fail
  refine(H4.out _ _ (by simp)).mono ?_
  rintro e w1 ⟨rfl,hb⟩
  have hbw:Below w.heap.size w w1:=Below.trans (by go_grown) (hb.mono (by rw[World.size_alloc];omega))
  clear hb
  go_wp2_with fail
  go_ret
  exact⟨xbB he.out,hbw⟩
 ·go_enter Tryz.func248,Tryz.ntmps248
  go_wp2_with fail
  refine(H4.out _ _ (by simp)).mono ?_
  rintro e w1 ⟨rfl,hb⟩
  have hbw:Below w.heap.size w w1:=Below.trans (by go_grown) (hb.mono (by rw[World.size_alloc];omega))
  have c1:w1.cell? ⟨w.heap.size,21,none⟩=some (.int .i64 h.zm):=(hb.cell (p:=⟨w.heap.size,21,none⟩) (by simp)).trans (by simp[go_sem])
  clear hb
  go_wp2_with fail
  refine(H3.out _ _ (by simp)).mono ?_
  rintro e w2 ⟨rfl,hb⟩
  have hbw2:Below w.heap.size w w2:=hbw.trans (hb.mono hbw.size)
  clear hb hbw
  go_wp2_with fail
  go_ret
  exact⟨xbB he.out,hbw2⟩
set_option maxRecDepth 20000 in
theorem xkg (h:Hd) (w:World):Calls Tryz.prog 249 #[.agg #[.int .u64 h.rf,.int .u64 h.rl,.int .u64 h.mf,.int .u64 h.ml,.int .u64 h.lf,.int .u64 h.ll,.int .u64 h.df,.int .u64 h.dl,.int .u64 h.ad,.int .u64 h.en,.int .u64 h.co,.bool h.cl,.int .u8 h.inn,.int .u8 h.out,.int .u8 h.knd,.int .i64 h.z0,.int .i64 h.z1,.int .i64 h.lo0,.int .i64 h.la0,.int .i64 h.lo1,.int .i64 h.la1,.int .i64 h.zm,.int .i64 h.lon,.int .i64 h.lat]] w fun e w'=>e=.returned (.bool (xoc h))∧Below w.heap.size w w':=by
 obtain⟨b0,hb0⟩:∃ b,(decide (-1800000000≤h.lo0) && (decide (h.lo0≤h.lo1) && decide (h.lo1≤1800000000)))=b:=⟨_,rfl⟩
 obtain⟨b1,hb1⟩:∃ b,(decide (-900000000≤h.la0) && (decide (h.la0≤h.la1) && decide (h.la1≤900000000)))=b:=⟨_,rfl⟩
 obtain⟨b2,hb2⟩:∃ b,(decide (-1800000000≤h.lon) && decide (h.lon≤1800000000))=b:=⟨_,rfl⟩
 obtain⟨b3,hb3⟩:∃ b,(decide (-900000000≤h.lat) && decide (h.lat≤900000000))=b:=⟨_,rfl⟩
 have he:Hid ((b0 && (b1 && (b2 && b3)))=xoc h):=by
  apply lH
  unfold xoc
  rw[← hb0,← hb1,← hb2,← hb3]
  simp only[Bool.and_assoc]
 have R0:∀ W n,n=W.heap.size→Calls Tryz.prog 298 #[.slice (some ⟨n,0,none⟩) 4 4] (W.alloc (.cells #[.int .i64 (-1800000000),.int .i64 h.lo0,.int .i64 h.lo1,.int .i64 1800000000] 3)) fun e w'=>e=.returned (.bool b0)∧Below W.heap.size W w':=fun W n hn=>hb0 ▸ xrr (-1800000000) h.lo0 h.lo1 1800000000 W n hn
 have H0:=lH R0;clear R0 hb0
 have R1:∀ W n,n=W.heap.size→Calls Tryz.prog 298 #[.slice (some ⟨n,0,none⟩) 4 4] (W.alloc (.cells #[.int .i64 (-900000000),.int .i64 h.la0,.int .i64 h.la1,.int .i64 900000000] 3)) fun e w'=>e=.returned (.bool b1)∧Below W.heap.size W w':=fun W n hn=>hb1 ▸ xrr (-900000000) h.la0 h.la1 900000000 W n hn
 have H1:=lH R1;clear R1 hb1
 have R2:∀ W n,n=W.heap.size→Calls Tryz.prog 298 #[.slice (some ⟨n,0,none⟩) 3 3] (W.alloc (.cells #[.int .i64 (-1800000000),.int .i64 h.lon,.int .i64 1800000000] 3)) fun e w'=>e=.returned (.bool b2)∧Below W.heap.size W w':=fun W n hn=>hb2 ▸ xqp (-1800000000) h.lon 1800000000 W n hn
 have H2:=lH R2;clear R2 hb2
 have R3:∀ W n,n=W.heap.size→Calls Tryz.prog 298 #[.slice (some ⟨n,0,none⟩) 3 3] (W.alloc (.cells #[.int .i64 (-900000000),.int .i64 h.lat,.int .i64 900000000] 3)) fun e w'=>e=.returned (.bool b3)∧Below W.heap.size W w':=fun W n hn=>hb3 ▸ xqp (-900000000) h.lat 900000000 W n hn
 have H3:=lH R3;clear R3 hb3
 cases b0
 ·go_enter Tryz.func249,Tryz.ntmps249
  go_wp2_with fail
  refine(H0.out _ _ (by simp)).mono ?_
  rintro e w1 ⟨rfl,hb⟩
  have u1:Below w.heap.size w w1:=Below.trans (by go_grown) (hb.mono (by rw[World.size_alloc];omega))
  have c18:w1.cell? ⟨w.heap.size,18,none⟩=some (.int .i64 h.la0):=(hb.cell (p:=⟨w.heap.size,18,none⟩) (by simp)).trans (by simp[go_sem])
  have c20:w1.cell? ⟨w.heap.size,20,none⟩=some (.int .i64 h.la1):=(hb.cell (p:=⟨w.heap.size,20,none⟩) (by simp)).trans (by simp[go_sem])
  have c22:w1.cell? ⟨w.heap.size,22,none⟩=some (.int .i64 h.lon):=(hb.cell (p:=⟨w.heap.size,22,none⟩) (by simp)).trans (by simp[go_sem])
  have c23:w1.cell? ⟨w.heap.size,23,none⟩=some (.int .i64 h.lat):=(hb.cell (p:=⟨w.heap.size,23,none⟩) (by simp)).trans (by simp[go_sem])
  clear hb
  go_wp2_with fail
  go_ret
  exact⟨xbB he.out,u1⟩
 ·cases b1
  ·go_enter Tryz.func249,Tryz.ntmps249
   go_wp2_with fail
   refine(H0.out _ _ (by simp)).mono ?_
   rintro e w1 ⟨rfl,hb⟩
   have u1:Below w.heap.size w w1:=Below.trans (by go_grown) (hb.mono (by rw[World.size_alloc];omega))
   have c18:w1.cell? ⟨w.heap.size,18,none⟩=some (.int .i64 h.la0):=(hb.cell (p:=⟨w.heap.size,18,none⟩) (by simp)).trans (by simp[go_sem])
   have c20:w1.cell? ⟨w.heap.size,20,none⟩=some (.int .i64 h.la1):=(hb.cell (p:=⟨w.heap.size,20,none⟩) (by simp)).trans (by simp[go_sem])
   have c22:w1.cell? ⟨w.heap.size,22,none⟩=some (.int .i64 h.lon):=(hb.cell (p:=⟨w.heap.size,22,none⟩) (by simp)).trans (by simp[go_sem])
   have c23:w1.cell? ⟨w.heap.size,23,none⟩=some (.int .i64 h.lat):=(hb.cell (p:=⟨w.heap.size,23,none⟩) (by simp)).trans (by simp[go_sem])
   clear hb
   go_wp2_with fail
   refine(H1.out _ _ (by simp)).mono ?_
   rintro e w2 ⟨rfl,hb⟩
   have u2:=u1.trans (hb.mono u1.size)
   replace c18:=xam hb c18
   replace c20:=xam hb c20
   replace c22:=xam hb c22
   replace c23:=xam hb c23
   clear u1
   clear hb
   go_wp2_with fail
   go_ret
   exact⟨xbB he.out,u2⟩
  ·cases b2
   ·go_enter Tryz.func249,Tryz.ntmps249
    go_wp2_with fail
    refine(H0.out _ _ (by simp)).mono ?_
    rintro e w1 ⟨rfl,hb⟩
    have u1:Below w.heap.size w w1:=Below.trans (by go_grown) (hb.mono (by rw[World.size_alloc];omega))
    have c18:w1.cell? ⟨w.heap.size,18,none⟩=some (.int .i64 h.la0):=(hb.cell (p:=⟨w.heap.size,18,none⟩) (by simp)).trans (by simp[go_sem])
    have c20:w1.cell? ⟨w.heap.size,20,none⟩=some (.int .i64 h.la1):=(hb.cell (p:=⟨w.heap.size,20,none⟩) (by simp)).trans (by simp[go_sem])
    have c22:w1.cell? ⟨w.heap.size,22,none⟩=some (.int .i64 h.lon):=(hb.cell (p:=⟨w.heap.size,22,none⟩) (by simp)).trans (by simp[go_sem])
    have c23:w1.cell? ⟨w.heap.size,23,none⟩=some (.int .i64 h.lat):=(hb.cell (p:=⟨w.heap.size,23,none⟩) (by simp)).trans (by simp[go_sem])
    clear hb
    go_wp2_with fail
    refine(H1.out _ _ (by simp)).mono ?_
    rintro e w2 ⟨rfl,hb⟩
    have u2:=u1.trans (hb.mono u1.size)
    replace c18:=xam hb c18
    replace c20:=xam hb c20
    replace c22:=xam hb c22
    replace c23:=xam hb c23
    clear u1
    clear hb
    go_wp2_with fail
    refine(H2.out _ _ (by simp)).mono ?_
    rintro e w3 ⟨rfl,hb⟩
    have u3:=u2.trans (hb.mono u2.size)
    replace c18:=xam hb c18
    replace c20:=xam hb c20
    replace c22:=xam hb c22
    replace c23:=xam hb c23
    clear u2
    clear hb
    go_wp2_with fail
    go_ret
    exact⟨xbB he.out,u3⟩
   ·go_enter Tryz.func249,Tryz.ntmps249
    go_wp2_with fail
    refine(H0.out _ _ (by simp)).mono ?_
    rintro e w1 ⟨rfl,hb⟩
    have u1:Below w.heap.size w w1:=Below.trans (by go_grown) (hb.mono (by rw[World.size_alloc];omega))
    have c18:w1.cell? ⟨w.heap.size,18,none⟩=some (.int .i64 h.la0):=(hb.cell (p:=⟨w.heap.size,18,none⟩) (by simp)).trans (by simp[go_sem])
    have c20:w1.cell? ⟨w.heap.size,20,none⟩=some (.int .i64 h.la1):=(hb.cell (p:=⟨w.heap.size,20,none⟩) (by simp)).trans (by simp[go_sem])
    have c22:w1.cell? ⟨w.heap.size,22,none⟩=some (.int .i64 h.lon):=(hb.cell (p:=⟨w.heap.size,22,none⟩) (by simp)).trans (by simp[go_sem])
    have c23:w1.cell? ⟨w.heap.size,23,none⟩=some (.int .i64 h.lat):=(hb.cell (p:=⟨w.heap.size,23,none⟩) (by simp)).trans (by simp[go_sem])
    clear hb
    go_wp2_with fail
    refine(H1.out _ _ (by simp)).mono ?_
    rintro e w2 ⟨rfl,hb⟩
    have u2:=u1.trans (hb.mono u1.size)
    replace c18:=xam hb c18
    replace c20:=xam hb c20
    replace c22:=xam hb c22
    replace c23:=xam hb c23
    clear u1
    clear hb
    go_wp2_with fail
    refine(H2.out _ _ (by simp)).mono ?_
    rintro e w3 ⟨rfl,hb⟩
    have u3:=u2.trans (hb.mono u2.size)
    replace c18:=xam hb c18
    replace c20:=xam hb c20
    replace c22:=xam hb c22
    replace c23:=xam hb c23
    clear u2
    clear hb
    go_wp2_with fail
    refine(H3.out _ _ (by simp)).mono ?_
    rintro e w4 ⟨rfl,hb⟩
    have u4:=u3.trans (hb.mono u3.size)
    replace c18:=xam hb c18
    replace c20:=xam hb c20
    replace c22:=xam hb c22
    replace c23:=xam hb c23
    clear u3
    clear hb
    go_wp2_with fail
    go_ret
    exact⟨xbB he.out,u4⟩
theorem xaf {w:World} {g:Nat} {cs:Array Value} {t:TypeId} {fr:Nat × Nat} (h:w.heap[g]?=some (.cells cs t fr)) (i:Nat):w.cell? ⟨g,i,none⟩=cs[i]?:=by simp[World.cell?,h]
theorem xlv {w:World} {a:Addr} {v:Value} (h:w.cell? a=some v):a.block<w.heap.size:=by
 rcases Nat.lt_or_ge a.block w.heap.size with h'|h'
 ·exact h'
 ·simp[World.cell?,Array.getElem?_eq_none h'] at h
theorem xa8 {w w':World} {a:Addr} {v:Value} (hb:Below w.heap.size w w') (h:w.cell? a=some v):w'.cell? a=some v:=(hb.cell (p:=a) (xlv h)).trans h
def cH (h:Hd):Array Value:=#[.int .u64 h.rf,.int .u64 h.rl,.int .u64 h.mf,.int .u64 h.ml,.int .u64 h.lf,.int .u64 h.ll,.int .u64 h.df,.int .u64 h.dl,.int .u64 h.ad,.int .u64 h.en,.int .u64 h.co,.bool h.cl,.int .u8 h.inn,.int .u8 h.out,.int .u8 h.knd,.int .i64 h.z0,.int .i64 h.z1,.int .i64 h.lo0,.int .i64 h.la0,.int .i64 h.lo1,.int .i64 h.la1,.int .i64 h.zm,.int .i64 h.lon,.int .i64 h.lat]
def HAt (w:World) (b:Nat) (T:TypeId) (h:Hd):Prop:=w.heap[b]?=some (.cells (cH h) T (0,0))
theorem HAt.lt {w:World} {b:Nat} {T:TypeId} {h:Hd} (H:HAt w b T h):b<w.heap.size:=by
 rcases Nat.lt_or_ge b w.heap.size with h'|h'
 ·exact h'
 ·unfold HAt at H;rw[Array.getElem?_eq_none h'] at H;cases H
theorem HAt.below {w w':World} {B b:Nat} {T:TypeId} {h:Hd} (H:HAt w b T h) (hb:Below B w w') (hB:b<B):HAt w' b T h:=(hb.block b hB).trans H
theorem HAt.later {w w':World} {b:Nat} {T:TypeId} {h:Hd} (H:HAt w b T h) (hb:Below w.heap.size w w'):HAt w' b T h:=H.below hb H.lt
theorem HAt.made (w:World) (h:Hd) (T:TypeId):HAt (w.alloc (.cells (cH h) T)) w.heap.size T h:=heap_alloc_new w _
theorem at0 {w:World} {b:Nat} {T:TypeId} {h:Hd} (H:HAt w b T h):w.cell? ⟨b,0,none⟩=some (.int .u64 h.rf):=xaf H 0
theorem at1 {w:World} {b:Nat} {T:TypeId} {h:Hd} (H:HAt w b T h):w.cell? ⟨b,1,none⟩=some (.int .u64 h.rl):=xaf H 1
theorem at2 {w:World} {b:Nat} {T:TypeId} {h:Hd} (H:HAt w b T h):w.cell? ⟨b,2,none⟩=some (.int .u64 h.mf):=xaf H 2
theorem at3 {w:World} {b:Nat} {T:TypeId} {h:Hd} (H:HAt w b T h):w.cell? ⟨b,3,none⟩=some (.int .u64 h.ml):=xaf H 3
theorem at4 {w:World} {b:Nat} {T:TypeId} {h:Hd} (H:HAt w b T h):w.cell? ⟨b,4,none⟩=some (.int .u64 h.lf):=xaf H 4
theorem at5 {w:World} {b:Nat} {T:TypeId} {h:Hd} (H:HAt w b T h):w.cell? ⟨b,5,none⟩=some (.int .u64 h.ll):=xaf H 5
theorem at6 {w:World} {b:Nat} {T:TypeId} {h:Hd} (H:HAt w b T h):w.cell? ⟨b,6,none⟩=some (.int .u64 h.df):=xaf H 6
theorem at7 {w:World} {b:Nat} {T:TypeId} {h:Hd} (H:HAt w b T h):w.cell? ⟨b,7,none⟩=some (.int .u64 h.dl):=xaf H 7
theorem at8 {w:World} {b:Nat} {T:TypeId} {h:Hd} (H:HAt w b T h):w.cell? ⟨b,8,none⟩=some (.int .u64 h.ad):=xaf H 8
theorem at9 {w:World} {b:Nat} {T:TypeId} {h:Hd} (H:HAt w b T h):w.cell? ⟨b,9,none⟩=some (.int .u64 h.en):=xaf H 9
theorem xzI {w:World} {b:Nat} {T:TypeId} {h:Hd} (H:HAt w b T h):w.cell? ⟨b,10,none⟩=some (.int .u64 h.co):=xaf H 10
theorem xzi {w:World} {b:Nat} {T:TypeId} {h:Hd} (H:HAt w b T h):w.cell? ⟨b,11,none⟩=some (.bool h.cl):=xaf H 11
theorem xyt {w:World} {b:Nat} {T:TypeId} {h:Hd} (H:HAt w b T h):w.cell? ⟨b,12,none⟩=some (.int .u8 h.inn):=xaf H 12
theorem xyB {w:World} {b:Nat} {T:TypeId} {h:Hd} (H:HAt w b T h):w.cell? ⟨b,13,none⟩=some (.int .u8 h.out):=xaf H 13
theorem xys {w:World} {b:Nat} {T:TypeId} {h:Hd} (H:HAt w b T h):w.cell? ⟨b,14,none⟩=some (.int .u8 h.knd):=xaf H 14
theorem xyM {w:World} {b:Nat} {T:TypeId} {h:Hd} (H:HAt w b T h):w.cell? ⟨b,15,none⟩=some (.int .i64 h.z0):=xaf H 15
theorem xyL {w:World} {b:Nat} {T:TypeId} {h:Hd} (H:HAt w b T h):w.cell? ⟨b,16,none⟩=some (.int .i64 h.z1):=xaf H 16
theorem xyQ {w:World} {b:Nat} {T:TypeId} {h:Hd} (H:HAt w b T h):w.cell? ⟨b,17,none⟩=some (.int .i64 h.lo0):=xaf H 17
theorem xzs {w:World} {b:Nat} {T:TypeId} {h:Hd} (H:HAt w b T h):w.cell? ⟨b,18,none⟩=some (.int .i64 h.la0):=xaf H 18
theorem xyH {w:World} {b:Nat} {T:TypeId} {h:Hd} (H:HAt w b T h):w.cell? ⟨b,19,none⟩=some (.int .i64 h.lo1):=xaf H 19
theorem xzf {w:World} {b:Nat} {T:TypeId} {h:Hd} (H:HAt w b T h):w.cell? ⟨b,20,none⟩=some (.int .i64 h.la1):=xaf H 20
theorem xzx {w:World} {b:Nat} {T:TypeId} {h:Hd} (H:HAt w b T h):w.cell? ⟨b,21,none⟩=some (.int .i64 h.zm):=xaf H 21
theorem xyE {w:World} {b:Nat} {T:TypeId} {h:Hd} (H:HAt w b T h):w.cell? ⟨b,22,none⟩=some (.int .i64 h.lon):=xaf H 22
theorem xzu {w:World} {b:Nat} {T:TypeId} {h:Hd} (H:HAt w b T h):w.cell? ⟨b,23,none⟩=some (.int .i64 h.lat):=xaf H 23
theorem xc1 (h:Hd) (e:xcZ h=false):ckH h=8:=by unfold ckH;rw[if_neg (by simp[e])]
theorem xeI (h:Hd) (e:xcZ h=true) (k:xbW h=false):ckH h=14:=by unfold ckH;rw[if_pos e,if_neg (by simp[k])]
theorem xfn (h:Hd) (e:xcZ h=true) (k:xbW h=true) (z:xcA h=false):ckH h=8:=by unfold ckH;rw[if_pos e,if_pos k,if_neg (by simp[z])]
theorem xf5 (h:Hd) (e:xcZ h=true) (k:xbW h=true) (z:xcA h=true) (d:xoc h=false):ckH h=8:=by unfold ckH;rw[if_pos e,if_pos k,if_pos z,if_neg (by simp[d])]
theorem xql (h:Hd) (e:xcZ h=true) (k:xbW h=true) (z:xcA h=true) (d:xoc h=true):ckH h=0:=by unfold ckH;rw[if_pos e,if_pos k,if_pos z,if_pos d]
def xgQ (h:Hd) (k:Nat):Prop:=(0<k→xdJ h.rf h.rl=true)∧(1<k→xdJ h.mf h.ml=true)∧(2<k→xdJ h.lf h.ll=true)∧(3<k→xdJ h.df h.dl=true)
theorem xsO (h:Hd) (s:xgQ h 4):xcZ h=true:=by
 unfold xcZ
 rw[s.1 (by omega),s.2.1 (by omega),s.2.2.1 (by omega),s.2.2.2 (by omega)]
 rfl
theorem xsY:Tryz.t122.size=2:=by kernel_rfl
theorem xkn (c0 c1 c2 c3 c4 c5 c6 c7:Value) (W:World) :
  Sem.run Tryz.prog (Instr.index 199 (.agg #[c0,c1,c2,c3,c4,c5,c6,c7]) (.int .i64 0)) W=.ok (.agg #[c0,c1]) W ∧
  Sem.run Tryz.prog (Instr.index 199 (.agg #[c0,c1,c2,c3,c4,c5,c6,c7]) (.int .i64 1)) W=.ok (.agg #[c2,c3]) W ∧
  Sem.run Tryz.prog (Instr.index 199 (.agg #[c0,c1,c2,c3,c4,c5,c6,c7]) (.int .i64 2)) W=.ok (.agg #[c4,c5]) W ∧
  Sem.run Tryz.prog (Instr.index 199 (.agg #[c0,c1,c2,c3,c4,c5,c6,c7]) (.int .i64 3)) W=.ok (.agg #[c6,c7]) W:=by
 refine⟨?_,?_,?_,?_⟩ <;> simp[Instr.index,run_underlying Tryz.underlying199,asIntOf,part,sizeOf,xsY,go_sem]
theorem xaB:(Tryz.prog.info? 124).map (·.size)=some 24:=by kernel_rfl
theorem xbI:(Tryz.prog.info? 103).map (·.size)=some 24:=by kernel_rfl
theorem xhk (h:Hd) (w:World):Calls Tryz.prog 169 #[.agg (cH h)] w fun e w'=>e=.returned (.agg #[.int .u64 h.rf,.int .u64 h.rl,.int .u64 h.mf,.int .u64 h.ml,.int .u64 h.lf,.int .u64 h.ll,.int .u64 h.df,.int .u64 h.dl])∧Below w.heap.size w w':=xiy h w
theorem xwi (h:Hd) (w:World):Calls Tryz.prog 248 #[.agg (cH h)] w fun e w'=>e=.returned (.bool (xcA h))∧Below w.heap.size w w':=xle h w
theorem xqu (h:Hd) (w:World):Calls Tryz.prog 249 #[.agg (cH h)] w fun e w'=>e=.returned (.bool (xoc h))∧Below w.heap.size w w':=xkg h w
theorem xa1 {ops:Array Oper} {rest:List Oper} {o:Oper} {a:Act} {w:World} {Q:Exit→Act→World→Prop} (hw:Region.wanted o (yielded ops a.tmps)=true) (x:Operand) (ho:o.op=.load 124 x)
  (g:Nat) (hx:a.eval x=.pointer (some ⟨g,0,none⟩)) (T:TypeId) (h:Hd) (H:HAt w g T h) (k:wpList Tryz.prog ops Q rest (a.put o.dst (.agg (cH h))) w):wpList Tryz.prog ops Q (o :: rest) a w :=
 BigFrame.wpList_want hw fun _ hK=>wp_load_row 124 x ho g hx T (cH h) (0,0) _ H Tryz.underlying124 rfl xaB (hK _ _ k)
theorem xeU {ops:Array Oper} {rest:List Oper} {o:Oper} {a:Act} {w:World} {Q:Exit→Act→World→Prop} (hw:Region.wanted o (yielded ops a.tmps)=true) (x:Operand) (ho:o.op=.load 103 x)
  (g:Nat) (hx:a.eval x=.pointer (some ⟨g,0,none⟩)) (T:TypeId) (h:Hd) (H:HAt w g T h) (k:wpList Tryz.prog ops Q rest (a.put o.dst (.agg (cH h))) w):wpList Tryz.prog ops Q (o :: rest) a w :=
 BigFrame.wpList_want hw fun _ hK=>wp_load_row 103 x ho g hx T (cH h) (0,0) _ H Tryz.underlying103 rfl xbI (hK _ _ k)
set_option maxRecDepth 20000 in
theorem xgd (h:Hd) (w:World) (hm:xi1 h):Calls Tryz.prog 168 #[.agg (cH h)] w fun e w'=>e=.returned (.int .i64 (ckH h))∧Below w.heap.size w w':=by
 have HM:=lH hm;clear hm
 have H0:=HAt.made w h 124
 go_enter Tryz.func168,Tryz.ntmps168
 go_wp2_with (first|(refine xa1 (by rfl) _ rfl _ rfl _ h (by assumption) ?_)|fail)
 refine(xhk h _).mono ?_
 rintro e w1 ⟨rfl,hb⟩
 have H1:=H0.below hb (by rw[World.size_alloc];omega)
 have hz1:w.heap.size<w1.heap.size:=by have:=hb.size;rw[World.size_alloc] at this;omega
 have u1:Below w.heap.size w w1:=Below.trans (by go_grown) (hb.mono (by rw[World.size_alloc];omega))
 have HH1:=lH H1
 have HU:=lH u1
 clear hb H0 H1 u1
 go_wp2_with fail
 go_loopw [7] (fun i wr=>∃ k:Nat,k≤4∧i=.int .i64 k∧Hid (xgQ h k)∧Below w1.heap.size w1 wr) (fun i _=>4 - (intOf i).toNat)
 case atStart=>exact⟨0,by omega,rfl,lH ⟨by omega,by omega,by omega,by omega⟩,Below.refl _ _⟩
 case round =>
  obtain⟨k,hk,rfl,HS,hbw⟩:=hrel
  have hIX:=fun W=>xkn (.int .u64 h.rf) (.int .u64 h.rl) (.int .u64 h.mf) (.int .u64 h.ml) (.int .u64 h.lf) (.int .u64 h.ll) (.int .u64 h.df) (.int .u64 h.dl) W
  have hzr:=hbw.size
  have HHr:=lH (HH1.out.below hbw hz1)
  have HUr:=lH (HU.out.trans (hbw.mono (by omega)))
  rcases(by omega:k=0∨k=1∨k=2∨k=3∨k=4) with rfl|rfl|rfl|rfl|rfl
  ·have hI:=fun W=>(hIX W).1
   clear hIX
   have HF:=lH (fun W=>xfq h.rf h.rl W HM.out.1 HM.out.2.1)
   obtain⟨b,hs⟩:∃ b,xdJ h.rf h.rl=b:=⟨_,rfl⟩
   rw[hs] at HF
   cases b
   ·have hc:Hid (8=ckH h):=lH (xc1 h (by unfold xcZ;simp only[hs];simp)).symm
    clear hs
    go_wp2_with fail
    refine(HF.out _).mono ?_
    rintro e w2 ⟨rfl,hb⟩
    have u2:Below w.heap.size w w2:=(HUr.out.alloc (by omega) _).trans (hb.mono (by rw[World.size_alloc];omega))
    clear hb
    go_wp2_with fail
    go_ret
    exact⟨xal hc.out,u2⟩
   ·have HS2:Hid (xgQ h 1):=lH ⟨fun _=>hs,fun hh=>by omega,fun hh=>by omega,fun hh=>by omega⟩
    clear hs
    go_wp2_with fail
    refine(HF.out _).mono ?_
    rintro e w2 ⟨rfl,hb⟩
    have u2:Below w1.heap.size w1 w2:=(hbw.alloc hzr _).trans (hb.mono (by rw[World.size_alloc];omega))
    clear hb
    go_wp2_with fail
    go_roundw
    case rel=>exact⟨1,by omega,by rfl,HS2,u2⟩
    case measure=>simp[intOf]
  ·have hI:=fun W=>(hIX W).2.1
   clear hIX
   have HF:=lH (fun W=>xfq h.mf h.ml W HM.out.2.2.1 HM.out.2.2.2.1)
   obtain⟨b,hs⟩:∃ b,xdJ h.mf h.ml=b:=⟨_,rfl⟩
   rw[hs] at HF
   cases b
   ·have hc:Hid (8=ckH h):=lH (xc1 h (by unfold xcZ;simp only[hs,HS.out.1 (by omega)];simp)).symm
    clear hs
    go_wp2_with fail
    refine(HF.out _).mono ?_
    rintro e w2 ⟨rfl,hb⟩
    have u2:Below w.heap.size w w2:=(HUr.out.alloc (by omega) _).trans (hb.mono (by rw[World.size_alloc];omega))
    clear hb
    go_wp2_with fail
    go_ret
    exact⟨xal hc.out,u2⟩
   ·have HS2:Hid (xgQ h 2):=lH ⟨fun _=>HS.out.1 (by omega),fun hh=>hs,fun hh=>by omega,fun hh=>by omega⟩
    clear hs
    go_wp2_with fail
    refine(HF.out _).mono ?_
    rintro e w2 ⟨rfl,hb⟩
    have u2:Below w1.heap.size w1 w2:=(hbw.alloc hzr _).trans (hb.mono (by rw[World.size_alloc];omega))
    clear hb
    go_wp2_with fail
    go_roundw
    case rel=>exact⟨2,by omega,by rfl,HS2,u2⟩
    case measure=>simp[intOf]
  ·have hI:=fun W=>(hIX W).2.2.1
   clear hIX
   have HF:=lH (fun W=>xfq h.lf h.ll W HM.out.2.2.2.2.1 HM.out.2.2.2.2.2.1)
   obtain⟨b,hs⟩:∃ b,xdJ h.lf h.ll=b:=⟨_,rfl⟩
   rw[hs] at HF
   cases b
   ·have hc:Hid (8=ckH h):=lH (xc1 h (by unfold xcZ;simp only[hs,HS.out.1 (by omega),HS.out.2.1 (by omega)];simp)).symm
    clear hs
    go_wp2_with fail
    refine(HF.out _).mono ?_
    rintro e w2 ⟨rfl,hb⟩
    have u2:Below w.heap.size w w2:=(HUr.out.alloc (by omega) _).trans (hb.mono (by rw[World.size_alloc];omega))
    clear hb
    go_wp2_with fail
    go_ret
    exact⟨xal hc.out,u2⟩
   ·have HS2:Hid (xgQ h 3):=lH ⟨fun _=>HS.out.1 (by omega),fun hh=>HS.out.2.1 (by omega),fun hh=>hs,fun hh=>by omega⟩
    clear hs
    go_wp2_with fail
    refine(HF.out _).mono ?_
    rintro e w2 ⟨rfl,hb⟩
    have u2:Below w1.heap.size w1 w2:=(hbw.alloc hzr _).trans (hb.mono (by rw[World.size_alloc];omega))
    clear hb
    go_wp2_with fail
    go_roundw
    case rel=>exact⟨3,by omega,by rfl,HS2,u2⟩
    case measure=>simp[intOf]
  ·have hI:=fun W=>(hIX W).2.2.2
   clear hIX
   have HF:=lH (fun W=>xfq h.df h.dl W HM.out.2.2.2.2.2.2.1 HM.out.2.2.2.2.2.2.2.1)
   obtain⟨b,hs⟩:∃ b,xdJ h.df h.dl=b:=⟨_,rfl⟩
   rw[hs] at HF
   cases b
   ·have hc:Hid (8=ckH h):=lH (xc1 h (by unfold xcZ;simp only[hs,HS.out.1 (by omega),HS.out.2.1 (by omega),HS.out.2.2.1 (by omega)];simp)).symm
    clear hs
    go_wp2_with fail
    refine(HF.out _).mono ?_
    rintro e w2 ⟨rfl,hb⟩
    have u2:Below w.heap.size w w2:=(HUr.out.alloc (by omega) _).trans (hb.mono (by rw[World.size_alloc];omega))
    clear hb
    go_wp2_with fail
    go_ret
    exact⟨xal hc.out,u2⟩
   ·have HS2:Hid (xgQ h 4):=lH ⟨fun _=>HS.out.1 (by omega),fun hh=>HS.out.2.1 (by omega),fun hh=>HS.out.2.2.1 (by omega),fun hh=>hs⟩
    clear hs
    go_wp2_with fail
    refine(HF.out _).mono ?_
    rintro e w2 ⟨rfl,hb⟩
    have u2:Below w1.heap.size w1 w2:=(hbw.alloc hzr _).trans (hb.mono (by rw[World.size_alloc];omega))
    clear hb
    go_wp2_with fail
    go_roundw
    case rel=>exact⟨4,by omega,by rfl,HS2,u2⟩
    case measure=>simp[intOf]
  ·have hS:xcZ h=true:=xsO h HS.out
   have c12:=xyt HHr.out
   have c13:=xyB HHr.out
   have c14:=xys HHr.out
   clear hIX HM
   have hHr:=HHr.out
   by_cases k1:h.inn≤4
   ·have d1:decide (4<h.inn)=false:=by simp;omega
    by_cases k2:h.out≤4
    ·have d2:decide (4<h.out)=false:=by simp;omega
     by_cases k3:h.knd≤5
     ·have d3:decide (5<h.knd)=false:=by simp;omega
      have hK:xbW h=true:=by unfold xbW;simp[k1,k2,k3]
      have HZ:=lH (fun W=>xwi h W)
      have HD:=lH (fun W=>xqu h W)
      clear k1 k2 k3
      obtain⟨b,hz⟩:∃ b,xcA h=b:=⟨_,rfl⟩
      rw[hz] at HZ
      cases b
      ·have hc:Hid (8=ckH h):=lH (xfn h hS hK hz).symm
       clear hS hK hz
       go_wp2_with (first|(refine xa1 (by rfl) _ rfl _ rfl _ h (by assumption) ?_)|fail)
       refine(HZ.out _).mono ?_
       rintro e w2 ⟨rfl,hb⟩
       have u2:=HUr.out.trans (hb.mono (by omega))
       clear hb
       go_wp2_with fail
       go_ret
       exact⟨xal hc.out,u2⟩
      ·obtain⟨b,hg⟩:∃ b,xoc h=b:=⟨_,rfl⟩
       rw[hg] at HD
       cases b
       ·have hc:Hid (8=ckH h):=lH (xf5 h hS hK hz hg).symm
        clear hS hK hz hg
        go_wp2_with (first|(refine xa1 (by rfl) _ rfl _ rfl _ h (by assumption) ?_)|fail)
        refine(HZ.out _).mono ?_
        rintro e w2 ⟨rfl,hb⟩
        have u2:=HUr.out.trans (hb.mono (by omega))
        have h2:=hHr.later hb
        have hz2:=hb.size
        clear hb hHr
        go_wp2_with (first|(refine xa1 (by rfl) _ rfl _ rfl _ h (by assumption) ?_)|fail)
        refine(HD.out _).mono ?_
        rintro e w3 ⟨rfl,hb⟩
        have u3:=u2.trans (hb.mono (by omega))
        clear hb
        go_wp2_with fail
        go_ret
        exact⟨xal hc.out,u3⟩
       ·have hc:Hid (0=ckH h):=lH (xql h hS hK hz hg).symm
        clear hS hK hz hg
        go_wp2_with (first|(refine xa1 (by rfl) _ rfl _ rfl _ h (by assumption) ?_)|fail)
        refine(HZ.out _).mono ?_
        rintro e w2 ⟨rfl,hb⟩
        have u2:=HUr.out.trans (hb.mono (by omega))
        have h2:=hHr.later hb
        have hz2:=hb.size
        clear hb hHr
        go_wp2_with (first|(refine xa1 (by rfl) _ rfl _ rfl _ h (by assumption) ?_)|fail)
        refine(HD.out _).mono ?_
        rintro e w3 ⟨rfl,hb⟩
        have u3:=u2.trans (hb.mono (by omega))
        clear hb
        go_wp2_with fail
        go_ret
        exact⟨xal hc.out,u3⟩
     ·have d3:decide (5<h.knd)=true:=by simp;omega
      have hc:Hid (14=ckH h):=lH (xeI h hS (by unfold xbW;simp[k3])).symm
      clear hS k1 k2 k3
      go_wp2_with fail
      go_ret
      exact⟨xal hc.out,HUr.out⟩
    ·have d2:decide (4<h.out)=true:=by simp;omega
     have hc:Hid (14=ckH h):=lH (xeI h hS (by unfold xbW;simp[k2])).symm
     clear hS k1 k2
     go_wp2_with fail
     go_ret
     exact⟨xal hc.out,HUr.out⟩
   ·have d1:decide (4<h.inn)=true:=by simp;omega
    have hc:Hid (14=ckH h):=lH (xeI h hS (by unfold xbW;simp[k1])).symm
    clear hS k1
    go_wp2_with fail
    go_ret
    exact⟨xal hc.out,HUr.out⟩
set_option maxRecDepth 20000 in
theorem xmU (h:Hd) (w:World) (hm:xi1 h):Calls Tryz.prog 102 #[.agg (cH h)] w fun e w'=>e=.returned (.int .i64 (ckH h))∧Below w.heap.size w w':=by
 have F0:=lH (fun W=>xd1 h.rf h.rl W hm.1 hm.2.1)
 have F1:=lH (fun W=>xd1 h.mf h.ml W hm.2.2.1 hm.2.2.2.1)
 have F2:=lH (fun W=>xd1 h.lf h.ll W hm.2.2.2.2.1 hm.2.2.2.2.2.1)
 have F3:=lH (fun W=>xd1 h.df h.dl W hm.2.2.2.2.2.2.1 hm.2.2.2.2.2.2.2.1)
 obtain⟨b0,h0⟩:∃ b,xdJ h.rf h.rl=b:=⟨_,rfl⟩
 obtain⟨b1,h1⟩:∃ b,xdJ h.mf h.ml=b:=⟨_,rfl⟩
 obtain⟨b2,h2⟩:∃ b,xdJ h.lf h.ll=b:=⟨_,rfl⟩
 obtain⟨b3,h3⟩:∃ b,xdJ h.df h.dl=b:=⟨_,rfl⟩
 have hS:Hid (xcZ h=(b0 && (b1 && (b2 && b3)))):=lH (by unfold xcZ;rw[h0,h1,h2,h3])
 rw[h0] at F0;rw[h1] at F1;rw[h2] at F2;rw[h3] at F3
 clear h0 h1 h2 h3 hm
 have Z0:=lH (fun W=>xbK h.z0 0 h.z1 W)
 have Z2:=lH (fun W=>xbK h.zm 0 26 W)
 have D0:=lH (fun W=>xbK h.lo0 (-1800000000) h.lo1 W)
 have D2:=lH (fun W=>xbK h.la0 (-900000000) h.la1 W)
 have D4:=lH (fun W=>xbK h.lon (-1800000000) 1800000000 W)
 have D5:=lH (fun W=>xbK h.lat (-900000000) 900000000 W)
 obtain⟨z0,hz0⟩:∃ b,(decide (0≤h.z0) && decide (h.z0≤h.z1))=b:=⟨_,rfl⟩
 obtain⟨z2,hz2⟩:∃ b,(decide (0≤h.zm) && decide (h.zm≤26))=b:=⟨_,rfl⟩
 obtain⟨d0,hd0⟩:∃ b,(decide (-1800000000≤h.lo0) && decide (h.lo0≤h.lo1))=b:=⟨_,rfl⟩
 obtain⟨d2,hd2⟩:∃ b,(decide (-900000000≤h.la0) && decide (h.la0≤h.la1))=b:=⟨_,rfl⟩
 obtain⟨d4,hd4⟩:∃ b,(decide (-1800000000≤h.lon) && decide (h.lon≤1800000000))=b:=⟨_,rfl⟩
 obtain⟨d5,hd5⟩:∃ b,(decide (-900000000≤h.lat) && decide (h.lat≤900000000))=b:=⟨_,rfl⟩
 rw[hz0] at Z0;rw[hz2] at Z2;rw[hd0] at D0;rw[hd2] at D2;rw[hd4] at D4;rw[hd5] at D5
 have HZ:Hid (xcA h=(z0 && (decide (h.z1≤26) && z2))):=lH (by unfold xcA;rw[hz0,hz2])
 have HD:Hid (xoc h=(d0 && (decide (h.lo1≤1800000000) && (d2 && (decide (h.la1≤900000000) && (d4 && d5)))))):=lH (by unfold xoc;rw[hd0,hd2,hd4,hd5])
 clear hz0 hz2 hd0 hd2 hd4 hd5
 have H0:=HAt.made w h 103
 have a0:=at0 H0
 have a1:=at1 H0
 have HB0:=lH H0
 have U0:Below w.heap.size w (w.alloc (.cells (cH h) 103)):=(Below.refl _ _).alloc (Nat.le_refl _) _
 have Z:w.heap.size≤(w.alloc (.cells (cH h) 103)).heap.size:=by rw[World.size_alloc];omega
 clear H0
 go_enter Tryz.func102,Tryz.ntmps102
 go_wp2_with fail
 refine(F0.out _).mono ?_
 rintro e w1 ⟨rfl,hb⟩
 have U1:=U0.trans (hb.mono Z)
 have HB1:=lH (HB0.out.later hb)
 replace Z:w.heap.size≤w1.heap.size:=Nat.le_trans Z hb.size
 clear hb U0 HB0 a0 a1
 have a2:=at2 HB1.out
 have a3:=at3 HB1.out
 cases b0
 ·have hc:=lH (xc1 h (by rw[hS.out];simp)).symm
  go_wp2_with fail
  go_ret
  exact⟨xal hc.out,U1⟩
 ·go_wp2_with fail
  refine(F1.out _).mono ?_
  rintro e w2 ⟨rfl,hb⟩
  have U2:=U1.trans (hb.mono Z)
  have HB2:=lH (HB1.out.later hb)
  replace Z:w.heap.size≤w2.heap.size:=Nat.le_trans Z hb.size
  clear hb U1 HB1 a2 a3
  have a4:=at4 HB2.out
  have a5:=at5 HB2.out
  cases b1
  ·have hc:=lH (xc1 h (by rw[hS.out];simp)).symm
   go_wp2_with fail
   go_ret
   exact⟨xal hc.out,U2⟩
  ·go_wp2_with fail
   refine(F2.out _).mono ?_
   rintro e w3 ⟨rfl,hb⟩
   have U3:=U2.trans (hb.mono Z)
   have HB3:=lH (HB2.out.later hb)
   replace Z:w.heap.size≤w3.heap.size:=Nat.le_trans Z hb.size
   clear hb U2 HB2 a4 a5
   have a6:=at6 HB3.out
   have a7:=at7 HB3.out
   cases b2
   ·have hc:=lH (xc1 h (by rw[hS.out];simp)).symm
    go_wp2_with fail
    go_ret
    exact⟨xal hc.out,U3⟩
   ·go_wp2_with fail
    refine(F3.out _).mono ?_
    rintro e w4 ⟨rfl,hb⟩
    have U4:=U3.trans (hb.mono Z)
    have HB4:=lH (HB3.out.later hb)
    replace Z:w.heap.size≤w4.heap.size:=Nat.le_trans Z hb.size
    clear hb U3 HB3 a6 a7
    have a12:=xyt HB4.out
    have a13:=xyB HB4.out
    have a14:=xys HB4.out
    have a15:=xyM HB4.out
    have a16:=xyL HB4.out
    have a17:=xyQ HB4.out
    have a18:=xzs HB4.out
    have a19:=xyH HB4.out
    have a20:=xzf HB4.out
    have a21:=xzx HB4.out
    have a22:=xyE HB4.out
    have a23:=xzu HB4.out
    cases b3
    ·have hc:=lH (xc1 h (by rw[hS.out];simp)).symm
     go_wp2_with fail
     go_ret
     exact⟨xal hc.out,U4⟩
    ·by_cases k1:h.inn≤4
     ·have e4:decide (4<h.inn)=false:=by simp;omega
      by_cases k2:h.out≤4
      ·have e5:decide (4<h.out)=false:=by simp;omega
       by_cases k3:h.knd≤5
       ·have e6:decide (5<h.knd)=false:=by simp;omega
        go_wp2_with fail
        refine(Z0.out _).mono ?_
        rintro e w' ⟨rfl,rfl⟩
        cases z0
        ·have hc:=lH (xfn h (by rw[hS.out];simp) (by unfold xbW;simp[k1,k2,k3]) (by rw[HZ.out];simp)).symm
         go_wp2_with fail
         go_ret
         exact⟨xal hc.out,U4⟩
        ·by_cases y1:h.z1≤26
         ·have ey1:decide (26<h.z1)=false:=by simp;omega
          go_wp2_with fail
          refine(Z2.out _).mono ?_
          rintro e w' ⟨rfl,rfl⟩
          cases z2
          ·have hc:=lH (xfn h (by rw[hS.out];simp) (by unfold xbW;simp[k1,k2,k3]) (by rw[HZ.out];simp)).symm
           go_wp2_with fail
           go_ret
           exact⟨xal hc.out,U4⟩
          ·go_wp2_with fail
           refine(D0.out _).mono ?_
           rintro e w' ⟨rfl,rfl⟩
           cases d0
           ·have hc:=lH (xf5 h (by rw[hS.out];simp) (by unfold xbW;simp[k1,k2,k3]) (by rw[HZ.out];simp[y1]) (by rw[HD.out];simp)).symm
            go_wp2_with fail
            go_ret
            exact⟨xal hc.out,U4⟩
           ·by_cases x1:h.lo1≤1800000000
            ·have ex1:decide (1800000000<h.lo1)=false:=by simp;omega
             go_wp2_with fail
             refine(D2.out _).mono ?_
             rintro e w' ⟨rfl,rfl⟩
             cases d2
             ·have hc:=lH (xf5 h (by rw[hS.out];simp) (by unfold xbW;simp[k1,k2,k3]) (by rw[HZ.out];simp[y1]) (by rw[HD.out];simp)).symm
              go_wp2_with fail
              go_ret
              exact⟨xal hc.out,U4⟩
             ·by_cases x2:h.la1≤900000000
              ·have ex2:decide (900000000<h.la1)=false:=by simp;omega
               go_wp2_with fail
               refine(D4.out _).mono ?_
               rintro e w' ⟨rfl,rfl⟩
               cases d4
               ·have hc:=lH (xf5 h (by rw[hS.out];simp) (by unfold xbW;simp[k1,k2,k3]) (by rw[HZ.out];simp[y1]) (by rw[HD.out];simp)).symm
                go_wp2_with fail
                go_ret
                exact⟨xal hc.out,U4⟩
               ·go_wp2_with fail
                refine(D5.out _).mono ?_
                rintro e w' ⟨rfl,rfl⟩
                cases d5
                ·have hc:=lH (xf5 h (by rw[hS.out];simp) (by unfold xbW;simp[k1,k2,k3]) (by rw[HZ.out];simp[y1]) (by rw[HD.out];simp)).symm
                 go_wp2_with fail
                 go_ret
                 exact⟨xal hc.out,U4⟩
                ·have hc:=lH (xql h (by rw[hS.out];simp) (by unfold xbW;simp[k1,k2,k3]) (by rw[HZ.out];simp[y1]) (by rw[HD.out];simp[x1,x2])).symm
                 go_wp2_with fail
                 go_ret
                 exact⟨xal hc.out,U4⟩
              ·have ex2:decide (900000000<h.la1)=true:=by simp;omega
               have hc:=lH (xf5 h (by rw[hS.out];simp) (by unfold xbW;simp[k1,k2,k3]) (by rw[HZ.out];simp[y1]) (by rw[HD.out];simp[x2])).symm
               go_wp2_with fail
               go_ret
               exact⟨xal hc.out,U4⟩
            ·have ex1:decide (1800000000<h.lo1)=true:=by simp;omega
             have hc:=lH (xf5 h (by rw[hS.out];simp) (by unfold xbW;simp[k1,k2,k3]) (by rw[HZ.out];simp[y1]) (by rw[HD.out];simp[x1])).symm
             go_wp2_with fail
             go_ret
             exact⟨xal hc.out,U4⟩
         ·have ey1:decide (26<h.z1)=true:=by simp;omega
          have hc:=lH (xfn h (by rw[hS.out];simp) (by unfold xbW;simp[k1,k2,k3]) (by rw[HZ.out];simp[y1])).symm
          go_wp2_with fail
          go_ret
          exact⟨xal hc.out,U4⟩
       ·have e6:decide (5<h.knd)=true:=by simp;omega
        have hc:=lH (xeI h (by rw[hS.out];simp) (by unfold xbW;simp[k3])).symm
        go_wp2_with fail
        go_ret
        exact⟨xal hc.out,U4⟩
      ·have e5:decide (4<h.out)=true:=by simp;omega
       have hc:=lH (xeI h (by rw[hS.out];simp) (by unfold xbW;simp[k2])).symm
       go_wp2_with fail
       go_ret
       exact⟨xal hc.out,U4⟩
     ·have e4:decide (4<h.inn)=true:=by simp;omega
      have hc:=lH (xeI h (by rw[hS.out];simp) (by unfold xbW;simp[k1])).symm
      go_wp2_with fail
      go_ret
      exact⟨xal hc.out,U4⟩
end Go.Proofs.YtjinnigjfopbcaaGreatDoor
