/- cMK cYa cMA cMG. -/
import Derived.Test.YtjinnigjfopbcaaGreatDoorJs
import Derived.Test.YtjinnigjfopbcaaGreatDoorJc1
set_option maxHeartbeats 16000000
namespace Go.Proofs.YtjinnigjfopbcaaGreatDoor
set_option linter.unusedVariables false
set_option linter.unusedSimpArgs false
open Go.RowKit
set_option maxRecDepth 20000
def xbO (t:ByteArray):List Int:=t.data.toList.map (fun c=>(c.toNat:Int))
theorem xb2 (t:ByteArray):(xbO t).length=t.size:=by simp[xbO]
theorem xiO (t:ByteArray):xkI (xbO t):=by
 intro c hc
 obtain⟨b,_,rfl⟩:=List.mem_map.1 hc
 have:=xox b
 omega
theorem xoo (l:List UInt8):xha l=xf0 (l.map (fun c=>(c.toNat:Int))):=by
 induction l with
 | nil=>rfl
 | cons c l ih=>rw[xha,List.map_cons,xf0,ih]
theorem xeE (t:ByteArray) (i j:Nat):(t.extract i j).data.toList=(t.data.toList.drop i).take (j - i):=by
 simp[ByteArray.data_extract]
def nmB (t:ByteArray) (o w:Nat):Int:=xha (t.extract o (o+w)).data.toList
theorem xoW (t:ByteArray) (o w:Nat):nmB t o w=xf0 (((xbO t).drop o).take w):=by
 unfold nmB xbO
 rw[xoo,xeE,Nat.add_sub_cancel_left,List.map_take,List.map_drop]
theorem xmK (t:ByteArray) (o w:Nat) (h:o+w≤t.size):0≤nmB t o w∧nmB t o w<xjs w:=by
 rw[xoW]
 have hb:xkI (((xbO t).drop o).take w):=fun c hc=>xiO t c (List.mem_of_mem_drop (List.mem_of_mem_take hc))
 have:=xiX _ hb
 rw[List.length_take,List.length_drop,xb2,Nat.min_eq_left (by omega)] at this
 exact this
theorem xdr (t:ByteArray) (o:Nat):nmB t o 1=(xbO t).getD o 0:=by rw[xoW,xni]
def sgB (t:ByteArray) (o:Nat):Int:=sgn (nmB t o 4) 4
theorem xvD (x:Int) (h0:0≤x) (h1:x<4294967296):sg x=sgn x 4:=by
 unfold sg sgn
 simp only[Int.reduceMul,Int.reduceSub,Int.reduceToNat,Int.reducePow]
 rw[Int.emod_eq_of_lt h0 h1]
def xaF (t:ByteArray):Hd:=⟨nmB t 8 8,nmB t 16 8,nmB t 24 8,nmB t 32 8,nmB t 40 8,nmB t 48 8,nmB t 56 8,nmB t 64 8,nmB t 72 8,nmB t 80 8,nmB t 88 8,nmB t 96 1 == 1,nmB t 97 1,nmB t 98 1,nmB t 99 1,nmB t 100 1,nmB t 101 1,sgB t 102,sgB t 106,sgB t 110,sgB t 114,nmB t 118 1,sgB t 119,sgB t 123⟩
theorem xua (t:ByteArray):(xaF t).rf=nmB t 8 8:=by rw[xaF]
theorem xuw (t:ByteArray):(xaF t).rl=nmB t 16 8:=by rw[xaF]
theorem xsR (t:ByteArray):(xaF t).mf=nmB t 24 8:=by rw[xaF]
theorem xtU (t:ByteArray):(xaF t).ml=nmB t 32 8:=by rw[xaF]
theorem xtZ (t:ByteArray):(xaF t).lf=nmB t 40 8:=by rw[xaF]
theorem xsF (t:ByteArray):(xaF t).ll=nmB t 48 8:=by rw[xaF]
theorem xtT (t:ByteArray):(xaF t).df=nmB t 56 8:=by rw[xaF]
theorem xsP (t:ByteArray):(xaF t).dl=nmB t 64 8:=by rw[xaF]
theorem xsw (t:ByteArray):(xaF t).ad=nmB t 72 8:=by rw[xaF]
theorem xug (t:ByteArray):(xaF t).en=nmB t 80 8:=by rw[xaF]
theorem xtt (t:ByteArray):(xaF t).co=nmB t 88 8:=by rw[xaF]
theorem xs0 (t:ByteArray):(xaF t).cl=(nmB t 96 1 == 1):=by rw[xaF]
theorem xqf (t:ByteArray):(xaF t).inn=nmB t 97 1:=by rw[xaF]
theorem xqv (t:ByteArray):(xaF t).out=nmB t 98 1:=by rw[xaF]
theorem xpM (t:ByteArray):(xaF t).knd=nmB t 99 1:=by rw[xaF]
theorem xto (t:ByteArray):(xaF t).z0=nmB t 100 1:=by rw[xaF]
theorem xuA (t:ByteArray):(xaF t).z1=nmB t 101 1:=by rw[xaF]
theorem xqV (t:ByteArray):(xaF t).lo0=sgB t 102:=by rw[xaF]
theorem xp6 (t:ByteArray):(xaF t).la0=sgB t 106:=by rw[xaF]
theorem xqa (t:ByteArray):(xaF t).lo1=sgB t 110:=by rw[xaF]
theorem xrC (t:ByteArray):(xaF t).la1=sgB t 114:=by rw[xaF]
theorem xti (t:ByteArray):(xaF t).zm=nmB t 118 1:=by rw[xaF]
theorem xqm (t:ByteArray):(xaF t).lon=sgB t 119:=by rw[xaF]
theorem xpS (t:ByteArray):(xaF t).lat=sgB t 123:=by rw[xaF]
theorem xgD (t:ByteArray) (h:127≤t.size):xqB (xbO t)=xaF t:=by
 have hs:∀ q,q+4≤127→sg (nmB t q 4)=sgB t q:=fun q hq=>by
  have:=xmK t q 4 (by omega)
  rw[xjP] at this
  exact xvD _ this.1 this.2
 unfold xqB xaF xeD
 simp only[xiD,xcI,List.drop_drop,List.getD_cons_zero,List.getD_cons_succ,Nat.reduceAdd,← xoW]
 rw[hs 102 (by omega),hs 106 (by omega),hs 110 (by omega),hs 114 (by omega),hs 119 (by omega),hs 123 (by omega)]
theorem xq0 (t:ByteArray) (h:127≤t.size):xeJ (xaF t):=by
 rw[← xgD t h]
 exact xrY _ (xiv xiD _ (fun c hc=>xiO t c (List.mem_of_mem_drop hc)) (by rw[List.length_drop,xb2,xd4];omega))
theorem xsW {a b:List UInt8} (h:a.map (fun c=>(c.toNat:Int))=b.map (fun c=>(c.toNat:Int))):a=b:=by
 induction a generalizing b with
 | nil=>cases b with
  | nil=>rfl
  | cons c b=>simp at h
 | cons c a ih=>cases b with
  | nil=>simp at h
  | cons d b =>
   simp only[List.map_cons,List.cons.injEq] at h
   have:c=d:=UInt8.toNat_inj.1 (by have:=h.1;omega)
   rw[this,ih h.2]
theorem xdV (t:ByteArray):t.extract 0 7=⟨#[80,77,84,105,108,101,115]⟩↔(xbO t).take 7=mgH:=by
 have e:(xbO t).take 7=(t.extract 0 7).data.toList.map (fun c=>(c.toNat:Int)):=by
  rw[xeE,xbO,List.map_take]
  rfl
 rw[e]
 constructor
 ·intro h;rw[h];rfl
 ·intro h
  apply ByteArray.ext
  apply Array.ext'
  exact xsW (h.trans (by rfl:mgH=[80,77,84,105,108,101,115].map (fun c:UInt8=>(c.toNat:Int))))
theorem xmi (t:ByteArray) (h:t.size<127):xch (xbO t)=(xac,3):=by
 unfold xch
 rw[if_pos (by rw[xb2];exact h)]
theorem xlo (t:ByteArray) (h:127≤t.size) (hn:t.extract 0 7≠⟨#[80,77,84,105,108,101,115]⟩):xch (xbO t)=(xac,12):=by
 unfold xch
 rw[if_neg (by rw[xb2];omega),if_pos (fun e=>hn ((xdV t).2 e))]
theorem xid (t:ByteArray) (h:127≤t.size) (hn:t.extract 0 7=⟨#[80,77,84,105,108,101,115]⟩) (hv:nmB t 7 1≠3):xch (xbO t)=(xac,13):=by
 unfold xch
 rw[if_neg (by rw[xb2];omega),if_neg (fun e=>e ((xdV t).1 hn)),if_pos (by rw[← xdr];exact hv)]
theorem xnm (t:ByteArray) (h:127≤t.size) (hn:t.extract 0 7=⟨#[80,77,84,105,108,101,115]⟩) (hv:nmB t 7 1=3) (hf:1<nmB t 96 1):xch (xbO t)=(xac,4):=by
 unfold xch
 rw[if_neg (by rw[xb2];omega),if_neg (fun e=>e ((xdV t).1 hn)),if_neg (by rw[← xdr];exact fun e=>e hv),if_pos (by rw[← xdr];exact hf)]
theorem xqe (t:ByteArray) (h:127≤t.size) (hn:t.extract 0 7=⟨#[80,77,84,105,108,101,115]⟩) (hv:nmB t 7 1=3) (hf:¬ 1<nmB t 96 1) (hc:ckH (xaF t)≠0):xch (xbO t)=(xac,ckH (xaF t)):=by
 unfold xch
 rw[if_neg (by rw[xb2];omega),if_neg (fun e=>e ((xdV t).1 hn)),if_neg (by rw[← xdr];exact fun e=>e hv),if_neg (by rw[← xdr];exact hf),xgD t h,if_neg hc]
theorem xsB (t:ByteArray) (h:127≤t.size) (hn:t.extract 0 7=⟨#[80,77,84,105,108,101,115]⟩) (hv:nmB t 7 1=3) (hf:¬ 1<nmB t 96 1) (hc:ckH (xaF t)=0):xch (xbO t)=(xaF t,0):=by
 unfold xch
 rw[if_neg (by rw[xb2];omega),if_neg (fun e=>e ((xdV t).1 hn)),if_neg (by rw[← xdr];exact fun e=>e hv),if_neg (by rw[← xdr];exact hf),xgD t h,if_pos hc]
theorem xmH (t:ByteArray) (p n:Int) (hm:t.size≤maxLen) (p0:0≤p) (n0:1≤n) (n1:n≤8) (hp:p+n≤t.size):xjR t p 0 n=0:=by
 unfold maxLen at hm
 have e1:xaK t p=0:=if_pos ⟨p0,by omega⟩
 have e2:xiW n=0:=if_pos ⟨n0,n1⟩
 have e3:xdW t p n=0:=by
  unfold xdW
  rw[IntWalk.wrap64_in _ (by omega),if_neg (by omega)]
 simp[xjR,xaH,e1,e2,e3]
theorem xi0 (t:ByteArray) (p n:Int) (hm:t.size≤maxLen) (p0:0≤p) (n0:0≤n) (hp:p+n≤t.size):xbq t p 0 n=0:=by
 unfold maxLen at hm
 have e1:xaK t p=0:=if_pos ⟨p0,by omega⟩
 have e2:xbW n=0:=if_neg (by omega)
 have e3:xdW t p n=0:=by
  unfold xdW
  rw[IntWalk.wrap64_in _ (by omega),if_neg (by omega)]
 simp[xbq,xaH,e1,e2,e3]
theorem xhO (t:ByteArray) (p n:Nat) (w:World) (hm:t.size≤maxLen) (n0:1≤n) (n1:n≤8) (hp:p+n≤t.size):Calls Tryz.prog 166 #[.agg #[.string t,.int .i64 p,.int .i64 0],.int .i64 n] w
  fun e w'=>e=.returned (.tuple #[.int .u64 (nmB t p n),.agg #[.string t,.int .i64 ((p+n:Nat):Int),.int .i64 0]])∧Below w.heap.size w w':=by
 have key:=xuu t p n w hm (xmH t p n hm (by omega) (by omega) (by omega) (by omega)) (by omega) (by omega) (by omega) (by omega)
 rw[Int.toNat_natCast,show ((p:Int)+(n:Int)).toNat=p+n from by omega] at key
 have e:((p+n:Nat):Int)=(p:Int)+(n:Int):=by omega
 rw[e]
 exact key
theorem xiY {fn:Func} {p q:Tmp} {ty:TypeId} (h:fn.results=#[.cell p ty,.tmp q]) (tmps:Array Value) (w:World) (g:Nat) (a:Hd) (v:Value)
  (hp:tmps.getD p undef=.pointer (some ⟨g,0,none⟩)) (hq:tmps.getD q undef=v) (hl:(loadVar ty ⟨g,0,none⟩).run Tryz.prog w=.ok (.agg (cH a)) w) :
  (results fn tmps).run Tryz.prog w=.ok (.tuple #[.agg (cH a),v]) w:=by
 have hp':tmps[p]?.getD undef=.pointer (some ⟨g,0,none⟩):=by simpa using hp
 have hq':tmps[q]?.getD undef=v:=by simpa using hq
 simp[results,h,hp',hq',asAddr,hl]
theorem xaX {fn:Func} {p q:Tmp} (h:fn.results=#[.cell p 124,.tmp q]) (tmps:Array Value) (w:World) (g:Nat) (T:TypeId) (a:Hd) (v:Value) (hp:tmps.getD p undef=.pointer (some ⟨g,0,none⟩)) (hq:tmps.getD q undef=v) (H:HAt w g T a) :
  (results fn tmps).run Tryz.prog w=.ok (.tuple #[.agg (cH a),v]) w:=xiY h tmps w g a v hp hq (run_loadVar_row w g T _ (cH a) (0,0) _ H Tryz.underlying124 rfl xar)
theorem xvW {s:ByteArray} {l:List UInt8} (h:s≠⟨l.toArray⟩):(s.toList == l)=false:=by
 rw[beq_eq_false_iff_ne,ByteArray.toList_eq]
 intro e
 apply h
 apply ByteArray.ext
 apply Array.ext'
 exact e
theorem xvo {s:ByteArray} {l:List UInt8} (h:s=⟨l.toArray⟩):(s.toList == l)=true:=by
 subst h
 rw[ByteArray.toList_eq]
 simp
end Go.Proofs.YtjinnigjfopbcaaGreatDoor
namespace Go.Proofs.YtjinnigjfopbcaaGreatDoor
set_option linter.unusedVariables false
set_option linter.unusedSimpArgs false
set_option maxRecDepth 20000
structure Sc where
 rf:Int
 rl:Int
 mf:Int
 ml:Int
 lf:Int
 ll:Int
 df:Int
 dl:Int
deriving DecidableEq
def xdy:Sc:=⟨0,0,0,0,0,0,0,0⟩
structure Pl where
 sec:Sc
 all:Int
 err:Int
def xfb (a b c d:Int):Prop:=1099511627776<a∨1099511627776<b∨1099511627776<c∨1099511627776<d∨1099511627776<127+a+b+c+d
instance (a b c d:Int):Decidable (xfb a b c d):=by unfold xfb;infer_instance
def xn0 (a b c d:Int):Pl:=if xfb a b c d then ⟨xdy,0,8⟩ else ⟨⟨127,a,127+a,b,127+a+b,c,127+a+b+c,d⟩,127+a+b+c+d,0⟩
def xcB (h:Hd) (s:Sc):Hd:={ h with rf:=s.rf,rl:=s.rl,mf:=s.mf,ml:=s.ml,lf:=s.lf,ll:=s.ll,df:=s.df,dl:=s.dl }
structure Pt where
 p0:ByteArray
 p1:ByteArray
 p2:ByteArray
 p3:ByteArray
def xbs:ByteArray:={ data:=#[] }
def xj7:Pt:=⟨xbs,xbs,xbs,xbs⟩
def xcD (p:Pt):Pl:=xn0 p.p0.size p.p1.size p.p2.size p.p3.size
def xbe (h:Hd) (p:Pt):ByteArray × Int :=
 if (xcD p).err≠0 then (xbs,(xcD p).err) else if (xfp (xcB h (xcD p).sec)).2≠0 then (xbs,(xfp (xcB h (xcD p).sec)).2)
 else (str (xfp (xcB h (xcD p).sec)).1++p.p0++p.p1++p.p2++p.p3,0)
structure Ct where
 h:Hd
 p:Pt
 err:Int
def xeP (h:Hd) (n:Int):Prop:=n<h.rf+h.rl∨n<h.mf+h.ml∨n<h.lf+h.ll∨n<h.df+h.dl
instance (h:Hd) (n:Int):Decidable (xeP h n):=by unfold xeP;infer_instance
def xmn (t:ByteArray) (f l:Int):ByteArray:=t.extract f.toNat (f.toNat+l.toNat)
def xaV (t:ByteArray):Ct :=
 if (xch (xbO t)).2≠0 then ⟨xac,xj7,(xch (xbO t)).2⟩ else if xeP (xch (xbO t)).1 t.size then ⟨xac,xj7,8⟩
 else ⟨(xch (xbO t)).1,⟨xmn t (xch (xbO t)).1.rf (xch (xbO t)).1.rl,xmn t (xch (xbO t)).1.mf (xch (xbO t)).1.ml,xmn t (xch (xbO t)).1.lf (xch (xbO t)).1.ll,xmn t (xch (xbO t)).1.df (xch (xbO t)).1.dl⟩,0⟩
def xwI (s:Sc):Prop:=U64 s.rf∧U64 s.rl∧U64 s.mf∧U64 s.ml∧U64 s.lf∧U64 s.ll∧U64 s.df∧U64 s.dl
end Go.Proofs.YtjinnigjfopbcaaGreatDoor
namespace Go.Proofs.YtjinnigjfopbcaaGreatDoor
set_option linter.unusedVariables false
set_option linter.unusedSimpArgs false
open Go.RowKit
set_option maxRecDepth 20000
open Go.RowKit
set_option maxRecDepth 20000
open Go.RowKit
set_option maxRecDepth 20000
open Go.RowKit
set_option maxRecDepth 20000
open Go.RowKit
set_option maxRecDepth 20000
open Go.RowKit
set_option maxRecDepth 20000
open Go.RowKit
set_option maxRecDepth 20000
open Go.RowKit
set_option maxRecDepth 20000
def leB:Nat→Int→List Int
 | 0,_=>[]
 | k+1,x=>x % 256 :: leB k (x / 256)
def shr:Nat→Int→Int
 | 0,x=>x
 | k+1,x=>shr k (x / 256)
theorem xtB (k:Nat) (x:Int):(leB k x).length=k:=by
 induction k generalizing x with
 | zero=>rfl
 | succ k ih=>simp[leB,ih]
theorem xqx (k:Nat) (x:Int):shr (k+1) x=shr k x / 256:=by
 induction k generalizing x with
 | zero=>rfl
 | succ k ih=>exact ih (x / 256)
theorem xpD (k:Nat) (x:Int):leB (k+1) x=leB k x++[shr k x % 256]:=by
 induction k generalizing x with
 | zero=>rfl
 | succ k ih =>
  show x % 256 :: leB (k+1) (x / 256)=x % 256 :: leB k (x / 256)++[shr k (x / 256) % 256]
  rw[ih];rfl
theorem xfN (v:Value) (l:List Int) (n x:Int) (m:Nat) (w:World) (hb:xaI w v l) (hl:l.length≤1000000) (hn:n=m∧1≤m∧m≤8∨m=0∧(n<1∨8<n)) (x0:0≤x) (x1:x≤18446744073709551615) :
  Calls Tryz.prog 275 #[v,.int .i64 n,.int .u64 x] w (xkC w (l++leB m x)):=by
 obtain⟨a,cap,rfl,hc1,hc2,hcell⟩:=hb
 obtain⟨i0,hi,hz0,hz1,hz2⟩:=xao xj6
 have HM:∀ (L:Nat) (W:World),L≤1000000→(Instr.makeSlice 23 (.int .i64 (L:Int)) (.int .i64 ((L:Int)+(m:Int)))).run Tryz.prog W=.ok (.slice (some ⟨W.heap.size,0,none⟩) L (L+m)) (W.alloc (.cells (madeCells #[.int .u8 0] ((L+m)*1)) 5)):=by
  intro L W hL
  have:=run_make (P:=Tryz.prog) W 23 5 i0 (.int .u8 0) Tryz.underlying23 hi hz0 .i64 .i64 (L:Int) ((L:Int)+(m:Int)) (by omega) (by omega) (by rw[hz2];omega) (by omega)
  rw[this,hz1]
  simp only[Int.toNat_natCast]
  rw[show ((L:Int)+(m:Int)).toNat=L+m from by omega]
  rfl
 have hmk:=HM l.length
 clear HM
 have hG:(w.alloc (.cells (madeCells #[.int .u8 0] (l.length+m)) 5)).heap[w.heap.size]?=some (.cells (List.replicate (l.length+m) (Value.int .u8 0)).toArray 5 (0,0)):=by
  rw[heap_alloc_new]
  have:=toList_madeCells_one (.int .u8 0) (l.length+m)
  rw[← this]
 have hpos:0<(l.map (Value.int .u8)).length→∃ ad,a=some ad∧∀ j u,(l.map (Value.int .u8))[j]?=some u→(w.alloc (.cells (madeCells #[.int .u8 0] (l.length+m)) 5)).cell? (ad.add j)=some u:=by
  intro h
  obtain⟨y,hy,hyb,hyc⟩:=hcell (by simpa using h)
  refine⟨y,hy,fun j u hj=>?_⟩
  have hjl:j<l.length:=by
   have:=(List.getElem?_eq_some_iff.1 hj).1
   simpa using this
  have hu:u=.int .u8 (l.getD j 0):=by simpa[hjl] using hj.symm
  rw[hu,← hyc j hjl]
  exact((Below.refl w.heap.size w).alloc (Nat.le_refl _) _).cell (p:=y.add j) (by rw[xhW];exact hyb)
 have HG:=lH hG;clear hG
 have HP:=lH hpos;clear hpos
 clear hcell
 have hml:l.length+8≤maxLen:=by unfold maxLen;omega
 rcases hn with ⟨rfl,hm1,hm8⟩|⟨rfl,hn⟩
 ·go_enter Tryz.func275,Tryz.ntmps275
  go_wp2_with (first|(go_at_call 296;refine(xjj _ _ (by omega) (by omega)).mono ?_;rintro e w' ⟨rfl,rfl⟩)|(with_reducible refine wpList_copy_splice rfl (.tmp 18) (.tmp 19) 23 23 rfl 5 Tryz.underlying23 (by kernel_rfl) _ _ _ _ _ _ rfl rfl w.heap.size 0 (List.replicate (l.length+m) (Value.int .u8 0)) 5 HG.out (l.map (Value.int .u8)) (by simp) (fun h=>⟨rfl,HP.out h⟩) (by simp) (ints_oneCell _ _) w.heap.size w ((Below.refl _ _).alloc (Nat.le_refl _) _) (Nat.le_refl _) ?_;intro w2 HG2 HB2)|fail)
  have hO:=xcw HG2.out (by omega)
  clear HG2 HG HP hmk
  go_loopw [7,2,22] (fun v x' i wr=>∃ (k:Nat) (y:Int),k≤m∧i=.int .i64 k∧x'=.int .u64 y∧0≤y∧y≤18446744073709551615∧Hid (shr k x=y)∧Own wr w.heap.size v (l++leB k x)∧Below w.heap.size w wr) (fun _ _ i _=>m - (intOf i).toNat)
  case atStart=>exact⟨0,x,Nat.zero_le _,rfl,rfl,x0,x1,rfl,by simpa[leB] using hO,HB2⟩
  case round =>
   obtain⟨k,y,hk,rfl,rfl,y0,y1,HY,hown,hbw⟩:=hrel
   have hlen:(l++leB k x).length=l.length+k:=by rw[List.length_append,xtB]
   have HL:=lH hlen;clear hlen
   have hsz:=hbw.size
   by_cases hlt:k<m
   ·go_wp2_with (first|(at_builtin;refine wpList_append_own _ rfl _ _ 23 rfl w.heap.size 5 i0 (.int .u8 0) 1 1 Tryz.underlying23 hi hz0 hz1 hz2 rfl (by decide) _ _ _ rfl (World.ownsRow.alloc hown _) ⟨wr.heap.size,0,none⟩ 1 1 [.int .u8 (y % 256)] rfl rfl ?c1 ?c2 ?c3 ?c4 ?c5 ?_)|fail)
    case c1 =>
     intro j u hj
     match j,hj with
     | 0,hj=>simp at hj;subst hj;simp[Addr.add]
    case c2=>intro u hu;simp at hu;subst hu;rfl
    case c3=>rw[HL.out];unfold maxLen;omega
    case c4=>rw[HL.out];omega
    case c5=>rw[World.size_alloc];omega
    intro v' w1 hown' hgrow _
    have hbel:Below w.heap.size w w1:=(hbw.alloc (by omega) _).grown hgrow (by rw[World.size_alloc];omega) (fun g hg=>(World.ownsRow.lt hown g hg).1)
    have hO':Own w1 w.heap.size v' (l++leB (k+1) x):=by
     rw[xpD,HY.out,← List.append_assoc]
     exact Own.snoc (by simpa using hown')
    have HY':Hid (shr (k+1) x=y / 256):=by
     have:=xqx k x
     rw[HY.out] at this
     exact lH this
    clear hown' hgrow hown hbw HY
    go_wp2
    go_roundw
    case rel=>exact⟨k+1,y / 256,by omega,by go_num,rfl,by omega,by omega,HY',hO',hbel⟩
    case measure=>simp[intOf];omega
   ·obtain rfl:k=m:=by omega
    go_wp2
    go_ret
    exact⟨_,rfl,hown,hbw⟩
 ·simp only[Nat.add_zero] at HG HP
  have hmk0:∀ (W:World),(Instr.makeSlice 23 (.int .i64 (l.length:Int)) (.int .i64 (l.length:Int))).run Tryz.prog W=.ok (.slice (some ⟨W.heap.size,0,none⟩) l.length l.length) (W.alloc (.cells (madeCells #[.int .u8 0] l.length) 5)):=by
   intro W
   have:=hmk W hl
   simpa using this
  clear hmk
  go_enter Tryz.func275,Tryz.ntmps275
  go_wp2_with (first|(go_at_call 296;refine(xsc _ _ (by omega)).mono ?_;rintro e w' ⟨rfl,rfl⟩)|(with_reducible refine wpList_copy_splice rfl (.tmp 18) (.tmp 19) 23 23 rfl 5 Tryz.underlying23 (by kernel_rfl) _ _ _ _ _ _ rfl rfl w.heap.size 0 (List.replicate l.length (Value.int .u8 0)) 5 HG.out (l.map (Value.int .u8)) (by simp) (fun h=>⟨rfl,HP.out h⟩) (by simp) (ints_oneCell _ _) w.heap.size w ((Below.refl _ _).alloc (Nat.le_refl _) _) (Nat.le_refl _) ?_;intro w2 HG2 HB2)|fail)
  have hO:=xcw (m:=0) HG2.out (by omega)
  clear HG2 HG HP hmk0
  refine wp_loop_rounds 1 ?_
  rw[rounds_succ]
  go_wp2
  go_ret
  exact⟨_,rfl,by simpa[leB] using hO,HB2⟩
end Go.Proofs.YtjinnigjfopbcaaGreatDoor
namespace Go.Proofs.YtjinnigjfopbcaaGreatDoor
set_option linter.unusedVariables false
set_option linter.unusedSimpArgs false
open Go.RowKit
set_option maxRecDepth 20000
theorem xjH (n:Nat) (x:Int):leB n x=leH n x:=by
 induction n generalizing x with
 | zero=>rfl
 | succ n ih=>rw[leB,leH,ih]
theorem xmu (n:Nat) (m x:Int):leH n (x % (256 ^ n*m))=leH n x:=by
 induction n generalizing x with
 | zero=>rfl
 | succ n ih =>
  rw[leH,leH]
  have e:(256:Int) ^ (n+1)*m=256*(256 ^ n*m):=by rw[Int.pow_succ,Int.mul_comm (256 ^ n) 256,Int.mul_assoc]
  rw[e]
  have h1:x % (256*(256 ^ n*m)) % 256=x % 256:=Int.emod_emod_of_dvd x ⟨_,rfl⟩
  have h2:x % (256*(256 ^ n*m)) / 256=x / 256 % (256 ^ n*m):=by
   have h3:=Int.emod_add_mul_ediv x (256*(256 ^ n*m))
   rw[Int.emod_def x,Int.emod_def (x / 256),Int.mul_assoc 256,Int.sub_mul_ediv_left _ _ (by omega:(256:Int)≠0),Int.ediv_ediv_of_nonneg (by omega:(0:Int)≤256)]
  rw[h1,h2,ih]
theorem xps (n:Nat) (x:Int) (h:n≤8):leH n (IntKind.u64.wrap x)=leH n x:=by
 rw[wrap_u64]
 have:=xmu n (256 ^ (8 - n)) x
 rw[← Int.pow_add,show n+(8 - n)=8 from by omega] at this
 exact this
def xau (n:Nat):List Int→List Int
 | []=>[]
 | x :: l=>leH n x++xau n l
theorem xbw (n:Nat) (a b:List Int):xau n (a++b)=xau n a++xau n b:=by
 induction a with
 | nil=>rfl
 | cons x a ih=>rw[List.cons_append,xau,xau,ih,List.append_assoc]
theorem xcP (n:Nat) (l:List Int):(xau n l).length=n*l.length:=by
 induction l with
 | nil=>rfl
 | cons x l ih=>rw[xau,List.length_append,xgA,ih,List.length_cons,Nat.mul_succ,Nat.add_comm]
theorem xef (n:Nat) (l:List Int) (k:Nat) (h:k<l.length):xau n (l.take (k+1))=xau n (l.take k)++leH n (l.getD k 0):=by
 rw[xfd l k h,xbw]
 simp[xau]
theorem xkf (l:List Int) (k:Nat) (h:k<l.length):l.getD k 0 ∈ l:=by
 have e:l.getD k 0=l[k]:=by simp[h]
 rw[e]
 exact List.getElem_mem h
theorem xso (x:Int):0≤IntKind.u64.wrap x∧IntKind.u64.wrap x≤18446744073709551615:=by rw[wrap_u64];omega
def xa0 (w:World) (l:List Int) (e:Ending) (w':World):Prop:=∃ v,e=.returned v∧xaI w' v l∧Below w.heap.size w w'
set_option maxRecDepth 20000 in
theorem xeY (v vl:Value) (b l:List Int) (n:Nat) (w:World) (hb:xaI w v b) (hl:xdh .i64 w vl l) (h0:1≤n) (h8:n≤8) (hs:b.length+n*l.length≤1000000) :
  Calls Tryz.prog 220 #[v,.int .i64 n,vl] w (xa0 w (b++xau n l)):=by
 obtain⟨c,cap,rfl,hc1,hc2,hc,hcell⟩:=hl
 have HC:=lH hcell;clear hcell
 have hml:l.length≤9223372036854775807:=by unfold maxLen at hc2;omega
 have HB:=lH hb;clear hb
 go_enter Tryz.func220,Tryz.ntmps220
 go_wp2_with fail
 go_loopw [0,11] (fun v i wr=>∃ k:Nat,k≤l.length∧i=.int .i64 k∧xaI wr v (b++xau n (l.take k))∧Below w.heap.size w wr) (fun _ i _=>l.length - (intOf i).toNat)
 case atStart=>exact⟨0,Nat.zero_le _,rfl,by simpa[xau] using HB.out,Below.refl _ _⟩
 case round =>
  obtain⟨k,hk,rfl,hbr,hbw⟩:=hrel
  have hsz:=hbw.size
  by_cases hlt:k<l.length
  ·have c1:=(hbw.cell (p:=⟨c,k,none⟩) hc).trans (HC.out k hlt)
   have hlen:(b++xau n (l.take k)).length≤1000000:=by
    rw[List.length_append,xcP,List.length_take,Nat.min_eq_left hk]
    have:=Nat.mul_le_mul_left n hk
    omega
   have HT:Hid (b++xau n (l.take (k+1))=b++xau n (l.take k)++leB n (IntKind.u64.wrap (l.getD k 0))):=lH (by rw[xef n l k hlt,xjH,xps n _ h8,← List.append_assoc])
   obtain⟨x,hxx⟩:∃ x,l.getD k 0=x:=⟨_,rfl⟩
   rw[hxx] at c1 HT
   have HX:=lH hxx;clear hxx
   obtain⟨L,hL⟩:∃ L,b++xau n (l.take k)=L:=⟨_,rfl⟩
   rw[hL] at hbr HT hlen
   clear hL HX
   have HBR:=lH hbr;clear hbr
   have HL:=lH hlen;clear hlen
   have HBW:=lH hbw;clear hbw
   have hwb:=xso x
   go_wp2_with fail
   refine(xfN _ L n (IntKind.u64.wrap x) n _ HBR.out HL.out (.inl ⟨rfl,h0,h8⟩) hwb.1 hwb.2).mono ?_
   rintro e w1 ⟨v1,rfl,ho,hb1⟩
   have hbe:=ho.bytesAt
   rw[← HT.out] at hbe
   have hbw1:=HBW.out.trans (hb1.mono hsz)
   clear hb1 ho
   go_wp2_with fail
   go_roundw
   case rel=>exact⟨k+1,by omega,by go_num,hbe,hbw1⟩
   case measure=>simp[intOf];omega
  ·obtain rfl:k=l.length:=by omega
   rw[List.take_length] at hbr
   go_wp2_with fail
   go_ret
   exact⟨_,rfl,hbr,hbw⟩
set_option maxRecDepth 20000 in
theorem xkG (v vl:Value) (b l:List Int) (n:Nat) (w:World) (hb:xaI w v b) (hl:xdh .u64 w vl l) (hx:∀ x ∈ l,U64 x) (h0:1≤n) (h8:n≤8) (hs:b.length+n*l.length≤1000000) :
  Calls Tryz.prog 221 #[v,.int .i64 n,vl] w (xa0 w (b++xau n l)):=by
 obtain⟨c,cap,rfl,hc1,hc2,hc,hcell⟩:=hl
 have HC:=lH hcell;clear hcell
 have hml:l.length≤9223372036854775807:=by unfold maxLen at hc2;omega
 have HB:=lH hb;clear hb
 have HXX:=lH hx;clear hx
 go_enter Tryz.func221,Tryz.ntmps221
 go_wp2_with fail
 go_loopw [0,11] (fun v i wr=>∃ k:Nat,k≤l.length∧i=.int .i64 k∧xaI wr v (b++xau n (l.take k))∧Below w.heap.size w wr) (fun _ i _=>l.length - (intOf i).toNat)
 case atStart=>exact⟨0,Nat.zero_le _,rfl,by simpa[xau] using HB.out,Below.refl _ _⟩
 case round =>
  obtain⟨k,hk,rfl,hbr,hbw⟩:=hrel
  have hsz:=hbw.size
  by_cases hlt:k<l.length
  ·have c1:=(hbw.cell (p:=⟨c,k,none⟩) hc).trans (HC.out k hlt)
   have hlen:(b++xau n (l.take k)).length≤1000000:=by
    rw[List.length_append,xcP,List.length_take,Nat.min_eq_left hk]
    have:=Nat.mul_le_mul_left n hk
    omega
   have HT:Hid (b++xau n (l.take (k+1))=b++xau n (l.take k)++leB n (l.getD k 0)):=lH (by rw[xef n l k hlt,xjH,← List.append_assoc])
   have hbx:U64 (l.getD k 0):=HXX.out _ (xkf l k hlt)
   obtain⟨x,hxx⟩:∃ x,l.getD k 0=x:=⟨_,rfl⟩
   rw[hxx] at c1 HT hbx
   have HX:=lH hxx;clear hxx
   obtain⟨L,hL⟩:∃ L,b++xau n (l.take k)=L:=⟨_,rfl⟩
   rw[hL] at hbr HT hlen
   clear hL HX
   have HBR:=lH hbr;clear hbr
   have HL:=lH hlen;clear hlen
   have HBW:=lH hbw;clear hbw
   obtain⟨hx0,hx1⟩:=hbx
   go_wp2_with fail
   refine(xfN _ L n (x) n _ HBR.out HL.out (.inl ⟨rfl,h0,h8⟩) hx0 hx1).mono ?_
   rintro e w1 ⟨v1,rfl,ho,hb1⟩
   have hbe:=ho.bytesAt
   rw[← HT.out] at hbe
   have hbw1:=HBW.out.trans (hb1.mono hsz)
   clear hb1 ho
   go_wp2_with fail
   go_roundw
   case rel=>exact⟨k+1,by omega,by go_num,hbe,hbw1⟩
   case measure=>simp[intOf];omega
  ·obtain rfl:k=l.length:=by omega
   rw[List.take_length] at hbr
   go_wp2_with fail
   go_ret
   exact⟨_,rfl,hbr,hbw⟩
set_option maxRecDepth 20000 in
theorem xp1 (v vl:Value) (b l:List Int) (n:Nat) (w:World) (hb:xaI w v b) (hl:xdh .u8 w vl l) (hx:∀ x ∈ l,U8 x) (h0:1≤n) (h8:n≤8) (hs:b.length+n*l.length≤1000000) :
  Calls Tryz.prog 222 #[v,.int .i64 n,vl] w (xa0 w (b++xau n l)):=by
 obtain⟨c,cap,rfl,hc1,hc2,hc,hcell⟩:=hl
 have HC:=lH hcell;clear hcell
 have hml:l.length≤9223372036854775807:=by unfold maxLen at hc2;omega
 have HB:=lH hb;clear hb
 have HXX:=lH hx;clear hx
 go_enter Tryz.func222,Tryz.ntmps222
 go_wp2_with fail
 go_loopw [0,11] (fun v i wr=>∃ k:Nat,k≤l.length∧i=.int .i64 k∧xaI wr v (b++xau n (l.take k))∧Below w.heap.size w wr) (fun _ i _=>l.length - (intOf i).toNat)
 case atStart=>exact⟨0,Nat.zero_le _,rfl,by simpa[xau] using HB.out,Below.refl _ _⟩
 case round =>
  obtain⟨k,hk,rfl,hbr,hbw⟩:=hrel
  have hsz:=hbw.size
  by_cases hlt:k<l.length
  ·have c1:=(hbw.cell (p:=⟨c,k,none⟩) hc).trans (HC.out k hlt)
   have hlen:(b++xau n (l.take k)).length≤1000000:=by
    rw[List.length_append,xcP,List.length_take,Nat.min_eq_left hk]
    have:=Nat.mul_le_mul_left n hk
    omega
   have HT:Hid (b++xau n (l.take (k+1))=b++xau n (l.take k)++leB n (l.getD k 0)):=lH (by rw[xef n l k hlt,xjH,← List.append_assoc])
   have hbx:U8 (l.getD k 0):=HXX.out _ (xkf l k hlt)
   obtain⟨x,hxx⟩:∃ x,l.getD k 0=x:=⟨_,rfl⟩
   rw[hxx] at c1 HT hbx
   have HX:=lH hxx;clear hxx
   obtain⟨L,hL⟩:∃ L,b++xau n (l.take k)=L:=⟨_,rfl⟩
   rw[hL] at hbr HT hlen
   clear hL HX
   have HBR:=lH hbr;clear hbr
   have HL:=lH hlen;clear hlen
   have HBW:=lH hbw;clear hbw
   obtain⟨hx0,hx1⟩:=hbx
   go_wp2_with fail
   refine(xfN _ L n (x) n _ HBR.out HL.out (.inl ⟨rfl,h0,h8⟩) hx0 (by omega)).mono ?_
   rintro e w1 ⟨v1,rfl,ho,hb1⟩
   have hbe:=ho.bytesAt
   rw[← HT.out] at hbe
   have hbw1:=HBW.out.trans (hb1.mono hsz)
   clear hb1 ho
   go_wp2_with fail
   go_roundw
   case rel=>exact⟨k+1,by omega,by go_num,hbe,hbw1⟩
   case measure=>simp[intOf];omega
  ·obtain rfl:k=l.length:=by omega
   rw[List.take_length] at hbr
   go_wp2_with fail
   go_ret
   exact⟨_,rfl,hbr,hbw⟩
theorem xgC {w:World} {v:Value} {l:List Int} (h:xdh .u8 w v l):xaI w v l:=by
 obtain⟨b,cap,h1,h2,h3,h4,h5⟩:=h
 exact⟨_,cap,h1,h2,h3,fun _=>⟨_,rfl,h4,fun i hi=>by
  have e:(⟨b,0,none⟩:Addr).add i=⟨b,i,none⟩:=by unfold Addr.add;split <;> simp_all
  rw[e];exact h5 i hi⟩⟩
theorem xa0.over {W:World} {o:Obj} {l:List Int} {e:Ending} {w':World} (h:xa0 (W.alloc o) l e w'):xa0 W l e w':=by
 obtain⟨v,h1,h2,h3⟩:=h
 exact⟨v,h1,h2,((Below.refl _ _).alloc (Nat.le_refl _) _).trans (h3.mono (by rw[World.size_alloc];omega))⟩
theorem xnn (v:Value) (b:List Int) (a0:Int) (W:World) (m:Nat) (hb:xaI W v b) (hm:m=W.heap.size) (hs:b.length≤999000):Calls Tryz.prog 220 #[v,.int .i64 1,.slice (some ⟨m,0,none⟩) 1 1] (W.alloc (.cells #[.int .i64 a0] 3)) (xa0 W (b++xau 1 [a0])) :=
 (xeY v _ b [a0] 1 (W.alloc (.cells #[.int .i64 a0] 3)) (hb.below ((Below.refl _ _).alloc (Nat.le_refl _) _)) (xaU .i64 W [a0] 3 m (0,0) hm (by simp[maxLen])) (by omega) (by omega) (by simp only[List.length_cons,List.length_nil];omega)).mono fun _ _ h=>h.over
theorem xtx (v:Value) (b:List Int) (a0 a1:Int) (W:World) (m:Nat) (hb:xaI W v b) (hm:m=W.heap.size) (hs:b.length≤999000):Calls Tryz.prog 220 #[v,.int .i64 1,.slice (some ⟨m,0,none⟩) 2 2] (W.alloc (.cells #[.int .i64 a0,.int .i64 a1] 3)) (xa0 W (b++xau 1 [a0,a1])) :=
 (xeY v _ b [a0,a1] 1 (W.alloc (.cells #[.int .i64 a0,.int .i64 a1] 3)) (hb.below ((Below.refl _ _).alloc (Nat.le_refl _) _)) (xaU .i64 W [a0,a1] 3 m (0,0) hm (by simp[maxLen])) (by omega) (by omega) (by simp only[List.length_cons,List.length_nil];omega)).mono fun _ _ h=>h.over
theorem xs3 (v:Value) (b:List Int) (a0 a1 a2 a3:Int) (W:World) (m:Nat) (hb:xaI W v b) (hm:m=W.heap.size) (hs:b.length≤999000):Calls Tryz.prog 220 #[v,.int .i64 4,.slice (some ⟨m,0,none⟩) 4 4] (W.alloc (.cells #[.int .i64 a0,.int .i64 a1,.int .i64 a2,.int .i64 a3] 3)) (xa0 W (b++xau 4 [a0,a1,a2,a3])) :=
 (xeY v _ b [a0,a1,a2,a3] 4 (W.alloc (.cells #[.int .i64 a0,.int .i64 a1,.int .i64 a2,.int .i64 a3] 3)) (hb.below ((Below.refl _ _).alloc (Nat.le_refl _) _)) (xaU .i64 W [a0,a1,a2,a3] 3 m (0,0) hm (by simp[maxLen])) (by omega) (by omega) (by simp only[List.length_cons,List.length_nil];omega)).mono fun _ _ h=>h.over
theorem xtC (v:Value) (b:List Int) (a0 a1:Int) (W:World) (m:Nat) (hb:xaI W v b) (hm:m=W.heap.size) (hs:b.length≤999000):Calls Tryz.prog 220 #[v,.int .i64 4,.slice (some ⟨m,0,none⟩) 2 2] (W.alloc (.cells #[.int .i64 a0,.int .i64 a1] 3)) (xa0 W (b++xau 4 [a0,a1])) :=
 (xeY v _ b [a0,a1] 4 (W.alloc (.cells #[.int .i64 a0,.int .i64 a1] 3)) (hb.below ((Below.refl _ _).alloc (Nat.le_refl _) _)) (xaU .i64 W [a0,a1] 3 m (0,0) hm (by simp[maxLen])) (by omega) (by omega) (by simp only[List.length_cons,List.length_nil];omega)).mono fun _ _ h=>h.over
theorem xgw (v:Value) (b:List Int) (a0 a1:Int) (W:World) (m:Nat) (hb:xaI W v b) (hm:m=W.heap.size) (h0:U64 a0) (h1:U64 a1) (hs:b.length≤999000):Calls Tryz.prog 221 #[v,.int .i64 8,.slice (some ⟨m,0,none⟩) 2 2] (W.alloc (.cells #[.int .u64 a0,.int .u64 a1] 26)) (xa0 W (b++xau 8 [a0,a1])) :=
 (xkG v _ b [a0,a1] 8 (W.alloc (.cells #[.int .u64 a0,.int .u64 a1] 26)) (hb.below ((Below.refl _ _).alloc (Nat.le_refl _) _)) (xaU .u64 W [a0,a1] 26 m (0,0) hm (by simp[maxLen])) (by intro x hx;simp only[List.mem_cons,List.not_mem_nil,or_false] at hx;rcases hx with rfl|rfl <;> assumption) (by omega) (by omega) (by simp only[List.length_cons,List.length_nil];omega)).mono fun _ _ h=>h.over
theorem xsd (v:Value) (b:List Int) (a0 a1 a2:Int) (W:World) (m:Nat) (hb:xaI W v b) (hm:m=W.heap.size) (h0:U64 a0) (h1:U64 a1) (h2:U64 a2) (hs:b.length≤999000):Calls Tryz.prog 221 #[v,.int .i64 8,.slice (some ⟨m,0,none⟩) 3 3] (W.alloc (.cells #[.int .u64 a0,.int .u64 a1,.int .u64 a2] 26)) (xa0 W (b++xau 8 [a0,a1,a2])) :=
 (xkG v _ b [a0,a1,a2] 8 (W.alloc (.cells #[.int .u64 a0,.int .u64 a1,.int .u64 a2] 26)) (hb.below ((Below.refl _ _).alloc (Nat.le_refl _) _)) (xaU .u64 W [a0,a1,a2] 26 m (0,0) hm (by simp[maxLen])) (by intro x hx;simp only[List.mem_cons,List.not_mem_nil,or_false] at hx;rcases hx with rfl|rfl|rfl <;> assumption) (by omega) (by omega) (by simp only[List.length_cons,List.length_nil];omega)).mono fun _ _ h=>h.over
theorem xst (v:Value) (b:List Int) (a0 a1 a2 a3:Int) (W:World) (m:Nat) (hb:xaI W v b) (hm:m=W.heap.size) (h0:U8 a0) (h1:U8 a1) (h2:U8 a2) (h3:U8 a3) (hs:b.length≤999000):Calls Tryz.prog 222 #[v,.int .i64 1,.slice (some ⟨m,0,none⟩) 4 4] (W.alloc (.cells #[.int .u8 a0,.int .u8 a1,.int .u8 a2,.int .u8 a3] 5)) (xa0 W (b++xau 1 [a0,a1,a2,a3])) :=
 (xp1 v _ b [a0,a1,a2,a3] 1 (W.alloc (.cells #[.int .u8 a0,.int .u8 a1,.int .u8 a2,.int .u8 a3] 5)) (hb.below ((Below.refl _ _).alloc (Nat.le_refl _) _)) (xaU .u8 W [a0,a1,a2,a3] 5 m (0,0) hm (by simp[maxLen])) (by intro x hx;simp only[List.mem_cons,List.not_mem_nil,or_false] at hx;rcases hx with rfl|rfl|rfl|rfl <;> assumption) (by omega) (by omega) (by simp only[List.length_cons,List.length_nil];omega)).mono fun _ _ h=>h.over
theorem xvJ {w' w1:World} {a0 a1 a2 a3:Addr} {v0 v1 v2 v3:Value} (hb:Below w'.heap.size w' w1) (h:w'.cell? a0=some v0∧w'.cell? a1=some v1∧w'.cell? a2=some v2∧w'.cell? a3=some v3):w1.cell? a0=some v0∧w1.cell? a1=some v1∧w1.cell? a2=some v2∧w1.cell? a3=some v3 :=
 ⟨xaY hb h.1,xaY hb h.2.1,xaY hb h.2.2.1,xaY hb h.2.2.2⟩
theorem xmN {s t:ByteArray} {a b:Int} (h:(s,a)=(t,b)):Ending.returned (.tuple #[.string s,.int .i64 a])=.returned (.tuple #[.string t,.int .i64 b]):=by
 obtain⟨h1,h2⟩:=Prod.mk.injEq .. ▸ h
 rw[h1,h2]
def upL (h:Hd) (k:Nat):List Int:=[h.rf,h.rl,h.mf,h.ml,h.lf,h.ll,h.df,h.dl].take (2*k)
theorem xoS (h:Hd) (k:Nat):(xau 8 (upL h k)).length≤64:=by
 rw[xcP,upL,List.length_take]
 simp only[List.length_cons,List.length_nil]
 omega
def s0:List Int:=mgH++xau 1 [3]
def s1 (h:Hd) (k:Nat):List Int:=s0++xau 8 (upL h k)
def s2 (h:Hd):List Int:=s1 h 4++xau 8 [h.ad,h.en,h.co]
def s3 (h:Hd):List Int:=s2 h++xau 1 [xhc h.cl,h.inn,h.out,h.knd]
def s4 (h:Hd):List Int:=s3 h++xau 1 [h.z0,h.z1]
def s5 (h:Hd):List Int:=s4 h++xau 4 [h.lo0,h.la0,h.lo1,h.la1]
def s6 (h:Hd):List Int:=s5 h++xau 1 [h.zm]
def s7 (h:Hd):List Int:=s6 h++xau 4 [h.lon,h.lat]
theorem xq1 (x:Int):leH 4 (xmp x)=leH 4 x:=xmu 4 1 x
theorem xpG (h:Hd):s7 h=xbg h:=by
 simp only[s7,s6,s5,s4,s3,s2,s1,s0,upL,xbg,xgZ,mgH,xd5,xiD,xgI,xau,List.take,List.append_nil,xq1,List.append_assoc,List.cons_append,List.nil_append]
 rfl
theorem xtq (h:Hd) (k:Nat):(s1 h k).length≤200∧(s2 h).length≤200∧(s3 h).length≤200∧(s4 h).length≤200∧(s5 h).length≤200∧(s6 h).length≤200∧(s7 h).length≤200:=by
 have h0:s0.length=8:=rfl
 have h1:=xoS h k
 have h4:=xoS h 4
 simp only[s7,s6,s5,s4,s3,s2,s1,List.length_append,xcP,List.length_cons,List.length_nil] at h1 h4 ⊢
 omega
set_option maxRecDepth 20000 in
theorem xl1 (h:Hd) (w:World) (hm:xeJ h):Calls Tryz.prog 143 #[.agg (cH h)] w fun e w'=>e=.returned (.tuple #[.string (str (xfp h).1),.int .i64 (xfp h).2])∧Below w.heap.size w w':=by
 have HCk:=lH (fun W=>xfA h W hm)
 have HM:=lH hm;clear hm
 have H0:=HAt.made w h 124
 obtain⟨E,hE⟩:∃ E,xfp h=E:=⟨_,rfl⟩
 rw[hE]
 have HE:=lH hE;clear hE
 by_cases hc:ckH h=0
 ·have HE2:Hid ((str (xbg h),(0:Int))=(str E.1,E.2)):=lH (by rw[← HE.out,xfp,if_pos hc])
  rw[hc] at HCk
  have hcv:=fun(w:World) (C:Array Value) (n c:Nat)=>Lib.run_convert_bytes_const (P:=Tryz.prog) w 23 5 C n c Tryz.underlying23 Tryz.underlying5
  go_enter Tryz.func143,Tryz.ntmps143
  go_wp2_with (first|(refine xaT (by rfl) _ rfl _ rfl _ h (by assumption) ?_)|fail)
  refine(HCk.out _).mono ?_
  rintro e w1 ⟨rfl,hb⟩
  have h1:=H0.later hb
  have u1:Below w.heap.size w w1:=Below.trans (by go_grown) (hb.mono (by rw[World.size_alloc];omega))
  have z1:w.heap.size<w1.heap.size:=h1.lt
  have HH:=lH h1
  have HU:=lH u1
  clear hb H0 h1 u1 hc HCk HE
  go_wp2_with fail
  have hbm:=xgC (xaU .u8 w1 mgH 5 w1.heap.size (7,8) rfl (by decide))
  refine(xnn _ mgH 3 _ _ hbm (by simp) (by decide)).mono ?_
  rintro e w2 ⟨v2,rfl,hv2,hb⟩
  have hz2:w1.heap.size≤w2.heap.size:=by have:=hb.size;rw[World.size_alloc] at this;omega
  have u2:Below w1.heap.size w1 w2:=((Below.refl _ _).alloc (Nat.le_refl _) _).trans (hb.mono (by rw[World.size_alloc];omega))
  have h2:=HH.out.below u2 z1
  have HV:=lH hv2
  have hlen:=fun k=>(xtq h k).1
  have HL:=lH hlen
  have hlens:=(xtq h 0).2
  have HLS:=lH hlens
  have HU2:=lH (HU.out.trans (u2.mono (by omega)))
  have HH2:=lH h2
  clear hb hbm hcv hlen hlens
  go_wp2_with (first|(refine xaT (by rfl) _ rfl _ rfl _ h (by assumption) ?_)|fail)
  refine(xf9 h _).mono ?_
  rintro e w3 ⟨rfl,hb⟩
  have hz3:=hb.size
  have HU3:=lH (HU2.out.trans (hb.mono (by omega)))
  have HH3:=lH (HH2.out.later hb)
  have HV3:=lH (HV.out.below hb)
  clear hb h2 HV u2
  go_wp2_with fail
  have hIX:=fun W=>xjv (.int .u64 h.rf) (.int .u64 h.rl) (.int .u64 h.mf) (.int .u64 h.ml) (.int .u64 h.lf) (.int .u64 h.ll) (.int .u64 h.df) (.int .u64 h.dl) W
  have HIX:=lH hIX
  clear hIX
  have hw3:w.heap.size<w3.heap.size:=by omega
  go_loopw [5,19] (fun v i wr=>∃ k:Nat,k≤4∧i=.int .i64 k∧Hid (xaI wr v (s1 h k))∧Below w3.heap.size w3 wr) (fun _ i _=>4 - (intOf i).toNat)
  case atStart=>exact⟨0,by omega,rfl,lH (by have:=HV3.out;simpa[s1,s0,upL,xau] using this),Below.refl _ _⟩
  case round =>
   obtain⟨k,hk,rfl,HB,hbw⟩:=hrel
   have hzr:=hbw.size
   have HHr:=lH (HH3.out.below hbw hw3)
   have HUr:=lH (HU3.out.trans (hbw.mono (by omega)))
   rcases(by omega:k=0∨k=1∨k=2∨k=3∨k=4) with rfl|rfl|rfl|rfl|rfl
   ·have hI:=fun W=>(HIX.out W).1
    have hbr:=HB.out
    have HLW:=lH (fun W m hb hm=>xgw u5 (s1 h 0) h.rf h.rl W m hb hm HM.out.1 HM.out.2.1 (by have:=HL.out 0;omega))
    have HT:Hid (s1 h 0++xau 8 [h.rf,h.rl]=s1 h 1):=lH (by rw[s1,s1,List.append_assoc,← xbw];rfl)
    clear hbr
    go_wp2_with fail
    refine(HLW.out _ _ (HB.out.below ((Below.refl _ _).alloc (Nat.le_refl _) _)) (by simp)).mono ?_
    rintro e w4 ⟨v4,rfl,hv4,hb⟩
    have u4:Below w3.heap.size w3 w4:=(hbw.alloc hzr _).trans (hb.mono (by rw[World.size_alloc];omega))
    rw[HT.out] at hv4
    have HV4:=lH hv4
    clear hb hv4
    go_wp2_with fail
    go_roundw
    case rel=>exact⟨1,by omega,by rfl,HV4,u4⟩
    case measure=>simp[intOf]
   ·have hI:=fun W=>(HIX.out W).2.1
    have hbr:=HB.out
    have HLW:=lH (fun W m hb hm=>xgw u5 (s1 h 1) h.mf h.ml W m hb hm HM.out.2.2.1 HM.out.2.2.2.1 (by have:=HL.out 1;omega))
    have HT:Hid (s1 h 1++xau 8 [h.mf,h.ml]=s1 h 2):=lH (by rw[s1,s1,List.append_assoc,← xbw];rfl)
    clear hbr
    go_wp2_with fail
    refine(HLW.out _ _ (HB.out.below ((Below.refl _ _).alloc (Nat.le_refl _) _)) (by simp)).mono ?_
    rintro e w4 ⟨v4,rfl,hv4,hb⟩
    have u4:Below w3.heap.size w3 w4:=(hbw.alloc hzr _).trans (hb.mono (by rw[World.size_alloc];omega))
    rw[HT.out] at hv4
    have HV4:=lH hv4
    clear hb hv4
    go_wp2_with fail
    go_roundw
    case rel=>exact⟨2,by omega,by rfl,HV4,u4⟩
    case measure=>simp[intOf]
   ·have hI:=fun W=>(HIX.out W).2.2.1
    have hbr:=HB.out
    have HLW:=lH (fun W m hb hm=>xgw u5 (s1 h 2) h.lf h.ll W m hb hm HM.out.2.2.2.2.1 HM.out.2.2.2.2.2.1 (by have:=HL.out 2;omega))
    have HT:Hid (s1 h 2++xau 8 [h.lf,h.ll]=s1 h 3):=lH (by rw[s1,s1,List.append_assoc,← xbw];rfl)
    clear hbr
    go_wp2_with fail
    refine(HLW.out _ _ (HB.out.below ((Below.refl _ _).alloc (Nat.le_refl _) _)) (by simp)).mono ?_
    rintro e w4 ⟨v4,rfl,hv4,hb⟩
    have u4:Below w3.heap.size w3 w4:=(hbw.alloc hzr _).trans (hb.mono (by rw[World.size_alloc];omega))
    rw[HT.out] at hv4
    have HV4:=lH hv4
    clear hb hv4
    go_wp2_with fail
    go_roundw
    case rel=>exact⟨3,by omega,by rfl,HV4,u4⟩
    case measure=>simp[intOf]
   ·have hI:=fun W=>(HIX.out W).2.2.2
    have hbr:=HB.out
    have HLW:=lH (fun W m hb hm=>xgw u5 (s1 h 3) h.df h.dl W m hb hm HM.out.2.2.2.2.2.2.1 HM.out.2.2.2.2.2.2.2.1 (by have:=HL.out 3;omega))
    have HT:Hid (s1 h 3++xau 8 [h.df,h.dl]=s1 h 4):=lH (by rw[s1,s1,List.append_assoc,← xbw];rfl)
    clear hbr
    go_wp2_with fail
    refine(HLW.out _ _ (HB.out.below ((Below.refl _ _).alloc (Nat.le_refl _) _)) (by simp)).mono ?_
    rintro e w4 ⟨v4,rfl,hv4,hb⟩
    have u4:Below w3.heap.size w3 w4:=(hbw.alloc hzr _).trans (hb.mono (by rw[World.size_alloc];omega))
    rw[HT.out] at hv4
    have HV4:=lH hv4
    clear hb hv4
    go_wp2_with fail
    go_roundw
    case rel=>exact⟨4,by omega,by rfl,HV4,u4⟩
    case measure=>simp[intOf]
   ·clear hbw HIX HL HV3 HH3 HU3 HU2 HH2 HH HU
    have HLS0:(s1 h 4).length≤200:=(xtq h 4).1
    have a8:=at8 HHr.out
    have a9:=at9 HHr.out
    have a10:=xxd HHr.out
    have HLW:=lH (fun W m hb hm=>xsd u5 (s1 h 4)  h.ad h.en h.co W m hb hm HM.out.2.2.2.2.2.2.2.2.1 HM.out.2.2.2.2.2.2.2.2.2.1 HM.out.2.2.2.2.2.2.2.2.2.2.1 (by have:=HLS0;omega))
    go_wp2_with fail
    refine(HLW.out _ _ HB.out (by simp)).mono ?_
    rintro e w5 ⟨v5,rfl,hv,hb⟩
    have HV5:=lH hv
    have HH5:=lH (HHr.out.later hb)
    have HU5:=lH (HUr.out.trans (hb.mono HUr.out.size))
    have hz5:=hb.size
    clear hb hv a8 a9 a10 HLW HHr HUr
    have a11:=xwT HH5.out
    have a12:=xwJ HH5.out
    have a13:=xwN HH5.out
    have a14:=xwV HH5.out
    have HLW:=lH (fun W m hb hm hc=>xst v5 (s2 h) (xhc h.cl) h.inn h.out h.knd W m hb hm hc HM.out.2.2.2.2.2.2.2.2.2.2.2.1 HM.out.2.2.2.2.2.2.2.2.2.2.2.2.1 HM.out.2.2.2.2.2.2.2.2.2.2.2.2.2 (by have:=HLS.out.1;omega))
    have HC8:Hid (U8 (xhc h.cl)):=lH (by unfold xhc U8;cases h.cl <;> simp)
    have HBd:=lH (HV5.out.below (Below.drew (Below.refl _ _)))
    go_upto_region 11 with fail
    go_cut [5] (fun v wx=>xaI wx v (s3 h)∧Below w5.heap.size w5 wx)
    case first =>
     have hS0:(fun w'=>w'.cell? ⟨w.heap.size,11,none⟩=some (.bool h.cl)∧w'.cell? ⟨w.heap.size,12,none⟩=some (.int .u8 h.inn)∧w'.cell? ⟨w.heap.size,13,none⟩=some (.int .u8 h.out)∧w'.cell? ⟨w.heap.size,14,none⟩=some (.int .u8 h.knd)) w5.drew:=⟨xaY (Below.drew (Below.refl _ _)) a11,xaY (Below.drew (Below.refl _ _)) a12,xaY (Below.drew (Below.refl _ _)) a13,xaY (Below.drew (Below.refl _ _)) a14⟩
     have HS0:=lH hS0;clear hS0
     go_region_held3 (fun w'=>w'.cell? ⟨w.heap.size,11,none⟩=some (.bool h.cl)∧w'.cell? ⟨w.heap.size,12,none⟩=some (.int .u8 h.inn)∧w'.cell? ⟨w.heap.size,13,none⟩=some (.int .u8 h.out)∧w'.cell? ⟨w.heap.size,14,none⟩=some (.int .u8 h.knd)) (first|exact HS0.out|assumption|exact xvJ hb (by assumption)|exact xvJ ((Below.refl _ _).alloc (Nat.le_refl _) _) (by assumption))
      (first|(go_at_call 223;refine(xpz _ _).mono ?_;rintro e w' ⟨rfl,rfl⟩)|(go_at_call 222;refine(HLW.out _ _ HBd.out (by simp) HC8.out).mono ?_;rintro e w' ⟨v',rfl,hv,hb⟩))
     go_wp2_with fail
     go_meet
     case rel=>exact⟨hv,(Below.drew (Below.refl _ _)).trans hb⟩
    case rest =>
     obtain⟨hv,hb⟩:=hcut
     generalize wc=w6 at *
     have HV6:=lH hv
     have HH6:=lH (HH5.out.later hb)
     have HU6:=lH (HU5.out.trans (hb.mono HU5.out.size))
     have hz6:=hb.size
     clear hb hv a11 a12 a13 a14 HLW HH5 HU5
     have a15:=xxc HH6.out
     have a16:=xw3 HH6.out
     have HLW:=lH (fun W m hb hm=>xtx u5 (s3 h)  h.z0 h.z1 W m hb hm  (by have:=HLS.out.2.1;omega))
     go_wp2_with fail
     refine(HLW.out _ _ HV6.out (by simp)).mono ?_
     rintro e w7 ⟨v7,rfl,hv,hb⟩
     have HV7:=lH hv
     have HH7:=lH (HH6.out.later hb)
     have HU7:=lH (HU6.out.trans (hb.mono HU6.out.size))
     have hz7:=hb.size
     clear hb hv a15 a16 HLW HH6 HU6
     have a17:=xxn HH7.out
     have a18:=xw4 HH7.out
     have a19:=xw9 HH7.out
     have a20:=xxm HH7.out
     have HLW:=lH (fun W m hb hm=>xs3 v7 (s4 h)  h.lo0 h.la0 h.lo1 h.la1 W m hb hm  (by have:=HLS.out.2.2.1;omega))
     go_wp2_with fail
     refine(HLW.out _ _ HV7.out (by simp)).mono ?_
     rintro e w8 ⟨v8,rfl,hv,hb⟩
     have HV8:=lH hv
     have HH8:=lH (HH7.out.later hb)
     have HU8:=lH (HU7.out.trans (hb.mono HU7.out.size))
     have hz8:=hb.size
     clear hb hv a17 a18 a19 a20 HLW HH7 HU7
     have a21:=xw8 HH8.out
     have HLW:=lH (fun W m hb hm=>xnn v8 (s5 h)  h.zm W m hb hm  (by have:=HLS.out.2.2.2.1;omega))
     go_wp2_with fail
     refine(HLW.out _ _ HV8.out (by simp)).mono ?_
     rintro e w9 ⟨v9,rfl,hv,hb⟩
     have HV9:=lH hv
     have HH9:=lH (HH8.out.later hb)
     have HU9:=lH (HU8.out.trans (hb.mono HU8.out.size))
     have hz9:=hb.size
     clear hb hv a21 HLW HH8 HU8
     have a22:=xxj HH9.out
     have a23:=xxk HH9.out
     have HLW:=lH (fun W m hb hm=>xtC v9 (s6 h)  h.lon h.lat W m hb hm  (by have:=HLS.out.2.2.2.2.1;omega))
     go_wp2_with fail
     refine(HLW.out _ _ HV9.out (by simp)).mono ?_
     rintro e w10 ⟨v10,rfl,hv,hb⟩
     have HV10:=lH hv
     have HH10:=lH (HH9.out.later hb)
     have HU10:=lH (HU9.out.trans (hb.mono HU9.out.size))
     have hz10:=hb.size
     clear hb hv a22 a23 HLW HH9 HU9
     have hs:=xgT w10 v10 _ HV10.out
     rw[show s6 h++xau 4 [h.lon,h.lat]=xbg h from xpG h] at hs
     go_wp2_with fail
     go_ret2
     exact⟨xmN HE2.out,HU10.out⟩
 ·have hne:(ckH h != 0)=true:=by simp only[bne_iff_ne,ne_eq];exact hc
  have HE2:Hid ((str [],ckH h)=(str E.1,E.2)):=lH (by rw[← HE.out,xfp,if_neg hc])
  clear hc HE
  obtain⟨r,hr⟩:∃ r,ckH h=r:=⟨_,rfl⟩
  rw[hr] at hne HE2 HCk
  clear hr
  go_enter Tryz.func143,Tryz.ntmps143
  go_wp2_with (first|(refine xaT (by rfl) _ rfl _ rfl _ h (by assumption) ?_)|fail)
  refine(HCk.out _).mono ?_
  rintro e w1 ⟨rfl,hb⟩
  have u1:Below w.heap.size w w1:=Below.trans (by go_grown) (hb.mono (by rw[World.size_alloc];omega))
  clear hb H0
  go_wp2_with fail
  go_ret2
  exact⟨xmN HE2.out,u1⟩
theorem xuW (l:List Int) (n:Nat) (h:l.length≤n):(str l).size≤n:=by rw[xa9];exact h
theorem i1 (x:Int):(str (leH 1 x)).size≤8:=xuW _ _ (by rw[xgA];omega)
def r1 (h:Hd):List Int:=xgZ++((leH 8 h.rf++leH 8 h.rl)++((leH 8 h.mf++leH 8 h.ml)++((leH 8 h.lf++leH 8 h.ll)++(leH 8 h.df++leH 8 h.dl))))
def r2 (h:Hd):List Int:=r1 h++(leH 8 h.ad++(leH 8 h.en++(leH 8 h.co++leH 1 (xhc h.cl))))
theorem xdY (h:Hd):(cH h).all (·.oneCell')=true:=by simp[cH,Value.oneCell']
theorem xtE (h:Hd):(cH h).size=24:=rfl
def xqb (w:World) (g:Nat) (T:TypeId) (h:Hd) (w':World):Prop:=HAt w' g T h∧w'.heap.size=w.heap.size∧(∀ B w0,B≤g→Below B w0 w→Below B w0 w')∧(∀ k,k≠g→w'.heap[k]?=w.heap[k]?)
theorem xqb.keep {w w':World} {g:Nat} {T U:TypeId} {h j:Hd} {b:Nat} (p:xqb w g T h w') (H:HAt w b U j) (hb:b≠g):HAt w' b U j:=(p.2.2.2 b hb).trans H
theorem xh1 (w:World) (g:Nat) (T:TypeId) (old h:Hd) (H:HAt w g T old):xqb w g T h (w.setRow g (cH h)) :=
 ⟨setRow_heap w g _ _ T (0,0) H,setRow_size _ _ _,fun B w0 hB hb=>below_setRow hb hB _,fun k hk=>setRow_other w g k _ hk⟩
theorem xbk {ops:Array Oper} {rest:List Oper} {o:Oper} {a:Act} {w:World} {Q:Exit→Act→World→Prop} (hw:Region.wanted o (yielded ops a.tmps)=true) (x y:Operand) (ho:o.op=.store 124 x y)
  (g:Nat) (hx:a.eval x=.pointer (some ⟨g,0,none⟩)) (h:Hd) (hy:a.eval y=.agg (cH h)) (T:TypeId) (old:Hd) (H:HAt w g T old)
  (hd:o.dst=none) (k:∀ w',xqb w g T h w'→wpList Tryz.prog ops Q rest a w'):wpList Tryz.prog ops Q (o :: rest) a w :=
 BigFrame.wpList_want hw fun _ hK=>wp_store_row 124 x y ho g (cH h) hx hy T (cH old) H xar rfl (xdY h) (hK _ _ (by rw[hd];exact k _ (xh1 w g T old h H)))
theorem HAt.zero (w:World) (T:TypeId):HAt (w.alloc (.cells #[.int .u64 xac.rf,.int .u64 xac.rl,.int .u64 xac.mf,.int .u64 xac.ml,.int .u64 xac.lf,.int .u64 xac.ll,.int .u64 xac.df,.int .u64 xac.dl,.int .u64 xac.ad,.int .u64 xac.en,.int .u64 xac.co,.bool xac.cl,.int .u8 xac.inn,.int .u8 xac.out,.int .u8 xac.knd,.int .i64 xac.z0,.int .i64 xac.z1,.int .i64 xac.lo0,.int .i64 xac.la0,.int .i64 xac.lo1,.int .i64 xac.la1,.int .i64 xac.zm,.int .i64 xac.lon,.int .i64 xac.lat] T)) w.heap.size T xac:=heap_alloc_new w _
theorem xaS {w:World} {g i:Nat} {cs:Array Value} {t:TypeId} {fr:Nat × Nat} (h:w.heap[g]?=some (.cells cs t fr)) (v:Value):(w.setCell ⟨g,i,none⟩ v).heap[g]?=some (.cells (cs.setIfInBounds i v) t fr):=by
 rw[setCell_eq_setRow w g i cs t fr v h]
 exact setRow_heap w g _ _ t _ h
theorem xbH {w:World} {a p:Addr} (u:Value) (h:a.block≠p.block):(w.setCell p u).cell? a=w.cell? a:=by
 unfold World.cell?
 rw[Below.heap_setCell _ _ _ _ h]
theorem xaE {w:World} {g i k:Nat} {v:Value} (h:k≠g):(w.setCell ⟨g,i,none⟩ v).heap[k]?=w.heap[k]?:=Below.heap_setCell _ _ _ _ h
end Go.Proofs.YtjinnigjfopbcaaGreatDoor
