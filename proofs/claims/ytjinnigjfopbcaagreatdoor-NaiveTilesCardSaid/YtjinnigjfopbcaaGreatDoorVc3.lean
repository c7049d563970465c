/- cMK cYa. -/
import Derived.Test.YtjinnigjfopbcaaGreatDoorVs
import Derived.Test.YtjinnigjfopbcaaGreatDoorVc2
set_option maxHeartbeats 16000000
namespace Go.Proofs.YtjinnigjfopbcaaGreatDoor
set_option linter.unusedVariables false
set_option linter.unusedSimpArgs false
open Go.RowKit
set_option maxRecDepth 20000
def xci (t:ByteArray):List Int:=t.data.toList.map (fun c=>(c.toNat:Int))
theorem xcn (t:ByteArray):(xci t).length=t.size:=by simp[xci]
theorem xik (t:ByteArray):xtt (xci t):=by
 intro c hc
 obtain⟨b,_,rfl⟩:=List.mem_map.1 hc
 have:=xkA b
 omega
theorem xrx (l:List UInt8):xfE l=xjw (l.map (fun c=>(c.toNat:Int))):=by
 induction l with
 | nil=>rfl
 | cons c l ih=>rw[xfE,List.map_cons,xjw,ih]
theorem xe7 (t:ByteArray) (i j:Nat):(t.extract i j).data.toList=(t.data.toList.drop i).take (j - i):=by
 simp[ByteArray.data_extract]
def nmB (t:ByteArray) (o w:Nat):Int:=xfE (t.extract o (o+w)).data.toList
theorem xqT (t:ByteArray) (o w:Nat):nmB t o w=xjw (((xci t).drop o).take w):=by
 unfold nmB xci
 rw[xrx,xe7,Nat.add_sub_cancel_left,List.map_take,List.map_drop]
theorem xjE (t:ByteArray) (o w:Nat) (h:o+w≤t.size):0≤nmB t o w∧nmB t o w<xtK w:=by
 rw[xqT]
 have hb:xtt (((xci t).drop o).take w):=fun c hc=>xik t c (List.mem_of_mem_drop (List.mem_of_mem_take hc))
 have:=xkB _ hb
 rw[List.length_take,List.length_drop,xcn,Nat.min_eq_left (by omega)] at this
 exact this
theorem xda (t:ByteArray) (o:Nat):nmB t o 1=(xci t).getD o 0:=by rw[xqT,xqR]
def sgB (t:ByteArray) (o:Nat):Int:=sgn (nmB t o 4) 4
theorem xxi (x:Int) (h0:0≤x) (h1:x<4294967296):sg x=sgn x 4:=by
 unfold sg sgn
 simp only[Int.reduceMul,Int.reduceSub,Int.reduceToNat,Int.reducePow]
 rw[Int.emod_eq_of_lt h0 h1]
def xaG (t:ByteArray):Hd:=⟨nmB t 8 8,nmB t 16 8,nmB t 24 8,nmB t 32 8,nmB t 40 8,nmB t 48 8,nmB t 56 8,nmB t 64 8,nmB t 72 8,nmB t 80 8,nmB t 88 8,nmB t 96 1 == 1,nmB t 97 1,nmB t 98 1,nmB t 99 1,nmB t 100 1,nmB t 101 1,sgB t 102,sgB t 106,sgB t 110,sgB t 114,nmB t 118 1,sgB t 119,sgB t 123⟩
theorem xp7 (t:ByteArray):(xaG t).rf=nmB t 8 8:=by rw[xaG]
theorem xo7 (t:ByteArray):(xaG t).rl=nmB t 16 8:=by rw[xaG]
theorem xra (t:ByteArray):(xaG t).mf=nmB t 24 8:=by rw[xaG]
theorem xqG (t:ByteArray):(xaG t).ml=nmB t 32 8:=by rw[xaG]
theorem xo0 (t:ByteArray):(xaG t).lf=nmB t 40 8:=by rw[xaG]
theorem xo1 (t:ByteArray):(xaG t).ll=nmB t 48 8:=by rw[xaG]
theorem xpG (t:ByteArray):(xaG t).df=nmB t 56 8:=by rw[xaG]
theorem xrE (t:ByteArray):(xaG t).dl=nmB t 64 8:=by rw[xaG]
theorem xoG (t:ByteArray):(xaG t).ad=nmB t 72 8:=by rw[xaG]
theorem xq7 (t:ByteArray):(xaG t).en=nmB t 80 8:=by rw[xaG]
theorem xpd (t:ByteArray):(xaG t).co=nmB t 88 8:=by rw[xaG]
theorem xoI (t:ByteArray):(xaG t).cl=(nmB t 96 1 == 1):=by rw[xaG]
theorem xlp (t:ByteArray):(xaG t).inn=nmB t 97 1:=by rw[xaG]
theorem xl6 (t:ByteArray):(xaG t).out=nmB t 98 1:=by rw[xaG]
theorem xlJ (t:ByteArray):(xaG t).knd=nmB t 99 1:=by rw[xaG]
theorem xlj (t:ByteArray):(xaG t).z0=nmB t 100 1:=by rw[xaG]
theorem xlb (t:ByteArray):(xaG t).z1=nmB t 101 1:=by rw[xaG]
theorem xl9 (t:ByteArray):(xaG t).lo0=sgB t 102:=by rw[xaG]
theorem xmj (t:ByteArray):(xaG t).la0=sgB t 106:=by rw[xaG]
theorem xlu (t:ByteArray):(xaG t).lo1=sgB t 110:=by rw[xaG]
theorem xmb (t:ByteArray):(xaG t).la1=sgB t 114:=by rw[xaG]
theorem xk9 (t:ByteArray):(xaG t).zm=nmB t 118 1:=by rw[xaG]
theorem xlL (t:ByteArray):(xaG t).lon=sgB t 119:=by rw[xaG]
theorem xl4 (t:ByteArray):(xaG t).lat=sgB t 123:=by rw[xaG]
theorem xhv (t:ByteArray) (h:127≤t.size):xvA (xci t)=xaG t:=by
 have hs:∀ q,q+4≤127→sg (nmB t q 4)=sgB t q:=fun q hq=>by
  have:=xjE t q 4 (by omega)
  rw[xl7] at this
  exact xxi _ this.1 this.2
 unfold xvA xaG xg1
 simp only[xkx,xdY,List.drop_drop,List.getD_cons_zero,List.getD_cons_succ,Nat.reduceAdd,← xqT]
 rw[hs 102 (by omega),hs 106 (by omega),hs 110 (by omega),hs 114 (by omega),hs 119 (by omega),hs 123 (by omega)]
theorem xlI (t:ByteArray) (h:127≤t.size):xi1 (xaG t):=by
 rw[← xhv t h]
 exact xux _ (xjs xkx _ (fun c hc=>xik t c (List.mem_of_mem_drop hc)) (by rw[List.length_drop,xcn,xes];omega))
theorem xuZ {a b:List UInt8} (h:a.map (fun c=>(c.toNat:Int))=b.map (fun c=>(c.toNat:Int))):a=b:=by
 induction a generalizing b with
 | nil=>cases b with
  | nil=>rfl
  | cons c b=>simp at h
 | cons c a ih=>cases b with
  | nil=>simp at h
  | cons d b =>
   simp only[List.map_cons,List.cons.injEq] at h
   have:c=d:=UInt8.toNat_inj.1 (by have:=h.1;omega)
   rw[this,ih h.2]
theorem xex (t:ByteArray):t.extract 0 7=⟨#[80,77,84,105,108,101,115]⟩↔(xci t).take 7=mgH:=by
 have e:(xci t).take 7=(t.extract 0 7).data.toList.map (fun c=>(c.toNat:Int)):=by
  rw[xe7,xci,List.map_take]
  rfl
 rw[e]
 constructor
 ·intro h;rw[h];rfl
 ·intro h
  apply ByteArray.ext
  apply Array.ext'
  exact xuZ (h.trans (by rfl:mgH=[80,77,84,105,108,101,115].map (fun c:UInt8=>(c.toNat:Int))))
theorem xgV (t:ByteArray) (h:t.size<127):xcD (xci t)=(xaa,3):=by
 unfold xcD
 rw[if_pos (by rw[xcn];exact h)]
theorem xg9 (t:ByteArray) (h:127≤t.size) (hn:t.extract 0 7≠⟨#[80,77,84,105,108,101,115]⟩):xcD (xci t)=(xaa,12):=by
 unfold xcD
 rw[if_neg (by rw[xcn];omega),if_pos (fun e=>hn ((xex t).2 e))]
theorem xe8 (t:ByteArray) (h:127≤t.size) (hn:t.extract 0 7=⟨#[80,77,84,105,108,101,115]⟩) (hv:nmB t 7 1≠3):xcD (xci t)=(xaa,13):=by
 unfold xcD
 rw[if_neg (by rw[xcn];omega),if_neg (fun e=>e ((xex t).1 hn)),if_pos (by rw[← xda];exact hv)]
theorem xjK (t:ByteArray) (h:127≤t.size) (hn:t.extract 0 7=⟨#[80,77,84,105,108,101,115]⟩) (hv:nmB t 7 1=3) (hf:1<nmB t 96 1):xcD (xci t)=(xaa,4):=by
 unfold xcD
 rw[if_neg (by rw[xcn];omega),if_neg (fun e=>e ((xex t).1 hn)),if_neg (by rw[← xda];exact fun e=>e hv),if_pos (by rw[← xda];exact hf)]
theorem xlT (t:ByteArray) (h:127≤t.size) (hn:t.extract 0 7=⟨#[80,77,84,105,108,101,115]⟩) (hv:nmB t 7 1=3) (hf:¬ 1<nmB t 96 1) (hc:ckH (xaG t)≠0):xcD (xci t)=(xaa,ckH (xaG t)):=by
 unfold xcD
 rw[if_neg (by rw[xcn];omega),if_neg (fun e=>e ((xex t).1 hn)),if_neg (by rw[← xda];exact fun e=>e hv),if_neg (by rw[← xda];exact hf),xhv t h,if_neg hc]
theorem xqW (t:ByteArray) (h:127≤t.size) (hn:t.extract 0 7=⟨#[80,77,84,105,108,101,115]⟩) (hv:nmB t 7 1=3) (hf:¬ 1<nmB t 96 1) (hc:ckH (xaG t)=0):xcD (xci t)=(xaG t,0):=by
 unfold xcD
 rw[if_neg (by rw[xcn];omega),if_neg (fun e=>e ((xex t).1 hn)),if_neg (by rw[← xda];exact fun e=>e hv),if_neg (by rw[← xda];exact hf),xhv t h,if_pos hc]
theorem xpm (t:ByteArray) (p n:Int) (hm:t.size≤maxLen) (p0:0≤p) (n0:1≤n) (n1:n≤8) (hp:p+n≤t.size):xmG t p 0 n=0:=by
 unfold maxLen at hm
 have e1:xaN t p=0:=if_pos ⟨p0,by omega⟩
 have e2:xky n=0:=if_pos ⟨n0,n1⟩
 have e3:xeh t p n=0:=by
  unfold xeh
  rw[IntWalk.wrap64_in _ (by omega),if_neg (by omega)]
 simp[xmG,xaM,e1,e2,e3]
theorem xkK (t:ByteArray) (p n:Int) (hm:t.size≤maxLen) (p0:0≤p) (n0:0≤n) (hp:p+n≤t.size):xbL t p 0 n=0:=by
 unfold maxLen at hm
 have e1:xaN t p=0:=if_pos ⟨p0,by omega⟩
 have e2:xcq n=0:=if_neg (by omega)
 have e3:xeh t p n=0:=by
  unfold xeh
  rw[IntWalk.wrap64_in _ (by omega),if_neg (by omega)]
 simp[xbL,xaM,e1,e2,e3]
theorem xjT (t:ByteArray) (p n:Nat) (w:World) (hm:t.size≤maxLen) (n0:1≤n) (n1:n≤8) (hp:p+n≤t.size):Calls Tryz.prog 166 #[.agg #[.string t,.int .i64 p,.int .i64 0],.int .i64 n] w
  fun e w'=>e=.returned (.tuple #[.int .u64 (nmB t p n),.agg #[.string t,.int .i64 ((p+n:Nat):Int),.int .i64 0]])∧Below w.heap.size w w':=by
 have key:=xvE t p n w hm (xpm t p n hm (by omega) (by omega) (by omega) (by omega)) (by omega) (by omega) (by omega) (by omega)
 rw[Int.toNat_natCast,show ((p:Int)+(n:Int)).toNat=p+n from by omega] at key
 have e:((p+n:Nat):Int)=(p:Int)+(n:Int):=by omega
 rw[e]
 exact key
theorem xeF (t:ByteArray) (i n:Nat) (w:World) (hm:t.size≤maxLen) (h8:n≤8) (hi:i+n≤t.size):Calls Tryz.prog 100 #[.string t,.int .i64 i,.int .i64 n] w fun e w'=>e=.returned (.int .u64 (nmB t i n))∧w=w':=by
 have hx:(t.extract i (i+n)).size≤8:=by simp;omega
 obtain⟨x,hxx⟩:∃ x,t.extract i (i+n)=x:=⟨_,rfl⟩
 have HN:Hid (nmB t i n=xfE x.data.toList):=lH (by rw[← hxx];rfl)
 rw[hxx] at hx
 have h1:(0:Int)≤(i:Int):=by omega
 have h2:(i:Int)≤(i:Int)+(n:Int):=by omega
 have h3:(i:Int)+(n:Int)≤(t.size:Int):=by omega
 unfold maxLen at hm
 go_enter Tryz.func100,Tryz.ntmps100
 go_wp2_with fail
 refine(xk8 x _ hx).mono ?_
 rintro e w' ⟨rfl,rfl⟩
 go_wp2_with fail
 go_ret
 exact⟨xal HN.out.symm,rfl⟩
theorem xd2 (t:ByteArray) (i:Nat) (w:World) (hm:t.size≤maxLen) (hi:i+16≤t.size):Calls Tryz.prog 99 #[.string t,.int .i64 i] w fun e w'=>e=.returned (.agg #[.int .u64 (nmB t i 8),.int .u64 (nmB t (i+8) 8)])∧Below w.heap.size w w':=by
 have K0:=lH (fun W=>xeF t i 8 W hm (by omega) (by omega))
 have e:((i+8:Nat):Int)=(i:Int)+8:=by omega
 have K1:Hid (∀ W,Calls Tryz.prog 100 #[.string t,.int .i64 ((i:Int)+8),.int .i64 8] W fun e w'=>e=.returned (.int .u64 (nmB t (i+8) 8))∧W=w'):=lH (fun W=>by
  have:=xeF t (i+8) 8 W hm (by omega) (by omega)
  rw[e] at this
  exact this)
 have hw:IntKind.i64.wrap ((i:Int)+8)=((i+8:Nat):Int):=by unfold maxLen at hm;rw[IntKind.wrap_i64] <;> omega
 clear hm hi e
 go_enter Tryz.func99,Tryz.ntmps99
 go_wp2_with fail
 refine(K0.out _).mono ?_
 rintro e w' ⟨rfl,rfl⟩
 go_wp2_with fail
 refine(K1.out _).mono ?_
 rintro e w' ⟨rfl,rfl⟩
 obtain⟨x,hx⟩:∃ x,nmB t i 8=x:=⟨_,rfl⟩
 obtain⟨y,hy⟩:∃ y,nmB t (i+8) 8=y:=⟨_,rfl⟩
 rw[hx,hy]
 go_wp2_with fail
 refine bodyPost_ret (v:=.agg #[.int .u64 x,.int .u64 y]) (by simp[results,Tryz.results99,go_sem]) rfl ⟨by rw[hx,hy],by go_grown⟩
theorem xbH (t:ByteArray) (i:Nat) (w:World) (hm:t.size≤maxLen) (hi:i+4≤t.size):Calls Tryz.prog 101 #[.string t,.int .i64 i] w fun e w'=>e=.returned (.int .i64 (sgB t i))∧w=w':=by
 have K0:=lH (fun W=>xeF t i 4 W hm (by omega) (by omega))
 have hb:=xjE t i 4 hi
 have K1:=lH (fun W=>xkD (nmB t i 4) 4 W hb.1 (by omega) (by omega))
 have HS:Hid (sgn (nmB t i 4) 4=sgB t i):=lH rfl
 clear hb hm hi
 go_enter Tryz.func101,Tryz.ntmps101
 go_wp2_with fail
 refine(K0.out _).mono ?_
 rintro e w' ⟨rfl,rfl⟩
 go_wp2_with fail
 refine(K1.out _).mono ?_
 rintro e w' ⟨rfl,rfl⟩
 go_wp2_with fail
 go_ret
 exact⟨xal HS.out,rfl⟩
theorem xka (w:World) (g:Nat) (T:TypeId) (old h:Hd) (H:HAt w g T old):∃ w',Sem.run Tryz.prog (storeCells ⟨g,0,none⟩ (cH h).toList) w=.ok () w'∧xnY w g T h w':=by
 refine⟨w.setRow g (cH h),?_,xeQ w g T old h H⟩
 have:=run_storeCells_from (P:=Tryz.prog) g T (cH h).toList 0 (cH old) w H (by simp[xor]) (fun v hv=>(Array.all_eq_true_iff_forall_mem.1 (xcl h)) v (by simpa using hv))
 simpa using this
def xj8 (w:World) (g:Nat):List (Nat × Value)→World
 | []=>w
 | (i,v) :: l=>xj8 (w.setCell ⟨g,i,none⟩ v) g l
def xmd (C:Array Value):List (Nat × Value)→Array Value
 | []=>C
 | (i,v) :: l=>xmd (C.setIfInBounds i v) l
theorem xlw {w:World} {g:Nat} {C:Array Value} {T:TypeId} {f:Nat × Nat} (l:List (Nat × Value)) (H:w.heap[g]?=some (.cells C T f)):(xj8 w g l).heap[g]?=some (.cells (xmd C l) T f):=by
 induction l generalizing w C with
 | nil=>exact H
 | cons p l ih=>exact ih (xaX H p.2)
theorem xhr {w:World} {g k:Nat} (l:List (Nat × Value)) (hk:k≠g):(xj8 w g l).heap[k]?=w.heap[k]?:=by
 induction l generalizing w with
 | nil=>rfl
 | cons p l ih=>exact(ih (w:=w.setCell ⟨g,p.1,none⟩ p.2)).trans (xaE hk)
theorem xg0 {w w0:World} {g B:Nat} (l:List (Nat × Value)) (hb:Below B w0 w) (hB:B≤g):Below B w0 (xj8 w g l):=by
 induction l generalizing w with
 | nil=>exact hb
 | cons p l ih=>exact ih (hb.setCell hB _)
theorem xsZ {w2 w:World} {g b B:Nat} {T U:TypeId} {a c z:Hd} (l:List (Nat × Value)) (hC:xmd (cH a) l=cH c) (H:HAt w2 g T a) (hz:HAt w2 b U z) (hn:b≠g) (hu:Below B w w2) (hB:B≤g) :
  HAt (xj8 w2 g l).drew g T c∧HAt (xj8 w2 g l).drew b U z∧Below B w (xj8 w2 g l).drew:=by
 refine⟨?_,?_,(xg0 l hu hB).drew⟩
 ·unfold HAt
  rw[xjb,← hC]
  exact xlw l H
 ·unfold HAt
  rw[xjb,xhr l hn]
  exact hz
theorem xng {w2 w:World} {g b B:Nat} {T U:TypeId} {a c z:Hd} (l:List (Nat × Value)) (hC:xmd (cH a) l=cH c) (H:HAt w2 g T a) (hz:HAt w2 b U z) (hn:b≠g) (hu:Below B w w2) (hB:B≤g) :
  HAt (xj8 w2 g l) g T c∧HAt (xj8 w2 g l) b U z∧Below B w (xj8 w2 g l):=by
 refine⟨?_,?_,xg0 l hu hB⟩
 ·unfold HAt
  rw[← hC]
  exact xlw l H
 ·unfold HAt
  rw[xhr l hn]
  exact hz
theorem xla {X w2 w:World} {g b B:Nat} {T U:TypeId} {a c z:Hd} (l:List (Nat × Value)) (hX:X=(xj8 w2 g l).drew) (hC:xmd (cH a) l=cH c) (H:HAt w2 g T a) (hz:HAt w2 b U z) (hn:b≠g) (hu:Below B w w2) (hB:B≤g) :
  HAt X g T c∧HAt X b U z∧Below B w X:=hX ▸ xsZ l hC H hz hn hu hB
theorem xtW {X w2 w:World} {g b B:Nat} {T U:TypeId} {a c z:Hd} (l:List (Nat × Value)) (hX:X=xj8 w2 g l) (hC:xmd (cH a) l=cH c) (H:HAt w2 g T a) (hz:HAt w2 b U z) (hn:b≠g) (hu:Below B w w2) (hB:B≤g) :
  HAt X g T c∧HAt X b U z∧Below B w X:=hX ▸ xng l hC H hz hn hu hB
def uA (T:Hd):Hd:={ xaa with rf:=T.rf,rl:=T.rl,mf:=T.mf,ml:=T.ml,lf:=T.lf,ll:=T.ll,df:=T.df,dl:=T.dl }
def rB (T:Hd):Hd:={ uA T with ad:=T.ad,en:=T.en,co:=T.co,cl:=T.cl }
def rC (T:Hd):Hd:={ rB T with inn:=T.inn,out:=T.out,knd:=T.knd,z0:=T.z0,z1:=T.z1 }
def rD (T:Hd):Hd:={ rC T with lo0:=T.lo0,la0:=T.la0,lo1:=T.lo1,la1:=T.la1 }
theorem xyd (T:Hd):xmd (cH (uA T)) [(8,.int .u64 T.ad),(9,.int .u64 T.en),(10,.int .u64 T.co),(11,.bool T.cl)]=cH (rB T):=by
 simp only[xmd,cH,uA,rB,List.setIfInBounds_toArray,List.set_cons_zero,List.set_cons_succ]
theorem xxU (T:Hd):xmd (cH (rB T)) [(12,.int .u8 T.inn),(13,.int .u8 T.out),(14,.int .u8 T.knd),(15,.int .i64 T.z0),(16,.int .i64 T.z1)]=cH (rC T):=by
 simp only[xmd,cH,rB,rC,List.setIfInBounds_toArray,List.set_cons_zero,List.set_cons_succ]
theorem xxl (T:Hd):xmd (cH (rC T)) [(17,.int .i64 T.lo0),(18,.int .i64 T.la0),(19,.int .i64 T.lo1),(20,.int .i64 T.la1)]=cH (rD T):=by
 simp only[xmd,cH,rC,rD,List.setIfInBounds_toArray,List.set_cons_zero,List.set_cons_succ]
theorem xyg (T:Hd):xmd (cH (rD T)) [(21,.int .i64 T.zm),(22,.int .i64 T.lon),(23,.int .i64 T.lat)]=cH T:=by
 simp only[xmd,cH,rD,rC,rB,uA,List.setIfInBounds_toArray,List.set_cons_zero,List.set_cons_succ]
theorem xfM {fn:Func} {p q:Tmp} {ty:TypeId} (h:fn.results=#[.cell p ty,.tmp q]) (tmps:Array Value) (w:World) (g:Nat) (a:Hd) (v:Value)
  (hp:tmps.getD p undef=.pointer (some ⟨g,0,none⟩)) (hq:tmps.getD q undef=v) (hl:(loadVar ty ⟨g,0,none⟩).run Tryz.prog w=.ok (.agg (cH a)) w) :
  (results fn tmps).run Tryz.prog w=.ok (.tuple #[.agg (cH a),v]) w:=by
 have hp':tmps[p]?.getD undef=.pointer (some ⟨g,0,none⟩):=by simpa using hp
 have hq':tmps[q]?.getD undef=v:=by simpa using hq
 simp[results,h,hp',hq',asAddr,hl]
theorem xa9 {fn:Func} {p q:Tmp} (h:fn.results=#[.cell p 124,.tmp q]) (tmps:Array Value) (w:World) (g:Nat) (T:TypeId) (a:Hd) (v:Value) (hp:tmps.getD p undef=.pointer (some ⟨g,0,none⟩)) (hq:tmps.getD q undef=v) (H:HAt w g T a) :
  (results fn tmps).run Tryz.prog w=.ok (.tuple #[.agg (cH a),v]) w:=xfM h tmps w g a v hp hq (run_loadVar_row w g T _ (cH a) (0,0) _ H Tryz.underlying124 rfl xaB)
theorem xbe {fn:Func} {p q:Tmp} (h:fn.results=#[.cell p 103,.tmp q]) (tmps:Array Value) (w:World) (g:Nat) (T:TypeId) (a:Hd) (v:Value) (hp:tmps.getD p undef=.pointer (some ⟨g,0,none⟩)) (hq:tmps.getD q undef=v) (H:HAt w g T a) :
  (results fn tmps).run Tryz.prog w=.ok (.tuple #[.agg (cH a),v]) w:=xfM h tmps w g a v hp hq (run_loadVar_row w g T _ (cH a) (0,0) _ H Tryz.underlying103 rfl xbI)
theorem xcc (t:ByteArray) (i:Nat) (h:i<t.size):((t[i]'h).toNat:Int)=nmB t i 1:=by
 rw[xda,xci]
 have h1:i<(t.data.toList.map (fun c=>(c.toNat:Int))).length:=by simpa using h
 rw[List.getD_eq_getElem?_getD,List.getElem?_eq_getElem h1]
 simp
 rfl
theorem xuD {s:ByteArray} {l:List UInt8} (h:s≠⟨l.toArray⟩):(s.toList == l)=false:=by
 rw[beq_eq_false_iff_ne,ByteArray.toList_eq]
 intro e
 apply h
 apply ByteArray.ext
 apply Array.ext'
 exact e
theorem xmn {s:ByteArray} {l:List UInt8} (h:s=⟨l.toArray⟩):(s.toList == l)=true:=by
 subst h
 rw[ByteArray.toList_eq]
 simp
set_option maxRecDepth 20000 in
theorem xhG (t:ByteArray) (w:World) (h127:t.size<127):Calls Tryz.prog 44 #[.string t] w fun e w'=>e=.returned (.tuple #[.agg (cH xaa),.int .i64 3])∧Below w.heap.size w w':=by
 have HZ:=HAt.zero w 103
 have hd:decide ((t.size:Int)<127)=true:=by simp;omega
 clear h127
 go_enter Tryz.func44,Tryz.ntmps44
 go_wp2_with (first|(refine xbG (by rfl) _ _ rfl _ rfl xaa rfl _ xaa (by assumption) rfl ?_;intro w2 HP)|fail)
 refine bodyPost_ret (v:=.tuple #[.agg (cH xaa),.int .i64 3]) (xbe Tryz.results44 _ _ _ _ _ _ rfl rfl HP.1) rfl ⟨rfl,HP.2.2.1 _ _ (Nat.le_refl _) ((Below.refl _ _).alloc (Nat.le_refl _) _)⟩
set_option maxRecDepth 20000 in
theorem xhw (t:ByteArray) (w:World) (h127:127≤t.size) (hn:t.extract 0 7≠⟨#[80,77,84,105,108,101,115]⟩):Calls Tryz.prog 44 #[.string t] w fun e w'=>e=.returned (.tuple #[.agg (cH xaa),.int .i64 12])∧Below w.heap.size w w':=by
 have HZ:=HAt.zero w 103
 have hd:decide ((t.size:Int)<127)=false:=by simp;omega
 have h7:(7:Int)≤(t.size:Int):=by omega
 obtain⟨s7,hs7⟩:∃ s,t.extract 0 7=s:=⟨_,rfl⟩
 rw[hs7] at hn
 have hne:=xuD hn
 clear hn h127
 go_enter Tryz.func44,Tryz.ntmps44
 go_wp2_with (first|(refine xbG (by rfl) _ _ rfl _ rfl xaa rfl _ xaa (by assumption) rfl ?_;intro w2 HP)|fail)
 refine bodyPost_ret (v:=.tuple #[.agg (cH xaa),.int .i64 12]) (xbe Tryz.results44 _ _ _ _ _ _ rfl rfl HP.1) rfl ⟨rfl,HP.2.2.1 _ _ (Nat.le_refl _) ((Below.refl _ _).alloc (Nat.le_refl _) _)⟩
set_option maxRecDepth 20000 in
theorem xf6 (t:ByteArray) (w:World) (h127:127≤t.size) (hn:t.extract 0 7=⟨#[80,77,84,105,108,101,115]⟩) (hv:nmB t 7 1≠3):Calls Tryz.prog 44 #[.string t] w fun e w'=>e=.returned (.tuple #[.agg (cH xaa),.int .i64 13])∧Below w.heap.size w w':=by
 have HZ:=HAt.zero w 103
 have hd:decide ((t.size:Int)<127)=false:=by simp;omega
 have h7:(7:Int)≤(t.size:Int):=by omega
 obtain⟨s7,hs7⟩:∃ s,t.extract 0 7=s:=⟨_,rfl⟩
 rw[hs7] at hn
 have hne:=xmn hn
 clear hn
 have b7:=xcc t 7 (by omega)
 have hv2:(nmB t 7 1 != 3)=true:=by simp only[bne_iff_ne,ne_eq];exact hv
 obtain⟨x,hx⟩:∃ x,nmB t 7 1=x:=⟨_,rfl⟩
 rw[hx] at hv2 b7
 clear hx hv
 have g7:(7:Int)<(t.size:Int):=by omega
 go_enter Tryz.func44,Tryz.ntmps44
 go_wp2_with (first|(refine xbG (by rfl) _ _ rfl _ rfl xaa rfl _ xaa (by assumption) rfl ?_;intro w2 HP)|fail)
 refine bodyPost_ret (v:=.tuple #[.agg (cH xaa),.int .i64 13]) (xbe Tryz.results44 _ _ _ _ _ _ rfl rfl HP.1) rfl ⟨rfl,HP.2.2.1 _ _ (Nat.le_refl _) ((Below.refl _ _).alloc (Nat.le_refl _) _)⟩
set_option maxRecDepth 20000 in
theorem xi8 (t:ByteArray) (w:World) (h127:127≤t.size) (hn:t.extract 0 7=⟨#[80,77,84,105,108,101,115]⟩) (hv:nmB t 7 1=3) (hf:1<nmB t 96 1):Calls Tryz.prog 44 #[.string t] w fun e w'=>e=.returned (.tuple #[.agg (cH xaa),.int .i64 4])∧Below w.heap.size w w':=by
 have HZ:=HAt.zero w 103
 have hd:decide ((t.size:Int)<127)=false:=by simp;omega
 have h7:(7:Int)≤(t.size:Int):=by omega
 obtain⟨s7,hs7⟩:∃ s,t.extract 0 7=s:=⟨_,rfl⟩
 rw[hs7] at hn
 have hne:=xmn hn
 clear hn
 have b7:=xcc t 7 (by omega)
 have b96:=xcc t 96 (by omega)
 rw[hv] at b7
 have hf2:decide (1<nmB t 96 1)=true:=by simpa using hf
 obtain⟨x,hx⟩:∃ x,nmB t 96 1=x:=⟨_,rfl⟩
 rw[hx] at hf2 b96
 clear hx hf hv
 have g7:(7:Int)<(t.size:Int):=by omega
 have g96:(96:Int)<(t.size:Int):=by omega
 go_enter Tryz.func44,Tryz.ntmps44
 go_wp2_with (first|(refine xbG (by rfl) _ _ rfl _ rfl xaa rfl _ xaa (by assumption) rfl ?_;intro w2 HP)|fail)
 refine bodyPost_ret (v:=.tuple #[.agg (cH xaa),.int .i64 4]) (xbe Tryz.results44 _ _ _ _ _ _ rfl rfl HP.1) rfl ⟨rfl,HP.2.2.1 _ _ (Nat.le_refl _) ((Below.refl _ _).alloc (Nat.le_refl _) _)⟩
structure TelR (t:ByteArray) (T:Hd) (x:Int):Prop where
 P0:∀ W,Calls Tryz.prog 99 #[.string t,.int .i64 8] W fun e w'=>e=.returned (.agg #[.int .u64 T.rf,.int .u64 T.rl])∧Below W.heap.size W w'
 P1:∀ W,Calls Tryz.prog 99 #[.string t,.int .i64 24] W fun e w'=>e=.returned (.agg #[.int .u64 T.mf,.int .u64 T.ml])∧Below W.heap.size W w'
 P2:∀ W,Calls Tryz.prog 99 #[.string t,.int .i64 40] W fun e w'=>e=.returned (.agg #[.int .u64 T.lf,.int .u64 T.ll])∧Below W.heap.size W w'
 P3:∀ W,Calls Tryz.prog 99 #[.string t,.int .i64 56] W fun e w'=>e=.returned (.agg #[.int .u64 T.df,.int .u64 T.dl])∧Below W.heap.size W w'
 K72:∀ W,Calls Tryz.prog 100 #[.string t,.int .i64 72,.int .i64 8] W fun e w'=>e=.returned (.int .u64 T.ad)∧W=w'
 K80:∀ W,Calls Tryz.prog 100 #[.string t,.int .i64 80,.int .i64 8] W fun e w'=>e=.returned (.int .u64 T.en)∧W=w'
 K88:∀ W,Calls Tryz.prog 100 #[.string t,.int .i64 88,.int .i64 8] W fun e w'=>e=.returned (.int .u64 T.co)∧W=w'
 K102:∀ W,Calls Tryz.prog 101 #[.string t,.int .i64 102] W fun e w'=>e=.returned (.int .i64 T.lo0)∧W=w'
 K106:∀ W,Calls Tryz.prog 101 #[.string t,.int .i64 106] W fun e w'=>e=.returned (.int .i64 T.la0)∧W=w'
 K110:∀ W,Calls Tryz.prog 101 #[.string t,.int .i64 110] W fun e w'=>e=.returned (.int .i64 T.lo1)∧W=w'
 K114:∀ W,Calls Tryz.prog 101 #[.string t,.int .i64 114] W fun e w'=>e=.returned (.int .i64 T.la1)∧W=w'
 K119:∀ W,Calls Tryz.prog 101 #[.string t,.int .i64 119] W fun e w'=>e=.returned (.int .i64 T.lon)∧W=w'
 K123:∀ W,Calls Tryz.prog 101 #[.string t,.int .i64 123] W fun e w'=>e=.returned (.int .i64 T.lat)∧W=w'
 ck:∀ W,Calls Tryz.prog 102 #[.agg (cH T)] W fun e w'=>e=.returned (.int .i64 (ckH T))∧Below W.heap.size W w'
 cl:T.cl=(x == 1)
theorem xzT (t:ByteArray) (hm:t.size≤maxLen) (h:127≤t.size):TelR t (xaG t) (nmB t 96 1):=by
 constructor
 ·intro W;rw[xp7,xo7];exact xd2 t 8 W hm (by omega)
 ·intro W;rw[xra,xqG];exact xd2 t 24 W hm (by omega)
 ·intro W;rw[xo0,xo1];exact xd2 t 40 W hm (by omega)
 ·intro W;rw[xpG,xrE];exact xd2 t 56 W hm (by omega)
 ·intro W;rw[xoG];exact xeF t 72 8 W hm (by omega) (by omega)
 ·intro W;rw[xq7];exact xeF t 80 8 W hm (by omega) (by omega)
 ·intro W;rw[xpd];exact xeF t 88 8 W hm (by omega) (by omega)
 ·intro W;rw[xl9];exact xbH t 102 W hm (by omega)
 ·intro W;rw[xmj];exact xbH t 106 W hm (by omega)
 ·intro W;rw[xlu];exact xbH t 110 W hm (by omega)
 ·intro W;rw[xmb];exact xbH t 114 W hm (by omega)
 ·intro W;rw[xlL];exact xbH t 119 W hm (by omega)
 ·intro W;rw[xl4];exact xbH t 123 W hm (by omega)
 ·intro W;exact xmU (xaG t) W (xlI t h)
 ·rw[xoI]
set_option maxRecDepth 20000 in
theorem xje (t:ByteArray) (w:World) (h127:127≤t.size) (hn:t.extract 0 7=⟨#[80,77,84,105,108,101,115]⟩) (b7:((t[7]'(by omega)).toNat:Int)=3) (T:Hd) (x:Int) (HT:TelR t T x) (b96:((t[96]'(by omega)).toNat:Int)=x) (hf:¬ 1<x)
  (b97:((t[97]'(by omega)).toNat:Int)=T.inn) (b98:((t[98]'(by omega)).toNat:Int)=T.out) (b99:((t[99]'(by omega)).toNat:Int)=T.knd) (b100:((t[100]'(by omega)).toNat:Int)=T.z0) (hw100:wrap64 T.z0=T.z0∧IntKind.i64.wrap T.z0=T.z0) (b101:((t[101]'(by omega)).toNat:Int)=T.z1) (hw101:wrap64 T.z1=T.z1∧IntKind.i64.wrap T.z1=T.z1) (b118:((t[118]'(by omega)).toNat:Int)=T.zm) (hw118:wrap64 T.zm=T.zm∧IntKind.i64.wrap T.zm=T.zm)
  (E:Hd × Int) (hE:E=if ckH T=0 then (T,0) else (xaa,ckH T)) :
  Calls Tryz.prog 44 #[.string t] w fun e w'=>e=.returned (.tuple #[.agg (cH E.1),.int .i64 E.2])∧Below w.heap.size w w':=by
 have HZ:=HAt.zero w 103
 have hd:decide ((t.size:Int)<127)=false:=by simp;omega
 have h7:(7:Int)≤(t.size:Int):=by omega
 obtain⟨s7,hs7⟩:∃ s,t.extract 0 7=s:=⟨_,rfl⟩
 rw[hs7] at hn
 have hne:=xmn hn
 clear hn
 have HE:=lH hE;clear hE
 have hf2:decide (1<x)=false:=by simpa using hf
 have g7:(7:Int)<(t.size:Int):=by omega
 have g96:(96:Int)<(t.size:Int):=by omega
 have KP0:=lH HT.P0
 have KP1:=lH HT.P1
 have KP2:=lH HT.P2
 have KP3:=lH HT.P3
 have HK72:=lH HT.K72
 have HK80:=lH HT.K80
 have HK88:=lH HT.K88
 have HK102:=lH HT.K102
 have HK106:=lH HT.K106
 have HK110:=lH HT.K110
 have HK114:=lH HT.K114
 have HK119:=lH HT.K119
 have HK123:=lH HT.K123
 have HCk:=lH HT.ck
 have hset:=xyd T
 rw[HT.cl] at hset
 have HSetB:=lH hset
 have HB97:=lH b97
 have HB98:=lH b98
 have HB99:=lH b99
 have HB100:=lH b100
 have HW100:=lH hw100
 have HB101:=lH b101
 have HW101:=lH hw101
 have HB118:=lH b118
 have HW118:=lH hw118
 have H127:=lH h127
 clear hset hf HT b97 b98 b99 b100 hw100 b101 hw101 b118 hw118
 go_enter Tryz.func44,Tryz.ntmps44
 go_upto_region 9 with fail
 obtain⟨W0,hW0⟩:∃ W0,w.alloc (.cells #[.int .u64 xaa.rf,.int .u64 xaa.rl,.int .u64 xaa.mf,.int .u64 xaa.ml,.int .u64 xaa.lf,.int .u64 xaa.ll,.int .u64 xaa.df,.int .u64 xaa.dl,.int .u64 xaa.ad,.int .u64 xaa.en,.int .u64 xaa.co,.bool xaa.cl,.int .u8 xaa.inn,.int .u8 xaa.out,.int .u8 xaa.knd,.int .i64 xaa.z0,.int .i64 xaa.z1,.int .i64 xaa.lo0,.int .i64 xaa.la0,.int .i64 xaa.lo1,.int .i64 xaa.la1,.int .i64 xaa.zm,.int .i64 xaa.lon,.int .i64 xaa.lat] 103)=W0:=⟨_,rfl⟩
 have hW2:w.alloc (.cells #[.int .u64 0,.int .u64 0,.int .u64 0,.int .u64 0,.int .u64 0,.int .u64 0,.int .u64 0,.int .u64 0,.int .u64 0,.int .u64 0,.int .u64 0,.bool false,.int .u8 0,.int .u8 0,.int .u8 0,.int .i64 0,.int .i64 0,.int .i64 0,.int .i64 0,.int .i64 0,.int .i64 0,.int .i64 0,.int .i64 0,.int .i64 0] 103)=W0:=hW0
 rw[hW0] at HZ
 have U0:Below w.heap.size w W0:=by rw[← hW0];exact(Below.refl _ _).alloc (Nat.le_refl _) _
 rw[hW2]
 clear hW0 hW2
 have HHZ:=lH HZ
 have HU0:=lH U0
 clear HZ U0 hne hs7 hd hf2
 go_cut [4] (fun p wx=>∃ g,p=.pointer (some ⟨g,0,none⟩)∧w.heap.size<g∧HAt wx g 103 (uA T)∧HAt wx w.heap.size 103 xaa∧Below w.heap.size w wx)
 case first =>
  clear b7 b96 g7 g96 h7
  go_wp2_with fail
  refine(KP0.out _).mono ?_
  rintro e w1 ⟨rfl,hb1⟩
  go_wp2_with fail
  refine(KP1.out _).mono ?_
  rintro e w2 ⟨rfl,hb2⟩
  go_wp2_with fail
  refine(KP2.out _).mono ?_
  rintro e w3 ⟨rfl,hb3⟩
  go_wp2_with fail
  refine(KP3.out _).mono ?_
  rintro e w4 ⟨rfl,hb4⟩
  have H4:=(((HHZ.out.later hb1).later hb2).later hb3).later hb4
  have u1:=HU0.out.trans (hb1.mono HU0.out.size)
  have u2:=u1.trans (hb2.mono u1.size)
  have u3:=u2.trans (hb3.mono u2.size)
  have u4:=u3.trans (hb4.mono u3.size)
  have hl4:=H4.lt
  have HH4:=lH H4
  have HU4:=lH u4
  have HZ:=HAt.zero w4 103
  clear hb1 hb2 hb3 hb4 u1 u2 u3 u4 H4
  go_wp2_with (first|(refine xbG (by rfl) _ _ rfl _ rfl (uA T) rfl _ xaa (by assumption) rfl ?_;intro w5 HP)|fail)
  go_meet
  case rel=>exact⟨w4.heap.size,rfl,hl4,HP.1,HP.keep (HH4.out.later ((Below.refl _ _).alloc (Nat.le_refl _) _)) (by omega),HP.2.2.1 _ _ HU4.out.size (HU4.out.alloc HU4.out.size _)⟩
 case rest =>
 obtain⟨g,rfl,hlt,HA,HR,hU⟩:=hcut
 generalize wc=w1 at *
 clear KP0 KP1 KP2 KP3 HHZ HU0 b7 g7 h7
 have hn1:¬ g=w.heap.size:=by omega
 have HN:Hid (w.heap.size≠g):=lH (by omega)
 have HL:Hid (w.heap.size≤g):=lH (by omega)
 have e8:=at8 HA
 have e9:=at9 HA
 have e10:=xzI HA
 have e11:=xzi HA
 have hf:∀ o,w1.frozen? ⟨g,o,none⟩=false:=fun o=>by unfold HAt at HA;simp[World.frozen?,HA]
 have HHA:=lH HA
 have HHR:=lH HR
 have HU:=lH hU
 clear HA HR hU
 go_upto_region 10 with fail
 go_cut [] (fun wx=>HAt wx g 103 (rB T)∧HAt wx w.heap.size 103 xaa∧Below w.heap.size w wx)
 case first =>
  go_region_held3 (fun _=>True) (trivial) (first|(go_at_call_of 100 (72:Int);refine(HK72.out _).mono ?_;rintro e w' ⟨rfl,rfl⟩)|(go_at_call_of 100 (80:Int);refine(HK80.out _).mono ?_;rintro e w' ⟨rfl,rfl⟩)|(go_at_call_of 100 (88:Int);refine(HK88.out _).mono ?_;rintro e w' ⟨rfl,rfl⟩))
  all_goals
   go_wp2_with fail
   go_meet
   case rel=>exact xla [(8,.int .u64 T.ad),(9,.int .u64 T.en),(10,.int .u64 T.co),(11,.bool (x == 1))] (by simp only[xj8]) HSetB.out HHA.out HHR.out HN.out HU.out HL.out
 case rest =>
 obtain⟨HA,HR,hU⟩:=hcut
 generalize wc=w2 at *
 clear HHA HHR HU hf e8 e9 e10 e11 HK72 HK80 HK88 HSetB b96 g96
 have b97:=HB97.out
 have g97:(97:Int)<(t.size:Int):=by have:=H127.out;omega
 have b98:=HB98.out
 have g98:(98:Int)<(t.size:Int):=by have:=H127.out;omega
 have b99:=HB99.out
 have g99:(99:Int)<(t.size:Int):=by have:=H127.out;omega
 have b100:=HB100.out
 have g100:(100:Int)<(t.size:Int):=by have:=H127.out;omega
 have hw100:=HW100.out.1
 have b101:=HB101.out
 have g101:(101:Int)<(t.size:Int):=by have:=H127.out;omega
 have hw101:=HW101.out.1
 have e12:=xyt HA
 have e13:=xyB HA
 have e14:=xys HA
 have e15:=xyM HA
 have e16:=xyL HA
 have hf:∀ o,w2.frozen? ⟨g,o,none⟩=false:=fun o=>by unfold HAt at HA;simp[World.frozen?,HA]
 have HHA:=lH HA
 have HHR:=lH HR
 have HU:=lH hU
 clear HA HR hU
 have HSet:=lH (xxU T)
 go_upto_region 11 with fail
 go_cut [] (fun wx=>HAt wx g 103 (rC T)∧HAt wx w.heap.size 103 xaa∧Below w.heap.size w wx)
 case first =>
  go_region
  all_goals
   go_wp2_with fail
   go_meet
   case rel=>exact xla [(12,.int .u8 T.inn),(13,.int .u8 T.out),(14,.int .u8 T.knd),(15,.int .i64 T.z0),(16,.int .i64 T.z1)] (by simp only[xj8]) HSet.out HHA.out HHR.out HN.out HU.out HL.out
 case rest =>
 obtain⟨HA,HR,hU⟩:=hcut
 generalize wc=w3 at *
 clear HHA HHR HU hf e12 e13 e14 e15 e16 HSet b97 HB97 g97 b98 HB98 g98 b99 HB99 g99 b100 HB100 g100 b101 HB101 g101 hw100 hw101 HW100 HW101
 have e17:=xyQ HA
 have e18:=xzs HA
 have e19:=xyH HA
 have e20:=xzf HA
 have hf:∀ o,w3.frozen? ⟨g,o,none⟩=false:=fun o=>by unfold HAt at HA;simp[World.frozen?,HA]
 have HHA:=lH HA
 have HHR:=lH HR
 have HU:=lH hU
 clear HA HR hU
 have HSet:=lH (xxl T)
 go_upto_region 12 with fail
 go_cut [] (fun wx=>HAt wx g 103 (rD T)∧HAt wx w.heap.size 103 xaa∧Below w.heap.size w wx)
 case first =>
  go_wp2_with fail
  refine(HK102.out _).mono ?_
  rintro e w' ⟨rfl,rfl⟩
  go_wp2_with fail
  refine(HK106.out _).mono ?_
  rintro e w' ⟨rfl,rfl⟩
  go_wp2_with fail
  refine(HK110.out _).mono ?_
  rintro e w' ⟨rfl,rfl⟩
  go_wp2_with fail
  refine(HK114.out _).mono ?_
  rintro e w' ⟨rfl,rfl⟩
  go_wp2_with fail
  all_goals
   go_meet
   case rel=>exact xtW [(17,.int .i64 T.lo0),(18,.int .i64 T.la0),(19,.int .i64 T.lo1),(20,.int .i64 T.la1)] (by simp only[xj8]) HSet.out HHA.out HHR.out HN.out HU.out HL.out
 case rest =>
 obtain⟨HA,HR,hU⟩:=hcut
 generalize wc=w4 at *
 clear HHA HHR HU hf e17 e18 e19 e20 HSet HK102 HK106 HK110 HK114
 have b118:=HB118.out
 have g118:(118:Int)<(t.size:Int):=by have:=H127.out;omega
 have hw118:=HW118.out.2
 have e21:=xzx HA
 have e22:=xyE HA
 have e23:=xzu HA
 have hf:∀ o,w4.frozen? ⟨g,o,none⟩=false:=fun o=>by unfold HAt at HA;simp[World.frozen?,HA]
 have HHA:=lH HA
 have HHR:=lH HR
 have HU:=lH hU
 clear HA HR hU
 have HSet:=lH (xyg T)
 go_upto_region 13 with fail
 go_cut [] (fun wx=>HAt wx g 103 (T)∧HAt wx w.heap.size 103 xaa∧Below w.heap.size w wx)
 case first =>
  go_region_held3 (fun _=>True) (trivial) (first|(go_at_call_of 101 (119:Int);refine(HK119.out _).mono ?_;rintro e w' ⟨rfl,rfl⟩)|(go_at_call_of 101 (123:Int);refine(HK123.out _).mono ?_;rintro e w' ⟨rfl,rfl⟩))
  all_goals
   go_wp2_with fail
   go_meet
   case rel=>exact xla [(21,.int .i64 T.zm),(22,.int .i64 T.lon),(23,.int .i64 T.lat)] (by simp only[xj8]) HSet.out HHA.out HHR.out HN.out HU.out HL.out
 case rest =>
 obtain⟨HA,HR,hU⟩:=hcut
 generalize wc=w5 at *
 clear HHA HHR HU hf e21 e22 e23 HSet HK119 HK123 b118 g118 hw118 HB118 HW118
 have HHA:=lH HA
 have HHR:=lH HR
 have HU:=lH hU
 have HA0:=HA
 clear HA HR hU
 obtain⟨r,hr⟩:∃ r,ckH T=r:=⟨_,rfl⟩
 rw[hr] at HCk HE
 by_cases h0:r=0
 ·subst h0
  have HE2:Hid (E=(T,0)):=lH (by rw[HE.out,if_pos rfl])
  clear hr
  go_wp2_with (first|(refine xeU (by rfl) _ rfl _ rfl _ T (by assumption) ?_)|fail)
  refine(HCk.out _).mono ?_
  rintro e w6 ⟨rfl,hb⟩
  have hA6:=HHA.out.later hb
  have hR6:=HHR.out.later hb
  have u6:=HU.out.trans (hb.mono HU.out.size)
  obtain⟨w7,hst,HP⟩:=xka w6 w.heap.size _ _ T hR6
  have hu7:=HP.2.2.1 _ _ (Nat.le_refl _) u6
  have hee:Ending.returned (.tuple #[.agg (cH T),.int .i64 0])=.returned (.tuple #[.agg (cH E.1),.int .i64 E.2]):=by rw[HE2.out]
  have HA7:=lH HP.1
  have HH7:=lH (And.intro hee hu7)
  clear hb HHA HHR HU HA0 hR6 HP hee hu7 u6
  go_wp2_with (first|((with_reducible refine bodyPost_ret (v:=.tuple #[.agg (cH T),.int .i64 0]) ?_ ?_ ?_);exact xbe Tryz.results44 _ _ _ _ _ _ rfl rfl HA7.out;rfl;exact HH7.out)|(refine xeU (by rfl) _ rfl _ rfl _ T (by assumption) ?_)|fail)
 ·have HE2:Hid (E=(xaa,r)):=lH (by rw[HE.out,if_neg h0])
  have hne:(r != 0)=true:=by simp only[bne_iff_ne,ne_eq];exact h0
  clear h0 hr HE
  go_wp2_with (first|(refine xeU (by rfl) _ rfl _ rfl _ T (by assumption) ?_)|fail)
  refine(HCk.out _).mono ?_
  rintro e w6 ⟨rfl,hb⟩
  have hR6:=HHR.out.later hb
  have u6:=HU.out.trans (hb.mono HU.out.size)
  have hee:Ending.returned (.tuple #[.agg (cH xaa),.int .i64 r])=.returned (.tuple #[.agg (cH E.1),.int .i64 E.2]):=by rw[HE2.out]
  have HH6:=lH u6
  have HEE:=lH hee
  clear hb HHA HHR HU HA0 hee u6
  go_wp2_with (first|((with_reducible refine bodyPost_ret (v:=.tuple #[.agg (cH xaa),.int .i64 r]) ?_ ?_ ?_);exact xbe Tryz.results44 _ _ _ _ _ _ rfl rfl HP.1;rfl;exact⟨HEE.out,HP.2.2.1 _ _ (Nat.le_refl _) HH6.out⟩)|(refine xbG (by rfl) _ _ rfl _ rfl xaa rfl _ xaa (by assumption) rfl ?_;intro w7 HP)|fail)
theorem xkL (t:ByteArray) (w:World) (hm:t.size≤maxLen):Calls Tryz.prog 44 #[.string t] w fun e w'=>e=.returned (.tuple #[.agg (cH (xcD (xci t)).1),.int .i64 (xcD (xci t)).2])∧Below w.heap.size w w':=by
 by_cases h127:t.size<127
 ·rw[xgV t h127];exact xhG t w h127
 have h:127≤t.size:=by omega
 by_cases hn:t.extract 0 7=⟨#[80,77,84,105,108,101,115]⟩
 ·by_cases hv:nmB t 7 1=3
  ·by_cases hf:1<nmB t 96 1
   ·rw[xjK t h hn hv hf];exact xi8 t w h hn hv hf
   ·have hw:∀ o,o+1≤127→wrap64 (nmB t o 1)=nmB t o 1∧IntKind.i64.wrap (nmB t o 1)=nmB t o 1:=fun o ho=>by
     have:=xjE t o 1 (by omega)
     rw[xgZ] at this
     exact⟨by rw[IntWalk.wrap64_in _ (by omega)],by rw[IntKind.wrap_i64] <;> omega⟩
    have hE:xcD (xci t)=if ckH (xaG t)=0 then (xaG t,0) else (xaa,ckH (xaG t)):=by
     by_cases hc:ckH (xaG t)=0
     ·rw[if_pos hc,xqW t h hn hv hf hc]
     ·rw[if_neg hc,xlT t h hn hv hf hc]
    exact xje t w h hn ((xcc t 7 (by omega)).trans hv) (xaG t) _ (xzT t hm h) (xcc t 96 (by omega)) hf
     ((xcc t 97 (by omega)).trans (xlp t).symm)
     ((xcc t 98 (by omega)).trans (xl6 t).symm)
     ((xcc t 99 (by omega)).trans (xlJ t).symm)
     ((xcc t 100 (by omega)).trans (xlj t).symm) (by rw[xlj];exact hw 100 (by omega))
     ((xcc t 101 (by omega)).trans (xlb t).symm) (by rw[xlb];exact hw 101 (by omega))
     ((xcc t 118 (by omega)).trans (xk9 t).symm) (by rw[xk9];exact hw 118 (by omega))
     _ hE
  ·rw[xe8 t h hn hv];exact xf6 t w h hn hv
 ·rw[xg9 t h hn];exact xhw t w h hn
end Go.Proofs.YtjinnigjfopbcaaGreatDoor
namespace Go.Proofs.YtjinnigjfopbcaaGreatDoor
set_option linter.unusedVariables false
set_option linter.unusedSimpArgs false
set_option maxRecDepth 20000
structure Sc where
 rf:Int
 rl:Int
 mf:Int
 ml:Int
 lf:Int
 ll:Int
 df:Int
 dl:Int
deriving DecidableEq
def xef:Sc:=⟨0,0,0,0,0,0,0,0⟩
structure Pl where
 sec:Sc
 all:Int
 err:Int
def xgg (a b c d:Int):Prop:=1099511627776<a∨1099511627776<b∨1099511627776<c∨1099511627776<d∨1099511627776<127+a+b+c+d
instance (a b c d:Int):Decidable (xgg a b c d):=by unfold xgg;infer_instance
def xpZ (a b c d:Int):Pl:=if xgg a b c d then ⟨xef,0,8⟩ else ⟨⟨127,a,127+a,b,127+a+b,c,127+a+b+c,d⟩,127+a+b+c+d,0⟩
def xdZ (h:Hd) (s:Sc):Hd:={ h with rf:=s.rf,rl:=s.rl,mf:=s.mf,ml:=s.ml,lf:=s.lf,ll:=s.ll,df:=s.df,dl:=s.dl }
structure Pt where
 p0:ByteArray
 p1:ByteArray
 p2:ByteArray
 p3:ByteArray
def xbr:ByteArray:={ data:=#[] }
def xhs:Pt:=⟨xbr,xbr,xbr,xbr⟩
def xdE (p:Pt):Pl:=xpZ p.p0.size p.p1.size p.p2.size p.p3.size
def xgM (h:Hd) (p:Pt):ByteArray × Int :=
 if (xdE p).err≠0 then (xbr,(xdE p).err) else if (xhq (xdZ h (xdE p).sec)).2≠0 then (xbr,(xhq (xdZ h (xdE p).sec)).2)
 else (str (xhq (xdZ h (xdE p).sec)).1++p.p0++p.p1++p.p2++p.p3,0)
structure Ct where
 h:Hd
 p:Pt
 err:Int
def xgD (h:Hd) (n:Int):Prop:=n<h.rf+h.rl∨n<h.mf+h.ml∨n<h.lf+h.ll∨n<h.df+h.dl
instance (h:Hd) (n:Int):Decidable (xgD h n):=by unfold xgD;infer_instance
def xoq (t:ByteArray) (f l:Int):ByteArray:=t.extract f.toNat (f.toNat+l.toNat)
def xa7 (t:ByteArray):Ct :=
 if (xcD (xci t)).2≠0 then ⟨xaa,xhs,(xcD (xci t)).2⟩ else if xgD (xcD (xci t)).1 t.size then ⟨xaa,xhs,8⟩
 else ⟨(xcD (xci t)).1,⟨xoq t (xcD (xci t)).1.rf (xcD (xci t)).1.rl,xoq t (xcD (xci t)).1.mf (xcD (xci t)).1.ml,xoq t (xcD (xci t)).1.lf (xcD (xci t)).1.ll,xoq t (xcD (xci t)).1.df (xcD (xci t)).1.dl⟩,0⟩
def xyV (s:Sc):Prop:=U64 s.rf∧U64 s.rl∧U64 s.mf∧U64 s.ml∧U64 s.lf∧U64 s.ll∧U64 s.df∧U64 s.dl
end Go.Proofs.YtjinnigjfopbcaaGreatDoor
