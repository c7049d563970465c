/- cMA cMG. -/
import Derived.Test.YtjinnigjfopbcaaGreatDoorVs
import Derived.Test.YtjinnigjfopbcaaGreatDoorVc1
set_option maxHeartbeats 16000000
namespace Go.Proofs.YtjinnigjfopbcaaGreatDoor
set_option linter.unusedVariables false
set_option linter.unusedSimpArgs false
open Go.RowKit
set_option maxRecDepth 20000
open Go.RowKit
set_option maxRecDepth 20000
open Go.RowKit
set_option maxRecDepth 20000
theorem xpk (x:Int) (w:World):Calls Tryz.prog 183 #[.int .u64 x,.int .i64 8] w fun e w'=>e=.returned (.tuple #[.int .i64 (sgn x 8),.int .i64 0])∧w=w':=by
 have HF:Hid (wrap64 x=sgn x 8):=by
  apply lH
  unfold wrap64 sgn
  simp only[Int.reduceMul,Int.reduceSub,Int.reduceToNat,Int.reducePow]
  split <;> omega
 go_enter Tryz.func183,Tryz.ntmps183
 go_wp2
 go_ret2
 exact⟨xoj HF.out rfl,rfl⟩
theorem xwv {n:Int} (h0:1≤n) (h1:n<8):n=1∨n=2∨n=3∨n=4∨n=5∨n=6∨n=7:=by omega
theorem xni (x n:Int) (w:World) (x0:0≤x) (h0:1≤n) (h1:n<8):Calls Tryz.prog 183 #[.int .u64 x,.int .i64 n] w fun e w'=>e=.returned (.tuple #[.int .i64 (sgn x n),.int .i64 0])∧w=w':=by
 rcases xwv h0 h1 with rfl|rfl|rfl|rfl|rfl|rfl|rfl
 all_goals
  go_enter Tryz.func183,Tryz.ntmps183
  go_wp2
  all_goals
   go_ret2
   refine⟨xoj ?_ rfl,rfl⟩
   unfold sgn
   simp only[Int.reduceMul,Int.reduceSub,Int.reduceToNat,Int.reducePow]
   split <;> omega
theorem xkD (x n:Int) (w:World) (x0:0≤x) (h0:1≤n) (h1:n≤8):Calls Tryz.prog 183 #[.int .u64 x,.int .i64 n] w fun e w'=>e=.returned (.tuple #[.int .i64 (sgn x n),.int .i64 0])∧w=w':=by
 by_cases h:n=8
 ·subst h;exact xpk x w
 ·exact xni x n w x0 h0 (by omega)
def leB:Nat→Int→List Int
 | 0,_=>[]
 | k+1,x=>x % 256 :: leB k (x / 256)
def shr:Nat→Int→Int
 | 0,x=>x
 | k+1,x=>shr k (x / 256)
theorem xwe (k:Nat) (x:Int):(leB k x).length=k:=by
 induction k generalizing x with
 | zero=>rfl
 | succ k ih=>simp[leB,ih]
theorem xsa (k:Nat) (x:Int):shr (k+1) x=shr k x / 256:=by
 induction k generalizing x with
 | zero=>rfl
 | succ k ih=>exact ih (x / 256)
theorem xub (k:Nat) (x:Int):leB (k+1) x=leB k x++[shr k x % 256]:=by
 induction k generalizing x with
 | zero=>rfl
 | succ k ih =>
  show x % 256 :: leB (k+1) (x / 256)=x % 256 :: leB k (x / 256)++[shr k (x / 256) % 256]
  rw[ih];rfl
theorem xgq (v:Value) (l:List Int) (n x:Int) (m:Nat) (w:World) (hb:xaO w v l) (hl:l.length≤1000000) (hn:n=m∧1≤m∧m≤8∨m=0∧(n<1∨8<n)) (x0:0≤x) (x1:x≤18446744073709551615) :
  Calls Tryz.prog 275 #[v,.int .i64 n,.int .u64 x] w (xlW w (l++leB m x)):=by
 obtain⟨a,cap,rfl,hc1,hc2,hcell⟩:=hb
 obtain⟨i0,hi,hz0,hz1,hz2⟩:=xaq xry
 have HM:∀ (L:Nat) (W:World),L≤1000000→(Instr.makeSlice 23 (.int .i64 (L:Int)) (.int .i64 ((L:Int)+(m:Int)))).run Tryz.prog W=.ok (.slice (some ⟨W.heap.size,0,none⟩) L (L+m)) (W.alloc (.cells (madeCells #[.int .u8 0] ((L+m)*1)) 5)):=by
  intro L W hL
  have:=run_make (P:=Tryz.prog) W 23 5 i0 (.int .u8 0) Tryz.underlying23 hi hz0 .i64 .i64 (L:Int) ((L:Int)+(m:Int)) (by omega) (by omega) (by rw[hz2];omega) (by omega)
  rw[this,hz1]
  simp only[Int.toNat_natCast]
  rw[show ((L:Int)+(m:Int)).toNat=L+m from by omega]
  rfl
 have hmk:=HM l.length
 clear HM
 have hG:(w.alloc (.cells (madeCells #[.int .u8 0] (l.length+m)) 5)).heap[w.heap.size]?=some (.cells (List.replicate (l.length+m) (Value.int .u8 0)).toArray 5 (0,0)):=by
  rw[heap_alloc_new]
  have:=toList_madeCells_one (.int .u8 0) (l.length+m)
  rw[← this]
 have hpos:0<(l.map (Value.int .u8)).length→∃ ad,a=some ad∧∀ j u,(l.map (Value.int .u8))[j]?=some u→(w.alloc (.cells (madeCells #[.int .u8 0] (l.length+m)) 5)).cell? (ad.add j)=some u:=by
  intro h
  obtain⟨y,hy,hyb,hyc⟩:=hcell (by simpa using h)
  refine⟨y,hy,fun j u hj=>?_⟩
  have hjl:j<l.length:=by
   have:=(List.getElem?_eq_some_iff.1 hj).1
   simpa using this
  have hu:u=.int .u8 (l.getD j 0):=by simpa[hjl] using hj.symm
  rw[hu,← hyc j hjl]
  exact((Below.refl w.heap.size w).alloc (Nat.le_refl _) _).cell (p:=y.add j) (by rw[xiW];exact hyb)
 have HG:=lH hG;clear hG
 have HP:=lH hpos;clear hpos
 clear hcell
 have hml:l.length+8≤maxLen:=by unfold maxLen;omega
 rcases hn with ⟨rfl,hm1,hm8⟩|⟨rfl,hn⟩
 ·go_enter Tryz.func275,Tryz.ntmps275
  go_wp2_with (first|(go_at_call 296;refine(xkl _ _ (by omega) (by omega)).mono ?_;rintro e w' ⟨rfl,rfl⟩)|(with_reducible refine wpList_copy_splice rfl (.tmp 18) (.tmp 19) 23 23 rfl 5 Tryz.underlying23 (by kernel_rfl) _ _ _ _ _ _ rfl rfl w.heap.size 0 (List.replicate (l.length+m) (Value.int .u8 0)) 5 HG.out (l.map (Value.int .u8)) (by simp) (fun h=>⟨rfl,HP.out h⟩) (by simp) (ints_oneCell _ _) w.heap.size w ((Below.refl _ _).alloc (Nat.le_refl _) _) (Nat.le_refl _) ?_;intro w2 HG2 HB2)|fail)
  have hO:=xcI HG2.out (by omega)
  clear HG2 HG HP hmk
  go_loopw [7,2,22] (fun v x' i wr=>∃ (k:Nat) (y:Int),k≤m∧i=.int .i64 k∧x'=.int .u64 y∧0≤y∧y≤18446744073709551615∧Hid (shr k x=y)∧Own wr w.heap.size v (l++leB k x)∧Below w.heap.size w wr) (fun _ _ i _=>m - (intOf i).toNat)
  case atStart=>exact⟨0,x,Nat.zero_le _,rfl,rfl,x0,x1,rfl,by simpa[leB] using hO,HB2⟩
  case round =>
   obtain⟨k,y,hk,rfl,rfl,y0,y1,HY,hown,hbw⟩:=hrel
   have hlen:(l++leB k x).length=l.length+k:=by rw[List.length_append,xwe]
   have HL:=lH hlen;clear hlen
   have hsz:=hbw.size
   by_cases hlt:k<m
   ·go_wp2_with (first|(at_builtin;refine wpList_append_own _ rfl _ _ 23 rfl w.heap.size 5 i0 (.int .u8 0) 1 1 Tryz.underlying23 hi hz0 hz1 hz2 rfl (by decide) _ _ _ rfl (World.ownsRow.alloc hown _) ⟨wr.heap.size,0,none⟩ 1 1 [.int .u8 (y % 256)] rfl rfl ?c1 ?c2 ?c3 ?c4 ?c5 ?_)|fail)
    case c1 =>
     intro j u hj
     match j,hj with
     | 0,hj=>simp at hj;subst hj;simp[Addr.add]
    case c2=>intro u hu;simp at hu;subst hu;rfl
    case c3=>rw[HL.out];unfold maxLen;omega
    case c4=>rw[HL.out];omega
    case c5=>rw[World.size_alloc];omega
    intro v' w1 hown' hgrow _
    have hbel:Below w.heap.size w w1:=(hbw.alloc (by omega) _).grown hgrow (by rw[World.size_alloc];omega) (fun g hg=>(World.ownsRow.lt hown g hg).1)
    have hO':Own w1 w.heap.size v' (l++leB (k+1) x):=by
     rw[xub,HY.out,← List.append_assoc]
     exact Own.snoc (by simpa using hown')
    have HY':Hid (shr (k+1) x=y / 256):=by
     have:=xsa k x
     rw[HY.out] at this
     exact lH this
    clear hown' hgrow hown hbw HY
    go_wp2
    go_roundw
    case rel=>exact⟨k+1,y / 256,by omega,by go_num,rfl,by omega,by omega,HY',hO',hbel⟩
    case measure=>simp[intOf];omega
   ·obtain rfl:k=m:=by omega
    go_wp2
    go_ret
    exact⟨_,rfl,hown,hbw⟩
 ·simp only[Nat.add_zero] at HG HP
  have hmk0:∀ (W:World),(Instr.makeSlice 23 (.int .i64 (l.length:Int)) (.int .i64 (l.length:Int))).run Tryz.prog W=.ok (.slice (some ⟨W.heap.size,0,none⟩) l.length l.length) (W.alloc (.cells (madeCells #[.int .u8 0] l.length) 5)):=by
   intro W
   have:=hmk W hl
   simpa using this
  clear hmk
  go_enter Tryz.func275,Tryz.ntmps275
  go_wp2_with (first|(go_at_call 296;refine(xur _ _ (by omega)).mono ?_;rintro e w' ⟨rfl,rfl⟩)|(with_reducible refine wpList_copy_splice rfl (.tmp 18) (.tmp 19) 23 23 rfl 5 Tryz.underlying23 (by kernel_rfl) _ _ _ _ _ _ rfl rfl w.heap.size 0 (List.replicate l.length (Value.int .u8 0)) 5 HG.out (l.map (Value.int .u8)) (by simp) (fun h=>⟨rfl,HP.out h⟩) (by simp) (ints_oneCell _ _) w.heap.size w ((Below.refl _ _).alloc (Nat.le_refl _) _) (Nat.le_refl _) ?_;intro w2 HG2 HB2)|fail)
  have hO:=xcI (m:=0) HG2.out (by omega)
  clear HG2 HG HP hmk0
  refine wp_loop_rounds 1 ?_
  rw[rounds_succ]
  go_wp2
  go_ret
  exact⟨_,rfl,by simpa[leB] using hO,HB2⟩
theorem xsP (x:Int) (c:Nat) (x0:0≤x) (x1:x<72057594037927936) (hc:c<256):IntKind.u64.wrap (256*x+IntKind.u64.wrap c)=c+256*x:=by
 rw[wrap_u64,wrap_u64];omega
theorem xk8 (t:ByteArray) (w:World) (h8:t.size≤8) :
  Calls Tryz.prog 182 #[.string t] w fun e w'=>e=.returned (.int .u64 (xfE t.data.toList))∧w=w':=by
 go_enter Tryz.func182,Tryz.ntmps182
 go_wp2
 go_loop [3,4] (fun x i=>∃ k:Nat,k≤t.size∧i=.int .i64 ((k:Int) - 1)∧x=.int .u64 (xfE (t.data.toList.drop k))) (fun _ i=>(intOf i+1).toNat)
 case atStart=>exact⟨t.size,Nat.le_refl _,rfl,by rw[List.drop_of_length_le (by simp)];rfl⟩
 case round =>
  obtain⟨k,hk,rfl,rfl⟩:=hrel
  by_cases hlt:1≤k
  ·have hbd:0≤xfE (t.data.toList.drop k)∧xfE (t.data.toList.drop k)<72057594037927936:=by
    have:=xqJ (t.data.toList.drop k)
    have:=xjo (t.data.toList.drop k).length (by simp;omega)
    omega
   generalize hx:xfE (t.data.toList.drop k)=x at *
   have HX:=lH hx;clear hx
   have hs:=xi2 t.data.toList k hlt (by simpa using hk)
   rw[HX.out] at hs
   have hc:t[k - 1].toNat<256:=xkA _
   have HS:=lH hs;clear hs
   have HC:=lH hc;clear hc
   go_wp2
   refine⟨⟨k - 1,by omega,?_,?_⟩,?_⟩
   ·congr 1;omega
   ·rw[xsP x _ hbd.1 hbd.2 HC.out];exact congrArg _ HS.out.symm
   ·simp[intOf];omega
  ·obtain rfl:k=0:=by omega
   go_wp2
   go_ret
   exact⟨by simp,rfl⟩
end Go.Proofs.YtjinnigjfopbcaaGreatDoor
namespace Go.Proofs.YtjinnigjfopbcaaGreatDoor
set_option linter.unusedVariables false
set_option linter.unusedSimpArgs false
open Go.RowKit
set_option maxRecDepth 20000
theorem xlk (n:Nat) (x:Int):leB n x=leH n x:=by
 induction n generalizing x with
 | zero=>rfl
 | succ n ih=>rw[leB,leH,ih]
theorem xpQ (n:Nat) (m x:Int):leH n (x % (256 ^ n*m))=leH n x:=by
 induction n generalizing x with
 | zero=>rfl
 | succ n ih =>
  rw[leH,leH]
  have e:(256:Int) ^ (n+1)*m=256*(256 ^ n*m):=by rw[Int.pow_succ,Int.mul_comm (256 ^ n) 256,Int.mul_assoc]
  rw[e]
  have h1:x % (256*(256 ^ n*m)) % 256=x % 256:=Int.emod_emod_of_dvd x ⟨_,rfl⟩
  have h2:x % (256*(256 ^ n*m)) / 256=x / 256 % (256 ^ n*m):=by
   have h3:=Int.emod_add_mul_ediv x (256*(256 ^ n*m))
   rw[Int.emod_def x,Int.emod_def (x / 256),Int.mul_assoc 256,Int.sub_mul_ediv_left _ _ (by omega:(256:Int)≠0),Int.ediv_ediv_of_nonneg (by omega:(0:Int)≤256)]
  rw[h1,h2,ih]
theorem xtI (n:Nat) (x:Int) (h:n≤8):leH n (IntKind.u64.wrap x)=leH n x:=by
 rw[wrap_u64]
 have:=xpQ n (256 ^ (8 - n)) x
 rw[← Int.pow_add,show n+(8 - n)=8 from by omega] at this
 exact this
def xaD (n:Nat):List Int→List Int
 | []=>[]
 | x :: l=>leH n x++xaD n l
theorem xbR (n:Nat) (a b:List Int):xaD n (a++b)=xaD n a++xaD n b:=by
 induction a with
 | nil=>rfl
 | cons x a ih=>rw[List.cons_append,xaD,xaD,ih,List.append_assoc]
theorem xdc (n:Nat) (l:List Int):(xaD n l).length=n*l.length:=by
 induction l with
 | nil=>rfl
 | cons x l ih=>rw[xaD,List.length_append,xh0,ih,List.length_cons,Nat.mul_succ,Nat.add_comm]
theorem xeC (n:Nat) (l:List Int) (k:Nat) (h:k<l.length):xaD n (l.take (k+1))=xaD n (l.take k)++leH n (l.getD k 0):=by
 rw[xgt l k h,xbR]
 simp[xaD]
theorem xlm (l:List Int) (k:Nat) (h:k<l.length):l.getD k 0 ∈ l:=by
 have e:l.getD k 0=l[k]:=by simp[h]
 rw[e]
 exact List.getElem_mem h
theorem xu8 (x:Int):0≤IntKind.u64.wrap x∧IntKind.u64.wrap x≤18446744073709551615:=by rw[wrap_u64];omega
def xbc (w:World) (l:List Int) (e:Ending) (w':World):Prop:=∃ v,e=.returned v∧xaO w' v l∧Below w.heap.size w w'
set_option maxRecDepth 20000 in
theorem xfs (v vl:Value) (b l:List Int) (n:Nat) (w:World) (hb:xaO w v b) (hl:xdz .i64 w vl l) (h0:1≤n) (h8:n≤8) (hs:b.length+n*l.length≤1000000) :
  Calls Tryz.prog 220 #[v,.int .i64 n,vl] w (xbc w (b++xaD n l)):=by
 obtain⟨c,cap,rfl,hc1,hc2,hc,hcell⟩:=hl
 have HC:=lH hcell;clear hcell
 have hml:l.length≤9223372036854775807:=by unfold maxLen at hc2;omega
 have HB:=lH hb;clear hb
 go_enter Tryz.func220,Tryz.ntmps220
 go_wp2_with fail
 go_loopw [0,11] (fun v i wr=>∃ k:Nat,k≤l.length∧i=.int .i64 k∧xaO wr v (b++xaD n (l.take k))∧Below w.heap.size w wr) (fun _ i _=>l.length - (intOf i).toNat)
 case atStart=>exact⟨0,Nat.zero_le _,rfl,by simpa[xaD] using HB.out,Below.refl _ _⟩
 case round =>
  obtain⟨k,hk,rfl,hbr,hbw⟩:=hrel
  have hsz:=hbw.size
  by_cases hlt:k<l.length
  ·have c1:=(hbw.cell (p:=⟨c,k,none⟩) hc).trans (HC.out k hlt)
   have hlen:(b++xaD n (l.take k)).length≤1000000:=by
    rw[List.length_append,xdc,List.length_take,Nat.min_eq_left hk]
    have:=Nat.mul_le_mul_left n hk
    omega
   have HT:Hid (b++xaD n (l.take (k+1))=b++xaD n (l.take k)++leB n (IntKind.u64.wrap (l.getD k 0))):=lH (by rw[xeC n l k hlt,xlk,xtI n _ h8,← List.append_assoc])
   obtain⟨x,hxx⟩:∃ x,l.getD k 0=x:=⟨_,rfl⟩
   rw[hxx] at c1 HT
   have HX:=lH hxx;clear hxx
   obtain⟨L,hL⟩:∃ L,b++xaD n (l.take k)=L:=⟨_,rfl⟩
   rw[hL] at hbr HT hlen
   clear hL HX
   have HBR:=lH hbr;clear hbr
   have HL:=lH hlen;clear hlen
   have HBW:=lH hbw;clear hbw
   have hwb:=xu8 x
   go_wp2_with fail
   refine(xgq _ L n (IntKind.u64.wrap x) n _ HBR.out HL.out (.inl ⟨rfl,h0,h8⟩) hwb.1 hwb.2).mono ?_
   rintro e w1 ⟨v1,rfl,ho,hb1⟩
   have hbe:=ho.bytesAt
   rw[← HT.out] at hbe
   have hbw1:=HBW.out.trans (hb1.mono hsz)
   clear hb1 ho
   go_wp2_with fail
   go_roundw
   case rel=>exact⟨k+1,by omega,by go_num,hbe,hbw1⟩
   case measure=>simp[intOf];omega
  ·obtain rfl:k=l.length:=by omega
   rw[List.take_length] at hbr
   go_wp2_with fail
   go_ret
   exact⟨_,rfl,hbr,hbw⟩
set_option maxRecDepth 20000 in
theorem xmo (v vl:Value) (b l:List Int) (n:Nat) (w:World) (hb:xaO w v b) (hl:xdz .u64 w vl l) (hx:∀ x ∈ l,U64 x) (h0:1≤n) (h8:n≤8) (hs:b.length+n*l.length≤1000000) :
  Calls Tryz.prog 221 #[v,.int .i64 n,vl] w (xbc w (b++xaD n l)):=by
 obtain⟨c,cap,rfl,hc1,hc2,hc,hcell⟩:=hl
 have HC:=lH hcell;clear hcell
 have hml:l.length≤9223372036854775807:=by unfold maxLen at hc2;omega
 have HB:=lH hb;clear hb
 have HXX:=lH hx;clear hx
 go_enter Tryz.func221,Tryz.ntmps221
 go_wp2_with fail
 go_loopw [0,11] (fun v i wr=>∃ k:Nat,k≤l.length∧i=.int .i64 k∧xaO wr v (b++xaD n (l.take k))∧Below w.heap.size w wr) (fun _ i _=>l.length - (intOf i).toNat)
 case atStart=>exact⟨0,Nat.zero_le _,rfl,by simpa[xaD] using HB.out,Below.refl _ _⟩
 case round =>
  obtain⟨k,hk,rfl,hbr,hbw⟩:=hrel
  have hsz:=hbw.size
  by_cases hlt:k<l.length
  ·have c1:=(hbw.cell (p:=⟨c,k,none⟩) hc).trans (HC.out k hlt)
   have hlen:(b++xaD n (l.take k)).length≤1000000:=by
    rw[List.length_append,xdc,List.length_take,Nat.min_eq_left hk]
    have:=Nat.mul_le_mul_left n hk
    omega
   have HT:Hid (b++xaD n (l.take (k+1))=b++xaD n (l.take k)++leB n (l.getD k 0)):=lH (by rw[xeC n l k hlt,xlk,← List.append_assoc])
   have hbx:U64 (l.getD k 0):=HXX.out _ (xlm l k hlt)
   obtain⟨x,hxx⟩:∃ x,l.getD k 0=x:=⟨_,rfl⟩
   rw[hxx] at c1 HT hbx
   have HX:=lH hxx;clear hxx
   obtain⟨L,hL⟩:∃ L,b++xaD n (l.take k)=L:=⟨_,rfl⟩
   rw[hL] at hbr HT hlen
   clear hL HX
   have HBR:=lH hbr;clear hbr
   have HL:=lH hlen;clear hlen
   have HBW:=lH hbw;clear hbw
   obtain⟨hx0,hx1⟩:=hbx
   go_wp2_with fail
   refine(xgq _ L n (x) n _ HBR.out HL.out (.inl ⟨rfl,h0,h8⟩) hx0 hx1).mono ?_
   rintro e w1 ⟨v1,rfl,ho,hb1⟩
   have hbe:=ho.bytesAt
   rw[← HT.out] at hbe
   have hbw1:=HBW.out.trans (hb1.mono hsz)
   clear hb1 ho
   go_wp2_with fail
   go_roundw
   case rel=>exact⟨k+1,by omega,by go_num,hbe,hbw1⟩
   case measure=>simp[intOf];omega
  ·obtain rfl:k=l.length:=by omega
   rw[List.take_length] at hbr
   go_wp2_with fail
   go_ret
   exact⟨_,rfl,hbr,hbw⟩
set_option maxRecDepth 20000 in
theorem xsU (v vl:Value) (b l:List Int) (n:Nat) (w:World) (hb:xaO w v b) (hl:xdz .u8 w vl l) (hx:∀ x ∈ l,U8 x) (h0:1≤n) (h8:n≤8) (hs:b.length+n*l.length≤1000000) :
  Calls Tryz.prog 222 #[v,.int .i64 n,vl] w (xbc w (b++xaD n l)):=by
 obtain⟨c,cap,rfl,hc1,hc2,hc,hcell⟩:=hl
 have HC:=lH hcell;clear hcell
 have hml:l.length≤9223372036854775807:=by unfold maxLen at hc2;omega
 have HB:=lH hb;clear hb
 have HXX:=lH hx;clear hx
 go_enter Tryz.func222,Tryz.ntmps222
 go_wp2_with fail
 go_loopw [0,11] (fun v i wr=>∃ k:Nat,k≤l.length∧i=.int .i64 k∧xaO wr v (b++xaD n (l.take k))∧Below w.heap.size w wr) (fun _ i _=>l.length - (intOf i).toNat)
 case atStart=>exact⟨0,Nat.zero_le _,rfl,by simpa[xaD] using HB.out,Below.refl _ _⟩
 case round =>
  obtain⟨k,hk,rfl,hbr,hbw⟩:=hrel
  have hsz:=hbw.size
  by_cases hlt:k<l.length
  ·have c1:=(hbw.cell (p:=⟨c,k,none⟩) hc).trans (HC.out k hlt)
   have hlen:(b++xaD n (l.take k)).length≤1000000:=by
    rw[List.length_append,xdc,List.length_take,Nat.min_eq_left hk]
    have:=Nat.mul_le_mul_left n hk
    omega
   have HT:Hid (b++xaD n (l.take (k+1))=b++xaD n (l.take k)++leB n (l.getD k 0)):=lH (by rw[xeC n l k hlt,xlk,← List.append_assoc])
   have hbx:U8 (l.getD k 0):=HXX.out _ (xlm l k hlt)
   obtain⟨x,hxx⟩:∃ x,l.getD k 0=x:=⟨_,rfl⟩
   rw[hxx] at c1 HT hbx
   have HX:=lH hxx;clear hxx
   obtain⟨L,hL⟩:∃ L,b++xaD n (l.take k)=L:=⟨_,rfl⟩
   rw[hL] at hbr HT hlen
   clear hL HX
   have HBR:=lH hbr;clear hbr
   have HL:=lH hlen;clear hlen
   have HBW:=lH hbw;clear hbw
   obtain⟨hx0,hx1⟩:=hbx
   go_wp2_with fail
   refine(xgq _ L n (x) n _ HBR.out HL.out (.inl ⟨rfl,h0,h8⟩) hx0 (by omega)).mono ?_
   rintro e w1 ⟨v1,rfl,ho,hb1⟩
   have hbe:=ho.bytesAt
   rw[← HT.out] at hbe
   have hbw1:=HBW.out.trans (hb1.mono hsz)
   clear hb1 ho
   go_wp2_with fail
   go_roundw
   case rel=>exact⟨k+1,by omega,by go_num,hbe,hbw1⟩
   case measure=>simp[intOf];omega
  ·obtain rfl:k=l.length:=by omega
   rw[List.take_length] at hbr
   go_wp2_with fail
   go_ret
   exact⟨_,rfl,hbr,hbw⟩
theorem xhP {w:World} {v:Value} {l:List Int} (h:xdz .u8 w v l):xaO w v l:=by
 obtain⟨b,cap,h1,h2,h3,h4,h5⟩:=h
 exact⟨_,cap,h1,h2,h3,fun _=>⟨_,rfl,h4,fun i hi=>by
  have e:(⟨b,0,none⟩:Addr).add i=⟨b,i,none⟩:=by unfold Addr.add;split <;> simp_all
  rw[e];exact h5 i hi⟩⟩
theorem xbc.over {W:World} {o:Obj} {l:List Int} {e:Ending} {w':World} (h:xbc (W.alloc o) l e w'):xbc W l e w':=by
 obtain⟨v,h1,h2,h3⟩:=h
 exact⟨v,h1,h2,((Below.refl _ _).alloc (Nat.le_refl _) _).trans (h3.mono (by rw[World.size_alloc];omega))⟩
theorem xo8 (v:Value) (b:List Int) (a0:Int) (W:World) (m:Nat) (hb:xaO W v b) (hm:m=W.heap.size) (hs:b.length≤999000):Calls Tryz.prog 220 #[v,.int .i64 1,.slice (some ⟨m,0,none⟩) 1 1] (W.alloc (.cells #[.int .i64 a0] 3)) (xbc W (b++xaD 1 [a0])) :=
 (xfs v _ b [a0] 1 (W.alloc (.cells #[.int .i64 a0] 3)) (hb.below ((Below.refl _ _).alloc (Nat.le_refl _) _)) (xa4 .i64 W [a0] 3 m (0,0) hm (by simp[maxLen])) (by omega) (by omega) (by simp only[List.length_cons,List.length_nil];omega)).mono fun _ _ h=>h.over
theorem xws (v:Value) (b:List Int) (a0 a1:Int) (W:World) (m:Nat) (hb:xaO W v b) (hm:m=W.heap.size) (hs:b.length≤999000):Calls Tryz.prog 220 #[v,.int .i64 1,.slice (some ⟨m,0,none⟩) 2 2] (W.alloc (.cells #[.int .i64 a0,.int .i64 a1] 3)) (xbc W (b++xaD 1 [a0,a1])) :=
 (xfs v _ b [a0,a1] 1 (W.alloc (.cells #[.int .i64 a0,.int .i64 a1] 3)) (hb.below ((Below.refl _ _).alloc (Nat.le_refl _) _)) (xa4 .i64 W [a0,a1] 3 m (0,0) hm (by simp[maxLen])) (by omega) (by omega) (by simp only[List.length_cons,List.length_nil];omega)).mono fun _ _ h=>h.over
theorem xwu (v:Value) (b:List Int) (a0 a1 a2 a3:Int) (W:World) (m:Nat) (hb:xaO W v b) (hm:m=W.heap.size) (hs:b.length≤999000):Calls Tryz.prog 220 #[v,.int .i64 4,.slice (some ⟨m,0,none⟩) 4 4] (W.alloc (.cells #[.int .i64 a0,.int .i64 a1,.int .i64 a2,.int .i64 a3] 3)) (xbc W (b++xaD 4 [a0,a1,a2,a3])) :=
 (xfs v _ b [a0,a1,a2,a3] 4 (W.alloc (.cells #[.int .i64 a0,.int .i64 a1,.int .i64 a2,.int .i64 a3] 3)) (hb.below ((Below.refl _ _).alloc (Nat.le_refl _) _)) (xa4 .i64 W [a0,a1,a2,a3] 3 m (0,0) hm (by simp[maxLen])) (by omega) (by omega) (by simp only[List.length_cons,List.length_nil];omega)).mono fun _ _ h=>h.over
theorem xww (v:Value) (b:List Int) (a0 a1:Int) (W:World) (m:Nat) (hb:xaO W v b) (hm:m=W.heap.size) (hs:b.length≤999000):Calls Tryz.prog 220 #[v,.int .i64 4,.slice (some ⟨m,0,none⟩) 2 2] (W.alloc (.cells #[.int .i64 a0,.int .i64 a1] 3)) (xbc W (b++xaD 4 [a0,a1])) :=
 (xfs v _ b [a0,a1] 4 (W.alloc (.cells #[.int .i64 a0,.int .i64 a1] 3)) (hb.below ((Below.refl _ _).alloc (Nat.le_refl _) _)) (xa4 .i64 W [a0,a1] 3 m (0,0) hm (by simp[maxLen])) (by omega) (by omega) (by simp only[List.length_cons,List.length_nil];omega)).mono fun _ _ h=>h.over
theorem xh8 (v:Value) (b:List Int) (a0 a1:Int) (W:World) (m:Nat) (hb:xaO W v b) (hm:m=W.heap.size) (h0:U64 a0) (h1:U64 a1) (hs:b.length≤999000):Calls Tryz.prog 221 #[v,.int .i64 8,.slice (some ⟨m,0,none⟩) 2 2] (W.alloc (.cells #[.int .u64 a0,.int .u64 a1] 26)) (xbc W (b++xaD 8 [a0,a1])) :=
 (xmo v _ b [a0,a1] 8 (W.alloc (.cells #[.int .u64 a0,.int .u64 a1] 26)) (hb.below ((Below.refl _ _).alloc (Nat.le_refl _) _)) (xa4 .u64 W [a0,a1] 26 m (0,0) hm (by simp[maxLen])) (by intro x hx;simp only[List.mem_cons,List.not_mem_nil,or_false] at hx;rcases hx with rfl|rfl <;> assumption) (by omega) (by omega) (by simp only[List.length_cons,List.length_nil];omega)).mono fun _ _ h=>h.over
theorem xvZ (v:Value) (b:List Int) (a0 a1 a2:Int) (W:World) (m:Nat) (hb:xaO W v b) (hm:m=W.heap.size) (h0:U64 a0) (h1:U64 a1) (h2:U64 a2) (hs:b.length≤999000):Calls Tryz.prog 221 #[v,.int .i64 8,.slice (some ⟨m,0,none⟩) 3 3] (W.alloc (.cells #[.int .u64 a0,.int .u64 a1,.int .u64 a2] 26)) (xbc W (b++xaD 8 [a0,a1,a2])) :=
 (xmo v _ b [a0,a1,a2] 8 (W.alloc (.cells #[.int .u64 a0,.int .u64 a1,.int .u64 a2] 26)) (hb.below ((Below.refl _ _).alloc (Nat.le_refl _) _)) (xa4 .u64 W [a0,a1,a2] 26 m (0,0) hm (by simp[maxLen])) (by intro x hx;simp only[List.mem_cons,List.not_mem_nil,or_false] at hx;rcases hx with rfl|rfl|rfl <;> assumption) (by omega) (by omega) (by simp only[List.length_cons,List.length_nil];omega)).mono fun _ _ h=>h.over
theorem xwx (v:Value) (b:List Int) (a0 a1 a2 a3:Int) (W:World) (m:Nat) (hb:xaO W v b) (hm:m=W.heap.size) (h0:U8 a0) (h1:U8 a1) (h2:U8 a2) (h3:U8 a3) (hs:b.length≤999000):Calls Tryz.prog 222 #[v,.int .i64 1,.slice (some ⟨m,0,none⟩) 4 4] (W.alloc (.cells #[.int .u8 a0,.int .u8 a1,.int .u8 a2,.int .u8 a3] 5)) (xbc W (b++xaD 1 [a0,a1,a2,a3])) :=
 (xsU v _ b [a0,a1,a2,a3] 1 (W.alloc (.cells #[.int .u8 a0,.int .u8 a1,.int .u8 a2,.int .u8 a3] 5)) (hb.below ((Below.refl _ _).alloc (Nat.le_refl _) _)) (xa4 .u8 W [a0,a1,a2,a3] 5 m (0,0) hm (by simp[maxLen])) (by intro x hx;simp only[List.mem_cons,List.not_mem_nil,or_false] at hx;rcases hx with rfl|rfl|rfl|rfl <;> assumption) (by omega) (by omega) (by simp only[List.length_cons,List.length_nil];omega)).mono fun _ _ h=>h.over
theorem xym {w' w1:World} {a0 a1 a2 a3:Addr} {v0 v1 v2 v3:Value} (hb:Below w'.heap.size w' w1) (h:w'.cell? a0=some v0∧w'.cell? a1=some v1∧w'.cell? a2=some v2∧w'.cell? a3=some v3):w1.cell? a0=some v0∧w1.cell? a1=some v1∧w1.cell? a2=some v2∧w1.cell? a3=some v3 :=
 ⟨xa8 hb h.1,xa8 hb h.2.1,xa8 hb h.2.2.1,xa8 hb h.2.2.2⟩
theorem xrw {s t:ByteArray} {a b:Int} (h:(s,a)=(t,b)):Ending.returned (.tuple #[.string s,.int .i64 a])=.returned (.tuple #[.string t,.int .i64 b]):=by
 obtain⟨h1,h2⟩:=Prod.mk.injEq .. ▸ h
 rw[h1,h2]
def upL (h:Hd) (k:Nat):List Int:=[h.rf,h.rl,h.mf,h.ml,h.lf,h.ll,h.df,h.dl].take (2*k)
theorem xp0 (h:Hd) (k:Nat):(xaD 8 (upL h k)).length≤64:=by
 rw[xdc,upL,List.length_take]
 simp only[List.length_cons,List.length_nil]
 omega
def s0:List Int:=mgH++xaD 1 [3]
def s1 (h:Hd) (k:Nat):List Int:=s0++xaD 8 (upL h k)
def s2 (h:Hd):List Int:=s1 h 4++xaD 8 [h.ad,h.en,h.co]
def s3 (h:Hd):List Int:=s2 h++xaD 1 [xpf h.cl,h.inn,h.out,h.knd]
def s4 (h:Hd):List Int:=s3 h++xaD 1 [h.z0,h.z1]
def s5 (h:Hd):List Int:=s4 h++xaD 4 [h.lo0,h.la0,h.lo1,h.la1]
def s6 (h:Hd):List Int:=s5 h++xaD 1 [h.zm]
def s7 (h:Hd):List Int:=s6 h++xaD 4 [h.lon,h.lat]
theorem xua (x:Int):leH 4 (xrL x)=leH 4 x:=xpQ 4 1 x
theorem xtn (h:Hd):s7 h=xhY h:=by
 simp only[s7,s6,s5,s4,s3,s2,s1,s0,upL,xhY,xsV,mgH,xjj,xkx,xmP,xaD,List.take,List.append_nil,xua,List.append_assoc,List.cons_append,List.nil_append]
 rfl
theorem xwp (h:Hd) (k:Nat):(s1 h k).length≤200∧(s2 h).length≤200∧(s3 h).length≤200∧(s4 h).length≤200∧(s5 h).length≤200∧(s6 h).length≤200∧(s7 h).length≤200:=by
 have h0:s0.length=8:=rfl
 have h1:=xp0 h k
 have h4:=xp0 h 4
 simp only[s7,s6,s5,s4,s3,s2,s1,List.length_append,xdc,List.length_cons,List.length_nil] at h1 h4 ⊢
 omega
set_option maxRecDepth 20000 in
theorem xm6 (h:Hd) (w:World) (hm:xi1 h):Calls Tryz.prog 143 #[.agg (cH h)] w fun e w'=>e=.returned (.tuple #[.string (str (xhq h).1),.int .i64 (xhq h).2])∧Below w.heap.size w w':=by
 have HCk:=lH (fun W=>xgd h W hm)
 have HM:=lH hm;clear hm
 have H0:=HAt.made w h 124
 obtain⟨E,hE⟩:∃ E,xhq h=E:=⟨_,rfl⟩
 rw[hE]
 have HE:=lH hE;clear hE
 by_cases hc:ckH h=0
 ·have HE2:Hid ((str (xhY h),(0:Int))=(str E.1,E.2)):=lH (by rw[← HE.out,xhq,if_pos hc])
  rw[hc] at HCk
  have hcv:=fun(w:World) (C:Array Value) (n c:Nat)=>Lib.run_convert_bytes_const (P:=Tryz.prog) w 23 5 C n c Tryz.underlying23 Tryz.underlying5
  go_enter Tryz.func143,Tryz.ntmps143
  go_wp2_with (first|(refine xa1 (by rfl) _ rfl _ rfl _ h (by assumption) ?_)|fail)
  refine(HCk.out _).mono ?_
  rintro e w1 ⟨rfl,hb⟩
  have h1:=H0.later hb
  have u1:Below w.heap.size w w1:=Below.trans (by go_grown) (hb.mono (by rw[World.size_alloc];omega))
  have z1:w.heap.size<w1.heap.size:=h1.lt
  have HH:=lH h1
  have HU:=lH u1
  clear hb H0 h1 u1 hc HCk HE
  go_wp2_with fail
  have hbm:=xhP (xa4 .u8 w1 mgH 5 w1.heap.size (7,8) rfl (by decide))
  refine(xo8 _ mgH 3 _ _ hbm (by simp) (by decide)).mono ?_
  rintro e w2 ⟨v2,rfl,hv2,hb⟩
  have hz2:w1.heap.size≤w2.heap.size:=by have:=hb.size;rw[World.size_alloc] at this;omega
  have u2:Below w1.heap.size w1 w2:=((Below.refl _ _).alloc (Nat.le_refl _) _).trans (hb.mono (by rw[World.size_alloc];omega))
  have h2:=HH.out.below u2 z1
  have HV:=lH hv2
  have hlen:=fun k=>(xwp h k).1
  have HL:=lH hlen
  have hlens:=(xwp h 0).2
  have HLS:=lH hlens
  have HU2:=lH (HU.out.trans (u2.mono (by omega)))
  have HH2:=lH h2
  clear hb hbm hcv hlen hlens
  go_wp2_with (first|(refine xa1 (by rfl) _ rfl _ rfl _ h (by assumption) ?_)|fail)
  refine(xhk h _).mono ?_
  rintro e w3 ⟨rfl,hb⟩
  have hz3:=hb.size
  have HU3:=lH (HU2.out.trans (hb.mono (by omega)))
  have HH3:=lH (HH2.out.later hb)
  have HV3:=lH (HV.out.below hb)
  clear hb h2 HV u2
  go_wp2_with fail
  have hIX:=fun W=>xkn (.int .u64 h.rf) (.int .u64 h.rl) (.int .u64 h.mf) (.int .u64 h.ml) (.int .u64 h.lf) (.int .u64 h.ll) (.int .u64 h.df) (.int .u64 h.dl) W
  have HIX:=lH hIX
  clear hIX
  have hw3:w.heap.size<w3.heap.size:=by omega
  go_loopw [5,19] (fun v i wr=>∃ k:Nat,k≤4∧i=.int .i64 k∧Hid (xaO wr v (s1 h k))∧Below w3.heap.size w3 wr) (fun _ i _=>4 - (intOf i).toNat)
  case atStart=>exact⟨0,by omega,rfl,lH (by have:=HV3.out;simpa[s1,s0,upL,xaD] using this),Below.refl _ _⟩
  case round =>
   obtain⟨k,hk,rfl,HB,hbw⟩:=hrel
   have hzr:=hbw.size
   have HHr:=lH (HH3.out.below hbw hw3)
   have HUr:=lH (HU3.out.trans (hbw.mono (by omega)))
   rcases(by omega:k=0∨k=1∨k=2∨k=3∨k=4) with rfl|rfl|rfl|rfl|rfl
   ·have hI:=fun W=>(HIX.out W).1
    have hbr:=HB.out
    have HLW:=lH (fun W m hb hm=>xh8 u5 (s1 h 0) h.rf h.rl W m hb hm HM.out.1 HM.out.2.1 (by have:=HL.out 0;omega))
    have HT:Hid (s1 h 0++xaD 8 [h.rf,h.rl]=s1 h 1):=lH (by rw[s1,s1,List.append_assoc,← xbR];rfl)
    clear hbr
    go_wp2_with fail
    refine(HLW.out _ _ (HB.out.below ((Below.refl _ _).alloc (Nat.le_refl _) _)) (by simp)).mono ?_
    rintro e w4 ⟨v4,rfl,hv4,hb⟩
    have u4:Below w3.heap.size w3 w4:=(hbw.alloc hzr _).trans (hb.mono (by rw[World.size_alloc];omega))
    rw[HT.out] at hv4
    have HV4:=lH hv4
    clear hb hv4
    go_wp2_with fail
    go_roundw
    case rel=>exact⟨1,by omega,by rfl,HV4,u4⟩
    case measure=>simp[intOf]
   ·have hI:=fun W=>(HIX.out W).2.1
    have hbr:=HB.out
    have HLW:=lH (fun W m hb hm=>xh8 u5 (s1 h 1) h.mf h.ml W m hb hm HM.out.2.2.1 HM.out.2.2.2.1 (by have:=HL.out 1;omega))
    have HT:Hid (s1 h 1++xaD 8 [h.mf,h.ml]=s1 h 2):=lH (by rw[s1,s1,List.append_assoc,← xbR];rfl)
    clear hbr
    go_wp2_with fail
    refine(HLW.out _ _ (HB.out.below ((Below.refl _ _).alloc (Nat.le_refl _) _)) (by simp)).mono ?_
    rintro e w4 ⟨v4,rfl,hv4,hb⟩
    have u4:Below w3.heap.size w3 w4:=(hbw.alloc hzr _).trans (hb.mono (by rw[World.size_alloc];omega))
    rw[HT.out] at hv4
    have HV4:=lH hv4
    clear hb hv4
    go_wp2_with fail
    go_roundw
    case rel=>exact⟨2,by omega,by rfl,HV4,u4⟩
    case measure=>simp[intOf]
   ·have hI:=fun W=>(HIX.out W).2.2.1
    have hbr:=HB.out
    have HLW:=lH (fun W m hb hm=>xh8 u5 (s1 h 2) h.lf h.ll W m hb hm HM.out.2.2.2.2.1 HM.out.2.2.2.2.2.1 (by have:=HL.out 2;omega))
    have HT:Hid (s1 h 2++xaD 8 [h.lf,h.ll]=s1 h 3):=lH (by rw[s1,s1,List.append_assoc,← xbR];rfl)
    clear hbr
    go_wp2_with fail
    refine(HLW.out _ _ (HB.out.below ((Below.refl _ _).alloc (Nat.le_refl _) _)) (by simp)).mono ?_
    rintro e w4 ⟨v4,rfl,hv4,hb⟩
    have u4:Below w3.heap.size w3 w4:=(hbw.alloc hzr _).trans (hb.mono (by rw[World.size_alloc];omega))
    rw[HT.out] at hv4
    have HV4:=lH hv4
    clear hb hv4
    go_wp2_with fail
    go_roundw
    case rel=>exact⟨3,by omega,by rfl,HV4,u4⟩
    case measure=>simp[intOf]
   ·have hI:=fun W=>(HIX.out W).2.2.2
    have hbr:=HB.out
    have HLW:=lH (fun W m hb hm=>xh8 u5 (s1 h 3) h.df h.dl W m hb hm HM.out.2.2.2.2.2.2.1 HM.out.2.2.2.2.2.2.2.1 (by have:=HL.out 3;omega))
    have HT:Hid (s1 h 3++xaD 8 [h.df,h.dl]=s1 h 4):=lH (by rw[s1,s1,List.append_assoc,← xbR];rfl)
    clear hbr
    go_wp2_with fail
    refine(HLW.out _ _ (HB.out.below ((Below.refl _ _).alloc (Nat.le_refl _) _)) (by simp)).mono ?_
    rintro e w4 ⟨v4,rfl,hv4,hb⟩
    have u4:Below w3.heap.size w3 w4:=(hbw.alloc hzr _).trans (hb.mono (by rw[World.size_alloc];omega))
    rw[HT.out] at hv4
    have HV4:=lH hv4
    clear hb hv4
    go_wp2_with fail
    go_roundw
    case rel=>exact⟨4,by omega,by rfl,HV4,u4⟩
    case measure=>simp[intOf]
   ·clear hbw HIX HL HV3 HH3 HU3 HU2 HH2 HH HU
    have HLS0:(s1 h 4).length≤200:=(xwp h 4).1
    have a8:=at8 HHr.out
    have a9:=at9 HHr.out
    have a10:=xzI HHr.out
    have HLW:=lH (fun W m hb hm=>xvZ u5 (s1 h 4)  h.ad h.en h.co W m hb hm HM.out.2.2.2.2.2.2.2.2.1 HM.out.2.2.2.2.2.2.2.2.2.1 HM.out.2.2.2.2.2.2.2.2.2.2.1 (by have:=HLS0;omega))
    go_wp2_with fail
    refine(HLW.out _ _ HB.out (by simp)).mono ?_
    rintro e w5 ⟨v5,rfl,hv,hb⟩
    have HV5:=lH hv
    have HH5:=lH (HHr.out.later hb)
    have HU5:=lH (HUr.out.trans (hb.mono HUr.out.size))
    have hz5:=hb.size
    clear hb hv a8 a9 a10 HLW HHr HUr
    have a11:=xzi HH5.out
    have a12:=xyt HH5.out
    have a13:=xyB HH5.out
    have a14:=xys HH5.out
    have HLW:=lH (fun W m hb hm hc=>xwx v5 (s2 h) (xpf h.cl) h.inn h.out h.knd W m hb hm hc HM.out.2.2.2.2.2.2.2.2.2.2.2.1 HM.out.2.2.2.2.2.2.2.2.2.2.2.2.1 HM.out.2.2.2.2.2.2.2.2.2.2.2.2.2 (by have:=HLS.out.1;omega))
    have HC8:Hid (U8 (xpf h.cl)):=lH (by unfold xpf U8;cases h.cl <;> simp)
    have HBd:=lH (HV5.out.below (Below.drew (Below.refl _ _)))
    go_upto_region 11 with fail
    go_cut [5] (fun v wx=>xaO wx v (s3 h)∧Below w5.heap.size w5 wx)
    case first =>
     have hS0:(fun w'=>w'.cell? ⟨w.heap.size,11,none⟩=some (.bool h.cl)∧w'.cell? ⟨w.heap.size,12,none⟩=some (.int .u8 h.inn)∧w'.cell? ⟨w.heap.size,13,none⟩=some (.int .u8 h.out)∧w'.cell? ⟨w.heap.size,14,none⟩=some (.int .u8 h.knd)) w5.drew:=⟨xa8 (Below.drew (Below.refl _ _)) a11,xa8 (Below.drew (Below.refl _ _)) a12,xa8 (Below.drew (Below.refl _ _)) a13,xa8 (Below.drew (Below.refl _ _)) a14⟩
     have HS0:=lH hS0;clear hS0
     go_region_held3 (fun w'=>w'.cell? ⟨w.heap.size,11,none⟩=some (.bool h.cl)∧w'.cell? ⟨w.heap.size,12,none⟩=some (.int .u8 h.inn)∧w'.cell? ⟨w.heap.size,13,none⟩=some (.int .u8 h.out)∧w'.cell? ⟨w.heap.size,14,none⟩=some (.int .u8 h.knd)) (first|exact HS0.out|assumption|exact xym hb (by assumption)|exact xym ((Below.refl _ _).alloc (Nat.le_refl _) _) (by assumption))
      (first|(go_at_call 223;refine(xrU _ _).mono ?_;rintro e w' ⟨rfl,rfl⟩)|(go_at_call 222;refine(HLW.out _ _ HBd.out (by simp) HC8.out).mono ?_;rintro e w' ⟨v',rfl,hv,hb⟩))
     go_wp2_with fail
     go_meet
     case rel=>exact⟨hv,(Below.drew (Below.refl _ _)).trans hb⟩
    case rest =>
     obtain⟨hv,hb⟩:=hcut
     generalize wc=w6 at *
     have HV6:=lH hv
     have HH6:=lH (HH5.out.later hb)
     have HU6:=lH (HU5.out.trans (hb.mono HU5.out.size))
     have hz6:=hb.size
     clear hb hv a11 a12 a13 a14 HLW HH5 HU5
     have a15:=xyM HH6.out
     have a16:=xyL HH6.out
     have HLW:=lH (fun W m hb hm=>xws u5 (s3 h)  h.z0 h.z1 W m hb hm  (by have:=HLS.out.2.1;omega))
     go_wp2_with fail
     refine(HLW.out _ _ HV6.out (by simp)).mono ?_
     rintro e w7 ⟨v7,rfl,hv,hb⟩
     have HV7:=lH hv
     have HH7:=lH (HH6.out.later hb)
     have HU7:=lH (HU6.out.trans (hb.mono HU6.out.size))
     have hz7:=hb.size
     clear hb hv a15 a16 HLW HH6 HU6
     have a17:=xyQ HH7.out
     have a18:=xzs HH7.out
     have a19:=xyH HH7.out
     have a20:=xzf HH7.out
     have HLW:=lH (fun W m hb hm=>xwu v7 (s4 h)  h.lo0 h.la0 h.lo1 h.la1 W m hb hm  (by have:=HLS.out.2.2.1;omega))
     go_wp2_with fail
     refine(HLW.out _ _ HV7.out (by simp)).mono ?_
     rintro e w8 ⟨v8,rfl,hv,hb⟩
     have HV8:=lH hv
     have HH8:=lH (HH7.out.later hb)
     have HU8:=lH (HU7.out.trans (hb.mono HU7.out.size))
     have hz8:=hb.size
     clear hb hv a17 a18 a19 a20 HLW HH7 HU7
     have a21:=xzx HH8.out
     have HLW:=lH (fun W m hb hm=>xo8 v8 (s5 h)  h.zm W m hb hm  (by have:=HLS.out.2.2.2.1;omega))
     go_wp2_with fail
     refine(HLW.out _ _ HV8.out (by simp)).mono ?_
     rintro e w9 ⟨v9,rfl,hv,hb⟩
     have HV9:=lH hv
     have HH9:=lH (HH8.out.later hb)
     have HU9:=lH (HU8.out.trans (hb.mono HU8.out.size))
     have hz9:=hb.size
     clear hb hv a21 HLW HH8 HU8
     have a22:=xyE HH9.out
     have a23:=xzu HH9.out
     have HLW:=lH (fun W m hb hm=>xww v9 (s6 h)  h.lon h.lat W m hb hm  (by have:=HLS.out.2.2.2.2.1;omega))
     go_wp2_with fail
     refine(HLW.out _ _ HV9.out (by simp)).mono ?_
     rintro e w10 ⟨v10,rfl,hv,hb⟩
     have HV10:=lH hv
     have HH10:=lH (HH9.out.later hb)
     have HU10:=lH (HU9.out.trans (hb.mono HU9.out.size))
     have hz10:=hb.size
     clear hb hv a22 a23 HLW HH9 HU9
     have hs:=xhV w10 v10 _ HV10.out
     rw[show s6 h++xaD 4 [h.lon,h.lat]=xhY h from xtn h] at hs
     go_wp2_with fail
     go_ret2
     exact⟨xrw HE2.out,HU10.out⟩
 ·have hne:(ckH h != 0)=true:=by simp only[bne_iff_ne,ne_eq];exact hc
  have HE2:Hid ((str [],ckH h)=(str E.1,E.2)):=lH (by rw[← HE.out,xhq,if_neg hc])
  clear hc HE
  obtain⟨r,hr⟩:∃ r,ckH h=r:=⟨_,rfl⟩
  rw[hr] at hne HE2 HCk
  clear hr
  go_enter Tryz.func143,Tryz.ntmps143
  go_wp2_with (first|(refine xa1 (by rfl) _ rfl _ rfl _ h (by assumption) ?_)|fail)
  refine(HCk.out _).mono ?_
  rintro e w1 ⟨rfl,hb⟩
  have u1:Below w.heap.size w w1:=Below.trans (by go_grown) (hb.mono (by rw[World.size_alloc];omega))
  clear hb H0
  go_wp2_with fail
  go_ret2
  exact⟨xrw HE2.out,u1⟩
theorem xum (l:List Int) (n:Nat) (h:l.length≤n):(str l).size≤n:=by rw[xmh];exact h
theorem i4 (x:Int):(str (leH 4 x)).size≤8:=xum _ _ (by rw[xh0];omega)
theorem i1 (x:Int):(str (leH 1 x)).size≤8:=xum _ _ (by rw[xh0];omega)
def r1 (h:Hd):List Int:=xsV++((leH 8 h.rf++leH 8 h.rl)++((leH 8 h.mf++leH 8 h.ml)++((leH 8 h.lf++leH 8 h.ll)++(leH 8 h.df++leH 8 h.dl))))
def r2 (h:Hd):List Int:=r1 h++(leH 8 h.ad++(leH 8 h.en++(leH 8 h.co++leH 1 (xpf h.cl))))
theorem xcl (h:Hd):(cH h).all (·.oneCell')=true:=by simp[cH,Value.oneCell']
theorem xor (h:Hd):(cH h).size=24:=rfl
def xnY (w:World) (g:Nat) (T:TypeId) (h:Hd) (w':World):Prop:=HAt w' g T h∧w'.heap.size=w.heap.size∧(∀ B w0,B≤g→Below B w0 w→Below B w0 w')∧(∀ k,k≠g→w'.heap[k]?=w.heap[k]?)
theorem xnY.keep {w w':World} {g:Nat} {T U:TypeId} {h j:Hd} {b:Nat} (p:xnY w g T h w') (H:HAt w b U j) (hb:b≠g):HAt w' b U j:=(p.2.2.2 b hb).trans H
theorem xeQ (w:World) (g:Nat) (T:TypeId) (old h:Hd) (H:HAt w g T old):xnY w g T h (w.setRow g (cH h)) :=
 ⟨setRow_heap w g _ _ T (0,0) H,setRow_size _ _ _,fun B w0 hB hb=>below_setRow hb hB _,fun k hk=>setRow_other w g k _ hk⟩
theorem xbJ {ops:Array Oper} {rest:List Oper} {o:Oper} {a:Act} {w:World} {Q:Exit→Act→World→Prop} (hw:Region.wanted o (yielded ops a.tmps)=true) (x y:Operand) (ho:o.op=.store 124 x y)
  (g:Nat) (hx:a.eval x=.pointer (some ⟨g,0,none⟩)) (h:Hd) (hy:a.eval y=.agg (cH h)) (T:TypeId) (old:Hd) (H:HAt w g T old)
  (hd:o.dst=none) (k:∀ w',xnY w g T h w'→wpList Tryz.prog ops Q rest a w'):wpList Tryz.prog ops Q (o :: rest) a w :=
 BigFrame.wpList_want hw fun _ hK=>wp_store_row 124 x y ho g (cH h) hx hy T (cH old) H xaB rfl (xcl h) (hK _ _ (by rw[hd];exact k _ (xeQ w g T old h H)))
theorem xbG {ops:Array Oper} {rest:List Oper} {o:Oper} {a:Act} {w:World} {Q:Exit→Act→World→Prop} (hw:Region.wanted o (yielded ops a.tmps)=true) (x y:Operand) (ho:o.op=.store 103 x y)
  (g:Nat) (hx:a.eval x=.pointer (some ⟨g,0,none⟩)) (h:Hd) (hy:a.eval y=.agg (cH h)) (T:TypeId) (old:Hd) (H:HAt w g T old)
  (hd:o.dst=none) (k:∀ w',xnY w g T h w'→wpList Tryz.prog ops Q rest a w'):wpList Tryz.prog ops Q (o :: rest) a w :=
 BigFrame.wpList_want hw fun _ hK=>wp_store_row 103 x y ho g (cH h) hx hy T (cH old) H xbI rfl (xcl h) (hK _ _ (by rw[hd];exact k _ (xeQ w g T old h H)))
theorem HAt.zero (w:World) (T:TypeId):HAt (w.alloc (.cells #[.int .u64 xaa.rf,.int .u64 xaa.rl,.int .u64 xaa.mf,.int .u64 xaa.ml,.int .u64 xaa.lf,.int .u64 xaa.ll,.int .u64 xaa.df,.int .u64 xaa.dl,.int .u64 xaa.ad,.int .u64 xaa.en,.int .u64 xaa.co,.bool xaa.cl,.int .u8 xaa.inn,.int .u8 xaa.out,.int .u8 xaa.knd,.int .i64 xaa.z0,.int .i64 xaa.z1,.int .i64 xaa.lo0,.int .i64 xaa.la0,.int .i64 xaa.lo1,.int .i64 xaa.la1,.int .i64 xaa.zm,.int .i64 xaa.lon,.int .i64 xaa.lat] T)) w.heap.size T xaa:=heap_alloc_new w _
theorem xaX {w:World} {g i:Nat} {cs:Array Value} {t:TypeId} {fr:Nat × Nat} (h:w.heap[g]?=some (.cells cs t fr)) (v:Value):(w.setCell ⟨g,i,none⟩ v).heap[g]?=some (.cells (cs.setIfInBounds i v) t fr):=by
 rw[setCell_eq_setRow w g i cs t fr v h]
 exact setRow_heap w g _ _ t _ h
theorem xb3 {w:World} {a p:Addr} (u:Value) (h:a.block≠p.block):(w.setCell p u).cell? a=w.cell? a:=by
 unfold World.cell?
 rw[Below.heap_setCell _ _ _ _ h]
theorem xjb (w:World) (k:Nat):w.drew.heap[k]?=w.heap[k]?:=rfl
theorem xaE {w:World} {g i k:Nat} {v:Value} (h:k≠g):(w.setCell ⟨g,i,none⟩ v).heap[k]?=w.heap[k]?:=Below.heap_setCell _ _ _ _ h
end Go.Proofs.YtjinnigjfopbcaaGreatDoor
