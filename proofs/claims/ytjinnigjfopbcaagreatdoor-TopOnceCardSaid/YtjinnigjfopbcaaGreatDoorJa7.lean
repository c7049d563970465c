/- aFc aGd aGj aGt13 aMd aNe aVc aLz aLg aMg aLo aLu aHm. -/
import Derived.Test.YtjinnigjfopbcaaGreatDoorJs
import Derived.Test.YtjinnigjfopbcaaGreatDoorJa6
set_option maxHeartbeats 16000000
namespace Go.Proofs.YtjinnigjfopbcaaGreatDoor
set_option linter.unusedVariables false
set_option linter.unusedSimpArgs false
open Go.RowKit
set_option maxRecDepth 20000
theorem xm7 (s:ByteArray) (k:Nat) (h:k<s.size):s.data.toList.take (k+1)=s.data.toList.take k++[s[k]]:=by
 rw[List.take_succ_eq_append_getElem (by simpa using h)];rfl
theorem xqj (x:Nat) (s:ByteArray) (k:Nat) (h:k<s.size):xfQ x (s.data.toList.take (k+1))=xtJ (xfQ x (s.data.toList.take k)) s[k].toNat:=by
 rw[xm7 s k h,xmr]
theorem xoT (x:Nat) (s:ByteArray):xfQ x (s.data.toList.take s.size)=xfQ x s.data.toList:=by
 rw[List.take_of_length_le (by simp)]
theorem xuX (x0:Nat) (hx0:x0<18446744073709551616) (s:ByteArray) (hs:s.size≤maxLen) (w:World) :
  Calls Tryz.prog 340 #[.agg #[.int .u64 x0,.func (.func 339) #[] #[]],.string s] w fun e w'=>e=.returned (.int .u64 (xfQ x0 s.data.toList))∧Below w.heap.size w w':=by
 have hs':=hs
 unfold maxLen at hs
 go_enter Tryz.func340,Tryz.ntmps340
 go_wp2
 go_loopw [5,11] (fun x i wr=>∃ k:Nat,k≤s.size∧i=.int .i64 k∧x=.int .u64 (xfQ x0 (s.data.toList.take k):Nat)∧wr.cell? ⟨w.heap.size,1,none⟩=some (.func (.func 339) #[] #[])∧w.heap.size<wr.heap.size∧Below w.heap.size w wr) (fun _ i _=>s.size - (intOf i).toNat)
 case atStart=>exact⟨0,Nat.zero_le _,rfl,by rw[List.take_zero,xjT],by simp[go_sem],by simp,Below.alloc (Below.refl _ _) (Nat.le_refl _) _⟩
 case round =>
  obtain⟨k,hk,rfl,rfl,hc,hz,hbw⟩:=hrel
  by_cases hlt:k<s.size
  ·have HS:=lH (xqj x0 s k hlt)
   have hx:=xnM (s.data.toList.take k) x0 hx0
   have hb:s[k].toNat<256:=s[k].toNat_lt
   generalize xfQ x0 (s.data.toList.take k)=x at *
   have HA:=lH (xrq x s[k].toNat hx hb)
   go_wp2_with fail
   go_quiet ((go_at_call 339;(with_reducible refine Calls.quiet_of_same (HA.out _))))
   have hd:Below w.heap.size w (wr.drewN nq):=hbw.trans ⟨rfl,rfl,rfl,Nat.le_refl _,fun _ _=>rfl⟩
   have hc':(wr.drewN nq).cell? ⟨w.heap.size,1,none⟩=some (.func (.func 339) #[] #[]):=hc
   have hz':w.heap.size<(wr.drewN nq).heap.size:=hz
   clear hc hz hbw HA
   generalize wr.drewN nq=wn at *
   go_wp2_with fail
   go_roundw
   case rel=>exact⟨k+1,by omega,by go_num,by rw[HS.out],hc',hz',hd⟩
   case measure=>simp[intOf];omega
  ·obtain rfl:k=s.size:=by omega
   have HW:=lH (xoT x0 s)
   generalize xfQ x0 (s.data.toList.take s.size)=x at *
   go_wp2
   go_ret
   exact⟨xav (by rw[HW.out]),hbw⟩
theorem xss (s:ByteArray) (hs:s.size≤maxLen) (w:World) :
  Calls Tryz.prog 310 #[.string s] w fun e w'=>e=.returned (.int .u64 (xfQ fSt s.data.toList))∧Below w.heap.size w w':=by
 have HO:=lH (fun W=>xuX fSt (by decide) s hs W)
 have he:((fSt:Nat):Int)=14695981039346656037:=rfl
 rw[he] at HO
 clear he
 go_enter Tryz.func310,Tryz.ntmps310
 go_wp2_with fail
 refine(HO.out _).mono ?_
 rintro y w1 ⟨rfl,hb⟩
 have HB:=lH hb
 clear hb
 go_wp2_with fail
 go_ret
 exact⟨rfl,HB.out⟩
theorem xoZ (x:Nat) (n:Int) (h1:1≤n):0≤(x:Int) % n∧(x:Int) % n<n:=⟨Int.emod_nonneg _ (by omega),Int.emod_lt_of_pos _ (by omega)⟩
theorem xkN (s:ByteArray) (hs:s.size≤maxLen) (n:Int) (n0:-9223372036854775808≤n) (n1:n≤9223372036854775807) (w:World) :
  Calls Tryz.prog 270 #[.string s,.int .i64 n] w fun e w'=>e=.returned (.int .i64 (xsI (xfQ fSt s.data.toList) n))∧Below w.heap.size w w':=by
 have HS:=lH (fun W=>xss s hs W)
 have hx:=xnM s.data.toList fSt (by decide)
 generalize xfQ fSt s.data.toList=x at *
 by_cases h1:n<1
 ·have HB:=lH (show xsI x n=0 by unfold xsI;rw[if_pos h1])
  go_enter Tryz.func270,Tryz.ntmps270
  go_wp2_with fail
  go_ret
  exact⟨xav HB.out.symm,Below.refl _ _⟩
 ·have HB:=lH (show xsI x n=(x:Int) % n by unfold xsI;rw[if_neg h1])
  have HQ:=lH (xoZ x n (by omega))
  have hw:IntKind.u64.wrap n=n:=by rw[IntKind.wrap_u64];omega
  have hn:¬ n=0:=by omega
  go_enter Tryz.func270,Tryz.ntmps270
  go_wp2_with fail
  refine(HS.out _).mono ?_
  rintro y w1 ⟨rfl,hb⟩
  have HBl:=lH hb
  clear hb HS
  go_wp2_with fail
  go_ret
  exact⟨xav (by rw[HB.out];have:=HQ.out;unfold wrap64;omega),HBl.out⟩
theorem xu5 (s:ByteArray) (t:Kt) (w:World):Calls Tryz.prog 271 #[.string s,.agg #[.int .u64 t.1,.int .u32 t.2.size,.string t.2]] w fun e w'=>e=.returned (.bool (decide (t.2=s)))∧Below w.heap.size w w':=by
 by_cases h:t.2=s
 ·have hd:=xiZ h
  rw[decide_eq_true h]
  go_enter Tryz.func271,Tryz.ntmps271
  go_wp2_with fail
  go_ret
  exact⟨rfl,by go_grown⟩
 ·have hd:=xj5 h
  rw[decide_eq_false h]
  go_enter Tryz.func271,Tryz.ntmps271
  go_wp2_with fail
  go_ret
  exact⟨rfl,by go_grown⟩
theorem xiy (s:ByteArray) (hs:s.size≤maxLen) (w:World):Calls Tryz.prog 206 #[.string s] w fun e w'=>e=.returned (.int .i64 (bkt s))∧Below w.heap.size w w':=by
 have HB:=lH (fun W=>xkN s hs 2048 (by omega) (by omega) W)
 go_enter Tryz.func206,Tryz.ntmps206
 go_wp2_with fail
 refine(HB.out _).mono ?_
 rintro e w1 ⟨rfl,hb⟩
 have HBl:=lH hb
 clear hb
 go_wp2_with fail
 go_ret
 exact⟨rfl,HBl.out⟩
theorem xnI (w:World) (pb:Nat) (va vm:Value) (G:Int→Value) (l:List ByteArray) (h:PoolAt w pb va vm G l):Calls Tryz.prog 209 #[.pointer (some ⟨pb,0,none⟩)] w fun e w'=>e=.returned (.int .u64 (totF l))∧Below w.heap.size w w':=by
 obtain⟨c0,c1,_,_⟩:=h.two
 obtain⟨al,cap,rfl,hcap,hmx,hc⟩:=h.all.ktsAt
 rw[xcO] at *
 rcases List.eq_nil_or_concat l with rfl|⟨l',s,rfl⟩
 ·clear hc
  go_enter Tryz.func209,Tryz.ntmps209
  go_wp2_with fail
  go_ret
  exact⟨rfl,Below.refl _ _⟩
 ·rw[List.concat_eq_append] at *
  have hk:(plc (l'++[s]) 0)[l'.length]?=some (totF l',s):=by
   rw[xgt,List.getElem?_append_right (by rw[xcO];exact Nat.le_refl _),xcO];simp
  obtain⟨g,off,rfl,hg,d0,d1,d2⟩:=hc _ _ hk
  have HT:=lH h.good.tot
  have hlen:(l'++[s]).length=l'.length+1:=by simp
  have ht:totF (l'++[s])=totF l'+s.size:=by rw[xcl,xko]
  have hlb:=h.good.few
  rw[hlen] at *
  have hw1:IntKind.i64.wrap (l'.length:Int)=(l'.length:Int):=by rw[IntKind.wrap_i64] <;> omega
  have hi:((l'.length:Nat):Int)<((l'.length:Nat):Int)+1:=by omega
  have hi2:(0:Int)≤((l'.length:Nat):Int):=by omega
  dsimp only at d0 d1 d2
  have k0:∀ O,(w.alloc O).cell? ⟨pb,0,none⟩=_:=fun O=>xal ((Below.refl _ _).alloc (Nat.le_refl _) O) c0
  have k1:∀ O,(w.alloc O).cell? ⟨g,off+l'.length*3,none⟩=_:=fun O=>xal ((Below.refl _ _).alloc (Nat.le_refl _) O) d0
  have k2:∀ O,(w.alloc O).cell? ⟨g,off+l'.length*3+1,none⟩=_:=fun O=>xal ((Below.refl _ _).alloc (Nat.le_refl _) O) d1
  clear hc hk h
  go_enter Tryz.func209,Tryz.ntmps209
  go_wp2_with fail
  go_region
  all_goals
   go_wp2_with fail
   go_ret
   refine⟨xav ?_,by go_grown⟩
   rw[ht]
   have:=HT.out
   rw[ht] at this
   simp only[IntKind.wrap_u64]
   omega
theorem xja (w:World):(Op.equal 319 (.map none) (.map none)).run Tryz.prog w=.ok true w:=by
 rw[Op.equal,show Op.maxDepth=9999+1 from rfl]
 unfold Op.equalIn
 simp[go_sem]
theorem xhh (w:World):(binOp BinOp.eql 319 (.map none) (.map none)).run Tryz.prog w=.ok (.bool true) w:=by
 simp[binOp,go_sem,xja]
theorem xi2 (mb:Nat) (w:World):(Op.equal 319 (.map (some mb)) (.map none)).run Tryz.prog w=.ok false w:=by
 rw[Op.equal,show Op.maxDepth=9999+1 from rfl]
 unfold Op.equalIn
 simp[go_sem]
theorem xim (mb:Nat) (w:World):(binOp BinOp.eql 319 (.map (some mb)) (.map none)).run Tryz.prog w=.ok (.bool false) w:=by
 simp[binOp,go_sem,xi2]
theorem xa8 (w:World) (o:Obj):Below w.heap.size w (w.alloc o):=(Below.refl _ _).alloc (Nat.le_refl _) o
theorem xtd {w w3:World} {pb mb:Nat} {va:Value} {G:Int→Value} {l:List ByteArray} {s:ByteArray} (hP:PoolAt w pb va (.map (some mb)) G l) (h3:PoolAt w3 pb va (.map (some mb)) G l) (ht:Two w3 w.heap.size (.int .u64 0) (.int .u32 0)) (hb:Below w.heap.size w w3) (T:TypeId) :
  MidL w (w3.alloc (.cells #[.int .u64 (totF l:Nat),.int .u32 s.size,.string s] T)) pb w.heap.size w3.heap.size mb va (.map (some mb)) G l s:=by
 have h4:=h3.below (xa8 w3 (.cells #[.int .u64 (totF l:Nat),.int .u32 s.size,.string s] T))
 have hr:=ht.lt
 refine⟨h4.two,h4.all,?_,h4.grps,xdZ w3 (totF l,s) T,ht.alloc _,Nat.le_refl _,by omega,by omega,h4.n5 mb rfl,.inl rfl,fun g hg=>(hP.all.lt g hg).2,fun k g hg=>((hP.grps k).lt g hg).2,Kept.below _ (hb.alloc hb.size _)⟩
 rcases h4.map with ⟨e,_⟩|⟨m,e,hm⟩
 ·cases e
 ·cases e;exact hm
theorem xth {w w3:World} {pb:Nat} {va:Value} {G:Int→Value} {s:ByteArray} (hP:PoolAt w pb va (.map none) G []) (hG:∀ k,G k=xiC) (h3:PoolAt w3 pb va (.map none) G []) (ht:Two w3 w.heap.size (.int .u64 0) (.int .u32 0)) (hb:Below w.heap.size w w3) (T:TypeId) :
  MidL w (((w3.setCell ⟨pb,1,none⟩ (.map (some (w3.heap.size+1)))).alloc (.cells #[.int .u64 (totF []:Nat),.int .u32 s.size,.string s] T)).alloc (.map #[] 0)) pb w.heap.size w3.heap.size (w3.heap.size+1) va (.map none) G [] s:=by
 have hr:=ht.lt
 have hpw:=hP.two.lt
 have hp3:=h3.two.lt
 have hsz:(w3.setCell ⟨pb,1,none⟩ (.map (some (w3.heap.size+1)))).heap.size=w3.heap.size:=by simp
 have h2:Two (w3.setCell ⟨pb,1,none⟩ (.map (some (w3.heap.size+1)))) pb va (.map (some (w3.heap.size+1))):=by
  refine⟨?_,World.cell?_setCell_same _ _ _ h3.two.2.1,by simpa using h3.two.2.2.1,by simpa using h3.two.2.2.2⟩
  rw[World.cell?_setCell_other (h:=by simp)];exact h3.two.1
 have es:∀ b,b≠pb→(w3.setCell ⟨pb,1,none⟩ (.map (some (w3.heap.size+1)))).heap[b]?=w3.heap[b]?:=fun b hn=>Below.heap_setCell _ _ _ _ (by simpa using hn)
 have ha:xcz (w3.setCell ⟨pb,1,none⟩ (.map (some (w3.heap.size+1)))) 0 va (plc [] 0):=h3.all.keep (fun k hk=>es k (fun e=>h3.n1 (by rw[hk,e])))
 have hg:∀ k,xcz (w3.setCell ⟨pb,1,none⟩ (.map (some (w3.heap.size+1)))) 0 (G k) (grp k (plc [] 0)):=fun k=>(h3.grps k).keep (fun j hj=>es j (fun e=>h3.n2 k (by rw[hj,e])))
 have hrs:Two (w3.setCell ⟨pb,1,none⟩ (.map (some (w3.heap.size+1)))) w.heap.size (.int .u64 0) (.int .u32 0):=ht.keep (es _ (by omega))
 have hkp:Kept (xeN pb va (.map none) G) (xeN pb va (.map none) G) w (w3.setCell ⟨pb,1,none⟩ (.map (some (w3.heap.size+1)))):=(Kept.below _ hb).trans (xkv _ _ _ _ (.inl rfl))
 generalize hv:Value.map (some (w3.heap.size+1))=mv at *
 generalize hw:w3.setCell ⟨pb,1,none⟩ mv=W3 at *
 have b1:=xa8 W3 (.cells #[.int .u64 (totF []:Nat),.int .u32 s.size,.string s] T)
 have b2:=xa8 (W3.alloc (.cells #[.int .u64 (totF []:Nat),.int .u32 s.size,.string s] T)) (.map #[] 0)
 have hm:=xeL.made (W3.alloc (.cells #[.int .u64 (totF []:Nat),.int .u32 s.size,.string s] T))
 have hk:=(xdZ W3 (totF [],s) T).below b2
 have hG':G=fun _=>xiC:=funext hG
 rw[hsz] at hk
 refine⟨?_,(ha.below b1).below b2,?_,fun k=>((hg k).below b1).below b2,hk,(hrs.alloc _).alloc _,Nat.le_refl _,by omega,by omega,by omega,.inr (by omega),fun g hg=>(hP.all.lt g hg).2,fun k g hg=>((hP.grps k).lt g hg).2,?_⟩
 ·rw[hv];exact(h2.alloc _).alloc _
 ·rw[hG']
  have e:(W3.alloc (.cells #[.int .u64 (totF []:Nat),.int .u32 s.size,.string s] T)).heap.size=w3.heap.size+1:=by simp[hsz]
  rw[e] at hm
  exact hm
 ·exact(hkp.trans (Kept.below _ b1)).trans (Kept.below _ b2)
set_option maxRecDepth 20000 in
theorem xsv (w:World) (pb:Nat) (va vm:Value) (G:Int→Value) (l:List ByteArray) (h:PoolAt w pb va vm G l) (s:ByteArray) (hg:GoodP (l++[s])) :
  Calls Tryz.prog 208 #[.pointer (some ⟨pb,0,none⟩),.int .i64 (bkt s),.string s] w fun e w'=>e=.returned (.agg #[.int .u64 (totF l:Nat),.int .u32 s.size])∧∃ va' vm' G',PoolAt w' pb va' vm' G' (l++[s])∧Kept (xeN pb va vm G) (xeN pb va' vm' G') w w':=by
 have hss:s.size≤65536:=hg.short s (by simp)
 have hwf:(Lit.int .i64 (bkt s)).wf=true:=by have:=xhl s;exact wf_i64 (by omega) (by omega)
 have hll:l.length≤2047:=by have:=hg.few;simp at this;omega
 have hB0:Below w.heap.size w (w.alloc (.cells #[.int .u64 0,.int .u32 0] 227)):=(Below.refl _ _).alloc (Nat.le_refl _) _
 have hP1:=h.below hB0
 have ht2:=xem w (.int .u64 0) (.int .u32 0) 227
 have HE:=lH (xnI _ pb va vm G l hP1)
 have HC:=lH (fun W=>xgi s W (by omega))
 have hw1:IntKind.u32.wrap (s.size:Int)=(s.size:Int):=by rw[IntKind.wrap_u32];omega
 have HP:=lH h
 have HP1:=lH (And.intro hP1 (And.intro ht2 hB0))
 have hpm:=h.map
 have hpl:=h.two.lt
 clear h hP1 ht2 hB0
 go_enter Tryz.func208,Tryz.ntmps208
 go_wp2_with fail
 generalize hW1:w.alloc (.cells #[.int .u64 0,.int .u32 0] 227)=W1 at *
 have hWs:W1.heap.size=w.heap.size+1:=by rw[← hW1];simp
 refine HE.out.mono ?_
 rintro e w2 ⟨rfl,hb2⟩
 have HB2:=lH hb2
 clear hb2 HE
 go_wp2_with fail
 refine(HC.out _).mono ?_
 rintro e w3 ⟨rfl,hb3⟩
 have hb13:=HB2.out.trans (hb3.mono HB2.out.size)
 have hp3:=HP1.out.1.below hb13
 have HR3:=lH (And.intro hp3 (And.intro (HP1.out.2.1.below hb13) (HP1.out.2.2.trans (hb13.mono HP1.out.2.2.size))))
 obtain⟨c0,c1,c2,c3⟩:=hp3.two
 have hpl3:=hp3.two.lt
 have hne3:pb≠w3.heap.size:=by omega
 clear hb3 HB2 HC hp3 hb13
 obtain⟨om,rfl⟩:∃ om,vm=.map om:=by
  rcases hpm with ⟨e,_⟩|⟨mb,e,_⟩
  ·exact⟨_,e⟩
  ·exact⟨_,e⟩
 obtain⟨nb,q1,hy,hn⟩:∃ nb:Bool,(∀ W,(binOp BinOp.eql 319 (.map om) (.map none)).run Tryz.prog W=.ok (.bool nb) W)∧(nb=true→om=none∧l=[]∧∀ k,G k=xiC)∧(nb=false→∃ mb,om=some mb):=by
  rcases hpm with ⟨e,e2,hG⟩|⟨mb,e,hm⟩
  ·cases e
   exact⟨true,fun W=>xhh W,fun _=>⟨rfl,e2,hG⟩,fun h=>(by cases h)⟩
  ·cases e
   exact⟨false,fun W=>xim mb W,fun h=>(by cases h),fun _=>⟨mb,rfl⟩⟩
 clear hpm
 go_upto_if 21 with fail
 generalize hkb:w3.heap.size=kb at *
 go_cut [] (fun wx=>∃ mb,MidL w wx pb w.heap.size kb mb va (.map om) G l s)
 case first =>
  cases nb with
  | true =>
   obtain⟨rfl,rfl,hG⟩:=hy rfl
   have q2:=fun t W=>run_makeMap (P:=Tryz.prog) t W
   have hne4:pb≠kb+1:=by omega
   have hM:=xth (s:=s) HP.out hG HR3.out.1 HR3.out.2.1 HR3.out.2.2 328
   rw[hkb] at hM
   clear hG hy hn
   go_wp2_with fail
   go_meet
   case rel=>exact⟨_,hM⟩
  | false =>
   obtain⟨mb,rfl⟩:=hn rfl
   have hM:=xtd (s:=s) HP.out HR3.out.1 HR3.out.2.1 HR3.out.2.2 328
   rw[hkb] at hM
   go_wp2_with fail
   go_meet
   case rel=>exact⟨_,hM⟩
 case rest =>
  obtain⟨mb,hM⟩:=hcut
  generalize wc=W at *
  go_upto_region 4 with fail
  have HM:=lH hM
  have HX:=lH (fun X (hX:Below W.heap.size W X)=>hM.all.below hX)
  obtain⟨d0,d1,d2,d3⟩:=hM.two
  obtain⟨k0,k1,k2⟩:=hM.kt
  have dA:∀ O,(W.alloc O).cell? ⟨pb,0,none⟩=some va:=fun O=>(hM.two.alloc O).1
  have hlp:(plc l 0).length≤1000000:=by rw[xcO];omega
  clear hM HR3 HP1 c0 c1 c2 c3 hpl3 hne3 hW1 hWs hkb q1 hy hn
  go_cut [] (fun wx=>∃ v',Mid2 w wx pb w.heap.size kb mb va (.map om) v' G l s)
  case first =>
   go_region_law (refine xer rfl (.tmp 30) (.tmp 32) rfl va (plc l 0) (totF l,s) _ 1 (HX.out _ (by go_grown)) (xdZ _ (totF l,s) _) hlp (by simp[Act.eval,Act.put]) (by simp[Act.eval,Act.put]) ?_;intro v' w6 hown6 hgr6 hloc6;obtain⟨a6,n6,p6,rfl⟩:=hown6.form3;obtain⟨f2,hm2⟩:=xs8 HP.out HM.out (by go_grown) hown6 hgr6 hloc6;obtain⟨f0,f1,f3,f4⟩:=f2)
   all_goals
    go_wp2_with fail
    go_meet
    case rel=>exact⟨_,hm2⟩
  case rest =>
   obtain⟨va',hm2⟩:=hcut
   generalize wc=W2 at *
   clear d0 d1 d2 d3 k0 k1 k2 dA HX hlp
   have HM2:=lH hm2
   have HX:=lH (fun X (hX:Below W2.heap.size W2 X)=>(hm2.grps (bkt s)).below hX)
   have HLK:=lH (fun X (hX:Below W2.heap.size W2 X)=>(hm2.map.below hX).look (bkt s) hwf)
   have hl0:=HLK.out W2.drew (by go_grown)
   have hl1:=fun O=>HLK.out (W2.alloc O).drew (by go_grown)
   have hl2:=fun O=>HLK.out (W2.drew.alloc O) (by go_grown)
   obtain⟨d0,d1,d2,d3⟩:=hm2.two
   obtain⟨k0,k1,k2⟩:=hm2.kt
   have dA:∀ O,(W2.alloc O).cell? ⟨pb,1,none⟩=some (.map (some mb)):=fun O=>(hm2.two.alloc O).2.1
   have hlp:(grp (bkt s) (plc l 0)).length≤1000000:=by have:=xne (bkt s) (plc l 0);rw[xcO] at this;omega
   have hlm:(l:List ByteArray).length<maxLen:=by unfold maxLen;omega
   clear hm2
   go_upto_region 5 with fail
   go_cut [] (fun wx=>∃ va' G',PoolAt wx pb va' (.map (some mb)) G' (l++[s])∧Kept (xeN pb va (.map om) G) (xeN pb va' (.map (some mb)) G') w wx∧Two wx w.heap.size (.int .u64 0) (.int .u32 0)∧xde wx kb (totF l,s)∧¬ xeN pb va' (.map (some mb)) G' w.heap.size)
   case first =>
    go_region_law (refine xer rfl (.tmp 46) (.tmp 48) rfl (G (bkt s)) (grp (bkt s) (plc l 0)) (totF l,s) _ 1 (HX.out _ (by go_grown)) (xdZ _ (totF l,s) _) hlp (by simp[Act.eval,Act.put]) (by simp[Act.eval,Act.put]) ?_;intro v' w7 hown7 hgr7 hloc7;obtain⟨a7,n7,p7,rfl⟩:=hown7.form3;have f7:=(HM2.out.two7 (by go_grown) hgr7 (HP.out.n2 _)).2.1;obtain⟨w8,hup,hmap8,hgr8⟩:=(HM2.out.map7 (by go_grown) hgr7).put hlm (bkt s) hwf _ ⟨a7,n7,p7,rfl⟩;have hfin:=xsK HP.out HM.out.lg HM.out.la HM.out.nm HM.out.om HM.out.lr HM.out.lk hg HM2.out (by go_grown) hown7 hgr7 hloc7 hmap8 hgr8)
    all_goals
     go_wp2_with fail
     go_meet
     case rel=>exact⟨_,_,hfin⟩
   case rest =>
    obtain⟨va2,G2,hp2,hk2,ht2,h32,hr2⟩:=hcut
    generalize wc=W5 at *
    clear d0 d1 d2 d3 k0 k1 k2 dA HX hlp hl0 hl1 hl2
    obtain⟨t0,t1,t2,t3⟩:=ht2
    obtain⟨k0,k1,k2⟩:=h32
    have HF:=lH (And.intro hp2 (And.intro hk2 hr2))
    have HT2:=lH (show Two W5 w.heap.size (.int .u64 0) (.int .u32 0) from ⟨t0,t1,t2,t3⟩)
    have hnk:=HM.out.nk
    clear hp2 hk2 hr2
    go_wp2_with fail
    refine bodyPost_ret (xiL rfl _ _ w.heap.size _ _ _ rfl (HT2.out.set _ _).1 (HT2.out.set _ _).2.1 Tryz.underlying227 rfl xb3) rfl ⟨rfl,va2,.map (some mb),G2,HF.out.1.set2 _ HF.out.2.2 _ _,HF.out.2.1.set2 _ (Nat.le_refl _) _ _⟩
def xb8 (w:World) (B b:Nat) (l:List UInt8):Prop:=Lib.BuilderAt 254 5 B b (.pointer (some ⟨b,0,none⟩)) (Lib.byteCells l) w
theorem xb8.alloc {w:World} {B b:Nat} {l:List UInt8} (h:xb8 w B b l) (o:Obj):xb8 (w.alloc o) B b l:=by
 obtain⟨h1,v,h2,h3,h4⟩:=h
 have hb:b<w.heap.size:=(Array.getElem?_eq_some_iff.1 h2).1
 exact⟨h1,v,((xa8 w o).block b hb).trans h2,h3.alloc o,h4⟩
theorem xhK (B b n:Nat) (w:World) (hB:B≤b) (hbk:w.heap[b]?=some (.cells #[.pointer none,.slice none 0 0] 254 (0,0))) (hBw:B≤w.heap.size) (hn:n≤281474976710656) :
  Calls Tryz.prog 145 #[.pointer (some ⟨b,0,none⟩),.int .i64 n] w fun e w'=>e=.returned (.tuple #[])∧xb8 w' B b []∧Below B w w' :=
 Any.Builder_Grow_fresh bgL bgLX B b n w hB hbk hBw hn
theorem xbJ (B b:Nat) (l:List UInt8) (s:ByteArray) (w:World) (h:xb8 w B b l) (hlen:l.length+s.size≤140737488355328) (hBw:B≤w.heap.size) :
  Calls Tryz.prog 146 #[.pointer (some ⟨b,0,none⟩),.string s] w fun e w'=>e=.returned (.tuple #[.int .i64 s.size,.nilIface])∧xb8 w' B b (l++s.data.toList)∧Below B w w':=by
 refine(Any.Builder_WriteString bwL bwLX B b (Lib.byteCells l) s w (.inr h) (by rw[Lib.byteCells_length];exact hlen) hBw).mono ?_
 rintro e w' ⟨rfl,h1,h2⟩
 refine⟨rfl,?_,h2⟩
 unfold xb8
 have e:Lib.byteCells (l++s.data.toList)=Lib.byteCells l++Lib.strCells s:=by simp[Lib.byteCells,Lib.strCells]
 rw[e];exact h1
theorem xkn (B b:Nat) (l:List UInt8) (w:World) (h:xb8 w B b l) (hBw:B≤w.heap.size) :
  Calls Tryz.prog 147 #[.pointer (some ⟨b,0,none⟩)] w fun e w'=>e=.returned (.string ⟨l.toArray⟩)∧Below B w w' :=
 Any.Builder_String_any bsL bsLX B b l w (.inr h) hBw
def xhE:List ByteArray→List UInt8
 | []=>[]
 | t :: l=>t.data.toList++xhE l
theorem xul (l:List ByteArray):(⟨(xhE l).toArray⟩:ByteArray)=xbU l:=by
 induction l with
 | nil=>rfl
 | cons t l ih =>
  rw[xbU,← ih,xhE]
  apply ByteArray.ext
  simp
theorem xi8 (a b:List ByteArray):xhE (a++b)=xhE a++xhE b:=by
 induction a with
 | nil=>rfl
 | cons t l ih=>rw[List.cons_append,xhE,xhE,ih,List.append_assoc]
theorem xnA (l:List ByteArray) (k:Nat) (t:ByteArray) (h:l[k]?=some t):xhE (l.take (k+1))=xhE (l.take k)++t.data.toList:=by
 rw[List.take_add_one,h,xi8];simp[xhE]
theorem xqC (l:List ByteArray):(xhE l).length=totF l:=by
 induction l with
 | nil=>rfl
 | cons t l ih=>rw[xhE,totF,List.length_append,ih];simp
set_option maxRecDepth 20000 in
theorem xp3 (v:Value) (l:List ByteArray) (S:Nat→Prop) (w:World) (h:xcq w v l S) :
  Calls Tryz.prog 133 #[v] w fun e w'=>e=.returned (.string (xbU l))∧Below w.heap.size w w':=by
 obtain⟨pb,va,vm,G,rfl,hP,hS⟩:=h
 have htot:=hP.good.tot
 have hfew:=hP.good.few
 obtain⟨al,cap,rfl,hcap,hmx,hc⟩:=hP.all.ktsAt
 rw[xcO] at *
 have HC:=lH (fun k t (h:l[k]?=some t)=>hc k _ (xvf l 0 k t h))
 have hb0:=xa8 w (.cells #[.pointer none,.slice none 0 0] 254)
 have HN:=lH (xcn w (.cells #[.pointer none,.slice none 0 0] 254))
 have HE:=lH (xnI _ pb _ vm G l (hP.below hb0))
 have HP:=lH hP
 have HB0:=lH hb0
 have hw1:IntKind.i64.wrap ((totF l:Nat):Int)=((totF l:Nat):Int):=by rw[IntKind.wrap_i64] <;> omega
 have hpl:=hP.two.lt
 clear hP hS hc hb0
 go_enter Tryz.func133,Tryz.ntmps133
 go_wp2_with fail
 generalize hW:w.alloc (.cells #[.pointer none,.slice none 0 0] 254)=W at *
 have hWs:W.heap.size=w.heap.size+1:=by rw[← hW];simp
 refine HE.out.mono ?_
 rintro e w1 ⟨rfl,hb1⟩
 have HB1:=lH hb1
 have hg1:w1.heap[w.heap.size]?=_:=(hb1.block w.heap.size (by omega)).trans HN.out
 have hbw1:=HB0.out.trans (hb1.mono HB0.out.size)
 have HG:=lH (xhK w.heap.size w.heap.size (totF l) w1 (Nat.le_refl _) hg1 hbw1.size (by omega))
 have HBW1:=lH hbw1
 clear hb1 hg1 hbw1 HE
 go_wp2_with fail
 refine HG.out.mono ?_
 rintro e w2 ⟨rfl,hbt,hb2⟩
 have hbw2:=HBW1.out.trans hb2
 have HBT:=lH hbt
 have HBW2:=lH hbw2
 obtain⟨c0,c1,c2,c3⟩:=HP.out.two.lower hbw2 hpl
 clear hb2 hbt hbw2 HG HBW1
 go_wp2_with fail
 go_loopw [17] (fun x wr=>∃ i:Nat,i≤l.length∧x=.int .i64 i∧Hid (xb8 wr w.heap.size w.heap.size (xhE (l.take i)))∧Below w.heap.size w wr) (fun x _=>l.length - (intOf x).toNat)
 case atStart=>exact⟨0,Nat.zero_le _,rfl,HBT,HBW2.out⟩
 case round =>
  obtain⟨i,hi,rfl,HT,hbw⟩:=hrel
  by_cases hlt:i<l.length
  ·obtain⟨t,ht⟩:∃ t,l[i]?=some t:=⟨_,List.getElem?_eq_getElem hlt⟩
   obtain⟨g,off,rfl,hg,l0,l1,l2⟩:=HC.out i t ht
   replace l0:=(hbw.cell (p:=⟨g,off+i*3,none⟩) hg).trans l0
   replace l1:=(hbw.cell (p:=⟨g,off+i*3+1,none⟩) hg).trans l1
   replace l2:=(hbw.cell (p:=⟨g,off+i*3+2,none⟩) hg).trans l2
   have hi2:(i:Int)<(l.length:Int):=by omega
   have hsum:(xhE (l.take i)).length+t.size≤140737488355328:=by
    rw[xqC]
    have h1:=xnS l i
    have h2:=xtA l t (List.mem_of_getElem? ht)
    omega
   have HST:=lH (xnA l i t ht)
   have HBW:=lH hbw
   have HWR:=lH (fun X (hX:xb8 X w.heap.size w.heap.size (xhE (l.take i))) (hs:w.heap.size≤X.heap.size)=>xbJ w.heap.size w.heap.size _ t X hX hsum hs)
   clear ht hsum hbw
   go_wp2_with fail
   refine(HWR.out _ (HT.out.alloc _) (by have:=HBW.out.size;simp;omega)).mono ?_
   rintro e w3 ⟨rfl,hb3,hbel⟩
   have hfin:Below w.heap.size w w3:=(HBW.out.alloc HBW.out.size _).trans hbel
   have H3:=lH hb3
   clear hb3 hbel l0 l1 l2
   go_wp2_with fail
   go_roundw
   case rel=>exact⟨i+1,by omega,by go_num,lH (by rw[HST.out];exact H3.out),hfin⟩
   case measure=>simp[intOf];omega
  ·obtain rfl:i=l.length:=by omega
   rw[List.take_length] at HT
   have HBW:=lH hbw
   have HS:=lH (xkn w.heap.size w.heap.size (xhE l) wr HT.out hbw.size)
   clear hbw
   go_wp2_with fail
   refine HS.out.mono ?_
   rintro e w3 ⟨rfl,hb3⟩
   have hfin:=HBW.out.trans hb3
   rw[xul]
   clear hb3 HS
   go_wp2_with fail
   go_ret
   exact⟨rfl,hfin⟩
end Go.Proofs.YtjinnigjfopbcaaGreatDoor
namespace Go.Proofs.YtjinnigjfopbcaaGreatDoor
set_option linter.unusedVariables false
set_option linter.unusedSimpArgs false
set_option maxRecDepth 20000
theorem xnR (e:En) (d:ByteArray) (hm:xaO e) (hc:ckN e=0) (id:Nat):xlf e (id:Int)=true↔∃ t ∈ xeX e d,t.1=id:=by
 rw[xsx]
 unfold xaO at hm
 constructor
 ·rintro⟨_,h1,h2,h3⟩
  rw[xlb hc (by omega)] at h3
  exact⟨_,(xdD e d _).2 ⟨id - e.id.toNat,by omega,rfl⟩,by show e.id.toNat+(id - e.id.toNat)=id;omega⟩
 ·rintro⟨t,ht,rfl⟩
  obtain⟨k,hk,rfl⟩:=(xdD e d t).1 ht
  rw[xlb hc (by omega)]
  refine⟨hc,by omega,?_,?_⟩
  ·show e.id≤((e.id.toNat+k:Nat):Int);omega
  ·show ((e.id.toNat+k:Nat):Int)≤_;omega
theorem xrE {l:List En} {d:ByteArray} (hm:∀ e ∈ l,xaO e) (hr:xb9 (-1) l=0) (ht:∀ e ∈ l,TellE e d) (hs:(l.map (·.rn)).sum≤2048):GoodC (xd7 l d):=by
 have hc:∀ e ∈ l,ckN e=0:=fun e he=>(xcZ (-1) l hm hr e he).2
 have hlen:=xnp l d (fun e he=>(hm e he).2.2.2.1)
 have hmem:∀ t ∈ xd7 l d,∃ e ∈ l,∃ k,k<e.rn.toNat∧t=(e.id.toNat+k,txN e d):=fun t h=>by
  obtain⟨e,he,hte⟩:=List.mem_flatMap.1 h
  exact⟨e,he,(xdD e d t).1 hte⟩
 have hsz:∀ e ∈ l,(txN e d).size=e.ln.toNat:=fun e he=>by
  have h1:=ht e he
  have h2:=hm e he
  unfold xaO at h2
  have h3:=h1.inn
  unfold txN
  rw[ByteArray.size_extract]
  omega
 refine⟨?_,fun t h=>?_,fun t h=>?_,fun t h=>?_,by omega⟩
 ·have key:∀ (l:List En) (p:Int),(∀ e ∈ l,xaO e)→xb9 p l=0→xeu (xd7 l d)∧∀ t ∈ xd7 l d,p<(t.1:Int):=by
   intro l
   induction l with
   | nil=>intro p _ _;exact⟨List.Pairwise.nil,by simp[xd7]⟩
   | cons e l ih =>
    intro p hm hr
    obtain⟨g1,g2,g3⟩:=xby p e l hr
    obtain⟨i1,i2⟩:=ih (laN e) (fun x hx=>hm x (by simp[hx])) g3
    have hme:=hm e (by simp)
    have hla:=xi5 e hme g1
    unfold xaO at hme
    have hup:∀ t ∈ xeX e d,e.id≤(t.1:Int)∧(t.1:Int)≤laN e:=fun t h=>by
     obtain⟨k,hk,rfl⟩:=(xdD e d t).1 h
     rw[xlb g1 (by omega)]
     refine⟨?_,?_⟩
     ·show e.id≤((e.id.toNat+k:Nat):Int);omega
     ·show ((e.id.toNat+k:Nat):Int)≤_;omega
    have e0:xd7 (e :: l) d=xeX e d++xd7 l d:=by simp[xd7]
    rw[e0]
    refine⟨?_,fun t h=>?_⟩
    ·unfold xeu at i1 ⊢
     rw[List.pairwise_append]
     refine⟨?_,i1,fun a ha b hb=>?_⟩
     ·unfold xeX
      rw[List.pairwise_map]
      refine List.Pairwise.imp (fun {a b} h=>?_) List.pairwise_lt_range
      show e.id.toNat+a<e.id.toNat+b
      omega
     ·have:=hup a ha
      have:=i2 b hb
      omega
    ·rcases List.mem_append.1 h with h|h
     ·have:=hup t h;omega
     ·have:=i2 t h;omega
  exact(key l (-1) hm hr).1
 ·obtain⟨e,he,k,hk,rfl⟩:=hmem t h
  have h1:=xgr e (hc e he)
  have h2:=hm e he
  unfold xaO at h2
  have h3:=(ht e he).run
  unfold wdN at h1
  rw[if_neg h3] at h1
  show e.id.toNat+k<_
  omega
 ·obtain⟨e,he,k,hk,rfl⟩:=hmem t h
  have h1:=(xgr e (hc e he)).1
  have h2:=hm e he
  unfold xaO at h2
  show 0<(txN e d).size
  rw[hsz e he]
  omega
 ·obtain⟨e,he,k,hk,rfl⟩:=hmem t h
  have h2:=(ht e he).short
  show (txN e d).size≤_
  rw[hsz e he]
  omega
end Go.Proofs.YtjinnigjfopbcaaGreatDoor
namespace Go.Proofs.YtjinnigjfopbcaaGreatDoor
set_option linter.unusedVariables false
set_option linter.unusedSimpArgs false
open Go.RowKit
set_option maxRecDepth 20000
theorem xlL (l:List En) (i:Nat) (e:En) (d:ByteArray) (acc:List It) (m:Int) (h:l[i]?=some e):xcE (l.drop i) d acc m=if e.rn=0 then ([],14) else if (d.size:Int)<e.off+e.ln then ([],8) else if 2048<m+e.rn then ([],21) else if 65536<e.ln then ([],5) else xcE (l.drop (i+1)) d (acc++xeX e d) (m+e.rn):=by
 rw[xc6 l i e h,xcE]
theorem xvn (e:En) (d:ByteArray) (j:Nat) (h:(j:Int)<e.rn):(xeX e d)[j]?=some (e.id.toNat+j,txN e d):=by
 unfold xeX
 rw[List.getElem?_map,List.getElem?_range (by omega)]
 rfl
theorem xuj (w:World) (z:Int) (n:Nat) (hz:z=n) (s:ByteArray) (T:TypeId):ItsAt (w.alloc (.cells #[.int .u64 z,.string s] T)) (.slice (some ⟨w.heap.size,0,none⟩) 1 1) [(n,s)]:=by
 subst hz
 exact xik w n s T
theorem xtL {w:World} {B g:Nat} {E T:TypeId} {v:Value} {l:List It} {cs:Array Value} {m:Nat × Nat} (h:xaL w B E v l) (ho:w.heap[g]?=some (.cells cs T m)) (hT:T≠E):v.ownBlock≠some g:=by
 intro e
 rcases h.2 with ⟨rfl,_⟩|⟨g',cap,cur,rfl,_,h2,_⟩
 ·cases e
 ·cases e
  rw[ho] at h2
  cases h2
  exact hT rfl
def xlH (w:World) (g:Nat) (e:En):Prop:=w.heap[g]?=some (.cells (eC e) 74 (0,0))
theorem xlH.lt {w:World} {g:Nat} {e:En} (h:xlH w g e):g<w.heap.size:=(Array.getElem?_eq_some_iff.1 h).1
theorem xlH.at {w:World} {g:Nat} {e:En} (h:xlH w g e):EAt w g e:=by
 unfold xlH eC at h
 refine⟨?_,?_,?_,?_⟩ <;> simp[World.cell?,h]
theorem xlH.below {w w':World} {g:Nat} {e:En} (h:xlH w g e) (hb:Below w.heap.size w w'):xlH w' g e:=(hb.block g h.lt).trans h
theorem xlH.grown {w w':World} {B g:Nat} {v:Value} {l:List It} {e:En} (h:xlH w g e) (ho:xaL w B 67 v l) (hg:w.grownBy w' v.ownBlock):xlH w' g e :=
 (hg.block g h.lt (fun e'=>xtL ho h (by decide) e'.symm)).trans h
theorem xnP (l:List En) (i:Nat) (e:En) (d:ByteArray) (acc:List It) (h:l[i]?=some e):xcE (l.drop i) d acc (acc.length:Nat)=if xo4 e acc.length d.size=0 then xcE (l.drop (i+1)) d (acc++xeX e d) ((acc.length:Nat)+e.rn) else ([],xo4 e acc.length d.size):=by
 rw[xlL l i e d acc _ h]
 unfold xo4
 by_cases h1:e.rn=0
 ·rw[if_pos h1,if_pos h1];rfl
 rw[if_neg h1,if_neg h1]
 by_cases h2:(d.size:Int)<e.off+e.ln
 ·rw[if_pos h2,if_pos h2];rfl
 rw[if_neg h2,if_neg h2]
 by_cases h3:2048<((acc.length:Nat):Int)+e.rn
 ·rw[if_pos h3,if_pos h3];rfl
 rw[if_neg h3,if_neg h3]
 by_cases h4:65536<e.ln
 ·rw[if_pos h4,if_pos h4];rfl
 rw[if_neg h4,if_neg h4,if_pos rfl]
theorem xvY {e:En} {n d:Nat} (h:xo4 e n d=0):e.rn≠0∧e.off+e.ln≤d∧(n:Int)+e.rn≤2048∧e.ln≤65536:=by
 unfold xo4 at h
 by_cases h1:e.rn=0
 ·rw[if_pos h1] at h;omega
 rw[if_neg h1] at h
 by_cases h2:(d:Int)<e.off+e.ln
 ·rw[if_pos h2] at h;omega
 rw[if_neg h2] at h
 by_cases h3:2048<(n:Int)+e.rn
 ·rw[if_pos h3] at h;omega
 rw[if_neg h3] at h
 by_cases h4:65536<e.ln
 ·rw[if_pos h4] at h;omega
 exact⟨h1,by omega,by omega,by omega⟩
theorem xnk {l:List En} {d:ByteArray} {C:List It} (hm:xay l) (hr:xaC l=0) (h:xeO l d=(C,0)):GoodC C:=by
 have hb:xcE l d [] 0=(C,0):=by unfold xeO at h;rwa[if_neg (by simpa using hr)] at h
 obtain⟨h1,h2,h3⟩:=xhT l d [] 0 C hb
 rw[List.nil_append] at h2
 have hrow:xb9 (-1) l=0:=by
  unfold xaC at hr
  split at hr
  ·omega
  ·exact hr
 rw[h2]
 refine xrE hm hrow h1 ?_
 rcases h3 with rfl|h3
 ·simp
 ·omega
theorem xsf {C:List It} (h:GoodC C):ofI C=(C,0):=xum C C h (List.Perm.refl _)
theorem xlZ (v:Value) (l:List En) (d:ByteArray) (w:World) (hv:xak w v l) (hm:xay l) (hd:d.size≤200000000) :
  Calls Tryz.prog 57 #[v,.string d] w fun e w'=>∃ s',e=.returned (.tuple #[.agg #[s'],.int .i64 (xeO l d).2])∧ChS w' s' (xeO l d).1∧Below w.heap.size w w':=by
 have hba:=xae w (.cells #[.slice none 0 0] 36)
 have HV:=lH (hv.below hba)
 have HRO:=lH (xcm v l _ (hv.below hba) hm)
 have HON:=lH (xaP w (.slice none 0 0) 36)
 have HBA:=lH hba
 have HM:=lH hm
 obtain⟨a0,c0,rfl,hcap,hmx,-⟩:=hv
 have hml:l.length≤9223372036854775807:=by unfold maxLen at hmx;omega
 obtain⟨R,hR⟩:∃ R,xeO l d=R:=⟨_,rfl⟩
 have HRE:=lH hR
 rw[hR]
 obtain⟨q,hq⟩:∃ q,xaC l=q:=⟨_,rfl⟩
 rw[hq] at HRO
 clear hm hba
 by_cases h0:q=0
 ·have e0:(q != 0)=false:=by simpa using h0
  have HB0:Hid (R=xcE (l.drop 0) d [] 0):=lH (by rw[← hR];unfold xeO;rw[hq,if_neg (by simpa using h0),List.drop_zero])
  have HQ:=lH (hq.trans h0)
  have HCK:Hid (∀ e ∈ l,ckN e=0):=lH (fun e he=>by
   have hrow:=hq.trans h0
   unfold xaC at hrow
   split at hrow
   ·omega
   ·exact(xcZ (-1) l HM.out hrow e he).2)
  clear h0 hq hR
  go_enter Tryz.func57,Tryz.ntmps57
  go_wp2_with fail
  generalize hW0:w.alloc (.cells #[.slice none 0 0] 36)=W0 at *
  refine HRO.out.mono ?_
  rintro x w1 ⟨rfl,hb1⟩
  have HB1:=lH (HBA.out.trans (hb1.mono HBA.out.size))
  have HV1:=lH (HV.out.below hb1)
  have HO1:=lH (HON.out.below hb1)
  clear hb1 hW0 HV HON HBA HRO
  go_wp2_with fail
  go_loopw [7,21] (fun o x wr=>∃ (i:Nat) (acc:List It),i≤l.length∧x=.int .i64 i∧acc.length≤2048∧Hid (xaL wr w1.heap.size 67 o acc)∧Hid (R=xcE (l.drop i) d acc acc.length)∧Hid (One wr w.heap.size (.slice none 0 0))∧Hid (Below w.heap.size w wr∧Below w1.heap.size w1 wr)) (fun _ x _=>l.length - (intOf x).toNat)
  case atStart=>exact⟨0,[],Nat.zero_le _,rfl,by simp,lH (xcQ _ _ _),HB0,HO1,lH ⟨HB1.out,Below.refl _ _⟩⟩
  case round =>
   obtain⟨i,acc,hi,rfl,hal,HO,HR,HC1,HBW⟩:=hrel
   by_cases hlt:i<l.length
   ·obtain⟨e,he⟩:∃ e,l[i]?=some e:=⟨_,List.getElem?_eq_getElem hlt⟩
    have hme:=HM.out e (List.mem_of_getElem? he)
    have hck:=xgr e (HCK.out e (List.mem_of_getElem? he))
    have hme2:=hme
    unfold xaO at hme2
    have HR2:=lH (HR.out.trans (xnP l i e d acc he))
    obtain⟨g,off,cap,hv2,hle,hg,hc⟩:=xfX HV1.out i hlt
    cases hv2
    obtain⟨k0,k1,k2,k3⟩:=xdI HBW.out.2 (hc i e he)
    obtain⟨a7,c7,rfl⟩:=HO.out.slice
    have hii:(i:Int)<(l.length:Int):=by omega
    have HEB:Hid (xlH (wr.alloc (.cells (eC e) 74)) wr.heap.size e):=lH (xcn wr _)
    have HBX:=lH (xae wr (.cells (eC e) 74))
    have HCH:=lH (fun W=>xlJ e acc.length d W hme (by omega) (by omega) (by omega))
    unfold eC at HBX HCH HEB
    have HM2:=lH (And.intro hme2 hck)
    clear hc he hme hme2 hck HR
    by_cases hz:xo4 e acc.length d.size=0
    ·have HOK:=lH (xvY hz)
     have HR3:=lH (HR2.out.trans (if_pos hz))
     rw[hz] at HCH
     clear hz HR2
     go_wp2_with fail
     generalize hWx:wr.alloc (.cells #[.int .u64 e.id,.int .u64 e.off,.int .u32 e.ln,.int .u32 e.rn] 74)=Wx at *
     refine(HCH.out _).mono ?_
     rintro x w2 ⟨rfl,hb2⟩
     have HEB2:=lH (HEB.out.below hb2)
     have hbx2:=HBX.out.trans (hb2.mono HBX.out.size)
     have HO2:=lH (HO.out.below hbx2)
     have HC2:=lH (HC1.out.below hbx2)
     have HBW2:=lH (And.intro (HBW.out.1.trans (hbx2.mono HBW.out.1.size)) (HBW.out.2.trans (hbx2.mono HBW.out.2.size)))
     obtain⟨e0,e1,e2,e3⟩:=HEB2.out.at
     obtain⟨o1,o2,o3,o4⟩:=HOK.out
     have hw1:IntKind.u64.wrap e.rn=e.rn:=by have:=HM2.out.1;rw[IntKind.wrap_u64];omega
     have hw3:IntKind.u64.wrap e.ln=e.ln:=by have:=HM2.out.1;rw[IntKind.wrap_u64];omega
     have hw4:IntKind.u64.wrap (e.off+e.ln)=e.off+e.ln:=by have:=HM2.out.1;rw[IntKind.wrap_u64];omega
     have hs1:(0:Int)≤e.off:=HM2.out.1.2.1.1
     have hs2:e.off≤e.off+e.ln:=by have:=HM2.out.1;omega
     have hs3:e.off+e.ln≤(d.size:Int):=o2
     have HRN:=lH o3
     clear hb2 hbx2 hWx HEB HBX HO HC1 HBW HCH k0 k1 k2 k3 o1 o3 o4 o2
     go_wp2_with fail
     have HTX:Hid (d.extract e.off.toNat (e.off+e.ln).toNat=txN e d):=lH (by have:=HM2.out.1;unfold txN;rw[show (e.off+e.ln).toNat=e.off.toNat+e.ln.toNat by omega])
     rw[HTX.out]
     have HRL:=lH (xeS e d)
     have HRT:=lH (xvn e d)
     clear e0 e1 e2 e3 hs1 hs2 hs3
     generalize txN e d=tx at *
     generalize xeX e d=rl at *
     go_loopw [7,47] (fun o x wy=>∃ j:Nat,(j:Int)≤e.rn∧x=.int .u64 j∧Hid (xaL wy w1.heap.size 67 o (acc++rl.take j))∧Hid (xlH wy wr.heap.size e)∧Hid (One wy w.heap.size (.slice none 0 0))∧Hid (Below w.heap.size w wy∧Below w1.heap.size w1 wy)) (fun _ x _=>e.rn.toNat - (intOf x).toNat)
     case atStart=>exact⟨0,by have:=HM2.out.1;omega,rfl,lH (by rw[List.take_zero,List.append_nil];exact HO2.out),HEB2,HC2,HBW2⟩
     case round =>
      obtain⟨j,hj,rfl,HOJ,HEJ,HCJ,HBJ⟩:=hrel
      obtain⟨k0,k1,k2,k3⟩:=HEJ.out.at
      by_cases hjl:(j:Int)<e.rn
      ·have htake:=xbY rl j _ (HRT.out j hjl)
       have hid:e.id+(j:Int)=((e.id.toNat+j:Nat):Int):=by have:=HM2.out.1;omega
       have hw6:IntKind.u64.wrap (e.id+(j:Int))=e.id+(j:Int):=by have:=HM2.out;rw[IntKind.wrap_u64];omega
       have hw7:IntKind.u64.wrap ((j:Int)+1)=(j:Int)+1:=by have:=HM2.out.1;rw[IntKind.wrap_u64];omega
       have hx:=xuj wr (e.id+(j:Int)) _ hid tx 67
       have hba:Below wr.heap.size wr (wr.alloc (.cells #[.int .u64 (e.id+(j:Int)),.string tx] 67)):=xae _ _
       obtain⟨v5,w5,hr5,ho5,hg5⟩:=xap (wr.alloc (.cells #[.int .u64 (e.id+(j:Int)),.string tx] 67)) w1.heap.size 34 67 34 _ Tryz.underlying34 xcX rfl u7 (.slice (some ⟨wr.heap.size,0,none⟩) 1 1) (acc++rl.take j) [(e.id.toNat+j,tx)] (HOJ.out.below hba) hx (by have:=HRN.out;rw[List.length_append,List.length_take];simp;omega) (Nat.le_trans HBJ.out.2.size hba.size)
       rw[List.append_assoc,← htake] at ho5
       have HO5:=lH ho5
       have hb5:Below w1.heap.size w1 w5:=(HBJ.out.2.trans (hba.mono HBJ.out.2.size)).grown hg5 (Nat.le_trans HBJ.out.2.size hba.size) (fun q hq=>(HOJ.out.lt q hq).1)
       have HB5:Hid (Below w.heap.size w w5∧Below w1.heap.size w1 w5):=lH ⟨HB1.out.trans (hb5.mono HB1.out.size),hb5⟩
       have HE5:=lH ((HEJ.out.below hba).grown (HOJ.out.below hba) hg5)
       have HC5:=lH ((HCJ.out.below hba).grown (HOJ.out.below hba) hg5)
       clear ho5 hg5 hx hba hid htake hb5
       go_wp2_with (first|(at_builtin;refine Lib.wpList_append_run _ rfl _ _ _ _ rfl _ _ rfl rfl _ _ hr5 ?_)|fail)
       go_roundw
       case rel=>exact⟨j+1,by omega,by go_num,HO5,HE5,HC5,HB5⟩
       case measure=>simp[intOf];omega
      ·have hje:(j:Int)=e.rn:=by omega
       have hjn:j=e.rn.toNat:=by omega
       have hfull:rl.take j=rl:=List.take_of_length_le (by rw[HRL.out];omega)
       have HOF:=HOJ.out
       rw[hfull] at HOF
       have HOF:=lH HOF
       have hall:(acc++rl).length=acc.length+e.rn.toNat:=by rw[List.length_append,HRL.out]
       have HRR:Hid (R=xcE (l.drop (i+1)) d (acc++rl) (((acc++rl).length:Nat):Int)):=lH (by rw[hall,show ((acc.length+e.rn.toNat:Nat):Int)=((acc.length:Nat):Int)+e.rn by omega];exact HR3.out)
       have HAL:Hid ((acc++rl).length≤2048):=lH (by have:=HRN.out;rw[hall];omega)
       clear hfull hje hjn hall
       go_wp2_with fail
       go_roundw
       case rel=>exact⟨i+1,acc++rl,by omega,by go_num,HAL.out,HOF,HRR,HCJ,HBJ⟩
       case measure=>simp[intOf];omega
    ·have HR3:=lH (HR2.out.trans (if_neg hz))
     obtain⟨z,hzz⟩:∃ z,xo4 e acc.length d.size=z:=⟨_,rfl⟩
     rw[hzz] at hz HR3 HCH
     have hzn:(z != 0)=true:=by simpa using hz
     clear hz HR2 hzz
     go_wp2_with fail
     generalize hWx:wr.alloc (.cells #[.int .u64 e.id,.int .u64 e.off,.int .u32 e.ln,.int .u32 e.rn] 74)=Wx at *
     refine(HCH.out _).mono ?_
     rintro x w2 ⟨rfl,hb2⟩
     have hbx2:=HBX.out.trans (hb2.mono HBX.out.size)
     have HC2:=lH (HC1.out.below hbx2)
     have HBW2:=lH (HBW.out.1.trans (hbx2.mono HBW.out.1.size))
     have rr:=HC2.out.cell
     have rf:=HC2.out.frz
     clear hb2 hbx2 hWx HEB HBX HO HC1 HBW HCH k0 k1 k2 k3
     go_wp2_with fail
     refine bodyPost_ret (xaR rfl _ _ w.heap.size _ _ _ rfl rfl (HC2.out.set _).cell Tryz.underlying36 rfl xaQ) rfl ⟨_,by rw[HR3.out];rfl,?_,HBW2.out.setCell (p:=⟨w.heap.size,0,none⟩) (Nat.le_refl _) _⟩
     rw[HR3.out]
     exact xfo _
   ·obtain rfl:i=l.length:=by omega
    have HRR:=HR.out
    rw[List.drop_length,xcE] at HRR
    have HG:=xnk HM.out HQ.out (HRE.out.trans HRR)
    have hof:=xsf HG
    have HRR:=lH HRR
    have hOF:=xoP u7 acc wr HO.out.itsAt (by omega) (fun t ht=>by have:=HG.low t ht;omega) (fun t ht=>by have:=HG.short t ht;unfold maxLen;omega)
    rw[hof] at hOF
    have HOF:=lH hOF
    obtain⟨a7,c7,rfl⟩:=HO.out.slice
    clear hOF hof HG
    go_wp2_with fail
    refine HOF.out.mono ?_
    rintro x w3 ⟨s',rfl,hch,hb3⟩
    obtain⟨a9,n9,c9,rfl⟩:=hch.form
    have HC3:=lH (HC1.out.below hb3)
    have HCH3:=lH hch
    have HB3:=lH (HBW.out.1.trans (hb3.mono HBW.out.1.size))
    have rr:=HC3.out.cell
    have rf:=HC3.out.frz
    clear hch hb3 HC1 HBW HOF
    go_wp2_with fail
    refine bodyPost_ret (xaR rfl _ _ w.heap.size _ _ _ rfl rfl (HC3.out.set _).cell Tryz.underlying36 rfl xaQ) rfl ⟨_,by rw[HRR.out];rfl,?_,HB3.out.setCell (p:=⟨w.heap.size,0,none⟩) (Nat.le_refl _) _⟩
    rw[HRR.out]
    exact HCH3.out.set HC3.out _
 ·have e0:(q != 0)=true:=by simpa using h0
  have HRR:Hid (R=([],q)):=lH (by rw[← hR];unfold xeO;rw[hq,if_pos h0])
  clear h0 hq hR
  go_enter Tryz.func57,Tryz.ntmps57
  go_wp2_with fail
  generalize hW0:w.alloc (.cells #[.slice none 0 0] 36)=W0 at *
  refine HRO.out.mono ?_
  rintro x w1 ⟨rfl,hb1⟩
  have HB1:=lH (HBA.out.trans (hb1.mono HBA.out.size))
  have HO1:=lH (HON.out.below hb1)
  have rr:=HO1.out.cell
  have rf:=HO1.out.frz
  clear hb1 hW0 HV HON HBA HRO
  go_wp2_with fail
  refine bodyPost_ret (xaR rfl _ _ w.heap.size _ _ _ rfl rfl (HO1.out.set _).cell Tryz.underlying36 rfl xaQ) rfl ⟨_,by rw[HRR.out];rfl,?_,HB1.out.setCell (p:=⟨w.heap.size,0,none⟩) (Nat.le_refl _) _⟩
  rw[HRR.out]
  exact xfo _
theorem xjU (k:Nat):bas (k+1)=bas k+p4 k:=rfl
def xig (d:Int):Int:=zof 27 d
theorem xgB (d:Int) (h0:0≤d) (h1:d<6004799503160661):∃ k:Nat,k≤26∧bas k≤d∧d<bas k+p4 k∧xig d=k:=by
 obtain⟨k,a,b,c,e⟩:=xu3 27 d h0 (by rw[xoR];exact h1)
 exact⟨k,by omega,b,by rw[← xjU];exact c,e⟩
theorem xtX (d:Int) (h:¬ d<6004799503160661):xig d=-1:=xuQ 27 d (by rw[xoR];omega)
theorem xw0 (k:Nat):((2 ^ (2*k):Nat):Int)=p4 k:=by
 induction k with
 | zero=>rfl
 | succ k ih=>rw[show 2*(k+1)=2*k+2 from by omega,Nat.pow_add,p4,← ih];omega
theorem xpo (X:Int) (n k:Nat) (h:Len n X) (h0:p4 k≤X) (h1:X<4*p4 k):n=2*k+1∨n=2*k+2:=by
 obtain⟨h64,h⟩:=h
 have hp:=xoK k
 have e:=xw0 k
 have e2:=xw0 (k+1)
 rw[p4] at e2
 rcases h with ⟨rfl,h⟩|⟨hn,ha,hb⟩
 ·omega
 have g1:2*k<n:=by
  rcases Nat.lt_or_ge (2*k) n with hc|hc
  ·exact hc
  ·have:=Nat.pow_le_pow_right (by omega:0<2) hc
   omega
 have g2:n - 1<2*(k+1):=by
  rcases Nat.lt_or_ge (n - 1) (2*(k+1)) with hc|hc
  ·exact hc
  ·have:=Nat.pow_le_pow_right (by omega:0<2) hc
   omega
 omega
theorem xjV (d:Int) (d0:0≤d) (w:World):Calls Tryz.prog 226 #[.int .u64 d] w fun e w'=>e=.returned (.int .i64 (xig d))∧w=w':=by
 by_cases h:d<6004799503160661
 ·obtain⟨k,hk,a,b,e⟩:=xgB d d0 h
  rw[e]
  have h3:=xnU k
  have hl:=fun n hn=>xpo (3*d+1) n k hn (by omega) (by omega)
  have HL:=lH hl
  clear hl h3 a b e
  go_enter Tryz.func226,Tryz.ntmps226
  go_wp2_with fail
  refine(xil _ _ (by omega) (by omega)).mono ?_
  rintro e w' ⟨⟨n,rfl,hn⟩,rfl⟩
  have hs:=HL.out n hn
  clear hn HL
  go_wp2
  go_ret
  refine⟨?_,rfl⟩
  have:n=2*k+1∨n=2*k+2:=hs
  rcases this with rfl|rfl
  ·show Ending.returned (.int .i64 _)=.returned (.int .i64 _)
   congr 2
   omega
  ·show Ending.returned (.int .i64 _)=.returned (.int .i64 _)
   congr 2
   omega
 ·rw[xtX d h]
  go_enter Tryz.func226,Tryz.ntmps226
  go_wp2_with fail
  go_ret
  exact⟨rfl,rfl⟩
def zlo:List It→Int
 | []=>0
 | t :: _=>xig (t.1:Int)
def zhi (l:List It):Int:=match l.getLast? with|none=>0|some t=>xig (t.1:Int)
end Go.Proofs.YtjinnigjfopbcaaGreatDoor
namespace Go.Proofs.YtjinnigjfopbcaaGreatDoor
set_option linter.unusedVariables false
set_option linter.unusedSimpArgs false
open Go.Maps
set_option maxRecDepth 20000
theorem xv5 {L:List It} (hg:GoodC L) (k:Nat) (hk:k≤L.length):totF (xad (L.take k)).2≤134217728:=(xcW hg k hk).good.tot
end Go.Proofs.YtjinnigjfopbcaaGreatDoor
namespace Go.Proofs.YtjinnigjfopbcaaGreatDoor
set_option linter.unusedVariables false
set_option linter.unusedSimpArgs false
open Go.RowKit
set_option maxRecDepth 20000
def xlk:List It→List It→List It
 | acc,[]=>acc
 | acc,t :: r=>xlk (xcG acc t.1 t.2) r
def xr7 (l:List It):List It:=xlk [] l
theorem xnT (l acc:List It) (k:Nat) (t:It) (h:l[k]?=some t):xlk acc (l.drop k)=xlk (xcG acc t.1 t.2) (l.drop (k+1)):=by
 rw[xc6 l k t h,xlk]
set_option maxRecDepth 20000 in
theorem xsm (v:Value) (l:List It) (w:World) (hv:ItsAt w v l) (hl:l.length≤10000) (hid:∀ t ∈ l,t.1<18446744073709551616) (hsz:∀ t ∈ l,t.2.size≤maxLen) :
  Calls Tryz.prog 27 #[v] w fun e w'=>∃ s d,e=.returned (.tuple #[.agg #[s],d])∧ChS w' s (xr7 l)∧ItsAt w' d (xr7 l)∧Below w.heap.size w w':=by
 obtain⟨al,cap,rfl,hcap,hmx,hc⟩:=hv
 have HC:=lH hc
 have hmx':l.length≤maxLen:=by omega
 unfold maxLen at hmx'
 clear hc
 have b1:=xae w (.cells #[.slice none 0 0] 36)
 have b2:=xae (w.alloc (.cells #[.slice none 0 0] 36)) (.cells #[.slice none 0 0] 36)
 have o1:=(xaP w (.slice none 0 0) 36).below b2
 have o2:=xaP (w.alloc (.cells #[.slice none 0 0] 36)) (.slice none 0 0) 36
 have hz:(w.alloc (.cells #[.slice none 0 0] 36)).heap.size=w.heap.size+1:=by simp
 rw[hz] at o2
 have HST:=lH (And.intro o1 (And.intro o2 (b1.trans (b2.mono (by omega)))))
 clear b1 b2 o1 o2 hz
 go_enter Tryz.func27,Tryz.ntmps27
 go_wp2_with fail
 go_loopw [5,6] (fun d i wr=>∃ (k:Nat) (acc:List It) (s:Value),k≤l.length∧i=.int .i64 k∧One wr (w.heap.size+1) s∧One wr w.heap.size (.slice none 0 0)∧ChS wr s acc∧ItsAt wr d acc∧xr7 l=xlk acc (l.drop k)∧Below w.heap.size w wr) (fun _ i _=>l.length - (intOf i).toNat)
 case atStart=>exact⟨0,[],_,Nat.zero_le _,rfl,HST.out.2.1,HST.out.1,xfo _,xdp _,rfl,HST.out.2.2⟩
 case round =>
  obtain⟨k,acc,s,hk,rfl,hone,hres,hch,hd,how,hbw⟩:=hrel
  by_cases hlt:k<l.length
  ·obtain⟨⟨x,t⟩,htk⟩:∃ t,l[k]?=some t:=⟨_,List.getElem?_eq_getElem hlt⟩
   obtain⟨g,off,rfl,hg,c0,c1⟩:=HC.out k _ htk
   have hx:=hid _ (List.mem_of_getElem? htk)
   have ht:=hsz _ (List.mem_of_getElem? htk)
   simp only at hx ht
   rw[xnT l acc k _ htk] at how
   have hki:(k:Int)<(l.length:Int):=by omega
   have HOW:=lH how
   have d0:=(hbw.cell (p:=⟨g,off+k*2,none⟩) hg).trans c0
   have d1:=(hbw.cell (p:=⟨g,off+k*2+1,none⟩) hg).trans c1
   have HPU:=lH (fun X (hX:Below wr.heap.size wr X)=>xtm s acc x t X (hch.below hX) hx ht)
   have HALL:=lH (And.intro hone (And.intro hres (And.intro hch (And.intro hd hbw))))
   have e0:=hone.cell
   have e1:=hone.frz
   have hlen:=hch.good.few
   have hgr:=Nat.lt_of_lt_of_le hg hbw.size
   have dA:∀ O,(wr.alloc O).cell? ⟨g,off+k*2,none⟩=_:=fun O=>((xae wr O).cell (p:=⟨g,off+k*2,none⟩) hgr).trans d0
   have dB:∀ O,(wr.alloc O).cell? ⟨g,off+k*2+1,none⟩=_:=fun O=>((xae wr O).cell (p:=⟨g,off+k*2+1,none⟩) hgr).trans d1
   have HKP:Hid (∀ X,Below wr.heap.size wr X→X.cell? ⟨w.heap.size+1,0,none⟩=some s∧X.cell? ⟨g,off+k*2,none⟩=some (.int .u64 x)∧X.cell? ⟨g,off+k*2+1,none⟩=some (.string t)∧Below wr.heap.size wr X):=lH (fun X hX=>⟨(hX.cell (p:=⟨w.heap.size+1,0,none⟩) hone.lt).trans hone.cell,(hX.cell (p:=⟨g,off+k*2,none⟩) hgr).trans d0,(hX.cell (p:=⟨g,off+k*2+1,none⟩) hgr).trans d1,hX⟩)
   have dC:∀ O,(wr.alloc O).cell? ⟨w.heap.size+1,0,none⟩=_:=fun O=>(hone.alloc O).cell
   clear how hres hch hd hbw c0 c1
   go_upto_region 6 with fail
   go_cut [7,8] (fun p e wx=>∃ g7 s',p=.pointer (some ⟨g7,0,none⟩)∧e=.int .i64 (putE acc x t:Nat)∧One wx g7 s'∧wr.heap.size≤g7∧ChS wx s' (xcG acc x t)∧Below wr.heap.size wr wx)
   case first =>
    go_region_held3 (fun w'=>w'.cell? ⟨w.heap.size+1,0,none⟩=some s∧w'.cell? ⟨g,off+k*2,none⟩=some (.int .u64 x)∧w'.cell? ⟨g,off+k*2+1,none⟩=some (.string t)∧Below wr.heap.size wr w') (first|exact HKP.out _ (by assumption)|exact HKP.out _ (hbb.alloc hbb.size _)|exact HKP.out _ (hbb.setCell (p:=⟨wr.heap.size,0,none⟩) (Nat.le_refl _) _)|exact HKP.out _ ((hbb.alloc hbb.size _).setCell (p:=⟨w1.heap.size,0,none⟩) hbb.size _)|exact HKP.out _ (by go_grown)) ((go_at_call 64;refine(HPU.out _ (by go_grown)).mono ?_;rintro e w1 ⟨s',rfl,hc1,hb⟩;obtain⟨a7,n7,p7,rfl⟩:=hc1.form;have hbb:Below wr.heap.size wr w1:=(by go_grown:Below wr.heap.size wr _).trans (hb.mono (by simp));try (have o7:One w1 wr.heap.size (.slice none 0 0):=(xaP wr.drew (.slice none 0 0) 36).below hb;have f0:=o7.cell;have f1:=o7.frz)))
    all_goals
     go_wp2_with fail
     go_meet
     case rel=>first|exact⟨_,_,rfl,rfl,xaP _ _ _,hbb.size,hc1.below (xae _ _),hbb.trans ((xae _ _).mono hbb.size)⟩|exact⟨_,_,rfl,rfl,o7.set _,Nat.le_refl _,hc1.set o7 _,hbb.setCell (p:=⟨wr.heap.size,0,none⟩) (Nat.le_refl _) _⟩
   case rest =>
    obtain⟨g7,s',rfl,rfl,h7,hl7,hch7,hb7⟩:=hcut
    generalize wc=W7 at *
    obtain⟨a7,n7,p7,rfl⟩:=hch7.form
    have hgc:=hone.lt
    have hsz7:=hb7.size
    have HC7:=lH (And.intro (hone.below hb7) (And.intro (HALL.out.2.1.below hb7) (And.intro (HALL.out.2.2.1.below hb7) (And.intro (HALL.out.2.2.2.1.below hb7) (HALL.out.2.2.2.2.trans (hb7.mono HALL.out.2.2.2.2.size))))))
    have H7:=lH (And.intro h7 hch7)
    have k7:=h7.cell
    have k8:=HC7.out.1.cell
    have k9:=HC7.out.1.frz
    clear dA dB dC HKP HPU d0 d1 e0 e1 h7 hch7 hb7 hone
    go_upto_if 33 with fail
    go_cut [] (fun wx=>∃ s2,One wx (w.heap.size+1) s2∧ChS wx s2 (xcG acc x t)∧One wx w.heap.size (.slice none 0 0)∧ItsAt wx u5 acc∧Below w.heap.size w wx)
    case first =>
     by_cases h0:putE acc x t=0
     ·have hb0:(((putE acc x t:Nat):Int) == 0)=true:=by rw[h0];rfl
      clear h0
      go_wp2_with fail
      go_meet
      case rel=>exact⟨_,HC7.out.1.set _,H7.out.2.set HC7.out.1 _,HC7.out.2.1.set_other (by omega) _,HC7.out.2.2.2.1.set HC7.out.1 _,HC7.out.2.2.2.2.setCell (p:=⟨w.heap.size+1,0,none⟩) (Nat.le_succ _) _⟩
     ·have hb0:(((putE acc x t:Nat):Int) == 0)=false:=by rw[beq_eq_false_iff_ne];omega
      have hpl:xcG acc x t=acc:=by unfold xcG;rw[if_neg h0]
      have HPL:=lH hpl
      clear h0 hpl
      go_wp2_with fail
      go_meet
      case rel=>exact⟨_,HC7.out.1,by rw[HPL.out];exact HC7.out.2.2.1,HC7.out.2.1,HC7.out.2.2.2.1,HC7.out.2.2.2.2⟩
    case rest =>
     obtain⟨s2,h1,h2,h3,h4,h5⟩:=hcut
     generalize wc=W8 at *
     have hg8:=Nat.lt_of_lt_of_le hg h5.size
     obtain⟨c0,c1⟩:w.cell? ⟨g,off+k*2,none⟩=some (.int .u64 x)∧w.cell? ⟨g,off+k*2+1,none⟩=some (.string t):=by
      obtain⟨g2,off2,e,_,q0,q1⟩:=HC.out k _ htk
      cases e
      exact⟨q0,q1⟩
     have d0:=(h5.cell (p:=⟨g,off+k*2,none⟩) hg).trans c0
     have d1:=(h5.cell (p:=⟨g,off+k*2+1,none⟩) hg).trans c1
     have HKP:Hid (∀ X,Below W8.heap.size W8 X→X.cell? ⟨g,off+k*2,none⟩=some (.int .u64 x)∧X.cell? ⟨g,off+k*2+1,none⟩=some (.string t)∧Below W8.heap.size W8 X):=lH (fun X hX=>⟨(hX.cell (p:=⟨g,off+k*2,none⟩) hg8).trans d0,(hX.cell (p:=⟨g,off+k*2+1,none⟩) hg8).trans d1,hX⟩)
     have HRP:=lH (fun X (hX:Below W8.heap.size W8 X)=>xpb u5 acc x t X (h4.below hX) (by omega) hx)
     have H8:=lH (And.intro h1 (And.intro h2 (And.intro h3 h5)))
     have H4:=lH h4
     clear HC7 H7 k7 k8 k9 h1 h2 h3 h4 h5 c0 c1 HALL
     go_upto_region 9 with fail
     go_cut [9,10] (fun d f wx=>f=.int .i64 (putE acc x t:Nat)∧ItsAt wx d (xcG acc x t)∧Below W8.heap.size W8 wx)
     case first =>
      go_region_held3 (fun w'=>w'.cell? ⟨g,off+k*2,none⟩=some (.int .u64 x)∧w'.cell? ⟨g,off+k*2+1,none⟩=some (.string t)∧Below W8.heap.size W8 w') (first|exact HKP.out _ (by assumption)|exact HKP.out _ (by go_grown)) ((go_at_call 65;refine(HRP.out _ (by go_grown)).mono ?_;rintro e w1 ⟨d',rfl,hd1,hb⟩;have hbb:Below W8.heap.size W8 w1:=(by go_grown:Below W8.heap.size W8 _).trans (hb.mono (by simp))))
      all_goals
       go_wp2_with fail
       go_meet
       case rel=>exact⟨rfl,hd1,hbb⟩
     case rest =>
      obtain⟨rfl,hd9,hb9⟩:=hcut
      generalize wc=W9 at *
      have H9:=lH (And.intro hd9 (And.intro (H8.out.1.below hb9) (And.intro (H8.out.2.1.below hb9) (And.intro (H8.out.2.2.1.below hb9) (H8.out.2.2.2.trans (hb9.mono H8.out.2.2.2.size))))))
      have H9b:=lH hb9
      clear hd9 hb9
      by_cases h0:putE acc x t=0
      ·have hb0:(((putE acc x t:Nat):Int) == 0)=true:=by rw[h0];rfl
       clear h0
       go_wp2_with fail
       go_roundw
       case rel=>exact⟨k+1,xcG acc x t,_,by omega,by go_num,H9.out.2.1,H9.out.2.2.2.1,H9.out.2.2.1,H9.out.1,HOW.out,H9.out.2.2.2.2⟩
       case measure=>simp[intOf];omega
      ·have hb0:(((putE acc x t:Nat):Int) == 0)=false:=by rw[beq_eq_false_iff_ne];omega
       have hpl:xcG acc x t=acc:=by unfold xcG;rw[if_neg h0]
       have HPL:=lH hpl
       clear h0 hpl
       go_wp2_with fail
       go_roundw
       case rel=>exact⟨k+1,xcG acc x t,_,by omega,by go_num,H9.out.2.1,H9.out.2.2.2.1,H9.out.2.2.1,by rw[HPL.out];exact H4.out.below H9b.out,HOW.out,H9.out.2.2.2.2⟩
       case measure=>simp[intOf];omega
  ·obtain rfl:k=l.length:=by omega
   rw[List.drop_length,xlk] at how
   have HOW:=lH how
   have HF:=lH (And.intro hone (And.intro hres (And.intro hch (And.intro hd hbw))))
   obtain⟨a7,n7,p7,rfl⟩:=hch.form
   have e0:=hone.cell
   have r0:=hres.cell
   have r1:=hres.frz
   clear how hone hres hch hd hbw
   go_wp2_with fail
   refine bodyPost_ret (xaR rfl _ _ w.heap.size _ _ _ rfl rfl (HF.out.2.1.set _).cell Tryz.underlying36 rfl xaQ) rfl ⟨_,_,rfl,?_,?_,HF.out.2.2.2.2.setCell (p:=⟨w.heap.size,0,none⟩) (Nat.le_refl _) _⟩
   ·rw[HOW.out];exact HF.out.2.2.1.set HF.out.2.1 _
   ·rw[HOW.out];exact HF.out.2.2.2.1.set HF.out.2.1 _
end Go.Proofs.YtjinnigjfopbcaaGreatDoor
namespace Go.Proofs.YtjinnigjfopbcaaGreatDoor
set_option linter.unusedVariables false
set_option linter.unusedSimpArgs false
def kT:ByteArray:={ data:=#[116] }
def bl (n:Nat):List It:=(List.range n).map (fun i=>(3*i,kT))
theorem xn5 (id:Nat) (s:ByteArray) (l:List It):xan (xeM id s l)=xan (xcC id l)+s.size:=by
 have h:=congrArg xan (xcs id (xcC id l))
 rw[xa2] at h
 unfold xeM
 rw[xa2,xan]
 show xan (xfP id (xcC id l))+(s.size+xan (xg2 id (xcC id l)))=_
 omega
end Go.Proofs.YtjinnigjfopbcaaGreatDoor
namespace Go.Proofs.YtjinnigjfopbcaaGreatDoor
set_option linter.unusedVariables false
set_option linter.unusedSimpArgs false
open Go.RowKit
set_option maxRecDepth 20000
theorem xm1 (s:Value) (l:List It) (w:World) (h:ChS w s l) :
  Calls Tryz.prog 148 #[.agg #[s]] w fun e w'=>e=.returned (.tuple #[.int .i64 (zlo l),.int .i64 (zhi l),.bool (decide (0<l.length))])∧Below w.heap.size w w':=by
 obtain⟨al,cap,rfl,hcap,hmx,hc⟩:=h.its
 have hfew:=h.good.few
 clear h
 cases l with
 | nil =>
  go_enter Tryz.func148,Tryz.ntmps148
  go_wp2_with fail
  refine bodyPost_ret (results_tmp3 rfl _ _ _) rfl ⟨rfl,by go_grown⟩
 | cons t m =>
  obtain⟨n,hn⟩:∃ n,(t :: m).length=n+1:=⟨m.length,by simp⟩
  obtain⟨u,hu⟩:∃ u,(t :: m)[n]?=some u:=⟨_,List.getElem?_eq_getElem (by omega)⟩
  obtain⟨g,off,rfl,hg,c0,c1⟩:=hc 0 t rfl
  obtain⟨g',off',e,hg',d0,d1⟩:=hc n u hu
  injection e with e
  injection e with e1 e2
  subst e1 e2
  have hlast:zhi (t :: m)=xig (u.1:Int):=by
   unfold zhi
   rw[List.getLast?_eq_getElem?,hn,Nat.add_sub_cancel,hu]
  have hpos:decide (0<(t :: m).length)=true:=decide_eq_true (by omega)
  rw[hlast,hpos,show zlo (t :: m)=xig (t.1:Int) from rfl]
  rw[hn] at hcap hfew ⊢
  obtain⟨x,s⟩:=t
  obtain⟨y,s'⟩:=u
  simp only at c0 c1 d0 d1 ⊢
  have HZ1:Hid (∀ W,Calls Tryz.prog 226 #[.int .u64 x] W fun e w'=>e=.returned (.int .i64 (xig x))∧w'=W):=lH (fun W=>(xjV (x:Int) (by omega) W).mono (fun e w' h=>⟨h.1,h.2.symm⟩))
  have HZ2:Hid (∀ W,Calls Tryz.prog 226 #[.int .u64 y] W fun e w'=>e=.returned (.int .i64 (xig y))∧w'=W):=lH (fun W=>(xjV (y:Int) (by omega) W).mono (fun e w' h=>⟨h.1,h.2.symm⟩))
  generalize xig (x:Int)=zx at *
  generalize xig (y:Int)=zy at *
  simp only[Nat.zero_mul,Nat.add_zero] at c0 c1
  have hi1:IntKind.i64.wrap ((n:Int)+1 - 1)=(n:Int):=by rw[IntKind.wrap_i64];omega
  have hi2:(n:Int)<(n:Int)+1:=by omega
  have hi3:((n:Int)+1 == 0)=false:=by rw[beq_eq_false_iff_ne];omega
  have hi4:(0:Int)<(n:Int)+1:=by omega
  have hi5:IntKind.i64.wrap (n:Int)=(n:Int):=by rw[IntKind.wrap_i64];omega
  have c0a:∀ O,(w.alloc O).cell? ⟨g,off,none⟩=_:=fun O=>((xae w O).cell (p:=⟨g,off,none⟩) hg).trans c0
  have c0b:∀ O O',((w.alloc O).alloc O').cell? ⟨g,off,none⟩=_:=fun O O'=>((xae (w.alloc O) O').cell (p:=⟨g,off,none⟩) (by show g<_;rw[World.size_alloc];omega)).trans (c0a O)
  have c0c:∀ O O' O'',(((w.alloc O).alloc O').alloc O'').cell? ⟨g,off,none⟩=_:=fun O O' O''=>((xae ((w.alloc O).alloc O') O'').cell (p:=⟨g,off,none⟩) (by show g<_;rw[World.size_alloc,World.size_alloc];omega)).trans (c0b O O')
  have c1a:∀ O,(w.alloc O).cell? ⟨g,off+1,none⟩=_:=fun O=>((xae w O).cell (p:=⟨g,off+1,none⟩) hg).trans c1
  have c1b:∀ O O',((w.alloc O).alloc O').cell? ⟨g,off+1,none⟩=_:=fun O O'=>((xae (w.alloc O) O').cell (p:=⟨g,off+1,none⟩) (by show g<_;rw[World.size_alloc];omega)).trans (c1a O)
  have c1c:∀ O O' O'',(((w.alloc O).alloc O').alloc O'').cell? ⟨g,off+1,none⟩=_:=fun O O' O''=>((xae ((w.alloc O).alloc O') O'').cell (p:=⟨g,off+1,none⟩) (by show g<_;rw[World.size_alloc,World.size_alloc];omega)).trans (c1b O O')
  have d0a:∀ O,(w.alloc O).cell? ⟨g,off+n*2,none⟩=_:=fun O=>((xae w O).cell (p:=⟨g,off+n*2,none⟩) hg).trans d0
  have d0b:∀ O O',((w.alloc O).alloc O').cell? ⟨g,off+n*2,none⟩=_:=fun O O'=>((xae (w.alloc O) O').cell (p:=⟨g,off+n*2,none⟩) (by show g<_;rw[World.size_alloc];omega)).trans (d0a O)
  have d0c:∀ O O' O'',(((w.alloc O).alloc O').alloc O'').cell? ⟨g,off+n*2,none⟩=_:=fun O O' O''=>((xae ((w.alloc O).alloc O') O'').cell (p:=⟨g,off+n*2,none⟩) (by show g<_;rw[World.size_alloc,World.size_alloc];omega)).trans (d0b O O')
  have d1a:∀ O,(w.alloc O).cell? ⟨g,off+n*2+1,none⟩=_:=fun O=>((xae w O).cell (p:=⟨g,off+n*2+1,none⟩) hg).trans d1
  have d1b:∀ O O',((w.alloc O).alloc O').cell? ⟨g,off+n*2+1,none⟩=_:=fun O O'=>((xae (w.alloc O) O').cell (p:=⟨g,off+n*2+1,none⟩) (by show g<_;rw[World.size_alloc];omega)).trans (d1a O)
  have d1c:∀ O O' O'',(((w.alloc O).alloc O').alloc O'').cell? ⟨g,off+n*2+1,none⟩=_:=fun O O' O''=>((xae ((w.alloc O).alloc O') O'').cell (p:=⟨g,off+n*2+1,none⟩) (by show g<_;rw[World.size_alloc,World.size_alloc];omega)).trans (d1b O O')
  clear hc hu hlast hpos hg' hg c0 c1 d0 d1
  go_enter Tryz.func148,Tryz.ntmps148
  go_wp2_with fail
  go_region
  all_goals
   go_wp2_with fail
   go_region_with (first|(with_reducible refine(HZ1.out _).mono ?_;rintro e w1 ⟨rfl,rfl⟩)|(with_reducible refine(HZ2.out _).mono ?_;rintro e w1 ⟨rfl,rfl⟩))
   all_goals
    go_wp2_with fail
    refine bodyPost_ret (results_tmp3 rfl _ _ _) rfl ⟨rfl,by go_grown⟩
end Go.Proofs.YtjinnigjfopbcaaGreatDoor
