/- aFc aGd aGj aGt13 aMd aNe aVc aPb aLz aLg aMg aHm aMk. -/
import Derived.Test.YtjinnigjfopbcaaGreatDoorUs
import Derived.Test.YtjinnigjfopbcaaGreatDoorUa6
import Derived.DeepKeys5
set_option maxHeartbeats 16000000
namespace Go.Proofs.YtjinnigjfopbcaaGreatDoor
set_option linter.unusedVariables false
set_option linter.unusedSimpArgs false
open Go.RowKit
set_option maxRecDepth 20000
theorem xqV (s:ByteArray) (k:Nat) (h:k<s.size):s.data.toList.take (k+1)=s.data.toList.take k++[s[k]]:=by
 rw[List.take_succ_eq_append_getElem (by simpa using h)];rfl
theorem xvc (x:Nat) (s:ByteArray) (k:Nat) (h:k<s.size):xhk x (s.data.toList.take (k+1))=xwZ (xhk x (s.data.toList.take k)) s[k].toNat:=by
 rw[xqV s k h,xqR]
theorem xpI (x:Nat) (s:ByteArray):xhk x (s.data.toList.take s.size)=xhk x s.data.toList:=by
 rw[List.take_of_length_le (by simp)]
theorem xzg (x0:Nat) (hx0:x0<18446744073709551616) (s:ByteArray) (hs:s.size≤maxLen) (w:World) :
  Calls Tryz.prog 340 #[.agg #[.int .u64 x0,.func (.func 339) #[] #[]],.string s] w fun e w'=>e=.returned (.int .u64 (xhk x0 s.data.toList))∧Below w.heap.size w w':=by
 have hs':=hs
 unfold maxLen at hs
 go_enter Tryz.func340,Tryz.ntmps340
 go_wp2
 go_loopw [5,11] (fun x i wr=>∃ k:Nat,k≤s.size∧i=.int .i64 k∧x=.int .u64 (xhk x0 (s.data.toList.take k):Nat)∧wr.cell? ⟨w.heap.size,1,none⟩=some (.func (.func 339) #[] #[])∧w.heap.size<wr.heap.size∧Below w.heap.size w wr) (fun _ i _=>s.size - (intOf i).toNat)
 case atStart=>exact⟨0,Nat.zero_le _,rfl,by rw[List.take_zero,xmk],by simp[go_sem],by simp,Below.alloc (Below.refl _ _) (Nat.le_refl _) _⟩
 case round =>
  obtain⟨k,hk,rfl,rfl,hc,hz,hbw⟩:=hrel
  by_cases hlt:k<s.size
  ·have HS:=lH (xvc x0 s k hlt)
   have hx:=xp2 (s.data.toList.take k) x0 hx0
   have hb:s[k].toNat<256:=s[k].toNat_lt
   generalize xhk x0 (s.data.toList.take k)=x at *
   have HA:=lH (xs6 x s[k].toNat hx hb)
   go_wp2_with fail
   go_quiet ((go_at_call 339;(with_reducible refine Calls.quiet_of_same (HA.out _))))
   have hd:Below w.heap.size w (wr.drewN nq):=hbw.trans ⟨rfl,rfl,rfl,Nat.le_refl _,fun _ _=>rfl⟩
   have hc':(wr.drewN nq).cell? ⟨w.heap.size,1,none⟩=some (.func (.func 339) #[] #[]):=hc
   have hz':w.heap.size<(wr.drewN nq).heap.size:=hz
   clear hc hz hbw HA
   generalize wr.drewN nq=wn at *
   go_wp2_with fail
   go_roundw
   case rel=>exact⟨k+1,by omega,by go_num,by rw[HS.out],hc',hz',hd⟩
   case measure=>simp[intOf];omega
  ·obtain rfl:k=s.size:=by omega
   have HW:=lH (xpI x0 s)
   generalize xhk x0 (s.data.toList.take s.size)=x at *
   go_wp2
   go_ret
   exact⟨xaH (by rw[HW.out]),hbw⟩
theorem xwO (s:ByteArray) (hs:s.size≤maxLen) (w:World) :
  Calls Tryz.prog 310 #[.string s] w fun e w'=>e=.returned (.int .u64 (xhk fSt s.data.toList))∧Below w.heap.size w w':=by
 have HO:=lH (fun W=>xzg fSt (by decide) s hs W)
 have he:((fSt:Nat):Int)=14695981039346656037:=rfl
 rw[he] at HO
 clear he
 go_enter Tryz.func310,Tryz.ntmps310
 go_wp2_with fail
 refine(HO.out _).mono ?_
 rintro y w1 ⟨rfl,hb⟩
 have HB:=lH hb
 clear hb
 go_wp2_with fail
 go_ret
 exact⟨rfl,HB.out⟩
theorem xrL (x:Nat) (n:Int) (h1:1≤n):0≤(x:Int) % n∧(x:Int) % n<n:=⟨Int.emod_nonneg _ (by omega),Int.emod_lt_of_pos _ (by omega)⟩
theorem xoM (s:ByteArray) (hs:s.size≤maxLen) (n:Int) (n0:-9223372036854775808≤n) (n1:n≤9223372036854775807) (w:World) :
  Calls Tryz.prog 270 #[.string s,.int .i64 n] w fun e w'=>e=.returned (.int .i64 (xwt (xhk fSt s.data.toList) n))∧Below w.heap.size w w':=by
 have HS:=lH (fun W=>xwO s hs W)
 have hx:=xp2 s.data.toList fSt (by decide)
 generalize xhk fSt s.data.toList=x at *
 by_cases h1:n<1
 ·have HB:=lH (show xwt x n=0 by unfold xwt;rw[if_pos h1])
  go_enter Tryz.func270,Tryz.ntmps270
  go_wp2_with fail
  go_ret
  exact⟨xaH HB.out.symm,Below.refl _ _⟩
 ·have HB:=lH (show xwt x n=(x:Int) % n by unfold xwt;rw[if_neg h1])
  have HQ:=lH (xrL x n (by omega))
  have hw:IntKind.u64.wrap n=n:=by rw[IntKind.wrap_u64];omega
  have hn:¬ n=0:=by omega
  go_enter Tryz.func270,Tryz.ntmps270
  go_wp2_with fail
  refine(HS.out _).mono ?_
  rintro y w1 ⟨rfl,hb⟩
  have HBl:=lH hb
  clear hb HS
  go_wp2_with fail
  go_ret
  exact⟨xaH (by rw[HB.out];have:=HQ.out;unfold wrap64;omega),HBl.out⟩
theorem xAt (s:ByteArray) (t:Kt) (w:World):Calls Tryz.prog 271 #[.string s,.agg #[.int .u64 t.1,.int .u32 t.2.size,.string t.2]] w fun e w'=>e=.returned (.bool (decide (t.2=s)))∧Below w.heap.size w w':=by
 by_cases h:t.2=s
 ·have hd:=xeb h
  rw[decide_eq_true h]
  go_enter Tryz.func271,Tryz.ntmps271
  go_wp2_with fail
  go_ret
  exact⟨rfl,by go_grown⟩
 ·have hd:=xjn h
  rw[decide_eq_false h]
  go_enter Tryz.func271,Tryz.ntmps271
  go_wp2_with fail
  go_ret
  exact⟨rfl,by go_grown⟩
theorem xjB (s:ByteArray) (hs:s.size≤maxLen) (w:World):Calls Tryz.prog 206 #[.string s] w fun e w'=>e=.returned (.int .i64 (bkt s))∧Below w.heap.size w w':=by
 have HB:=lH (fun W=>xoM s hs 2048 (by omega) (by omega) W)
 go_enter Tryz.func206,Tryz.ntmps206
 go_wp2_with fail
 refine(HB.out _).mono ?_
 rintro e w1 ⟨rfl,hb⟩
 have HBl:=lH hb
 clear hb
 go_wp2_with fail
 go_ret
 exact⟨rfl,HBl.out⟩
theorem xpG (w:World) (pb:Nat) (va vm:Value) (G:Int→Value) (l:List ByteArray) (h:PoolAt w pb va vm G l):Calls Tryz.prog 209 #[.pointer (some ⟨pb,0,none⟩)] w fun e w'=>e=.returned (.int .u64 (totF l))∧Below w.heap.size w w':=by
 obtain⟨c0,c1,_,_⟩:=h.two
 obtain⟨al,cap,rfl,hcap,hmx,hc⟩:=h.all.ktsAt
 rw[xdt] at *
 rcases List.eq_nil_or_concat l with rfl|⟨l',s,rfl⟩
 ·clear hc
  go_enter Tryz.func209,Tryz.ntmps209
  go_wp2_with fail
  go_ret
  exact⟨rfl,Below.refl _ _⟩
 ·rw[List.concat_eq_append] at *
  have hk:(plc (l'++[s]) 0)[l'.length]?=some (totF l',s):=by
   rw[xit,List.getElem?_append_right (by rw[xdt];exact Nat.le_refl _),xdt];simp
  obtain⟨g,off,rfl,hg,d0,d1,d2⟩:=hc _ _ hk
  have HT:=lH h.good.tot
  have hlen:(l'++[s]).length=l'.length+1:=by simp
  have ht:totF (l'++[s])=totF l'+s.size:=by rw[xd0,xmv]
  have hlb:=h.good.few
  rw[hlen] at *
  have hw1:IntKind.i64.wrap (l'.length:Int)=(l'.length:Int):=by rw[IntKind.wrap_i64] <;> omega
  have hi:((l'.length:Nat):Int)<((l'.length:Nat):Int)+1:=by omega
  have hi2:(0:Int)≤((l'.length:Nat):Int):=by omega
  dsimp only at d0 d1 d2
  have k0:∀ O,(w.alloc O).cell? ⟨pb,0,none⟩=_:=fun O=>xap ((Below.refl _ _).alloc (Nat.le_refl _) O) c0
  have k1:∀ O,(w.alloc O).cell? ⟨g,off+l'.length*3,none⟩=_:=fun O=>xap ((Below.refl _ _).alloc (Nat.le_refl _) O) d0
  have k2:∀ O,(w.alloc O).cell? ⟨g,off+l'.length*3+1,none⟩=_:=fun O=>xap ((Below.refl _ _).alloc (Nat.le_refl _) O) d1
  clear hc hk h
  go_enter Tryz.func209,Tryz.ntmps209
  go_wp2_with fail
  go_region
  all_goals
   go_wp2_with fail
   go_ret
   refine⟨xaH ?_,by go_grown⟩
   rw[ht]
   have:=HT.out
   rw[ht] at this
   simp only[IntKind.wrap_u64]
   omega
theorem xlJ (w:World):(Op.equal 319 (.map none) (.map none)).run Tryz.prog w=.ok true w:=by
 rw[Op.equal,show Op.maxDepth=9999+1 from rfl]
 unfold Op.equalIn
 simp[go_sem]
theorem xi8 (w:World):(binOp BinOp.eql 319 (.map none) (.map none)).run Tryz.prog w=.ok (.bool true) w:=by
 simp[binOp,go_sem,xlJ]
theorem xkX (mb:Nat) (w:World):(Op.equal 319 (.map (some mb)) (.map none)).run Tryz.prog w=.ok false w:=by
 rw[Op.equal,show Op.maxDepth=9999+1 from rfl]
 unfold Op.equalIn
 simp[go_sem]
theorem xjO (mb:Nat) (w:World):(binOp BinOp.eql 319 (.map (some mb)) (.map none)).run Tryz.prog w=.ok (.bool false) w:=by
 simp[binOp,go_sem,xkX]
theorem xbr (w:World) (o:Obj):Below w.heap.size w (w.alloc o):=(Below.refl _ _).alloc (Nat.le_refl _) o
theorem xxp {w w3:World} {pb mb:Nat} {va:Value} {G:Int→Value} {l:List ByteArray} {s:ByteArray} (hP:PoolAt w pb va (.map (some mb)) G l) (h3:PoolAt w3 pb va (.map (some mb)) G l) (ht:Two w3 w.heap.size (.int .u64 0) (.int .u32 0)) (hb:Below w.heap.size w w3) (T:TypeId) :
  MidL w (w3.alloc (.cells #[.int .u64 (totF l:Nat),.int .u32 s.size,.string s] T)) pb w.heap.size w3.heap.size mb va (.map (some mb)) G l s:=by
 have h4:=h3.below (xbr w3 (.cells #[.int .u64 (totF l:Nat),.int .u32 s.size,.string s] T))
 have hr:=ht.lt
 refine⟨h4.two,h4.all,?_,h4.grps,xeD w3 (totF l,s) T,ht.alloc _,Nat.le_refl _,by omega,by omega,h4.n5 mb rfl,.inl rfl,fun g hg=>(hP.all.lt g hg).2,fun k g hg=>((hP.grps k).lt g hg).2,Kept.below _ (hb.alloc hb.size _)⟩
 rcases h4.map with ⟨e,_⟩|⟨m,e,hm⟩
 ·cases e
 ·cases e;exact hm
theorem xxH {w w3:World} {pb:Nat} {va:Value} {G:Int→Value} {s:ByteArray} (hP:PoolAt w pb va (.map none) G []) (hG:∀ k,G k=xkN) (h3:PoolAt w3 pb va (.map none) G []) (ht:Two w3 w.heap.size (.int .u64 0) (.int .u32 0)) (hb:Below w.heap.size w w3) (T:TypeId) :
  MidL w (((w3.setCell ⟨pb,1,none⟩ (.map (some (w3.heap.size+1)))).alloc (.cells #[.int .u64 (totF []:Nat),.int .u32 s.size,.string s] T)).alloc (.map #[] 0)) pb w.heap.size w3.heap.size (w3.heap.size+1) va (.map none) G [] s:=by
 have hr:=ht.lt
 have hpw:=hP.two.lt
 have hp3:=h3.two.lt
 have hsz:(w3.setCell ⟨pb,1,none⟩ (.map (some (w3.heap.size+1)))).heap.size=w3.heap.size:=by simp
 have h2:Two (w3.setCell ⟨pb,1,none⟩ (.map (some (w3.heap.size+1)))) pb va (.map (some (w3.heap.size+1))):=by
  refine⟨?_,World.cell?_setCell_same _ _ _ h3.two.2.1,by simpa using h3.two.2.2.1,by simpa using h3.two.2.2.2⟩
  rw[World.cell?_setCell_other (h:=by simp)];exact h3.two.1
 have es:∀ b,b≠pb→(w3.setCell ⟨pb,1,none⟩ (.map (some (w3.heap.size+1)))).heap[b]?=w3.heap[b]?:=fun b hn=>Below.heap_setCell _ _ _ _ (by simpa using hn)
 have ha:xc9 (w3.setCell ⟨pb,1,none⟩ (.map (some (w3.heap.size+1)))) 0 va (plc [] 0):=h3.all.keep (fun k hk=>es k (fun e=>h3.n1 (by rw[hk,e])))
 have hg:∀ k,xc9 (w3.setCell ⟨pb,1,none⟩ (.map (some (w3.heap.size+1)))) 0 (G k) (grp k (plc [] 0)):=fun k=>(h3.grps k).keep (fun j hj=>es j (fun e=>h3.n2 k (by rw[hj,e])))
 have hrs:Two (w3.setCell ⟨pb,1,none⟩ (.map (some (w3.heap.size+1)))) w.heap.size (.int .u64 0) (.int .u32 0):=ht.keep (es _ (by omega))
 have hkp:Kept (xfR pb va (.map none) G) (xfR pb va (.map none) G) w (w3.setCell ⟨pb,1,none⟩ (.map (some (w3.heap.size+1)))):=(Kept.below _ hb).trans (xmc _ _ _ _ (.inl rfl))
 generalize hv:Value.map (some (w3.heap.size+1))=mv at *
 generalize hw:w3.setCell ⟨pb,1,none⟩ mv=W3 at *
 have b1:=xbr W3 (.cells #[.int .u64 (totF []:Nat),.int .u32 s.size,.string s] T)
 have b2:=xbr (W3.alloc (.cells #[.int .u64 (totF []:Nat),.int .u32 s.size,.string s] T)) (.map #[] 0)
 have hm:=xfT.made (W3.alloc (.cells #[.int .u64 (totF []:Nat),.int .u32 s.size,.string s] T))
 have hk:=(xeD W3 (totF [],s) T).below b2
 have hG':G=fun _=>xkN:=funext hG
 rw[hsz] at hk
 refine⟨?_,(ha.below b1).below b2,?_,fun k=>((hg k).below b1).below b2,hk,(hrs.alloc _).alloc _,Nat.le_refl _,by omega,by omega,by omega,.inr (by omega),fun g hg=>(hP.all.lt g hg).2,fun k g hg=>((hP.grps k).lt g hg).2,?_⟩
 ·rw[hv];exact(h2.alloc _).alloc _
 ·rw[hG']
  have e:(W3.alloc (.cells #[.int .u64 (totF []:Nat),.int .u32 s.size,.string s] T)).heap.size=w3.heap.size+1:=by simp[hsz]
  rw[e] at hm
  exact hm
 ·exact(hkp.trans (Kept.below _ b1)).trans (Kept.below _ b2)
set_option maxRecDepth 20000 in
theorem xxJ (w:World) (pb:Nat) (va vm:Value) (G:Int→Value) (l:List ByteArray) (h:PoolAt w pb va vm G l) (s:ByteArray) (hg:GoodP (l++[s])) :
  Calls Tryz.prog 208 #[.pointer (some ⟨pb,0,none⟩),.int .i64 (bkt s),.string s] w fun e w'=>e=.returned (.agg #[.int .u64 (totF l:Nat),.int .u32 s.size])∧∃ va' vm' G',PoolAt w' pb va' vm' G' (l++[s])∧Kept (xfR pb va vm G) (xfR pb va' vm' G') w w':=by
 have hss:s.size≤65536:=hg.short s (by simp)
 have hwf:(Lit.int .i64 (bkt s)).wf=true:=by have:=xkk s;exact wf_i64 (by omega) (by omega)
 have hll:l.length≤2047:=by have:=hg.few;simp at this;omega
 have hB0:Below w.heap.size w (w.alloc (.cells #[.int .u64 0,.int .u32 0] 227)):=(Below.refl _ _).alloc (Nat.le_refl _) _
 have hP1:=h.below hB0
 have ht2:=xfm w (.int .u64 0) (.int .u32 0) 227
 have HE:=lH (xpG _ pb va vm G l hP1)
 have HC:=lH (fun W=>xhH s W (by omega))
 have hw1:IntKind.u32.wrap (s.size:Int)=(s.size:Int):=by rw[IntKind.wrap_u32];omega
 have HP:=lH h
 have HP1:=lH (And.intro hP1 (And.intro ht2 hB0))
 have hpm:=h.map
 have hpl:=h.two.lt
 clear h hP1 ht2 hB0
 go_enter Tryz.func208,Tryz.ntmps208
 go_wp2_with fail
 generalize hW1:w.alloc (.cells #[.int .u64 0,.int .u32 0] 227)=W1 at *
 have hWs:W1.heap.size=w.heap.size+1:=by rw[← hW1];simp
 refine HE.out.mono ?_
 rintro e w2 ⟨rfl,hb2⟩
 have HB2:=lH hb2
 clear hb2 HE
 go_wp2_with fail
 refine(HC.out _).mono ?_
 rintro e w3 ⟨rfl,hb3⟩
 have hb13:=HB2.out.trans (hb3.mono HB2.out.size)
 have hp3:=HP1.out.1.below hb13
 have HR3:=lH (And.intro hp3 (And.intro (HP1.out.2.1.below hb13) (HP1.out.2.2.trans (hb13.mono HP1.out.2.2.size))))
 obtain⟨c0,c1,c2,c3⟩:=hp3.two
 have hpl3:=hp3.two.lt
 have hne3:pb≠w3.heap.size:=by omega
 clear hb3 HB2 HC hp3 hb13
 obtain⟨om,rfl⟩:∃ om,vm=.map om:=by
  rcases hpm with ⟨e,_⟩|⟨mb,e,_⟩
  ·exact⟨_,e⟩
  ·exact⟨_,e⟩
 obtain⟨nb,q1,hy,hn⟩:∃ nb:Bool,(∀ W,(binOp BinOp.eql 319 (.map om) (.map none)).run Tryz.prog W=.ok (.bool nb) W)∧(nb=true→om=none∧l=[]∧∀ k,G k=xkN)∧(nb=false→∃ mb,om=some mb):=by
  rcases hpm with ⟨e,e2,hG⟩|⟨mb,e,hm⟩
  ·cases e
   exact⟨true,fun W=>xi8 W,fun _=>⟨rfl,e2,hG⟩,fun h=>(by cases h)⟩
  ·cases e
   exact⟨false,fun W=>xjO mb W,fun h=>(by cases h),fun _=>⟨mb,rfl⟩⟩
 clear hpm
 go_upto_if 21 with fail
 generalize hkb:w3.heap.size=kb at *
 go_cut [] (fun wx=>∃ mb,MidL w wx pb w.heap.size kb mb va (.map om) G l s)
 case first =>
  cases nb with
  | true =>
   obtain⟨rfl,rfl,hG⟩:=hy rfl
   have q2:=fun t W=>run_makeMap (P:=Tryz.prog) t W
   have hne4:pb≠kb+1:=by omega
   have hM:=xxH (s:=s) HP.out hG HR3.out.1 HR3.out.2.1 HR3.out.2.2 328
   rw[hkb] at hM
   clear hG hy hn
   go_wp2_with fail
   go_meet
   case rel=>exact⟨_,hM⟩
  | false =>
   obtain⟨mb,rfl⟩:=hn rfl
   have hM:=xxp (s:=s) HP.out HR3.out.1 HR3.out.2.1 HR3.out.2.2 328
   rw[hkb] at hM
   go_wp2_with fail
   go_meet
   case rel=>exact⟨_,hM⟩
 case rest =>
  obtain⟨mb,hM⟩:=hcut
  generalize wc=W at *
  go_upto_region 4 with fail
  have HM:=lH hM
  have HX:=lH (fun X (hX:Below W.heap.size W X)=>hM.all.below hX)
  obtain⟨d0,d1,d2,d3⟩:=hM.two
  obtain⟨k0,k1,k2⟩:=hM.kt
  have dA:∀ O,(W.alloc O).cell? ⟨pb,0,none⟩=some va:=fun O=>(hM.two.alloc O).1
  have hlp:(plc l 0).length≤1000000:=by rw[xdt];omega
  clear hM HR3 HP1 c0 c1 c2 c3 hpl3 hne3 hW1 hWs hkb q1 hy hn
  go_cut [] (fun wx=>∃ v',Mid2 w wx pb w.heap.size kb mb va (.map om) v' G l s)
  case first =>
   go_region_law (refine xfH rfl (.tmp 30) (.tmp 32) rfl va (plc l 0) (totF l,s) _ 1 (HX.out _ (by go_grown)) (xeD _ (totF l,s) _) hlp (by simp[Act.eval,Act.put]) (by simp[Act.eval,Act.put]) ?_;intro v' w6 hown6 hgr6 hloc6;obtain⟨a6,n6,p6,rfl⟩:=hown6.form3;obtain⟨f2,hm2⟩:=xwQ HP.out HM.out (by go_grown) hown6 hgr6 hloc6;obtain⟨f0,f1,f3,f4⟩:=f2)
   all_goals
    go_wp2_with fail
    go_meet
    case rel=>exact⟨_,hm2⟩
  case rest =>
   obtain⟨va',hm2⟩:=hcut
   generalize wc=W2 at *
   clear d0 d1 d2 d3 k0 k1 k2 dA HX hlp
   have HM2:=lH hm2
   have HX:=lH (fun X (hX:Below W2.heap.size W2 X)=>(hm2.grps (bkt s)).below hX)
   have HLK:=lH (fun X (hX:Below W2.heap.size W2 X)=>(hm2.map.below hX).look (bkt s) hwf)
   have hl0:=HLK.out W2.drew (by go_grown)
   have hl1:=fun O=>HLK.out (W2.alloc O).drew (by go_grown)
   have hl2:=fun O=>HLK.out (W2.drew.alloc O) (by go_grown)
   obtain⟨d0,d1,d2,d3⟩:=hm2.two
   obtain⟨k0,k1,k2⟩:=hm2.kt
   have dA:∀ O,(W2.alloc O).cell? ⟨pb,1,none⟩=some (.map (some mb)):=fun O=>(hm2.two.alloc O).2.1
   have hlp:(grp (bkt s) (plc l 0)).length≤1000000:=by have:=xpx (bkt s) (plc l 0);rw[xdt] at this;omega
   have hlm:(l:List ByteArray).length<maxLen:=by unfold maxLen;omega
   clear hm2
   go_upto_region 5 with fail
   go_cut [] (fun wx=>∃ va' G',PoolAt wx pb va' (.map (some mb)) G' (l++[s])∧Kept (xfR pb va (.map om) G) (xfR pb va' (.map (some mb)) G') w wx∧Two wx w.heap.size (.int .u64 0) (.int .u32 0)∧xdT wx kb (totF l,s)∧¬ xfR pb va' (.map (some mb)) G' w.heap.size)
   case first =>
    go_region_law (refine xfH rfl (.tmp 46) (.tmp 48) rfl (G (bkt s)) (grp (bkt s) (plc l 0)) (totF l,s) _ 1 (HX.out _ (by go_grown)) (xeD _ (totF l,s) _) hlp (by simp[Act.eval,Act.put]) (by simp[Act.eval,Act.put]) ?_;intro v' w7 hown7 hgr7 hloc7;obtain⟨a7,n7,p7,rfl⟩:=hown7.form3;have f7:=(HM2.out.two7 (by go_grown) hgr7 (HP.out.n2 _)).2.1;obtain⟨w8,hup,hmap8,hgr8⟩:=(HM2.out.map7 (by go_grown) hgr7).put hlm (bkt s) hwf _ ⟨a7,n7,p7,rfl⟩;have hfin:=xya HP.out HM.out.lg HM.out.la HM.out.nm HM.out.om HM.out.lr HM.out.lk hg HM2.out (by go_grown) hown7 hgr7 hloc7 hmap8 hgr8)
    all_goals
     go_wp2_with fail
     go_meet
     case rel=>exact⟨_,_,hfin⟩
   case rest =>
    obtain⟨va2,G2,hp2,hk2,ht2,h32,hr2⟩:=hcut
    generalize wc=W5 at *
    clear d0 d1 d2 d3 k0 k1 k2 dA HX hlp hl0 hl1 hl2
    obtain⟨t0,t1,t2,t3⟩:=ht2
    obtain⟨k0,k1,k2⟩:=h32
    have HF:=lH (And.intro hp2 (And.intro hk2 hr2))
    have HT2:=lH (show Two W5 w.heap.size (.int .u64 0) (.int .u32 0) from ⟨t0,t1,t2,t3⟩)
    have hnk:=HM.out.nk
    clear hp2 hk2 hr2
    go_wp2_with fail
    refine bodyPost_ret (xlY rfl _ _ w.heap.size _ _ _ rfl (HT2.out.set _ _).1 (HT2.out.set _ _).2.1 Tryz.underlying227 rfl xcx) rfl ⟨rfl,va2,.map (some mb),G2,HF.out.1.set2 _ HF.out.2.2 _ _,HF.out.2.1.set2 _ (Nat.le_refl _) _ _⟩
def xcF (w:World) (B b:Nat) (l:List UInt8):Prop:=Lib.BuilderAt 254 5 B b (.pointer (some ⟨b,0,none⟩)) (Lib.byteCells l) w
theorem xcF.alloc {w:World} {B b:Nat} {l:List UInt8} (h:xcF w B b l) (o:Obj):xcF (w.alloc o) B b l:=by
 obtain⟨h1,v,h2,h3,h4⟩:=h
 have hb:b<w.heap.size:=(Array.getElem?_eq_some_iff.1 h2).1
 exact⟨h1,v,((xbr w o).block b hb).trans h2,h3.alloc o,h4⟩
theorem xkb (B b n:Nat) (w:World) (hB:B≤b) (hbk:w.heap[b]?=some (.cells #[.pointer none,.slice none 0 0] 254 (0,0))) (hBw:B≤w.heap.size) (hn:n≤281474976710656) :
  Calls Tryz.prog 145 #[.pointer (some ⟨b,0,none⟩),.int .i64 n] w fun e w'=>e=.returned (.tuple #[])∧xcF w' B b []∧Below B w w' :=
 Any.Builder_Grow_fresh bgL bgLX B b n w hB hbk hBw hn
theorem xce (B b:Nat) (l:List UInt8) (s:ByteArray) (w:World) (h:xcF w B b l) (hlen:l.length+s.size≤140737488355328) (hBw:B≤w.heap.size) :
  Calls Tryz.prog 146 #[.pointer (some ⟨b,0,none⟩),.string s] w fun e w'=>e=.returned (.tuple #[.int .i64 s.size,.nilIface])∧xcF w' B b (l++s.data.toList)∧Below B w w':=by
 refine(Any.Builder_WriteString bwL bwLX B b (Lib.byteCells l) s w (.inr h) (by rw[Lib.byteCells_length];exact hlen) hBw).mono ?_
 rintro e w' ⟨rfl,h1,h2⟩
 refine⟨rfl,?_,h2⟩
 unfold xcF
 have e:Lib.byteCells (l++s.data.toList)=Lib.byteCells l++Lib.strCells s:=by simp[Lib.byteCells,Lib.strCells]
 rw[e];exact h1
theorem xms (B b:Nat) (l:List UInt8) (w:World) (h:xcF w B b l) (hBw:B≤w.heap.size) :
  Calls Tryz.prog 147 #[.pointer (some ⟨b,0,none⟩)] w fun e w'=>e=.returned (.string ⟨l.toArray⟩)∧Below B w w' :=
 Any.Builder_String_any bsL bsLX B b l w (.inr h) hBw
def xjY:List ByteArray→List UInt8
 | []=>[]
 | t :: l=>t.data.toList++xjY l
theorem xxR (l:List ByteArray):(⟨(xjY l).toArray⟩:ByteArray)=xdx l:=by
 induction l with
 | nil=>rfl
 | cons t l ih =>
  rw[xdx,← ih,xjY]
  apply ByteArray.ext
  simp
theorem xlo (a b:List ByteArray):xjY (a++b)=xjY a++xjY b:=by
 induction a with
 | nil=>rfl
 | cons t l ih=>rw[List.cons_append,xjY,xjY,ih,List.append_assoc]
theorem xqn (l:List ByteArray) (k:Nat) (t:ByteArray) (h:l[k]?=some t):xjY (l.take (k+1))=xjY (l.take k)++t.data.toList:=by
 rw[List.take_add_one,h,xlo];simp[xjY]
theorem xvd (l:List ByteArray):(xjY l).length=totF l:=by
 induction l with
 | nil=>rfl
 | cons t l ih=>rw[xjY,totF,List.length_append,ih];simp
set_option maxRecDepth 20000 in
theorem xs8 (v:Value) (l:List ByteArray) (S:Nat→Prop) (w:World) (h:xc6 w v l S) :
  Calls Tryz.prog 133 #[v] w fun e w'=>e=.returned (.string (xdx l))∧Below w.heap.size w w':=by
 obtain⟨pb,va,vm,G,rfl,hP,hS⟩:=h
 have htot:=hP.good.tot
 have hfew:=hP.good.few
 obtain⟨al,cap,rfl,hcap,hmx,hc⟩:=hP.all.ktsAt
 rw[xdt] at *
 have HC:=lH (fun k t (h:l[k]?=some t)=>hc k _ (xzD l 0 k t h))
 have hb0:=xbr w (.cells #[.pointer none,.slice none 0 0] 254)
 have HN:=lH (xc0 w (.cells #[.pointer none,.slice none 0 0] 254))
 have HE:=lH (xpG _ pb _ vm G l (hP.below hb0))
 have HP:=lH hP
 have HB0:=lH hb0
 have hw1:IntKind.i64.wrap ((totF l:Nat):Int)=((totF l:Nat):Int):=by rw[IntKind.wrap_i64] <;> omega
 have hpl:=hP.two.lt
 clear hP hS hc hb0
 go_enter Tryz.func133,Tryz.ntmps133
 go_wp2_with fail
 generalize hW:w.alloc (.cells #[.pointer none,.slice none 0 0] 254)=W at *
 have hWs:W.heap.size=w.heap.size+1:=by rw[← hW];simp
 refine HE.out.mono ?_
 rintro e w1 ⟨rfl,hb1⟩
 have HB1:=lH hb1
 have hg1:w1.heap[w.heap.size]?=_:=(hb1.block w.heap.size (by omega)).trans HN.out
 have hbw1:=HB0.out.trans (hb1.mono HB0.out.size)
 have HG:=lH (xkb w.heap.size w.heap.size (totF l) w1 (Nat.le_refl _) hg1 hbw1.size (by omega))
 have HBW1:=lH hbw1
 clear hb1 hg1 hbw1 HE
 go_wp2_with fail
 refine HG.out.mono ?_
 rintro e w2 ⟨rfl,hbt,hb2⟩
 have hbw2:=HBW1.out.trans hb2
 have HBT:=lH hbt
 have HBW2:=lH hbw2
 obtain⟨c0,c1,c2,c3⟩:=HP.out.two.lower hbw2 hpl
 clear hb2 hbt hbw2 HG HBW1
 go_wp2_with fail
 go_loopw [17] (fun x wr=>∃ i:Nat,i≤l.length∧x=.int .i64 i∧Hid (xcF wr w.heap.size w.heap.size (xjY (l.take i)))∧Below w.heap.size w wr) (fun x _=>l.length - (intOf x).toNat)
 case atStart=>exact⟨0,Nat.zero_le _,rfl,HBT,HBW2.out⟩
 case round =>
  obtain⟨i,hi,rfl,HT,hbw⟩:=hrel
  by_cases hlt:i<l.length
  ·obtain⟨t,ht⟩:∃ t,l[i]?=some t:=⟨_,List.getElem?_eq_getElem hlt⟩
   obtain⟨g,off,rfl,hg,l0,l1,l2⟩:=HC.out i t ht
   replace l0:=(hbw.cell (p:=⟨g,off+i*3,none⟩) hg).trans l0
   replace l1:=(hbw.cell (p:=⟨g,off+i*3+1,none⟩) hg).trans l1
   replace l2:=(hbw.cell (p:=⟨g,off+i*3+2,none⟩) hg).trans l2
   have hi2:(i:Int)<(l.length:Int):=by omega
   have hsum:(xjY (l.take i)).length+t.size≤140737488355328:=by
    rw[xvd]
    have h1:=xqz l i
    have h2:=xwh l t (List.mem_of_getElem? ht)
    omega
   have HST:=lH (xqn l i t ht)
   have HBW:=lH hbw
   have HWR:=lH (fun X (hX:xcF X w.heap.size w.heap.size (xjY (l.take i))) (hs:w.heap.size≤X.heap.size)=>xce w.heap.size w.heap.size _ t X hX hsum hs)
   clear ht hsum hbw
   go_wp2_with fail
   refine(HWR.out _ (HT.out.alloc _) (by have:=HBW.out.size;simp;omega)).mono ?_
   rintro e w3 ⟨rfl,hb3,hbel⟩
   have hfin:Below w.heap.size w w3:=(HBW.out.alloc HBW.out.size _).trans hbel
   have H3:=lH hb3
   clear hb3 hbel l0 l1 l2
   go_wp2_with fail
   go_roundw
   case rel=>exact⟨i+1,by omega,by go_num,lH (by rw[HST.out];exact H3.out),hfin⟩
   case measure=>simp[intOf];omega
  ·obtain rfl:i=l.length:=by omega
   rw[List.take_length] at HT
   have HBW:=lH hbw
   have HS:=lH (xms w.heap.size w.heap.size (xjY l) wr HT.out hbw.size)
   clear hbw
   go_wp2_with fail
   refine HS.out.mono ?_
   rintro e w3 ⟨rfl,hb3⟩
   have hfin:=HBW.out.trans hb3
   rw[xxR]
   clear hb3 HS
   go_wp2_with fail
   go_ret
   exact⟨rfl,hfin⟩
end Go.Proofs.YtjinnigjfopbcaaGreatDoor
namespace Go.Proofs.YtjinnigjfopbcaaGreatDoor
set_option linter.unusedVariables false
set_option linter.unusedSimpArgs false
set_option maxRecDepth 20000
theorem xyI (e:En) (d:ByteArray) (hm:xa2 e) (hc:ckN e=0) (id:Nat):xmD e (id:Int)=true↔∃ t ∈ xe5 e d,t.1=id:=by
 rw[xx3]
 unfold xa2 at hm
 constructor
 ·rintro⟨_,h1,h2,h3⟩
  rw[xoO hc (by omega)] at h3
  exact⟨_,(xex e d _).2 ⟨id - e.id.toNat,by omega,rfl⟩,by show e.id.toNat+(id - e.id.toNat)=id;omega⟩
 ·rintro⟨t,ht,rfl⟩
  obtain⟨k,hk,rfl⟩:=(xex e d t).1 ht
  rw[xoO hc (by omega)]
  refine⟨hc,by omega,?_,?_⟩
  ·show e.id≤((e.id.toNat+k:Nat):Int);omega
  ·show ((e.id.toNat+k:Nat):Int)≤_;omega
theorem xtr {l:List En} {d:ByteArray} (hm:∀ e ∈ l,xa2 e) (hr:xcH (-1) l=0) (ht:∀ e ∈ l,TellE e d) (hs:(l.map (·.rn)).sum≤2048):GoodC (xd3 l d):=by
 have hc:∀ e ∈ l,ckN e=0:=fun e he=>(xcL (-1) l hm hr e he).2
 have hlen:=xrU l d (fun e he=>(hm e he).2.2.2.1)
 have hmem:∀ t ∈ xd3 l d,∃ e ∈ l,∃ k,k<e.rn.toNat∧t=(e.id.toNat+k,txN e d):=fun t h=>by
  obtain⟨e,he,hte⟩:=List.mem_flatMap.1 h
  exact⟨e,he,(xex e d t).1 hte⟩
 have hsz:∀ e ∈ l,(txN e d).size=e.ln.toNat:=fun e he=>by
  have h1:=ht e he
  have h2:=hm e he
  unfold xa2 at h2
  have h3:=h1.inn
  unfold txN
  rw[ByteArray.size_extract]
  omega
 refine⟨?_,fun t h=>?_,fun t h=>?_,fun t h=>?_,by omega⟩
 ·have key:∀ (l:List En) (p:Int),(∀ e ∈ l,xa2 e)→xcH p l=0→xe8 (xd3 l d)∧∀ t ∈ xd3 l d,p<(t.1:Int):=by
   intro l
   induction l with
   | nil=>intro p _ _;exact⟨List.Pairwise.nil,by simp[xd3]⟩
   | cons e l ih =>
    intro p hm hr
    obtain⟨g1,g2,g3⟩:=xbZ p e l hr
    obtain⟨i1,i2⟩:=ih (laN e) (fun x hx=>hm x (by simp[hx])) g3
    have hme:=hm e (by simp)
    have hla:=xlr e hme g1
    unfold xa2 at hme
    have hup:∀ t ∈ xe5 e d,e.id≤(t.1:Int)∧(t.1:Int)≤laN e:=fun t h=>by
     obtain⟨k,hk,rfl⟩:=(xex e d t).1 h
     rw[xoO g1 (by omega)]
     refine⟨?_,?_⟩
     ·show e.id≤((e.id.toNat+k:Nat):Int);omega
     ·show ((e.id.toNat+k:Nat):Int)≤_;omega
    have e0:xd3 (e :: l) d=xe5 e d++xd3 l d:=by simp[xd3]
    rw[e0]
    refine⟨?_,fun t h=>?_⟩
    ·unfold xe8 at i1 ⊢
     rw[List.pairwise_append]
     refine⟨?_,i1,fun a ha b hb=>?_⟩
     ·unfold xe5
      rw[List.pairwise_map]
      refine List.Pairwise.imp (fun {a b} h=>?_) List.pairwise_lt_range
      show e.id.toNat+a<e.id.toNat+b
      omega
     ·have:=hup a ha
      have:=i2 b hb
      omega
    ·rcases List.mem_append.1 h with h|h
     ·have:=hup t h;omega
     ·have:=i2 t h;omega
  exact(key l (-1) hm hr).1
 ·obtain⟨e,he,k,hk,rfl⟩:=hmem t h
  have h1:=xiX e (hc e he)
  have h2:=hm e he
  unfold xa2 at h2
  have h3:=(ht e he).run
  unfold wdN at h1
  rw[if_neg h3] at h1
  show e.id.toNat+k<_
  omega
 ·obtain⟨e,he,k,hk,rfl⟩:=hmem t h
  have h1:=(xiX e (hc e he)).1
  have h2:=hm e he
  unfold xa2 at h2
  show 0<(txN e d).size
  rw[hsz e he]
  omega
 ·obtain⟨e,he,k,hk,rfl⟩:=hmem t h
  have h2:=(ht e he).short
  show (txN e d).size≤_
  rw[hsz e he]
  omega
end Go.Proofs.YtjinnigjfopbcaaGreatDoor
namespace Go.Proofs.YtjinnigjfopbcaaGreatDoor
set_option linter.unusedVariables false
set_option linter.unusedSimpArgs false
open Go.RowKit
set_option maxRecDepth 20000
theorem xnD (l:List En) (i:Nat) (e:En) (d:ByteArray) (acc:List It) (m:Int) (h:l[i]?=some e):xcU (l.drop i) d acc m=if e.rn=0 then ([],14) else if (d.size:Int)<e.off+e.ln then ([],8) else if 2048<m+e.rn then ([],21) else if 65536<e.ln then ([],5) else xcU (l.drop (i+1)) d (acc++xe5 e d) (m+e.rn):=by
 rw[xdK l i e h,xcU]
theorem xzM (e:En) (d:ByteArray) (j:Nat) (h:(j:Int)<e.rn):(xe5 e d)[j]?=some (e.id.toNat+j,txN e d):=by
 unfold xe5
 rw[List.getElem?_map,List.getElem?_range (by omega)]
 rfl
theorem xxA (w:World) (z:Int) (n:Nat) (hz:z=n) (s:ByteArray) (T:TypeId):ItsAt (w.alloc (.cells #[.int .u64 z,.string s] T)) (.slice (some ⟨w.heap.size,0,none⟩) 1 1) [(n,s)]:=by
 subst hz
 exact xj1 w n s T
theorem xxj {w:World} {B g:Nat} {E T:TypeId} {v:Value} {l:List It} {cs:Array Value} {m:Nat × Nat} (h:xa1 w B E v l) (ho:w.heap[g]?=some (.cells cs T m)) (hT:T≠E):v.ownBlock≠some g:=by
 intro e
 rcases h.2 with ⟨rfl,_⟩|⟨g',cap,cur,rfl,_,h2,_⟩
 ·cases e
 ·cases e
  rw[ho] at h2
  cases h2
  exact hT rfl
def xo1 (w:World) (g:Nat) (e:En):Prop:=w.heap[g]?=some (.cells (eC e) 74 (0,0))
theorem xo1.lt {w:World} {g:Nat} {e:En} (h:xo1 w g e):g<w.heap.size:=(Array.getElem?_eq_some_iff.1 h).1
theorem xo1.at {w:World} {g:Nat} {e:En} (h:xo1 w g e):EAt w g e:=by
 unfold xo1 eC at h
 refine⟨?_,?_,?_,?_⟩ <;> simp[World.cell?,h]
theorem xo1.below {w w':World} {g:Nat} {e:En} (h:xo1 w g e) (hb:Below w.heap.size w w'):xo1 w' g e:=(hb.block g h.lt).trans h
theorem xo1.grown {w w':World} {B g:Nat} {v:Value} {l:List It} {e:En} (h:xo1 w g e) (ho:xa1 w B 67 v l) (hg:w.grownBy w' v.ownBlock):xo1 w' g e :=
 (hg.block g h.lt (fun e'=>xxj ho h (by decide) e'.symm)).trans h
theorem xrV (l:List En) (i:Nat) (e:En) (d:ByteArray) (acc:List It) (h:l[i]?=some e):xcU (l.drop i) d acc (acc.length:Nat)=if xsH e acc.length d.size=0 then xcU (l.drop (i+1)) d (acc++xe5 e d) ((acc.length:Nat)+e.rn) else ([],xsH e acc.length d.size):=by
 rw[xnD l i e d acc _ h]
 unfold xsH
 by_cases h1:e.rn=0
 ·rw[if_pos h1,if_pos h1];rfl
 rw[if_neg h1,if_neg h1]
 by_cases h2:(d.size:Int)<e.off+e.ln
 ·rw[if_pos h2,if_pos h2];rfl
 rw[if_neg h2,if_neg h2]
 by_cases h3:2048<((acc.length:Nat):Int)+e.rn
 ·rw[if_pos h3,if_pos h3];rfl
 rw[if_neg h3,if_neg h3]
 by_cases h4:65536<e.ln
 ·rw[if_pos h4,if_pos h4];rfl
 rw[if_neg h4,if_neg h4,if_pos rfl]
theorem xzT {e:En} {n d:Nat} (h:xsH e n d=0):e.rn≠0∧e.off+e.ln≤d∧(n:Int)+e.rn≤2048∧e.ln≤65536:=by
 unfold xsH at h
 by_cases h1:e.rn=0
 ·rw[if_pos h1] at h;omega
 rw[if_neg h1] at h
 by_cases h2:(d:Int)<e.off+e.ln
 ·rw[if_pos h2] at h;omega
 rw[if_neg h2] at h
 by_cases h3:2048<(n:Int)+e.rn
 ·rw[if_pos h3] at h;omega
 rw[if_neg h3] at h
 by_cases h4:65536<e.ln
 ·rw[if_pos h4] at h;omega
 exact⟨h1,by omega,by omega,by omega⟩
theorem xpW {l:List En} {d:ByteArray} {C:List It} (hm:xaE l) (hr:xaN l=0) (h:xfu l d=(C,0)):GoodC C:=by
 have hb:xcU l d [] 0=(C,0):=by unfold xfu at h;rwa[if_neg (by simpa using hr)] at h
 obtain⟨h1,h2,h3⟩:=xgX l d [] 0 C hb
 rw[List.nil_append] at h2
 have hrow:xcH (-1) l=0:=by
  unfold xaN at hr
  split at hr
  ·omega
  ·exact hr
 rw[h2]
 refine xtr hm hrow h1 ?_
 rcases h3 with rfl|h3
 ·simp
 ·omega
theorem xwu {C:List It} (h:GoodC C):ofI C=(C,0):=xyk C C h (List.Perm.refl _)
theorem xnz (v:Value) (l:List En) (d:ByteArray) (w:World) (hv:xam w v l) (hm:xaE l) (hd:d.size≤200000000) :
  Calls Tryz.prog 57 #[v,.string d] w fun e w'=>∃ s',e=.returned (.tuple #[.agg #[s'],.int .i64 (xfu l d).2])∧ChS w' s' (xfu l d).1∧Below w.heap.size w w':=by
 have hba:=xae w (.cells #[.slice none 0 0] 36)
 have HV:=lH (hv.below hba)
 have HRO:=lH (xcT v l _ (hv.below hba) hm)
 have HON:=lH (xaX w (.slice none 0 0) 36)
 have HBA:=lH hba
 have HM:=lH hm
 obtain⟨a0,c0,rfl,hcap,hmx,-⟩:=hv
 have hml:l.length≤9223372036854775807:=by unfold maxLen at hmx;omega
 obtain⟨R,hR⟩:∃ R,xfu l d=R:=⟨_,rfl⟩
 have HRE:=lH hR
 rw[hR]
 obtain⟨q,hq⟩:∃ q,xaN l=q:=⟨_,rfl⟩
 rw[hq] at HRO
 clear hm hba
 by_cases h0:q=0
 ·have e0:(q != 0)=false:=by simpa using h0
  have HB0:Hid (R=xcU (l.drop 0) d [] 0):=lH (by rw[← hR];unfold xfu;rw[hq,if_neg (by simpa using h0),List.drop_zero])
  have HQ:=lH (hq.trans h0)
  have HCK:Hid (∀ e ∈ l,ckN e=0):=lH (fun e he=>by
   have hrow:=hq.trans h0
   unfold xaN at hrow
   split at hrow
   ·omega
   ·exact(xcL (-1) l HM.out hrow e he).2)
  clear h0 hq hR
  go_enter Tryz.func57,Tryz.ntmps57
  go_wp2_with fail
  generalize hW0:w.alloc (.cells #[.slice none 0 0] 36)=W0 at *
  refine HRO.out.mono ?_
  rintro x w1 ⟨rfl,hb1⟩
  have HB1:=lH (HBA.out.trans (hb1.mono HBA.out.size))
  have HV1:=lH (HV.out.below hb1)
  have HO1:=lH (HON.out.below hb1)
  clear hb1 hW0 HV HON HBA HRO
  go_wp2_with fail
  go_loopw [7,21] (fun o x wr=>∃ (i:Nat) (acc:List It),i≤l.length∧x=.int .i64 i∧acc.length≤2048∧Hid (xa1 wr w1.heap.size 67 o acc)∧Hid (R=xcU (l.drop i) d acc acc.length)∧Hid (One wr w.heap.size (.slice none 0 0))∧Hid (Below w.heap.size w wr∧Below w1.heap.size w1 wr)) (fun _ x _=>l.length - (intOf x).toNat)
  case atStart=>exact⟨0,[],Nat.zero_le _,rfl,by simp,lH (xdk _ _ _),HB0,HO1,lH ⟨HB1.out,Below.refl _ _⟩⟩
  case round =>
   obtain⟨i,acc,hi,rfl,hal,HO,HR,HC1,HBW⟩:=hrel
   by_cases hlt:i<l.length
   ·obtain⟨e,he⟩:∃ e,l[i]?=some e:=⟨_,List.getElem?_eq_getElem hlt⟩
    have hme:=HM.out e (List.mem_of_getElem? he)
    have hck:=xiX e (HCK.out e (List.mem_of_getElem? he))
    have hme2:=hme
    unfold xa2 at hme2
    have HR2:=lH (HR.out.trans (xrV l i e d acc he))
    obtain⟨g,off,cap,hv2,hle,hg,hc⟩:=xhq HV1.out i hlt
    cases hv2
    obtain⟨k0,k1,k2,k3⟩:=xdW HBW.out.2 (hc i e he)
    obtain⟨a7,c7,rfl⟩:=HO.out.slice
    have hii:(i:Int)<(l.length:Int):=by omega
    have HEB:Hid (xo1 (wr.alloc (.cells (eC e) 74)) wr.heap.size e):=lH (xc0 wr _)
    have HBX:=lH (xae wr (.cells (eC e) 74))
    have HCH:=lH (fun W=>xoK e acc.length d W hme (by omega) (by omega) (by omega))
    unfold eC at HBX HCH HEB
    have HM2:=lH (And.intro hme2 hck)
    clear hc he hme hme2 hck HR
    by_cases hz:xsH e acc.length d.size=0
    ·have HOK:=lH (xzT hz)
     have HR3:=lH (HR2.out.trans (if_pos hz))
     rw[hz] at HCH
     clear hz HR2
     go_wp2_with fail
     generalize hWx:wr.alloc (.cells #[.int .u64 e.id,.int .u64 e.off,.int .u32 e.ln,.int .u32 e.rn] 74)=Wx at *
     refine(HCH.out _).mono ?_
     rintro x w2 ⟨rfl,hb2⟩
     have HEB2:=lH (HEB.out.below hb2)
     have hbx2:=HBX.out.trans (hb2.mono HBX.out.size)
     have HO2:=lH (HO.out.below hbx2)
     have HC2:=lH (HC1.out.below hbx2)
     have HBW2:=lH (And.intro (HBW.out.1.trans (hbx2.mono HBW.out.1.size)) (HBW.out.2.trans (hbx2.mono HBW.out.2.size)))
     obtain⟨e0,e1,e2,e3⟩:=HEB2.out.at
     obtain⟨o1,o2,o3,o4⟩:=HOK.out
     have hw1:IntKind.u64.wrap e.rn=e.rn:=by have:=HM2.out.1;rw[IntKind.wrap_u64];omega
     have hw3:IntKind.u64.wrap e.ln=e.ln:=by have:=HM2.out.1;rw[IntKind.wrap_u64];omega
     have hw4:IntKind.u64.wrap (e.off+e.ln)=e.off+e.ln:=by have:=HM2.out.1;rw[IntKind.wrap_u64];omega
     have hs1:(0:Int)≤e.off:=HM2.out.1.2.1.1
     have hs2:e.off≤e.off+e.ln:=by have:=HM2.out.1;omega
     have hs3:e.off+e.ln≤(d.size:Int):=o2
     have HRN:=lH o3
     clear hb2 hbx2 hWx HEB HBX HO HC1 HBW HCH k0 k1 k2 k3 o1 o3 o4 o2
     go_wp2_with fail
     have HTX:Hid (d.extract e.off.toNat (e.off+e.ln).toNat=txN e d):=lH (by have:=HM2.out.1;unfold txN;rw[show (e.off+e.ln).toNat=e.off.toNat+e.ln.toNat by omega])
     rw[HTX.out]
     have HRL:=lH (xgg e d)
     have HRT:=lH (xzM e d)
     clear e0 e1 e2 e3 hs1 hs2 hs3
     generalize txN e d=tx at *
     generalize xe5 e d=rl at *
     go_loopw [7,47] (fun o x wy=>∃ j:Nat,(j:Int)≤e.rn∧x=.int .u64 j∧Hid (xa1 wy w1.heap.size 67 o (acc++rl.take j))∧Hid (xo1 wy wr.heap.size e)∧Hid (One wy w.heap.size (.slice none 0 0))∧Hid (Below w.heap.size w wy∧Below w1.heap.size w1 wy)) (fun _ x _=>e.rn.toNat - (intOf x).toNat)
     case atStart=>exact⟨0,by have:=HM2.out.1;omega,rfl,lH (by rw[List.take_zero,List.append_nil];exact HO2.out),HEB2,HC2,HBW2⟩
     case round =>
      obtain⟨j,hj,rfl,HOJ,HEJ,HCJ,HBJ⟩:=hrel
      obtain⟨k0,k1,k2,k3⟩:=HEJ.out.at
      by_cases hjl:(j:Int)<e.rn
      ·have htake:=xcz rl j _ (HRT.out j hjl)
       have hid:e.id+(j:Int)=((e.id.toNat+j:Nat):Int):=by have:=HM2.out.1;omega
       have hw6:IntKind.u64.wrap (e.id+(j:Int))=e.id+(j:Int):=by have:=HM2.out;rw[IntKind.wrap_u64];omega
       have hw7:IntKind.u64.wrap ((j:Int)+1)=(j:Int)+1:=by have:=HM2.out.1;rw[IntKind.wrap_u64];omega
       have hx:=xxA wr (e.id+(j:Int)) _ hid tx 67
       have hba:Below wr.heap.size wr (wr.alloc (.cells #[.int .u64 (e.id+(j:Int)),.string tx] 67)):=xae _ _
       obtain⟨v5,w5,hr5,ho5,hg5⟩:=xax (wr.alloc (.cells #[.int .u64 (e.id+(j:Int)),.string tx] 67)) w1.heap.size 34 67 34 _ Tryz.underlying34 xd5 rfl u7 (.slice (some ⟨wr.heap.size,0,none⟩) 1 1) (acc++rl.take j) [(e.id.toNat+j,tx)] (HOJ.out.below hba) hx (by have:=HRN.out;rw[List.length_append,List.length_take];simp;omega) (Nat.le_trans HBJ.out.2.size hba.size)
       rw[List.append_assoc,← htake] at ho5
       have HO5:=lH ho5
       have hb5:Below w1.heap.size w1 w5:=(HBJ.out.2.trans (hba.mono HBJ.out.2.size)).grown hg5 (Nat.le_trans HBJ.out.2.size hba.size) (fun q hq=>(HOJ.out.lt q hq).1)
       have HB5:Hid (Below w.heap.size w w5∧Below w1.heap.size w1 w5):=lH ⟨HB1.out.trans (hb5.mono HB1.out.size),hb5⟩
       have HE5:=lH ((HEJ.out.below hba).grown (HOJ.out.below hba) hg5)
       have HC5:=lH ((HCJ.out.below hba).grown (HOJ.out.below hba) hg5)
       clear ho5 hg5 hx hba hid htake hb5
       go_wp2_with (first|(at_builtin;refine Lib.wpList_append_run _ rfl _ _ _ _ rfl _ _ rfl rfl _ _ hr5 ?_)|fail)
       go_roundw
       case rel=>exact⟨j+1,by omega,by go_num,HO5,HE5,HC5,HB5⟩
       case measure=>simp[intOf];omega
      ·have hje:(j:Int)=e.rn:=by omega
       have hjn:j=e.rn.toNat:=by omega
       have hfull:rl.take j=rl:=List.take_of_length_le (by rw[HRL.out];omega)
       have HOF:=HOJ.out
       rw[hfull] at HOF
       have HOF:=lH HOF
       have hall:(acc++rl).length=acc.length+e.rn.toNat:=by rw[List.length_append,HRL.out]
       have HRR:Hid (R=xcU (l.drop (i+1)) d (acc++rl) (((acc++rl).length:Nat):Int)):=lH (by rw[hall,show ((acc.length+e.rn.toNat:Nat):Int)=((acc.length:Nat):Int)+e.rn by omega];exact HR3.out)
       have HAL:Hid ((acc++rl).length≤2048):=lH (by have:=HRN.out;rw[hall];omega)
       clear hfull hje hjn hall
       go_wp2_with fail
       go_roundw
       case rel=>exact⟨i+1,acc++rl,by omega,by go_num,HAL.out,HOF,HRR,HCJ,HBJ⟩
       case measure=>simp[intOf];omega
    ·have HR3:=lH (HR2.out.trans (if_neg hz))
     obtain⟨z,hzz⟩:∃ z,xsH e acc.length d.size=z:=⟨_,rfl⟩
     rw[hzz] at hz HR3 HCH
     have hzn:(z != 0)=true:=by simpa using hz
     clear hz HR2 hzz
     go_wp2_with fail
     generalize hWx:wr.alloc (.cells #[.int .u64 e.id,.int .u64 e.off,.int .u32 e.ln,.int .u32 e.rn] 74)=Wx at *
     refine(HCH.out _).mono ?_
     rintro x w2 ⟨rfl,hb2⟩
     have hbx2:=HBX.out.trans (hb2.mono HBX.out.size)
     have HC2:=lH (HC1.out.below hbx2)
     have HBW2:=lH (HBW.out.1.trans (hbx2.mono HBW.out.1.size))
     have rr:=HC2.out.cell
     have rf:=HC2.out.frz
     clear hb2 hbx2 hWx HEB HBX HO HC1 HBW HCH k0 k1 k2 k3
     go_wp2_with fail
     refine bodyPost_ret (xa6 rfl _ _ w.heap.size _ _ _ rfl rfl (HC2.out.set _).cell Tryz.underlying36 rfl xa5) rfl ⟨_,by rw[HR3.out];rfl,?_,HBW2.out.setCell (p:=⟨w.heap.size,0,none⟩) (Nat.le_refl _) _⟩
     rw[HR3.out]
     exact xgz _
   ·obtain rfl:i=l.length:=by omega
    have HRR:=HR.out
    rw[List.drop_length,xcU] at HRR
    have HG:=xpW HM.out HQ.out (HRE.out.trans HRR)
    have hof:=xwu HG
    have HRR:=lH HRR
    have hOF:=xsq u7 acc wr HO.out.itsAt (by omega) (fun t ht=>by have:=HG.low t ht;omega) (fun t ht=>by have:=HG.short t ht;unfold maxLen;omega)
    rw[hof] at hOF
    have HOF:=lH hOF
    obtain⟨a7,c7,rfl⟩:=HO.out.slice
    clear hOF hof HG
    go_wp2_with fail
    refine HOF.out.mono ?_
    rintro x w3 ⟨s',rfl,hch,hb3⟩
    obtain⟨a9,n9,c9,rfl⟩:=hch.form
    have HC3:=lH (HC1.out.below hb3)
    have HCH3:=lH hch
    have HB3:=lH (HBW.out.1.trans (hb3.mono HBW.out.1.size))
    have rr:=HC3.out.cell
    have rf:=HC3.out.frz
    clear hch hb3 HC1 HBW HOF
    go_wp2_with fail
    refine bodyPost_ret (xa6 rfl _ _ w.heap.size _ _ _ rfl rfl (HC3.out.set _).cell Tryz.underlying36 rfl xa5) rfl ⟨_,by rw[HRR.out];rfl,?_,HB3.out.setCell (p:=⟨w.heap.size,0,none⟩) (Nat.le_refl _) _⟩
    rw[HRR.out]
    exact HCH3.out.set HC3.out _
 ·have e0:(q != 0)=true:=by simpa using h0
  have HRR:Hid (R=([],q)):=lH (by rw[← hR];unfold xfu;rw[hq,if_pos h0])
  clear h0 hq hR
  go_enter Tryz.func57,Tryz.ntmps57
  go_wp2_with fail
  generalize hW0:w.alloc (.cells #[.slice none 0 0] 36)=W0 at *
  refine HRO.out.mono ?_
  rintro x w1 ⟨rfl,hb1⟩
  have HB1:=lH (HBA.out.trans (hb1.mono HBA.out.size))
  have HO1:=lH (HON.out.below hb1)
  have rr:=HO1.out.cell
  have rf:=HO1.out.frz
  clear hb1 hW0 HV HON HBA HRO
  go_wp2_with fail
  refine bodyPost_ret (xa6 rfl _ _ w.heap.size _ _ _ rfl rfl (HO1.out.set _).cell Tryz.underlying36 rfl xa5) rfl ⟨_,by rw[HRR.out];rfl,?_,HB1.out.setCell (p:=⟨w.heap.size,0,none⟩) (Nat.le_refl _) _⟩
  rw[HRR.out]
  exact xgz _
set_option maxRecDepth 20000 in
theorem xu5 (e:En) (q:Int) (w:World) (hm:xa2 e):Calls Tryz.prog 35 #[.agg (eC e),.int .u64 q] w fun x w'=>x=.returned (.bool (xmD e q))∧Below w.heap.size w w':=by
 have HL:=lH (fun W=>xgr e W hm)
 have HC:=lH (fun W=>xdD e W hm)
 have HP:=lH (fun W=>xio e W)
 have H0:=EAt.made w e 74
 have HB:Below w.heap.size w (w.alloc (.cells (eC e) 74)):=(Below.refl _ _).alloc (Nat.le_refl _) _
 have hz:Hid (0≤e.rn):=lH hm.2.2.2.1
 obtain⟨r,hr⟩:∃ r,ckN e=r:=⟨_,rfl⟩
 obtain⟨la,hla⟩:∃ la,laN e=la:=⟨_,rfl⟩
 have hh:Hid ((decide (r=0) && (decide (0<e.rn) && (decide (e.id≤q) && decide (q≤la))))=xmD e q):=lH (by unfold xmD;rw[hr,hla])
 obtain⟨b,hb⟩:∃ b,xmD e q=b:=⟨_,rfl⟩
 rw[hb] at hh ⊢
 rw[hr] at HC
 rw[hla] at HL
 clear hb hr hla hm
 unfold eC at HB HC HL HP ⊢
 obtain⟨c0,c1,c2,c3⟩:=H0
 unfold eC at c0 c1 c2 c3
 by_cases h0:r=0
 ·subst h0
  by_cases h1:e.rn=0
  ·have d1:decide (0<e.rn)=false:=by simp;omega
   have d0:decide (e.rn=0)=true:=by simpa using h1
   rw[d0] at HP
   clear h1 d0
   go_enter Tryz.func35,Tryz.ntmps35
   go_wp2_with fail
   refine(HC.out _).mono ?_
   rintro x w1 ⟨rfl,hb⟩
   obtain⟨⟨k0,k1,k2,k3⟩,hU⟩:=xb5 hb ⟨⟨c0,c1,c2,c3⟩,HB⟩
   have HU:=lH hU
   clear hb c0 c1 c2 c3 HB hU
   go_wp2_with fail
   refine(HP.out _).mono ?_
   rintro x w2 ⟨rfl,hb⟩
   obtain⟨⟨c0,c1,c2,c3⟩,hU⟩:=xb5 hb ⟨⟨k0,k1,k2,k3⟩,HU.out⟩
   have HU2:=lH hU
   clear hb k0 k1 k2 k3 HU hU
   go_wp2_with fail
   go_ret
   exact⟨xi9 (by rw[← hh.out,d1];simp),HU2.out⟩
  ·have d1:decide (0<e.rn)=true:=by have:=hz.out;simp;omega
   have d0:decide (e.rn=0)=false:=by simpa using h1
   rw[d0] at HP
   clear h1 d0
   by_cases h2:e.id≤q
   ·have d2:decide (e.id≤q)=true:=by simpa using h2
    clear h2
    go_enter Tryz.func35,Tryz.ntmps35
    go_wp2_with fail
    refine(HC.out _).mono ?_
    rintro x w1 ⟨rfl,hb⟩
    obtain⟨⟨k0,k1,k2,k3⟩,hU⟩:=xb5 hb ⟨⟨c0,c1,c2,c3⟩,HB⟩
    have HU:=lH hU
    clear hb c0 c1 c2 c3 HB hU
    go_wp2_with fail
    refine(HP.out _).mono ?_
    rintro x w2 ⟨rfl,hb⟩
    obtain⟨⟨c0,c1,c2,c3⟩,hU⟩:=xb5 hb ⟨⟨k0,k1,k2,k3⟩,HU.out⟩
    have HU2:=lH hU
    clear hb k0 k1 k2 k3 HU hU
    go_wp2_with fail
    refine(HL.out _).mono ?_
    rintro x w3 ⟨rfl,hb⟩
    have HU3:=lH (HU2.out.trans (hb.mono HU2.out.size))
    clear hb c0 c1 c2 c3
    go_wp2_with fail
    go_ret
    exact⟨xi9 (by rw[← hh.out,d1,d2];simp),HU3.out⟩
   ·have d2:decide (e.id≤q)=false:=by simpa using h2
    clear h2
    go_enter Tryz.func35,Tryz.ntmps35
    go_wp2_with fail
    refine(HC.out _).mono ?_
    rintro x w1 ⟨rfl,hb⟩
    obtain⟨⟨k0,k1,k2,k3⟩,hU⟩:=xb5 hb ⟨⟨c0,c1,c2,c3⟩,HB⟩
    have HU:=lH hU
    clear hb c0 c1 c2 c3 HB hU
    go_wp2_with fail
    refine(HP.out _).mono ?_
    rintro x w2 ⟨rfl,hb⟩
    obtain⟨⟨c0,c1,c2,c3⟩,hU⟩:=xb5 hb ⟨⟨k0,k1,k2,k3⟩,HU.out⟩
    have HU2:=lH hU
    clear hb k0 k1 k2 k3 HU hU
    go_wp2_with fail
    go_ret
    exact⟨xi9 (by rw[← hh.out,d1,d2];simp),HU2.out⟩
 ·have hne:(r == 0)=false:=by simpa using h0
  have hne2:decide (r=0)=false:=by simpa using h0
  clear h0
  go_enter Tryz.func35,Tryz.ntmps35
  go_wp2_with fail
  refine(HC.out _).mono ?_
  rintro x w1 ⟨rfl,hb⟩
  obtain⟨⟨k0,k1,k2,k3⟩,hU⟩:=xb5 hb ⟨⟨c0,c1,c2,c3⟩,HB⟩
  have HU:=lH hU
  clear hb c0 c1 c2 c3 HB hU
  go_wp2_with fail
  go_ret
  exact⟨xi9 (by rw[← hh.out,hne2];simp),HU.out⟩
theorem xm9 (k:Nat):bas (k+1)=bas k+p4 k:=rfl
def xkl (d:Int):Int:=zof 27 d
theorem xiM (d:Int) (h0:0≤d) (h1:d<6004799503160661):∃ k:Nat,k≤26∧bas k≤d∧d<bas k+p4 k∧xkl d=k:=by
 obtain⟨k,a,b,c,e⟩:=xzo 27 d h0 (by rw[xqC];exact h1)
 exact⟨k,by omega,b,by rw[← xm9];exact c,e⟩
theorem xwS (d:Int) (h:¬ d<6004799503160661):xkl d=-1:=xzi 27 d (by rw[xqC];omega)
theorem xBI (k:Nat):((2 ^ (2*k):Nat):Int)=p4 k:=by
 induction k with
 | zero=>rfl
 | succ k ih=>rw[show 2*(k+1)=2*k+2 from by omega,Nat.pow_add,p4,← ih];omega
theorem xuF (X:Int) (n k:Nat) (h:Len n X) (h0:p4 k≤X) (h1:X<4*p4 k):n=2*k+1∨n=2*k+2:=by
 obtain⟨h64,h⟩:=h
 have hp:=xru k
 have e:=xBI k
 have e2:=xBI (k+1)
 rw[p4] at e2
 rcases h with ⟨rfl,h⟩|⟨hn,ha,hb⟩
 ·omega
 have g1:2*k<n:=by
  rcases Nat.lt_or_ge (2*k) n with hc|hc
  ·exact hc
  ·have:=Nat.pow_le_pow_right (by omega:0<2) hc
   omega
 have g2:n - 1<2*(k+1):=by
  rcases Nat.lt_or_ge (n - 1) (2*(k+1)) with hc|hc
  ·exact hc
  ·have:=Nat.pow_le_pow_right (by omega:0<2) hc
   omega
 omega
theorem xna (d:Int) (d0:0≤d) (w:World):Calls Tryz.prog 226 #[.int .u64 d] w fun e w'=>e=.returned (.int .i64 (xkl d))∧w=w':=by
 by_cases h:d<6004799503160661
 ·obtain⟨k,hk,a,b,e⟩:=xiM d d0 h
  rw[e]
  have h3:=xpO k
  have hl:=fun n hn=>xuF (3*d+1) n k hn (by omega) (by omega)
  have HL:=lH hl
  clear hl h3 a b e
  go_enter Tryz.func226,Tryz.ntmps226
  go_wp2_with fail
  refine(xjJ _ _ (by omega) (by omega)).mono ?_
  rintro e w' ⟨⟨n,rfl,hn⟩,rfl⟩
  have hs:=HL.out n hn
  clear hn HL
  go_wp2
  go_ret
  refine⟨?_,rfl⟩
  have:n=2*k+1∨n=2*k+2:=hs
  rcases this with rfl|rfl
  ·show Ending.returned (.int .i64 _)=.returned (.int .i64 _)
   congr 2
   omega
  ·show Ending.returned (.int .i64 _)=.returned (.int .i64 _)
   congr 2
   omega
 ·rw[xwS d h]
  go_enter Tryz.func226,Tryz.ntmps226
  go_wp2_with fail
  go_ret
  exact⟨rfl,rfl⟩
def zlo:List It→Int
 | []=>0
 | t :: _=>xkl (t.1:Int)
def zhi (l:List It):Int:=match l.getLast? with|none=>0|some t=>xkl (t.1:Int)
end Go.Proofs.YtjinnigjfopbcaaGreatDoor
namespace Go.Proofs.YtjinnigjfopbcaaGreatDoor
set_option linter.unusedVariables false
set_option linter.unusedSimpArgs false
open Go.Maps
set_option maxRecDepth 20000
theorem xzf {L:List It} (hg:GoodC L) (k:Nat) (hk:k≤L.length):totF (xaj (L.take k)).2≤134217728:=(xgy hg k hk).good.tot
end Go.Proofs.YtjinnigjfopbcaaGreatDoor
namespace Go.Proofs.YtjinnigjfopbcaaGreatDoor
set_option linter.unusedVariables false
set_option linter.unusedSimpArgs false
open Go.RowKit
set_option maxRecDepth 20000
theorem xrn (s:Value) (l:List It) (w:World) (h:ChS w s l) :
  Calls Tryz.prog 148 #[.agg #[s]] w fun e w'=>e=.returned (.tuple #[.int .i64 (zlo l),.int .i64 (zhi l),.bool (decide (0<l.length))])∧Below w.heap.size w w':=by
 obtain⟨al,cap,rfl,hcap,hmx,hc⟩:=h.its
 have hfew:=h.good.few
 clear h
 cases l with
 | nil =>
  go_enter Tryz.func148,Tryz.ntmps148
  go_wp2_with fail
  refine bodyPost_ret (results_tmp3 rfl _ _ _) rfl ⟨rfl,by go_grown⟩
 | cons t m =>
  obtain⟨n,hn⟩:∃ n,(t :: m).length=n+1:=⟨m.length,by simp⟩
  obtain⟨u,hu⟩:∃ u,(t :: m)[n]?=some u:=⟨_,List.getElem?_eq_getElem (by omega)⟩
  obtain⟨g,off,rfl,hg,c0,c1⟩:=hc 0 t rfl
  obtain⟨g',off',e,hg',d0,d1⟩:=hc n u hu
  injection e with e
  injection e with e1 e2
  subst e1 e2
  have hlast:zhi (t :: m)=xkl (u.1:Int):=by
   unfold zhi
   rw[List.getLast?_eq_getElem?,hn,Nat.add_sub_cancel,hu]
  have hpos:decide (0<(t :: m).length)=true:=decide_eq_true (by omega)
  rw[hlast,hpos,show zlo (t :: m)=xkl (t.1:Int) from rfl]
  rw[hn] at hcap hfew ⊢
  obtain⟨x,s⟩:=t
  obtain⟨y,s'⟩:=u
  simp only at c0 c1 d0 d1 ⊢
  have HZ1:Hid (∀ W,Calls Tryz.prog 226 #[.int .u64 x] W fun e w'=>e=.returned (.int .i64 (xkl x))∧w'=W):=lH (fun W=>(xna (x:Int) (by omega) W).mono (fun e w' h=>⟨h.1,h.2.symm⟩))
  have HZ2:Hid (∀ W,Calls Tryz.prog 226 #[.int .u64 y] W fun e w'=>e=.returned (.int .i64 (xkl y))∧w'=W):=lH (fun W=>(xna (y:Int) (by omega) W).mono (fun e w' h=>⟨h.1,h.2.symm⟩))
  generalize xkl (x:Int)=zx at *
  generalize xkl (y:Int)=zy at *
  simp only[Nat.zero_mul,Nat.add_zero] at c0 c1
  have hi1:IntKind.i64.wrap ((n:Int)+1 - 1)=(n:Int):=by rw[IntKind.wrap_i64];omega
  have hi2:(n:Int)<(n:Int)+1:=by omega
  have hi3:((n:Int)+1 == 0)=false:=by rw[beq_eq_false_iff_ne];omega
  have hi4:(0:Int)<(n:Int)+1:=by omega
  have hi5:IntKind.i64.wrap (n:Int)=(n:Int):=by rw[IntKind.wrap_i64];omega
  have c0a:∀ O,(w.alloc O).cell? ⟨g,off,none⟩=_:=fun O=>((xae w O).cell (p:=⟨g,off,none⟩) hg).trans c0
  have c0b:∀ O O',((w.alloc O).alloc O').cell? ⟨g,off,none⟩=_:=fun O O'=>((xae (w.alloc O) O').cell (p:=⟨g,off,none⟩) (by show g<_;rw[World.size_alloc];omega)).trans (c0a O)
  have c0c:∀ O O' O'',(((w.alloc O).alloc O').alloc O'').cell? ⟨g,off,none⟩=_:=fun O O' O''=>((xae ((w.alloc O).alloc O') O'').cell (p:=⟨g,off,none⟩) (by show g<_;rw[World.size_alloc,World.size_alloc];omega)).trans (c0b O O')
  have c1a:∀ O,(w.alloc O).cell? ⟨g,off+1,none⟩=_:=fun O=>((xae w O).cell (p:=⟨g,off+1,none⟩) hg).trans c1
  have c1b:∀ O O',((w.alloc O).alloc O').cell? ⟨g,off+1,none⟩=_:=fun O O'=>((xae (w.alloc O) O').cell (p:=⟨g,off+1,none⟩) (by show g<_;rw[World.size_alloc];omega)).trans (c1a O)
  have c1c:∀ O O' O'',(((w.alloc O).alloc O').alloc O'').cell? ⟨g,off+1,none⟩=_:=fun O O' O''=>((xae ((w.alloc O).alloc O') O'').cell (p:=⟨g,off+1,none⟩) (by show g<_;rw[World.size_alloc,World.size_alloc];omega)).trans (c1b O O')
  have d0a:∀ O,(w.alloc O).cell? ⟨g,off+n*2,none⟩=_:=fun O=>((xae w O).cell (p:=⟨g,off+n*2,none⟩) hg).trans d0
  have d0b:∀ O O',((w.alloc O).alloc O').cell? ⟨g,off+n*2,none⟩=_:=fun O O'=>((xae (w.alloc O) O').cell (p:=⟨g,off+n*2,none⟩) (by show g<_;rw[World.size_alloc];omega)).trans (d0a O)
  have d0c:∀ O O' O'',(((w.alloc O).alloc O').alloc O'').cell? ⟨g,off+n*2,none⟩=_:=fun O O' O''=>((xae ((w.alloc O).alloc O') O'').cell (p:=⟨g,off+n*2,none⟩) (by show g<_;rw[World.size_alloc,World.size_alloc];omega)).trans (d0b O O')
  have d1a:∀ O,(w.alloc O).cell? ⟨g,off+n*2+1,none⟩=_:=fun O=>((xae w O).cell (p:=⟨g,off+n*2+1,none⟩) hg).trans d1
  have d1b:∀ O O',((w.alloc O).alloc O').cell? ⟨g,off+n*2+1,none⟩=_:=fun O O'=>((xae (w.alloc O) O').cell (p:=⟨g,off+n*2+1,none⟩) (by show g<_;rw[World.size_alloc];omega)).trans (d1a O)
  have d1c:∀ O O' O'',(((w.alloc O).alloc O').alloc O'').cell? ⟨g,off+n*2+1,none⟩=_:=fun O O' O''=>((xae ((w.alloc O).alloc O') O'').cell (p:=⟨g,off+n*2+1,none⟩) (by show g<_;rw[World.size_alloc,World.size_alloc];omega)).trans (d1b O O')
  clear hc hu hlast hpos hg' hg c0 c1 d0 d1
  go_enter Tryz.func148,Tryz.ntmps148
  go_wp2_with fail
  go_region
  all_goals
   go_wp2_with fail
   go_region_with (first|(with_reducible refine(HZ1.out _).mono ?_;rintro e w1 ⟨rfl,rfl⟩)|(with_reducible refine(HZ2.out _).mono ?_;rintro e w1 ⟨rfl,rfl⟩))
   all_goals
    go_wp2_with fail
    refine bodyPost_ret (results_tmp3 rfl _ _ _) rfl ⟨rfl,by go_grown⟩
end Go.Proofs.YtjinnigjfopbcaaGreatDoor
namespace Go.Proofs.YtjinnigjfopbcaaGreatDoor
set_option linter.unusedVariables false
set_option linter.unusedSimpArgs false
open Go.RowKit Go.Maps Go.WideMaps
set_option maxRecDepth 20000
theorem xAq:laidOutB Tryz.prog=true:=by kernel_rfl
theorem xBD:Keyed Tryz.prog 347:=Keyed.of_law (deep_law_gate xAq (of_decide_eq_true (by kernel_rfl)) (of_decide_eq_true (by kernel_rfl)) (by kernel_rfl) (by kernel_rfl))
def klN (q:Int × Int):Lit:=.string (keyBytes [.int .u64 q.1,.int .u32 q.2])
def xsG (q:Int × Int):Prop:=(0≤q.1∧q.1≤18446744073709551615)∧(0≤q.2∧q.2≤4294967295)
theorem xsQ (n:Nat) (x:Int) (h0:0≤x) (h1:x≤18446744073709551615):Tryz.prog.keyLits (n+1) 26 [.int .u64 x]=some [.int .u64 x]:=by
 have hw:(Lit.int .u64 x).wf=true:=WalkArith.wf_u64 ⟨h0,h1⟩
 simp[Program.keyLits,Tryz.underlying26,hw]
theorem xvo (n:Nat) (x:Int) (h0:0≤x) (h1:x≤4294967295):Tryz.prog.keyLits (n+1) 72 [.int .u32 x]=some [.int .u32 x]:=by
 have hw:(Lit.int .u32 x).wf=true:=WalkArith.wf_u32 ⟨h0,h1⟩
 simp[Program.keyLits,Tryz.underlying72,hw]
theorem xoz (n:Nat) (q:Int × Int) (h:xsG q):Tryz.prog.keyLits (n+2) 347 [.int .u64 q.1,.int .u32 q.2]=some [.int .u64 q.1,.int .u32 q.2]:=by
 have hc:Tryz.prog.cellsOf 347=2:=by kernel_rfl
 have hc1:Tryz.prog.cellsOf 26=1:=by kernel_rfl
 have hc2:Tryz.prog.cellsOf 72=1:=by kernel_rfl
 have h1:=xsQ n q.1 h.1.1 h.1.2
 have h2:=xvo n q.2 h.2.1 h.2.2
 unfold Program.keyLits
 rw[Tryz.underlying347]
 simp[hc,hc1,hc2,h1,h2]
theorem xjp (q:Int × Int):(Value.agg #[.int .u64 q.1,.int .u32 q.2]).formed Tryz.prog 347=true:=by
 have hc:Tryz.prog.cellsOf 347=2:=by kernel_rfl
 unfold Value.formed
 rw[Tryz.underlying347]
 simp[hc]
theorem xpy (q:Int × Int) (h:xsG q):keyOf Tryz.prog 347 (.agg #[.int .u64 q.1,.int .u32 q.2])=some (klN q):=by
 have hk:Tryz.prog.keyType 347=true:=by kernel_rfl
 have h3:=xoz (Tryz.prog.types.size - 1) q h
 have hs:Tryz.prog.types.size - 1+2=Tryz.prog.types.size+1:=by kernel_rfl
 rw[hs] at h3
 unfold keyOf
 rw[Tryz.underlying347]
 simp only[hk,xjp q,Bool.and_self,if_true]
 show Option.map _ (Tryz.prog.keyLits (Tryz.prog.types.size+1) 347 [.int .u64 q.1,.int .u32 q.2])=_
 rw[h3]
 rfl
theorem xzq {p q:Int × Int} (hp:xsG p) (hq:xsG q) (h:klN p=klN q):p=q:=by
 have h1:=xpy p hp
 have h2:=xpy q hq
 rw[h] at h1
 have h3:=xBD.inj h1 h2
 simp only[Value.agg.injEq,Array.mk.injEq,List.cons.injEq,Value.int.injEq,true_and,and_true] at h3
 exact Prod.ext h3.1 h3.2
theorem xq6 {p q:Int × Int} (hp:xsG p) (hq:xsG q):(klN p).sameKey (klN q)=decide (p=q):=by
 by_cases h:p=q
 ·subst h;simp[klN,Lit.sameKey]
 ·rw[decide_eq_false h]
  show (keyBytes _ == keyBytes _)=false
  rw[beq_eq_false_iff_ne]
  exact fun e=>h (xzq hp hq (by unfold klN;rw[e]))
theorem xAz (q:Int × Int):WideAt.IsKeyLit (klN q):=trivial
theorem xwJ (l:List (Int × Int)) (h:∀ q ∈ l,xsG q):∃ d:List (Int × Int),(l.map klN).foldl addKey []=d.map klN∧d.length=unl l∧∀ q,q ∈ d↔q ∈ l:=by
 have key:∀ (n:Nat),n≤l.length→∃ d:List (Int × Int),((l.take n).map klN).foldl addKey []=d.map klN∧d.length=unl (l.take n)∧∀ q,q ∈ d↔q ∈ l.take n:=by
  intro n
  induction n with
  | zero=>intro _;exact⟨[],rfl,rfl,by simp⟩
  | succ n ih =>
   intro hn
   obtain⟨d,h1,h2,h3⟩:=ih (by omega)
   obtain⟨p,hp⟩:∃ p,l[n]?=some p:=⟨_,List.getElem?_eq_getElem (by omega)⟩
   have hpl:p ∈ l:=List.mem_of_getElem? hp
   have ht:l.take (n+1)=l.take n++[p]:=by rw[List.take_add_one,hp];rfl
   have hany:(d.map klN).any (fun y=>y.sameKey (klN p))=decide (p ∈ l.take n):=by
    rw[List.any_map]
    by_cases hm:p ∈ l.take n
    ·rw[decide_eq_true hm,List.any_eq_true]
     exact⟨p,(h3 p).2 hm,by simp[Function.comp,xq6 (h p hpl) (h p hpl)]⟩
    ·rw[decide_eq_false hm,List.any_eq_false]
     intro q hq
     have hql:q ∈ l:=List.mem_of_mem_take ((h3 q).1 hq)
     simp only[Function.comp,xq6 (h q hql) (h p hpl),decide_eq_true_eq]
     exact fun e=>hm (e ▸ (h3 q).1 hq)
   rw[ht,List.map_append,List.foldl_append,h1,xuD]
   simp only[List.map_cons,List.map_nil,List.foldl_cons,List.foldl_nil,addKey,hany]
   by_cases hm:p ∈ l.take n
   ·rw[if_pos hm,if_pos (decide_eq_true hm)]
    exact⟨d,rfl,h2,fun q=>by rw[List.mem_append,List.mem_singleton,h3];exact⟨.inl,fun e=>e.elim id (fun e=>e ▸ hm)⟩⟩
   ·rw[if_neg hm,if_neg (by simpa using hm)]
    exact⟨d++[p],by simp,by rw[List.length_append,h2];rfl,fun q=>by rw[List.mem_append,List.mem_append,h3]⟩
 have:=key l.length (Nat.le_refl _)
 rwa[List.take_length] at this
theorem xuA (H:Type) (u:DataW H) (l:List (Int × Int)) (h:∀ q ∈ l,xsG q):Maps.size (setOf u (l.map klN))=unl l:=by
 obtain⟨d,h1,h2,_⟩:=xwJ l h
 rw[size_setOf u _ (fun x hx=>by obtain⟨q,_,rfl⟩:=List.mem_map.1 hx;exact xAz q),h1,List.length_map,h2]
end Go.Proofs.YtjinnigjfopbcaaGreatDoor
