/- bMI bRn. -/
import Derived.Test.YtjinnigjfopbcaaGreatDoorVs
import Derived.Test.YtjinnigjfopbcaaGreatDoorVb3
set_option maxHeartbeats 16000000
namespace Go.Proofs.YtjinnigjfopbcaaGreatDoor
set_option linter.unusedVariables false
set_option linter.unusedSimpArgs false
open Go.RowKit
set_option maxRecDepth 20000
theorem xcG:∀ (l:List En) (k:Nat) (e:En) (x:Int),l[k]?=some e→(xaw l).set (k*4) (.int .u64 x)=xaw (l.set k { e with id:=x })
 | [],k,e,x,h=>by simp at h
 | a :: l,0,e,x,h=>by
  obtain rfl:a=e:=by simpa using h
  rfl
 | a :: l,k+1,e,x,h=>by
  have ih:=xcG l k e x (by simpa using h)
  show (cE a++xaw l).set _ _=cE a++xaw (l.set k { e with id:=x })
  rw[← ih,show (k+1)*4=(k*4)+1+1+1+1 from by omega]
  rfl
theorem xcw:∀ (l:List En) (k:Nat) (e:En) (x:Int),l[k]?=some e→(xaw l).set (k*4+1) (.int .u64 x)=xaw (l.set k { e with off:=x })
 | [],k,e,x,h=>by simp at h
 | a :: l,0,e,x,h=>by
  obtain rfl:a=e:=by simpa using h
  rfl
 | a :: l,k+1,e,x,h=>by
  have ih:=xcw l k e x (by simpa using h)
  show (cE a++xaw l).set _ _=cE a++xaw (l.set k { e with off:=x })
  rw[← ih,show (k+1)*4+1=(k*4+1)+1+1+1+1 from by omega]
  rfl
theorem xeE:∀ (l:List En) (k:Nat) (e:En) (x:Int),l[k]?=some e→(xaw l).set (k*4+2) (.int .u32 x)=xaw (l.set k { e with ln:=x })
 | [],k,e,x,h=>by simp at h
 | a :: l,0,e,x,h=>by
  obtain rfl:a=e:=by simpa using h
  rfl
 | a :: l,k+1,e,x,h=>by
  have ih:=xeE l k e x (by simpa using h)
  show (cE a++xaw l).set _ _=cE a++xaw (l.set k { e with ln:=x })
  rw[← ih,show (k+1)*4+2=(k*4+2)+1+1+1+1 from by omega]
  rfl
theorem xeR:∀ (l:List En) (k:Nat) (e:En) (x:Int),l[k]?=some e→(xaw l).set (k*4+3) (.int .u32 x)=xaw (l.set k { e with rn:=x })
 | [],k,e,x,h=>by simp at h
 | a :: l,0,e,x,h=>by
  obtain rfl:a=e:=by simpa using h
  rfl
 | a :: l,k+1,e,x,h=>by
  have ih:=xeR l k e x (by simpa using h)
  show (cE a++xaw l).set _ _=cE a++xaw (l.set k { e with rn:=x })
  rw[← ih,show (k+1)*4+3=(k*4+3)+1+1+1+1 from by omega]
  rfl
theorem xmZ {a w w':World} {row:Option Nat} (h:a.grownBy w row) (hb:Below w.heap.size w w'):a.grownBy w' row :=
 ⟨hb.os.trans h.os,hb.tape.trans h.tape,hb.output.trans h.output,Nat.le_trans h.size hb.size,fun k hk hg=>(hb.block k (Nat.lt_of_lt_of_le hk h.size)).trans (h.block k hk hg)⟩
theorem xg7 {w w1 w2:World} {g:Nat} (h:w.grownBy w1 (some g)) (h':w1.grownBy w2 (some g)):w.grownBy w2 (some g) :=
 ⟨h'.os.trans h.os,h'.tape.trans h.tape,h'.output.trans h.output,Nat.le_trans h.size h'.size,fun k hk hg=>(h'.block k (Nat.lt_of_lt_of_le hk h.size) hg).trans (h.block k hk hg)⟩
set_option maxRecDepth 20000 in
theorem xyG (v:Value) (B:Nat) (E:TypeId) (l:List En) (k:Nat) (e:En) (x:Int) (w:World) (hv:xaQ w B E v l) (x0:0≤x) (x1:x≤18446744073709551615) (he:l[k]?=some e) (hz:k=0):Calls Tryz.prog 107 #[v,.int .i64 0,.int .i64 k,.int .u64 x] w fun y w'=>(∃ u,y=.returned u)∧xaQ w' B E v (l.set k { e with id:=x })∧w.grownBy w' v.ownBlock:=by
 have hl:k<l.length:=(List.getElem?_eq_some_iff.1 he).1
 have hkl:(k:Int)<(l.length:Int):=by omega
 obtain⟨g,cap,rfl,hB,hg,hle,hcm,hc,fr⟩:∃ g cap,v=.slice (some ⟨g,0,none⟩) l.length cap∧B≤g∧g<w.heap.size∧l.length≤cap∧cap≤maxLen∧(∀ j,j<l.length*4→w.cell? ⟨g,j,none⟩=(xaw l)[j]?)∧∀ j,w.frozen? ⟨g,j,none⟩=false:=by
  rcases hv.form with ⟨_,rfl⟩|h
  ·simp at hl
  ·exact h
 obtain⟨a0,a1,a2,a3⟩:=xbp l k e he
 have c0:=(hc (k*4) (by omega)).trans a0
 have c1:=(hc (k*4+1) (by omega)).trans a1
 have c2:=(hc (k*4+2) (by omega)).trans a2
 have c3:=(hc (k*4+3) (by omega)).trans a3
 have HV:=lH hv
 unfold maxLen at hcm
 have hd:decide (0<(k:Int))=false:=by simp;omega
 have hdn:decide (0<k)=false:=by simp;omega
 clear hz hc
 go_enter Tryz.func107,Tryz.ntmps107
 go_wp2_with fail
 have q0:=World.ownsRow.stored HV.out (k*4) (.int .u64 (x))
 rw[xcG l k e _ he] at q0
 go_end0
 exact⟨⟨_,rfl⟩,xaJ q0.1 (by simp) rfl,q0.2⟩
set_option maxRecDepth 20000 in
theorem xzb (v:Value) (B:Nat) (E:TypeId) (l:List En) (k:Nat) (e:En) (j:Nat) (f:En) (x:Int) (w:World) (hv:xaQ w B E v l) (x0:0≤x) (x1:x≤18446744073709551615) (he:l[k]?=some e) (hj:k=j+1) (hf:l[j]?=some f) (hmf:xaY f):Calls Tryz.prog 107 #[v,.int .i64 0,.int .i64 k,.int .u64 x] w fun y w'=>(∃ u,y=.returned u)∧xaQ w' B E v (l.set k { e with id:=IntKind.u64.wrap (f.id+x) })∧w.grownBy w' v.ownBlock:=by
 have hl:k<l.length:=(List.getElem?_eq_some_iff.1 he).1
 have hkl:(k:Int)<(l.length:Int):=by omega
 obtain⟨g,cap,rfl,hB,hg,hle,hcm,hc,fr⟩:∃ g cap,v=.slice (some ⟨g,0,none⟩) l.length cap∧B≤g∧g<w.heap.size∧l.length≤cap∧cap≤maxLen∧(∀ j,j<l.length*4→w.cell? ⟨g,j,none⟩=(xaw l)[j]?)∧∀ j,w.frozen? ⟨g,j,none⟩=false:=by
  rcases hv.form with ⟨_,rfl⟩|h
  ·simp at hl
  ·exact h
 obtain⟨a0,a1,a2,a3⟩:=xbp l k e he
 have c0:=(hc (k*4) (by omega)).trans a0
 have c1:=(hc (k*4+1) (by omega)).trans a1
 have c2:=(hc (k*4+2) (by omega)).trans a2
 have c3:=(hc (k*4+3) (by omega)).trans a3
 have HV:=lH hv
 unfold maxLen at hcm
 have hjl':j<l.length:=by omega
 obtain⟨b0,b1,b2,b3⟩:=xbp l j f hf
 have m0:=(hc (j*4) (by omega)).trans b0
 have m1:=(hc (j*4+1) (by omega)).trans b1
 have m2:=(hc (j*4+2) (by omega)).trans b2
 have m3:=(hc (j*4+3) (by omega)).trans b3
 have hd:decide (0<(k:Int))=true:=by simp;omega
 have hdn:decide (0<k)=true:=by simp;omega
 have hk1:(k:Int) - 1=(j:Int):=by omega
 have hjl:(j:Int)<(l.length:Int):=by omega
 have hk2:IntKind.i64.wrap (j:Int)=(j:Int):=by rw[IntKind.wrap_i64] <;> omega
 have r3:IntKind.u64.wrap f.ln=f.ln:=by unfold xaY at hmf;rw[wrap_u64];omega
 have hne:∀ y z:Nat,y<4→z<4→j*4+y≠k*4+z:=by omega
 clear hc hmf hj hf
 go_enter Tryz.func107,Tryz.ntmps107
 go_wp2_with fail
 have q0:=World.ownsRow.stored HV.out (k*4) (.int .u64 (x))
 have q1:=World.ownsRow.stored q0.1 (k*4) (.int .u64 (IntKind.u64.wrap (f.id+x)))
 rw[xcG l k e _ he] at q0 q1
 rw[xcG (l.set k { e with id:=x }) k { e with id:=x } _ (by rw[List.getElem?_set,if_pos rfl,if_pos hl])] at q1
 rw[List.set_set] at q1
 go_end0
 exact⟨⟨_,rfl⟩,xaJ q1.1 (by simp) rfl,xg7 q0.2 q1.2⟩
set_option maxRecDepth 20000 in
theorem xzZ (v:Value) (B:Nat) (E:TypeId) (l:List En) (k:Nat) (e:En) (x:Int) (w:World) (hv:xaQ w B E v l) (x0:0≤x) (x1:x≤18446744073709551615) (he:l[k]?=some e):Calls Tryz.prog 107 #[v,.int .i64 1,.int .i64 k,.int .u64 x] w fun y w'=>(∃ u,y=.returned u)∧xaQ w' B E v (l.set k { e with rn:=IntKind.u32.wrap x })∧w.grownBy w' v.ownBlock:=by
 have hl:k<l.length:=(List.getElem?_eq_some_iff.1 he).1
 have hkl:(k:Int)<(l.length:Int):=by omega
 obtain⟨g,cap,rfl,hB,hg,hle,hcm,hc,fr⟩:∃ g cap,v=.slice (some ⟨g,0,none⟩) l.length cap∧B≤g∧g<w.heap.size∧l.length≤cap∧cap≤maxLen∧(∀ j,j<l.length*4→w.cell? ⟨g,j,none⟩=(xaw l)[j]?)∧∀ j,w.frozen? ⟨g,j,none⟩=false:=by
  rcases hv.form with ⟨_,rfl⟩|h
  ·simp at hl
  ·exact h
 obtain⟨a0,a1,a2,a3⟩:=xbp l k e he
 have c0:=(hc (k*4) (by omega)).trans a0
 have c1:=(hc (k*4+1) (by omega)).trans a1
 have c2:=(hc (k*4+2) (by omega)).trans a2
 have c3:=(hc (k*4+3) (by omega)).trans a3
 have HV:=lH hv
 unfold maxLen at hcm
 clear hc
 go_enter Tryz.func107,Tryz.ntmps107
 go_wp2_with fail
 have q0:=World.ownsRow.stored HV.out (k*4+3) (.int .u32 (IntKind.u32.wrap x))
 rw[xeR l k e _ he] at q0
 go_end0
 exact⟨⟨_,rfl⟩,xaJ q0.1 (by simp) rfl,q0.2⟩
set_option maxRecDepth 20000 in
theorem xzQ (v:Value) (B:Nat) (E:TypeId) (l:List En) (k:Nat) (e:En) (x:Int) (w:World) (hv:xaQ w B E v l) (x0:0≤x) (x1:x≤18446744073709551615) (he:l[k]?=some e):Calls Tryz.prog 107 #[v,.int .i64 2,.int .i64 k,.int .u64 x] w fun y w'=>(∃ u,y=.returned u)∧xaQ w' B E v (l.set k { e with ln:=IntKind.u32.wrap x })∧w.grownBy w' v.ownBlock:=by
 have hl:k<l.length:=(List.getElem?_eq_some_iff.1 he).1
 have hkl:(k:Int)<(l.length:Int):=by omega
 obtain⟨g,cap,rfl,hB,hg,hle,hcm,hc,fr⟩:∃ g cap,v=.slice (some ⟨g,0,none⟩) l.length cap∧B≤g∧g<w.heap.size∧l.length≤cap∧cap≤maxLen∧(∀ j,j<l.length*4→w.cell? ⟨g,j,none⟩=(xaw l)[j]?)∧∀ j,w.frozen? ⟨g,j,none⟩=false:=by
  rcases hv.form with ⟨_,rfl⟩|h
  ·simp at hl
  ·exact h
 obtain⟨a0,a1,a2,a3⟩:=xbp l k e he
 have c0:=(hc (k*4) (by omega)).trans a0
 have c1:=(hc (k*4+1) (by omega)).trans a1
 have c2:=(hc (k*4+2) (by omega)).trans a2
 have c3:=(hc (k*4+3) (by omega)).trans a3
 have HV:=lH hv
 unfold maxLen at hcm
 clear hc
 go_enter Tryz.func107,Tryz.ntmps107
 go_wp2_with fail
 have q0:=World.ownsRow.stored HV.out (k*4+2) (.int .u32 (IntKind.u32.wrap x))
 rw[xeE l k e _ he] at q0
 go_end0
 exact⟨⟨_,rfl⟩,xaJ q0.1 (by simp) rfl,q0.2⟩
set_option maxRecDepth 20000 in
theorem xzk (v:Value) (B:Nat) (E:TypeId) (l:List En) (k:Nat) (e:En) (x:Int) (w:World) (hv:xaQ w B E v l) (x0:0≤x) (x1:x≤18446744073709551615) (he:l[k]?=some e) (hz:¬ x=0):Calls Tryz.prog 107 #[v,.int .i64 3,.int .i64 k,.int .u64 x] w fun y w'=>(∃ u,y=.returned u)∧xaQ w' B E v (l.set k { e with off:=IntKind.u64.wrap (x - 1) })∧w.grownBy w' v.ownBlock:=by
 have hl:k<l.length:=(List.getElem?_eq_some_iff.1 he).1
 have hkl:(k:Int)<(l.length:Int):=by omega
 obtain⟨g,cap,rfl,hB,hg,hle,hcm,hc,fr⟩:∃ g cap,v=.slice (some ⟨g,0,none⟩) l.length cap∧B≤g∧g<w.heap.size∧l.length≤cap∧cap≤maxLen∧(∀ j,j<l.length*4→w.cell? ⟨g,j,none⟩=(xaw l)[j]?)∧∀ j,w.frozen? ⟨g,j,none⟩=false:=by
  rcases hv.form with ⟨_,rfl⟩|h
  ·simp at hl
  ·exact h
 obtain⟨a0,a1,a2,a3⟩:=xbp l k e he
 have c0:=(hc (k*4) (by omega)).trans a0
 have c1:=(hc (k*4+1) (by omega)).trans a1
 have c2:=(hc (k*4+2) (by omega)).trans a2
 have c3:=(hc (k*4+3) (by omega)).trans a3
 have HV:=lH hv
 unfold maxLen at hcm
 have hd:(x == 0)=false:=by simpa using hz
 clear hz hc
 go_enter Tryz.func107,Tryz.ntmps107
 go_wp2_with fail
 have q0:=World.ownsRow.stored HV.out (k*4+1) (.int .u64 (IntKind.u64.wrap (x - 1)))
 rw[xcw l k e _ he] at q0
 go_end0
 exact⟨⟨_,rfl⟩,xaJ q0.1 (by simp) rfl,q0.2⟩
set_option maxRecDepth 20000 in
theorem xzm (v:Value) (B:Nat) (E:TypeId) (l:List En) (k:Nat) (e:En) (j:Nat) (f:En) (x:Int) (w:World) (hv:xaQ w B E v l) (x0:0≤x) (x1:x≤18446744073709551615) (he:l[k]?=some e) (hj:k=j+1) (hf:l[j]?=some f) (hmf:xaY f) (hz:x=0):Calls Tryz.prog 107 #[v,.int .i64 3,.int .i64 k,.int .u64 x] w fun y w'=>(∃ u,y=.returned u)∧xaQ w' B E v (l.set k { e with off:=IntKind.u64.wrap (f.off+f.ln) })∧w.grownBy w' v.ownBlock:=by
 have hl:k<l.length:=(List.getElem?_eq_some_iff.1 he).1
 have hkl:(k:Int)<(l.length:Int):=by omega
 obtain⟨g,cap,rfl,hB,hg,hle,hcm,hc,fr⟩:∃ g cap,v=.slice (some ⟨g,0,none⟩) l.length cap∧B≤g∧g<w.heap.size∧l.length≤cap∧cap≤maxLen∧(∀ j,j<l.length*4→w.cell? ⟨g,j,none⟩=(xaw l)[j]?)∧∀ j,w.frozen? ⟨g,j,none⟩=false:=by
  rcases hv.form with ⟨_,rfl⟩|h
  ·simp at hl
  ·exact h
 obtain⟨a0,a1,a2,a3⟩:=xbp l k e he
 have c0:=(hc (k*4) (by omega)).trans a0
 have c1:=(hc (k*4+1) (by omega)).trans a1
 have c2:=(hc (k*4+2) (by omega)).trans a2
 have c3:=(hc (k*4+3) (by omega)).trans a3
 have HV:=lH hv
 unfold maxLen at hcm
 have hjl':j<l.length:=by omega
 obtain⟨b0,b1,b2,b3⟩:=xbp l j f hf
 have m0:=(hc (j*4) (by omega)).trans b0
 have m1:=(hc (j*4+1) (by omega)).trans b1
 have m2:=(hc (j*4+2) (by omega)).trans b2
 have m3:=(hc (j*4+3) (by omega)).trans b3
 have hd:decide (0<(k:Int))=true:=by simp;omega
 have hdn:decide (0<k)=true:=by simp;omega
 have hk1:(k:Int) - 1=(j:Int):=by omega
 have hjl:(j:Int)<(l.length:Int):=by omega
 have hk2:IntKind.i64.wrap (j:Int)=(j:Int):=by rw[IntKind.wrap_i64] <;> omega
 have r3:IntKind.u64.wrap f.ln=f.ln:=by unfold xaY at hmf;rw[wrap_u64];omega
 have hne:∀ y z:Nat,y<4→z<4→j*4+y≠k*4+z:=by omega
 subst hz
 clear hc hmf hj hf
 go_enter Tryz.func107,Tryz.ntmps107
 go_wp2_with fail
 go_region
 go_wp2_with fail
 have q0:=World.ownsRow.stored HV.out (k*4+1) (.int .u64 (IntKind.u64.wrap (-1)))
 have q1:=World.ownsRow.stored q0.1 (k*4+1) (.int .u64 (IntKind.u64.wrap (f.off+f.ln)))
 rw[xcw l k e _ he] at q0 q1
 rw[xcw (l.set k { e with off:=IntKind.u64.wrap (-1) }) k { e with off:=IntKind.u64.wrap (-1) } _ (by rw[List.getElem?_set,if_pos rfl,if_pos hl])] at q1
 rw[List.set_set] at q1
 go_end0
 exact⟨⟨_,rfl⟩,xaQ.below (xaJ q1.1 (by simp) rfl) (Below.drew (Below.refl _ _)),xmZ (xg7 q0.2 q1.2) (Below.drew (Below.refl _ _))⟩
theorem xem (x:Int):IntKind.u32.wrap x=x % 4294967296:=by simp[IntKind.wrap,IntKind.signed,IntKind.bits]
theorem xnX (v:Value) (B:Nat) (E:TypeId) (l:List En) (c k:Nat) (x:Int) (w:World) (hv:xaQ w B E v l) (hm:xas l) (hc:c<4) (hk:k<l.length) (x0:0≤x) (x1:x≤18446744073709551615) (hz:¬ (c=3∧k=0∧x=0)) :
  Calls Tryz.prog 107 #[v,.int .i64 (c:Int),.int .i64 (k:Int),.int .u64 x] w fun y w'=>(∃ u,y=.returned u)∧xaQ w' B E v (xdW l c k x)∧w.grownBy w' v.ownBlock:=by
 obtain⟨e,he⟩:∃ t,l[k]?=some t:=⟨_,List.getElem?_eq_getElem hk⟩
 have hg:=xpl he
 unfold xdW
 rcases(show c=0∨c=1∨c=2∨c=3 by omega) with rfl|rfl|rfl|rfl
 ·rw[xxG,hg]
  by_cases h:k=0
  ·rw[if_neg (by omega)]
   exact xyG v B E l k e x w hv x0 x1 he h
  ·obtain⟨j,hj⟩:∃ j:Nat,k=j+1:=⟨k - 1,by omega⟩
   obtain⟨f,hf⟩:∃ t,l[j]?=some t:=⟨_,List.getElem?_eq_getElem (by omega)⟩
   rw[if_pos (by omega),show k - 1=j from by omega,xpl hf,← wrap_u64]
   exact xzb v B E l k e j f x w hv x0 x1 he hj hf (hm f (List.mem_of_getElem? hf))
 ·rw[xyp,hg,← xem]
  exact xzZ v B E l k e x w hv x0 x1 he
 ·rw[xyD,hg,← xem]
  exact xzQ v B E l k e x w hv x0 x1 he
 ·rw[xw0,hg]
  by_cases h:x=0
  ·obtain⟨j,hj⟩:∃ j:Nat,k=j+1:=⟨k - 1,by omega⟩
   obtain⟨f,hf⟩:∃ t,l[j]?=some t:=⟨_,List.getElem?_eq_getElem (by omega)⟩
   rw[if_pos h,show k - 1=j from by omega]
   unfold nxE
   rw[xpl hf,← wrap_u64]
   exact xzm v B E l k e j f x w hv x0 x1 he hj hf (hm f (List.mem_of_getElem? hf)) h
  ·rw[if_neg h,show x - 1=IntKind.u64.wrap (x - 1) from by rw[IntKind.wrap_u64] <;> omega]
   exact xzk v B E l k e x w hv x0 x1 he h
theorem xeN (t:ByteArray) (a:Nat):rst t (a:Int)=t.data.toList.drop a:=by unfold rst;rw[Int.toNat_natCast]
theorem xlH (t:ByteArray) (a:Nat) (r:Int) (w:World) (hm:t.size≤maxLen) (ha:a≤t.size) (hr:xbj (t.data.toList.drop a)=r) (h:r≠0):Calls Tryz.prog 105 #[.agg #[.string t,.int .i64 (a:Int),.int .i64 0]] w (xcX t 0 (a:Int) r w) :=
 xwP t a r w hm (by omega) (by omega) (by rw[xeN];exact hr) h
theorem xfT (t:ByteArray) (a:Nat) (w:World) (hm:t.size≤maxLen) (ha:a≤t.size) (hr:xbj (t.data.toList.drop a)=0):Calls Tryz.prog 105 #[.agg #[.string t,.int .i64 (a:Int),.int .i64 0]] w (xcX t (xaZ (t.data.toList.drop a)) ((a+(xaK 10 (t.data.toList.drop a)+1):Nat):Int) 0 w):=by
 have:=xxP t a w hm (by omega) (by omega) (by rw[xeN];exact hr)
 rw[xeN] at this
 unfold xl0 at this
 rw[show ((a+(xaK 10 (t.data.toList.drop a)+1):Nat):Int)=(a:Int)+((xaK 10 (t.data.toList.drop a)+1:Nat):Int) from by omega]
 exact this
theorem xp8 (t:ByteArray) (a:Nat) (ha:a≤t.size) (hr:xbj (t.data.toList.drop a)=0):a+(xaK 10 (t.data.toList.drop a)+1)≤t.size:=by
 have h:=(xde _ hr).2.1
 rw[List.length_drop] at h
 have:t.data.toList.length=t.size:=by simp
 omega
theorem xc5 {n:Nat} {l:List En} (hl:l.length=n):xas l↔∀ j,j<n→xaY (gE l j):=by
 constructor
 ·exact fun h j hj=>h _ (xht l j (by omega))
 ·intro h e he
  obtain⟨j,hj,rfl⟩:=List.getElem_of_mem he
  have:=h j (by omega)
  unfold gE at this
  rwa[List.getD_eq_getElem?_getD,List.getElem?_eq_getElem hj] at this
def xdF (wx:World) (h:Nat) (t:ByteArray) (p q:Int):Prop :=
 wx.cell? ⟨h,0,none⟩=some (.string t)∧wx.cell? ⟨h,1,none⟩=some (.int .i64 p)∧wx.cell? ⟨h,2,none⟩=some (.int .i64 q)∧∀ o,wx.frozen? ⟨h,o,none⟩=false
theorem xco {w w':World} {h o:Nat} (hb:Below w.heap.size w w') (hl:h<w.heap.size):w'.frozen? ⟨h,o,none⟩=w.frozen? ⟨h,o,none⟩:=by simp[World.frozen?,hb.block h hl]
theorem xdF.later {w w':World} {h:Nat} {t:ByteArray} {p q:Int} (s:xdF w h t p q) (hb:Below w.heap.size w w'):xdF w' h t p q :=
 ⟨xad hb s.1,xad hb s.2.1,xad hb s.2.2.1,fun o=>(xco hb (xbz (a:=⟨h,0,none⟩) s.1)).trans (s.2.2.2 o)⟩
theorem xdF.grown {w w':World} {h:Nat} {r:Option Nat} {t:ByteArray} {p q:Int} (s:xdF w h t p q) (hg:w.grownBy w' r) (hr:r≠some h):xdF w' h t p q:=by
 have hl:=xbz (a:=⟨h,0,none⟩) s.1
 have hb:=hg.block h hl (fun e=>hr e.symm)
 refine⟨?_,?_,?_,fun o=>?_⟩
 ·simpa[World.cell?,hb] using s.1
 ·simpa[World.cell?,hb] using s.2.1
 ·simpa[World.cell?,hb] using s.2.2.1
 ·simpa[World.frozen?,hb] using s.2.2.2 o
theorem xdF.made (w:World) (t:ByteArray) (p q:Int) (T:TypeId):xdF (w.alloc (.cells #[.string t,.int .i64 p,.int .i64 q] T)) w.heap.size t p q:=by
 refine⟨?_,?_,?_,fun o=>?_⟩
 ·rw[World.cell?_alloc_mark];rfl
 ·rw[World.cell?_alloc_mark];rfl
 ·rw[World.cell?_alloc_mark];rfl
 ·simp only[World.frozen?]
  rw[heap_alloc_new]
  simp
theorem xja {w:World} {h:Nat} {t t':ByteArray} {p p' q q':Int} (s:xdF w h t p q):xdF (((w.setCell ⟨h,0,none⟩ (.string t')).setCell ⟨h,1,none⟩ (.int .i64 p')).setCell ⟨h,2,none⟩ (.int .i64 q')) h t' p' q':=by
 obtain⟨c0,c1,c2,f0⟩:=s
 exact⟨by simp[go_sem,c0],by simp[go_sem,c1],by simp[go_sem,c2],fun o=>by simp[go_sem,f0]⟩
theorem xaQ.setCell {w:World} {B:Nat} {E:TypeId} {v:Value} {l:List En} (h:xaQ w B E v l) (a:Addr) (u:Value) (ha:a.block<B):xaQ (w.setCell a u) B E v l:=by
 obtain⟨h1,h2⟩:=h
 refine⟨h1,?_⟩
 rcases h2 with h2|⟨g,cap,cur,hv,hg,hh,r⟩
 ·exact .inl h2
 ·refine .inr ⟨g,cap,cur,hv,hg,?_,r⟩
  rw[Below.heap_setCell w a u g (by omega)];exact hh
theorem xhm (n:Nat):xaw (xax n)=(madeCells (eC xcF) (n*4)).toList:=by
 apply List.ext_getElem?
 intro i
 have hl:(xaw (xax n)).length=n*4:=by rw[xbU];simp[xax]
 by_cases h:i<n*4
 ·have hj:(xax n)[i / 4]?=some xcF:=by unfold xax;rw[List.getElem?_replicate,if_pos (by omega)]
  obtain⟨a0,a1,a2,a3⟩:=xbp _ _ _ hj
  have hr:(madeCells (eC xcF) (n*4)).toList[i]?=some ((eC xcF)[i % 4]!):=by
   unfold madeCells
   simp[h,eC]
  rw[hr]
  rcases(show i % 4=0∨i % 4=1∨i % 4=2∨i % 4=3 by omega) with e|e|e|e
  ·rw[e,show i=i / 4*4 from by omega,a0];rfl
  ·rw[e,show i=i / 4*4+1 from by omega,a1];rfl
  ·rw[e,show i=i / 4*4+2 from by omega,a2];rfl
  ·rw[e,show i=i / 4*4+3 from by omega,a3];rfl
 ·rw[List.getElem?_eq_none (by omega),List.getElem?_eq_none (by rw[Array.length_toList,size_madeCells];omega)]
theorem xqv (n:Nat) (W:World) (h:n≤4096):(Instr.makeSlice 31 (.int .u64 (n:Int)) (.int .u64 (n:Int))).run Tryz.prog W=.ok (.slice (some ⟨W.heap.size,0,none⟩) n n) (W.alloc (.cells (madeCells (eC xcF) (n*4)) 118)):=by
 obtain⟨i0,hi,hz0,hz1,hz2⟩:=xaq xjl
 have:=run_make (P:=Tryz.prog) W 31 118 i0 _ Tryz.underlying31 hi hz0 .u64 .u64 (n:Int) (n:Int) (by omega) (by omega) (by rw[hz2];omega) (by omega)
 rw[this,hz1]
 simp only[Int.toNat_natCast]
 rfl
theorem xr9 (w:World) (n:Nat) (h:n≤4096):xaQ (w.alloc (.cells (madeCells (eC xcF) (n*4)) 118)) w.heap.size 118 (.slice (some ⟨w.heap.size,0,none⟩) n n) (xax n):=by
 have:=World.ownsRow_lit (e:=118) (size:=4) w (madeCells (eC xcF) (n*4)) n (Nat.le_refl _) (by unfold maxLen;omega) (size_madeCells _ _)
 exact xaJ this (by simp[xax]) (xhm n).symm
def xeo (D:List En × Nat × Int) (E:TypeId) (w:World) (x:Ending) (w':World):Prop:=∃ v',x=.returned (.tuple #[v',.int .i64 (D.2.1:Int),.int .i64 D.2.2])∧xaQ w' w.heap.size E v' D.1∧Below w.heap.size w w'
def xhc (G:List En × Nat × Int) (n:Nat):List En × Nat × Int:=if G.2.2≠0 then G else if G.2.1<n then ([],G.2.1,4) else if xa5 G.1≠0 then ([],n,xa5 G.1) else (G.1,n,0)
set_option maxRecDepth 100000 in
theorem xqo (t:ByteArray) (n a0:Nat) (w:World) (hs:t.size≤65536) (hn:n≤4096) (he:xbj t.data.toList=0) (hv:xaZ t.data.toList=n) (ha:xaK 10 t.data.toList+1=a0) :
  Calls Tryz.prog 47 #[.string t] w (xeo (xhc (goD t.data.toList n (4*n) 0 (xax n) a0) t.size) 118 w):=by
 have hmx:t.size≤maxLen:=by unfold maxLen;omega
 have hg0:=xfT t 0 w hmx (Nat.zero_le _) (by rw[List.drop_zero];exact he)
 rw[List.drop_zero,hv,Nat.zero_add,ha] at hg0
 have ha0:a0≤t.size:=by
  have:=xp8 t 0 (Nat.zero_le _) (by rw[List.drop_zero];exact he)
  rw[List.drop_zero] at this
  omega
 have HG0:=lH hg0
 have HMX:=lH hmx
 obtain⟨G,hG⟩:∃ G,goD t.data.toList n (4*n) 0 (xax n) a0=G:=⟨_,rfl⟩
 rw[hG]
 have HG:=lH hG
 clear hg0 hmx he hv ha hG
 have hd1:decide (65536<(t.size:Int))=false:=by simp;omega
 have hd2:decide (4096<(n:Int))=false:=by simp;omega
 have hd3:decide (4096<n)=false:=by simp;omega
 go_enter Tryz.func47,Tryz.ntmps47
 go_wp2_with fail
 refine(HG0.out).mono ?_
 rintro y w1 ⟨rfl,hb⟩
 have S0:=xdF.made w1 t (a0:Int) 0 188
 have hB1:=hb.trans (((Below.refl w1.heap.size w1).alloc (Nat.le_refl _) (.cells #[.string t,.int .i64 (a0:Int),.int .i64 0] 188)).mono hb.size)
 have hs1:=hb.size
 have HB1:=lH hB1
 have HS0:=lH S0
 have HO0:=lH (xr9 (w1.alloc (.cells #[.string t,.int .i64 (a0:Int),.int .i64 0] 188)) n hn)
 have hmk:=fun W=>xqv n W hn
 clear hb hB1 S0
 go_wp2_with fail
 clear hmk
 have hO1:=HO0.out
 rw[World.size_alloc] at hO1
 have HO1:=lH hO1
 clear hO1 HO0
 go_loopw [8] (fun s wr=>∃ i:Nat,i≤4*n∧s=.int .i64 i∧∃ (l:List En) (a:Nat),Hid (l.length=n∧(∀ j,j<n→xaY (gE l j))∧a≤t.size∧goD t.data.toList n (4*n - i) i l a=G)∧Hid (xaQ wr (w1.heap.size+1) 118 (.slice (some ⟨w1.heap.size+1,0,none⟩) n n) l)∧Hid (xdF wr w1.heap.size t a 0)∧Hid (Below w.heap.size w wr)) (fun s _=>4*n - (intOf s).toNat)
 case atStart =>
  refine⟨0,Nat.zero_le _,rfl,xax n,a0,lH ⟨by simp[xax],xgu n,ha0,by rw[Nat.sub_zero];exact HG.out⟩,HO1,lH (HS0.out.later (((Below.refl _ _).alloc (Nat.le_refl _) _))),lH (HB1.out.trans (((Below.refl _ _).alloc (Nat.le_refl _) _).mono HB1.out.size))⟩
 case round =>
  clear HO1 HS0 HB1 HG0
  obtain⟨i,hi,rfl,l,a,HL,HO,HS,HB⟩:=hrel
  obtain⟨c0,c1,c2,f0⟩:=HS.out
  have hf0:=f0 0
  have hf1:=f0 1
  have hf2:=f0 2
  have hw4:IntKind.i64.wrap (4*(n:Int))=4*(n:Int):=by rw[IntKind.wrap_i64] <;> omega
  by_cases hlt:i<4*n
  ·have hn0:0<n:=by omega
   have hi4:(i:Int)<4*(n:Int):=by omega
   have hne:¬ (n:Int)=0:=by omega
   have hne2:¬ n=0:=by omega
   have hcl:i / n<4:=(Nat.div_lt_iff_lt_mul hn0).2 (by omega)
   have hkl:i % n<n:=Nat.mod_lt _ hn0
   have HST:Hid (G=if xbj (t.data.toList.drop a)≠0 then ([],a,xbj (t.data.toList.drop a)) else if xbo l (i / n) (i % n) (xaZ (t.data.toList.drop a))≠0 then ([],a,xbo l (i / n) (i % n) (xaZ (t.data.toList.drop a))) else goD t.data.toList n (4*n - (i+1)) (i+1) (xdW l (i / n) (i % n) (xaZ (t.data.toList.drop a))) (a+(xaK 10 (t.data.toList.drop a)+1))) :=
    lH (by rw[← HL.out.2.2.2,show 4*n - i=(4*n - (i+1))+1 from by omega];rfl)
   have HAL:=lH HL.out.2.2.1
   have HMA:=lH ((xc5 HL.out.1).2 HL.out.2.1)
   have HLE:=lH HL.out.1
   have HPM:=lH (fun x hx=>xh3 (x:=x) HL.out.1 hlt HL.out.2.1 hx)
   have hq':(i:Int) / (n:Int)=((i / n:Nat):Int):=by simp
   have hr':(i:Int) % (n:Int)=((i % n:Nat):Int):=by simp
   obtain⟨c,hcE⟩:∃ c,i / n=c:=⟨_,rfl⟩
   obtain⟨k,hkE⟩:∃ k,i % n=k:=⟨_,rfl⟩
   rw[hcE] at hq' hcl HST HPM
   rw[hkE] at hr' hkl HST HPM
   clear hcE hkE
   have hq2:(i:Int).tdiv (n:Int)=(c:Int):=by rw[Int.tdiv_eq_ediv_of_nonneg (by omega)];exact hq'
   have hr2:(i:Int).tmod (n:Int)=(k:Int):=by rw[Int.tmod_eq_emod_of_nonneg (by omega)];exact hr'
   have hwc:IntKind.i64.wrap (c:Int)=(c:Int):=by rw[IntKind.wrap_i64] <;> omega
   have hwk:IntKind.i64.wrap (k:Int)=(k:Int):=by rw[IntKind.wrap_i64] <;> omega
   go_upto_region 12 with fail
   go_cut [9,10] (fun cc kk wx=>cc=.int .i64 (c:Int)∧kk=.int .i64 (k:Int)∧Below wr.heap.size wr wx)
   case first =>
    clear hcl hkl
    go_region
    all_goals (go_wp2_with fail;go_meet;case rel=>exact⟨rfl,rfl,Below.drew (Below.refl _ _)⟩)
   case rest =>
    obtain⟨rfl,rfl,hX⟩:=hcut
    generalize wc=wx at *
    have HO1:=lH (HO.out.below hX)
    have HS1:=lH (HS.out.later hX)
    have HB1:=lH (HB.out.trans (hX.mono HB.out.size))
    clear c0 c1 c2 hf0 hf1 hf2 f0 hX HO HS HB hq' hr' hq2 hr2 hwc hwk
    obtain⟨c0,c1,c2,f0⟩:=HS1.out
    by_cases hr:xbj (t.data.toList.drop a)=0
    ·have hx:=xct _ hr
     obtain⟨x,hxE⟩:∃ x,xaZ (t.data.toList.drop a)=x:=⟨_,rfl⟩
     obtain⟨a',ha'⟩:∃ a',a+(xaK 10 (t.data.toList.drop a)+1)=a':=⟨_,rfl⟩
     have hgt:=fun W=>xfT t a W HMX.out HAL.out hr
     have hle:=xp8 t a HAL.out hr
     rw[hxE,ha'] at hgt
     rw[ha'] at hle
     rw[hxE] at hx
     have HPX:=lH (HPM.out x hx)
     have HGT:=lH hgt
     have HSX:Hid (G=if xbo l c k x≠0 then ([],a,xbo l c k x) else goD t.data.toList n (4*n - (i+1)) (i+1) (xdW l c k x) a'):=lH (by rw[HST.out,if_neg (fun h=>h hr),hxE,ha'])
     have HW:=lH (fun(W:World) (hE:xaj W (.slice (some ⟨w1.heap.size+1,0,none⟩) n n) l)=>xm3 _ l c k x W hE HMA.out hcl (by rw[HLE.out];exact hkl) hx.1 hx.2)
     clear hgt hr hxE ha' HST HPM
     go_wp2_with fail
     refine(HGT.out _).mono ?_
     rintro y w3 ⟨rfl,hb⟩
     have hA:=(Below.refl w3.heap.size w3).alloc (Nat.le_refl _) (.cells #[.string t,.int .i64 (a':Int),.int .i64 0] 188)
     have hB3:=HB1.out.trans (hb.mono HB1.out.size)
     have HB3:=lH (hB3.trans (hA.mono hB3.size))
     have HS3:=lH ((HS1.out.later hb).later hA)
     have HU3:=lH (xdF.made w3 t (a':Int) 0 188)
     have HO3:=lH ((HO1.out.below hb).below hA)
     have hgt3:w1.heap.size+1<w3.heap.size:=by
      have h1:w1.heap.size+1<wx.heap.size:=(HO1.out.lt (w1.heap.size+1) rfl).2
      have:=hb.size
      omega
     obtain⟨k0,k1,k2,g0⟩:=HS3.out
     obtain⟨u0,u1,u2,h0⟩:=HU3.out
     clear hb hB3 hA c0 c1 c2 f0
     go_wp2_with fail
     refine(HW.out _ HO3.out.ensAt).mono ?_
     rintro y w4 ⟨rfl,hb⟩
     have HS4:=lH (HS3.out.later hb)
     have HU4:=lH (HU3.out.later hb)
     have HO4:=lH (HO3.out.below hb)
     have HB4:=lH (HB3.out.trans (hb.mono HB3.out.size))
     have hs4:=hb.size
     rw[World.size_alloc] at hs4
     clear hb k0 k1 k2 g0 u0 u1 u2 h0
     by_cases hw:xbo l c k x=0
     ·have hnz:¬ (c=3∧k=0∧x=0):=by
       rintro⟨rfl,rfl,rfl⟩
       unfold xbo at hw
       simp at hw
      have HPT:=lH (xnX _ _ _ l c k x w4 HO4.out HMA.out hcl (by rw[HLE.out];exact hkl) hx.1 hx.2 hnz)
      have hst:goD t.data.toList n (4*n - (i+1)) (i+1) (xdW l c k x) a'=G:=by rw[HSX.out,if_neg (fun h=>h hw)]
      have HL1:=lH (And.intro (show (xdW l c k x).length=n by rw[xcQ];exact HLE.out) (And.intro HPX.out (And.intro hle hst)))
      rw[hw]
      clear hw hnz hst HSX HPX
      go_wp2_with fail
      refine(HPT.out).mono ?_
      rintro y w5 ⟨⟨uu,rfl⟩,ho5,hg5'⟩
      have hg5:w4.grownBy w5 (some (w1.heap.size+1)):=hg5'
      clear hg5'
      have HO5:=lH ho5
      have HS5:=lH (HS4.out.grown hg5 (fun e=>by have:=Option.some.inj e;omega))
      have HU5:=lH (HU4.out.grown hg5 (fun e=>by have:=Option.some.inj e;omega))
      have HB5:=lH (HB4.out.grown hg5 HB4.out.size (fun k e=>by have:=Option.some.inj e;omega))
      clear ho5 hg5
      obtain⟨k0,k1,k2,g0⟩:=HS5.out
      obtain⟨u0,u1,u2,h0⟩:=HU5.out
      have hf0:=g0 0
      have hf1:=g0 1
      have hf2:=g0 2
      clear g0 h0
      go_wp2_with fail
      go_roundw
      case rel=>exact⟨i+1,by omega,by go_num,_,_,HL1,lH (xaQ.setCell (xaQ.setCell (xaQ.setCell HO5.out _ _ (by show w1.heap.size<w1.heap.size+1;omega)) _ _ (by show w1.heap.size<w1.heap.size+1;omega)) _ _ (by show w1.heap.size<w1.heap.size+1;omega)),lH (xja HS5.out),lH (((HB5.out.setCell (p:=⟨w1.heap.size,0,none⟩) hs1 _).setCell (p:=⟨w1.heap.size,1,none⟩) hs1 _).setCell (p:=⟨w1.heap.size,2,none⟩) hs1 _)⟩
      case measure=>simp[intOf];omega
     ·obtain⟨r,hre⟩:∃ r,xbo l c k x=r:=⟨_,rfl⟩
      have hz:G=([],a,r):=by rw[HSX.out,if_pos hw,hre]
      rw[hre] at hw ⊢
      have hne:(r != 0)=true:=by simpa using hw
      have HZ:Hid (xhc G t.size=([],a,r)):=lH (by unfold xhc;rw[hz,if_pos hw])
      clear hz hw hre HSX
      obtain⟨k0,k1,k2,g0⟩:=HS4.out
      go_wp2_with fail
      go_region
      all_goals
       go_wp2_with fail
       go_ret3
       rw[HZ.out]
       exact⟨_,rfl,xaU _ _ _,HB4.out.trans ((Below.drew (Below.refl _ _)).mono HB4.out.size)⟩
    ·obtain⟨r,hre⟩:∃ r,xbj (t.data.toList.drop a)=r:=⟨_,rfl⟩
     have HGT:=lH (fun W=>xlH t a r W HMX.out HAL.out hre (by rw[← hre];exact hr))
     have hz:G=([],a,r):=by rw[HST.out,if_pos hr,hre]
     have hr0:r≠0:=by rw[← hre];exact hr
     have hne:(r != 0)=true:=by simpa using hr0
     have HZ:Hid (xhc G t.size=([],a,r)):=lH (by unfold xhc;rw[hz,if_pos hr0])
     clear hz hr hre hr0
     go_wp2_with fail
     refine(HGT.out _).mono ?_
     rintro y w3 ⟨rfl,hb⟩
     have hB3:=HB1.out.trans (hb.mono HB1.out.size)
     have HB3:=lH (hB3.trans (((Below.refl w3.heap.size w3).alloc (Nat.le_refl _) (.cells #[.string t,.int .i64 (a:Int),.int .i64 r] 188)).mono hB3.size))
     obtain⟨k0,k1,k2,g0⟩:=(HS1.out.later hb).later ((Below.refl w3.heap.size w3).alloc (Nat.le_refl _) (.cells #[.string t,.int .i64 (a:Int),.int .i64 r] 188))
     obtain⟨u0,u1,u2,h0⟩:=xdF.made w3 t (a:Int) r 188
     clear hb hB3 c0 c1 c2 f0
     go_wp2_with fail
     go_region
     all_goals
      go_wp2_with fail
      go_ret3
      rw[HZ.out]
      exact⟨_,rfl,xaU _ _ _,HB3.out.trans ((Below.drew (Below.refl _ _)).mono HB3.out.size)⟩
  ·obtain rfl:i=4*n:=by omega
   have hG:G=(l,a,0):=by rw[← HL.out.2.2.2,Nat.sub_self];rfl
   have HAL:=lH HL.out.2.2.1
   have HMA:=lH ((xc5 HL.out.1).2 HL.out.2.1)
   have HLE:=lH HL.out.1
   clear HL HG
   by_cases hlt2:a<t.size
   ·have hd:decide ((a:Int)<(t.size:Int))=true:=by simp;omega
    have hd':decide (a<t.size)=true:=by simp;omega
    have HZ:Hid (xhc G t.size=([],a,4)):=lH (by unfold xhc;rw[hG];simp only[ne_eq,not_true,if_false];rw[if_pos hlt2])
    clear hG hlt2
    go_wp2_with fail
    go_region
    all_goals
     go_wp2_with fail
     go_ret3
     rw[HZ.out]
     exact⟨_,rfl,xaU _ _ _,HB.out.trans ((Below.drew (Below.refl _ _)).mono HB.out.size)⟩
   ·have hd:decide ((a:Int)<(t.size:Int))=false:=by simp;omega
    have hd':decide (a<t.size)=false:=by simp;omega
    have HR:=lH (xd0 _ l wr HO.out.ensAt HMA.out)
    by_cases hw:xa5 l=0
    ·have HZ:Hid (xhc G t.size=(l,t.size,0)):=lH (by unfold xhc;rw[hG];simp only[ne_eq,not_true,if_false];rw[if_neg hlt2,hw];simp)
     rw[hw] at HR
     clear hG hlt2 hw
     go_wp2_with fail
     refine(HR.out).mono ?_
     rintro y w4 ⟨rfl,hb⟩
     have HO4:=lH (xaQ.mono (HO.out.below hb) (B':=w.heap.size) (by omega))
     have HB4:=lH (HB.out.trans (hb.mono HB.out.size))
     have HLE2:=HLE.out
     subst HLE2
     clear hb c0 c1 c2 f0 hf0 hf1 hf2
     go_wp2_with fail
     go_ret3
     rw[HZ.out]
     exact⟨_,rfl,HO4.out,HB4.out⟩
    ·obtain⟨r,hre⟩:∃ r,xa5 l=r:=⟨_,rfl⟩
     have HZ:Hid (xhc G t.size=([],t.size,r)):=lH (by unfold xhc;rw[hG];simp only[ne_eq,not_true,if_false];rw[if_neg hlt2];simp only[hw,not_false_eq_true,if_true];rw[hre])
     rw[hre] at HR hw
     have hne:(r != 0)=true:=by simpa using hw
     clear hG hlt2 hw hre
     go_wp2_with fail
     refine(HR.out).mono ?_
     rintro y w4 ⟨rfl,hb⟩
     have HB4:=lH (HB.out.trans (hb.mono HB.out.size))
     clear hb c0 c1 c2 f0 hf0 hf1 hf2
     go_wp2_with fail
     go_ret3
     rw[HZ.out]
     exact⟨_,rfl,xaU _ _ _,HB4.out⟩
set_option maxRecDepth 100000 in
theorem xj0 (t:ByteArray) (w:World) (hm:t.size≤maxLen):Calls Tryz.prog 47 #[.string t] w (xeo (xbF t.data.toList) 118 w):=by
 have hl:t.data.toList.length=t.size:=by simp
 by_cases h1:65536<t.size
 ·have hD:xbF t.data.toList=([],0,5):=by unfold xbF;rw[if_pos (by rw[hl];exact h1)]
  rw[hD]
  have hd:decide (65536<(t.size:Int))=true:=by simp;omega
  go_enter Tryz.func47,Tryz.ntmps47
  go_wp2_with fail
  go_ret3
  exact⟨_,rfl,xaU _ _ _,by go_grown⟩
 have hd:decide (65536<(t.size:Int))=false:=by simp;omega
 by_cases h2:xbj t.data.toList=0
 ·have hv:=xct _ h2
  by_cases h3:4096<xaZ t.data.toList
  ·have hD:xbF t.data.toList=([],0,21):=by unfold xbF;rw[if_neg (by rw[hl];exact h1),if_neg (fun h=>h h2),if_pos h3]
   rw[hD]
   have hg:=xfT t 0 w hm (Nat.zero_le _) (by rw[List.drop_zero];exact h2)
   rw[List.drop_zero,Nat.zero_add] at hg
   obtain⟨x,hx⟩:∃ x,xaZ t.data.toList=x:=⟨_,rfl⟩
   obtain⟨p,hp⟩:∃ p,xaK 10 t.data.toList+1=p:=⟨_,rfl⟩
   rw[hx] at hg h3
   rw[hp] at hg
   have hd2:decide (4096<x)=true:=by simpa using h3
   have HG:=lH hg
   clear hg hx hp hD hv h3 h2
   go_enter Tryz.func47,Tryz.ntmps47
   go_wp2_with fail
   refine(HG.out).mono ?_
   rintro y w1 ⟨rfl,hb⟩
   have HB:=lH hb
   clear hb
   go_wp2_with fail
   go_ret3
   exact⟨_,rfl,xaU _ _ _,HB.out.trans (((Below.refl _ _).alloc (Nat.le_refl _) _).mono HB.out.size)⟩
  ·have hn:xaZ t.data.toList=((xaZ t.data.toList).toNat:Int):=by omega
   have h:=xqo t (xaZ t.data.toList).toNat _ w (by omega) (by omega) h2 hn rfl
   have hD:xbF t.data.toList=xhc (goD t.data.toList (xaZ t.data.toList).toNat (4*(xaZ t.data.toList).toNat) 0 (xax (xaZ t.data.toList).toNat) (xaK 10 t.data.toList+1)) t.size:=by
    unfold xbF xhc
    rw[if_neg (by rw[hl];exact h1),if_neg (fun h=>h h2),if_neg h3,hl]
   rw[hD]
   exact h
 ·have hg:=fun r h3 h4=>xlH t 0 r w hm (Nat.zero_le _) (by rw[List.drop_zero];exact h3) h4
  obtain⟨r,hr⟩:∃ r,xbj t.data.toList=r:=⟨_,rfl⟩
  have hD:xbF t.data.toList=([],0,r):=by unfold xbF;rw[if_neg (by rw[hl];exact h1),if_pos h2,hr]
  rw[hD]
  have hr0:r≠0:=by rw[← hr];exact h2
  have hne:(r != 0)=true:=by simpa using hr0
  have HG:=lH (hg r hr hr0)
  clear hg hD hr h2 hr0
  go_enter Tryz.func47,Tryz.ntmps47
  go_wp2_with fail
  refine(HG.out).mono ?_
  rintro y w1 ⟨rfl,hb⟩
  have HB:=lH hb
  clear hb
  go_wp2_with fail
  go_region
  all_goals
   go_wp2_with fail
   go_ret3
   exact⟨_,rfl,xaU _ _ _,Below.drew (HB.out.trans (((Below.refl _ _).alloc (Nat.le_refl _) _).mono HB.out.size))⟩
end Go.Proofs.YtjinnigjfopbcaaGreatDoor
namespace Go.Proofs.YtjinnigjfopbcaaGreatDoor
set_option linter.unusedVariables false
set_option linter.unusedSimpArgs false
open Go.RowKit Go.Shelf
set_option maxRecDepth 20000
def xkU (S:Nat→Prop) (l:List En) (v:Value):Prop:=l≠[]→∀ a n c,v=.slice (some a) n c→¬ S a.block
theorem xfH {W:World} {v:Value} {l:List En} (he:xaj W v l) (hl:l≠[]) {a:Addr} {n c:Nat} (hv:v=.slice (some a) n c):a.block<W.heap.size:=by
 obtain⟨a',cap,rfl,h1,h2,hc⟩:=he
 obtain⟨g,off,ha,hg,_⟩:=hc 0 _ (List.getElem?_eq_getElem (List.length_pos_iff.2 hl))
 cases hv
 cases ha
 exact hg
theorem KeepsS.ens {S S':Nat→Prop} {W W':World} (h:KeepsS S S' W W') {v:Value} {l:List En} (hv:xkU S l v) (he:xaj W v l):xaj W' v l:=by
 obtain⟨a,cap,rfl,h1,h2,hc⟩:=he
 refine⟨a,cap,rfl,h1,h2,fun k t ht=>?_⟩
 obtain⟨g,off,rfl,hg,c0,c1,c2,c3⟩:=hc k t ht
 have hn:¬ S g:=hv (fun h=>by rw[h] at ht;simp at ht) _ _ _ rfl
 exact⟨g,off,rfl,Nat.lt_of_lt_of_le hg h.size,h.cell hn c0,h.cell hn c1,h.cell hn c2,h.cell hn c3⟩
end Go.Proofs.YtjinnigjfopbcaaGreatDoor
