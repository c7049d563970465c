/- dPp dNq dPc dPd dPq. -/
import Derived.Test.YtjinnigjfopbcaaGreatDoorUd3
import Derived.Test.YtjinnigjfopbcaaGreatDoorUs
namespace Go.Proofs.YtjinnigjfopbcaaGreatDoor
set_option linter.unusedVariables false
set_option linter.unusedSimpArgs false
open Go.RowKit
set_option maxRecDepth 20000
def uI (l:List UInt8):List Int:=l.map (fun c=>(c.toNat:Int))
theorem xq8 (l:List UInt8):bI ⟨l.toArray⟩=uI l:=by unfold bI uI;simp
theorem xBf (s:ByteArray):bI s=uI s.data.toList:=rfl
theorem xqW (f g:UInt8→Bool) (h:∀ n,n<256→f (UInt8.ofNat n)=g (UInt8.ofNat n)) (c:UInt8):f c=g c:=by
 have:=h c.toNat c.toNat_lt
 rwa[UInt8.ofNat_toNat] at this
theorem xgE (f:List Int→Nat) (p:Int→Bool) (q:UInt8→Bool) (h0:f []=0) (h1:∀ b t,f (b :: t)=if p b then f t+1 else 0) (hq:∀ c:UInt8,q c=p (c.toNat:Int)) :
  ∀ l:List UInt8,(l.dropWhile q).length+f (uI l)=l.length
 | []=>by simp[uI,h0]
 | c :: t=>by
  have ih:=xgE f p q h0 h1 hq t
  unfold uI at ih ⊢
  rw[List.map_cons,h1,← hq,List.dropWhile_cons]
  cases q c
  ·simp
  ·simp only[if_true,List.length_cons];omega
theorem xnJ (l:List UInt8):(Lib.trimLeftS l [32,9,10,13]).length+xaa (uI l)=l.length :=
 xgE xaa isB _ rfl (fun b t=>by rw[xaa]) (xqW _ (fun c=>isB (c.toNat:Int)) (by decide +kernel)) l
theorem xn3 (l:List UInt8):(Lib.trimLeftS l [48,49,50,51,52,53,54,55,56,57,43,45,46,101,69]).length+xb8 (uI l)=l.length :=
 xgE xb8 isN _ rfl (fun b t=>by rw[xb8]) (xqW _ (fun c=>isN (c.toNat:Int)) (by decide +kernel)) l
theorem xA1 (c:UInt8):([48,49,50,51,52,53,54,55,56,57]:List UInt8).contains c=isD (c.toNat:Int) :=
 xqW (fun c=>([48,49,50,51,52,53,54,55,56,57]:List UInt8).contains c) (fun c=>isD (c.toNat:Int)) (by decide +kernel) c
theorem xc5 (q:UInt8→Bool):∀ l:List UInt8,l.dropWhile q=[]↔l.all q=true
 | []=>by simp
 | c :: t=>by
  rw[List.dropWhile_cons,List.all_cons]
  cases h:q c
  ·simp
  ·simp[xc5 q t]
theorem xt5 (l:List UInt8):(Lib.trimS l [48,49,50,51,52,53,54,55,56,57]=[])↔(uI l).all isD=true:=by
 unfold Lib.trimS Lib.trimLeftS Lib.trimRightS
 rw[xc5]
 have hall:∀ m:List UInt8,(uI m).all isD=m.all (fun c=>([48,49,50,51,52,53,54,55,56,57]:List UInt8).contains c):=by
  intro m
  unfold uI
  rw[List.all_map]
  congr 1
  funext c
  exact(xA1 c).symm
 rw[hall]
 constructor
 ·intro h
  have h1:=fun x (hx:x ∈ (l.reverse.dropWhile (fun c=>([48,49,50,51,52,53,54,55,56,57]:List UInt8).contains c)).reverse)=>List.all_eq_true.1 h x hx
  cases hd:l.reverse.dropWhile (fun c=>([48,49,50,51,52,53,54,55,56,57]:List UInt8).contains c) with
  | nil =>
   have:=(xc5 _ _).1 hd
   rw[List.all_eq_true] at this ⊢
   exact fun x hx=>this x (List.mem_reverse.2 hx)
  | cons c t =>
   have hc:=h1 c (by rw[hd];simp)
   have:=List.head?_dropWhile_not (fun c=>([48,49,50,51,52,53,54,55,56,57]:List UInt8).contains c) l.reverse
   rw[hd] at this
   simp only[List.head?_cons] at this
   rw[hc] at this
   cases this
 ·intro h
  rw[List.all_eq_true] at h ⊢
  intro x hx
  exact h x (List.mem_reverse.1 ((List.dropWhile_sublist _).subset (List.mem_reverse.1 hx)))
theorem xen:∀ (l:List Int) (a b:Int),(∀ c ∈ l,48≤c)→0≤b→b≤a→b≤l.foldl (fun n c=>10*n+(c - 48)) a
 | [],a,b,_,_,h=>h
 | c :: t,a,b,hl,h0,h=>by
  rw[List.foldl_cons]
  have:=hl c (List.mem_cons_self ..)
  exact xen t _ b (fun x hx=>hl x (List.mem_cons_of_mem _ hx)) h0 (by omega)
theorem xgY:∀ (l:List UInt8) (acc:Nat),(uI l).all isD=true →
  (∃ u,Lib.parseUint10 acc l=.ok u∧(uI l).foldl (fun n c=>10*n+(c - 48)) (acc:Int)=u)∨Lib.parseUint10 acc l=.range∧18446744073709551616≤(uI l).foldl (fun n c=>10*n+(c - 48)) (acc:Int)
 | [],acc,_=>.inl ⟨acc,rfl,rfl⟩
 | c :: t,acc,h=>by
  have hc:uI (c :: t)=(c.toNat:Int) :: uI t:=rfl
  rw[hc,List.all_cons,Bool.and_eq_true] at h
  obtain⟨h1,h2⟩:=h
  have hd:48≤c.toNat∧c.toNat≤57:=by
   unfold isD at h1
   simp only[Bool.and_eq_true,decide_eq_true_eq] at h1
   omega
  have h48:∀ x ∈ uI t,48≤x:=by
   intro x hx
   have:=List.all_eq_true.1 h2 x hx
   unfold isD at this
   simp only[Bool.and_eq_true,decide_eq_true_eq] at this
   exact this.1
  rw[hc,List.foldl_cons,Lib.parseUint10,if_pos hd]
  by_cases g1:1844674407370955162≤acc
  ·rw[if_pos g1]
   exact .inr ⟨rfl,xen _ _ _ h48 (by omega) (by omega)⟩
  rw[if_neg g1]
  by_cases g2:18446744073709551616≤acc*10+(c.toNat - 48)
  ·rw[if_pos g2]
   exact .inr ⟨rfl,xen _ _ _ h48 (by omega) (by omega)⟩
  rw[if_neg g2]
  have hcast:((acc*10+(c.toNat - 48):Nat):Int)=10*(acc:Int)+((c.toNat:Int) - 48):=by omega
  have:=xgY t (acc*10+(c.toNat - 48)) h2
  rw[hcast] at this
  exact this
theorem xxr (l:List UInt8) (h:¬ xl8 (uI l)):(∃ v,Lib.atoiAll l=.ok v∧v=(if xfd (uI l) then - xhE (xaY (uI l)) else xhE (xaY (uI l))))∨Lib.atoiAll l=.range∧xi6<xhE (xaY (uI l)):=by
 unfold xl8 at h
 have h1:¬ xaY (uI l)=[]:=fun e=>h (.inl e)
 have h3:(xaY (uI l)).all isD=true:=Decidable.byContradiction fun e=>h (.inr (.inr e))
 cases l with
 | nil=>exact absurd rfl h1
 | cons c t =>
  have hc:uI (c :: t)=(c.toNat:Int) :: uI t:=rfl
  rw[hc] at h1 h3 ⊢
  by_cases hm:(c.toNat:Int)=45
  ·have hc45:c=45:=UInt8.toNat_inj.1 (by simpa using (show c.toNat=45 by omega))
   rw[xaY,if_pos hm] at h1 h3 ⊢
   have hn:xfd ((c.toNat:Int) :: uI t)=true:=by unfold xfd;rw[hm];rfl
   rw[hn,if_pos rfl,hc45,Lib.atoiAll_minus]
   have ht:¬ t=[]:=fun e=>h1 (by rw[e];rfl)
   unfold Lib.parseMag
   rw[if_neg ht]
   rcases xgY t 0 h3 with ⟨u,e1,e2⟩|⟨e1,e2⟩
   ·rw[e1,Lib.signed]
    have e2:xhE (uI t)=u:=e2
    by_cases g:9223372036854775808<u
    ·rw[if_pos g];exact .inr ⟨rfl,by unfold xi6;omega⟩
    ·rw[if_neg g];exact .inl ⟨_,rfl,by rw[e2]⟩
   ·rw[e1,Lib.signed]
    have e2:18446744073709551616≤xhE (uI t):=e2
    exact .inr ⟨rfl,by unfold xi6;omega⟩
  ·rw[xaY,if_neg hm] at h1 h3 ⊢
   have hn:xfd ((c.toNat:Int) :: uI t)=false:=by unfold xfd;simpa using hm
   rw[hn]
   have hd:isD (c.toNat:Int)=true:=by rw[List.all_cons,Bool.and_eq_true] at h3;exact h3.1
   have hd:48≤c.toNat∧c.toNat≤57:=by
    unfold isD at hd
    simp only[Bool.and_eq_true,decide_eq_true_eq] at hd
    omega
   rw[Lib.atoiAll_plain c t (by omega) (by omega)]
   unfold Lib.parseMag
   rw[if_neg (by simp)]
   rcases xgY (c :: t) 0 h3 with ⟨u,e1,e2⟩|⟨e1,e2⟩
   ·rw[e1,Lib.signless]
    have e2:xhE ((c.toNat:Int) :: uI t)=u:=e2
    by_cases g:9223372036854775808≤u
    ·rw[if_pos g];exact .inr ⟨rfl,by unfold xi6;omega⟩
    ·rw[if_neg g];exact .inl ⟨_,rfl,by rw[e2];simp⟩
   ·rw[e1,Lib.signless]
    have e2:18446744073709551616≤xhE ((c.toNat:Int) :: uI t):=e2
    exact .inr ⟨rfl,by unfold xi6;omega⟩
theorem xmr:∀ (w l:List Int) (i:Nat),xb3 w l i=if w <+: l then (i+w.length,0) else if l <+: w then (i+l.length,3) else (0,4)
 | [],l,i=>by rw[xb3,if_pos (List.nil_prefix)];simp
 | c :: w,[],i=>by rw[xb3,if_neg (by simp),if_pos (List.nil_prefix)];simp
 | c :: w,b :: t,i=>by
  rw[xb3]
  by_cases h:b=c
  ·subst h
   rw[if_pos rfl,xmr w t (i+1)]
   simp only[List.cons_prefix_cons,true_and,List.length_cons]
   simp only[show i+1+w.length=i+(w.length+1) by omega,show i+1+t.length=i+(t.length+1) by omega]
  ·rw[if_neg h,if_neg (by rw[List.cons_prefix_cons];exact fun e=>h e.1.symm),if_neg (by rw[List.cons_prefix_cons];exact fun e=>h e.1)]
theorem xzw (p l:List UInt8):Lib.hasPrefix l p=decide (uI p <+: uI l):=by
 have:Lib.hasPrefix l p=p.isPrefixOf l:=rfl
 rw[this]
 have h:=xdz p l
 rw[Bool.eq_iff_iff,h,decide_eq_true_iff]
 exact⟨fun⟨t,e⟩=>⟨t,e.symm⟩,fun⟨t,e⟩=>⟨t,e.symm⟩⟩
theorem xzN:∀ (l:List UInt8) (c:Int),0≤c→c<256→(Lib.indexByte l c.toNat.toUInt8<0↔c ∉ uI l)∧-1≤Lib.indexByte l c.toNat.toUInt8
 | [],c,h0,h1=>by simp[Lib.indexByte,uI]
 | b :: l,c,h0,h1=>by
  have ih:=xzN l c h0 h1
  have hc:uI (b :: l)=(b.toNat:Int) :: uI l:=rfl
  rw[hc,List.mem_cons,Lib.indexByte]
  have he:(b == c.toNat.toUInt8)=decide (c=(b.toNat:Int)):=by
   rw[Bool.eq_iff_iff,beq_iff_eq,decide_eq_true_iff]
   constructor
   ·rintro rfl
    have:c.toNat<256:=by omega
    show c=((UInt8.ofNat c.toNat).toNat:Int)
    rw[UInt8.toNat_ofNat_of_lt' (by show _<256;omega)];omega
   ·rintro rfl
    simp[Nat.toUInt8]
  rw[he]
  by_cases hb:c=(b.toNat:Int)
  ·rw[decide_eq_true hb];simp[hb]
  ·rw[decide_eq_false hb]
   simp only[Bool.false_eq_true,if_false,hb,false_or]
   by_cases g:Lib.indexByte l c.toNat.toUInt8=-1
   ·rw[g];simp only[beq_self_eq_true,if_true]
    exact⟨⟨fun _=>(ih.1.1 (by omega)),fun _=>by omega⟩,by omega⟩
   ·have g2:(Lib.indexByte l c.toNat.toUInt8 == -1)=false:=by rw[beq_eq_false_iff_ne];exact g
    rw[g2]
    simp only[Bool.false_eq_true,if_false]
    exact⟨⟨fun h=>by omega,fun h=>absurd (ih.1.2 h) (by omega)⟩,by omega⟩
theorem xtY (l:List UInt8):uI (Lib.trimPrefix l [45])=xaY (uI l):=by
 unfold Lib.trimPrefix
 cases l with
 | nil=>rfl
 | cons c t =>
  have hp:Lib.hasPrefix (c :: t) [45]=decide ((c.toNat:Int)=45):=by
   rw[xzw,Bool.eq_iff_iff,decide_eq_true_iff,decide_eq_true_iff]
   show [(45:Int)] <+: (c.toNat:Int) :: uI t↔_
   rw[List.cons_prefix_cons]
   exact⟨fun h=>h.1.symm,fun h=>⟨h.symm,List.nil_prefix⟩⟩
  have hc:uI (c :: t)=(c.toNat:Int) :: uI t:=rfl
  rw[hp,hc,xaY]
  by_cases h:(c.toNat:Int)=45
  ·rw[decide_eq_true h,if_pos h];rfl
  ·rw[decide_eq_false h,if_neg h];rfl
theorem xg1:∀ (f:Nat) (l:List Int) (p q:Nat) (out:List Int),xaZ f l (p+q) out=((xaZ f l p out).1,(xaZ f l p out).2.1+q,(xaZ f l p out).2.2)
 | 0,l,p,q,out=>by simp[xaZ];omega
 | f+1,l,p,q,out=>by
  rw[xaC,xaC]
  cases xbh l with
  | short=>simp;omega
  | form=>simp
  | fin=>simp;omega
  | piece t n =>
   simp only
   rw[show p+q+n=p+n+q by omega]
   exact xg1 f _ _ q _
theorem xhV (l:List Int) (p:Nat) (hp:p≤l.length):xbg l p=((xay (l.drop p)).1,p+(xay (l.drop p)).2.1,(xay (l.drop p)).2.2):=by
 unfold xbg
 rw[if_neg (by omega)]
 by_cases he:(p:Int)=l.length
 ·rw[if_pos he,List.drop_of_length_le (by omega)]
  simp[xay]
 ·rw[if_neg he,Int.toNat_natCast]
  have hlt:p<l.length:=by omega
  have hd:l.drop p=l.getD p 0 :: l.drop (p+1):=by
   rw[List.getD_eq_getElem?_getD,List.getElem?_eq_getElem hlt,Option.getD_some,List.drop_eq_getElem_cons hlt]
  rw[hd,xay]
  by_cases h:l.getD p 0=34
  ·rw[if_neg (by rw[h];simp),if_pos h,show p+1=1+p by omega,xg1 l.length _ 1 p []]
   have:=xdR l.length ((l.drop (1+p)).length+1) (l.drop (1+p)) 1 [] (by rw[List.length_drop];omega) (by omega)
   rw[this,Nat.add_comm p]
  ·rw[if_pos h,if_neg h];simp
def xhW:TypeDesc→Bool
 | .interface _=>false
 | _=>true
theorem xhS (X T:TypeId) (d:TypeDesc) (z:Value) (hu:Tryz.prog.underlying T=some d) (hd:xhW d=true) (hz:(Tryz.prog.info? T).map (·.zero)=some (some z)) (w:World) :
  (Instr.typeAssert .nilIface X T true).run Tryz.prog w=.ok (.tuple #[z,.bool false]) w:=by
 obtain⟨i,hi,hiz⟩:∃ i,Tryz.prog.info? T=some i∧i.zero=some z:=by
  cases h:Tryz.prog.info? T with
  | none=>simp[h] at hz
  | some i=>exact⟨i,rfl,by simpa[h] using hz⟩
 unfold Instr.typeAssert
 rw[Sem.run_bind,run_underlying hu w]
 cases d <;> simp_all [xhW,zeroValue,typeInfo]
theorem xav (X T t:TypeId) (v:Value) (d:TypeDesc) (z:Value) (hu:Tryz.prog.underlying T=some d) (hd:xhW d=true) (hz:(Tryz.prog.info? T).map (·.zero)=some (some z)) (ht:t≠T) (w:World) :
  (Instr.typeAssert (.iface t v) X T true).run Tryz.prog w=.ok (.tuple #[z,.bool false]) w:=by
 obtain⟨i,hi,hiz⟩:∃ i,Tryz.prog.info? T=some i∧i.zero=some z:=by
  cases h:Tryz.prog.info? T with
  | none=>simp[h] at hz
  | some i=>exact⟨i,rfl,by simpa[h] using hz⟩
 unfold Instr.typeAssert
 rw[Sem.run_bind,run_underlying hu w]
 cases d <;> simp_all [xhW,zeroValue,typeInfo]
theorem xcb (X T:TypeId) (v:Value) (d:TypeDesc) (hu:Tryz.prog.underlying T=some d) (hd:xhW d=true) (w:World) :
  (Instr.typeAssert (.iface T v) X T true).run Tryz.prog w=.ok (.tuple #[v,.bool true]) w:=by
 unfold Instr.typeAssert
 rw[Sem.run_bind,run_underlying hu w]
 cases d <;> simp_all [xhW]
theorem xoG:(Tryz.prog.info? 4).map (·.zero)=some (some (.bool false)):=by kernel_rfl
theorem xAW:(Tryz.prog.info? 3).map (·.zero)=some (some (.int .i64 0)):=by kernel_rfl
theorem xBo:(Tryz.prog.info? 9).map (·.zero)=some (some (.string { data:=#[] })):=by kernel_rfl
theorem xBE:(Tryz.prog.info? 397).map (·.zero)=some (some (.slice none 0 0)):=by kernel_rfl
theorem xw7:(Tryz.prog.info? 157).map (·.zero)=some (some (.slice none 0 0)):=by kernel_rfl
end Go.Proofs.YtjinnigjfopbcaaGreatDoor
namespace Go.Proofs.YtjinnigjfopbcaaGreatDoor
set_option linter.unusedVariables false
set_option linter.unusedSimpArgs false
open Go.RowKit
set_option maxRecDepth 20000
set_option maxHeartbeats 2000000
def xpa (v:Js):Prop:=∀ (S:Nat→Prop) (d:Nat) (w:World) (x:Value),xaq S w v x→d≤5→Calls Tryz.prog 322 #[x,.int .i64 d] w fun e w'=>e=.returned (.int .i64 (xe4 d v))∧Below w.heap.size w w'
theorem xAh:xpa .nul:=by
 intro S d w x h hd
 rw[xaq] at h
 subst h
 rw[xe4]
 have a1:=fun W=>xhS 20 4 _ _ Tryz.underlying4 rfl xoG W
 go_enter Tryz.func322,Tryz.ntmps322
 go_wp2_with fail
 go_ret
 exact⟨rfl,by go_grown⟩
theorem xxx (b:Bool):xpa (.bool b):=by
 intro S d w x h hd
 rw[xaq] at h
 subst h
 rw[xe4]
 have a1:=fun W=>xcb 20 4 (.bool b) _ Tryz.underlying4 rfl W
 go_enter Tryz.func322,Tryz.ntmps322
 go_wp2_with fail
 go_ret
 exact⟨rfl,by go_grown⟩
theorem xze (n:Int):xpa (.num n):=by
 intro S d w x h hd
 rw[xaq] at h
 subst h
 rw[xe4]
 have a1:=fun W=>xav 20 4 3 (.int .i64 n) _ _ Tryz.underlying4 rfl xoG (by decide) W
 have a2:=fun W=>xcb 20 3 (.int .i64 n) _ Tryz.underlying3 rfl W
 unfold xi6
 by_cases h1:n < -9007199254740991
 ·rw[if_pos (by omega)]
  have e1:decide (n < -9007199254740991)=true:=by simp;omega
  go_enter Tryz.func322,Tryz.ntmps322
  go_wp2_with fail
  go_ret
  exact⟨rfl,by go_grown⟩
 have e1:decide (n < -9007199254740991)=false:=by simp;omega
 by_cases h2:9007199254740991<n
 ·rw[if_pos (by omega)]
  have e2:decide (9007199254740991<n)=true:=by simp;omega
  go_enter Tryz.func322,Tryz.ntmps322
  go_wp2_with fail
  go_ret
  exact⟨rfl,by go_grown⟩
 rw[if_neg (by omega)]
 have e2:decide (9007199254740991<n)=false:=by simp;omega
 go_enter Tryz.func322,Tryz.ntmps322
 go_wp2_with fail
 go_ret
 exact⟨rfl,by go_grown⟩
theorem xAa (s:List Int):xpa (.str s):=by
 intro S d w x h hd
 rw[xaq] at h
 obtain⟨t,rfl,rfl,hs⟩:=h
 rw[xah] at hs
 rw[xe4]
 have H:=lH (fun W=>xh0 t W (by omega))
 have a1:=fun W=>xav 20 4 9 (.string t) _ _ Tryz.underlying4 rfl xoG (by decide) W
 have a2:=fun W=>xav 20 3 9 (.string t) _ _ Tryz.underlying3 rfl xAW (by decide) W
 have a3:=fun W=>xcb 20 9 (.string t) _ Tryz.underlying9 rfl W
 by_cases hc:xas (bI t)<0
 ·rw[if_pos hc]
  rw[show decide (0≤xas (bI t))=false by simp;omega] at H
  go_enter Tryz.func322,Tryz.ntmps322
  go_wp2_with fail
  refine(H.out _).mono ?_
  rintro e w1 ⟨rfl,hb⟩
  go_wp2_with fail
  go_ret
  exact⟨rfl,hb⟩
 ·rw[if_neg hc]
  rw[show decide (0≤xas (bI t))=true by simp;omega] at H
  go_enter Tryz.func322,Tryz.ntmps322
  go_wp2_with fail
  refine(H.out _).mono ?_
  rintro e w1 ⟨rfl,hb⟩
  go_wp2_with fail
  go_ret
  exact⟨rfl,hb⟩
theorem xAI:xpa .bad:=by
 intro S d w x h hd
 rw[xaq] at h
 subst h
 rw[xe4]
 have a1:=fun W=>xav 20 4 100000 (.float .f64 4609434218613702656) _ _ Tryz.underlying4 rfl xoG (by decide) W
 have a2:=fun W=>xav 20 3 100000 (.float .f64 4609434218613702656) _ _ Tryz.underlying3 rfl xAW (by decide) W
 have a3:=fun W=>xav 20 9 100000 (.float .f64 4609434218613702656) _ _ Tryz.underlying9 rfl xBo (by decide) W
 have a4:=fun W=>xav 20 397 100000 (.float .f64 4609434218613702656) _ _ Tryz.underlying397 rfl xBE (by decide) W
 have a5:=fun W=>xav 20 157 100000 (.float .f64 4609434218613702656) _ _ Tryz.underlying157 rfl xw7 (by decide) W
 go_enter Tryz.func322,Tryz.ntmps322
 go_wp2_with fail
 go_ret
 exact⟨rfl,by go_grown⟩
theorem xng (d:Nat) (ns ms:List (List Int)):∀ l:Jl,xfQ false d ns l=xfQ false d ms l
 | .nil=>by rw[xfQ,xfQ]
 | .cons n v l=>by
  rw[xfQ,xfQ,xng d (ns++[n]) (ms++[n]) l]
  simp
theorem xtn (d:Nat) (l:Jl) (i:Nat) (n:List Int) (v:Js) (h:l.at? i=some (n,v)):xfQ false d [] (l.drop i)=if xe4 (d+1) v≠0 then xe4 (d+1) v else xfQ false d [] (l.drop (i+1)):=by
 rw[Jl.drop_at l i n v h,xfQ,xng d ([]++[n]) []]
 simp
theorem xyq (d:Nat) (l:Jl) (i:Nat) (n:List Int) (v:Js) (h:l.at? i=some (n,v)):xfQ true d (l.names.take i) (l.drop i)=if xas n<0 then 4 else if n ∈ l.names.take i then 22 else if xe4 (d+1) v≠0 then xe4 (d+1) v else xfQ true d (l.names.take (i+1)) (l.drop (i+1)):=by
 rw[Jl.drop_at l i n v h,xfQ,List.take_add_one,Jl.names_at l i n v h]
 simp
theorem xgm {a b:Int} (h:a=b):Ending.returned (.int .i64 a)=.returned (.int .i64 b):=by rw[h]
theorem xny (l:Jl) (HK:∀ i n v,l.at? i=some (n,v)→xpa v) (S:Nat→Prop) (d:Nat) (w:World) (a:Option Addr) (cap:Nat) (h1:l.length≤cap) (h2:cap≤maxLen) (hr:xf7 S w a 0 l) (hd:d≤5) :
  Calls Tryz.prog 356 #[.slice a l.length cap,.int .i64 d] w fun e w'=>e=.returned (.int .i64 (xe4 d (.arr l)))∧Below w.heap.size w w':=by
 obtain⟨R,hR⟩:∃ R,xe4 d (.arr l)=R:=⟨_,rfl⟩
 rw[hR]
 rw[xe4] at hR
 have hml:(l.length:Int)≤9223372036854775807:=by rw[xA4] at h2;omega
 have HP:=lH (fun W=>xkA (l.length:Int) d W)
 have HR:=lH hr
 have HK:=lH HK
 clear hr
 obtain⟨q,hq,hqd⟩:∃ q:Int,(if 4<d then (20:Int) else if 64<(l.length:Int) then 21 else 0)=q∧(q≠0→R=q)∧(q=0→d≤4∧l.length≤64∧R=xfQ false d [] l):=by
  refine⟨_,rfl,?_⟩
  by_cases c1:4<d
  ·rw[if_pos c1] at hR ⊢;exact⟨fun _=>hR.symm,fun e=>by omega⟩
  rw[if_neg c1] at hR ⊢
  by_cases c2:64<l.length
  ·rw[if_pos c2] at hR;rw[if_pos (by omega)];exact⟨fun _=>hR.symm,fun e=>by omega⟩
  ·rw[if_neg c2] at hR;rw[if_neg (by omega)];exact⟨fun e=>absurd rfl e,fun _=>⟨by omega,by omega,hR.symm⟩⟩
 rw[hq] at HP
 clear hq hR
 by_cases hq0:q=0
 ·subst hq0
  obtain⟨hd4,h64,hRR⟩:=hqd.2 rfl
  have HRR:=lH hRR
  clear hqd hRR
  have hwd:IntKind.i64.wrap ((d:Int)+1)=((d+1:Nat):Int):=by rw[IntKind.wrap_i64] <;> omega
  go_enter Tryz.func356,Tryz.ntmps356
  go_wp2_with fail
  refine(HP.out _).mono ?_
  rintro e w1 ⟨rfl,hb1⟩
  go_wp2_with fail
  go_loopw [18] (fun z wr=>∃ (i:Nat),i≤l.length∧z=.int .i64 i∧Hid (xfQ false d [] (l.drop i)=R)∧Below w.heap.size w wr) (fun z _=>l.length - (intOf z).toNat)
  case atStart=>exact⟨0,Nat.zero_le _,rfl,lH (by rw[Jl.drop_zero];exact HRR.out.symm),hb1⟩
  case round =>
   obtain⟨i,hi,rfl,HW,hbw⟩:=hrel
   by_cases hlt:i<l.length
   ·have hi2:(i:Int)<(l.length:Int):=by omega
    obtain⟨n,v,hat⟩:=Jl.lt_at l i hlt
    obtain⟨g,off,y,rfl,_,hg,l0,hav⟩:=xf7.at l 0 i n v HR.out hat
    rw[Nat.zero_add] at l0
    replace l0:=(hbw.cell hg).trans l0
    have HC:=lH (fun W (hb:Below w.heap.size w W)=>HK.out i n v hat S (d+1) W y (hav.below hb) (by omega))
    have HST:=lH (xtn d l i n v hat)
    clear hat hav
    obtain⟨c,hc⟩:∃ c,xe4 (d+1) v=c:=⟨_,rfl⟩
    rw[hc] at HC HST
    clear hc
    have HBW:=lH hbw
    clear hbw
    go_wp2_with fail
    refine(HC.out _ HBW.out).mono ?_
    rintro e w2 ⟨rfl,hb⟩
    have HB2:=lH (HBW.out.trans (hb.mono HBW.out.size))
    clear hb l0
    by_cases hc0:c=0
    ·have hcd:(c != 0)=false:=by simpa using hc0
     have HC0:=lH hc0
     clear hc0
     go_wp2_with fail
     go_roundw
     case rel=>exact⟨i+1,by omega,by go_num,lH (by rw[← HW.out,HST.out,if_neg (by rw[HC0.out];simp)]),HB2.out⟩
     case measure=>simp[intOf];omega
    ·have hcd:(c != 0)=true:=by simpa using hc0
     have HC0:=lH hc0
     clear hc0
     go_wp2_with fail
     go_ret
     exact⟨xgm (by rw[← HW.out,HST.out,if_pos HC0.out]),HB2.out⟩
   ·obtain rfl:i=l.length:=by omega
    have hx:R=0:=by have:=HW.out;rw[Jl.drop_len,xfQ] at this;exact this.symm
    go_wp2_with fail
    go_ret
    exact⟨by rw[hx];rfl,hbw⟩
 ·have hcd:(q != 0)=true:=by simpa using hq0
  have hRq:=hqd.1 hq0
  subst hRq
  clear hqd hq0
  go_enter Tryz.func356,Tryz.ntmps356
  go_wp2_with fail
  refine(HP.out _).mono ?_
  rintro e w1 ⟨rfl,hb1⟩
  go_wp2_with fail
  go_ret
  exact⟨rfl,hb1⟩
theorem xwU (l:Jl) (HK:∀ i n v,l.at? i=some (n,v)→xpa v):xpa (.arr l):=by
 intro S d w x h hd
 rw[xaq] at h
 obtain⟨a,cap,rfl,h1,h2,hr⟩:=h
 have H:=lH (fun W (hb:Below w.heap.size w W)=>xny l HK S d W a cap h1 h2 (xf7.keep (fun _ e _=>e) hb.size (fun b _ hl=>hb.block b hl) l a 0 hr) hd)
 clear HK hr
 generalize xe4 d (.arr l)=R at H
 have a1:=fun W=>xav 20 4 397 (.slice a l.length cap) _ _ Tryz.underlying4 rfl xoG (by decide) W
 have a2:=fun W=>xav 20 3 397 (.slice a l.length cap) _ _ Tryz.underlying3 rfl xAW (by decide) W
 have a3:=fun W=>xav 20 9 397 (.slice a l.length cap) _ _ Tryz.underlying9 rfl xBo (by decide) W
 have a4:=fun W=>xcb 20 397 (.slice a l.length cap) _ Tryz.underlying397 rfl W
 go_enter Tryz.func322,Tryz.ntmps322
 go_wp2_with fail
 refine(H.out _ (by go_grown)).mono ?_
 rintro e w1 ⟨rfl,hb⟩
 go_wp2_with fail
 go_ret
 exact⟨rfl,hb⟩
theorem xft {w w' w1:World} {B:Nat} {x y:Value} (hb:Below w'.heap.size w' w1) (h:w'.cell? ⟨B,0,none⟩=some x∧w'.cell? ⟨B,1,none⟩=some y∧Below w.heap.size w w'∧B<w'.heap.size) :
  w1.cell? ⟨B,0,none⟩=some x∧w1.cell? ⟨B,1,none⟩=some y∧Below w.heap.size w w1∧B<w1.heap.size :=
 ⟨(hb.cell h.2.2.2).trans h.1,(hb.cell h.2.2.2).trans h.2.1,h.2.2.1.trans (hb.mono h.2.2.1.size),Nat.lt_of_lt_of_le h.2.2.2 hb.size⟩
theorem xqG (l:Jl) (HK:∀ i n v,l.at? i=some (n,v)→xpa v) (S:Nat→Prop) (d:Nat) (w:World) (a:Option Addr) (cap:Nat) (h1:l.length≤cap) (h2:cap≤maxLen) (hr:xea S w a 0 l) (hd:d≤5) :
  Calls Tryz.prog 357 #[.slice a l.length cap,.int .i64 d] w fun e w'=>e=.returned (.int .i64 (xe4 d (.obj l)))∧Below w.heap.size w w':=by
 obtain⟨R,hR⟩:∃ R,xe4 d (.obj l)=R:=⟨_,rfl⟩
 rw[hR]
 rw[xe4] at hR
 have hml:(l.length:Int)≤9223372036854775807:=by rw[xA4] at h2;omega
 have HP:=lH (fun W=>xkA (l.length:Int) d W)
 have HR:=lH hr
 have HK:=lH HK
 clear hr
 obtain⟨q,hq,hqd⟩:∃ q:Int,(if 4<d then (20:Int) else if 64<(l.length:Int) then 21 else 0)=q∧(q≠0→R=q)∧(q=0→d≤4∧l.length≤64∧R=xfQ true d [] l):=by
  refine⟨_,rfl,?_⟩
  by_cases c1:4<d
  ·rw[if_pos c1] at hR ⊢;exact⟨fun _=>hR.symm,fun e=>by omega⟩
  rw[if_neg c1] at hR ⊢
  by_cases c2:64<l.length
  ·rw[if_pos c2] at hR;rw[if_pos (by omega)];exact⟨fun _=>hR.symm,fun e=>by omega⟩
  ·rw[if_neg c2] at hR;rw[if_neg (by omega)];exact⟨fun e=>absurd rfl e,fun _=>⟨by omega,by omega,hR.symm⟩⟩
 rw[hq] at HP
 clear hq hR
 by_cases hq0:q=0
 ·subst hq0
  obtain⟨hd4,h64,hRR⟩:=hqd.2 rfl
  have HRR:=lH hRR
  clear hqd hRR
  have hwd:IntKind.i64.wrap ((d:Int)+1)=((d+1:Nat):Int):=by rw[IntKind.wrap_i64] <;> omega
  go_enter Tryz.func357,Tryz.ntmps357
  go_wp2_with fail
  refine(HP.out _).mono ?_
  rintro e w1 ⟨rfl,hb1⟩
  go_wp2_with fail
  go_loopw [18] (fun z wr=>∃ (i:Nat),i≤l.length∧z=.int .i64 i∧Hid (xfQ true d (l.names.take i) (l.drop i)=R)∧Below w.heap.size w wr) (fun z _=>l.length - (intOf z).toNat)
  case atStart=>exact⟨0,Nat.zero_le _,rfl,lH (by rw[Jl.drop_zero];exact HRR.out.symm),hb1⟩
  case round =>
   obtain⟨i,hi,rfl,HW,hbw⟩:=hrel
   by_cases hlt:i<l.length
   ·have hi2:(i:Int)<(l.length:Int):=by omega
    have hi3:(i:Int)≤(cap:Int):=by omega
    obtain⟨n,v,hat⟩:=Jl.lt_at l i hlt
    obtain⟨g,off,y,t,rfl,_,hg,l0,hbt,hnl,l1,hav⟩:=xea.at l 0 i n v HR.out hat
    rw[Nat.zero_add] at l0 l1
    replace l0:=(hbw.cell hg).trans l0
    replace l1:=(hbw.cell hg).trans l1
    have HC:=lH (fun W (hb:Below w.heap.size w W)=>HK.out i n v hat S (d+1) W y (hav.below hb) (by omega))
    have HST:=lH (xyq d l i n v hat)
    have HV:=lH (fun W=>xh0 t W (by rw[← xah,hbt];omega))
    have HPL:=lH (fun W (hb:Below w.heap.size w W)=>xfJ S (some ⟨g,off,none⟩) i cap l t W (xea.keep (fun _ e _=>e) hb.size (fun b _ hl=>hb.block b hl) l _ 0 HR.out) hi (by omega) h2)
    rw[hbt] at HV HPL
    have hyf:=xja hav
    clear hat hav hbt hnl
    obtain⟨c,hc⟩:∃ c,xe4 (d+1) v=c:=⟨_,rfl⟩
    rw[hc] at HC HST
    clear hc
    have HBW:=lH hbw
    clear hbw
    rcases hyf with rfl|⟨u,z,rfl⟩
    ·obtain⟨W0,HW0,hWS⟩:∃ W0,Hid (W0=(wr.alloc (.cells #[.string t,.nilIface] 404)))∧(W0.cell? ⟨wr.heap.size,0,none⟩=some (.string t)∧W0.cell? ⟨wr.heap.size,1,none⟩=some (.nilIface)∧Below w.heap.size w W0∧wr.heap.size<W0.heap.size):=by
      refine⟨_,lH rfl,?_,?_,?_,by simp⟩
      ·rw[World.cell?_alloc_mark];rfl
      ·rw[World.cell?_alloc_mark];rfl
      ·exact HBW.out.trans (((Below.refl _ wr).alloc (Nat.le_refl _) _).mono HBW.out.size)
     have HS0:=lH hWS
     clear hWS
     by_cases hcv:xas n<0
     ·have hcd:decide (0≤xas n)=false:=by simp;omega
      have HX:=lH hcv
      rw[hcd] at HV
      clear hcd hcv
      go_wp2_with fail
      rw[← HW0.out]
      refine(HV.out _).mono ?_
      rintro e w2 ⟨rfl,hb⟩
      have HB2:=lH (HS0.out.2.2.1.trans (hb.mono HS0.out.2.2.1.size))
      clear hb
      go_wp2_with fail
      go_ret
      exact⟨xgm (by rw[← HW.out,HST.out,if_pos HX.out]),HB2.out⟩
     ·have hcd:decide (0≤xas n)=true:=by simp;omega
      have HST:Hid (R=if n ∈ l.names.take i then 22 else if c≠0 then c else xfQ true d (l.names.take (i+1)) (l.drop (i+1))):=lH (by rw[← HW.out,HST.out,if_neg hcv])
      rw[hcd] at HV
      clear hcd hcv
      go_wp2_with fail
      rw[← HW0.out]
      refine(HV.out _).mono ?_
      rintro e w2 ⟨rfl,hb⟩
      have HS1:=xft hb HS0.out
      clear hb
      go_upto_region 9 with fail
      refine wp_region_held_drew (S:=fun w'=>w'.cell? ⟨wr.heap.size,0,none⟩=some (.string t)∧w'.cell? ⟨wr.heap.size,1,none⟩=some (.nilIface)∧Below w.heap.size w w'∧wr.heap.size<w'.heap.size) (by kernel_rfl) (xft (Below.drew (Below.refl _ _)) HS1) (fun hH0=>?_)
      refine xe1 (i:=0) (d:=27) (v:=?_) rfl rfl (Or.inl ⟨by rfl,?y0⟩) hH0 ?_
      case y0=>intro w hSw;obtain⟨hq0,hq1,hq2,hq3⟩:=hSw;go_simp;try with_reducible rfl
      try simp only[Act.put,zsA,zsB,zsC]
      refine xe1 (i:=1) (d:=28) (v:=?_) rfl rfl (Or.inl ⟨by rfl,?y1⟩) hH0 ?_
      case y1=>intro w hSw;obtain⟨hq0,hq1,hq2,hq3⟩:=hSw;go_simp;try with_reducible rfl
      try simp only[Act.put,zsA,zsB,zsC]
      refine xe1 (i:=2) (d:=29) (v:=?_) rfl rfl (Or.inl ⟨by rfl,?y2⟩) hH0 ?_
      case y2=>intro w hSw;obtain⟨hq0,hq1,hq2,hq3⟩:=hSw;go_simp;try with_reducible rfl
      try simp only[Act.put,zsA,zsB,zsC]
      refine xe1 (i:=3) (d:=30) (v:=?_) rfl rfl (Or.inl ⟨by rfl,?y3⟩) hH0 ?_
      case y3=>intro w hSw;obtain⟨hq0,hq1,hq2,hq3⟩:=hSw;go_simp;try with_reducible rfl
      try simp only[Act.put,zsA,zsB,zsC]
      refine xe1 (i:=4) (d:=31) (v:=?_) rfl rfl (Or.inl ⟨by rfl,?y4⟩) hH0 ?_
      case y4=>intro w hSw;obtain⟨hq0,hq1,hq2,hq3⟩:=hSw;go_simp;try with_reducible rfl
      try simp only[Act.put,zsA,zsB,zsC]
      refine wpAnyH_ready (rs:=[5]) (by kernel_rfl) (by simp) ?_
      refine AllReadyH.cons rfl (fun K hK=>?_) AllReadyH.nil
      go_simp
      refine(HPL.out _ hH0.2.2.1).mono ?_
      rintro e w' ⟨⟨r,rfl,hpr⟩,hb⟩
      have HPR:=lH hpr
      clear hpr
      have hdr:∀ x:Int,(x ≥ 0)=(0≤x):=fun _=>rfl
      go_wp2_with fail
      refine hK.out _ _ (xft hb hH0) (fun hH1=>?_)
      clear hK K hb hH0
      try simp only[Act.put,zsA,zsB,zsC]
      refine xe1 (i:=6) (d:=33) (v:=?_) rfl rfl (Or.inl ⟨by rfl,?y6⟩) hH1 ?_
      case y6=>intro w hSw;obtain⟨hq0,hq1,hq2,hq3⟩:=hSw;go_simp;try with_reducible rfl
      try simp only[Act.put,zsA,zsB,zsC]
      refine wpAnyH_done (by kernel_rfl) ?_ _
      by_cases hr0:0≤r
      ·have hrd:decide (0≤r)=true:=by simpa using hr0
       have HRM:=lH (HPR.out.neg.1 hr0)
       go_wp2_with fail
       go_ret
       exact⟨xgm (by rw[HST.out,if_pos HRM.out]),hH1.2.2.1⟩
      have hrd:decide (0≤r)=false:=by simpa using hr0
      have HST:Hid (R=if c≠0 then c else xfQ true d (l.names.take (i+1)) (l.drop (i+1))):=lH (by rw[HST.out,if_neg (fun e=>hr0 (HPR.out.neg.2 e))])
      replace hr0:r<0:=by omega
      have HS2:=lH hH1
      obtain⟨p0,p1,hbq,hszq⟩:=hH1
      have HBQ:=lH hbq
      clear hbq
      go_wp2_with fail
      refine(HC.out _ HBQ.out).mono ?_
      rintro e w3 ⟨rfl,hb⟩
      have HB3:=lH (HBQ.out.trans (hb.mono HBQ.out.size))
      clear hb p0 p1
      by_cases hc0:c=0
      ·have hcd:(c != 0)=false:=by simpa using hc0
       have HC0:=lH hc0
       clear hc0
       go_wp2_with fail
       go_roundw
       case rel=>exact⟨i+1,by omega,by go_num,lH (by rw[HST.out,if_neg (by rw[HC0.out];simp)]),HB3.out⟩
       case measure=>simp[intOf];omega
      ·have hcd:(c != 0)=true:=by simpa using hc0
       have HC0:=lH hc0
       clear hc0
       go_wp2_with fail
       go_ret
       exact⟨xgm (by rw[HST.out,if_pos HC0.out]),HB3.out⟩
    ·obtain⟨W0,HW0,hWS⟩:∃ W0,Hid (W0=(wr.alloc (.cells #[.string t,.iface u z] 404)))∧(W0.cell? ⟨wr.heap.size,0,none⟩=some (.string t)∧W0.cell? ⟨wr.heap.size,1,none⟩=some (.iface u z)∧Below w.heap.size w W0∧wr.heap.size<W0.heap.size):=by
      refine⟨_,lH rfl,?_,?_,?_,by simp⟩
      ·rw[World.cell?_alloc_mark];rfl
      ·rw[World.cell?_alloc_mark];rfl
      ·exact HBW.out.trans (((Below.refl _ wr).alloc (Nat.le_refl _) _).mono HBW.out.size)
     have HS0:=lH hWS
     clear hWS
     by_cases hcv:xas n<0
     ·have hcd:decide (0≤xas n)=false:=by simp;omega
      have HX:=lH hcv
      rw[hcd] at HV
      clear hcd hcv
      go_wp2_with fail
      rw[← HW0.out]
      refine(HV.out _).mono ?_
      rintro e w2 ⟨rfl,hb⟩
      have HB2:=lH (HS0.out.2.2.1.trans (hb.mono HS0.out.2.2.1.size))
      clear hb
      go_wp2_with fail
      go_ret
      exact⟨xgm (by rw[← HW.out,HST.out,if_pos HX.out]),HB2.out⟩
     ·have hcd:decide (0≤xas n)=true:=by simp;omega
      have HST:Hid (R=if n ∈ l.names.take i then 22 else if c≠0 then c else xfQ true d (l.names.take (i+1)) (l.drop (i+1))):=lH (by rw[← HW.out,HST.out,if_neg hcv])
      rw[hcd] at HV
      clear hcd hcv
      go_wp2_with fail
      rw[← HW0.out]
      refine(HV.out _).mono ?_
      rintro e w2 ⟨rfl,hb⟩
      have HS1:=xft hb HS0.out
      clear hb
      go_upto_region 9 with fail
      refine wp_region_held_drew (S:=fun w'=>w'.cell? ⟨wr.heap.size,0,none⟩=some (.string t)∧w'.cell? ⟨wr.heap.size,1,none⟩=some (.iface u z)∧Below w.heap.size w w'∧wr.heap.size<w'.heap.size) (by kernel_rfl) (xft (Below.drew (Below.refl _ _)) HS1) (fun hH0=>?_)
      refine xe1 (i:=0) (d:=27) (v:=?_) rfl rfl (Or.inl ⟨by rfl,?y0⟩) hH0 ?_
      case y0=>intro w hSw;obtain⟨hq0,hq1,hq2,hq3⟩:=hSw;go_simp;try with_reducible rfl
      try simp only[Act.put,zsA,zsB,zsC]
      refine xe1 (i:=1) (d:=28) (v:=?_) rfl rfl (Or.inl ⟨by rfl,?y1⟩) hH0 ?_
      case y1=>intro w hSw;obtain⟨hq0,hq1,hq2,hq3⟩:=hSw;go_simp;try with_reducible rfl
      try simp only[Act.put,zsA,zsB,zsC]
      refine xe1 (i:=2) (d:=29) (v:=?_) rfl rfl (Or.inl ⟨by rfl,?y2⟩) hH0 ?_
      case y2=>intro w hSw;obtain⟨hq0,hq1,hq2,hq3⟩:=hSw;go_simp;try with_reducible rfl
      try simp only[Act.put,zsA,zsB,zsC]
      refine xe1 (i:=3) (d:=30) (v:=?_) rfl rfl (Or.inl ⟨by rfl,?y3⟩) hH0 ?_
      case y3=>intro w hSw;obtain⟨hq0,hq1,hq2,hq3⟩:=hSw;go_simp;try with_reducible rfl
      try simp only[Act.put,zsA,zsB,zsC]
      refine xe1 (i:=4) (d:=31) (v:=?_) rfl rfl (Or.inl ⟨by rfl,?y4⟩) hH0 ?_
      case y4=>intro w hSw;obtain⟨hq0,hq1,hq2,hq3⟩:=hSw;go_simp;try with_reducible rfl
      try simp only[Act.put,zsA,zsB,zsC]
      refine wpAnyH_ready (rs:=[5]) (by kernel_rfl) (by simp) ?_
      refine AllReadyH.cons rfl (fun K hK=>?_) AllReadyH.nil
      go_simp
      refine(HPL.out _ hH0.2.2.1).mono ?_
      rintro e w' ⟨⟨r,rfl,hpr⟩,hb⟩
      have HPR:=lH hpr
      clear hpr
      have hdr:∀ x:Int,(x ≥ 0)=(0≤x):=fun _=>rfl
      go_wp2_with fail
      refine hK.out _ _ (xft hb hH0) (fun hH1=>?_)
      clear hK K hb hH0
      try simp only[Act.put,zsA,zsB,zsC]
      refine xe1 (i:=6) (d:=33) (v:=?_) rfl rfl (Or.inl ⟨by rfl,?y6⟩) hH1 ?_
      case y6=>intro w hSw;obtain⟨hq0,hq1,hq2,hq3⟩:=hSw;go_simp;try with_reducible rfl
      try simp only[Act.put,zsA,zsB,zsC]
      refine wpAnyH_done (by kernel_rfl) ?_ _
      by_cases hr0:0≤r
      ·have hrd:decide (0≤r)=true:=by simpa using hr0
       have HRM:=lH (HPR.out.neg.1 hr0)
       go_wp2_with fail
       go_ret
       exact⟨xgm (by rw[HST.out,if_pos HRM.out]),hH1.2.2.1⟩
      have hrd:decide (0≤r)=false:=by simpa using hr0
      have HST:Hid (R=if c≠0 then c else xfQ true d (l.names.take (i+1)) (l.drop (i+1))):=lH (by rw[HST.out,if_neg (fun e=>hr0 (HPR.out.neg.2 e))])
      replace hr0:r<0:=by omega
      have HS2:=lH hH1
      obtain⟨p0,p1,hbq,hszq⟩:=hH1
      have HBQ:=lH hbq
      clear hbq
      go_wp2_with fail
      refine(HC.out _ HBQ.out).mono ?_
      rintro e w3 ⟨rfl,hb⟩
      have HB3:=lH (HBQ.out.trans (hb.mono HBQ.out.size))
      clear hb p0 p1
      by_cases hc0:c=0
      ·have hcd:(c != 0)=false:=by simpa using hc0
       have HC0:=lH hc0
       clear hc0
       go_wp2_with fail
       go_roundw
       case rel=>exact⟨i+1,by omega,by go_num,lH (by rw[HST.out,if_neg (by rw[HC0.out];simp)]),HB3.out⟩
       case measure=>simp[intOf];omega
      ·have hcd:(c != 0)=true:=by simpa using hc0
       have HC0:=lH hc0
       clear hc0
       go_wp2_with fail
       go_ret
       exact⟨xgm (by rw[HST.out,if_pos HC0.out]),HB3.out⟩
   ·obtain rfl:i=l.length:=by omega
    have hx:R=0:=by have:=HW.out;rw[Jl.drop_len,xfQ] at this;exact this.symm
    go_wp2_with fail
    go_ret
    exact⟨by rw[hx];rfl,hbw⟩
 ·have hcd:(q != 0)=true:=by simpa using hq0
  have hRq:=hqd.1 hq0
  subst hRq
  clear hqd hq0
  go_enter Tryz.func357,Tryz.ntmps357
  go_wp2_with fail
  refine(HP.out _).mono ?_
  rintro e w1 ⟨rfl,hb1⟩
  go_wp2_with fail
  go_ret
  exact⟨rfl,hb1⟩
theorem xzK (l:Jl) (HK:∀ i n v,l.at? i=some (n,v)→xpa v):xpa (.obj l):=by
 intro S d w x h hd
 rw[xaq] at h
 obtain⟨a,cap,rfl,h1,h2,hr⟩:=h
 have H:=lH (fun W (hb:Below w.heap.size w W)=>xqG l HK S d W a cap h1 h2 (xea.keep (fun _ e _=>e) hb.size (fun b _ hl=>hb.block b hl) l a 0 hr) hd)
 clear HK hr
 generalize xe4 d (.obj l)=R at H
 have a1:=fun W=>xav 20 4 157 (.slice a l.length cap) _ _ Tryz.underlying4 rfl xoG (by decide) W
 have a2:=fun W=>xav 20 3 157 (.slice a l.length cap) _ _ Tryz.underlying3 rfl xAW (by decide) W
 have a3:=fun W=>xav 20 9 157 (.slice a l.length cap) _ _ Tryz.underlying9 rfl xBo (by decide) W
 have a4:=fun W=>xav 20 397 157 (.slice a l.length cap) _ _ Tryz.underlying397 rfl xBE (by decide) W
 have a5:=fun W=>xcb 20 157 (.slice a l.length cap) _ Tryz.underlying157 rfl W
 go_enter Tryz.func322,Tryz.ntmps322
 go_wp2_with fail
 refine(H.out _ (by go_grown)).mono ?_
 rintro e w1 ⟨rfl,hb⟩
 go_wp2_with fail
 go_ret
 exact⟨rfl,hb⟩
theorem xAx:∀ v:Js,xpa v:=Js.ind xAh xxx xze xAa xwU xzK xAI
theorem xju (S:Nat→Prop) (v:Js) (x:Value) (w:World) (h:xaq S w v x):Calls Tryz.prog 289 #[x] w fun e w'=>e=.returned (.int .i64 (xe4 1 v))∧Below w.heap.size w w':=by
 have H:=lH (fun W (hb:Below w.heap.size w W)=>xAx v S 1 W x (h.below hb) (by omega))
 clear h
 generalize xe4 1 v=R at H
 go_enter Tryz.func289,Tryz.ntmps289
 go_wp2_with fail
 refine(H.out _ (by go_grown)).mono ?_
 rintro e w1 ⟨rfl,hb⟩
 go_wp2_with fail
 go_ret
 exact⟨rfl,hb⟩
theorem xAs:(Tryz.prog.info? (tlL_ren.t 116)).map (fun i=>(i.zero,i.size))=some (some (.agg (Array.replicate 256 (.bool false))),256):=by kernel_rfl
theorem xA0:(Tryz.prog.info? (trL_ren.t 116)).map (fun i=>(i.zero,i.size))=some (some (.agg (Array.replicate 256 (.bool false))),256):=by kernel_rfl
theorem xtJ (s:ByteArray) (w:World):Calls Tryz.prog 234 #[.string s,.string { data:=#[32,9,10,13] }] w fun e w'=>(∃ r:ByteArray,e=.returned (.string r)∧r.size+xaa (bI s)=s.size)∧Below w.heap.size w w':=by
 refine(Any.strings_TrimLeft_laid tlL xAs s ⟨#[32,9,10,13]⟩ w (by decide) (ascii_of_all (by decide))).mono ?_
 rintro e w' ⟨rfl,hb⟩
 refine⟨⟨_,rfl,?_⟩,hb⟩
 have:=xnJ s.data.toList
 rw[Array.length_toList] at this
 rw[xBf]
 show (List.toArray _).size+_=s.data.size
 rw[List.size_toArray]
 exact this
theorem xvD (s:ByteArray) (w:World):Calls Tryz.prog 234 #[.string s,.string { data:=#[48,49,50,51,52,53,54,55,56,57,43,45,46,101,69] }] w fun e w'=>(∃ r:ByteArray,e=.returned (.string r)∧r.size+xb8 (bI s)=s.size)∧Below w.heap.size w w':=by
 refine(Any.strings_TrimLeft_laid tlL xAs s ⟨#[48,49,50,51,52,53,54,55,56,57,43,45,46,101,69]⟩ w (by decide) (ascii_of_all (by decide))).mono ?_
 rintro e w' ⟨rfl,hb⟩
 refine⟨⟨_,rfl,?_⟩,hb⟩
 have:=xn3 s.data.toList
 rw[Array.length_toList] at this
 rw[xBf]
 show (List.toArray _).size+_=s.data.size
 rw[List.size_toArray]
 exact this
theorem xzI (s:ByteArray) (w:World) (hs:s.size≤100000):Calls Tryz.prog 319 #[.string s,.string { data:=#[48,49,50,51,52,53,54,55,56,57] }] w fun e w'=>(∃ r:ByteArray,e=.returned (.string r)∧(r={ data:=#[] }↔(bI s).all isD=true))∧Below w.heap.size w w':=by
 refine(Any.strings_Trim_laid trL xA0 s ⟨#[48,49,50,51,52,53,54,55,56,57]⟩ w (by omega) (by decide) (ascii_of_all (by decide))).mono ?_
 rintro e w' ⟨rfl,hb⟩
 refine⟨⟨_,rfl,?_⟩,hb⟩
 rw[xBf,← xt5]
 constructor
 ·intro h
  have:=congrArg (fun b:ByteArray=>b.data.toList) h
  simpa using this
 ·intro h
  have h':Lib.trimS s.data.toList (ByteArray.mk #[48,49,50,51,52,53,54,55,56,57]).data.toList=[]:=h
  rw[h']
theorem xz7 (s:ByteArray) (w:World):Calls Tryz.prog 318 #[.string s,.string { data:=#[45] }] w fun e w'=>(∃ r:ByteArray,e=.returned (.string r)∧bI r=xaY (bI s))∧w'=w:=by
 refine(Any.strings_TrimPrefix tpL s ⟨#[45]⟩ w).mono ?_
 rintro e w' ⟨rfl,hb⟩
 exact⟨⟨_,rfl,by rw[xq8];exact xtY s.data.toList⟩,hb⟩
theorem xgp (s p:ByteArray) (w:World):Calls Tryz.prog 280 #[.string s,.string p] w fun e w'=>e=.returned (.bool (decide (bI p <+: bI s)))∧w'=w:=by
 have:=xqr s p w
 rw[xzw] at this
 exact this
theorem xzH (s:ByteArray) (c:Int) (w:World) (h0:0≤c) (h1:c<256):Calls Tryz.prog 317 #[.string s,.int .u8 c] w fun e w'=>(∃ r:Int,e=.returned (.int .i64 r)∧(r<0↔c ∉ bI s))∧w'=w:=by
 refine(Any.strings_IndexByte ibL s c w).mono ?_
 rintro e w' ⟨rfl,hb⟩
 exact⟨⟨_,rfl,(xzN s.data.toList c h0 h1).1⟩,hb⟩
theorem xdO (s:ByteArray) (p:Nat) (w:World) (hp:p≤s.size) (hs:s.size≤10000):Calls Tryz.prog 153 #[.string s,.int .i64 p] w fun e w'=>e=.returned (.int .i64 ((p+xaa ((bI s).drop p):Nat):Int))∧Below w.heap.size w w':=by
 have HT:=lH (fun W=>xtJ (s.extract p s.size) W)
 have hbe:bI (s.extract p s.size)=(bI s).drop p:=by
  rw[xca _ _ _ hp,List.take_of_length_le (by rw[List.length_drop,xah];exact Nat.le_refl _)]
 have hsz:(s.extract p s.size).size=s.size - p:=by rw[ByteArray.size_extract];omega
 rw[hbe,hsz] at HT
 have n1:(p:Int)≤(s.size:Int):=by omega
 clear hbe hsz
 go_enter Tryz.func153,Tryz.ntmps153
 go_wp2_with fail
 refine(HT.out _).mono ?_
 rintro e w1 ⟨⟨r,rfl,hr⟩,hb⟩
 have hw:IntKind.i64.wrap ((s.size:Int) - (r.size:Int))=((p+xaa ((bI s).drop p):Nat):Int):=by rw[IntKind.wrap_i64] <;> omega
 clear hr
 go_wp2_with fail
 go_ret
 exact⟨rfl,hb⟩
theorem xtd (s:ByteArray) (p:Nat) (hp:p≤s.size):bI (s.extract p s.size)=(bI s).drop p:=by
 rw[xca _ _ _ hp,List.take_of_length_le (by rw[List.length_drop,xah];exact Nat.le_refl _)]
theorem xwA (s:ByteArray) (p:Nat) (hp:p≤s.size):(s.extract p s.size).size=s.size - p:=by rw[ByteArray.size_extract];omega
theorem xAv {a b:Int} {c d:Int} (h:a=b) (g:c=d):Ending.returned (.tuple #[.int .i64 a,.int .i64 c])=.returned (.tuple #[.int .i64 b,.int .i64 d]):=by rw[h,g]
theorem xfs (s word:ByteArray) (p:Nat) (w:World) (hp:p≤s.size) (hs:s.size≤10000) (hw:word.size≤100):Calls Tryz.prog 229 #[.string s,.int .i64 p,.string word] w fun e w'=>e=.returned (.tuple #[.int .i64 ((p+(xb3 (bI word) ((bI s).drop p) 0).1:Nat):Int),.int .i64 (xb3 (bI word) ((bI s).drop p) 0).2])∧Below w.heap.size w w':=by
 have H1:=lH (fun W=>xgp (s.extract p s.size) word W)
 have H2:=lH (fun W=>xgp word (s.extract p s.size) W)
 rw[xtd s p hp] at H1 H2
 have HG:=lH (xmr (bI word) ((bI s).drop p) 0)
 have n1:(p:Int)≤(s.size:Int):=by omega
 have hl:((bI s).drop p).length=s.size - p:=by rw[List.length_drop,xah]
 have hwl:=xah word
 by_cases c1:bI word <+: (bI s).drop p
 ·rw[decide_eq_true c1] at H1
  have HR:Hid (xb3 (bI word) ((bI s).drop p) 0=(word.size,0)):=lH (by rw[HG.out,if_pos c1,hwl];simp)
  rw[HR.out]
  have hw2:IntKind.i64.wrap ((p:Int)+(word.size:Int))=((p+word.size:Nat):Int):=by rw[IntKind.wrap_i64] <;> omega
  clear HG HR hl hwl c1 H2
  go_enter Tryz.func229,Tryz.ntmps229
  go_wp2_with fail
  refine(H1.out _).mono ?_
  rintro e w1 ⟨rfl,rfl⟩
  go_wp2_with fail
  refine bodyPost_ret (v:=.tuple #[.int .i64 ((p+word.size:Nat):Int),.int .i64 0]) (by simp[results,Tryz.results229,go_sem]) rfl ⟨rfl,by go_grown⟩
 rw[decide_eq_false c1] at H1
 by_cases c2:(bI s).drop p <+: bI word
 ·rw[decide_eq_true c2] at H2
  have HR:Hid (xb3 (bI word) ((bI s).drop p) 0=(s.size - p,3)):=lH (by rw[HG.out,if_neg c1,if_pos c2,hl];simp)
  rw[HR.out]
  have hps:((p+(s.size - p):Nat):Int)=(s.size:Int):=by omega
  clear HG HR hl hwl c1 c2
  go_enter Tryz.func229,Tryz.ntmps229
  go_wp2_with fail
  refine(H1.out _).mono ?_
  rintro e w1 ⟨rfl,rfl⟩
  go_wp2_with fail
  refine(H2.out _).mono ?_
  rintro e w1 ⟨rfl,rfl⟩
  go_wp2_with fail
  refine bodyPost_ret (v:=.tuple #[.int .i64 (s.size:Int),.int .i64 3]) (by simp[results,Tryz.results229,go_sem]) rfl ⟨xAv hps.symm rfl,by go_grown⟩
 ·rw[decide_eq_false c2] at H2
  have HR:Hid (xb3 (bI word) ((bI s).drop p) 0=(0,4)):=lH (by rw[HG.out,if_neg c1,if_neg c2])
  rw[HR.out]
  clear HG HR hl hwl c1 c2
  go_enter Tryz.func229,Tryz.ntmps229
  go_wp2_with fail
  refine(H1.out _).mono ?_
  rintro e w1 ⟨rfl,rfl⟩
  go_wp2_with fail
  refine(H2.out _).mono ?_
  rintro e w1 ⟨rfl,rfl⟩
  go_wp2_with fail
  refine bodyPost_ret (v:=.tuple #[.int .i64 (p:Int),.int .i64 4]) (by simp[results,Tryz.results229,go_sem]) rfl ⟨rfl,by go_grown⟩
theorem xBF (s:ByteArray) (l:List UInt8):((s.toList == (⟨l.toArray⟩:ByteArray).toList)=true)↔bI s=uI l:=by
 constructor
 ·intro h
  by_cases e:s=⟨l.toArray⟩
  ·rw[e,xq8]
  ·rw[xjn e] at h;cases h
 ·intro h
  exact xeb (xvH (h.trans (xq8 l).symm))
theorem xqJ (l:List UInt8):l.isEmpty=(l == []):=by cases l <;> rfl
theorem xsf (s:ByteArray) (w:World) (hs:s.size≤10000):Calls Tryz.prog 287 #[.string s] w fun e w'=>e=.returned (.bool (decide (¬ xl8 (bI s))))∧Below w.heap.size w w':=by
 have HM:=lH (fun W=>xz7 s W)
 obtain⟨Q,hQ⟩:∃ Q,Q=decide (¬ xl8 (bI s)):=⟨_,rfl⟩
 rw[← hQ]
 have HQ:=lH hQ
 clear hQ
 have e48:({ data:=#[48] }:ByteArray).toList=[48]:=by decide +kernel
 have e00:({ data:=#[] }:ByteArray).toList=[]:=by decide +kernel
 go_enter Tryz.func287,Tryz.ntmps287
 go_wp2_with fail
 refine(HM.out _).mono ?_
 rintro e w1 ⟨⟨r,rfl,hr⟩,rfl⟩
 have hrl:(xaY (bI s)).length≤s.size:=by
  rw[← xah s]
  cases bI s with
  | nil=>simp[xaY]
  | cons b t=>rw[xaY];split <;> simp
 have hrs:r.size≤10000:=by rw[← xah,hr];omega
 have H0:=lH (fun W=>xgp r { data:=#[48] } W)
 have HD:=lH (fun W=>xzI r W (by omega))
 have h48:bI { data:=#[48] }=[48]:=rfl
 rw[h48] at H0
 rw[hr] at H0 HD
 by_cases c0:[48] <+: xaY (bI s)
 ·rw[decide_eq_true c0] at H0
  have hq:(s.toList == [48])=Q:=by
   rw[HQ.out,← e48,Bool.eq_iff_iff,decide_eq_true_iff]
   have:=xBF s [48]
   refine this.trans ?_
   show bI s=[48]↔_
   obtain⟨t,ht⟩:=c0
   unfold xl8
   rw[← ht]
   constructor
   ·intro e
    rw[e] at ht ⊢
    have:t=[]:=by simpa[xaY] using ht
    subst this
    simp[xfd,isD]
   ·intro e
    have h1:¬ (1<([48]++t).length∨xfd (bI s)=true):=fun x=>e (.inr (.inl ⟨rfl,x⟩))
    have ht0:t=[]:=List.eq_nil_of_length_eq_zero (by simp at h1;have:=h1.1;rw[this];rfl)
    subst ht0
    have hn:xfd (bI s)=false:=by simpa using fun x=>h1 (.inr x)
    cases hb:bI s with
    | nil=>rw[hb] at ht;simp[xaY] at ht
    | cons b u =>
     rw[hb] at ht hn
     have hb45:b≠45:=by intro x;rw[x] at hn;simp[xfd] at hn
     rw[xaY,if_neg hb45] at ht
     simpa using ht.symm
  have HQ:=lH hq
  clear hq c0 hr hrl hrs
  go_wp2_with fail
  refine(H0.out _).mono ?_
  rintro e w2 ⟨rfl,rfl⟩
  go_wp2_with fail
  go_ret
  exact⟨by rw[← HQ.out];rfl,by go_grown⟩
 ·rw[decide_eq_false c0] at H0
  have hnil:(r.toList == ({ data:=#[] }:ByteArray).toList)=decide (xaY (bI s)=[]):=by
   rw[Bool.eq_iff_iff,decide_eq_true_iff,xBF r []]
   show bI r=[]↔_
   rw[hr]
  have hbad:xl8 (bI s)↔(xaY (bI s)=[]∨¬ (xaY (bI s)).all isD=true):=by
   unfold xl8
   constructor
   ·rintro(h|h|h)
    ·exact .inl h
    ·exfalso
     apply c0
     cases hu:xaY (bI s) with
     | nil=>rw[hu] at h;simp at h
     | cons b t=>rw[hu] at h;simp at h;rw[h.1];exact⟨t,rfl⟩
    ·exact .inr h
   ·rintro(h|h)
    ·exact .inl h
    ·exact .inr (.inr h)
  by_cases c1:xaY (bI s)=[]
  ·rw[decide_eq_true c1] at hnil
   have hR:Q=false:=by rw[HQ.out,decide_eq_false_iff_not];exact fun h=>h (hbad.2 (.inl c1))
   subst hR
   have hne:r.toList.isEmpty=true:=by rw[xqJ,← e00,hnil]
   clear hbad c0 c1 hr hrl hrs
   go_wp2_with fail
   refine(H0.out _).mono ?_
   rintro e w2 ⟨rfl,rfl⟩
   go_wp2_with fail
   go_ret
   exact⟨rfl,by go_grown⟩
  ·rw[decide_eq_false c1] at hnil
   have hne:r.toList.isEmpty=false:=by rw[xqJ,← e00,hnil]
   have hR:Q=decide ((xaY (bI s)).all isD=true):=by
    rw[HQ.out,Bool.eq_iff_iff,decide_eq_true_iff,decide_eq_true_iff,hbad]
    constructor
    ·intro h;exact Decidable.byContradiction fun x=>h (.inr x)
    ·rintro h (x|x)
     ·exact c1 x
     ·exact x h
   have HRQ:=lH hR
   clear hR
   clear hbad c0 c1 hr hrl hrs
   go_wp2_with fail
   refine(H0.out _).mono ?_
   rintro e w2 ⟨rfl,rfl⟩
   go_wp2_with fail
   refine(HD.out _).mono ?_
   rintro e w3 ⟨⟨u,rfl,hu⟩,hb⟩
   have hq:u.toList.isEmpty=Q:=by
    rw[HRQ.out,xqJ,← e00]
    by_cases e:u={ data:=#[] }
    ·rw[xeb e];rw[decide_eq_true (hu.1 e)]
    ·rw[xjn e];rw[decide_eq_false (fun x=>e (hu.2 x))]
   clear hu
   go_wp2_with fail
   go_ret
   exact⟨rfl,hb⟩
theorem xk2:∀ l:List Int,xb8 l≤l.length
 | []=>Nat.le_refl _
 | b :: t=>by rw[xb8];split <;> simp;exact xk2 t
def xA9 (R:Js × Nat × Int) (p:Nat) (w:World) (e:Ending) (w':World):Prop :=
 ∃ x,e=.returned (.tuple #[x,.int .i64 ((p+R.2.1:Nat):Int),.int .i64 R.2.2])∧(∀ S W,xaq S W R.1 x)∧Below w.heap.size w w'
theorem xyB (s:ByteArray) (w:World) (hs:s.size≤10000) (hbad:¬ xl8 (bI s)) (hq:QTab w):Calls Tryz.prog 288 #[.string s] w fun e w'=>(∃ v err,e=.returned (.tuple #[.int .i64 v,err])∧(err=.nilIface∧v=(if xfd (bI s) then - xhE (xaY (bI s)) else xhE (xaY (bI s)))∨(∃ t y,err=.iface t y)∧xi6<xhE (xaY (bI s))))∧Below w.heap.size w w':=by
 rcases xxr s.data.toList hbad with ⟨v,h1,h2⟩|⟨h1,h2⟩
 ·refine(Any.strconv_Atoi_ok atoL s (by omega) v h1 w).mono ?_
  rintro e w' ⟨rfl,hw⟩
  refine⟨⟨v,_,rfl,.inl ⟨rfl,h2⟩⟩,?_⟩
  rcases hw with rfl|⟨t,rfl⟩
  ·exact Below.refl _ _
  ·exact Joins.below_bytesWorld _ _ _ _ (Nat.le_refl _)
 ·obtain⟨_,ev,hev,hevf⟩:=hq
  refine(Any.strconv_Atoi_range atoL s (by omega) h1 ev w hev hevf).mono ?_
  rintro e w' ⟨N,rfl,_,_,hb⟩
  exact⟨⟨_,_,rfl,.inr ⟨⟨_,_,rfl⟩,h2⟩⟩,hb⟩
theorem xzk (l:List Int) (h:¬ xl8 l):0≤xhE (xaY l):=by
 refine xen (xaY l) 0 0 (fun c hc=>?_) (Int.le_refl _) (Int.le_refl _)
 have h3:(xaY l).all isD=true:=Decidable.byContradiction fun e=>h (.inr (.inr e))
 have:=List.all_eq_true.1 h3 c hc
 unfold isD at this
 simp only[Bool.and_eq_true,decide_eq_true_eq] at this
 exact this.1
theorem xjt (s:ByteArray) (p:Nat) (w:World) (hp:p≤s.size) (hs:s.size≤10000) (hq:QTab w):Calls Tryz.prog 233 #[.string s,.int .i64 p] w (xA9 (xhi ((bI s).drop p)) p w):=by
 obtain⟨n,hn⟩:∃ n,xb8 ((bI s).drop p)=n:=⟨_,rfl⟩
 have hnl:=xk2 ((bI s).drop p)
 rw[hn,List.length_drop,xah] at hnl
 have H1:=lH (fun W=>xvD (s.extract p s.size) W)
 rw[xtd s p hp,hn,xwA s p hp] at H1
 have HW:=lH (fun W=>xsf (s.extract p (p+n)) W (by rw[ByteArray.size_extract];omega))
 have HA:=lH (fun W=>xyB (s.extract p (p+n)) W (by rw[ByteArray.size_extract];omega))
 have hbe:bI (s.extract p (p+n))=((bI s).drop p).take n:=by rw[xca _ _ _ (by omega),show p+n - p=n by omega]
 rw[hbe] at HW HA
 obtain⟨T,hT⟩:∃ T,((bI s).drop p).take n=T:=⟨_,rfl⟩
 have hR:xhi ((bI s).drop p)=if xl8 T then (.nul,0,4) else if xi6<xhE (xaY T) then (.nul,0,11)
   else (.num (if xfd T then - xhE (xaY T) else xhE (xaY T)),n,0):=by
  rw[xhi,hn,hT]
 rw[hT] at HW HA
 have n1:(p:Int)≤(s.size:Int):=by omega
 have n2:((p+n:Nat):Int)≤(s.size:Int):=by omega
 have n3:(p:Int)≤((p+n:Nat):Int):=by omega
 have HQ:=lH hq
 unfold xA9
 clear hn hbe hT hq
 by_cases hb0:xl8 T
 ·rw[if_pos hb0] at hR
  rw[hR]
  rw[decide_eq_false (fun h=>h hb0)] at HW
  clear hb0 hR HA
  go_enter Tryz.func233,Tryz.ntmps233
  go_wp2_with fail
  refine(H1.out _).mono ?_
  rintro e w1 ⟨⟨r,rfl,hr⟩,hb1⟩
  have hw:IntKind.i64.wrap ((s.size:Int) - (r.size:Int))=((p+n:Nat):Int):=by rw[IntKind.wrap_i64] <;> omega
  clear hr
  go_wp2_with fail
  refine(HW.out _).mono ?_
  rintro e w2 ⟨rfl,hb2⟩
  go_wp2_with fail
  refine bodyPost_ret (v:=.tuple #[.nilIface,.int .i64 p,.int .i64 4]) (by simp[results,Tryz.results233,go_sem]) rfl ⟨.nilIface,rfl,fun S W=>by rw[xaq],hb1.trans (hb2.mono hb1.size)⟩
 ·rw[if_neg hb0] at hR
  rw[decide_eq_true hb0] at HW
  have hvn:=xzk T hb0
  have HA:=lH (fun W=>HA.out W hb0)
  have hwall:∀ R:Js × Nat × Int,xhi ((bI s).drop p)=R→(∀ w2:World,Below w.heap.size w w2→QTab w2):=fun _ _ w2 hb=>HQ.out.below hb
  clear hwall hb0
  obtain⟨R,hRR⟩:∃ R,xhi ((bI s).drop p)=R:=⟨_,rfl⟩
  rw[hRR] at hR ⊢
  have HRR:=lH hR
  clear hRR hR
  go_enter Tryz.func233,Tryz.ntmps233
  go_wp2_with fail
  refine(H1.out _).mono ?_
  rintro e w1 ⟨⟨r,rfl,hr⟩,hb1⟩
  have hw:IntKind.i64.wrap ((s.size:Int) - (r.size:Int))=((p+n:Nat):Int):=by rw[IntKind.wrap_i64] <;> omega
  clear hr
  go_wp2_with fail
  refine(HW.out _).mono ?_
  rintro e w2 ⟨rfl,hb2⟩
  have HB2:=lH (hb1.trans (hb2.mono hb1.size))
  clear hb1 hb2
  go_wp2_with fail
  refine(HA.out _ (HQ.out.below HB2.out)).mono ?_
  rintro e w3 ⟨⟨v,err,rfl,hv⟩,hb3⟩
  have HB3:=lH (HB2.out.trans (hb3.mono HB2.out.size))
  clear hb3
  have HC:=lH (fun W=>xju aB (.num v) (.iface 3 (.int .i64 v)) W (by rw[xaq]))
  rcases hv with ⟨rfl,hv⟩|⟨⟨t,y,rfl⟩,hv⟩
  ·by_cases hov:xi6<xhE (xaY T)
   ·have hck:xe4 1 (.num v)=11:=by
     rw[xe4,if_pos]
     rw[hv]
     split <;> omega
    rw[hck] at HC
    have hR:R=(.nul,0,11):=by rw[HRR.out,if_pos hov]
    subst hR
    clear hck hv hov
    go_wp2_with fail
    refine(HC.out _).mono ?_
    rintro e w4 ⟨rfl,hb4⟩
    go_wp2_with fail
    refine bodyPost_ret (v:=.tuple #[.nilIface,.int .i64 p,.int .i64 11]) (by simp[results,Tryz.results233,go_sem]) rfl ⟨.nilIface,rfl,fun S W=>by rw[xaq],HB3.out.trans (hb4.mono HB3.out.size)⟩
   ·have hck:xe4 1 (.num v)=0:=by
     rw[xe4,if_neg]
     rw[hv]
     split <;> omega
    rw[hck] at HC
    have hR:R=(.num v,n,0):=by rw[HRR.out,if_neg hov,hv]
    subst hR
    clear hck hv hov
    go_wp2_with fail
    refine(HC.out _).mono ?_
    rintro e w4 ⟨rfl,hb4⟩
    go_wp2_with fail
    refine bodyPost_ret (v:=.tuple #[.iface 3 (.int .i64 v),.int .i64 ((p+n:Nat):Int),.int .i64 0]) (by simp[results,Tryz.results233,go_sem]) rfl ⟨_,rfl,fun S W=>by rw[xaq],HB3.out.trans (hb4.mono HB3.out.size)⟩
  ·have hR:R=(.nul,0,11):=by rw[HRR.out,if_pos hv]
   subst hR
   clear hv
   go_wp2_with fail
   refine bodyPost_ret (v:=.tuple #[.nilIface,.int .i64 p,.int .i64 11]) (by simp[results,Tryz.results233,go_sem]) rfl ⟨.nilIface,rfl,fun S W=>by rw[xaq],HB3.out⟩
end Go.Proofs.YtjinnigjfopbcaaGreatDoor
