/- bUb bRn bMD. -/
import Derived.Test.YtjinnigjfopbcaaGreatDoorJb1
import Derived.Test.YtjinnigjfopbcaaGreatDoorJs
set_option maxHeartbeats 16000000
namespace Go.Proofs.YtjinnigjfopbcaaGreatDoor
set_option linter.unusedVariables false
set_option linter.unusedSimpArgs false
set_option maxRecDepth 20000
def noB:ByteArray:=ByteArray.mk #[]
def xpf (budget:Int) (ps:List (List En)):Bool:=decide (∀ p ∈ ps,(xaq p).length≤65536) && decide (xez (xaw 0 ps)≤budget)
def goS (l:List En) (budget:Int):Nat→Nat→Option Nat
 | 0,_=>none
 | f+1,n=>if xpf budget (xbp n l) then some n else goS l budget f (2*n)
structure Sp where
 root:List En
 text:ByteArray
 size:Int
 err:Int
def xam (l:List En) (budget:Int):Sp :=
 if budget<1∨16257<budget then ⟨[],noB,0,2⟩ else if xaC l≠0 then ⟨[],noB,0,xaC l⟩ else if xaj l≠[] then ⟨[],noB,0,14⟩ else
 if xez l≤budget then ⟨l,noB,0,0⟩ else match goS l budget 13 1 with
 | some n=>⟨xaw 0 (xbp n l),str (xaA (xbp n l)),n,0⟩
 | none=>⟨[],noB,0,15⟩
def xa5 (e:En) (d:ByteArray):List En × Int :=
 if (d.size:Int)<e.off+e.ln then ([],8) else
 if (xbR (d.extract e.off.toNat (e.off+e.ln).toNat).data.toList).2.2≠0 then ([],(xbR (d.extract e.off.toNat (e.off+e.ln).toNat).data.toList).2.2) else
 if xaj (xbR (d.extract e.off.toNat (e.off+e.ln).toNat).data.toList).1≠[] then ([],20) else
 if (xbR (d.extract e.off.toNat (e.off+e.ln).toNat).data.toList).1=[]∨(gS (xbR (d.extract e.off.toNat (e.off+e.ln).toNat).data.toList).1 0).id≠e.id then ([],10) else ((xbR (d.extract e.off.toNat (e.off+e.ln).toNat).data.toList).1,0)
def goJ:List En→ByteArray→List En→List En × Int
 | [],_,out=>(out,0)
 | e :: l,d,out=>if 0<e.rn then goJ l d (out++[e]) else if (xa5 e d).2≠0 then ([],(xa5 e d).2) else goJ l d (out++(xa5 e d).1)
def xcr (root:List En) (d:ByteArray):List En × Int :=
 if xaC root≠0 then ([],xaC root) else if (goJ root d []).2≠0 then ([],(goJ root d []).2) else
 if xaC (goJ root d []).1≠0 then ([],xaC (goJ root d []).1) else ((goJ root d []).1,0)
theorem xkA (l:List En) (budget:Int):∀ (f n m:Nat),1≤n→goS l budget f n=some m→1≤m∧xpf budget (xbp m l)=true
 | f+1,n,m,hn,h=>by
  rw[goS] at h
  split at h
  ·rename_i hf
   cases h
   exact⟨hn,hf⟩
  ·exact xkA l budget f (2*n) m (by omega) h
theorem xd1 {l:List En} {budget:Int} (h:(xam l budget).err=0):1≤budget∧budget≤16257∧xaC l=0∧xaj l=[] ∧
  ((xez l≤budget∧xam l budget=⟨l,noB,0,0⟩)∨(¬ xez l≤budget∧∃ n,1≤n∧xpf budget (xbp n l)=true∧xam l budget=⟨xaw 0 (xbp n l),str (xaA (xbp n l)),n,0⟩)):=by
 unfold xam at h ⊢
 by_cases h1:budget<1∨16257<budget
 ·rw[if_pos h1] at h;cases h
 rw[if_neg h1] at h ⊢
 by_cases h2:xaC l≠0
 ·rw[if_pos h2] at h;exact absurd h h2
 rw[if_neg h2] at h ⊢
 by_cases h3:xaj l≠[]
 ·rw[if_pos h3] at h;cases h
 rw[if_neg h3] at h ⊢
 refine⟨by omega,by omega,Classical.not_not.1 h2,Classical.not_not.1 h3,?_⟩
 by_cases h4:xez l≤budget
 ·rw[if_pos h4];exact .inl ⟨h4,rfl⟩
 rw[if_neg h4] at h ⊢
 right
 refine⟨h4,?_⟩
 cases hg:goS l budget 13 1 with
 | none=>rw[hg] at h;cases h
 | some n =>
  obtain⟨g1,g2⟩:=xkA l budget 13 1 n (by omega) hg
  exact⟨n,g1,g2,rfl⟩
theorem xqJ {a m b:List En} (hm:∀ e ∈ a++m++b,xaO e) (h:xaC (a++m++b)=0):xaC m=0:=by
 have h1:=xqz h (a++m).length
 rw[List.take_left'  rfl] at h1
 have h2:=xpl (fun e he=>hm e (by simp at he ⊢;rcases he with he|he;exact .inl he;exact .inr (.inl he))) h1 a.length
 rwa[List.drop_left' rfl] at h2
theorem xjb {a m b:List En} (h:xaj (a++m++b)=[]):xaj m=[]:=by
 unfold xaj at h ⊢
 rw[List.filter_append,List.filter_append] at h
 simp only[List.append_eq_nil_iff] at h
 exact h.1.2
theorem xt9 (a b c:List Int):(str (a++b++c)).extract a.length (a.length+b.length)=str b:=by
 apply ByteArray.ext
 apply Array.ext'
 rw[ByteArray.data_extract,Array.toList_extract,xbE,xbE]
 simp[List.extract_eq_take_drop]
theorem xh9 (p:List En):(str (xaq p)).data.toList=xbP p:=by rw[xbE,xgh];rfl
theorem xk4 {m:List En} (pre post:List Int) (hm:∀ e ∈ m,xaO e) (hr:xaC m=0) (hl:xaj m=[]) (hn:m≠[]) (ht:(xaq m).length≤65536) :
  xa5 ⟨(gS m 0).id,pre.length,(xaq m).length,0⟩ (str (pre++xaq m++post))=(m,0):=by
 have hx:(str (pre++xaq m++post)).extract ((pre.length:Int)).toNat ((pre.length:Int)+((xaq m).length:Int)).toNat=str (xaq m):=by
  rw[Int.toNat_natCast,show ((pre.length:Int)+((xaq m).length:Int)).toNat=pre.length+(xaq m).length by omega]
  exact xt9 pre (xaq m) post
 have hd:xbR (xbP m)=(m,(xbP m).length,0):=xii m hm hr (by rw[← xcL];exact ht)
 unfold xa5
 simp only
 rw[if_neg (by rw[xa9];simp only[List.length_append];omega),hx,xh9,hd]
 simp only
 rw[if_neg (by simp),if_neg (by simpa using hl),if_neg (by intro h;rcases h with h|h;exact hn h;exact h rfl)]
theorem xjS:∀ (ps:List (List En)) (pre:List Int) (out:List En),(∀ p ∈ ps,(∀ e ∈ p,xaO e)∧xaC p=0∧xaj p=[]∧p≠[]∧(xaq p).length≤65536) →
  goJ (xaw pre.length ps) (str (pre++xaA ps)) out=(out++ps.flatten,0)
 | [],pre,out,_=>by simp[xaw,goJ]
 | p :: ps,pre,out,h=>by
  obtain⟨h1,h2,h3,h4,h5⟩:=h p (by simp)
  have hp:=xk4 pre (xaA ps) h1 h2 h3 h4 h5
  have ih:=xjS ps (pre++xaq p) (out++p) (fun q hq=>h q (by simp[hq]))
  rw[xbj,← List.append_assoc,xaw,goJ,if_neg (by simp),hp]
  rw[List.length_append] at ih
  simp only[ne_eq,not_true_eq_false,if_false]
  rw[ih,List.flatten_cons,List.append_assoc]
theorem xix:∀ (l:List En) (d:ByteArray) (out:List En),xaj l=[]→(∀ e ∈ l,0≤e.rn)→goJ l d out=(out++l,0)
 | [],d,out,_,_=>by simp[goJ]
 | e :: l,d,out,h,hm=>by
  unfold xaj at h
  rw[List.filter_eq_nil_iff] at h
  have h1:=h e (by simp)
  have h2:=hm e (by simp)
  simp only[decide_eq_true_eq] at h1
  rw[goJ,if_pos (by omega),xix l d _ (by unfold xaj;rw[List.filter_eq_nil_iff];exact fun x hx=>h x (by simp[hx])) (fun x hx=>hm x (by simp[hx]))]
  simp
theorem xkl {l:List En} (n:Nat) (hn:1≤n) (hm:∀ e ∈ l,xaO e) (hr:xaC l=0) (hl:xaj l=[]):∀ p ∈ xbp n l,(∀ e ∈ p,xaO e)∧xaC p=0∧xaj p=[]∧p≠[]:=by
 intro p hp
 obtain⟨P1,P2,he⟩:=List.append_of_mem hp
 have hf:=xb4 n hn l
 rw[he,List.flatten_append,List.flatten_cons,← List.append_assoc] at hf
 have hm':∀ e ∈ P1.flatten++p++P2.flatten,xaO e:=by rw[hf];exact hm
 exact⟨fun e h=>hm' e (by simp[h]),xqJ hm' (by rw[hf];exact hr),xjb (a:=P1.flatten) (b:=P2.flatten) (by rw[hf];exact hl),(xg0 n hn l p hp).1⟩
theorem xkS {l:List En} {budget:Int} (hm:∀ e ∈ l,xaO e) (hl:l.length≤5000) (h:(xam l budget).err=0):xcr (xam l budget).root (xam l budget).text=(l,0):=by
 obtain⟨_,_,h1,h2,h3⟩:=xd1 h
 rcases h3 with ⟨_,h3⟩|⟨_,n,hn,hf,h3⟩
 ·rw[h3]
  unfold xcr
  rw[if_neg (by simpa using h1),xix l _ _ h2 (fun e he=>(hm e he).2.2.2.1)]
  simp[h1]
 ·rw[h3]
  have hrow:=xgd n hn hm h1 hl
  unfold xpf at hf
  rw[Bool.and_eq_true] at hf
  have hsz:=of_decide_eq_true hf.1
  have hg:=xjS (xbp n l) [] [] (fun p hp=>by
   obtain⟨a,b,c,d⟩:=xkl n hn hm h1 h2 p hp
   exact⟨a,b,c,d,hsz p hp⟩)
  rw[List.nil_append,List.nil_append,xb4 n hn,List.length_nil] at hg
  unfold xcr
  simp only
  rw[if_neg (by simpa using hrow),hg]
  simp[h1]
end Go.Proofs.YtjinnigjfopbcaaGreatDoor
namespace Go.Proofs.YtjinnigjfopbcaaGreatDoor
set_option linter.unusedVariables false
set_option linter.unusedSimpArgs false
open Go.RowKit Go.Shelf
set_option maxRecDepth 20000
def xjK (S:Nat→Prop) (l:List En) (v:Value):Prop:=l≠[]→∀ a n c,v=.slice (some a) n c→¬ S a.block
theorem xfF {W:World} {v:Value} {l:List En} (he:xak W v l) (hl:l≠[]) {a:Addr} {n c:Nat} (hv:v=.slice (some a) n c):a.block<W.heap.size:=by
 obtain⟨a',cap,rfl,h1,h2,hc⟩:=he
 obtain⟨g,off,ha,hg,_⟩:=hc 0 _ (List.getElem?_eq_getElem (List.length_pos_iff.2 hl))
 cases hv
 cases ha
 exact hg
theorem KeepsS.ens {S S':Nat→Prop} {W W':World} (h:KeepsS S S' W W') {v:Value} {l:List En} (hv:xjK S l v) (he:xak W v l):xak W' v l:=by
 obtain⟨a,cap,rfl,h1,h2,hc⟩:=he
 refine⟨a,cap,rfl,h1,h2,fun k t ht=>?_⟩
 obtain⟨g,off,rfl,hg,c0,c1,c2,c3⟩:=hc k t ht
 have hn:¬ S g:=hv (fun h=>by rw[h] at ht;simp at ht) _ _ _ rfl
 exact⟨g,off,rfl,Nat.lt_of_lt_of_le hg h.size,h.cell hn c0,h.cell hn c1,h.cell hn c2,h.cell hn c3⟩
end Go.Proofs.YtjinnigjfopbcaaGreatDoor
namespace Go.Proofs.YtjinnigjfopbcaaGreatDoor
set_option linter.unusedVariables false
set_option linter.unusedSimpArgs false
open Go.RowKit
set_option maxRecDepth 20000
theorem xvU {l:List En} {k:Nat} {e:En} (h:l[k]?=some e):gE l k=e:=by
 unfold gE;rw[List.getD_eq_getElem?_getD,h];rfl
theorem xih (x:Int):IntKind.u64.wrap x=x % 18446744073709551616:=by
 simp[IntKind.wrap,IntKind.bits,IntKind.signed]
theorem xbN {w:World} {v:Value} {l:List En} (hv:xak w v l) (i:Nat) (hi:i<l.length):∃ g off cap,v=.slice (some ⟨g,off,none⟩) l.length cap∧g<w.heap.size∧l.length≤9223372036854775807 ∧
  ∀ k,k<l.length→w.cell? ⟨g,off+k*4,none⟩=some (.int .u64 (gE l k).id)∧w.cell? ⟨g,off+k*4+1,none⟩=some (.int .u64 (gE l k).off)∧w.cell? ⟨g,off+k*4+2,none⟩=some (.int .u32 (gE l k).ln)∧w.cell? ⟨g,off+k*4+3,none⟩=some (.int .u32 (gE l k).rn):=by
 obtain⟨a,cap,rfl,h1,h2,hc⟩:=hv
 obtain⟨g,off,rfl,hg,_⟩:=hc i _ (List.getElem?_eq_getElem hi)
 refine⟨g,off,cap,rfl,hg,by unfold maxLen at h2;omega,fun k hk=>?_⟩
 have hk':=List.getElem?_eq_getElem hk
 obtain⟨g',off',ha,_,c⟩:=hc k _ hk'
 obtain⟨rfl,rfl⟩:g=g'∧off=off':=by simpa using ha
 rw[xvU hk']
 exact c
theorem xnt (v:Value) (l:List En) (w:World) (i:Nat) (hv:xak w v l) (hm:xay l) (hi:i<l.length):Calls Tryz.prog 216 #[v,.int .i64 (i:Int)] w fun x w'=>x=.returned (.int .u64 (xdf l 1 i))∧Below w.heap.size w w':=by
 obtain⟨g,off,cap,rfl,hg,hml,hc⟩:=xbN hv i hi
 obtain⟨c0,c1,c2,c3⟩:=hc i hi
 have hme:=hm _ (xev l i hi)
 have hi2:(i:Int)<(l.length:Int):=by omega
 obtain⟨_,_,_,m3,_⟩:=hme
 have hw:IntKind.u64.wrap (gE l i).rn=(gE l i).rn:=by rw[IntKind.wrap_u64] <;> omega
 rw[xup]
 clear hc hm hv
 go_enter Tryz.func216,Tryz.ntmps216
 go_wp2_with fail
 go_ret
 exact⟨rfl,Below.refl _ _⟩
theorem xnd (v:Value) (l:List En) (w:World) (i:Nat) (hv:xak w v l) (hm:xay l) (hi:i<l.length):Calls Tryz.prog 217 #[v,.int .i64 (i:Int)] w fun x w'=>x=.returned (.int .u64 (xdf l 2 i))∧Below w.heap.size w w':=by
 obtain⟨g,off,cap,rfl,hg,hml,hc⟩:=xbN hv i hi
 obtain⟨c0,c1,c2,c3⟩:=hc i hi
 have hme:=hm _ (xev l i hi)
 have hi2:(i:Int)<(l.length:Int):=by omega
 obtain⟨_,_,m2,m3,_⟩:=hme
 have hw:IntKind.u64.wrap (gE l i).ln=(gE l i).ln:=by rw[IntKind.wrap_u64] <;> omega
 rw[xui]
 clear hc hm hv
 go_enter Tryz.func217,Tryz.ntmps217
 go_wp2_with fail
 go_ret
 exact⟨rfl,Below.refl _ _⟩
theorem xmB (v:Value) (l:List En) (w:World) (i:Nat) (hv:xak w v l) (hm:xay l) (hi:i<l.length):Calls Tryz.prog 215 #[v,.int .i64 (i:Int)] w fun x w'=>x=.returned (.int .u64 (xdf l 0 i))∧Below w.heap.size w w':=by
 obtain⟨g,off,cap,rfl,hg,hml,hc⟩:=xbN hv i hi
 obtain⟨c0,c1,c2,c3⟩:=hc i hi
 have hi2:(i:Int)<(l.length:Int):=by omega
 rw[xtz]
 by_cases hz:i=0
 ·subst hz
  rw[if_pos rfl]
  have hz0:(((0:Nat):Int) == 0)=true:=rfl
  rw[Nat.zero_mul,Nat.add_zero] at c0
  clear hm hv
  clear hc
  go_enter Tryz.func215,Tryz.ntmps215
  go_wp2_with fail
  go_ret
  exact⟨rfl,Below.refl _ _⟩
 ·obtain⟨j,rfl⟩:∃ j,i=j+1:=⟨i - 1,by omega⟩
  rw[if_neg hz,Nat.add_sub_cancel]
  obtain⟨d0,_,_,_⟩:=hc j (by omega)
  have hij:((j+1:Nat):Int) - 1=(j:Int):=by omega
  have hwj:IntKind.i64.wrap (j:Int)=(j:Int):=by rw[IntKind.wrap_i64] <;> omega
  have hj2:(j:Int)<(l.length:Int):=by omega
  have hne:(((j+1:Nat):Int) == 0)=false:=by simp;omega
  generalize hi':j+1=i at *
  have HW:=lH (xih ((gE l i).id - (gE l j).id))
  generalize (gE l i).id=x at *
  generalize (gE l j).id=y at *
  clear hc hm hv hi' c1 c2 c3 hi hz
  go_enter Tryz.func215,Tryz.ntmps215
  go_wp2_with fail
  go_quiet (fail)
  go_wp2_with fail
  go_ret
  exact⟨rfl,rfl,rfl,rfl,Nat.le_refl _,fun _ _=>rfl⟩
theorem xhX (v:Value) (l:List En) (w:World) (j:Nat) (hv:xak w v l) (hm:xay l) (hi:j<l.length) (i:Nat) (hij':i=j+1) (hil:i≤9223372036854775807):Calls Tryz.prog 197 #[v,.int .i64 (i:Int)] w fun x w'=>x=.returned (.int .u64 (nxE l j))∧Below w.heap.size w w':=by
 obtain⟨g,off,cap,rfl,hg,hml,hc⟩:=xbN hv j hi
 obtain⟨d0,d1,d2,d3⟩:=hc j (by omega)
 have hij:(i:Int) - 1=(j:Int):=by omega
 have hwj:IntKind.i64.wrap (j:Int)=(j:Int):=by rw[IntKind.wrap_i64] <;> omega
 have hj2:(j:Int)<(l.length:Int):=by omega
 have hme:=hm _ (xev l j hi)
 obtain⟨_,_,m2,m3,_⟩:=hme
 have hw:IntKind.u64.wrap (gE l j).ln=(gE l j).ln:=by rw[IntKind.wrap_u64] <;> omega
 have HW:=lH (xih ((gE l j).off+(gE l j).ln))
 unfold nxE
 generalize (gE l j).off=x at *
 generalize (gE l j).ln=y at *
 clear hc hm hv hij' hi d0 d3 m2 m3
 go_enter Tryz.func197,Tryz.ntmps197
 go_wp2_with fail
 go_quiet (fail)
 go_wp2_with fail
 go_ret
 exact⟨rfl,rfl,rfl,rfl,Nat.le_refl _,fun _ _=>rfl⟩
theorem kcb {w w' w1:World} {a:Addr} {v:Value} (hb:Below w'.heap.size w' w1) (h:w'.cell? a=some v∧Below w.heap.size w w'):w1.cell? a=some v∧Below w.heap.size w w1:=⟨xaa hb h.1,h.2.trans (hb.mono h.2.size)⟩
theorem kbb {w w' w1:World} (hb:Below w'.heap.size w' w1) (h:Below w.heap.size w w'):Below w.heap.size w w1:=h.trans (hb.mono h.size)
set_option maxRecDepth 20000 in
theorem xn6 (v:Value) (l:List En) (w:World) (i:Nat) (hv:xak w v l) (hm:xay l) (hi:i<l.length):Calls Tryz.prog 218 #[v,.int .i64 (i:Int)] w fun x w'=>x=.returned (.int .u64 (xdf l 3 i))∧Below w.heap.size w w':=by
 have HV:=lH hv
 have HM:=lH hm
 obtain⟨g,off,cap,rfl,hg,hml,hc⟩:=xbN hv i hi
 obtain⟨_,c1,_,_⟩:=hc i hi
 have hi2:(i:Int)<(l.length:Int):=by omega
 rw[xsZ]
 have HW:=lH (xih ((gE l i).off+1))
 by_cases hz:i=0
 ·rw[if_neg (by omega)]
  have hdz:decide (0<(i:Int))=false:=by simp;omega
  have hdn:decide (0<i)=false:=by simp;omega
  generalize (gE l i).off=x at *
  have HS0:w.cell? ⟨g,off+i*4+1,none⟩=some (.int .u64 x)∧Below w.heap.size w w:=⟨c1,Below.refl _ _⟩
  have HSd:=kcb (Below.drew (Below.refl _ _)) HS0
  clear hc hv hm HS0 hz
  go_enter Tryz.func218,Tryz.ntmps218
  go_wp2_with fail
  refine wp_region_held_drew (S:=fun w'=>w'.cell? ⟨g,off+i*4+1,none⟩=some (.int .u64 x)∧Below w.heap.size w w') (by kernel_rfl) HSd (fun hH0=>?_)
  refine tK 0 5 hH0 ?_
  refine tK 1 6 hH0 ?_
  refine tK 2 7 hH0 ?_
  refine tU 3 8 hH0 ?_
  refine tU 4 9 hH0 ?_
  refine tU 5 10 hH0 ?_
  refine tU 6 11 hH0 ?_
  refine tU 7 12 hH0 ?_
  refine tU 8 13 hH0 ?_
  refine tU 9 14 hH0 ?_
  refine tU 10 15 hH0 ?_
  refine tU 11 16 hH0 ?_
  refine tK 12 17 hH0 ?_
  refine wpAnyH_done (by kernel_rfl) ?_ _
  obtain⟨q1,q2⟩:=hH0
  go_wp2_with fail
  go_ret
  exact⟨xfx HW.out,by first|exact q2|exact kbb (Below.drew (Below.refl _ _)) q2⟩
 ·obtain⟨j,hj⟩:∃ j,i=j+1:=⟨i - 1,by omega⟩
  have HB:=lH (fun W (hb:Below w.heap.size w W)=>xhX _ l W j (HV.out.below hb) HM.out (by omega) i hj (by omega))
  rw[show i - 1=j from by omega]
  have hdz:decide (0<(i:Int))=true:=by simp;omega
  have hdn:decide (0<i)=true:=by simp;omega
  have hp:0<i:=by omega
  by_cases he:(gE l i).off=nxE l j
  ·rw[if_pos ⟨hp,he⟩]
   generalize (gE l i).off=x at *
   have hbe:(x == nxE l j)=true:=by simpa using he
   generalize nxE l j=y at *
   have HS0:w.cell? ⟨g,off+i*4+1,none⟩=some (.int .u64 x)∧Below w.heap.size w w:=⟨c1,Below.refl _ _⟩
   have HSd:=kcb (Below.drew (Below.refl _ _)) HS0
   clear hc hv hm HS0 hz he hj
   go_enter Tryz.func218,Tryz.ntmps218
   go_wp2_with fail
   refine wp_region_held_drew (S:=fun w'=>w'.cell? ⟨g,off+i*4+1,none⟩=some (.int .u64 x)∧Below w.heap.size w w') (by kernel_rfl) HSd (fun hH0=>?_)
   refine tK 0 5 hH0 ?_
   refine tK 1 6 hH0 ?_
   refine tK 2 7 hH0 ?_
   refine tK 3 8 hH0 ?_
   refine tK 4 9 hH0 ?_
   refine tK 5 10 hH0 ?_
   refine tK 6 11 hH0 ?_
   refine tK 7 12 hH0 ?_
   refine tK 8 13 hH0 ?_
   refine tK 9 14 hH0 ?_
   refine wpAnyH_ready (rs:=[10]) (by kernel_rfl) (by simp) ?_
   refine AllReadyH.cons rfl (fun K hK=>?_) AllReadyH.nil
   go_simp
   refine(HB.out _ hH0.2).mono ?_
   rintro e w' ⟨rfl,hb⟩
   go_wp2_with fail
   refine hK.out _ _ (kcb hb hH0) (fun hH1=>?_)
   clear hK K hb hH0
   try simp only[Act.put,zsA,zsB,zsC]
   refine tK 11 16 hH1 ?_
   refine tK 12 17 hH1 ?_
   refine wpAnyH_done (by kernel_rfl) ?_ _
   obtain⟨q1,q2⟩:=hH1
   go_wp2_with fail
   go_ret
   exact⟨rfl,by first|exact q2|exact kbb (Below.drew (Below.refl _ _)) q2⟩
  ·rw[if_neg (fun h=>he h.2)]
   generalize (gE l i).off=x at *
   have hbe:(x == nxE l j)=false:=by simpa using he
   generalize nxE l j=y at *
   have HS0:w.cell? ⟨g,off+i*4+1,none⟩=some (.int .u64 x)∧Below w.heap.size w w:=⟨c1,Below.refl _ _⟩
   have HSd:=kcb (Below.drew (Below.refl _ _)) HS0
   clear hc hv hm HS0 hz he hj
   go_enter Tryz.func218,Tryz.ntmps218
   go_wp2_with fail
   refine wp_region_held_drew (S:=fun w'=>w'.cell? ⟨g,off+i*4+1,none⟩=some (.int .u64 x)∧Below w.heap.size w w') (by kernel_rfl) HSd (fun hH0=>?_)
   refine tK 0 5 hH0 ?_
   refine tK 1 6 hH0 ?_
   refine tK 2 7 hH0 ?_
   refine tK 3 8 hH0 ?_
   refine tK 4 9 hH0 ?_
   refine tK 5 10 hH0 ?_
   refine tK 6 11 hH0 ?_
   refine tK 7 12 hH0 ?_
   refine tK 8 13 hH0 ?_
   refine tK 9 14 hH0 ?_
   refine wpAnyH_ready (rs:=[10]) (by kernel_rfl) (by simp) ?_
   refine AllReadyH.cons rfl (fun K hK=>?_) AllReadyH.nil
   go_simp
   refine(HB.out _ hH0.2).mono ?_
   rintro e w' ⟨rfl,hb⟩
   go_wp2_with fail
   refine hK.out _ _ (kcb hb hH0) (fun hH1=>?_)
   clear hK K hb hH0
   try simp only[Act.put,zsA,zsB,zsC]
   refine tK 11 16 hH1 ?_
   refine tK 12 17 hH1 ?_
   refine wpAnyH_done (by kernel_rfl) ?_ _
   obtain⟨q1,q2⟩:=hH1
   go_wp2_with fail
   go_ret
   exact⟨xfx HW.out,by first|exact q2|exact kbb (Below.drew (Below.refl _ _)) q2⟩
def xdk (l:List En) (c k:Nat) (x:Int):Int:=if c=0 then (xi9 l 0 k x).id else if c=3 then (xi9 l 3 k x).off else x
theorem xhG (l:List En) (c i:Nat) (x:Int) (w:World) (hc:c=1∨c=2) (hx:0≤x∧x≤18446744073709551615):Calls Tryz.prog 119 #[.int .i64 (i:Int),.int .u64 x] w fun y w'=>y=.returned (.tuple #[.int .u64 (if xcv l c i x=0 then xdk l c i x else 0),.int .i64 (xcv l c i x)])∧Below w.heap.size w w':=by
 have h0:xcv l c i x=if 4294967295<x then 11 else 0:=by
  unfold xcv
  rcases hc with rfl|rfl <;> simp
 have h1:xdk l c i x=x:=by unfold xdk;rcases hc with rfl|rfl <;> simp
 by_cases h:4294967295<x
 ·have hd:decide (4294967295<x)=true:=by simpa using h
  rw[if_pos h] at h0
  rw[h0,if_neg (by decide)]
  clear h0 h1
  go_enter Tryz.func119,Tryz.ntmps119
  go_wp2_with fail
  go_ret2
  exact⟨rfl,Below.refl _ _⟩
 ·have hd:decide (4294967295<x)=false:=by simpa using h
  rw[if_neg h] at h0
  rw[h0,if_pos rfl,h1]
  clear h0 h1
  go_enter Tryz.func119,Tryz.ntmps119
  go_wp2_with fail
  go_ret2
  exact⟨rfl,Below.refl _ _⟩
theorem xqy (v:Value) (l:List En) (w:World) (i:Nat) (x:Int) (hv:xak w v l) (hm:xay l) (hi:i<l.length) (hx:0≤x∧x≤18446744073709551615):Calls Tryz.prog 118 #[v,.int .i64 (i:Int),.int .u64 x] w fun y w'=>y=.returned (.tuple #[.int .u64 (if xcv l 0 i x=0 then xdk l 0 i x else 0),.int .i64 (xcv l 0 i x)])∧Below w.heap.size w w':=by
 obtain⟨g,off,cap,rfl,hg,hml,hc⟩:=xbN hv i hi
 have hi2:(i:Int)<(l.length:Int):=by omega
 have h1:xdk l 0 i x=if 0<i then ((gE l (i - 1)).id+x) % 18446744073709551616 else x:=by unfold xdk;rw[if_pos rfl,xuT]
 have h0:xcv l 0 i x=if 0<i∧18446744073709551616≤(gE l (i - 1)).id+x then 11 else 0:=by unfold xcv;simp
 by_cases hz:i=0
 ·have hz0:((i:Int) == 0)=true:=by simpa using hz
  rw[if_neg (fun h=>by omega)] at h0
  rw[if_neg (by omega)] at h1
  rw[h0,if_pos rfl,h1]
  clear hc hm hv h0 h1
  go_enter Tryz.func118,Tryz.ntmps118
  go_wp2_with fail
  go_ret2
  exact⟨rfl,Below.refl _ _⟩
 ·obtain⟨j,rfl⟩:∃ j,i=j+1:=⟨i - 1,by omega⟩
  rw[Nat.add_sub_cancel] at h0 h1
  rw[if_pos (by omega:0<j+1)] at h1
  obtain⟨d0,_,_,_⟩:=hc j (by omega)
  obtain⟨hme,_⟩:=hm _ (xev l j (by omega))
  have hij:((j+1:Nat):Int) - 1=(j:Int):=by omega
  have hwj:IntKind.i64.wrap (j:Int)=(j:Int):=by rw[IntKind.wrap_i64] <;> omega
  have hj2:(j:Int)<(l.length:Int):=by omega
  have hne:(((j+1:Nat):Int) == 0)=false:=by simp;omega
  have hp:0<j+1:=by omega
  generalize hi':j+1=i at *
  generalize (gE l j).id=y at *
  by_cases ho:18446744073709551616≤y+x
  ·rw[if_pos ⟨hp,ho⟩] at h0
   rw[h0,if_neg (by decide)]
   have hlt:decide ((y+x) % 18446744073709551616<x)=true:=by simp;omega
   have HW:=xih (y+x)
   generalize (y+x) % 18446744073709551616=z at *
   clear hc hm hv hi' h0 h1 hi hz
   go_enter Tryz.func118,Tryz.ntmps118
   go_wp2_with fail
   go_ret2
   exact⟨rfl,Below.refl _ _⟩
  ·rw[if_neg (fun h=>ho h.2)] at h0
   rw[h0,if_pos rfl,h1]
   have hlt:decide ((y+x) % 18446744073709551616<x)=false:=by simp;omega
   have HW:=xih (y+x)
   generalize (y+x) % 18446744073709551616=z at *
   clear hc hm hv hi' h0 h1 hi hz
   go_enter Tryz.func118,Tryz.ntmps118
   go_wp2_with fail
   go_ret2
   exact⟨rfl,Below.refl _ _⟩
set_option maxRecDepth 20000 in
theorem xqc (v:Value) (l:List En) (w:World) (i:Nat) (x:Int) (hv:xak w v l) (hm:xay l) (hi:i<l.length) (hx:0≤x∧x≤18446744073709551615):Calls Tryz.prog 120 #[v,.int .i64 (i:Int),.int .u64 x] w fun y w'=>y=.returned (.tuple #[.int .u64 (if xcv l 3 i x=0 then xdk l 3 i x else 0),.int .i64 (xcv l 3 i x)])∧Below w.heap.size w w':=by
 have h1:xdk l 3 i x=if x=0 then nxE l (i - 1) else x - 1:=by unfold xdk;rw[if_neg (by decide),if_pos rfl,xv7]
 have h0:xcv l 3 i x=if i=0∧x=0 then 4 else if 0<i∧0<x∧x - 1=nxE l (i - 1) then 4 else 0:=by unfold xcv;simp
 have hml:l.length≤9223372036854775807:=by obtain⟨_,_,_,_,_,h,_⟩:=xbN hv i hi;exact h
 have HV:=lH hv
 have HM:=lH hm
 have HI:=lH hi
 have HX:=lH hx
 by_cases hz:i=0
 ·have hz0:((i:Int) == 0)=true:=by simpa using hz
  have hdz:decide (0<(i:Int))=false:=by simp;omega
  have hdn:decide (0<i)=false:=by simp;omega
  by_cases hx0:x=0
  ·have hxe:(x == 0)=true:=by simpa using hx0
   rw[if_pos ⟨hz,hx0⟩] at h0
   rw[h0,if_neg (by decide)]
   clear hv hm hx h0 h1 hz hx0 hi hml
   go_enter Tryz.func120,Tryz.ntmps120
   go_wp2_with fail
   go_ret2
   exact⟨rfl,Below.refl _ _⟩
  ·have hxe:(x == 0)=false:=by simpa using hx0
   rw[if_neg (fun h=>hx0 h.2),if_neg (fun h=>by omega)] at h0
   rw[if_neg hx0] at h1
   rw[h0,if_pos rfl,h1]
   have hw:IntKind.u64.wrap (x - 1)=x - 1:=by rw[xih];omega
   clear hv hm hx h0 h1 hz hx0 hi hml
   go_enter Tryz.func120,Tryz.ntmps120
   go_wp2_with fail
   go_ret2
   exact⟨rfl,Below.refl _ _⟩
 ·have hz0:((i:Int) == 0)=false:=by simpa using hz
  have hdz:decide (0<(i:Int))=true:=by simp;omega
  have hdn:decide (0<i)=true:=by simp;omega
  obtain⟨j,hj⟩:∃ j,i=j+1:=⟨i - 1,by omega⟩
  rw[show i - 1=j from by omega] at h0 h1
  have HB:=lH (fun W (hb:Below w.heap.size w W)=>xhX v l W j (HV.out.below hb) HM.out (by omega) i hj (by omega))
  by_cases hx0:x=0
  ·have hxe:(x == 0)=true:=by simpa using hx0
   rw[if_neg (fun h=>hz h.1),if_neg (fun h=>by omega)] at h0
   rw[if_pos hx0] at h1
   rw[h0,if_pos rfl,h1]
   generalize nxE l j=q at *
   clear hv hm hx h0 h1 hz hx0 hi hj hml
   go_enter Tryz.func120,Tryz.ntmps120
   go_wp2_with (go_at_call 197;refine(HB.out _ (Below.refl _ _)).mono ?_;rintro y w1 ⟨rfl,hb⟩)
   go_ret2
   exact⟨rfl,hb⟩
  ·have hxe:(x == 0)=false:=by simpa using hx0
   rw[if_neg (fun h=>hz h.1)] at h0
   rw[if_neg hx0] at h1
   have hw:IntKind.u64.wrap (x - 1)=x - 1:=by rw[xih];omega
   by_cases he:x - 1=nxE l j
   ·rw[if_pos ⟨by omega,by omega,he⟩] at h0
    rw[h0,if_neg (by decide)]
    have hbe:(x - 1 == nxE l j)=true:=by simpa using he
    generalize nxE l j=q at *
    clear hv hm hx h0 h1 hz hx0 hi he hj hml
    go_enter Tryz.func120,Tryz.ntmps120
    go_wp2_with (go_at_call 197;refine(HB.out _ (Below.refl _ _)).mono ?_;rintro y w1 ⟨rfl,hb⟩)
    go_ret2
    exact⟨rfl,hb⟩
   ·rw[if_neg (fun h=>he h.2.2)] at h0
    rw[h0,if_pos rfl,h1]
    have hbe:(x - 1 == nxE l j)=false:=by simpa using he
    generalize nxE l j=q at *
    clear hv hm hx h0 h1 hz hx0 hi he hj hml
    go_enter Tryz.func120,Tryz.ntmps120
    go_wp2_with (go_at_call 197;refine(HB.out _ (Below.refl _ _)).mono ?_;rintro y w1 ⟨rfl,hb⟩)
    go_ret2
    exact⟨rfl,hb⟩
open Go.RowKit Go.Shelf
attribute [local go_sem] Oper.semAt_some
def xwO (l:List En) (v:Value) (B1 B2:Nat) (b:Nat):Prop:=b=B1∨b=B2∨l≠[]∧∃ a n c,v=.slice (some a) n c∧b=a.block
theorem xvb {S:Nat→Prop} {l:List En} {v:Value} {B1 B2:Nat} (h:∀ b,S b→¬ xwO l v B1 B2 b):xjK S l v:=fun hl a n c hv hs=>h _ hs (.inr (.inr ⟨hl,a,n,c,hv,rfl⟩))
set_option maxRecDepth 100000 in
theorem xnL (f c:Nat) (v:Value) (l:List En) (B1 B2:Nat) (w:World) (hfe:∀ args W,(callFunc f args).run Tryz.prog W=.ok (.enter f args) W)
  (hf:∀ W (i:Nat),xak W v l→i<l.length→Calls Tryz.prog f #[v,.int .i64 (i:Int)] W fun x w'=>x=.returned (.int .u64 (xdf l c i))∧Below W.heap.size W w')
  (hv:xak w v l) (h1:w.cell? ⟨B1,0,none⟩=some v) (h2:w.cell? ⟨B2,0,none⟩=some (.func (.func f) #[v] #[])) :
  xrx Tryz.prog 274 #[.pointer (some ⟨B1,0,none⟩),.pointer (some ⟨B2,0,none⟩)] (fun k=>#[.int .u64 (xdf l c k)]) l.length (fun _=>False) (xwO l v B1 B2) (fun _ _=>True) (fun _=>True) w:=by
 intro n lp J Jx S0 W hW hJ hJx _ hS0 hY h0
 have hoff:xjK S0 l v:=xvb (fun b hb=>(hS0 b hb).2)
 have hvW:=hv.below hW
 have hn1:¬ S0 B1:=fun h=>(hS0 _ h).2 (.inl rfl)
 have hn2:¬ S0 B2:=fun h=>(hS0 _ h).2 (.inr (.inl rfl))
 have g1:=xaa hW h1
 have g2:=xaa hW h2
 obtain⟨al,cap,rfl,hcap,hmx,_⟩:=hv
 have hml:l.length≤9223372036854775807:=by unfold maxLen at hmx;omega
 have HF:=lH hf
 have HJ:=lH hJ
 have HY:=lH hY
 have HO:=lH hoff
 have HVW:=lH hvW
 have HN:=lH (And.intro hn1 hn2)
 have hfe':=fun W=>hfe #[.slice al l.length cap] W
 clear hf hJ hY hS0 hJx hoff hvW h1 h2 hn1 hn2 hcap hmx
 refine callsIn_of_wp Tryz.func274 rfl trivial ?_ rfl
 simp only[Tryz.ntmps274,List.size_toArray,List.length_cons,List.length_nil,Nat.reduceAdd,Nat.reduceSub,Array.replicate_succ,Array.replicate_zero,List.push_toArray,List.append_toArray,List.nil_append,List.cons_append]
 gi_wp2
 gi_loopw [7] (fun i wr=>∃ k:Nat,k≤l.length∧i=.int .i64 k∧∃ S,Hid (J k S wr)∧Hid (KeepsS S0 S W wr)) (fun i _=>l.length - (intOf i).toNat)
 case atStart=>exact⟨0,Nat.zero_le _,rfl,S0,lH h0,lH (.refl _ _)⟩
 case round =>
  obtain⟨k,hk,rfl,S,HJs,HK⟩:=hrel
  by_cases hlt:k<l.length
  ·have c1:=HK.out.cell (p:=⟨B1,0,none⟩) HN.out.1 g1
   have c2:=HK.out.cell (p:=⟨B2,0,none⟩) HN.out.2 g2
   have hi2:(k:Int)<(l.length:Int):=by omega
   have HV:=lH (HK.out.ens HO.out HVW.out)
   clear g1 g2
   gi_wp2
   refine⟨trivial,xbn,(callsIn_wide.2 (HF.out _ k HV.out hlt)).mono ?_⟩
   rintro x w1 ⟨rfl,hb⟩
   have hJ1:=HJ.out.grow (s:=(k,S)) HJs.out hb
   have HK1:=lH (HK.out.trans (KeepsS.below S hb))
   obtain⟨fn,tmps,assign,body,hy,hR⟩:=HY.out k S w1 hJ1 hlt
   have HR:=lH hR
   clear hb hJ1 hR HK HJs HV c1 c2
   gi_wp2
   refine⟨xbn,HR.out.mono ?_⟩
   rintro x W3 (⟨rfl,S',hJ3,hk3⟩|⟨rfl,hJx3,_⟩)
   ·have HJ3:=lH hJ3
    have HK3:=lH (HK1.out.trans hk3)
    clear hJ3 hk3
    gi_wp2
    go_roundw
    case rel=>exact⟨k+1,by omega,by go_num,S',HJ3,HK3⟩
    case measure=>simp[intOf];omega
   ·have HJ3:=lH hJx3
    clear hJx3
    gi_wp2
    refine bodyPost_ret (results_none rfl _ _ _) rfl ?_
    exact⟨⟨_,rfl⟩,.inr ⟨k+1,by omega,HJ3.out⟩⟩
  ·obtain rfl:k=l.length:=by omega
   clear g1 g2
   gi_wp2
   go_end0
   exact⟨⟨_,rfl⟩,.inl ⟨S,HJs.out,trivial⟩⟩
def fcN (c:Nat):Nat:=if c=0 then 215 else if c=1 then 216 else if c=2 then 217 else 218
def fvN (c:Nat) (v:Value):Value:=.func (.func (fcN c)) #[v] #[]
theorem xmc (c:Nat) (args:Array Value) (W:World):(callFunc (fcN c) args).run Tryz.prog W=.ok (.enter (fcN c) args) W:=by
 unfold fcN
 split
 ·exact enters_of Tryz.func215 (by kernel_rfl) rfl args W
 split
 ·exact enters_of Tryz.func216 (by kernel_rfl) rfl args W
 split
 ·exact enters_of Tryz.func217 (by kernel_rfl) rfl args W
 ·exact enters_of Tryz.func218 (by kernel_rfl) rfl args W
theorem xsO (c:Nat) (hc:c<4) (v:Value) (l:List En) (hm:xay l) (W:World) (i:Nat) (hv:xak W v l) (hi:i<l.length):Calls Tryz.prog (fcN c) #[v,.int .i64 (i:Int)] W fun x w'=>x=.returned (.int .u64 (xdf l c i))∧Below W.heap.size W w':=by
 rcases(by omega:c=0∨c=1∨c=2∨c=3) with rfl|rfl|rfl|rfl
 ·exact xmB v l W i hv hm hi
 ·exact xnt v l W i hv hm hi
 ·exact xnd v l W i hv hm hi
 ·exact xn6 v l W i hv hm hi
theorem xqL (al:Option Addr) (m cap k:Nat) (bd:Array Value) (w:World):Calls Tryz.prog 219 #[.slice al m cap,.func (.func k) bd #[]] w fun x w'=>x=.returned (.func (.func 274) #[] #[.pointer (some ⟨w.heap.size,0,none⟩),.pointer (some ⟨w.heap.size+1,0,none⟩)])∧w'=(w.alloc (.cells #[.slice al m cap] 205)).alloc (.cells #[.func (.func k) bd #[]] 163):=by
 go_enter Tryz.func219,Tryz.ntmps219
 go_wp2_with fail
 go_ret
 exact⟨rfl,rfl⟩
def xeC (l:List En) (k:Nat):Int:=if k=0 then l.length else xdf l ((k - 1) / l.length) ((k - 1) % l.length)
theorem xiB (l:List En):xeC l 0=l.length:=if_pos rfl
theorem xjM (l:List En) (c j:Nat) (hj:j<l.length):xeC l (1+c*l.length+j)=xdf l c j:=by
 unfold xeC
 rw[if_neg (by omega),show 1+c*l.length+j - 1=j+l.length*c from by rw[Nat.mul_comm];omega,Nat.add_mul_div_left _ _ (by omega),Nat.add_mul_mod_self_left,Nat.div_eq_of_lt hj,Nat.mod_eq_of_lt hj,Nat.zero_add]
theorem xgO (al:Option Addr) (m cap:Nat) (w:World):Calls Tryz.prog 140 #[.slice al m cap] w fun x w'=>x=.returned (.func (.func 214) #[] #[.pointer (some ⟨w.heap.size,0,none⟩)])∧w'=w.alloc (.cells #[.slice al m cap] 205):=by
 go_enter Tryz.func140,Tryz.ntmps140
 go_wp2_with fail
 go_ret
 exact⟨rfl,rfl⟩
theorem xmh (k:Nat):Fence.wide.room k:=fun d h=>by cases h
theorem YieldAt.any {m:Nat} (m':Nat) {P:Program} {l:Nat} {args:Array Value} {W:World} {R:Ending→World→Prop} (h:YieldAt Fence.wide m P l args W R):YieldAt Fence.wide m' P l args W R:=by
 obtain⟨fn,tmps,assign,body,hy,hR⟩:=h
 exact⟨fn,tmps,assign,body,hy,hR.1,fun c cs _=>hR.2 c cs (xmh _)⟩
def VN (l:List En) (v:Value) (B0:Nat) (b:Nat):Prop:=b=B0∨l≠[]∧∃ a n c,v=.slice (some a) n c∧b=a.block
theorem xuZ {S:Nat→Prop} {l:List En} {v:Value} {B0:Nat} (h:∀ b,S b→¬ VN l v B0 b):xjK S l v:=fun hl a n c hv hs=>h _ hs (.inr ⟨hl,a,n,c,hv,rfl⟩)
def xwy (Ds:List Nat):List Deferred:=Ds.map fun D=>{ target:=.collected D,args:=#[] }
def xo5 (Ds:List Nat) (W:World):Prop:=∀ D,D ∈ Ds→W.heap[D]?=some (.deferred (some []))
theorem xbu {n:Nat} {P:Program} {fn:Func} {tmps:Array Value} {R:Ending→World→Prop} (p:World→Prop):∀ (Ds:List Nat) (W:World),xo5 Ds W→Ds.Nodup→p W →
  (∀ X D,D ∈ Ds→X.heap[D]?=some (.deferred (some []))→p X→p (X.putObj D (.deferred none)))→(∀ W',p W'→LeavesInM Fence.wide n P fn tmps R [] .returning W')→LeavesInM Fence.wide n P fn tmps R (xwy Ds) .returning W
 | [],W,_,_,hp,_,h=>h W hp
 | D :: Ds,W,hm,hn,hp,hs,h=>by
  have hD:=hm D (List.mem_cons_self ..)
  refine⟨by simp,.inl ⟨D,_,rfl,run_takeDeferred hD,?_⟩⟩
  refine xbu p Ds _ (fun D' h'=>?_) (List.nodup_cons.1 hn).2 (hs W D (List.mem_cons_self ..) hD hp) (fun X E hE=>hs X E (List.mem_cons_of_mem _ hE)) h
  have hne:D'≠D:=fun e=>(List.nodup_cons.1 hn).1 (e ▸ h')
  exact(World.putObj_heap_other hne).trans (hm D' (List.mem_cons_of_mem _ h'))
def xwF (J:Nat→(Nat→Prop)→World→Prop) (n lp B0 BY BF:Nat) (S1:Nat→Prop) (X1:World) (a:Act) (wr:World):Prop :=
 ∃ (c:Nat) (S:Nat→Prop) (Ds:List Nat) (ci:Value),c≤4∧ci=.int .i64 (c:Int)∧Hid (J (1+c*n) S wr)∧Hid (KeepsS S1 S X1 wr)∧Hid (xo5 Ds wr∧Ds.Nodup∧∀ D,D ∈ Ds→X1.heap.size≤D∧¬ S D)∧∃ u3 u4 u5 u6 u7 u8 u9 u10 u11 u12 u13 u14 u15 u16 u17 u18 u19 u23 u24 u25 u26 u27 u28 u29 u30 u31 u32 u33 u34:Value,a={ tmps:=#[.func (.yield lp) #[] #[],.pointer (some ⟨B0,0,none⟩),.pointer (some ⟨BY,0,none⟩),u3,u4,u5,u6,u7,u8,u9,u10,u11,u12,u13,u14,u15,u16,u17,u18,u19,.slice (some ⟨BF,0,none⟩) 4 4,.int .i64 4,ci,u23,u24,u25,u26,u27,u28,u29,u30,u31,u32,u33,u34],defers:=xwy Ds }
set_option maxRecDepth 100000 in
theorem xfi (v:Value) (l:List En) (B0:Nat) (w:World) (hm:xay l) (hv:xak w v l) (h1:w.cell? ⟨B0,0,none⟩=some v) :
  xrx Tryz.prog 214 #[.pointer (some ⟨B0,0,none⟩)] (fun k=>#[.int .u64 (xeC l k)]) (1+4*l.length) (fun _=>False) (VN l v B0) (fun _ _=>True) (fun _=>True) w:=by
 intro n lp J Jx S0 W hW hJ hJx hG hS0 hY h0
 have hoff:xjK S0 l v:=xuZ (fun b hb=>(hS0 b hb).2)
 have hvW:=hv.below hW
 have hn1:¬ S0 B0:=fun h=>(hS0 _ h).2 (.inl rfl)
 have g1:=xaa hW h1
 have hlt0:B0<W.heap.size:=xba g1
 obtain⟨al,cap,rfl,hcap,hmx,_⟩:=hv
 have hml:l.length≤9223372036854775807:=by unfold maxLen at hmx;omega
 have HM:=lH hm
 have HJ:=lH hJ
 have HJx:=lH hJx
 have HG:=lH hG
 have HY:=lH hY
 have HVW:=lH hvW
 have HOF:=lH hoff
 have hby:W.heap.size<(W.alloc (.cells #[.func (.yield lp) #[] #[]] 334)).heap.size:=by simp
 have g1':(W.alloc (.cells #[.func (.yield lp) #[] #[]] 334)).cell? ⟨B0,0,none⟩=some (.slice al l.length cap):=xaa ((Below.refl _ W).alloc (Nat.le_refl _) _) g1
 have gy:(W.alloc (.cells #[.func (.yield lp) #[] #[]] 334)).cell? ⟨W.heap.size,0,none⟩=some (.func (.yield lp) #[] #[]):=by rw[World.cell?_alloc_mark];rfl
 obtain⟨fn,tmps,assign,body,hy,hR⟩:=hY 0 S0 (W.alloc (.cells #[.func (.yield lp) #[] #[]] 334)) (hJ.alloc (s:=(0,S0)) h0 _) (by omega)
 dsimp only at hy
 rw[xiB] at hy
 have hwl:IntKind.u64.wrap (l.length:Int)=(l.length:Int):=by rw[xih];omega
 have HR:=lH hR
 have HS:=lH (And.intro hS0 hn1)
 clear hJ hY hJx hG hoff hvW hR hS0 hn1 h1 hcap hmx hm
 refine callsIn_of_wp_marks Tryz.func214 rfl trivial ?_ rfl
 simp only[Tryz.ntmps214,List.size_toArray,List.length_cons,List.length_nil,Nat.reduceAdd,Nat.reduceSub,Array.replicate_succ,Array.replicate_zero,List.push_toArray,List.append_toArray,List.nil_append,List.cons_append]
 gi_wp2
 refine⟨xbn,HR.out.mono ?_⟩
 rintro x W3 (⟨rfl,S1,hJ3,hk3⟩|⟨rfl,hJx3,_⟩)
 ·have hb0:=hk3.cell (p:=⟨B0,0,none⟩) HS.out.2 g1'
  have hnby:¬ S0 W.heap.size:=fun h=>by have:=(HS.out.1 _ h).1;omega
  have hby3:=hk3.cell (p:=⟨W.heap.size,0,none⟩) hnby gy
  have hs1:=(HG.out _ _ _ hJ3).2
  have hoff1:xjK S1 l (.slice al l.length cap):=fun hl a n c hv hs=>by
   have:=xfF HVW.out hl hv
   rcases hk3.own _ hs with h|h
   ·exact HOF.out hl a n c hv h
   ·omega
  have hn0:¬ S1 B0:=fun h=>by
   rcases hk3.own _ h with h|h
   ·exact HS.out.2 h
   ·omega
  have hn1:¬ S1 W.heap.size:=fun h=>by
   rcases hk3.own _ h with h|h
   ·exact hnby h
   ·omega
  have hv3:xak W3 (.slice al l.length cap) l:=hk3.ens HOF.out (HVW.out.below ((Below.refl _ W).alloc (Nat.le_refl _) _))
  have HJ3:=lH hJ3
  have HK3:=lH hk3
  have HX1:=lH (And.intro hn0 (And.intro hn1 (And.intro hs1 (And.intro hoff1 hv3))))
  clear hJ3 hk3 hn0 hn1 hs1 hoff1 hv3 HR hnby
  gi_wp2
  have hX1:∃ X1,W3.alloc (.cells #[fvN 0 (.slice al l.length cap),fvN 1 (.slice al l.length cap),fvN 2 (.slice al l.length cap),fvN 3 (.slice al l.length cap)] 163)=X1:=⟨_,rfl⟩
  obtain⟨X1,hX1⟩:=hX1
  have hXb:Below W3.heap.size W3 X1:=by rw[← hX1];exact(Below.refl _ _).alloc (Nat.le_refl _) _
  have hXs:W3.heap.size<X1.heap.size:=by rw[← hX1];simp
  have hXc:∀ c:Nat,c<4→X1.cell? ⟨W3.heap.size,c,none⟩=some (.func (.func (fcN c)) #[.slice al l.length cap] #[]):=by
   intro c hc
   rw[← hX1]
   rcases(by omega:c=0∨c=1∨c=2∨c=3) with rfl|rfl|rfl|rfl <;> (rw[World.cell?_alloc_mark];rfl)
  have hX1':W3.alloc (.cells #[.func (.func 215) #[.slice al l.length cap] #[],.func (.func 216) #[.slice al l.length cap] #[],.func (.func 217) #[.slice al l.length cap] #[],.func (.func 218) #[.slice al l.length cap] #[]] 163)=X1:=hX1
  have HJX:=lH (HJ.out.grow (s:=(1,S1)) HJ3.out hXb)
  have hb0:=xaa hXb hb0
  have hby3:=xaa hXb hby3
  have hvX:xak X1 (.slice al l.length cap) l:=HX1.out.2.2.2.2.below hXb
  obtain⟨hn0,hn1,hs1,hoff1,_⟩:=HX1.out
  have hnf:¬ S1 W3.heap.size:=fun h=>by have:=hs1 _ h;omega
  have HN:=lH (And.intro hn0 (And.intro hn1 (And.intro hnf (And.intro hs1 (And.intro hoff1 hvX)))))
  have hBY:W.heap.size<X1.heap.size:=by have:=HK3.out.size;simp at this;omega
  have HB:=lH (And.intro hBY (And.intro hXs hXc))
  rw[hX1']
  clear hX1 hX1' hXb hXs HX1 HJ3 hn0 hn1 hs1 hoff1 hvX hnf hXc HK3 hBY
  generalize W3.heap.size=BF at *
  refine wpIn_loop (xwF J l.length lp B0 W.heap.size BF S1 X1) (fun a _=>4 - (intOf (a.tmps.getD 22 undef)).toNat) ?h0 ?round
  case h0=>exact⟨0,S1,[],_,Nat.zero_le _,rfl,by rw[Nat.zero_mul];exact HJX,lH ⟨Nat.le_refl _,fun _ _ _ h=>h,fun _ h=>.inl h⟩,lH (show xo5 [] X1∧List.Nodup []∧∀ D,D ∈ []→X1.heap.size≤D∧¬ S1 D from ⟨fun D h=>by simp at h,List.nodup_nil,fun D h=>by simp at h⟩),_,_,_,_,_,_,_,_,_,_,_,_,_,_,_,_,_,_,_,_,_,_,_,_,_,_,_,_,_,rfl⟩
  case round =>
   rintro a wr ⟨c,S,Ds,ci,hc,rfl,HJs,HK,HMk,u3,u4,u5,u6,u7,u8,u9,u10,u11,u12,u13,u14,u15,u16,u17,u18,u19,u23,u24,u25,u26,u27,u28,u29,u30,u31,u32,u33,u34,rfl⟩
   by_cases hc4:c<4
   ·have k0:=HK.out.cell (p:=⟨B0,0,none⟩) HN.out.1 hb0
    have kY:=HK.out.cell (p:=⟨W.heap.size,0,none⟩) HN.out.2.1 hby3
    have kF:=HK.out.cell (p:=⟨BF,c,none⟩) HN.out.2.2.1 (HB.out.2.2 c hc4)
    have hci:(c:Int)<4:=by omega
    have HV:=lH (HK.out.ens HN.out.2.2.2.2.1 HN.out.2.2.2.2.2)
    clear hb0 hby3 g1 g1' gy
    gi_wp2
    refine⟨trivial,xbn,(callsIn_wide.2 (xqL al l.length cap (fcN c) #[.slice al l.length cap] _)).mono ?_⟩
    rintro x w2 ⟨rfl,hw2⟩
    gi_wp2
    have hjN:∀ j,j<l.length→1+c*l.length+j<1+4*l.length:=fun j hj=>by
     have:c*l.length+l.length≤4*l.length:=by rw[← Nat.succ_mul];exact Nat.mul_le_mul_right _ (by omega)
     omega
    rw[← hw2]
    have hb2:Below wr.heap.size wr w2:=by rw[hw2];exact((Below.refl _ _).alloc (Nat.le_refl _) _).alloc (by simp) _
    have hz2:w2.heap.size=wr.heap.size+2:=by rw[hw2];simp
    have q2:w2.cell? ⟨wr.heap.size+1,0,none⟩=some (.func (.func (fcN c)) #[.slice al l.length cap] #[]):=by
     rw[hw2]
     simp
    have q1:w2.cell? ⟨wr.heap.size,0,none⟩=some (.slice al l.length cap):=by
     rw[hw2]
     simp
    have HV2:=lH (HV.out.below hb2)
    have HB2:=lH hb2
    have hs:=(HG.out _ _ _ HJs.out).2
    have HSL:=lH hs
    have kY2:=xaa hb2 kY
    have hoff2:xjK S l (.slice al l.length cap):=fun hl a n c hv hss=>by
     have h1:=xfF HN.out.2.2.2.2.2 hl hv
     rcases HK.out.own _ hss with h|h
     ·exact HN.out.2.2.2.2.1 hl a n c hv h
     ·omega
    have hny:¬ S W.heap.size:=fun h=>by
     have:=xba (a:=⟨W.heap.size,0,none⟩) kY
     have:=HB.out.1
     rcases HK.out.own _ h with h|h
     ·exact HN.out.2.1 h
     ·omega
    have hlY:=xba (a:=⟨W.heap.size,0,none⟩) kY
    dsimp only at hlY
    refine xeW (n:=n) (val:=fun j=>.int .u64 (xdf l c j)) (p:=29) (r:=5) rfl (enters_of Tryz.func274 (by kernel_rfl) rfl) (xnL (fcN c) c _ l wr.heap.size (wr.heap.size+1) w2 (xmc c) (fun W i hv hi=>xsO c hc4 _ l HM.out W i hv hi) HV2.out q1 q2) (Below.refl _ _) (fun _ h=>h.elim) ?hV
     (fun j S' W'=>J (1+c*l.length+j) S' W'∧KeepsS S S' w2 W') (fun cd j W'=>cd=.ret∧(∃ k,k≤1+4*l.length∧Jx k W')∧xo5 Ds W') ?hI ?hIx ?hG S ?hS0 ?h0 (fun _ _ _ _ _ _ _ _=>trivial) ?assign ?body ?done ?stop
    case hV =>
     rintro r (rfl|rfl|⟨hl,a,n,c,hv,rfl⟩)
     ·omega
     ·omega
     ·exact xfF HV2.out hl hv
    case hI=>exact fun s X Y row hs hg hr=>⟨HJ.out.mono (B':=w2.heap.size) (by omega) (1+c*l.length+s.1,s.2) X Y row hs.1 hg hr,xiK (Nat.le_refl _) (fun _ h=>h.elim) s X Y row hs.2 hg hr⟩
    case hIx =>
     intro cd s X Y row hs hg hr
     obtain⟨h1,⟨k,hk,hx⟩,h3⟩:=hs
     refine⟨h1,⟨k,hk,HJx.out.mono (B':=w2.heap.size) (by omega) k X Y row hx hg hr⟩,fun D hD=>?_⟩
     refine(hg.block D (xaD (h3 D hD)) (fun e=>?_)).trans (h3 D hD)
     have h4:=xaD (HMk.out.1 D hD)
     rcases hr D e.symm with h|h
     ·exact h
     ·omega
    case hG=>exact fun j S' W' h=>⟨trivial,(HG.out _ _ _ h.1).2⟩
    case hS0 =>
     intro b hbs
     have:=hs b hbs
     refine⟨by omega,?_⟩
     rintro(rfl|rfl|⟨hl,a,n,c,hv,rfl⟩)
     ·omega
     ·omega
     ·exact hoff2 hl a n c hv hbs
    case h0=>exact⟨HJ.out.grow (s:=(1+c*l.length,S)) HJs.out hb2,⟨Nat.le_refl _,fun _ _ _ h=>h,fun _ h=>.inl h⟩⟩
    case assign =>
     intro lq k W' K hK
     simp only[List.setIfInBounds_toArray,List.set_cons_zero,List.set_cons_succ] at hK ⊢
     gi_wp2
     exact hK
    case body =>
     rintro lq j S' W' hlq ⟨hJ',hK'⟩ hj
     have kY3:=hK'.cell (p:=⟨W.heap.size,0,none⟩) hny kY2
     obtain⟨fn',tmps',assign',body',hy',hR'⟩:=YieldAt.any (n - 1 - 1 - 1) (HY.out _ S' W' hJ' (hjN j hj))
     try dsimp only at hy'
     rw[xjM l c j hj] at hy'
     have HR':=lH hR'
     have HK':=lH hK'
     clear hR' hK' hJ' kY2 kY k0 kF q1 q2
     simp only[List.setIfInBounds_toArray,List.set_cons_zero,List.set_cons_succ]
     gi_wp2
     refine⟨xbn,RoundIn.mono (F:=Fence.wide.inRound lq) HR'.out ?_⟩
     rintro x W5 (⟨rfl,S5,hJ5,hk5⟩|⟨rfl,hJ5,S5,hk5⟩)
     ·have H5:=lH (And.intro hJ5 hk5)
      clear hJ5 hk5
      gi_wp2
      exact⟨S5,⟨H5.out.1,HK'.out.trans H5.out.2⟩,H5.out.2⟩
     ·have H5:=lH (And.intro hJ5 hk5)
      clear hJ5 hk5
      gi_wp2
      refine⟨⟨rfl,⟨1+c*l.length+j+1,by have:=hjN j hj;omega,H5.out.1⟩,fun D hD=>?_⟩,S5,H5.out.2⟩
      exact(((KeepsS.below S HB2.out).trans HK'.out).trans H5.out.2).same D _ (HMk.out.2.2 D hD).2 (HMk.out.1 D hD)
    case done =>
     rintro D S' W' hD hSD ⟨hJ',hK'⟩ _ hDW
     have H5:=lH (And.intro hJ' (And.intro hK' (And.intro hD (And.intro hSD hDW))))
     clear hJ' hK' hD hSD hDW
     gi_wp2
     obtain⟨h1,h2,h3,h4,h5⟩:=H5.out
     have hXr:=HK.out.size
     refine⟨⟨c+1,S',D :: Ds,_,by omega,by go_num,?_,?_,?_,_,_,_,_,_,_,_,_,_,_,_,_,_,_,_,_,_,_,_,_,_,_,_,_,_,_,_,_,_,rfl⟩,by simp[intOf];omega⟩
     ·have e:1+(c+1)*l.length=1+c*l.length+l.length:=by rw[Nat.succ_mul];omega
      rw[e]
      exact lH h1
     ·exact lH ((HK.out.trans (KeepsS.below S HB2.out)).trans h2)
     ·have hlD:∀ E,E ∈ Ds→E<wr.heap.size:=fun E hE=>xaD (HMk.out.1 E hE)
      refine lH (show xo5 (D :: Ds) W'∧(D :: Ds).Nodup∧∀ E,E ∈ D :: Ds→X1.heap.size≤E∧¬ S' E from ⟨fun E hE=>?_,List.nodup_cons.2 ⟨fun hE=>?_,HMk.out.2.1⟩,fun E hE=>?_⟩)
      ·rcases List.mem_cons.1 hE with rfl|hE
       ·exact h5
       ·exact((KeepsS.below S HB2.out).trans h2).same E _ (HMk.out.2.2 E hE).2 (HMk.out.1 E hE)
      ·have:=hlD D hE;omega
      ·rcases List.mem_cons.1 hE with rfl|hE
       ·exact⟨by omega,h4⟩
       ·refine⟨(HMk.out.2.2 E hE).1,fun h=>?_⟩
        rcases h2.own E h with h|h
        ·exact(HMk.out.2.2 E hE).2 h
        ·have:=hlD E hE;omega
    case stop =>
     rintro D cd j W' hD hj ⟨rfl,⟨k,hk,hx⟩,hmk⟩ hDW
     have H5:=lH (And.intro hx (And.intro hmk (And.intro hD hDW)))
     clear hx hmk hD hDW
     gi_wp2
     obtain⟨h1,h2,h3,h4⟩:=H5.out
     have hXr:=HK.out.size
     have hlD:∀ E,E ∈ Ds→E<wr.heap.size:=fun E hE=>xaD (HMk.out.1 E hE)
     refine xbu (fun W=>Jx k W) (D :: Ds) W' (fun E hE=>?_) (List.nodup_cons.2 ⟨fun hE=>?_,HMk.out.2.1⟩) h1 (fun X E hE hXE hp=>?_) ?_
     ·rcases List.mem_cons.1 hE with rfl|hE
      ·exact h4
      ·exact h2 E hE
     ·have:=hlD D hE;omega
     ·refine HJx.out.put hp _ ?_ hXE rfl
      rcases List.mem_cons.1 hE with rfl|hE
      ·omega
      ·have:=(HMk.out.2.2 E hE).1;have:=HB.out.1;omega
     ·intro W'' h
      exact⟨_,results_none rfl _ _ _,⟨_,rfl⟩,.inr ⟨k,hk,h⟩⟩
   ·obtain rfl:c=4:=by omega
    have HJ4:=lH HJs.out
    clear hb0 hby3 g1 g1' gy
    gi_wp2
    refine xbu (fun W=>∃ S',J (1+4*l.length) S' W) Ds wr HMk.out.1 HMk.out.2.1 ⟨S,HJ4.out⟩ (fun X E hE hXE hp=>?_) ?_
    ·obtain⟨S',hp⟩:=hp
     refine⟨S',HJ.out.put (s:=(1+4*l.length,S')) hp _ ?_ hXE rfl⟩
     have:=(HMk.out.2.2 E hE).1
     have:=HB.out.1
     omega
    ·rintro W'' ⟨S',h⟩
     exact⟨_,results_none rfl _ _ _,⟨_,rfl⟩,.inl ⟨S',h⟩⟩
 ·have HJ3:=lH hJx3
  clear hJx3
  gi_wp2
  refine xbu (fun W=>Jx 1 W) [] W3 (fun D h=>by simp at h) List.nodup_nil HJ3.out (fun X D h=>by simp at h) ?_
  intro W' h
  exact⟨_,results_none rfl _ _ _,⟨_,rfl⟩,.inr ⟨1,by omega,h⟩⟩
end Go.Proofs.YtjinnigjfopbcaaGreatDoor
