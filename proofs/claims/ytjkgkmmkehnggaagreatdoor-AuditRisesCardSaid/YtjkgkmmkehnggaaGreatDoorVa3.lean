/- aHj aHk aRn aGb aGc. -/
import Derived.Test.YtjkgkmmkehnggaaGreatDoorVa2
import Derived.RangeFuncNested
import Derived.RangeFuncBound
import Derived.Shelf.RegionOpen
import Derived.OwnWalkIn
import Derived.LoopNIn
import Derived.LoopIn
namespace Go.Proofs.YtjkgkmmkehnggaaGreatDoor
set_option linter.unusedVariables false
set_option linter.unusedSimpArgs false
open Go.RowKit
set_option maxRecDepth 20000
theorem hlt_of' {W:World} {b:Nat} {o:Obj} (h:W.heap[b]?=some o):b<W.heap.size:=(Array.getElem?_eq_some_iff.1 h).1
theorem ins_rows (cur A D T:List Value) (hA:cur.take (A.length+D.length)=A++D) (hT:T.length=2) (hlen:A.length+D.length+2≤cur.length) :
  (splice (splice cur (A.length+2) D) A.length T).take (A.length+D.length+2)=A++(T++D)∧(splice (splice cur (A.length+2) D) A.length T).length=cur.length:=by
 have e1:(splice cur (A.length+2) D).length=cur.length:=length_splice _ _ _ (by omega)
 refine⟨?_,by rw[length_splice _ _ _ (by rw[e1,hT];omega),e1]⟩
 have hA1:cur.take A.length=A:=by
  have:=congrArg (List.take A.length) hA
  rw[List.take_take,Nat.min_eq_left (by omega),List.take_left] at this
  exact this
 have e2:(splice cur (A.length+2) D).take A.length=A:=by
  unfold splice
  rw[List.take_append_of_le_length (by rw[List.length_take];omega),List.take_take,Nat.min_eq_left (by omega),hA1]
 have e3:(splice cur (A.length+2) D).drop (A.length+T.length)=D++cur.drop (A.length+2+D.length):=by
  unfold splice
  have hl:(cur.take (A.length+2)).length=A.length+T.length:=by rw[List.length_take,hT];omega
  rw[← hl,List.drop_left]
 have e4:splice (splice cur (A.length+2) D) A.length T=(A++(T++D))++cur.drop (A.length+2+D.length):=by
  conv=>lhs;unfold splice
  have e2':=e2
  have e3':=e3
  unfold splice at e2' e3'
  rw[e2',e3']
  simp
 rw[e4,List.take_append_of_le_length (by simp[hT];omega)]
 exact List.take_of_length_le (by simp[hT];omega)
theorem ins_rows2 (cur A D T:List Value) (hA:cur.take A.length=A) (hT:T.length=2) (hlen:A.length+D.length+2≤cur.length) :
  (splice (splice cur A.length T) (A.length+2) D).take (A.length+D.length+2)=A++(T++D)∧(splice (splice cur A.length T) (A.length+2) D).length=cur.length:=by
 have e1:(splice cur A.length T).length=cur.length:=length_splice _ _ _ (by omega)
 refine⟨?_,by rw[length_splice _ _ _ (by rw[e1];omega),e1]⟩
 have e2:splice cur A.length T=(A++T)++cur.drop (A.length+T.length):=by
  unfold splice
  rw[hA,List.append_assoc]
 have e3:(splice cur A.length T).take (A.length+2)=A++T:=by
  rw[e2,List.take_append_of_le_length (by simp[hT])]
  exact List.take_of_length_le (by simp[hT])
 have e4:splice (splice cur A.length T) (A.length+2) D=(A++(T++D))++(splice cur A.length T).drop (A.length+2+D.length):=by
  conv=>lhs;unfold splice
  have e3':=e3
  unfold splice at e3' ⊢
  rw[e3']
  simp
 rw[e4,List.take_append_of_le_length (by simp[hT];omega)]
 exact List.take_of_length_le (by simp[hT];omega)
theorem flat_ins (l:List It) (i:Nat) (t:It):flatI (insI l i t)=flatI (l.take i)++([.int .u64 t.1,.string t.2]++flatI (l.drop i)):=by
 unfold insI
 rw[flatI_append]
 rfl
theorem insI_len (l:List It) (i:Nat) (t:It) (hi:i≤l.length):(insI l i t).length=l.length+1:=by
 unfold insI
 rw[List.length_append,List.length_cons,List.length_take,List.length_drop]
 omega
theorem flat_split (l:List It) (i:Nat):flatI (l.take i)++flatI (l.drop i)=flatI l:=by rw[← flatI_append,List.take_append_drop]
set_option maxHeartbeats 2000000 in
theorem ins_shift (l:List It) (t:It) (B vb g cap i:Nat) (w:World) (x:TypeId) (ho:OwnIt w B 46 (.slice (some ⟨g,0,none⟩) l.length cap) l) (hv:w.heap[vb]?=some (.cells #[.int .u64 t.1,.string t.2] x (0,0))) (hvb:vb≠g) (hi:i<l.length) (hroom:l.length+1≤cap) (hl:l.length≤5000) :
  Calls Tryz.prog 36 #[.slice (some ⟨g,0,none⟩) l.length cap,.int .i64 i,.slice (some ⟨vb,0,none⟩) 1 1] w (InsEnd l i t B (.slice (some ⟨g,0,none⟩) l.length cap) w):=by
 obtain⟨hfl,h2⟩:=ho
 rcases h2 with ⟨e,_⟩|⟨g',cap',cur,e,hBg,hg,hle,hm,hcs,htake⟩
 ·cases e
 cases e
 have hlA:(flatI (l.take i)).length=i*2:=by rw[flatI_len,List.length_take];omega
 have hlD:(flatI (l.drop i)).length=(l.length - i)*2:=by rw[flatI_len,List.length_drop]
 have hcl:cur.toList.length=cap*2:=by simpa using hcs
 obtain⟨r1,r2⟩:=ins_rows cur.toList (flatI (l.take i)) (flatI (l.drop i)) [.int .u64 t.1,.string t.2] (by rw[hlA,hlD,flat_split,← htake];congr 1;omega) rfl (by rw[hlA,hlD,hcl];omega)
 rw[← flat_ins] at r1
 rw[hlA,hlD] at r1
 rw[hlA] at r2
 rw[hcl] at r2
 have hmin1:Nat.min (l.length+1 - i) (l.length - i)=l.length - i:=Nat.min_eq_right (by omega)
 have hmin2:Nat.min 1 (l.length+1 - i)=1:=Nat.min_eq_left (by omega)
 have hcell:∀ j u,(flatI (l.drop i))[j]?=some u→w.drew.cell? ((⟨g,i*2,none⟩:Addr).add j)=some u:=by
  intro j u hj
  have hjl:=(List.getElem?_eq_some_iff.1 hj).1
  have hadd:(⟨g,i*2,none⟩:Addr).add j=⟨g,i*2+j,none⟩:=by simp[Addr.add]
  rw[hadd]
  show w.cell? ⟨g,i*2+j,none⟩=some u
  have h3:cur.toList[i*2+j]?=some u:=by
   have h4:(cur.toList.take (l.length*2))[i*2+j]?=some u:=by
    rw[htake,← flat_split l i,List.getElem?_append_right (by omega),hlA,Nat.add_sub_cancel_left]
    exact hj
   rw[List.getElem?_take] at h4
   split at h4
   ·exact h4
   ·cases h4
  simp[World.cell?,hg]
  simpa using h3
 obtain⟨w1,hr1,hg1,hk1⟩:=copy_run2 w.drew g (i*2+2) (l.length - i) (cap - (i+1)) ⟨g,i*2,none⟩ (l.length+1 - i) (cap - i) cur.toList 46 (flatI (l.drop i)) (by show w.heap[g]?=_;simpa using hg) (by rw[hmin1,hlD]) hcell (by rw[hlD,hcl];omega) (flatI_one _)
 have hv1:w1.heap[vb]?=some (.cells #[.int .u64 t.1,.string t.2] x (0,0)):=by
  have hlt:vb<w.heap.size:=hlt_of' hv
  rw[hk1.block vb hlt (fun e=>hvb (Option.some.inj e))]
  exact hv
 obtain⟨w2,hr2,hg2,hk2⟩:=copy_run2 w1 g (i*2) (l.length+1 - i) (cap - i) ⟨vb,0,none⟩ 1 1 _ 46 [.int .u64 t.1,.string t.2] hg1 (by rw[hmin2];rfl) (by
  intro j u hj
  match j,hj with
  | 0,hj=>simp at hj;subst hj;simp[World.cell?,hv1,Addr.add]
  | 1,hj=>simp at hj;subst hj;simp[World.cell?,hv1,Addr.add]
  | j+2,hj=>simp at hj) (by rw[length_splice _ _ _ (by rw[hlD,hcl];omega),hcl];simp;omega) (by intro u hu;simp at hu;rcases hu with rfl|rfl <;> rfl)
 have hkk:w.grownBy w2 (some g):=((⟨rfl,rfl,rfl,Nat.le_refl _,fun k hk hne=>rfl⟩:w.grownBy w.drew (some g)).trans hk1).trans hk2
 have hll:(insI l i t).length=l.length+1:=insI_len l i t (by omega)
 have hown:OwnIt w2 B 46 (.slice (some ⟨g,0,none⟩) (l.length+1) cap) (insI l i t):=by
  refine⟨by rw[flatI_len],.inr ⟨g,cap,_,by rw[hll],hBg,hg2,by rw[hll];exact hroom,hm,?_,?_⟩⟩
  ·rw[List.size_toArray];exact r2
  ·rw[hll,← r1]
   congr 1
   omega
 have HE:Hid (∀ e,e=Ending.returned (.slice (some ⟨g,0,none⟩) (l.length+1) cap)→InsEnd l i t B (.slice (some ⟨g,0,none⟩) l.length cap) w e w2):=Lib.hid (fun e he=>⟨_,he,hown,hkk⟩)
 have hov:∀ lb cb,(callFunc 93 #[.slice (some ⟨vb,0,none⟩) 1 1,.slice (some ⟨g,(i+1)*2,none⟩) lb cb]).run Tryz.prog w=.ok (.value (.bool false)) w:=fun lb cb=>over_run w vb g _ lb cb hvb _ _ _ _ cur hv hg (by rw[hcs];omega)
 rw[hmin1] at hr1
 rw[hmin2] at hr2
 clear hown hkk hk1 hk2 hg1 hg2 hv1 hcell r1 r2 htake hcs hcl hlA hlD hfl hmin1 hmin2 hll hg hv
 generalize l.length=n at *
 unfold maxLen at hm
 have a1:(i:Int)≤(n:Int):=by omega
 have a2:((i:Int) == (n:Int))=false:=by rw[beq_eq_false_iff_ne];omega
 have a3:decide ((cap:Int)<(n:Int)+1)=false:=by rw[decide_eq_false_iff_not];omega
 have a4:¬ (cap:Int)<(n:Int)+1:=by omega
 have a5:(n:Int)+1≤(cap:Int):=by omega
 have a6:¬ cap=i:=by omega
 have a7:¬ cap=i+1:=by omega
 have a8:IntKind.i64.wrap ((n:Int)+1)=(n:Int)+1:=by rw[IntKind.wrap_i64];omega
 have a9:IntKind.i64.wrap ((i:Int)+1)=(i:Int)+1:=by rw[IntKind.wrap_i64];omega
 have b1:(i:Int)+1≤(n:Int)+1:=by omega
 have b2:((i:Int)+1).toNat=i+1:=by omega
 have b4:(0:Int)≤(i:Int)+1:=by omega
 have b5:(i:Int)≤(n:Int)+1:=by omega
 have b3:((n:Int)+1).toNat=n+1:=by omega
 go_enter Tryz.func36,Tryz.ntmps36
 go_wp2_with (simp only[hov])
 go_region_law (refine step_copy_known rfl (.tmp 73) (.tmp 76) 30 30 rfl (.slice (some ⟨g,i*2+2,none⟩) (n - i) (cap - (i+1))) (.slice (some ⟨g,i*2,none⟩) (n+1 - i) (cap - i)) (by simp[Act.eval,Act.put];try omega) (by simp[Act.eval,Act.put];try omega) (hr1 _) ?_)
 go_wp2_with (at_builtin;refine wpList_copy_known rfl _ _ 30 30 rfl _ _ rfl rfl (hr2 _) ?_)
 go_ret
 exact HE.out _ rfl
theorem zeros_row (w:World) (g n i:Nat) (l:List It) (h:ItsAt w (.slice (some ⟨g,0,none⟩) n n) l) (hi:i<n) (hn:n≤5000) :
  ∃ G W cur,(∀ ty,(Builtin.append_ #[30,3] ty #[.slice (some ⟨g,0,none⟩) i n,.int .i64 ((n:Int)+1 - (i:Int))]).run Tryz.prog w=.ok (.slice (some ⟨w.heap.size,0,none⟩) (n+1) G) W)∧W.heap[w.heap.size]?=some (.cells (cur:List Value).toArray 46 (0,0))∧cur.take (i*2)=flatI (l.take i)∧cur.length=G*2∧n+1≤G∧G≤maxLen∧Below w.heap.size w W:=by
 have hl:l.length=n:=by obtain⟨_,_,e,_⟩:=h;cases e;rfl
 obtain⟨i0,hi0,hz0,hz1,hz2⟩:=info_parts infoPit
 have hold:=its_first (h.pre i (by omega)) w.drew (fun p=>by simp)
 have hsum:i+(n+1 - i)=n+1:=by omega
 have hr:=fun ty=>Go.Lib.run_append_grow_zeros (P:=Tryz.prog) w 30 3 ty 46 i0 _ .i64 .i64 Tryz.underlying30 Tryz.underlying3 hi0 hz0 (some ⟨g,0,none⟩) i n (flatI (l.take i)) (by rw[hz1];exact hold) (n+1 - i) (by omega) (by omega) (by omega) (by omega) (by rw[hz2];omega) (growslice_fits (by omega) (by rw[hz2];omega))
 rw[hsum] at hr
 have hge:=grownCap_ge w (n+1) n 46
 have hle:=grownCap_le_maxLen w (n+1) n 46 (by unfold maxLen;omega)
 have hcast:((n:Int)+1 - (i:Int))=((n+1 - i:Nat):Int):=by omega
 refine⟨grownCap w (n+1) n 46,_,((flatI (l.take i)).toArray++Builtin.zeroCells (Value.agg #[.int .u64 0,.string { data:=#[] }]).cells (n+1 - i)++Builtin.zeroCells (Value.agg #[.int .u64 0,.string { data:=#[] }]).cells (grownCap w (n+1) n 46 - (n+1))).toList,fun ty=>by rw[hcast];exact hr ty,?_,?_,?_,hge,hle,((Below.refl w.heap.size w).drew).alloc (Nat.le_refl _) _⟩
 ·rw[Array.toArray_toList];exact heap_new w.drew _
 ·have e1:(flatI (l.take i)).length=i*2:=by rw[flatI_len,List.length_take];omega
  simp only[Array.toList_append,List.append_assoc]
  rw[List.take_append_of_le_length (by simp[e1]),List.take_of_length_le (by simp[e1])]
 ·have e1:(flatI (l.take i)).length=i*2:=by rw[flatI_len,List.length_take];omega
  rw[Array.length_toList]
  simp only[Array.size_append,size_zeroCells]
  generalize grownCap w (n+1) n 46=G at *
  have e2:(flatI (l.take i)).toArray.size=i*2:=by simp[e1]
  rw[e2]
  show i*2+(n+1 - i)*2+(G - (n+1))*2=G*2
  omega
set_option maxHeartbeats 2000000 in
theorem ins_grow (l:List It) (t:It) (B vb g i:Nat) (w:World) (x:TypeId) (ho:ItsAt w (.slice (some ⟨g,0,none⟩) l.length l.length) l) (hv:w.heap[vb]?=some (.cells #[.int .u64 t.1,.string t.2] x (0,0))) (hi:i<l.length) (hl:l.length≤5000) (hB:B≤w.heap.size) :
  Calls Tryz.prog 36 #[.slice (some ⟨g,0,none⟩) l.length l.length,.int .i64 i,.slice (some ⟨vb,0,none⟩) 1 1] w (InsEnd l i t B (.slice (some ⟨g,0,none⟩) l.length l.length) w):=by
 obtain⟨G,w1,cur,hr0,hg0,hc0,hcl,hG1,hG2,hb1⟩:=zeros_row w g l.length i l ho hi hl
 have hlA:(flatI (l.take i)).length=i*2:=by rw[flatI_len,List.length_take];omega
 have hlD:(flatI (l.drop i)).length=(l.length - i)*2:=by rw[flatI_len,List.length_drop]
 obtain⟨r1,r2⟩:=ins_rows2 cur (flatI (l.take i)) (flatI (l.drop i)) [.int .u64 t.1,.string t.2] (by rw[hlA,hc0]) rfl (by rw[hlA,hlD,hcl];omega)
 rw[← flat_ins] at r1
 rw[hlA,hlD] at r1
 rw[hlA] at r2
 rw[hcl] at r2
 have hmin1:Nat.min (l.length - i) (l.length - i)=l.length - i:=Nat.min_self _
 have hmin2:Nat.min 1 (l.length+1 - i)=1:=Nat.min_eq_left (by omega)
 have hvl:=hlt_of' hv
 have hv1:w1.heap[vb]?=some (.cells #[.int .u64 t.1,.string t.2] x (0,0)):=(hb1.block vb hvl).trans hv
 obtain⟨w2,hr1,hg1,hk1⟩:=copy_run2 w1 w.heap.size (i*2) (l.length+1 - i) (G - i) ⟨vb,0,none⟩ 1 1 cur 46 [.int .u64 t.1,.string t.2] hg0 (by rw[hmin2];rfl) (by
  intro j u hj
  match j,hj with
  | 0,hj=>simp at hj;subst hj;simp[World.cell?,hv1,Addr.add]
  | 1,hj=>simp at hj;subst hj;simp[World.cell?,hv1,Addr.add]
  | j+2,hj=>simp at hj) (by rw[hcl];simp;omega) (by intro u hu;simp at hu;rcases hu with rfl|rfl <;> rfl)
 have hb2:Below w.heap.size w w2:=hb1.grown hk1 hb1.size (fun k hk=>by cases hk;exact Nat.le_refl _)
 have hcell:∀ j u,(flatI (l.drop i))[j]?=some u→w2.drew.cell? ((⟨g,i*2,none⟩:Addr).add j)=some u:=by
  intro j u hj
  have h3:=its_cells (ho.post i (by omega)) j u hj
  rw[Nat.zero_add] at h3
  have h4:=vcell_later hb2 h3
  simpa using h4
 obtain⟨w3,hr2,hg2,hk2⟩:=copy_run2 w2.drew w.heap.size (i*2+2) (l.length - i) (G - (i+1)) ⟨g,i*2,none⟩ (l.length - i) (l.length - i) (splice cur (i*2) [.int .u64 t.1,.string t.2]) 46 (flatI (l.drop i)) (by show w2.heap[w.heap.size]?=_;exact hg1) (by rw[hmin1,hlD]) hcell (by rw[length_splice _ _ _ (by rw[hcl];simp;omega),hlD,hcl];omega) (flatI_one _)
 have hb3:Below w.heap.size w w3:=hb2.drew.grown hk2 hb2.size (fun k hk=>by cases hk;exact Nat.le_refl _)
 have hll:(insI l i t).length=l.length+1:=insI_len l i t (by omega)
 have hown:OwnIt w3 B 46 (.slice (some ⟨w.heap.size,0,none⟩) (l.length+1) G) (insI l i t):=by
  refine⟨by rw[flatI_len],.inr ⟨w.heap.size,G,_,by rw[hll],hB,hg2,by rw[hll];exact hG1,hG2,?_,?_⟩⟩
  ·rw[List.size_toArray];exact r2
  ·rw[hll,← r1]
   congr 1
   omega
 have hkk:w.grownBy w3 (some g):=⟨hb3.os,hb3.tape,hb3.output,hb3.size,fun k hk _=>hb3.block k hk⟩
 have HE:Hid (∀ e,e=Ending.returned (.slice (some ⟨w.heap.size,0,none⟩) (l.length+1) G)→InsEnd l i t B (.slice (some ⟨g,0,none⟩) l.length l.length) w e w3):=Lib.hid (fun e he=>⟨_,he,hown,hkk⟩)
 rw[hmin2] at hr1
 rw[hmin1] at hr2
 generalize hB0:w.heap.size=N0 at *
 clear hown hkk hk1 hk2 hg1 hg2 hv1 hcell r1 r2 hcl hlA hlD hmin1 hmin2 hll hg0 hc0 hv ho hb1 hb2 hb3 hvl hB hB0
 generalize l.length=n at *
 unfold maxLen at hG2
 have a1:(i:Int)≤(n:Int):=by omega
 have a2:((i:Int) == (n:Int))=false:=by rw[beq_eq_false_iff_ne];omega
 have a3:decide ((n:Int)<(n:Int)+1)=true:=by rw[decide_eq_true_iff];omega
 have a5:(i:Int)≤(n:Int)+1:=by omega
 have a6:¬ n=i:=by omega
 have a7:¬ G=i:=by omega
 have a8:IntKind.i64.wrap ((n:Int)+1)=(n:Int)+1:=by rw[IntKind.wrap_i64];omega
 have a9:IntKind.i64.wrap ((i:Int)+1)=(i:Int)+1:=by rw[IntKind.wrap_i64];omega
 have a10:IntKind.i64.wrap ((n:Int)+1 - (i:Int))=(n:Int)+1 - (i:Int):=by rw[IntKind.wrap_i64];omega
 have b1:(i:Int)+1≤(n:Int)+1:=by omega
 have b2:((i:Int)+1).toNat=i+1:=by omega
 have b4:(0:Int)≤(i:Int)+1:=by omega
 have b6:¬ G=i+1:=by omega
 go_enter Tryz.func36,Tryz.ntmps36
 go_wp2_with (first
  | (at_builtin;refine Lib.wpList_append_run _ rfl _ _ _ _ rfl _ _ rfl rfl _ _ (hr0 _) ?_)
  | (at_builtin;refine wpList_copy_known rfl _ _ 30 30 rfl _ _ rfl rfl (hr1 _) ?_))
 go_region_law (refine step_copy_known rfl (.tmp 50) (.tmp 53) 30 30 rfl (.slice (some ⟨N0,i*2+2,none⟩) (n - i) (G - (i+1))) (.slice (some ⟨g,i*2,none⟩) (n - i) (n - i)) (by simp[Act.eval,Act.put];try omega) (by simp[Act.eval,Act.put];try omega) (hr2 _) ?_)
 go_wp2_with fail
 go_ret
 exact HE.out _ rfl
theorem insert_any (s:Value) (l:List It) (t:It) (B vb i:Nat) (w:World) (x:TypeId) (ho:OwnIt w B 46 s l) (hv:w.heap[vb]?=some (.cells #[.int .u64 t.1,.string t.2] x (0,0))) (hvb:s.ownBlock≠some vb) (hi:i≤l.length) (hl:l.length≤5000) (hB:B≤w.heap.size) :
  Calls Tryz.prog 36 #[s,.int .i64 i,.slice (some ⟨vb,0,none⟩) 1 1] w (InsEnd l i t B s w):=by
 have hx:ItsAt w (.slice (some ⟨vb,0,none⟩) 1 1) [t]:=by
  refine⟨_,1,rfl,Nat.le_refl _,by unfold maxLen;omega,fun k u hu=>⟨vb,0,rfl,hlt_of' hv,?_⟩⟩
  match k,hu with
  | 0,hu=>simp only[List.getElem?_cons_zero,Option.some.injEq] at hu;subst hu;exact⟨by simp[World.cell?,hv],by simp[World.cell?,hv]⟩
  | k+1,hu=>simp at hu
 by_cases he:i=l.length
 ·subst he
  exact ins_end s l t B vb w ho hx hl hB
 ·rcases ho.form with ⟨rfl,rfl⟩|⟨g,cap,rfl,_,_,hle,hm,_⟩
  ·exact absurd (Nat.le_antisymm hi (Nat.zero_le _)) he
  ·by_cases hr:l.length+1≤cap
   ·exact ins_shift l t B vb g cap i w x ho hv (fun e=>hvb (by rw[e];rfl)) (by omega) hr hl
   ·obtain rfl:cap=l.length:=by omega
    exact ins_grow l t B vb g i w x ho.itsAt hv (by omega) hl hB
theorem own_one {w:World} {B g:Nat} {E:TypeId} {v x:Value} {l:List It} (h:OwnIt w B E v l) (ho:One w g x):v.ownBlock≠some g:=by
 intro e
 obtain⟨T,hh⟩:=ho
 rcases h.2 with ⟨rfl,_⟩|⟨g',cap,cur,rfl,_,h2,_,_,hcs,_⟩
 ·cases e
 ·cases e
  rw[hh] at h2
  cases h2
  simp at hcs
  omega
theorem One.grown {w w':World} {B g:Nat} {E:TypeId} {v x:Value} {l:List It} (ho:One w g x) (h:OwnIt w B E v l) (hg:w.grownBy w' v.ownBlock):One w' g x:=by
 have hl:=ho.lt
 have hn:=own_one h ho
 obtain⟨T,hh⟩:=ho
 exact⟨T,(hg.block g hl (fun e=>hn e.symm)).trans hh⟩
theorem OwnIt.set {w:World} {B g:Nat} {E:TypeId} {v x:Value} {l:List It} (h:OwnIt w B E v l) (ho:One w g x) (x':Value):OwnIt (w.setCell ⟨g,0,none⟩ x') B E v l:=by
 have hn:=own_one h ho
 obtain⟨h1,h2⟩:=h
 refine⟨h1,?_⟩
 rcases h2 with h2|⟨g',cap,cur,rfl,hg,hh,r⟩
 ·exact .inl h2
 ·refine .inr ⟨g',cap,cur,rfl,hg,?_,r⟩
  exact(Below.heap_setCell _ _ _ _ (fun e=>hn (by show some g'=some g;rw[e]))).trans hh
structure OfS (w W:World) (s:Value) (acc:List It):Prop where
 res:One W w.heap.size (.slice none 0 0)
 cb:One W (w.heap.size+1) s
 own:OwnIt W w.heap.size 46 s acc
 bel:Below w.heap.size w W
theorem OfS.below {w W W':World} {s:Value} {acc:List It} (h:OfS w W s acc) (hb:Below W.heap.size W W'):OfS w W' s acc :=
 ⟨h.res.below hb,h.cb.below hb,h.own.below hb,h.bel.trans (hb.mono h.bel.size)⟩
theorem of_start (w:World):OfS w ((w.alloc (.cells #[.slice none 0 0] 32)).alloc (.cells #[.slice none 0 0] 32)) (.slice none 0 0) []:=by
 have h1:=one_new w (.slice none 0 0) 32
 have h2:=one_new (w.alloc (.cells #[.slice none 0 0] 32)) (.slice none 0 0) 32
 simp only[World.size_alloc] at h2
 exact⟨h1.alloc _,h2,ownIt_nil _ _ _,by go_grown⟩
theorem seen_step (id x:Nat) (t:ByteArray) (acc sn:List It) (h:∀ id,(getI id acc).isSome=(getI id sn).isSome):(getI id (putI x t acc)).isSome=(getI id (sn++[(x,t)])).isSome:=by
 rw[Bool.eq_iff_iff,getI_some,getI_some]
 have h1:=h id
 rw[Bool.eq_iff_iff,getI_some,getI_some] at h1
 constructor
 ·rintro⟨u,hu,he⟩
  rcases(mem_put x t acc u).1 hu with rfl|⟨hu,hn⟩
  ·exact⟨_,by simp,he⟩
  ·obtain⟨u2,hu2,he2⟩:=h1.1 ⟨u,hu,he⟩
   exact⟨u2,by simp[hu2],he2⟩
 ·rintro⟨u,hu,he⟩
  by_cases hx:x=id
  ·exact⟨(x,t),(mem_put x t acc _).2 (.inl rfl),hx⟩
  ·rcases List.mem_append.1 hu with hu|hu
   ·obtain⟨u2,hu2,he2⟩:=h1.2 ⟨u,hu,he⟩
    exact⟨u2,(mem_put x t acc u2).2 (.inr ⟨hu2,by omega⟩),he2⟩
   ·simp at hu
    subst hu
    exact absurd he hx
theorem put_small {l:List It} {id:Nat} {t:ByteArray} (h0:putE l id t=0):t.size≤65536:=by
 unfold putE at h0
 by_cases h1:6004799503160661≤id
 ·rw[if_pos h1] at h0;cases h0
 rw[if_neg h1] at h0
 by_cases h2:t.size=0
 ·omega
 rw[if_neg h2] at h0
 by_cases h3:65536<t.size
 ·rw[if_pos h3] at h0;cases h0
 omega
theorem ins_form {l:List It} {i:Nat} {t:It} {B:Nat} {s:Value} {w w':World} {e:Ending} (h:InsEnd l i t B s w e w'):∃ a n c,e=.returned (.slice a n c)∧OwnIt w' B 46 (.slice a n c) (insI l i t)∧w.grownBy w' s.ownBlock:=by
 obtain⟨v,rfl,ho,hb⟩:=h
 obtain⟨a,c,rfl⟩:=ho.slice
 exact⟨_,_,_,rfl,ho,hb⟩
theorem of_ins (w W:World) (s:Value) (acc:List It) (i id:Nat) (t:ByteArray) (h:OfS w W s acc) (hi:i≤acc.length) (hl:acc.length≤5000) :
  Calls Tryz.prog 36 #[s,.int .i64 i,.slice (some ⟨W.heap.size,0,none⟩) 1 1] (W.alloc (.cells #[.int .u64 id,.string t] 46))
   fun e w'=>∃ a n c,e=.returned (.slice a n c)∧OwnIt w' w.heap.size 46 (.slice a n c) (insI acc i (id,t))∧One w' w.heap.size (.slice none 0 0)∧One w' (w.heap.size+1) s∧Below w.heap.size w w':=by
 have h1:=h.below (below_oneC W (.cells #[.int .u64 id,.string t] 46))
 refine(insert_any s acc (id,t) w.heap.size W.heap.size i _ 46 h1.own (heap_new _ _) (fun e=>?_) hi hl h1.bel.size).mono (fun e w' h2=>?_)
 ·have:=(h.own.lt _ e).2
  omega
 ·obtain⟨a,n,c,rfl,ho,hg⟩:=ins_form h2
  exact⟨a,n,c,rfl,ho,h1.res.grown h1.own hg,h1.cb.grown h1.own hg,h1.bel.grown hg h1.bel.size (fun k hk=>(h1.own.lt k hk).1)⟩
set_option maxHeartbeats 4000000 in
theorem of_anyC (v:Value) (l:List It) (w:World) (hv:ItsAt w v l) (hl:l.length≤10000) (hid:∀ t ∈ l,t.1<18446744073709551616) (hs:∀ t ∈ l,t.2.size≤maxLen) :
  Calls Tryz.prog 13 #[v] w fun e w'=>∃ s,e=.returned (.tuple #[.agg #[s],.int .i64 ((ofI l).2:Nat)])∧ChS w' s (ofI l).1∧Below w.heap.size w w':=by
 obtain⟨al,cap,rfl,hcap,hmx,hc⟩:=hv
 have HC:=Lib.hid hc
 have HST:=Lib.hid (of_start w)
 obtain⟨R,hR⟩:∃ R,ofI l=R:=⟨_,rfl⟩
 rw[hR]
 have HRR:=Lib.hid hR
 clear hc hR
 go_enter Tryz.func13,Tryz.ntmps13
 go_wp2_with fail
 go_loopw [12] (fun x wr=>∃ (k:Nat) (acc:List It) (s:Value),k≤l.length∧x=.int .i64 k∧OfS w wr s acc∧GoodC acc∧R=ofR (l.take k) acc (l.drop k)∧∀ id,(getI id acc).isSome=(getI id (l.take k)).isSome) (fun x _=>l.length - (intOf x).toNat)
 case atStart=>exact⟨0,[],_,Nat.zero_le _,rfl,HST.out,goodC_nil,HRR.out.symm,fun id=>rfl⟩
 case round =>
  obtain⟨k,acc,s,hk,rfl,hO,hgood,hR,hseen⟩:=hrel
  have HO:=Lib.hid hO
  have HGD:=Lib.hid hgood
  have HSE:=Lib.hid hseen
  have hfew:=hgood.few
  have hle:=loC_le
  have cc:=hO.cb.cell
  have rr:=hO.res.cell
  have rf:=hO.res.frz
  have cA:∀ O,(wr.alloc O).cell? ⟨w.heap.size+1,0,none⟩=some s:=fun O=>(hO.cb.alloc O).cell
  clear HST HRR
  by_cases hlt:k<l.length
  ·obtain⟨⟨x,t⟩,htk⟩:∃ t,l[k]?=some t:=⟨_,List.getElem?_eq_getElem hlt⟩
   have hx:=hid _ (List.mem_of_getElem? htk)
   have ht:=hs _ (List.mem_of_getElem? htk)
   simp only at hx ht
   obtain⟨g,off,rfl,hg,c0,c1⟩:=HC.out k _ htk
   have d0:=(hO.bel.cell (p:=⟨g,off+k*2,none⟩) hg).trans c0
   have d1:=(hO.bel.cell (p:=⟨g,off+k*2+1,none⟩) hg).trans c1
   rw[ofR_step l acc k _ htk,← hseen x] at hR
   have hki:(k:Int)<(l.length:Int):=by omega
   have HPL:=Lib.hid (fun X (hX:Below wr.heap.size wr X)=>place_any s acc x X ⟨(hO.own.below hX).itsAt,hgood⟩)
   have HCK:=Lib.hid (fun X (hX:Below wr.heap.size wr X)=>check_any s acc x t X ⟨(hO.own.below hX).itsAt,hgood⟩ ht)
   obtain⟨a7,n7,p7,rfl⟩:∃ a n c,s=.slice a n c:=by obtain⟨_,_,e⟩:=hO.own.slice;exact⟨_,_,_,e⟩
   have hlo:=loC_le x acc
   have HIT:=Lib.hid (two_new wr (.int .u64 x) (.string t) 46)
   have HPN:=Lib.hid (fun hn=>put_no (id:=x) (s:=t) (l:=acc) hn)
   have HTK:=Lib.hid (itake_at l k _ htk)
   obtain⟨b,hb⟩:∃ b,(getI x acc).isSome=b:=⟨_,rfl⟩
   rw[hb] at HPL HCK hR HPN
   have hbz:=below_oneC wr (.cells #[.int .u64 x,.string t] 46)
   have HBZ:=Lib.hid hbz
   clear c0 c1 hO hgood hseen hb hbz hle htk
   cases b with
   | true =>
    rw[if_pos rfl] at hR
    have HR:=Lib.hid hR
    clear hR
    go_wp2_with fail
    refine(HPL.out _ HBZ.out).mono ?_
    rintro e w1 ⟨rfl,hb⟩
    have H1:=Lib.hid ((HO.out.below HBZ.out).below hb)
    have r0:=H1.out.res.cell
    have r1:=H1.out.res.frz
    clear hb cc rr rf d0 d1 cA
    go_wp2_with fail
    refine bodyPost_ret (results_o2 rfl _ _ w.heap.size _ _ _ rfl rfl (H1.out.res.set _).cell Tryz.underlying32 rfl chart_size) rfl ⟨_,by rw[HR.out];rfl,?_,H1.out.bel.setCell (p:=⟨w.heap.size,0,none⟩) (Nat.le_refl _) _⟩
    rw[HR.out]
    exact chS_nil _
   | false =>
    rw[if_neg (by decide)] at hR
    obtain⟨z,hz⟩:∃ z,putE acc x t=z:=⟨_,rfl⟩
    rw[hz] at hR HCK
    by_cases h0:z=0
    ·subst h0
     rw[if_neg (by simp)] at hR
     have HR:=Lib.hid hR
     have HTS:=Lib.hid (put_small hz)
     have HKE:=Lib.hid (fun W=>kept_any x t W (Nat.le_trans HTS.out (by omega)))
     have HGP:Hid (GoodC (putI x t acc)):=by
      have h1:=good_put (id:=x) (s:=t) HGD.out
      unfold putL at h1
      rw[if_pos hz] at h1
      exact Lib.hid h1
     have HPE:Hid (insI acc (loC x acc) (x,t)=putI x t acc):=Lib.hid (HPN.out rfl).symm
     have HIN:=Lib.hid (fun X (h:OfS w X (.slice a7 n7 p7) acc)=>of_ins w X (.slice a7 n7 p7) acc (loC x acc) x t h hlo (by omega))
     rw[HPE.out] at HIN
     clear hR HPN HPE
     go_wp2_with fail
     refine(HPL.out _ HBZ.out).mono ?_
     rintro e w1 ⟨rfl,hb⟩
     have H1:=Lib.hid ((HO.out.below HBZ.out).below hb)
     have I1:=Lib.hid (HIT.out.below hb)
     have hb1:=Lib.hid (HBZ.out.trans (hb.mono HBZ.out.size))
     have c1:=H1.out.cb.cell
     obtain⟨i0,i1,_,_⟩:=I1.out
     clear hb cc rr rf d0 d1 cA
     go_wp2_with fail
     refine(HCK.out _ hb1.out).mono ?_
     rintro e w2 ⟨rfl,hb⟩
     have H2:=Lib.hid (H1.out.below hb)
     have I2:=Lib.hid (I1.out.below hb)
     clear hb c1 i0 i1
     have c2:=H2.out.cb.cell
     obtain⟨i0,i1,_,_⟩:=I2.out
     go_wp2_with fail
     go_region_law (first|(go_simp;go_at_call 37;refine(HKE.out _).mono ?_;rintro e w3 ⟨rfl,hb⟩;have hb3:Below w2.heap.size w2 w3:=(by go_grown:Below w2.heap.size w2 _).trans (hb.mono (by simp));have O3:=H2.out.below hb3;have k3:=O3.cb.cell;have k4:∀ O,(w3.alloc O).cell? ⟨w.heap.size+1,0,none⟩=_:=fun O=>(O3.cb.alloc O).cell)|(go_simp;go_at_call 36;refine(HIN.out _ O3).mono ?_;rintro e w5 ⟨a9,n9,p9,rfl,ho9,hr9,hc9,hb9⟩;have k5:=hc9.cell;have k6:=hc9.frz))
     all_goals
      have H5:=Lib.hid (OfS.mk (w:=w) (hr9.set_other (by omega) (.slice a9 n9 p9)) (hc9.set (.slice a9 n9 p9)) (ho9.set hc9 (.slice a9 n9 p9)) (hb9.setCell (p:=⟨w.heap.size+1,0,none⟩) (Nat.le_succ _) (.slice a9 n9 p9)))
      go_wp2_with fail
      go_roundw
      case rel=>exact⟨k+1,_,_,by omega,by go_num,H5.out,HGP.out,HR.out,fun id=>by rw[HTK.out];exact seen_step id x t acc _ HSE.out⟩
      case measure=>simp[intOf];omega
    ·rw[if_pos h0] at hR
     have hzn:(((z:Nat):Int) != 0)=true:=by simpa using h0
     have HR:=Lib.hid hR
     clear hR
     go_wp2_with fail
     refine(HPL.out _ HBZ.out).mono ?_
     rintro e w1 ⟨rfl,hb⟩
     have H1:=Lib.hid ((HO.out.below HBZ.out).below hb)
     have I1:=Lib.hid (HIT.out.below hb)
     have hb1:=Lib.hid (HBZ.out.trans (hb.mono HBZ.out.size))
     have c1:=H1.out.cb.cell
     obtain⟨i0,i1,_,_⟩:=I1.out
     clear hb cc rr rf d0 d1 cA
     go_wp2_with fail
     refine(HCK.out _ hb1.out).mono ?_
     rintro e w2 ⟨rfl,hb⟩
     have H2:=Lib.hid (H1.out.below hb)
     have r0:=H2.out.res.cell
     have r1:=H2.out.res.frz
     clear hb c1 i0 i1
     go_wp2_with fail
     refine bodyPost_ret (results_o2 rfl _ _ w.heap.size _ _ _ rfl rfl (H2.out.res.set _).cell Tryz.underlying32 rfl chart_size) rfl ⟨_,by rw[HR.out];rfl,?_,H2.out.bel.setCell (p:=⟨w.heap.size,0,none⟩) (Nat.le_refl _) _⟩
     rw[HR.out]
     exact chS_nil _
  ·obtain rfl:k=l.length:=by omega
   rw[List.drop_length,ofR] at hR
   have HR:=Lib.hid hR
   obtain⟨a7,n7,p7,rfl⟩:∃ a n c,s=.slice a n c:=by obtain⟨_,_,e⟩:=hO.own.slice;exact⟨_,_,_,e⟩
   clear hR hO hgood hseen hle
   go_wp2_with fail
   refine bodyPost_ret (results_o2 rfl _ _ w.heap.size _ _ _ rfl rfl (HO.out.res.set _).cell Tryz.underlying32 rfl chart_size) rfl ⟨_,by rw[HR.out];rfl,?_,HO.out.bel.setCell (p:=⟨w.heap.size,0,none⟩) (Nat.le_refl _) _⟩
   rw[HR.out]
   exact⟨HO.out.own.itsAt.set HO.out.res _,HGD.out⟩
end Go.Proofs.YtjkgkmmkehnggaaGreatDoor
namespace Go.Proofs.YtjkgkmmkehnggaaGreatDoor
set_option linter.unusedVariables false
set_option linter.unusedSimpArgs false
open Go.RowKit Go.Shelf
set_option maxRecDepth 20000
def isRec:Obj→Bool
 | .loop _=>true
 | .deferred _=>true
 | _=>false
theorem noDepth {p:Prop} (h:Fence.wide.depth.isSome=true):p:=absurd h (by simp[Fence.wide])
structure KeepsS (S S':Nat→Prop) (W W':World):Prop where
 size:W.heap.size≤W'.heap.size
 same:∀ (b:Nat) (o:Obj),¬ S b→W.heap[b]?=some o→W'.heap[b]?=some o
 own:∀ b,S' b→S b∨W.heap.size≤b
theorem hlt_of {W:World} {b:Nat} {o:Obj} (h:W.heap[b]?=some o):b<W.heap.size:=(Array.getElem?_eq_some_iff.1 h).1
theorem KeepsS.refl (S:Nat→Prop) (W:World):KeepsS S S W W:=⟨Nat.le_refl _,fun _ _ _ h=>h,fun _ h=>.inl h⟩
theorem KeepsS.trans {S S' S'':Nat→Prop} {X Y Z:World} (h:KeepsS S S' X Y) (h':KeepsS S' S'' Y Z):KeepsS S S'' X Z:=by
 refine⟨Nat.le_trans h.size h'.size,fun b o hb ho=>h'.same b o (fun hs=>?_) (h.same b o hb ho),fun b hb=>?_⟩
 ·have:=hlt_of ho
  rcases h.own b hs with h1|h1
  ·exact hb h1
  ·omega
 ·rcases h'.own b hb with h1|h1
  ·exact h.own b h1
  ·exact .inr (Nat.le_trans h.size h1)
theorem KeepsS.below (S:Nat→Prop) {W W':World} (hb:Below W.heap.size W W'):KeepsS S S W W':=⟨hb.size,fun b o _ ho=>(hb.block b (hlt_of ho)).trans ho,fun _ h=>.inl h⟩
theorem KeepsS.alloc (S:Nat→Prop) (W:World) (o:Obj):KeepsS S S W (W.alloc o):=.below S ((Below.refl _ W).alloc (Nat.le_refl _) o)
theorem KeepsS.setCell (S:Nat→Prop) (W:World) (a:Addr) (v:Value) (ha:S a.block):KeepsS S S W (W.setCell a v) :=
 ⟨(KeepsWalks.setCell W a v).size,fun b o hb ho=>(Below.heap_setCell W a v b (fun e=>hb (e ▸ ha))).trans ho,fun _ h=>.inl h⟩
theorem KeepsS.cell {S S':Nat→Prop} {W W':World} (h:KeepsS S S' W W') {p:Addr} {v:Value} (hp:¬ S p.block) (hc:W.cell? p=some v):W'.cell? p=some v:=by
 have hlt:=vcell_lt hc
 have:W'.heap[p.block]?=W.heap[p.block]?:=by rw[Array.getElem?_eq_getElem hlt];exact h.same _ _ hp (Array.getElem?_eq_getElem hlt)
 simpa[World.cell?,this] using hc
theorem KeepsS.heap {S S':Nat→Prop} {W W':World} (h:KeepsS S S' W W') {b:Nat} (hp:¬ S b) (hb:b<W.heap.size):W'.heap[b]?=W.heap[b]?:=by
 rw[Array.getElem?_eq_getElem hb];exact h.same _ _ hp (Array.getElem?_eq_getElem hb)
def Bears {β:Type} (T:Nat→Prop) (B:Nat) (J:β→World→Prop):Prop :=
 ∀ s X Y row,J s X→X.grownBy Y row→(∀ r,row=some r→T r∨(B≤r∧∃ o:Obj,X.heap[r]?=some o∧isRec o=true))→J s Y
abbrev Bears2 (T:Nat→Prop) (B:Nat) (J:Nat→(Nat→Prop)→World→Prop):Prop:=Bears T B (fun(s:Nat × (Nat→Prop))=>J s.1 s.2)
theorem Bears.mono {β:Type} {T:Nat→Prop} {B B':Nat} {J:β→World→Prop} (h:Bears T B J) (hB:B≤B'):Bears T B' J:=fun s X Y row hs hg hr =>
 h s X Y row hs hg (fun r e=>(hr r e).imp id (fun h=>⟨Nat.le_trans hB h.1,h.2⟩))
theorem Bears.put {β:Type} {T:Nat→Prop} {B:Nat} {J:β→World→Prop} (h:Bears T B J) {s:β} {W:World} (hs:J s W) {l:Nat} {o:Obj} (o':Obj) (hB:B≤l) (hl:W.heap[l]?=some o) (ho:isRec o=true):J s (W.putObj l o') :=
 h s W _ (some l) hs (grownBy_putObj' W l o') (fun r e=>by cases e;exact .inr ⟨hB,o,hl,ho⟩)
theorem Bears.grow {β:Type} {T:Nat→Prop} {B:Nat} {J:β→World→Prop} (h:Bears T B J) {s:β} {W W':World} (hs:J s W) (hb:Below W.heap.size W W'):J s W' :=
 h s W W' none hs ⟨hb.os,hb.tape,hb.output,hb.size,fun k hk _=>hb.block k hk⟩ (fun r e=>by cases e)
theorem Bears.alloc {β:Type} {T:Nat→Prop} {B:Nat} {J:β→World→Prop} (h:Bears T B J) {s:β} {W:World} (hs:J s W) (o:Obj):J s (W.alloc o):=h.grow hs ((Below.refl _ W).alloc (Nat.le_refl _) o)
def SeqD (P:Program) (g:Nat) (lb:Array Value) (encs:Nat→Array Value) (N:Nat) (T V:Nat→Prop) (G:Nat→World→Prop) (Z:World→Prop) (w:World):Prop :=
 ∀ (n l:Nat) (J:Nat→(Nat→Prop)→World→Prop) (Jx:Nat→World→Prop) (S0:Nat→Prop) (W:World),Below w.heap.size w W →
  Bears2 T W.heap.size J→Bears T W.heap.size Jx→(∀ k S W1,J k S W1→G k W1∧∀ b,S b→b<W1.heap.size)→(∀ b,S0 b→b<W.heap.size∧¬ V b) →
  (∀ k S W1,J k S W1→k<N→YieldAt Fence.wide (n - 1) P l (encs k) W1 fun e W'=>(e=.returned (.bool true)∧∃ S',J (k+1) S' W'∧KeepsS S S' W1 W')∨(e=.returned (.bool false)∧Jx (k+1) W'∧∃ S',KeepsS S S' W1 W')) →
  J 0 S0 W→CallsIn Fence.wide n P g (#[.func (.yield l) #[] #[]]++lb) W fun e W'=>(∃ v,e=.returned v)∧((∃ S',J N S' W'∧Z W')∨∃ k,k≤N∧Jx k W')
def SeqY (P:Program) (g:Nat) (lb:Array Value) (encs:Nat→Array Value) (N:Nat) (T V:Nat→Prop) (G:Nat→World→Prop) (Y:Nat→World→Prop) (Z:World→Prop) (w:World):Prop :=
 ∀ (n l:Nat) (J:Nat→(Nat→Prop)→World→Prop) (Jx:Nat→World→Prop) (S0:Nat→Prop) (W:World),Below w.heap.size w W →
  Bears2 T W.heap.size J→Bears T W.heap.size Jx→(∀ k S W1,J k S W1→G k W1∧∀ b,S b→b<W1.heap.size)→(∀ b,S0 b→b<W.heap.size∧¬ V b) →
  (∀ k S W1,J k S W1→Y k W1→k<N→YieldAt Fence.wide (n - 1) P l (encs k) W1 fun e W'=>(e=.returned (.bool true)∧∃ S',J (k+1) S' W'∧KeepsS S S' W1 W')∨(e=.returned (.bool false)∧Jx (k+1) W'∧∃ S',KeepsS S S' W1 W')) →
  J 0 S0 W→CallsIn Fence.wide n P g (#[.func (.yield l) #[] #[]]++lb) W fun e W'=>(∃ v,e=.returned v)∧((∃ S',J N S' W'∧Z W')∨∃ k,k≤N∧Jx k W')
theorem SeqD.toY {P:Program} {g:Nat} {lb:Array Value} {encs:Nat→Array Value} {N:Nat} {T V:Nat→Prop} {G:Nat→World→Prop} {Z:World→Prop} {w:World} (h:SeqD P g lb encs N T V G Z w):SeqY P g lb encs N T V G (fun _ _=>True) Z w :=
 fun n l J Jx S0 W hW hJ hJx hG hS0 hY h0=>h n l J Jx S0 W hW hJ hJx hG hS0 (fun k S W1 hj hk=>hY k S W1 hj trivial hk) h0
def postD (I:Nat→(Nat→Prop)→World→Prop) (Ix:Code→Nat→World→Prop) (k:Nat) (S:Nat→Prop) (W:World):Exit→Act→World→Prop
 | .normal,_,W'=>∃ S',I k S' W'∧KeepsS S S' W W'
 | .ret,_,W'=>Ix .ret k W'∧∃ S',KeepsS S S' W W'
 | .exit id,_,W'=>Ix (.exit id) k W'∧∃ S',KeepsS S S' W W'
 | .goto t,_,W'=>Ix (.goto t) k W'∧∃ S',KeepsS S S' W W'
 | .panic _,_,_=>False
 | .outgrown,_,_=>False
abbrev markD (D:Nat) (a:Act):Act:={ a with defers:={ target:=.collected D,args:=#[] } :: a.defers }
set_option maxHeartbeats 1000000 in
theorem range_d {n:Nat} {P:Program} {w:World} {a:Act} {Q:Exit→Act→World→Prop} {g:Operand} {ps:Array Tmp} {assign body:Code}
  {gf:Nat} {lb:Array Value} (hg:a.eval g=.func (.func gf) #[] lb) (eg:∀ args w,(callFunc gf args).run P w=.ok (.enter gf args) w)
  {encs:Nat→Array Value} {N:Nat} {T V:Nat→Prop} {G:Nat→World→Prop} {Y:Nat→World→Prop} {Z:World→Prop} {w0:World} (hseq:SeqY P gf lb encs N T V G Y Z w0) (hb0:Below w0.heap.size w0 w)
  (hT:∀ r,T r→r<w.heap.size) (hV:∀ r,V r→r<w.heap.size) (hps:∀ k,(encs k).size=ps.size)
  (I:Nat→(Nat→Prop)→World→Prop) (Ix:Code→Nat→World→Prop) (hI:Bears2 T w.heap.size I) (hIx:∀ c,Bears T w.heap.size (Ix c)) (hG:∀ k S W,I k S W→G k W∧∀ b,S b→b<W.heap.size)
  (S0:Nat→Prop) (hS0:∀ b,S0 b→b<w.heap.size∧¬ V b) (h0:I 0 S0 w) (hZ:∀ (W:World) (l:Nat) (o o':Obj),Z W→w.heap.size≤l→W.heap[l]?=some o→isRec o=true→Z (W.putObj l o'))
  (hYp:∀ (k:Nat) (W:World) (l:Nat) (o o':Obj),Y k W→w.heap.size≤l→W.heap[l]?=some o→isRec o=true→Y k (W.putObj l o')) (Ax:Nat→Act→World→Prop) (hAx:∀ k a',Bears T w.heap.size (fun(_:Unit) W=>Ax k a' W))
  (hassign:∀ (l k:Nat) (S:Nat→Prop) (W:World) (K:Act→World→Prop),I k S W→Y k W→k<N→(∀ a' W' S',I k S' W'→Y k W'→KeepsS S S' W W'→Ax k a' W'→K a' W') →
   assign.wpIn (Fence.wide.inRound l) (n - 1 - 1) P (Exit.then K (fun _ _ _=>False)) { tmps:=(ps.zip (encs k)).foldl (fun t (p,v)=>t.setIfInBounds p v) a.tmps,defers:=[] } W)
  (hbody:∀ (l k:Nat) (S:Nat→Prop) (a':Act) (W:World),w.heap.size≤l→I k S W→Y k W→Ax k a' W→k<N→body.wpIn (Fence.wide.inRound l) (n - 1 - 1) P (postD I Ix (k+1) S W) a' W)
  (hdone:∀ (D:Nat) (S:Nat→Prop) (W:World),w.heap.size≤D→¬ S D→I N S W→Z W→W.heap[D]?=some (.deferred (some []))→Q .normal (markD D a) W)
  (hstop:∀ (D:Nat) (c:Code) (k:Nat) (W:World),w.heap.size≤D→k≤N→Ix c k W→W.heap[D]?=some (.deferred (some []))→c.wpIn Fence.wide n P Q (markD D a) W) :
  (Code.rangeFunc g ps assign body).wpIn Fence.wide n P Q a w:=by
 refine wpIn_rangeFunc fun fn hfn=>?_
 -- the record of the loop,and the world in which the iterator is called
 generalize hL:w.heap.size+1=L
 have hD:w.heap.size<L:=by omega
 let rec0:LoopState→Option Code→Loop:=fun st pe=>{ state:=st,pending:=pe,fn,tmps:=a.tmps,params:=ps,assign,body,defers:=w.heap.size }
 have hrec:rec0=fun st pe=>{ state:=st,pending:=pe,fn,tmps:=a.tmps,params:=ps,assign,body,defers:=w.heap.size }:=rfl
 generalize rec0=rec at hrec
 have hnew:Below w.heap.size w ((w.alloc (.deferred (some []))).alloc (.loop (rec .ready none))):=((Below.refl _ w).alloc (Nat.le_refl _) _).alloc (by simp) _
 have e1:((w.alloc (.deferred (some []))).alloc (.loop (rec .ready none))).heap[L]?=some (.loop (rec .ready none)):=by
  have:=World.alloc_heap_new (w.alloc (.deferred (some []))) (.loop (rec .ready none))
  rwa[World.size_alloc,hL] at this
 have e2:((w.alloc (.deferred (some []))).alloc (.loop (rec .ready none))).heap[w.heap.size]?=some (.deferred (some [])) :=
  (Below.heap_alloc _ _ _ (by simp)).trans (World.alloc_heap_new w _)
 have e3:((w.alloc (.deferred (some []))).alloc (.loop (rec .ready none))).heap.size=L+1:=by simp;omega
 have e4:(Instr.enterLoop fn a.tmps ps assign body Fence.wide.round).run P w=.ok (L,[{ target:=.collected w.heap.size,args:=#[] }]) ((w.alloc (.deferred (some []))).alloc (.loop (rec .ready none))):=by
  rw[hrec,← hL];exact run_enterLoop_outer _ _ _ _ _
 generalize (w.alloc (.deferred (some []))).alloc (.loop (rec .ready none))=W1 at hnew e1 e2 e3 e4
 refine⟨L,_,W1,{ target:=.fn (.func gf) lb,args:=#[.func (.yield L) #[] #[]] },W1,gf,#[.func (.yield L) #[] #[]]++lb,W1,e4,?_,fun _ _=>trivial,?_,fun h=>absurd h (by simp[Fence.wide]),?_⟩
 ·simp only[resolve,hg];simp[go_sem]
 ·simp[invoke,go_sem,eg]
 have hmonoI:Bears2 T (L+1) I:=hI.mono (by omega)
 refine(hseq (n - 1) L
  (fun k S W=>∃ S1,(∀ b,S b↔(S1 b∨b=L))∧I k S1 W∧(¬ S1 L∧¬ S1 w.heap.size)∧W.heap[L]?=some (.loop (rec .ready none))∧W.heap[w.heap.size]?=some (.deferred (some [])))
  (fun k W=>∃ c,Ix c k W∧W.heap[L]?=some (.loop (rec .done (some c)))∧W.heap[w.heap.size]?=some (.deferred (some [])))
  (fun b=>S0 b∨b=L) W1 (hb0.trans (hnew.mono hb0.size)) ?_ ?_ ?_ ?_ ?_ ?_).mono ?_
 ·rintro⟨k,S⟩ X Y row ⟨S1,hS,hi,hl,h1,h2⟩ hgr hr
  refine⟨S1,hS,hmonoI (k,S1) X Y row hi hgr (by rw[e3] at hr;exact hr),hl,?_,?_⟩
  ·refine(hgr.block L (hlt_of h1) (fun e=>?_)).trans h1
   rcases hr L e.symm with h|h
   ·have:=hT L h;omega
   ·omega
  ·refine(hgr.block _ (hlt_of h2) (fun e=>?_)).trans h2
   rcases hr _ e.symm with h|h
   ·have:=hT _ h;omega
   ·omega
 ·rintro k X Y row ⟨c,hi,h1,h2⟩ hgr hr
  refine⟨c,(hIx c).mono (B':=L+1) (by omega) k X Y row hi hgr (by rw[e3] at hr;exact hr),?_,?_⟩
  ·refine(hgr.block L (hlt_of h1) (fun e=>?_)).trans h1
   rcases hr L e.symm with h|h
   ·have:=hT L h;omega
   ·omega
  ·refine(hgr.block _ (hlt_of h2) (fun e=>?_)).trans h2
   rcases hr _ e.symm with h|h
   ·have:=hT _ h;omega
   ·omega
 ·rintro k S W ⟨S1,hS,hi,_,hl,_⟩
  refine⟨(hG _ _ _ hi).1,fun b hb=>?_⟩
  rcases(hS b).1 hb with h|rfl
  ·exact(hG _ _ _ hi).2 b h
  ·exact hlt_of hl
 ·rintro b (hb|rfl)
  ·have:=hS0 b hb;exact⟨by omega,this.2⟩
  ·exact⟨by omega,fun hv=>by have:=hV _ hv;omega⟩
 ·-- a round
  rintro k S W ⟨S1,hS,hi,⟨hs1,hs2⟩,hl,hk⟩ hyk hlt
  have hy:=run_yield (P:=P) (args:=encs k) hl (by rw[hrec];exact hps k)
  rw[hrec] at hy
  refine⟨fn,_,assign,body,hy,roundIn_of_wpIn hfn (hassign L k S1 W _ hi hyk hlt ?_)⟩
  clear hy
  intro a' Wa Sa hia hya hka hax
  have hla:=hka.same _ _ hs1 hl
  have hda:=hka.same _ _ hs2 hk
  have hLW:=hlt_of hl
  have hsa1:¬ Sa L:=fun h=>by rcases hka.own _ h with h|h <;> first|exact hs1 h|omega
  have hsa2:¬ Sa w.heap.size:=fun h=>by rcases hka.own _ h with h|h <;> first|exact hs2 h|omega
  refine⟨_,run_beginRound hla (by rw[hrec]),?_⟩
  have hlb:(Wa.putObj L (.loop { rec .ready none with state:=.busy })).heap[L]?=some (.loop { rec .ready none with state:=.busy }):=World.putObj_heap_same (hlt_of hla)
  have hdb:(Wa.putObj L (.loop { rec .ready none with state:=.busy })).heap[w.heap.size]?=some (.deferred (some [])):=(World.putObj_heap_other (by omega)).trans hda
  have hpb:∀ b,b≠L→(Wa.putObj L (.loop { rec .ready none with state:=.busy })).heap[b]?=Wa.heap[b]?:=fun b hb=>World.putObj_heap_other hb
  have hszb:(Wa.putObj L (.loop { rec .ready none with state:=.busy })).heap.size=Wa.heap.size:=by simp
  refine wpIn_mono (hbody L k Sa a' _ (by omega) (hI.put (s:=(k,Sa)) hia _ (by omega) hla rfl) (hYp k _ _ _ _ hya (by omega) hla rfl) ((hAx k a').put (s:=()) hax _ (by omega) hla rfl) hlt) ?_
  generalize Wa.putObj L (.loop { rec .ready none with state:=.busy })=Wb at hlb hdb hpb hszb
  -- what any way out leaves
  have fin:∀ (jump:Option Code) (W3:World) (S3:Nat→Prop),KeepsS Sa S3 Wb W3 →
    (Instr.endRound L jump).run P W3=.ok (.bool jump.isNone) (W3.putObj L (.loop (rec (if jump.isNone then .ready else .done) jump))) ∧
    W3.heap[L]?=some (.loop { rec .ready none with state:=.busy }) ∧
    (W3.putObj L (.loop (rec (if jump.isNone then .ready else .done) jump))).heap[L]?=some (.loop (rec (if jump.isNone then .ready else .done) jump)) ∧
    (W3.putObj L (.loop (rec (if jump.isNone then .ready else .done) jump))).heap[w.heap.size]?=some (.deferred (some []))∧(¬ S3 L∧¬ S3 w.heap.size)∧KeepsS S (fun b=>S3 b∨b=L) W (W3.putObj L (.loop (rec (if jump.isNone then .ready else .done) jump))):=by
   intro jump W3 S3 hk3
   have hl3:=hk3.same _ _ hsa1 hlb
   have hd3:=hk3.same _ _ hsa2 hdb
   have hLb:=hlt_of hlb
   have hr3:=run_endRound (P:=P) jump hl3
   refine⟨by rw[hrec] at hr3 ⊢;exact hr3,hl3,World.putObj_heap_same (hlt_of hl3),(World.putObj_heap_other (by omega)).trans hd3,⟨fun h=>?_,fun h=>?_⟩,?_⟩
   ·rcases hk3.own _ h with h|h <;> first|exact hsa1 h|omega
   ·rcases hk3.own _ h with h|h <;> first|exact hsa2 h|omega
   ·refine⟨?_,fun b o hb ho=>?_,fun b hb=>?_⟩
    ·have:=hka.size;have:=hk3.size;simp;omega
    ·have hb1:¬ S1 b:=fun h=>hb ((hS b).2 (.inl h))
     have hb2:b≠L:=fun h=>hb ((hS b).2 (.inr h))
     have hb3:¬ Sa b:=fun h=>by have:=hlt_of ho;rcases hka.own _ h with h|h <;> first|exact hb1 h|omega
     refine(World.putObj_heap_other hb2).trans (hk3.same _ _ hb3 ((hpb b hb2).trans (hka.same _ _ hb1 ho)))
    ·rcases hb with hb|hb
     ·rcases hk3.own _ hb with h|h
      ·exact(hka.own _ h).imp (fun h=>(hS b).2 (.inl h)) id
      ·have:=hka.size;exact .inr (by omega)
     ·exact .inl ((hS b).2 (.inr hb))
  rintro e a3 W3 hp
  cases e with
  | normal =>
   obtain⟨S3,hi3,hk3⟩:=hp
   obtain⟨hr3,hl3,hl4,hd4,hn1,hn2⟩:=fin none W3 S3 hk3
   refine⟨_,_,hr3,.inl ⟨rfl,fun b=>S3 b∨b=L,⟨S3,fun b=>Iff.rfl,hI.put (s:=(k+1,S3)) hi3 _ (by omega) hl3 rfl,hn1,hl4,hd4⟩,hn2⟩⟩
  | ret =>
   obtain⟨hi3,S3,hk3⟩:=hp
   obtain⟨hr3,hl3,hl4,hd4,hn1,hn2⟩:=fin (some .ret) W3 S3 hk3
   exact⟨_,_,hr3,.inr ⟨rfl,⟨.ret,(hIx _).put hi3 _ (by omega) hl3 rfl,hl4,hd4⟩,_,hn2⟩⟩
  | exit id =>
   obtain⟨hi3,S3,hk3⟩:=hp
   obtain⟨hr3,hl3,hl4,hd4,hn1,hn2⟩:=fin (some (.exit id)) W3 S3 hk3
   exact⟨_,_,hr3,.inr ⟨rfl,⟨.exit id,(hIx _).put hi3 _ (by omega) hl3 rfl,hl4,hd4⟩,_,hn2⟩⟩
  | goto t =>
   obtain⟨hi3,S3,hk3⟩:=hp
   obtain⟨hr3,hl3,hl4,hd4,hn1,hn2⟩:=fin (some (.goto t)) W3 S3 hk3
   exact⟨_,_,hr3,.inr ⟨rfl,⟨.goto t,(hIx _).put hi3 _ (by omega) hl3 rfl,hl4,hd4⟩,_,hn2⟩⟩
  | panic ch=>exact hp.elim
  | outgrown=>exact hp.elim
 ·have hs0L:¬ S0 L:=fun h=>by have:=(hS0 _ h).1;omega
  have hs0D:¬ S0 w.heap.size:=fun h=>by have:=(hS0 _ h).1;omega
  exact⟨S0,fun b=>Iff.rfl,hI.grow (s:=(0,S0)) h0 hnew,⟨hs0L,hs0D⟩,e1,e2⟩
 ·-- behind the iterator
  rintro e W2 ⟨⟨v,rfl⟩,(⟨S',⟨S1,hS,hi,hnD,hl,hk⟩,hz⟩|⟨k,hk1,c,hi,hl,hk⟩)⟩
  ·refine⟨none,_,by have:=run_endLoop (P:=P) hl (by rw[hrec];simp);rw[hrec] at this;exact this,?_⟩
   exact hdone _ S1 _ (Nat.le_refl _) hnD.2 (hI.put (s:=(N,S1)) hi _ (by omega) hl rfl) (hZ _ _ _ _ hz (by omega) hl rfl) ((World.putObj_heap_other (by omega)).trans hk)
  ·refine⟨some c,_,by have:=run_endLoop (P:=P) hl (by rw[hrec];simp);rw[hrec] at this;exact this,?_⟩
   exact hstop _ c k _ (Nat.le_refl _) hk1 ((hIx c).put hi _ (by omega) hl rfl) ((World.putObj_heap_other (by omega)).trans hk)
theorem range_d2 {n:Nat} {P:Program} {w:World} {a:Act} {Q:Exit→Act→World→Prop} {g:Operand} {assign body:Code}
  {gf:Nat} {lb:Array Value} (hg:a.eval g=.func (.func gf) #[] lb) (eg:∀ args w,(callFunc gf args).run P w=.ok (.enter gf args) w)
  {val va2:Nat→Value} {p q:Nat} {r s:Nat} {N:Nat} {T V:Nat→Prop} {G:Nat→World→Prop} {Y:Nat→World→Prop} {Z:World→Prop} {w0:World} (hseq:SeqY P gf lb (fun k=>#[val k,va2 k]) N T V G Y Z w0) (hb0:Below w0.heap.size w0 w)
  (hT:∀ r,T r→r<w.heap.size) (hV:∀ r,V r→r<w.heap.size)
  (I:Nat→(Nat→Prop)→World→Prop) (Ix:Code→Nat→World→Prop) (hI:Bears2 T w.heap.size I) (hIx:∀ c,Bears T w.heap.size (Ix c)) (hG:∀ k S W,I k S W→G k W∧∀ b,S b→b<W.heap.size)
  (S0:Nat→Prop) (hS0:∀ b,S0 b→b<w.heap.size∧¬ V b) (h0:I 0 S0 w) (hZ:∀ (W:World) (l:Nat) (o o':Obj),Z W→w.heap.size≤l→W.heap[l]?=some o→isRec o=true→Z (W.putObj l o'))
  (hYp:∀ (k:Nat) (W:World) (l:Nat) (o o':Obj),Y k W→w.heap.size≤l→W.heap[l]?=some o→isRec o=true→Y k (W.putObj l o'))
  (hassign:∀ (l k:Nat) (W:World) (K:Act→World→Prop),K { tmps:=(((a.tmps.setIfInBounds p (val k)).setIfInBounds q (va2 k)).setIfInBounds r (val k)).setIfInBounds s (va2 k),defers:=[] } W→assign.wpIn (Fence.wide.inRound l) (n - 1 - 1) P (Exit.then K (fun _ _ _=>False)) { tmps:=(a.tmps.setIfInBounds p (val k)).setIfInBounds q (va2 k),defers:=[] } W)
  (hbody:∀ (l k:Nat) (S:Nat→Prop) (W:World),w.heap.size≤l→I k S W→Y k W→k<N→body.wpIn (Fence.wide.inRound l) (n - 1 - 1) P (postD I Ix (k+1) S W) { tmps:=(((a.tmps.setIfInBounds p (val k)).setIfInBounds q (va2 k)).setIfInBounds r (val k)).setIfInBounds s (va2 k),defers:=[] } W)
  (hdone:∀ (D:Nat) (S:Nat→Prop) (W:World),w.heap.size≤D→¬ S D→I N S W→Z W→W.heap[D]?=some (.deferred (some []))→Q .normal (markD D a) W)
  (hstop:∀ (D:Nat) (c:Code) (k:Nat) (W:World),w.heap.size≤D→k≤N→Ix c k W→W.heap[D]?=some (.deferred (some []))→c.wpIn Fence.wide n P Q (markD D a) W) :
  (Code.rangeFunc g #[p,q] assign body).wpIn Fence.wide n P Q a w :=
 range_d hg eg hseq hb0 hT hV (fun _=>rfl) I Ix hI hIx hG S0 hS0 h0 hZ hYp (fun k a' _=>a'={ tmps:=(((a.tmps.setIfInBounds p (val k)).setIfInBounds q (va2 k)).setIfInBounds r (val k)).setIfInBounds s (va2 k),defers:=[] }) (fun k a' _ X Y row hs _ _=>hs)
  (fun l k S W K hi hy hk hK=>by
   have h:=hassign l k W K (hK _ W S hi hy ⟨Nat.le_refl _,fun _ _ _ h=>h,fun _ h=>.inl h⟩ rfl)
   have e:Array.foldl (fun t (y:Nat × Value)=>t.setIfInBounds y.1 y.2) a.tmps (#[p,q].zip #[val k,va2 k])=(a.tmps.setIfInBounds p (val k)).setIfInBounds q (va2 k):=by simp
   rw[← e] at h
   exact h)
  (fun l k S a' W hl hi hy hax hk=>by subst hax;exact hbody l k S W hl hi hy hk)
  hdone hstop
end Go.Proofs.YtjkgkmmkehnggaaGreatDoor
namespace Go.Proofs.YtjkgkmmkehnggaaGreatDoor
set_option linter.unusedVariables false
set_option linter.unusedSimpArgs false
open Go.RowKit
set_option maxRecDepth 20000
def ktC (t:Kt):List Value:=[.int .u64 t.1,.int .u32 t.2.size,.string t.2]
def flatK:List Kt→List Value
 | []=>[]
 | t :: l=>.int .u64 t.1 :: .int .u32 t.2.size :: .string t.2 :: flatK l
theorem flatK_append (a b:List Kt):flatK (a++b)=flatK a++flatK b:=by
 induction a with
 | nil=>rfl
 | cons t l ih=>simp[flatK,ih]
theorem flatK_at (l:List Kt):∀ (k:Nat) (t:Kt),l[k]?=some t→(flatK l)[k*3]?=some (.int .u64 t.1)∧(flatK l)[k*3+1]?=some (.int .u32 t.2.size)∧(flatK l)[k*3+2]?=some (.string t.2):=by
 induction l with
 | nil=>intro k t h;simp at h
 | cons s l ih =>
  intro k t h
  cases k with
  | zero=>simp at h;subst h;simp[flatK]
  | succ k =>
   have:=ih k t (by simpa using h)
   rw[show (k+1)*3=k*3+1+1+1 by omega]
   simpa[flatK] using this
def KtsAt (w:World) (v:Value) (l:List Kt):Prop:=∃ a cap,v=.slice a l.length cap∧l.length≤cap∧cap≤maxLen∧∀ k t,l[k]?=some t→∃ g off,a=some ⟨g,off,none⟩∧g<w.heap.size∧w.cell? ⟨g,off+k*3,none⟩=some (.int .u64 t.1)∧w.cell? ⟨g,off+k*3+1,none⟩=some (.int .u32 t.2.size)∧w.cell? ⟨g,off+k*3+2,none⟩=some (.string t.2)
theorem KtsAt.below {w w':World} {v:Value} {l:List Kt} (h:KtsAt w v l) (hb:Below w.heap.size w w'):KtsAt w' v l:=by
 obtain⟨a,cap,rfl,h1,h2,hc⟩:=h
 refine⟨a,cap,rfl,h1,h2,fun k t ht=>?_⟩
 obtain⟨g,off,ha,hg,c0,c1,c2⟩:=hc k t ht
 exact⟨g,off,ha,Nat.lt_of_lt_of_le hg hb.size,vcell_later hb c0,vcell_later hb c1,vcell_later hb c2⟩
def OwnK (w:World) (B:Nat) (v:Value) (l:List Kt):Prop:=w.ownsRow B 252 3 v l.length (flatK l)
theorem ownK_nil (w:World) (B:Nat):OwnK w B (.slice none 0 0) []:=World.ownsRow_nil _ _ _ _
theorem OwnK.lt {w:World} {B:Nat} {v:Value} {l:List Kt} (h:OwnK w B v l):∀ k,v.ownBlock=some k→B≤k∧k<w.heap.size:=World.ownsRow.lt h
theorem OwnK.keep {w w':World} {B:Nat} {v:Value} {l:List Kt} (h:OwnK w B v l) (hk:∀ k,v.ownBlock=some k→w'.heap[k]?=w.heap[k]?):OwnK w' B v l:=by
 obtain⟨h1,h2⟩:=h
 refine⟨h1,?_⟩
 rcases h2 with h2|⟨g,cap,cur,hv,hg,hh,r⟩
 ·exact .inl h2
 ·refine .inr ⟨g,cap,cur,hv,hg,?_,r⟩
  rw[hk g (by rw[hv];rfl)];exact hh
theorem OwnK.below {w w':World} {B:Nat} {v:Value} {l:List Kt} (h:OwnK w B v l) (hb:Below w.heap.size w w'):OwnK w' B v l :=
 h.keep (fun k hk=>hb.block k (h.lt k hk).2)
theorem OwnK.cells {w:World} {B:Nat} {v:Value} {l:List Kt} (h:OwnK w B v l) {g:Nat} (hg:v.ownBlock=some g):∃ cur T fz,w.heap[g]?=some (.cells cur T fz):=by
 rcases h.2 with ⟨rfl,_⟩|⟨g',cap,cur,rfl,_,hh,_⟩
 ·cases hg
 ·cases hg
  exact⟨_,_,_,hh⟩
theorem OwnK.ktsAt {w:World} {B:Nat} {v:Value} {l:List Kt} (h:OwnK w B v l):KtsAt w v l:=by
 have hlt:=h.lt
 have h':=h
 obtain⟨h1,h2⟩:=h
 rcases h2 with ⟨rfl,hn⟩|⟨g,cap,cur,rfl,hg,hh,hle,hm,_⟩
 ·obtain rfl:l=[]:=List.eq_nil_of_length_eq_zero hn
  exact⟨none,0,rfl,Nat.le_refl _,by simp,fun k t h=>by simp at h⟩
 ·refine⟨_,cap,rfl,hle,hm,fun k t ht=>⟨g,0,rfl,(hlt g rfl).2,?_⟩⟩
  have hk:=(List.getElem?_eq_some_iff.1 ht).1
  obtain⟨f0,f1,f2⟩:=flatK_at l k t ht
  rw[Nat.zero_add]
  exact⟨(World.ownsRow.cellAt h' (k*3) (by omega)).trans f0,(World.ownsRow.cellAt h' (k*3+1) (by omega)).trans f1,(World.ownsRow.cellAt h' (k*3+2) (by omega)).trans f2⟩
theorem OwnK.slice {w:World} {B:Nat} {v:Value} {l:List Kt} (h:OwnK w B v l):∃ a cap,v=.slice a l.length cap:=by
 obtain⟨a,cap,hv,_⟩:=h.ktsAt
 exact⟨a,cap,hv⟩
theorem ownk_conv {w:World} {B:Nat} {v:Value} {n:Nat} {l:List Kt} {ys:List Value} (h:w.ownsRow B 252 3 v n ys) (hn:n=l.length) (he:ys=flatK l):OwnK w B v l:=by
 subst hn;subst he;exact h
theorem infoKt:(Tryz.prog.info? 252).map (fun i=>(i.zero,i.size,i.bytes))=some (some (.agg #[.int .u64 0,.int .u32 0,.string { data:=#[] }]),3,32):=by kernel_rfl
def Three (w:World) (g:Nat) (t:Kt):Prop:=w.cell? ⟨g,0,none⟩=some (.int .u64 t.1)∧w.cell? ⟨g,1,none⟩=some (.int .u32 t.2.size)∧w.cell? ⟨g,2,none⟩=some (.string t.2)
theorem Three.lt {w:World} {g:Nat} {t:Kt} (h:Three w g t):g<w.heap.size:=vcell_lt h.1
theorem Three.below {w w':World} {g:Nat} {t:Kt} (h:Three w g t) (hb:Below w.heap.size w w'):Three w' g t:=⟨vcell_later hb h.1,vcell_later hb h.2.1,vcell_later hb h.2.2⟩
theorem three_new (w:World) (t:Kt) (T:TypeId):Three (w.alloc (.cells #[.int .u64 t.1,.int .u32 t.2.size,.string t.2] T)) w.heap.size t:=⟨by simp[go_sem],by simp[go_sem],by simp[go_sem]⟩
theorem kappend_run (W:World) (ty:TypeId) (v:Value) (L:List Kt) (t:Kt) (g c:Nat) (hown:OwnK W 0 v L) (hx:Three W g t) (hl:L.length≤1000000) :
  ∃ v' w',(Builtin.append_ #[242,242] ty #[v,.slice (some ⟨g,0,none⟩) 1 c]).run Tryz.prog W=.ok v' w'∧OwnK w' 0 v' (L++[t])∧W.grownBy w' v.ownBlock∧(v'.ownBlock=v.ownBlock∨∃ g,v'.ownBlock=some g∧W.heap.size≤g):=by
 obtain⟨v',w',hr,h2,h3,h4⟩:=rappend_run 3 32 W 0 242 252 ty _ Tryz.underlying242 infoKt rfl (by omega) (by omega) v L.length (flatK L) hown ⟨g,0,none⟩ 1 c (ktC t) rfl (by
  intro j u hu
  match j,hu with
  | 0,hu=>simp only[ktC,List.getElem?_cons_zero,Option.some.injEq] at hu;rw[← hu];exact hx.1
  | 1,hu=>simp only[ktC,List.getElem?_cons_succ,List.getElem?_cons_zero,Option.some.injEq] at hu;rw[← hu];exact hx.2.1
  | 2,hu=>simp only[ktC,List.getElem?_cons_succ,List.getElem?_cons_zero,Option.some.injEq] at hu;rw[← hu];exact hx.2.2
  | j+3,hu=>simp[ktC] at hu) (by
  intro u hu
  simp only[ktC,List.mem_cons,List.not_mem_nil,or_false] at hu
  rcases hu with rfl|rfl|rfl <;> rfl) (by omega) (by omega) (Nat.zero_le _)
 refine⟨v',w',hr,?_,h3,h4⟩
 exact ownk_conv h2 (by simp) (by rw[flatK_append];rfl)
def tokE:Value→Option (DataW Value × List MemPlace)
 | .slice a n c=>some (.held (.slice a n c),[])
 | _=>none
def nilS:Value:=.slice none 0 0
theorem lawI:Maps.Keyed Tryz.prog 3:=Maps.int_keyed Tryz.underlying3
theorem keyI {k:Int} (h:(Lit.int .i64 k).wf=true):keyOf Tryz.prog 3 (.int .i64 k)=some (.int .i64 k):=Maps.keyOf_int_mk Tryz.underlying3 h
theorem zeroK (w:World):(zeroValue 242).run Tryz.prog w=.ok nilS w:=by
 have h:((Tryz.prog.info? 242).map (·.zero))=some (some nilS):=by kernel_rfl
 cases hq:Tryz.prog.info? 242 with
 | none=>simp[hq] at h
 | some i =>
  have hz:i.zero=some nilS:=by simpa[hq] using h
  simp[zeroValue,typeInfo,hq,hz]
def MapG (w:World) (mb n:Nat) (G:Int→Value):Prop:=∃ D:DataW Value,w.ownsMap Tryz.prog 3 tokE mb n D∧∀ k,(Lit.int .i64 k).wf=true→D.atKey (.int .i64 k) (.held nilS)=.held (G k)
theorem MapG.keep {w w':World} {mb n:Nat} {G:Int→Value} (h:MapG w mb n G) (hk:w'.heap[mb]?=w.heap[mb]?):MapG w' mb n G:=by
 obtain⟨D,⟨es,clock,hb,r⟩,hG⟩:=h
 exact⟨D,⟨es,clock,hk.trans hb,r⟩,hG⟩
theorem MapG.lt {w:World} {mb n:Nat} {G:Int→Value} (h:MapG w mb n G):mb<w.heap.size:=by
 obtain⟨D,h,_⟩:=h
 exact h.lt
theorem MapG.below {w w':World} {mb n:Nat} {G:Int→Value} (h:MapG w mb n G) (hb:Below w.heap.size w w'):MapG w' mb n G:=h.keep (hb.block mb h.lt)
theorem MapG.block {w:World} {mb n:Nat} {G:Int→Value} (h:MapG w mb n G):∃ es clock,w.heap[mb]?=some (.map es clock):=by
 obtain⟨D,⟨es,clock,hb,_⟩,_⟩:=h
 exact⟨es,clock,hb⟩
theorem tok_inv {v:Value} {y:DataW Value × List MemPlace} (h:tokE v=some y):(∃ a n c,v=.slice a n c)∧y=(.held v,[]):=by
 cases v <;> simp[tokE] at h
 exact⟨⟨_,_,_,rfl⟩,h.symm⟩
theorem MapG.look {w:World} {mb n:Nat} {G:Int→Value} (h:MapG w mb n G) (k:Int) (hk:(Lit.int .i64 k).wf=true):(Instr.lookup 243 (.map (some mb)) (.int .i64 k) false).run Tryz.prog w=.ok (G k) w:=by
 obtain⟨D,hD,hG⟩:=h
 obtain⟨v,ps,hrun,hv⟩:=hD.lookup lawI Tryz.underlying243 (zeroK w) (zd:=.held nilS) (zp:=[]) rfl (keyI hk)
 rw[hG k hk] at hv
 obtain⟨_,he⟩:=tok_inv hv
 injection he with h1 h2
 injection h1 with h1
 rw[hrun,h1]
theorem look_none (w:World) (k:Int) (hk:(Lit.int .i64 k).wf=true):(Instr.lookup 243 (.map none) (.int .i64 k) false).run Tryz.prog w=.ok nilS w:=by
 have h:=Maps.look_nil (w:=w) (P:=Tryz.prog) false lawI Tryz.underlying243 (zeroK w) (keyI hk)
 simpa using h
def putG (G:Int→Value) (k:Int) (v:Value):Int→Value:=fun j=>if j=k then v else G j
theorem putG_same (G:Int→Value) (k:Int) (v:Value):putG G k v k=v:=by simp[putG]
theorem putG_other (G:Int→Value) (k j:Int) (v:Value) (h:j≠k):putG G k v j=G j:=by simp[putG,h]
theorem MapG.put {w:World} {mb n:Nat} {G:Int→Value} (h:MapG w mb n G) (hn:n<maxLen) (k:Int) (hk:(Lit.int .i64 k).wf=true) (v:Value) (hv:∃ a n c,v=.slice a n c) :
  ∃ w',(Instr.mapUpdate 243 (.map (some mb)) (.int .i64 k) v).run Tryz.prog w=.ok () w'∧MapG w' mb (n+1) (putG G k v)∧w.grownBy w' (some mb):=by
 obtain⟨D,hD,hG⟩:=h
 obtain⟨a,m,c,rfl⟩:=hv
 obtain⟨w',hrun,hD',hgr⟩:=hD.update lawI Tryz.underlying243 hn (keyI hk) (val:=.slice a m c) (d:=.held (.slice a m c)) (ps:=[]) rfl
 refine⟨w',hrun,⟨_,hD',fun j hj=>?_⟩,hgr⟩
 by_cases e:j=k
 ·subst e
  rw[putG_same]
  exact Maps.atKey_put_same hD.isMap (lawI.key (keyI hk)) _ _
 ·rw[putG_other G k j _ e,← hG j hj]
  exact Maps.atKey_put_other (by intro h;injection h with _ h;exact e h) _ _
theorem MapG.made (w:World):MapG (w.alloc (.map #[] 0)) w.heap.size 0 (fun _=>nilS):=⟨_,World.ownsMap_made w Tryz.prog 3 tokE,fun k _=>rfl⟩
structure PoolAt (w:World) (pb:Nat) (va vm:Value) (G:Int→Value) (l:List ByteArray):Prop where
 good:GoodP l
 two:Two w pb va vm
 all:OwnK w 0 va (plc l 0)
 map:(vm=.map none∧l=[]∧∀ k,G k=nilS)∨∃ mb,vm=.map (some mb)∧MapG w mb l.length G
 grps:∀ k,OwnK w 0 (G k) (grp k (plc l 0))
 n1:va.ownBlock≠some pb
 n2:∀ k,(G k).ownBlock≠some pb
 n3:∀ k g,(G k).ownBlock=some g→va.ownBlock≠some g
 n4:∀ k j g,(G k).ownBlock=some g→(G j).ownBlock=some g→k=j
 n5:∀ mb,vm=.map (some mb)→mb≠pb
def blkS (pb:Nat) (va vm:Value) (G:Int→Value) (b:Nat):Prop:=b=pb∨va.ownBlock=some b∨vm=.map (some b)∨∃ k,(G k).ownBlock=some b
theorem PoolAt.lt {w:World} {pb:Nat} {va vm:Value} {G:Int→Value} {l:List ByteArray} (h:PoolAt w pb va vm G l):∀ b,blkS pb va vm G b→b<w.heap.size:=by
 rintro b (rfl|hb|rfl|⟨k,hb⟩)
 ·exact h.two.lt
 ·exact(h.all.lt b hb).2
 ·rcases h.map with ⟨e,_⟩|⟨mb,e,hm⟩
  ·cases e
  ·cases e;exact hm.lt
 ·exact((h.grps k).lt b hb).2
theorem PoolAt.keep {w w':World} {pb:Nat} {va vm:Value} {G:Int→Value} {l:List ByteArray} (h:PoolAt w pb va vm G l) (hk:∀ b,blkS pb va vm G b→w'.heap[b]?=w.heap[b]?):PoolAt w' pb va vm G l:=by
 have hp:=hk pb (.inl rfl)
 obtain⟨t0,t1,t2,t3⟩:=h.two
 refine⟨h.good,⟨(World.cell?_of_block (a:=⟨pb,0,none⟩) hp).trans t0,(World.cell?_of_block (a:=⟨pb,1,none⟩) hp).trans t1,(World.frozen?_of_block (a:=⟨pb,0,none⟩) hp).trans t2,(World.frozen?_of_block (a:=⟨pb,1,none⟩) hp).trans t3⟩,h.all.keep (fun b hb=>hk b (.inr (.inl hb))),?_,fun k=>(h.grps k).keep (fun b hb=>hk b (.inr (.inr (.inr ⟨k,hb⟩)))),h.n1,h.n2,h.n3,h.n4,h.n5⟩
 rcases h.map with e|⟨mb,e,hm⟩
 ·exact .inl e
 ·exact .inr ⟨mb,e,hm.keep (hk mb (.inr (.inr (.inl e))))⟩
theorem PoolAt.below {w w':World} {pb:Nat} {va vm:Value} {G:Int→Value} {l:List ByteArray} (h:PoolAt w pb va vm G l) (hb:Below w.heap.size w w'):PoolAt w' pb va vm G l :=
 h.keep (fun b hS=>hb.block b (h.lt b hS))
theorem PoolAt.look {w:World} {pb:Nat} {va vm:Value} {G:Int→Value} {l:List ByteArray} (h:PoolAt w pb va vm G l) (k:Int) (hk:(Lit.int .i64 k).wf=true):(Instr.lookup 243 vm (.int .i64 k) false).run Tryz.prog w=.ok (G k) w:=by
 rcases h.map with ⟨rfl,_,hG⟩|⟨mb,rfl,hm⟩
 ·rw[hG k];exact look_none w k hk
 ·exact hm.look k hk
theorem map_row {w:World} {mb n:Nat} {G:Int→Value} (h:MapG w mb n G) {B:Nat} {v:Value} {l:List Kt} (hv:OwnK w B v l):v.ownBlock≠some mb:=by
 intro e
 obtain⟨es,clock,h1⟩:=h.block
 obtain⟨cur,T,fz,h2⟩:=hv.cells e
 rw[h1] at h2
 cases h2
theorem wf_i64 {k:Int} (h0:-9223372036854775808≤k) (h1:k≤9223372036854775807):(Lit.int .i64 k).wf=true:=WalkArith.wf_i64 ⟨h0,h1⟩
def PoolS (w:World) (v:Value) (l:List ByteArray) (S:Nat→Prop):Prop:=∃ pb va vm G,v=.pointer (some ⟨pb,0,none⟩)∧PoolAt w pb va vm G l∧∀ b,S b↔blkS pb va vm G b
theorem PoolS.ptr {w:World} {v:Value} {l:List ByteArray} {S:Nat→Prop} (h:PoolS w v l S):∃ a,v=.pointer (some a):=by
 obtain⟨pb,va,vm,G,rfl,_⟩:=h
 exact⟨_,rfl⟩
theorem PoolS.good {w:World} {v:Value} {l:List ByteArray} {S:Nat→Prop} (h:PoolS w v l S):GoodP l:=by
 obtain⟨pb,va,vm,G,rfl,h,_⟩:=h
 exact h.good
theorem PoolS.lt {w:World} {v:Value} {l:List ByteArray} {S:Nat→Prop} (h:PoolS w v l S):∀ b,S b→b<w.heap.size:=by
 obtain⟨pb,va,vm,G,rfl,h,hS⟩:=h
 exact fun b hb=>h.lt b ((hS b).1 hb)
theorem PoolS.keep {w w':World} {v:Value} {l:List ByteArray} {S:Nat→Prop} (h:PoolS w v l S) (hs:w.heap.size≤w'.heap.size) (hk:∀ b,S b→w'.heap[b]?=w.heap[b]?):PoolS w' v l S:=by
 obtain⟨pb,va,vm,G,rfl,h,hS⟩:=h
 exact⟨pb,va,vm,G,rfl,h.keep (fun b hb=>hk b ((hS b).2 hb)),hS⟩
theorem zero_at (w:World) (T:TypeId):PoolAt (w.alloc (.cells #[.slice none 0 0,.map none] T)) w.heap.size (.slice none 0 0) (.map none) (fun _=>nilS) [] :=
 ⟨goodP_nil,two_new w _ _ _,ownK_nil _ _,.inl ⟨rfl,rfl,fun _=>rfl⟩,fun k=>ownK_nil _ _,(by simp[Value.ownBlock]),(by simp[Value.ownBlock,nilS]),(by simp[Value.ownBlock,nilS]),(by simp[Value.ownBlock,nilS]),(by simp)⟩
theorem zero_blk {pb b:Nat} (h:blkS pb (.slice none 0 0) (.map none) (fun _=>nilS) b):b=pb:=by
 rcases h with h|h|h|⟨k,h⟩
 ·exact h
 ·cases h
 ·cases h
 ·cases h
theorem new_any (w:World):Calls Tryz.prog 67 #[] w fun e w'=>∃ v S,e=.returned v∧PoolS w' v [] S∧(∀ b,S b→w.heap.size≤b)∧Below w.heap.size w w':=by
 go_enter Tryz.func67,Tryz.ntmps67
 go_wp2_with fail
 go_ret
 exact⟨_,_,rfl,⟨w.heap.size,_,_,_,rfl,zero_at w _,fun _=>Iff.rfl⟩,fun b hb=>(by rw[zero_blk hb];exact Nat.le_refl _),(Below.refl _ _).alloc (Nat.le_refl _) _⟩
end Go.Proofs.YtjkgkmmkehnggaaGreatDoor
