/- Za Zb Zc Zd Ze Zf Zg Zh Zj. -/
import Derived.Test.YtdnmgpcfgcidbaaGreatDoorWd6
import Derived.Test.YtdnmgpcfgcidbaaGreatDoorWa8
import Derived.Test.YtdnmgpcfgcidbaaGreatDoorWc4
import Derived.Test.YtdnmgpcfgcidbaaGreatDoorWa9
namespace Go.Proofs.YtdnmgpcfgcidbaaGreatDoor
set_option linter.unusedVariables false
set_option linter.unusedSimpArgs false
open Go.RowKit
set_option maxRecDepth 20000
def isOb:Js→Bool
 | .obj _=>true
 | _=>false
def ckP (b k:Int) (s:ByteArray):Int :=
 if b<512∨16257<b then 15 else if 5<k then 14 else if (takeV (bI s)).2.2≠0 then (takeV (bI s)).2.2 else if isOb (takeV (bI s)).1=true then 0 else 4
def hdP (L:List It) (k:Int):Hd:=⟨0,0,0,0,0,0,0,0,(L.length:Nat),((rowsS L).1.length:Nat),(conN (rowsS L).1:Nat),true,1,1,k,zlo L,zhi L,-1800000000,-850511287,1800000000,850511287,zlo L,0,0⟩
def ptP (L:List It) (b:Int) (s:ByteArray):Pt:=⟨encT (splitN (rowsS L).1 b).root,s,(splitN (rowsS L).1 b).text,catF (rowsS L).2⟩
def pressN (L:List It) (b k:Int) (s:ByteArray):ByteArray × Int :=
 if ckP b k s≠0 then (noB,ckP b k s) else if (splitN (rowsS L).1 b).err≠0 then (noB,(splitN (rowsS L).1 b).err) else glueN (hdP L k) (ptP L b s)
theorem zof_in (t:It) (h:t.1<6004799503160661):0≤zofV (t.1:Int)∧zofV (t.1:Int)≤26:=by
 obtain ⟨k,hk,_,_,e⟩:=zof_yes (t.1:Int) (by omega) (by omega)
 rw [e];omega
theorem zof_up {a b:Int} (h0:0≤a) (hab:a≤b) (hb:b<6004799503160661):zofV a≤zofV b:=by
 obtain ⟨i,hi,a1,a2,ea⟩:=zof_yes a h0 (by omega)
 obtain ⟨j,hj,b1,b2,eb⟩:=zof_yes b (by omega) hb
 rw [ea,eb]
 rcases Nat.lt_or_ge j i with h|h
 ·have:=bas_mono (j+1) i (by omega)
  rw [bas_succ] at this
  omega
 ·omega
theorem zlo_in {L:List It} (hg:GoodC L):0≤zlo L∧zlo L≤zhi L∧zhi L≤26:=by
 cases L with
 | nil=>exact ⟨Int.le_refl _,Int.le_refl _,by decide⟩
 | cons t m =>
  obtain ⟨u,hu⟩:∃ u,(t :: m).getLast?=some u:=⟨_,List.getLast?_eq_some_getLast (by simp)⟩
  have hm:u ∈ t :: m:=List.mem_of_getLast? hu
  have h1:=zof_in t (hg.low t (by simp))
  have h2:=zof_in u (hg.low u hm)
  have e:zhi (t :: m)=zofV (u.1:Int):=by unfold zhi;rw [hu]
  have e2:zlo (t :: m)=zofV (t.1:Int):=rfl
  rw [e,e2]
  refine ⟨h1.1,zof_up (by omega) ?_ (by have:=hg.low u hm;omega),h2.2⟩
  rcases List.mem_cons.1 hm with rfl|hm'
  ·omega
  ·have:=(List.pairwise_cons.1 hg.rise).1 u hm';omega
theorem rows_may {L:List It} (hg:GoodC L):MaysN (rowsS L).1:=fun e he=>((rinv_all hg).ok e he).may
theorem rows_leaves {L:List It} (hg:GoodC L):leavesN (rowsS L).1=[]:=by
 unfold leavesN
 refine List.filter_eq_nil_iff.2 (fun e he=>?_)
 have:=((rinv_all hg).ok e he).run
 simp only [decide_eq_true_eq]
 omega
theorem rows_row {L:List It} (hg:GoodC L):rowN (rowsS L).1=0:=(back_whole hg).2.1
theorem rows_len {L:List It} (hg:GoodC L):(rowsS L).1.length≤L.length:=(back_whole hg).2.2.2.2.1
theorem goS_up (l:List En) (b:Int) (n:Nat):∀ (j f m:Nat),j<f→fitN b (cutN (2 ^ j*m) l)=true→∃ k,goS l b f m=some k:=by
 intro j
 induction j with
 | zero =>
  intro f m h hf
  obtain ⟨f,rfl⟩:∃ g,f=g+1:=⟨f-1,by omega⟩
  rw [Nat.pow_zero,Nat.one_mul] at hf
  exact ⟨m,by rw [goS,if_pos hf]⟩
 | succ j ih =>
  intro f m h hf
  obtain ⟨f,rfl⟩:∃ g,f=g+1:=⟨f-1,by omega⟩
  rw [goS]
  split
  ·exact ⟨_,rfl⟩
  ·refine ih f (2*m) (by omega) ?_
   rw [show 2 ^ j*(2*m)=2 ^ (j+1)*m by rw [Nat.pow_succ,Nat.mul_assoc]]
   exact hf
theorem sizD_le (l:List En):sizD l≤10+40*l.length:=by
 unfold sizD
 have:=(textI_bd l).2
 split <;> omega
theorem split_fits {l:List En} {b:Int} (hm:MaysN l) (hr:rowN l=0) (hlv:leavesN l=[]) (hl:l.length≤150) (h0:512≤b) (h1:b≤16257):(splitN l b).err=0:=by
 unfold splitN
 rw [if_neg (by omega),if_neg (by simp [hr]),if_neg (by simp [hlv])]
 split
 ·rfl
 rename_i h4
 have hne:l≠[]:=by
  rintro rfl
  have:=sizD_le []
  simp at this
  omega
 have hf:fitN b (cutN (2 ^ 8*1) l)=true:=by
  rw [fit_few _ (by omega) hl,decide_eq_true_eq]
  have:=sizD_le (rootsN 0 (cutN (2 ^ 8*1) l))
  rw [rootsN_len,cutN_last _ (by omega) l hne (by omega)] at this
  rw [cutN_last _ (by omega) l hne (by omega)]
  simp at this
  omega
 obtain ⟨k,hk⟩:=goS_up l b 0 8 13 1 (by omega) hf
 rw [hk]
structure Spl (l:List En) (b:Int):Prop where
 may:MaysN (splitN l b).root
 row:rowN (splitN l b).root=0
 len:(splitN l b).root.length≤l.length
 fit:((textI (splitN l b).root).length:Int)≤b
 text:(splitN l b).text.size≤10*l.length+40*l.length
theorem spl_of {l:List En} {b:Int} (hm:MaysN l) (hl:l.length≤150) (he:(splitN l b).err=0):Spl l b:=by
 obtain ⟨b0,b1,hr,hlv,h⟩:=split_ok he
 rcases h with ⟨h,e⟩|⟨h,n,hn,hf,e⟩
 ·rw [sizD,if_pos hr] at h
  exact ⟨by rw [e];exact hm,by rw [e];exact hr,by rw [e];exact Nat.le_refl _,by rw [e];exact h,by rw [e];exact Nat.zero_le _⟩
 ·have hrow:=roots_rowN n hn hm hr (by omega)
  have hlen:(rootsN 0 (cutN n l)).length≤l.length:=by rw [rootsN_len];exact cut_len n hn l
  rw [fit_few n hn hl,decide_eq_true_eq,sizD,if_pos hrow] at hf
  have hb:=textsI_bd (cutN n l)
  have hc:=cut_len n hn l
  rw [cut_flat n hn l] at hb
  refine ⟨?_,by rw [e];exact hrow,by rw [e];exact hlen,by rw [e];exact hf,by rw [e];show (str (textsI (cutN n l))).size≤_;rw [str_size];omega⟩
  rw [e]
  refine roots_may (by rw [cut_flat n hn l];exact hm) (fun p hp=>(cut_mem n hn l p hp).1) (fun p hp=>?_) (by omega)
  have h1:=(textI_bd p).2
  have h2:p.length≤l.length:=by
   have:=cut_flat n hn l
   obtain ⟨x,y,hxy⟩:=List.append_of_mem hp
   rw [hxy,List.flatten_append,List.flatten_cons] at this
   have:=congrArg List.length this
   rw [List.length_append,List.length_append] at this
   omega
  omega
theorem enc_ok {l:List En} (hr:rowN l=0) (hs:(textI l).length≤65536):encB l=0∧encT l=str (textI l):=by
 have h:encB l=0:=by unfold encB;rw [if_pos hr,if_neg (by omega)]
 exact ⟨h,by unfold encT;rw [if_pos h]⟩
theorem cat_le {L:List It} (hg:GoodC L):(catF (rowsS L).2).size≤134217728:=by
 have:=tot_le hg L.length (Nat.le_refl _)
 rw [List.take_length] at this
 rw [catF_size];exact this
theorem few_pt {L:List It} {b:Int} {s:ByteArray} (hg:GoodC L) (hl:L.length≤150) (hs:s.size≤1000000) (he:(splitN (rowsS L).1 b).err=0) (hb:b≤16257):Few (ptP L b s) 200000000:=by
 have hlen:=rows_len hg
 have S:=spl_of (rows_may hg) (by omega) he
 have h1:=S.fit
 have h2:=S.text
 have h3:=cat_le hg
 obtain ⟨e1,e2⟩:=enc_ok S.row (by omega)
 refine ⟨?_,by show s.size≤_;omega,by show (splitN (rowsS L).1 b).text.size≤_;omega,by show (catF (rowsS L).2).size≤_;omega⟩
 show (encT (splitN (rowsS L).1 b).root).size≤_
 rw [e2,str_size]
 omega
theorem con_le (l:List En):conN l≤l.length:=by
 unfold conN
 refine Nat.le_trans (unl_len _) ?_
 unfold pairN
 rw [List.length_map]
 exact List.length_filter_le _ _
theorem may_hd {L:List It} {k:Int} (hg:GoodC L) (hk:U8 k):MayH (hdP L k):=by
 have h1:=zlo_in hg
 have h2:=hg.few
 have h3:=rows_len hg
 have h4:=con_le (rowsS L).1
 unfold U8 at hk
 unfold MayH hdP U64 U8
 simp only
 omega
theorem press_ok {L:List It} {b k:Int} {s:ByteArray} (hg:GoodC L) (hl:L.length≤150) (hk:U8 k) (hs:s.size≤1000000) (hc:ckP b k s=0) :
  (splitN (rowsS L).1 b).err=0∧(glueN (hdP L k) (ptP L b s)).2=0∧pressN L b k s=glueN (hdP L k) (ptP L b s):=by
 have hb:512≤b∧b≤16257∧k≤5:=by
  unfold ckP at hc
  split at hc
  ·cases hc
  split at hc
  ·cases hc
  omega
 have hlen:=rows_len hg
 have he:=split_fits (rows_may hg) (rows_row hg) (rows_leaves hg) (by omega) hb.1 hb.2.1
 have hf:=few_pt hg hl hs he hb.2.1
 have hz:=zlo_in hg
 have hck:ckH (withN (hdP L k) (secOf (ptP L b s)).sec)=0:=by
  rw [sec_few hf]
  obtain ⟨f0,f1,f2,f3⟩:=hf
  generalize ptP L b s=p at *
  unfold U8 at hk
  unfold ckH SecsB KindB ZoomsB DegB secB withN hdP
  simp only [Bool.and_eq_true,decide_eq_true_eq]
  rw [if_pos (by omega),if_pos (by omega),if_pos (by omega),if_pos (by omega)]
 have hgl:(glueN (hdP L k) (ptP L b s)).2=0:=by
  unfold glueN
  rw [if_neg (by rw [sec_few hf];simp),if_neg (by unfold encH;rw [if_pos hck];simp)]
 refine ⟨he,hgl,?_⟩
 unfold pressN
 rw [if_neg (by simpa using hc),if_neg (by simpa using he)]
theorem is_obj (S:Nat→Prop) (J:Js) (x:Value) (w:World) (h:AnyAt S w J x):∃ v,∀ W,(Instr.typeAssert x 20 96 true).run Tryz.prog W=.ok (.tuple #[v,.bool (isOb J)]) W:=by
 cases J <;> rw [AnyAt] at h
 ·subst h;exact ⟨_,fun W=>assert_nil _ _ _ _ Tryz.underlying96 rfl zPrs W⟩
 ·subst h;exact ⟨_,fun W=>assert_no _ _ _ _ _ _ Tryz.underlying96 rfl zPrs (by decide) W⟩
 ·subst h;exact ⟨_,fun W=>assert_no _ _ _ _ _ _ Tryz.underlying96 rfl zPrs (by decide) W⟩
 ·obtain ⟨t,rfl,_⟩:=h;exact ⟨_,fun W=>assert_no _ _ _ _ _ _ Tryz.underlying96 rfl zPrs (by decide) W⟩
 ·obtain ⟨a,c,rfl,_⟩:=h;exact ⟨_,fun W=>assert_no _ _ _ _ _ _ Tryz.underlying96 rfl zPrs (by decide) W⟩
 ·obtain ⟨a,c,rfl,_⟩:=h;exact ⟨_,fun W=>assert_yes _ _ _ _ Tryz.underlying96 rfl W⟩
 ·subst h;exact ⟨_,fun W=>assert_no _ _ _ _ _ _ Tryz.underlying96 rfl zPrs (by decide) W⟩
def planV (b k:Int) (s:ByteArray):Array Value:=#[.int .i64 b,.int .u8 k,.string s]
set_option maxHeartbeats 1000000 in
theorem check18_any (b k:Int) (s:ByteArray) (w:World) (hq:QTab w) (hs:s.size≤1000000):Calls Tryz.prog 12 #[.agg (planV b k s)] w fun e w'=>e=.returned (.int .i64 (ckP b k s))∧Below w.heap.size w w':=by
 unfold planV ckP
 have HT:=Lib.hid (fun W hq=>ptake_any s W hq hs)
 have HQ:=Lib.hid (fun W (hb:Below w.heap.size w W)=>hq.below hb)
 obtain ⟨V,hV⟩:∃ V,takeV (bI s)=V:=⟨_,rfl⟩
 rw [hV] at HT ⊢
 unfold TakeV at HT
 clear hq hV
 by_cases h1:b<512
 ·rw [if_pos (.inl h1)]
  have e1:decide (b<512)=true:=decide_eq_true h1
  clear h1
  go_enter Tryz.func12,Tryz.ntmps12
  go_wp2_with fail
  go_ret
  exact ⟨rfl,by go_grown⟩
 have e1:decide (b<512)=false:=decide_eq_false h1
 by_cases h2:16257<b
 ·rw [if_pos (.inr h2)]
  have e2:decide (16257<b)=true:=decide_eq_true h2
  clear h1 h2
  go_enter Tryz.func12,Tryz.ntmps12
  go_wp2_with fail
  go_ret
  exact ⟨rfl,by go_grown⟩
 have e2:decide (16257<b)=false:=decide_eq_false h2
 rw [if_neg (by omega)]
 by_cases h3:5<k
 ·rw [if_pos h3]
  have e3:decide (5<k)=true:=decide_eq_true h3
  clear h1 h2 h3
  go_enter Tryz.func12,Tryz.ntmps12
  go_wp2_with fail
  go_ret
  exact ⟨rfl,by go_grown⟩
 have e3:decide (5<k)=false:=decide_eq_false h3
 rw [if_neg h3]
 obtain ⟨R,hR⟩:∃ R,(if V.2.2≠0 then V.2.2 else if isOb V.1=true then 0 else 4)=R:=⟨_,rfl⟩
 rw [hR]
 have HR:=Lib.hid hR
 clear h1 h2 h3 hR
 go_enter Tryz.func12,Tryz.ntmps12
 go_wp2_with fail
 have HB0:Hid (Below w.heap.size w (w.alloc (.cells #[.int .i64 b,.int .u8 k,.string s] 35))):=Lib.hid ((Below.refl _ _).alloc (Nat.le_refl _) _)
 refine (HT.out _ (HQ.out _ HB0.out)).mono ?_
 rintro e w1 ⟨⟨x,rfl,hx⟩,hb1⟩
 have HB:=Lib.hid (HB0.out.trans (hb1.mono HB0.out.size))
 obtain ⟨v,hv⟩:=is_obj _ _ _ _ hx
 clear hx hb1 HT HB0
 by_cases h4:V.2.2=0
 ·have e4:(V.2.2 == 0)=true:=by simp [h4]
  have HR1:=Lib.hid (HR.out.symm.trans (if_neg (by simpa using h4)))
  cases h5:isOb V.1 with
  | true =>
   rw [h5] at hv
   have HR2:=Lib.hid (HR1.out.trans (if_pos h5))
   clear h4 h5
   generalize V.2.2=z at *
   go_wp2_with fail
   go_ret
   exact ⟨by rw [HR2.out];rfl,HB.out⟩
  | false =>
   rw [h5] at hv
   have HR2:=Lib.hid (HR1.out.trans (if_neg (by simp [h5])))
   clear h4 h5
   generalize V.2.2=z at *
   go_wp2_with fail
   go_ret
   exact ⟨by rw [HR2.out];rfl,HB.out⟩
 ·have e4:(V.2.2 == 0)=false:=by simp [h4]
  have HR2:=Lib.hid (HR.out.symm.trans (if_pos (by simpa using h4)))
  clear h4
  generalize V.2.2=z at *
  go_wp2_with fail
  go_ret
  exact ⟨by rw [HR2.out];rfl,HB.out⟩
end Go.Proofs.YtdnmgpcfgcidbaaGreatDoor
namespace Go.Proofs.YtdnmgpcfgcidbaaGreatDoor
set_option linter.unusedVariables false
set_option linter.unusedSimpArgs false
open Go.RowKit
set_option maxRecDepth 100000
set_option maxHeartbeats 4000000 in
theorem head18_any (s v:Value) (L:List It) (k:Int) (w:World) (h:ChS w s L) (hv:EnsAt w v (rowsS L).1) :
  Calls Tryz.prog 36 #[.agg #[s],.int .u8 k,v] w fun e w'=>e=.returned (.agg (cH (hdP L k)))∧Below w.heap.size w w':=by
 have hg:=h.good
 have hfew:=hg.few
 have hrl:=rows_len hg
 have hcl:=con_le (rowsS L).1
 have hw1:IntKind.u64.wrap (L.length:Int)=(L.length:Int):=by rw [IntKind.wrap_u64] <;> omega
 have hw2:IntKind.u64.wrap ((rowsS L).1.length:Int)=((rowsS L).1.length:Int):=by rw [IntKind.wrap_u64] <;> omega
 have hw3:IntKind.u64.wrap (conN (rowsS L).1:Int)=(conN (rowsS L).1:Int):=by rw [IntKind.wrap_u64] <;> omega
 obtain ⟨a5,n5,c5,rfl⟩:=h.form
 have HV:=Lib.hid hv
 obtain ⟨ar,cr,rfl,hcr,hmr,_⟩:=hv
 obtain ⟨W,hW⟩:∃ W,(w.alloc (.cells #[.slice a5 n5 c5] 29)).alloc (.cells (cH zeroH) 44)=W:=⟨_,rfl⟩
 have h0:One W w.heap.size (.slice a5 n5 c5):=by
  rw [← hW]
  exact (one_new w _ _).alloc _
 have h2:HAt W (w.heap.size+1) 44 zeroH:=by
  have:=HAt.made (w.alloc (.cells #[.slice a5 n5 c5] 29)) zeroH 44
  simp only [World.size_alloc] at this
  rw [← hW]
  exact this
 have hbw:Below w.heap.size w W:=by rw [← hW];exact ((Below.refl _ w).alloc (Nat.le_refl _) _).alloc (by simp) _
 have HM:=Lib.hid (rows_may hg)
 have HZ:=Lib.hid (zooms_any (.slice a5 n5 c5) L W (h.below hbw))
 have HL:=Lib.hid (fun X (hX:Below W.heap.size W X)=>len_anyC (.slice a5 n5 c5) L X ((h.below hbw).below hX))
 have HC:=Lib.hid (fun X (hX:Below W.heap.size W X)=>pcont_any _ (rowsS L).1 X ((HV.out.below hbw).below hX) HM.out (by omega))
 have H0:=Lib.hid h0
 have H2:=Lib.hid h2
 have HB:=Lib.hid hbw
 have q0:=h0.cell
 have hz:cH zeroH=#[.int .u64 0,.int .u64 0,.int .u64 0,.int .u64 0,.int .u64 0,.int .u64 0,.int .u64 0,.int .u64 0,.int .u64 0,.int .u64 0,.int .u64 0,.bool false,.int .u8 0,.int .u8 0,.int .u8 0,.int .i64 0,.int .i64 0,.int .i64 0,.int .i64 0,.int .i64 0,.int .i64 0,.int .i64 0,.int .i64 0,.int .i64 0]:=rfl
 rw [hz] at hW
 have hR:cH (hdP L k)=#[.int .u64 0,.int .u64 0,.int .u64 0,.int .u64 0,.int .u64 0,.int .u64 0,.int .u64 0,.int .u64 0,.int .u64 L.length,.int .u64 (rowsS L).1.length,.int .u64 (conN (rowsS L).1:Nat),.bool true,.int .u8 1,.int .u8 1,.int .u8 k,.int .i64 (zlo L),.int .i64 (zhi L),.int .i64 (-1800000000),.int .i64 (-850511287),.int .i64 1800000000,.int .i64 850511287,.int .i64 (zlo L),.int .i64 0,.int .i64 0]:=rfl
 generalize hX:hdP L k=X at *
 have HR:=Lib.hid hR
 clear h hg h0 h2 hbw hz hcl hX hR
 generalize (rowsS L).1=R at *
 generalize zlo L=zl at *
 generalize zhi L=zh at *
 generalize conN R=cn at *
 go_enter Tryz.func36,Tryz.ntmps36
 go_wp2_with fail
 try rw [hW]
 clear hW
 refine HZ.out.mono ?_
 rintro e w1 ⟨rfl,hb1⟩
 have HB1:=Lib.hid hb1
 have q1:=(H0.out.below hb1).cell
 clear hb1 q0 HZ
 go_wp2_with fail
 refine (HL.out _ HB1.out).mono ?_
 rintro e w2 ⟨rfl,hb2⟩
 have HB2:=Lib.hid (HB1.out.trans (hb2.mono HB1.out.size))
 clear hb2 q1 HB1 HL
 go_wp2_with fail
 refine (HC.out _ HB2.out).mono ?_
 rintro e w3 ⟨rfl,hb3⟩
 have HB3:=Lib.hid (HB2.out.trans (hb3.mono HB2.out.size))
 have HH:=Lib.hid (H2.out.later HB3.out)
 have HBX:=Lib.hid (HB.out.trans (HB3.out.mono HB.out.size))
 clear hb3 HB2 HC
 go_wp2_with (first|(refine wpList_store_row rfl 44 _ _ rfl (w.heap.size+1) _ rfl rfl 44 (cH zeroH) HH.out head_size rfl (by have:=cH_one X;rw [HR.out] at this;exact this) ?_)|fail)
 have hp:=put24 w3 (w.heap.size+1) _ zeroH X HH.out
 rw [← HR.out]
 refine bodyPost_ret (results_cell_row rfl _ _ (w.heap.size+1) 44 (cH X) (0,0) _ rfl hp.1 Tryz.underlying44 rfl head_size) rfl ⟨rfl,hp.2.2.1 _ _ (by omega) HBX.out⟩
theorem close18 (gb ge:Nat) (x y:Int) (u:FrameMode) (w:World) (hb:One w gb (.int .i64 x)) (he:One w ge (.int .i64 y)) :
  CallsD Tryz.prog 31 #[.pointer (some ⟨gb,0,none⟩),.pointer (some ⟨ge,0,none⟩)] u w fun e u' w'=>u'=u∧(e=.returned (.tuple #[])∧w'=w.setCell ⟨ge,0,none⟩ (.int .i64 x)):=by
 have h1:=hb.cell
 have h2:=he.cell
 have h3:=he.frz
 go_enter_d Tryz.func31,Tryz.ntmps31
 go_wp2
 go_end0
 exact ⟨rfl,rfl⟩
theorem Box.set_other {w:World} {g g':Nat} {x:Array Value} (h:Box w g x) (hn:g≠g') (x':Value):Box (w.setCell ⟨g',0,none⟩ x') g x:=by
 obtain ⟨T,h⟩:=h
 exact ⟨T,hother h hn _ _⟩
theorem EnsAt.set18 {w:World} {v:Value} {l:List En} (h:EnsAt w v l) {g:Nat} {x:Value} (ho:One w g x) (x':Value):EnsAt (w.setCell ⟨g,0,none⟩ x') v l:=by
 obtain ⟨T,hh⟩:=ho
 obtain ⟨a,cap,rfl,h1,h2,hc⟩:=h
 refine ⟨a,cap,rfl,h1,h2,fun k t ht=>?_⟩
 obtain ⟨g',off,ha,hg,c0,c1,c2,c3⟩:=hc k t ht
 have hn:g'≠g:=by
  rintro rfl
  simp [World.cell?,hh] at c3
 have hb:(w.setCell ⟨g,0,none⟩ x').heap[g']?=w.heap[g']?:=Below.heap_setCell _ _ _ _ (by simpa using hn)
 exact ⟨g',off,ha,by simpa using hg,(World.cell?_of_block (a:=⟨g',_,none⟩) hb).trans c0,(World.cell?_of_block (a:=⟨g',_,none⟩) hb).trans c1,(World.cell?_of_block (a:=⟨g',_,none⟩) hb).trans c2,(World.cell?_of_block (a:=⟨g',_,none⟩) hb).trans c3⟩
theorem plan_size:(Tryz.prog.info? 35).map (·.size)=some 3:=by kernel_rfl
structure StP (w W:World) (g0 g1 g2 g3:Nat) (s:Value) (L:List It) (b k:Int) (t:ByteArray) (z:Int):Prop where
 ord:w.heap.size≤g2∧w.heap.size≤g3∧g0≠g3∧g1≠g3∧g2≠g3
 ch:One W g0 s
 pl:Box W g1 (planV b k t)
 e:One W g2 (.int .i64 0)
 bad:One W g3 (.int .i64 z)
 its:ChS W s L
 bel:Below w.heap.size w W
theorem StP.below {w W X:World} {g0 g1 g2 g3:Nat} {s:Value} {L:List It} {b k:Int} {t:ByteArray} {z:Int} (h:StP w W g0 g1 g2 g3 s L b k t z) (hb:Below W.heap.size W X):StP w X g0 g1 g2 g3 s L b k t z :=
 ⟨h.ord,h.ch.below hb,h.pl.below hb,h.e.below hb,h.bad.below hb,h.its.below hb,h.bel.trans (hb.mono h.bel.size)⟩
theorem StP.tell {w W:World} {g0 g1 g2 g3:Nat} {s:Value} {L:List It} {b k:Int} {t:ByteArray} {z:Int} (h:StP w W g0 g1 g2 g3 s L b k t z) (y:Int):StP w (W.setCell ⟨g3,0,none⟩ (.int .i64 y)) g0 g1 g2 g3 s L b k t y :=
 ⟨h.ord,h.ch.set_other h.ord.2.2.1 _,h.pl.set_other h.ord.2.2.2.1 _,h.e.set_other h.ord.2.2.2.2 _,h.bad.set _,h.its.set h.bad _,h.bel.setCell (p:=⟨g3,0,none⟩) h.ord.2.1 _⟩
theorem StP.facts {w W:World} {g0 g1 g2 g3:Nat} {s:Value} {L:List It} {b k:Int} {t:ByteArray} {z:Int} (h:StP w W g0 g1 g2 g3 s L b k t z) :
  W.cell? ⟨g0,0,none⟩=some s∧W.cell? ⟨g1,0,none⟩=some (.int .i64 b)∧W.cell? ⟨g1,1,none⟩=some (.int .u8 k)∧W.cell? ⟨g1,2,none⟩=some (.string t) ∧
  W.cell? ⟨g3,0,none⟩=some (.int .i64 z)∧W.frozen? ⟨g3,0,none⟩=false∧(loadVar 35 ⟨g1,0,none⟩).run Tryz.prog W=.ok (.agg (planV b k t)) W:=by
 refine ⟨h.ch.cell,by rw [h.pl.cell];rfl,by rw [h.pl.cell];rfl,by rw [h.pl.cell];rfl,h.bad.cell,h.bad.frz,?_⟩
 obtain ⟨T,hT⟩:=h.pl
 exact run_loadVar_row W g1 T _ _ (0,0) _ hT Tryz.underlying35 rfl plan_size
theorem StP.shut {w W:World} {g0 g1 g2 g3:Nat} {s:Value} {L:List It} {b k:Int} {t:ByteArray} {z:Int} (h:StP w W g0 g1 g2 g3 s L b k t z) :
  (W.setCell ⟨g2,0,none⟩ (.int .i64 z)).cell? ⟨g2,0,none⟩=some (.int .i64 z)∧Below w.heap.size w (W.setCell ⟨g2,0,none⟩ (.int .i64 z)) :=
 ⟨(h.e.set _).cell,h.bel.setCell (p:=⟨g2,0,none⟩) h.ord.1 _⟩
set_option maxHeartbeats 4000000 in
theorem press18_any (s:Value) (L:List It) (b k:Int) (t:ByteArray) (w:World) (hq:QTab w) (h:ChS w s L) (hl:L.length≤150) (hk:U8 k) (hb:-9223372036854775808≤b∧b≤9223372036854775807) (ht:t.size≤1000000) :
  Calls Tryz.prog 10 #[.agg #[s],.agg (planV b k t)] w fun e w'=>e=.returned (.tuple #[.string (pressN L b k t).1,.int .i64 (pressN L b k t).2])∧Below w.heap.size w w':=by
 have hmf:∀ (fn:Fn) (first cap:Array Value) (w:World),(Instr.makeFunc fn first cap).run Tryz.prog w=.ok (.func fn first cap) w:=fun _ _ _ _=>rfl
 have hg:=h.good
 have hrl:=rows_len hg
 have HQ:=Lib.hid (fun W (hb:Below w.heap.size w W)=>hq.below hb)
 have HCK:=Lib.hid (fun W hq=>check18_any b k t W hq ht)
 obtain ⟨a5,n5,c5,rfl⟩:=h.form
 obtain ⟨W,hW⟩:∃ W,(((w.alloc (.cells #[.slice a5 n5 c5] 29)).alloc (.cells (planV b k t) 35)).alloc (.cells #[.int .i64 0] 32)).alloc (.cells #[.int .i64 0] 32)=W:=⟨_,rfl⟩
 have hS:StP w W w.heap.size (w.heap.size+1) (w.heap.size+1+1) (w.heap.size+1+1+1) (.slice a5 n5 c5) L b k t 0:=by
  have b1:=(Below.refl w.heap.size w).alloc (Nat.le_refl _) (.cells #[.slice a5 n5 c5] 29)
  have o1:=one_new w (.slice a5 n5 c5) 29
  generalize hW1:w.alloc (.cells #[.slice a5 n5 c5] 29)=W1 at *
  have z1:W1.heap.size=w.heap.size+1:=by rw [← hW1,World.size_alloc]
  have b2:=(Below.refl W1.heap.size W1).alloc (Nat.le_refl _) (.cells (planV b k t) 35)
  have o2:=box_new W1 (planV b k t) 35
  generalize hW2:W1.alloc (.cells (planV b k t) 35)=W2 at *
  have z2:W2.heap.size=w.heap.size+1+1:=by rw [← hW2,World.size_alloc,z1]
  have b3:=(Below.refl W2.heap.size W2).alloc (Nat.le_refl _) (.cells #[.int .i64 0] 32)
  have o3:=one_new W2 (.int .i64 0) 32
  generalize hW3:W2.alloc (.cells #[.int .i64 0] 32)=W3 at *
  have z3:W3.heap.size=w.heap.size+1+1+1:=by rw [← hW3,World.size_alloc,z2]
  have b4:=(Below.refl W3.heap.size W3).alloc (Nat.le_refl _) (.cells #[.int .i64 0] 32)
  have o4:=one_new W3 (.int .i64 0) 32
  rw [hW] at b4 o4
  rw [z1] at o2
  rw [z2] at o3
  rw [z3] at o4
  have c1:=b1.trans ((b2.mono b1.size).trans (((b3.mono b2.size).trans (b4.mono (Nat.le_trans b2.size b3.size))).mono b1.size))
  exact ⟨⟨by omega,by omega,by omega,by omega,by omega⟩,((o1.below b2).below b3).below b4,(o2.below b3).below b4,o3.below b4,o4,h.below c1,c1⟩
 unfold planV at hW ⊢
 generalize hP:pressN L b k t=P
 have HP:=Lib.hid hP
 have HS:=Lib.hid hS
 have H0:=Lib.hid h
 clear hq hS h hP
 go_enter_defers Tryz.func10,Tryz.ntmps10
 go_upto_region 3 with fail
 generalize w.heap.size+1+1+1=g3 at *
 generalize w.heap.size+1+1=g2 at *
 generalize w.heap.size+1=g1 at *
 obtain ⟨q0,p0,p1,p2,b0,bf,lp⟩:=HS.out.facts
 unfold planV at lp HCK
 obtain ⟨cz,hcz⟩:∃ z,ckP b k t=z:=⟨_,rfl⟩
 rw [hcz] at HCK
 have HCZ:=Lib.hid hcz
 clear hcz hW
 go_wp2_with fail
 refine (HCK.out _ (HQ.out _ HS.out.bel)).mono ?_
 rintro e w1 ⟨rfl,hb1⟩
 have HS1:=Lib.hid (HS.out.below hb1)
 obtain ⟨_,_,_,_,b1,bf1,_⟩:=HS1.out.facts
 clear HS hb1 q0 p0 p1 p2 b0 bf lp HCK
 by_cases h1:cz=0
 ·subst h1
  have HS2:=Lib.hid (HS1.out.tell 0)
  go_upto_region 5 with fail
  generalize w1.setCell { block:=g3,off:=0 } (Value.int IntKind.i64 0)=w2 at *
  obtain ⟨q0,_⟩:=HS2.out.facts
  clear HS1 b1 bf1
  go_wp2_with fail
  refine (rows13_any _ L _ HS2.out.its).mono ?_
  rintro e w3 ⟨v3,rfl,hr3,hb3⟩
  have HS3:=Lib.hid (HS2.out.below hb3)
  obtain ⟨_,p0,_⟩:=HS3.out.facts
  have HR3:=Lib.hid hr3
  obtain ⟨ar,cr,rfl,hcr,hmr,_⟩:=hr3
  have HSP:=Lib.hid (split14_any _ (rowsS L).1 b _ HR3.out (rows_may hg) (by omega) hb)
  clear HS2 hb3 q0
  unfold SplEnd at HSP
  go_wp2_with fail
  refine HSP.out.mono ?_
  rintro e w4 ⟨v4,rfl,hr4,hb4⟩
  have HS4:=Lib.hid (HS3.out.below hb4)
  have HR4:=Lib.hid (And.intro (HR3.out.below hb4) hr4)
  obtain ⟨_,_,_,_,b4,bf4,_⟩:=HS4.out.facts
  clear HS3 hb4 p0 HSP hr4 HR3
  obtain ⟨ez,hez⟩:∃ z,(splitN (rowsS L).1 b).err=z:=⟨_,rfl⟩
  have HEZ:=Lib.hid hez
  rw [hez]
  clear hez
  by_cases h2:ez=0
  ·subst h2
   have he:=HEZ.out
   have hbb:b≤16257:=(split_ok he).2.1
   have SP:=spl_of (rows_may hg) (by omega) he
   have HFW:=Lib.hid (few_pt (s:=t) hg hl ht he hbb)
   have HS5:=Lib.hid (HS4.out.tell 0)
   have HR5:=Lib.hid (And.intro (HR4.out.1.set18 HS4.out.bad (.int .i64 0)) (HR4.out.2.set18 HS4.out.bad (.int .i64 0)))
   have HEN:=Lib.hid (fun X hX=>pencD_any v4 (splitN (rowsS L).1 b).root X hX SP.may (by have:=SP.len;omega))
   have HHD:=Lib.hid (fun X (h1:ChS X (.slice a5 n5 c5) L) h2=>head18_any (.slice a5 n5 c5) (.slice ar (rowsS L).1.length cr) L k X h1 h2)
   have HGL:=Lib.hid (fun X=>glue15_any (hdP L k) (ptP L b t) X (may_hd hg hk) HFW.out)
   have HPE0:Hid (P=glueN (hdP L k) (ptP L b t)):=Lib.hid (by rw [← HP.out];unfold pressN;rw [HCZ.out,if_neg (by simp),he,if_neg (by simp)])
   generalize glueN (hdP L k) (ptP L b t)=G at *
   obtain ⟨y,z⟩:=G
   have HPE:Hid (P=(y,z)):=HPE0
   unfold pArr ptP at HGL
   dsimp only at HGL
   generalize cH (hdP L k)=Hc at *
   clear SP he HPE0
   go_upto_region 8 with fail
   generalize w4.setCell { block:=g3,off:=0 } (Value.int IntKind.i64 0)=w5 at *
   clear HS4 HR4 b4 bf4
   go_wp2_with fail
   refine (HEN.out _ HR5.out.2).mono ?_
   rintro e w6 ⟨rfl,hb6⟩
   have HS6:=Lib.hid (HS5.out.below hb6)
   have HR6:=Lib.hid (HR5.out.1.below hb6)
   obtain ⟨q0,p0,p1,p2,b0,bf,_⟩:=HS6.out.facts
   clear HS5 HR5 hb6 HEN
   go_upto_region 9 with fail
   go_cut [4] from 40 to 54 (fun x wx=>x=.string y∧StP w wx w.heap.size g1 g2 g3 (.slice a5 n5 c5) L b k t z)
   case first =>
    refine wp_mono (Q:=normOnly _) ?_ normOnly_to
    go_region_with (first|(go_at_call 36;refine (HHD.out _ (HS6.out.its.below (by go_grown)) (HR6.out.below (by go_grown))).mono ?_;rintro e wa ⟨rfl,hba⟩;have hbA:Below w6.heap.size w6 wa:=Below.trans (by go_grown) (hba.mono (by simp));obtain ⟨_,_,r1,r2,rb,rf,_⟩:=(HS6.out.below hbA).facts)|(go_at_call 35;refine (HGL.out _).mono ?_;rintro e wb ⟨rfl,hbb⟩;have hbB:Below w6.heap.size w6 wb:=hbA.trans (hbb.mono hbA.size);obtain ⟨_,_,_,_,sb,sf,_⟩:=(HS6.out.below hbB).facts))
    all_goals
     dsimp only [normOnly]
     go_wp2_with fail
     go_meet
     case rel=>exact ⟨rfl,(HS6.out.below hbB).tell z⟩
   case rest =>
    obtain ⟨rfl,hS9⟩:=hcut
    generalize wc=w9 at *
    have HS9:=Lib.hid hS9
    clear hS9
    go_wp2_with fail
    refine leaves_cons (f:=31) (args:=#[.pointer (some ⟨g3,0,none⟩),.pointer (some ⟨g2,0,none⟩)]) (by simp) (by simp [go_sem]) ?_
    refine (close18 g3 g2 z 0 .returning _ HS9.out.bad HS9.out.e).mono ?_
    rintro e u' w'' ⟨rfl,rfl,rfl⟩
    obtain ⟨k1,k2⟩:=HS9.out.shut
    refine ⟨.tuple #[.string y,.int .i64 z],?_,by rw [HPE.out],k2⟩
    clear k2
    generalize w9.setCell { block:=g2,off:=0 } (Value.int IntKind.i64 z)=W9 at *
    simp [results,Tryz.results10,go_sem,k1]
  ·have e2:(ez == 0)=false:=by simp [h2]
   have HS5:=Lib.hid (HS4.out.tell ez)
   have HPE:Hid (P=(noB,ez)):=Lib.hid (by rw [← HP.out];unfold pressN;rw [HCZ.out,if_neg (by simp),HEZ.out,if_pos h2])
   go_wp2_with fail
   refine leaves_cons (f:=31) (args:=#[.pointer (some ⟨g3,0,none⟩),.pointer (some ⟨g2,0,none⟩)]) (by simp) (by simp [go_sem]) ?_
   refine (close18 g3 g2 ez 0 .returning _ HS5.out.bad HS5.out.e).mono ?_
   rintro e u' w'' ⟨rfl,rfl,rfl⟩
   obtain ⟨k1,k2⟩:=HS5.out.shut
   refine ⟨.tuple #[.string noB,.int .i64 ez],?_,by rw [HPE.out],k2⟩
   clear k2
   generalize (w4.setCell { block:=g3,off:=0 } (Value.int IntKind.i64 ez)).setCell { block:=g2,off:=0 } (Value.int IntKind.i64 ez)=W9 at *
   simp [results,Tryz.results10,go_sem,k1,noB]
 ·have e1:(cz == 0)=false:=by simp [h1]
  have HS2:=Lib.hid (HS1.out.tell cz)
  have HPE:Hid (P=(noB,cz)):=Lib.hid (by rw [← HP.out];unfold pressN;rw [HCZ.out,if_pos h1])
  go_wp2_with fail
  refine leaves_cons (f:=31) (args:=#[.pointer (some ⟨g3,0,none⟩),.pointer (some ⟨g2,0,none⟩)]) (by simp) (by simp [go_sem]) ?_
  refine (close18 g3 g2 cz 0 .returning _ HS2.out.bad HS2.out.e).mono ?_
  rintro e u' w'' ⟨rfl,rfl,rfl⟩
  obtain ⟨k1,k2⟩:=HS2.out.shut
  refine ⟨.tuple #[.string noB,.int .i64 cz],?_,by rw [HPE.out],k2⟩
  clear k2
  generalize (w1.setCell { block:=g3,off:=0 } (Value.int IntKind.i64 cz)).setCell { block:=g2,off:=0 } (Value.int IntKind.i64 cz)=W9 at *
  simp [results,Tryz.results10,go_sem,k1,noB]
def xT:ByteArray:={ data:=#[120] }
def xL:List It:=[(0,xT)]
def obT:ByteArray:={ data:=#[123,125] }
def lsT:ByteArray:={ data:=#[91,93] }
def arT:ByteArray:={ data:=#[80,77,84,105,108,101,115,3,127,0,0,0,0,0,0,0,5,0,0,0,0,0,0,0,132,0,0,0,0,0,0,0,2,0,0,0,0,0,0,0,134,0,0,0,0,0,0,0,0,0,0,0,0,0,0,0,134,0,0,0,0,0,0,0,1,0,0,0,0,0,0,0,1,0,0,0,0,0,0,0,1,0,0,0,0,0,0,0,1,0,0,0,0,0,0,0,1,1,1,0,0,0,0,46,182,148,73,58,78,205,0,210,73,107,183,197,177,50,0,0,0,0,0,0,0,0,0,1,0,1,1,1,123,125,120] }
theorem x_of:ofI xL=(xL,0):=by rfl
theorem x_ck1:ckP 512 0 obT=0:=by kernel_rfl
theorem x_ck2:ckP 511 0 obT=15:=by kernel_rfl
theorem x_ck3:ckP 512 0 lsT=4:=by kernel_rfl
theorem x_press:pressN xL 512 0 obT=(arT,0):=by kernel_rfl
theorem x_press2:pressN xL 511 0 obT=(noB,15):=by kernel_rfl
set_option maxHeartbeats 4000000 in
theorem headO_any (s:Value) (L:List It) (k:Int) (w:World) (h:ChS w s L) :
  Calls Tryz.prog 14 #[.agg #[s],.int .u8 k] w fun e w'=>e=.returned (.agg (cH (hdP L k)))∧Below w.heap.size w w':=by
 obtain ⟨a5,n5,c5,rfl⟩:=h.form
 obtain ⟨W,hW⟩:∃ W,(w.alloc (.cells #[.slice a5 n5 c5] 29)).alloc (.cells (cH zeroH) 44)=W:=⟨_,rfl⟩
 have h0:One W w.heap.size (.slice a5 n5 c5):=by
  rw [← hW]
  exact (one_new w _ _).alloc _
 have h2:HAt W (w.heap.size+1) 44 zeroH:=by
  have:=HAt.made (w.alloc (.cells #[.slice a5 n5 c5] 29)) zeroH 44
  simp only [World.size_alloc] at this
  rw [← hW]
  exact this
 have hbw:Below w.heap.size w W:=by rw [← hW];exact ((Below.refl _ w).alloc (Nat.le_refl _) _).alloc (by simp) _
 have HRW:=Lib.hid (rows13_any (.slice a5 n5 c5) L W (h.below hbw))
 have HHD:=Lib.hid (fun X (hX:Below W.heap.size W X) v hv=>head18_any (.slice a5 n5 c5) v L k X ((h.below hbw).below hX) hv)
 have H0:=Lib.hid h0
 have H2:=Lib.hid h2
 have HB:=Lib.hid hbw
 have q0:=h0.cell
 have hz:cH zeroH=#[.int .u64 0,.int .u64 0,.int .u64 0,.int .u64 0,.int .u64 0,.int .u64 0,.int .u64 0,.int .u64 0,.int .u64 0,.int .u64 0,.int .u64 0,.bool false,.int .u8 0,.int .u8 0,.int .u8 0,.int .i64 0,.int .i64 0,.int .i64 0,.int .i64 0,.int .i64 0,.int .i64 0,.int .i64 0,.int .i64 0,.int .i64 0]:=rfl
 rw [hz] at hW
 generalize hdP L k=X at *
 clear h h0 h2 hbw hz
 go_enter Tryz.func14,Tryz.ntmps14
 go_wp2_with fail
 try rw [hW]
 clear hW
 refine HRW.out.mono ?_
 rintro e w1 ⟨v,rfl,hv,hb1⟩
 have HB1:=Lib.hid hb1
 have HV:=Lib.hid hv
 have q1:=(H0.out.below hb1).cell
 clear hb1 hv q0 HRW
 go_wp2_with fail
 refine (HHD.out _ HB1.out _ HV.out).mono ?_
 rintro e w2 ⟨rfl,hb2⟩
 have HB2:=Lib.hid (HB1.out.trans (hb2.mono HB1.out.size))
 have HH:=Lib.hid (H2.out.later HB2.out)
 have HBX:=Lib.hid (HB.out.trans (HB2.out.mono HB.out.size))
 clear hb2 q1 HB1 HHD
 go_wp2_with (first|(refine wpList_store_row rfl 44 _ _ rfl (w.heap.size+1) (cH X) rfl rfl 44 (cH zeroH) HH.out head_size rfl (cH_one X) ?_)|fail)
 have hp:=put24 w2 (w.heap.size+1) _ zeroH X HH.out
 refine bodyPost_ret (results_cell_row rfl _ _ (w.heap.size+1) 44 (cH X) (0,0) _ rfl hp.1 Tryz.underlying44 rfl head_size) rfl ⟨rfl,hp.2.2.1 _ _ (by omega) HBX.out⟩
theorem its_one (w:World) (x:Nat) (s:ByteArray) (T:TypeId):ItsAt (w.alloc (.cells #[.int .u64 x,.string s] T)) (.slice (some ⟨w.heap.size,0,none⟩) 1 1) [(x,s)]:=by
 refine ⟨_,1,rfl,Nat.le_refl _,by unfold maxLen;omega,fun k u hu=>⟨w.heap.size,0,rfl,by simp,?_⟩⟩
 match k,hu with
 | 0,hu=>simp only [List.getElem?_cons_zero,Option.some.injEq] at hu;subst hu;exact ⟨by simp [go_sem],by simp [go_sem]⟩
 | k+1,hu=>simp at hu
theorem x_head:cH (hdP xL 2)=#[.int .u64 0,.int .u64 0,.int .u64 0,.int .u64 0,.int .u64 0,.int .u64 0,.int .u64 0,.int .u64 0,.int .u64 1,.int .u64 1,.int .u64 1,.bool true,.int .u8 1,.int .u8 1,.int .u8 2,.int .i64 0,.int .i64 0,.int .i64 (-1800000000),.int .i64 (-850511287),.int .i64 1800000000,.int .i64 850511287,.int .i64 0,.int .i64 0,.int .i64 0]:=by kernel_rfl
theorem fld_ad (h:Hd) (W:World):Sem.run Tryz.prog (Instr.field 44 (.agg (cH h)) 4) W=.ok (.int .u64 h.ad) W:=by
 obtain ⟨i,hi⟩:∃ i,Tryz.prog.info? 40=some i:=⟨_,rfl⟩
 have hsz:∀ w,(sizeOf 40).run Tryz.prog w=.ok 1 w:=fun w=>by rw [run_sizeOf w hi];congr 1
 unfold cH
 simp [Instr.field,run_underlying Tryz.underlying44,run_underlying Tryz.underlying40,asIntOf,asAgg,part,hsz,isAgg,go_sem]
theorem aw_of (v:Value) (w:World) (hv:ItsAt w v xL):Calls Tryz.prog 28 #[v] w fun e w'=>∃ s',e=.returned (.tuple #[.agg #[s'],.int .i64 0])∧ChS w' s' xL∧Below w.heap.size w w':=by
 refine (of_anyC v _ w hv (by decide) (fun t ht=>?_) (fun t ht=>?_)).mono ?_
 ·simp [xL] at ht;subst ht;decide
 ·simp [xL] at ht;unfold maxLen;subst ht;decide
 rintro e w' ⟨s',rfl,h,hb⟩
 rw [x_of] at h
 exact ⟨s',by rw [x_of];rfl,h,hb⟩
theorem aw_press (s:Value) (w:World) (hq:QTab w) (h:ChS w s xL):Calls Tryz.prog 10 #[.agg #[s],.agg #[.int .i64 512,.int .u8 0,.string { data:=#[123,125] }]] w fun e w'=>e=.returned (.tuple #[.string arT,.int .i64 0])∧Below w.heap.size w w':=by
 have:=press18_any s xL 512 0 obT w hq h (by decide) (by unfold U8;omega) (by omega) (by decide)
 rw [x_press] at this
 exact this
theorem aw_press2 (s:Value) (w:World) (hq:QTab w) (h:ChS w s xL):Calls Tryz.prog 10 #[.agg #[s],.agg #[.int .i64 511,.int .u8 0,.string { data:=#[123,125] }]] w fun e w'=>e=.returned (.tuple #[.string noB,.int .i64 15])∧Below w.heap.size w w':=by
 have:=press18_any s xL 511 0 obT w hq h (by decide) (by unfold U8;omega) (by omega) (by decide)
 rw [x_press2] at this
 exact this
theorem aw_check (w:World) (hq:QTab w):Calls Tryz.prog 12 #[.agg #[.int .i64 512,.int .u8 0,.string { data:=#[91,93] }]] w fun e w'=>e=.returned (.int .i64 4)∧Below w.heap.size w w':=by
 have:=check18_any 512 0 lsT w hq (by decide)
 rw [x_ck3] at this
 exact this
theorem aw_slice:arT.extract 127 135={ data:=#[1,0,1,1,1,123,125,120] }:=by kernel_rfl
theorem aw_size:arT.size=135:=by kernel_rfl
set_option maxHeartbeats 4000000 in
theorem awake18_any (w:World) (hq:QTab w):Calls Tryz.prog 8 #[] w fun e w'=>e=.returned (.bool true)∧Below w.heap.size w w':=by
 have HQ:=Lib.hid hq
 have HI:=Lib.hid (its_one w 0 xT 69)
 have HB0:=Lib.hid (below_oneC w (.cells #[.int .u64 0,.string xT] 69))
 unfold xT at HI HB0
 clear hq
 go_enter Tryz.func8,Tryz.ntmps8
 go_wp2_with fail
 refine (aw_of _ _ HI.out).mono ?_
 rintro e w1 ⟨s1,rfl,hc1,hb1⟩
 obtain ⟨a1,n1,p1,rfl⟩:=hc1.form
 have HB1:=Lib.hid (HB0.out.trans (hb1.mono HB0.out.size))
 have HC1:=Lib.hid hc1
 clear hb1 hc1 HI HB0
 have h1:=below_oneC w1 (.cells #[.slice a1 n1 p1] 29)
 have HC2:=Lib.hid (And.intro (one_new w1 (.slice a1 n1 p1) 29) (And.intro (HC1.out.below h1) (HB1.out.trans (h1.mono HB1.out.size))))
 clear h1 HB1 HC1
 go_wp2_with fail
 generalize w1.alloc (.cells #[.slice a1 n1 p1] 29)=W1 at *
 generalize w1.heap.size=gc at *
 refine (aw_press _ _ (HQ.out.below HC2.out.2.2) HC2.out.2.1).mono ?_
 rintro e w2 ⟨rfl,hb2⟩
 have HC3:=Lib.hid (And.intro (HC2.out.1.below hb2) (And.intro (HC2.out.2.1.below hb2) (HC2.out.2.2.trans (hb2.mono HC2.out.2.2.size))))
 have q3:=HC3.out.1.cell
 clear hb2 HC2
 go_wp2_with fail
 refine (aw_press2 _ _ (HQ.out.below HC3.out.2.2) HC3.out.2.1).mono ?_
 rintro e w3 ⟨rfl,hb3⟩
 have HC4:=Lib.hid (And.intro (HC3.out.1.below hb3) (And.intro (HC3.out.2.1.below hb3) (HC3.out.2.2.trans (hb3.mono HC3.out.2.2.size))))
 have q4:=HC4.out.1.cell
 have hsz:=aw_size
 have hsl:=aw_slice
 clear hb3 HC3 q3
 generalize arT=B at *
 go_wp2_with fail
 refine (aw_check _ (HQ.out.below HC4.out.2.2)).mono ?_
 rintro e w4 ⟨rfl,hb4⟩
 have HC5:=Lib.hid (And.intro (HC4.out.1.below hb4) (And.intro (HC4.out.2.1.below hb4) (HC4.out.2.2.trans (hb4.mono HC4.out.2.2.size))))
 have q5:=HC5.out.1.cell
 clear hb4 HC4 q4
 have HHD:=Lib.hid (headO_any _ xL 2 w4 HC5.out.2.1)
 rw [x_head] at HHD
 have hfd:=fld_ad (hdP xL 2)
 rw [x_head,show (hdP xL 2).ad=1 by kernel_rfl] at hfd
 go_wp2_with fail
 refine HHD.out.mono ?_
 rintro e w5 ⟨rfl,hb5⟩
 have HB5:=Lib.hid (HC5.out.2.2.trans (hb5.mono HC5.out.2.2.size))
 clear hb5 HHD HC5 q5
 go_wp2_with fail
 go_ret
 exact ⟨rfl,HB5.out⟩
def oneT:ByteArray:={ data:=#[123,34,97,34,58,49,125] }
theorem one_ck:ckP 600 1 oneT=0:=by kernel_rfl
theorem press_size {L:List It} {b k:Int} {s:ByteArray} (hg:GoodC L) (hl:L.length≤150) (hk:U8 k) (hs:s.size≤1000000) (hc:ckP b k s=0):∃ y,pressN L b k s=(y,0)∧127≤y.size:=by
 obtain ⟨h1,h2,h3⟩:=press_ok hg hl hk hs hc
 have hb:b≤16257:=(split_ok h1).2.1
 have h4:=glue_size (may_hd hg hk) (few_pt hg hl hs h1 hb) h2
 rw [h3]
 generalize glueN (hdP L k) (ptP L b s)=G at *
 obtain ⟨y,z⟩:=G
 simp only at h2 h4
 subst h2
 exact ⟨y,rfl,by omega⟩
theorem del_put (xi:Nat) (xt:ByteArray) {L:List It} (hr:Rise L):delI xi (putI xi xt L)=delI xi L:=by
 refine rise_ext (del_rise (put_rise xi xt hr)) (del_rise hr) (fun t=>?_)
 rw [mem_del,mem_del,mem_put]
 constructor
 ·rintro ⟨rfl|h,hn⟩
  ·exact absurd rfl hn
  ·exact h
 ·rintro ⟨h,hn⟩
  exact ⟨.inr ⟨h,hn⟩,hn⟩
theorem own_len:∀ (l acc:List It),(ownR acc l).length≤acc.length+l.length
 | [],acc=>by rw [ownR];simp
 | t :: l,acc=>by
  rw [ownR]
  have h1:=own_len l (putL acc t.1 t.2)
  have h2:(putL acc t.1 t.2).length≤acc.length+1:=by
   unfold putL
   split
   ·rw [put_len];have:=delI_len t.1 acc;omega
   ·omega
  rw [List.length_cons]
  omega
theorem nempty_no {s:ByteArray} (h:0<s.size):s.toList.isEmpty=false:=by
 rw [ByteArray.toList_eq,List.isEmpty_eq_false_iff]
 intro e
 have:s.data.size=0:=by rw [← Array.length_toList,e];rfl
 have:s.size=0:=this
 omega
theorem over_few {l:List It} {m M:Int} (h:overI l m M=false):bytesI l≤M∧(l.length:Int)≤m:=by
 unfold overI at h
 rw [Bool.or_eq_false_iff,decide_eq_false_iff_not,decide_eq_false_iff_not] at h
 omega
end Go.Proofs.YtdnmgpcfgcidbaaGreatDoor
namespace Go.Proofs.YtdnmgpcfgcidbaaGreatDoor
set_option linter.unusedVariables false
set_option linter.unusedSimpArgs false
open Go.RowKit
set_option maxRecDepth 20000
theorem totF_perm {a b:List ByteArray} (h:a.Perm b):totF a=totF b:=by
 induction h with
 | nil=>rfl
 | cons x _ ih=>simp only [totF,ih]
 | swap x y l=>simp only [totF];omega
 | trans _ _ h1 h2=>exact h1.trans h2
theorem texts_perm {L M:List It} (hg:GoodC L) (hm:GoodC M) (h:∀ s:ByteArray,(∃ t ∈ L,t.2=s)↔(∃ t ∈ M,t.2=s)):(rowsS L).2.Perm (rowsS M).2:=by
 refine (List.perm_ext_iff_of_nodup (rinv_all hg).good.once (rinv_all hm).good.once).2 (fun s=>?_)
 rw [(rinv_all hg).mem,(rinv_all hm).mem]
 exact h s
theorem put_same {L:List It} {id:Nat} {s:ByteArray} (hg:GoodC L) (hm:GoodC (putI id s L)) (hn:(getI id L).isSome=false) (hs:∃ t ∈ L,t.2=s) :
  totF (rowsS (putI id s L)).2=totF (rowsS L).2∧(rowsS (putI id s L)).2.length=(rowsS L).2.length∧(putI id s L).length=L.length+1:=by
 have hp:=texts_perm hg hm (fun u=>by
  constructor
  ·rintro ⟨t,ht,e⟩
   have:t ∈ delI id L:=by rw [del_no hn];exact ht
   exact ⟨t,(mem_put id s L t).2 (.inr ((mem_del id L t).1 this)),e⟩
  ·rintro ⟨t,ht,e⟩
   rcases (mem_put id s L t).1 ht with rfl|⟨h1,_⟩
   ·obtain ⟨t',h1,h2⟩:=hs;exact ⟨t',h1,h2.trans e⟩
   ·exact ⟨t,h1,e⟩)
 exact ⟨(totF_perm hp).symm,hp.length_eq.symm,by rw [put_len,del_no hn]⟩
theorem own_bytes:∀ (l acc:List It),bytesI (ownR acc l)≤bytesI acc+bytesI l
 | [],acc=>by rw [ownR];simp [bytesI]
 | t :: l,acc=>by
  rw [ownR]
  have h1:=own_bytes l (putL acc t.1 t.2)
  have h2:bytesI (putL acc t.1 t.2)≤bytesI acc+t.2.size:=by
   unfold putL
   split
   ·rw [put_bytes];have:=delI_bytes t.1 acc;omega
   ·omega
  rw [bytesI]
  omega
theorem once_ck:ckP 512 0 obT=0:=x_ck1
theorem app_none (x:ByteArray):x++ByteArray.empty=x:=ByteArray.append_empty
theorem press_cut {L:List It} {b k:Int} {s:ByteArray} (hg:GoodC L) (hl:L.length≤150) (hk:U8 k) (hs:s.size≤1000000) (hc:ckP b k s=0) :
  ∃ y,pressN L b k s=(y,0)∧cutNCc y=⟨hdOf (hdP L k) (ptP L b s),ptP L b s,0⟩∧y.size=127+sumP (ptP L b s)∧Few (ptP L b s) 200000000:=by
 obtain ⟨h1,h2,h3⟩:=press_ok hg hl hk hs hc
 have hb:b≤16257:=(split_ok h1).2.1
 have hf:=few_pt (s:=s) hg hl hs h1 hb
 have h4:=glue_size (may_hd hg hk) hf h2
 have h5:=cut_glue (may_hd hg hk) hf h2 ByteArray.empty
 rw [app_none] at h5
 rw [h3]
 generalize hG:glueN (hdP L k) (ptP L b s)=G at *
 obtain ⟨y,z⟩:=G
 simp only at h2 h4 h5
 subst h2
 exact ⟨y,rfl,h5,h4,hf⟩
theorem once_cut {L:List It} (hg:GoodC L) (hl:L.length≤150) (ht:totF (rowsS L).2≤100000):∃ y X p,pressN L 512 0 obT=(y,0)∧y.size≤1000000∧cutNCc y=⟨X,p,0⟩∧X.dl=(totF (rowsS L).2:Nat)∧X.co=((rowsS L).2.length:Nat)∧X.ad=(L.length:Nat):=by
 obtain ⟨y,h1,h2,h3,h4⟩:=press_cut hg hl (show U8 0 by unfold U8;omega) (show obT.size≤1000000 by decide) once_ck
 have hd:=(hd_secs (h:=hdP L 0) h4).2.2.2.2.2.2.2
 refine ⟨y,_,_,h1,?_,h2,?_,?_,rfl⟩
 ·obtain ⟨h5,_,_⟩:=press_ok hg hl (show U8 0 by unfold U8;omega) (show obT.size≤1000000 by decide) once_ck
  have hrl:=rows_len hg
  have S:=spl_of (rows_may hg) (by omega) h5
  have h6:=S.fit
  have h7:=S.text
  obtain ⟨e1,e2⟩:=enc_ok S.row (by omega)
  have h8:(ptP L 512 obT).p0.size≤512:=by
   show (encT (splitN (rowsS L).1 512).root).size≤_
   rw [e2,str_size];omega
  have h9:(ptP L 512 obT).p1.size=2:=by rfl
  have h10:(ptP L 512 obT).p2.size≤50*L.length:=by show (splitN (rowsS L).1 512).text.size≤_;omega
  have h11:(ptP L 512 obT).p3.size=totF (rowsS L).2:=catF_size _
  rw [h3];unfold sumP;omega
 ·rw [hd];show (((catF (rowsS L).2).size:Nat):Int)=_;rw [catF_size]
 ·show ((conN (rowsS L).1:Nat):Int)=_
  rw [con_whole hg]
theorem press_bad {L:List It} {b k:Int} {s:ByteArray} (hg:GoodC L) (hl:L.length≤150) (hk:U8 k) (hs:s.size≤1000000) (h:(pressN L b k s).2≠0):ckP b k s≠0∧pressN L b k s=(noB,ckP b k s):=by
 by_cases hc:ckP b k s=0
 ·obtain ⟨_,h2,h3⟩:=press_ok hg hl hk hs hc
  rw [h3] at h
  exact absurd h2 h
 ·exact ⟨hc,by unfold pressN;rw [if_pos hc]⟩
theorem press_good {L:List It} {b k:Int} {s:ByteArray} (h:(pressN L b k s).2=0):ckP b k s=0:=by
 refine Classical.byContradiction (fun hc=>?_)
 unfold pressN at h
 rw [if_pos hc] at h
 exact hc h
structure WholeP (L:List It) (b k:Int) (s y:ByteArray) (X:Hd) (p:Pt):Prop where
 cut:cutNCc y=⟨X,p,0⟩
 sz:y.size≤1000000
 dec:∃ n,decD p.p0.data.toList=((splitN (rowsS L).1 b).root,n,0)
 p0:(p.p0.size:Int)≤b
 p0m:p.p0.size≤16257
 may:MaysN (splitN (rowsS L).1 b).root
 few:(splitN (rowsS L).1 b).root.length≤150
 join:joinN (splitN (rowsS L).1 b).root p.p2=((rowsS L).1,0)
 p2:p.p2.size≤1000000
 back:backN (rowsS L).1 p.p3=(L,0)
 p3:p.p3.size≤200000000
 p1:p.p1=s
 hm:MayH X
 laid:laidB X (y.size:Nat)=0
 ad:X.ad=(L.length:Nat)
 en:X.en=((rowsS L).1.length:Nat)
 fin:X.df+X.dl=(y.size:Nat)
 df:0≤X.df∧0≤X.dl
 rf:X.rf=127
 rl:X.rl=(p.p0.size:Nat)
 inn:X.inn=1
 out:X.out=1
 cl:X.cl=true
theorem whole_of {L:List It} {b k:Int} {s:ByteArray} (hg:GoodC L) (hl:L.length≤150) (hk:U8 k) (hs:s.size≤1000) (ht:totF (rowsS L).2≤100000) (hc:ckP b k s=0):∃ y X p,pressN L b k s=(y,0)∧WholeP L b k s y X p:=by
 obtain ⟨y,h1,h2,h3,h4⟩:=press_cut hg hl hk (show s.size≤1000000 by omega) hc
 obtain ⟨h5,h6,h7⟩:=press_ok hg hl hk (show s.size≤1000000 by omega) hc
 have hb:=(split_ok h5).2.1
 have hrl:=rows_len hg
 have S:=spl_of (rows_may hg) (by omega) h5
 have s1:=S.fit
 have s2:=S.text
 have s3:=S.len
 obtain ⟨e1,e2⟩:=enc_ok S.row (by omega)
 have e0:(ptP L b s).p0=str (textI (splitN (rowsS L).1 b).root):=e2
 have z0:(ptP L b s).p0.size=(textI (splitN (rowsS L).1 b).root).length:=by rw [e0,str_size]
 have z2:(ptP L b s).p2.size≤50*L.length:=by show (splitN (rowsS L).1 b).text.size≤_;omega
 have z3:(ptP L b s).p3.size=totF (rowsS L).2:=catF_size _
 have z1:(ptP L b s).p1.size=s.size:=rfl
 have hd:=hd_secs (h:=hdP L k) h4
 have hm:=may_hd hg hk
 have hy:(glueN (hdP L k) (ptP L b s)).1=y:=by rw [← h7,h1]
 refine ⟨y,hdOf (hdP L k) (ptP L b s),ptP L b s,h1,⟨h2,?_,?_,by omega,by omega,S.may,by omega,?_,by omega,(back_whole hg).1,by omega,rfl,hd_may hm h4,?_,rfl,rfl,?_,?_,hd.1,hd.2.1,rfl,rfl,rfl⟩⟩
 ·rw [h3];unfold sumP;omega
 ·rw [e0,str_bytes]
  exact ⟨_,decD_text _ S.may S.row (by rw [← textI_len];omega)⟩
 ·exact join_split (rows_may hg) (by omega) h5
 ·have:=laid_glue hm h4 h6
  rw [hy] at this;exact this
 ·have:=end_glue hm h4 h6
  rw [hy] at this;exact this
 ·omega
end Go.Proofs.YtdnmgpcfgcidbaaGreatDoor
