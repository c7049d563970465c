/- bUf bNf. -/
import Derived.Test.YtdnmgpcfgcidbaaGreatDoorTb4
namespace Go.Proofs.YtdnmgpcfgcidbaaGreatDoor
set_option linter.unusedVariables false
set_option linter.unusedSimpArgs false
open Go.RowKit
set_option maxRecDepth 20000
theorem results_tmp4 {fn:Func} {t u v x:Tmp} (h:fn.results=#[.tmp t,.tmp u,.tmp v,.tmp x]) (tmps:Array Value) (P:Program) (w:World) :
  (results fn tmps).run P w=.ok (.tuple #[tmps.getD t undef,tmps.getD u undef,tmps.getD v undef,tmps.getD x undef]) w:=by
 simp[results,h]
def SplEnd (l:List En) (budget:Int) (w:World) (e:Ending) (w':World):Prop:=∃ v',e=.returned (.tuple #[v',.string (splitN l budget).text,.int .i64 (splitN l budget).size,.int .i64 (splitN l budget).err])∧EnsAt w' v' (splitN l budget).root∧Below w.heap.size w w'
theorem goS_step (l:List En) (budget:Int) (f n:Nat):goS l budget (f+1) n=if fitN budget (cutN n l) then some n else goS l budget f (2*n):=rfl
theorem fit_few {l:List En} (n:Nat) (hn:1≤n) (hl:l.length≤150) (budget:Int):fitN budget (cutN n l)=decide (sizD (rootsN 0 (cutN n l))≤budget):=by
 unfold fitN
 rw[decide_eq_true,Bool.true_and]
 intro p hp
 have h1:=(textI_bd p).2
 have h2:p.length≤l.length:=by
  obtain⟨P1,P2,he⟩:=List.append_of_mem hp
  rw[← cut_flat n hn l,he]
  simp
  omega
 omega
theorem split_arg {l:List En} {b:Int} (h:b<1∨16257<b):splitN l b=⟨[],noB,0,2⟩:=by unfold splitN;rw[if_pos h]
theorem split_row {l:List En} {b:Int} (h:¬ (b<1∨16257<b)) (h1:rowN l≠0):splitN l b=⟨[],noB,0,rowN l⟩:=by unfold splitN;rw[if_neg h,if_pos h1]
theorem split_kind {l:List En} {b:Int} (h:¬ (b<1∨16257<b)) (h1:rowN l=0) (h2:leavesN l≠[]):splitN l b=⟨[],noB,0,14⟩:=by unfold splitN;rw[if_neg h,if_neg (by simpa using h1),if_pos h2]
theorem split_same {l:List En} {b:Int} (h:¬ (b<1∨16257<b)) (h1:rowN l=0) (h2:leavesN l=[]) (h3:sizD l≤b):splitN l b=⟨l,noB,0,0⟩:=by unfold splitN;rw[if_neg h,if_neg (by simpa using h1),if_neg (by simpa using h2),if_pos h3]
theorem split_some {l:List En} {b:Int} {n:Nat} (h:¬ (b<1∨16257<b)) (h1:rowN l=0) (h2:leavesN l=[]) (h3:¬ sizD l≤b) (h4:goS l b 13 1=some n):splitN l b=⟨rootsN 0 (cutN n l),str (textsI (cutN n l)),n,0⟩:=by unfold splitN;rw[if_neg h,if_neg (by simpa using h1),if_neg (by simpa using h2),if_neg h3,h4]
theorem split_none {l:List En} {b:Int} (h:¬ (b<1∨16257<b)) (h1:rowN l=0) (h2:leavesN l=[]) (h3:¬ sizD l≤b) (h4:goS l b 13 1=none):splitN l b=⟨[],noB,0,15⟩:=by unfold splitN;rw[if_neg h,if_neg (by simpa using h1),if_neg (by simpa using h2),if_neg h3,h4]
theorem leaves_len {l:List En}:leavesN l≠[]↔0<(leavesN l).length:=by rw[List.length_pos_iff]
theorem pow_tab:∀ j,j<14→(2 ^ (13 - j)≤4096↔1≤j)∧1≤2 ^ (13 - j)∧2 ^ (13 - j)≤8192:=by decide
theorem pow_next:∀ j,j<13→2*2 ^ (13 - (j+1))=2 ^ (13 - j):=by decide
set_option maxHeartbeats 4000000 in
theorem rsplit_any (v:Value) (l:List En) (b:Int) (w:World) (hv:EnsAt w v l) (hm:MaysN l) (hl:l.length≤150) (hb:-9223372036854775808≤b∧b≤9223372036854775807) :
  Calls Tryz.prog 38 #[v,.int .i64 b] w (SplEnd l b w):=by
 unfold SplEnd
 by_cases h1:b<1∨16257<b
 ·rw[split_arg h1]
  by_cases h2:b<1
  ·clear h1
   go_enter Tryz.func38,Tryz.ntmps38
   go_wp2_with fail
   refine bodyPost_ret (results_tmp4 rfl _ _ _) rfl ⟨_,rfl,ens_nil _,Below.refl _ _⟩
  ·have h3:16257<b:=by omega
   clear h1
   go_enter Tryz.func38,Tryz.ntmps38
   go_wp2_with fail
   refine bodyPost_ret (results_tmp4 rfl _ _ _) rfl ⟨_,rfl,ens_nil _,Below.refl _ _⟩
 have c1:¬ b<1:=by omega
 have c2:¬ 16257<b:=by omega
 have HRO:=Lib.hid (rrowN_any v l w hv hm)
 by_cases h2:rowN l=0
 ·rw[h2] at HRO
  have HLV:=Lib.hid (fun X (hX:Below w.heap.size w X)=>rleaves_any v l X (hv.below hX) (by omega))
  unfold EnsEnd at HLV
  by_cases h3:leavesN l=[]
  ·have HSZ:=Lib.hid (fun X (hX:Below w.heap.size w X)=>rsizD_any v l X (hv.below hX) hm (by omega))
   rw[h3] at HLV
   by_cases h4:sizD l≤b
   ·rw[split_same h1 h2 h3 h4]
    have HV:=Lib.hid hv
    obtain⟨av,cv,rfl⟩:=ensAt_form hv
    clear hv h2 h3
    go_enter Tryz.func38,Tryz.ntmps38
    go_wp2_with fail
    refine HRO.out.mono ?_
    rintro e w1 ⟨rfl,hb1⟩
    have HB1:=Lib.hid hb1
    clear hb1
    go_wp2_with fail
    refine(HLV.out _ HB1.out).mono ?_
    rintro e w2 ⟨v2,rfl,he2,hb2⟩
    have HB2:=Lib.hid (HB1.out.trans (hb2.mono HB1.out.size))
    obtain⟨a2,c2',rfl⟩:=ensAt_form he2.ensAt
    rw[List.length_nil]
    clear hb2 he2
    go_wp2_with fail
    refine(HSZ.out _ HB2.out).mono ?_
    rintro e w3 ⟨rfl,hb3⟩
    have HB3:=Lib.hid (HB2.out.trans (hb3.mono HB2.out.size))
    clear hb3
    go_wp2_with fail
    refine bodyPost_ret (results_tmp4 rfl _ _ _) rfl ⟨_,rfl,HV.out.below HB3.out,HB3.out⟩
   ·have HTR:=Lib.hid (fun N X (hN:1≤N∧N≤100000) (hX:Below w.heap.size w X)=>rtry_any v l b N X (hv.below hX) hm h2 h3 hl hN hb)
    have HS:=Lib.hid (fun n h=>split_some (l:=l) (b:=b) (n:=n) h1 h2 h3 h4 h)
    have HNO:=Lib.hid (fun h=>split_none (l:=l) (b:=b) h1 h2 h3 h4 h)
    obtain⟨av,cv,rfl⟩:=ensAt_form hv
    obtain⟨R,hR⟩:∃ R,splitN l b=R:=⟨_,rfl⟩
    rw[hR] at HS HNO ⊢
    have HGO:=Lib.hid (fun(n:Nat) (hn:1≤n)=>fit_few (l:=l) n hn hl b)
    clear hv h2 h3 hR
    go_enter Tryz.func38,Tryz.ntmps38
    go_wp2_with fail
    refine HRO.out.mono ?_
    rintro e w1 ⟨rfl,hb1⟩
    have HB1:=Lib.hid hb1
    clear hb1
    go_wp2_with fail
    refine(HLV.out _ HB1.out).mono ?_
    rintro e w2 ⟨v2,rfl,he2,hb2⟩
    have HB2:=Lib.hid (HB1.out.trans (hb2.mono HB1.out.size))
    obtain⟨a2,c2',rfl⟩:=ensAt_form he2.ensAt
    rw[List.length_nil]
    clear hb2 he2
    go_wp2_with fail
    refine(HSZ.out _ HB2.out).mono ?_
    rintro e w3 ⟨rfl,hb3⟩
    have HB3:=Lib.hid (HB2.out.trans (hb3.mono HB2.out.size))
    clear hb3
    go_wp2_with fail
    go_loopw [9] (fun i wr=>∃ (j N:Nat),i=.int .i64 (N:Int)∧j≤13∧Hid (N=2 ^ (13 - j))∧Hid (goS l b 13 1=goS l b j N)∧Hid (Below w.heap.size w wr)) (fun i _=>8192 - (intOf i).toNat)
    case atStart=>exact⟨13,1,rfl,by omega,Lib.hid (by decide),Lib.hid rfl,HB3⟩
    case round =>
     obtain⟨j,N,rfl,hj,HN,HGS,HBW⟩:=hrel
     obtain⟨t1,t2,t3⟩:=pow_tab j (by omega)
     rw[← HN.out] at t1 t2 t3
     cases j with
     | zero =>
      have hi1:¬ (N:Int)≤4096:=by omega
      have HF:=Lib.hid (HNO.out (HGS.out.trans rfl))
      clear HN HGS t1
      go_wp2_with fail
      refine bodyPost_ret (results_tmp4 rfl _ _ _) rfl ⟨_,by rw[HF.out];rfl,by rw[HF.out];exact ens_nil _,HBW.out⟩
     | succ j =>
      have hi1:(N:Int)≤4096:=by omega
      have HG2:=HGS.out
      rw[goS_step l b j N,HGO.out N (by omega)] at HG2
      have HCALL:=Lib.hid (HTR.out N wr ⟨by omega,by omega⟩ HBW.out)
      have hnx:=pow_next j (by omega)
      by_cases hfit:sizD (rootsN 0 (cutN N l))≤b
      ·rw[if_pos (decide_eq_true hfit)] at HG2
       have HF:=Lib.hid (HS.out N HG2)
       rw[decide_eq_true hfit] at HCALL
       clear hfit HG2 HN HGS t1 hnx
       go_wp2_with fail
       refine HCALL.out.mono ?_
       rintro e w4 ⟨v4,rfl,he4,hb4⟩
       have HE4:=Lib.hid he4
       have HB4:=Lib.hid (HBW.out.trans (hb4.mono HBW.out.size))
       obtain⟨a4,c4,rfl⟩:=ensAt_form he4
       clear hb4 he4
       go_wp2_with fail
       refine bodyPost_ret (results_tmp4 rfl _ _ _) rfl ⟨_,by rw[HF.out];rfl,by rw[HF.out];exact HE4.out,HB4.out⟩
      ·rw[if_neg (by rw[decide_eq_false hfit];simp)] at HG2
       rw[decide_eq_false hfit] at HCALL
       have HG3:=Lib.hid HG2
       have HN2:Hid (2*N=2 ^ (13 - j)):=Lib.hid (by rw[HN.out];exact hnx)
       have hw:IntKind.i64.wrap (2*(N:Int))=((2*N:Nat):Int):=by rw[IntKind.wrap_i64] <;> omega
       clear hfit HG2 HN HGS t1 hnx
       go_wp2_with fail
       refine HCALL.out.mono ?_
       rintro e w4 ⟨v4,rfl,he4,hb4⟩
       have HB4:=Lib.hid (HBW.out.trans (hb4.mono HBW.out.size))
       obtain⟨a4,c4,rfl⟩:=ensAt_form he4
       clear hb4 he4
       go_wp2_with fail
       go_roundw
       case rel=>exact⟨j,2*N,by first|rfl|(push_cast;rfl),by omega,HN2,HG3,HB4⟩
       case measure=>simp[intOf];omega
  ·rw[split_kind h1 h2 h3]
   have hlp:(0:Int)<((leavesN l).length:Int):=by have:=leaves_len.1 h3;omega
   clear h3
   go_enter Tryz.func38,Tryz.ntmps38
   go_wp2_with fail
   refine HRO.out.mono ?_
   rintro e w1 ⟨rfl,hb1⟩
   have HB1:=Lib.hid hb1
   clear hb1
   go_wp2_with fail
   refine(HLV.out _ HB1.out).mono ?_
   rintro e w2 ⟨v2,rfl,he2,hb2⟩
   have HB2:=Lib.hid (HB1.out.trans (hb2.mono HB1.out.size))
   obtain⟨a2,c2',rfl⟩:=ensAt_form he2.ensAt
   clear hb2 he2
   go_wp2_with fail
   refine bodyPost_ret (results_tmp4 rfl _ _ _) rfl ⟨_,rfl,ens_nil _,HB2.out⟩
 ·rw[split_row h1 h2]
  have hq:(rowN l != 0)=true:=by simpa using h2
  generalize rowN l=q at *
  clear h2
  go_enter Tryz.func38,Tryz.ntmps38
  go_wp2_with fail
  refine HRO.out.mono ?_
  rintro e w1 ⟨rfl,hb1⟩
  have HB1:=Lib.hid hb1
  clear hb1
  go_wp2_with fail
  refine bodyPost_ret (results_tmp4 rfl _ _ _) rfl ⟨_,rfl,ens_nil _,HB1.out⟩
theorem pinfoRf:(Tryz.prog.info? 124).map (fun i=>(i.zero,i.size,i.bytes))=some (some (.agg #[.int .u64 0,.int .u64 0,.int .u32 0,.int .u32 0]),4,24):=by kernel_rfl
theorem chk_bad {l:List En} {b:Int} (h:chkS l b≠0):splitN l b=⟨[],noB,0,chkS l b⟩:=by
 unfold chkS at h ⊢
 unfold splitN
 by_cases h1:b<1∨16257<b
 ·rw[if_pos h1,if_pos h1]
 rw[if_neg h1] at h ⊢
 rw[if_neg h1]
 by_cases h2:rowN l≠0
 ·rw[if_pos h2,if_pos h2]
 rw[if_neg h2] at h ⊢
 rw[if_neg h2]
 by_cases h3:leavesN l≠[]
 ·rw[if_pos h3,if_pos h3]
 rw[if_neg h3] at h
 exact absurd rfl h
theorem chk_okBb {l:List En} {b:Int} (h:chkS l b=0):¬ (b<1∨16257<b)∧rowN l=0∧leavesN l=[]:=by
 unfold chkS at h
 by_cases h1:b<1∨16257<b
 ·rw[if_pos h1] at h;cases h
 rw[if_neg h1] at h
 by_cases h2:rowN l≠0
 ·rw[if_pos h2] at h;exact absurd h h2
 rw[if_neg h2] at h
 by_cases h3:leavesN l≠[]
 ·rw[if_pos h3] at h;cases h
 exact⟨h1,Classical.not_not.1 h2,Classical.not_not.1 h3⟩
def bI (s:ByteArray):List Int:=s.data.toList.map (fun c=>(c.toNat:Int))
theorem bI_cells (s:ByteArray):Lib.strCells s=(bI s).map (Value.int .u8):=by unfold Lib.strCells bI;rw[List.map_map];rfl
theorem bI_append (a b:ByteArray):bI (a++b)=bI a++bI b:=by unfold bI;rw[ByteArray.data_append,Array.toList_append,List.map_append]
theorem bI_len (s:ByteArray):(bI s).length=s.size:=by unfold bI;rw[List.length_map,Array.length_toList];rfl
theorem str_bI (s:ByteArray):str (bI s)=s:=by
 apply ByteArray.ext
 apply Array.ext'
 rw[str_list]
 unfold bI
 rw[List.map_map]
 conv=>rhs;rw[← List.map_id s.data.toList]
 refine List.map_congr_left (fun c _=>?_)
 simp
theorem bsappend_run (W:World) (B:Nat) (ty:TypeId) (v:Value) (s t:ByteArray) (hown:Own W B v (bI s)) (hl:s.size+t.size≤1000000000) (hB:B≤W.heap.size) :
  ∃ v' w',(Builtin.append_ #[158,9] ty #[v,.string t]).run Tryz.prog W=.ok v' w'∧Own w' B v' (bI (s++t))∧W.grownBy w' v.ownBlock:=by
 obtain⟨i0,hi,hz0,hz1,hz2⟩:=info_parts infoU8
 have ho:W.ownsRow B 5 1 v s.size ((bI s).map (Value.int .u8)):=by rw[← bI_len];exact hown
 obtain⟨v',w',hr,h2,h3,h4⟩:=Lib.run_append_own_string (P:=Tryz.prog) W B 158 9 ty 5 i0 Tryz.underlying158 Tryz.underlying9 hi hz0 hz1 hz2 v s.size _ ho t (by unfold maxLen;omega) (by omega) hB
 refine⟨v',w',hr,?_,h3⟩
 unfold Own
 rw[bI_len,ByteArray.size_append,bI_append,List.map_append,← bI_cells t]
 exact h2
theorem own_apartE {w:World} {B B':Nat} {v u:Value} {l:List En} {t:List Int} (h:OwnE w B 124 v l) (h':Own w B' u t):u.ownBlock=none∨u.ownBlock≠v.ownBlock:=by
 rcases h.2 with ⟨rfl,_⟩|⟨g,cap,cur,rfl,_,hh,_⟩
 ·cases hu:u.ownBlock with
  | none=>exact .inl rfl
  | some k=>exact .inr (by simp[Value.ownBlock])
 ·rcases h'.2 with ⟨rfl,_⟩|⟨g',cap',cur',rfl,_,hh',_⟩
  ·exact .inl rfl
  ·refine .inr (fun e=>?_)
   have e':g'=g:=by simpa[Value.ownBlock] using e
   subst e'
   rw[hh] at hh'
   have:=hh'
   simp at this
theorem own_apartB {w:World} {B B':Nat} {v u:Value} {l:List En} {t:List Int} (h:OwnE w B 124 v l) (h':Own w B' u t):v.ownBlock=none∨v.ownBlock≠u.ownBlock:=by
 rcases own_apartE h h' with h1|h1
 ·cases hv:v.ownBlock with
  | none=>exact .inl rfl
  | some k=>exact .inr (by rw[h1];simp)
 ·exact .inr (fun e=>h1 e.symm)
theorem Own.slice {w:World} {B:Nat} {v:Value} {l:List Int} (h:Own w B v l):∃ a cap,v=.slice a l.length cap:=by
 obtain⟨a,cap,e,_⟩:=h.bytesAt
 exact⟨a,cap,e⟩
theorem own_nil14 (w:World) (B:Nat):Own w B (.slice none 0 0) []:=World.ownsRow_nil _ _ _ _
set_option maxHeartbeats 4000000 in
theorem split14_any (v:Value) (l:List En) (b:Int) (w:World) (hv:EnsAt w v l) (hm:MaysN l) (hl:l.length≤150) (hb:-9223372036854775808≤b∧b≤9223372036854775807) :
  Calls Tryz.prog 33 #[v,.int .i64 b] w (SplEnd l b w):=by
 unfold SplEnd
 have HCK:=Lib.hid (lcheck_any v l b w hv hm (by omega) hb)
 by_cases h1:chkS l b=0
 ·obtain⟨g1,g2,g3⟩:=chk_okBb h1
  rw[h1] at HCK
  have HSZ:=Lib.hid (fun X (hX:Below w.heap.size w X)=>psizD_any v l X (hv.below hX) hm (by omega))
  by_cases h4:sizD l≤b
  ·rw[split_same g1 g2 g3 h4]
   have HCL:=Lib.hid (fun X (hX:Below w.heap.size w X)=>pclone_any v l X (hv.below hX) (by omega))
   unfold CloneEndBb at HCL
   have d4:decide (sizD l≤b)=true:=decide_eq_true h4
   obtain⟨av,cv,rfl⟩:=ensAt_form hv
   clear hv h1 g1 g2 g3 h4
   go_enter Tryz.func33,Tryz.ntmps33
   go_wp2_with fail
   go_step3
   go_wp2_with fail
   refine HCK.out.mono ?_
   rintro e w1 ⟨rfl,hb1⟩
   have HB1:=Lib.hid hb1
   clear hb1
   go_wp2_with fail
   refine(HSZ.out _ HB1.out).mono ?_
   rintro e w2 ⟨rfl,hb2⟩
   have HB2:=Lib.hid (HB1.out.trans (hb2.mono HB1.out.size))
   clear hb2
   go_wp2_with fail
   refine(HCL.out _ HB2.out).mono ?_
   rintro e w3 ⟨v3,rfl,he3,_,hb3⟩
   have HE3:=Lib.hid he3
   have HB3:=Lib.hid (HB2.out.trans (hb3.mono HB2.out.size))
   obtain⟨a3,c3,rfl⟩:=ensAt_form he3
   clear hb3 he3
   go_wp2_with fail
   try rw[Exit.noGoto_ret]
   refine bodyPost_ret (results_tmp4 rfl _ _ _) rfl ⟨_,rfl,HE3.out,HB3.out⟩
  ·have HGO:=Lib.hid (fun(n:Nat) (hn:1≤n)=>fit_few (l:=l) n hn hl b)
   have HS:=Lib.hid (fun n h=>split_some (l:=l) (b:=b) (n:=n) g1 g2 g3 h4 h)
   have HNO:=Lib.hid (fun h=>split_none (l:=l) (b:=b) g1 g2 g3 h4 h)
   have HCU:=Lib.hid (fun(N:Nat) X (hN:1≤N∧N≤100000) (hX:Below w.heap.size w X)=>cut14_any v l N X (hv.below hX) hm (by omega) (by omega))
   have d4:decide (sizD l≤b)=false:=decide_eq_false h4
   have HM:=Lib.hid hm
   have HR:=Lib.hid g2
   have HLL:=Lib.hid g3
   have hLN:l.length≤150:=hl
   obtain⟨av,cv,rfl⟩:=ensAt_form hv
   obtain⟨R,hR⟩:∃ R,splitN l b=R:=⟨_,rfl⟩
   rw[hR] at HS HNO ⊢
   clear hv h1 g1 g2 g3 h4 hm hR
   go_enter Tryz.func33,Tryz.ntmps33
   go_wp2_with fail
   go_step3
   go_wp2_with fail
   refine HCK.out.mono ?_
   rintro e w1 ⟨rfl,hb1⟩
   have HB1:=Lib.hid hb1
   clear hb1
   go_wp2_with fail
   refine(HSZ.out _ HB1.out).mono ?_
   rintro e w2 ⟨rfl,hb2⟩
   have HB2:=Lib.hid (HB1.out.trans (hb2.mono HB1.out.size))
   clear hb2
   go_wp2_with fail
   go_step3
   go_wp2_with fail
   go_loopw [9] (fun i wr=>∃ (j N:Nat),i=.int .i64 (N:Int)∧j≤13∧Hid (N=2 ^ (13 - j))∧Hid (goS l b 13 1=goS l b j N)∧Hid (Below w.heap.size w wr)) (fun i _=>8192 - (intOf i).toNat)
   case atStart=>exact⟨13,1,rfl,by omega,Lib.hid (by decide),Lib.hid rfl,HB2⟩
   case round =>
    obtain⟨j,N,rfl,hj,HN,HGS,HBW⟩:=hrel
    obtain⟨t1,t2,t3⟩:=pow_tab j (by omega)
    rw[← HN.out] at t1 t2 t3
    cases j with
    | zero =>
     have hi1:¬ (N:Int)≤4096:=by omega
     have HF:=Lib.hid (HNO.out (HGS.out.trans rfl))
     clear HN HGS t1
     go_wp2_with fail
     try rw[Exit.noGoto_ret]
     refine bodyPost_ret (results_tmp4 rfl _ _ _) rfl ⟨_,by rw[HF.out];rfl,by rw[HF.out];exact ens_nil _,HBW.out⟩
    | succ j =>
     have hi1:(N:Int)≤4096:=by omega
     have HG2:=HGS.out
     rw[goS_step l b j N,HGO.out N (by omega)] at HG2
     have hnx:=pow_next j (by omega)
     have HN2:Hid (2*N=2 ^ (13 - j)):=Lib.hid (by rw[HN.out];exact hnx)
     have HSN:=Lib.hid (HS.out N)
     have HC:=Lib.hid (HCU.out N wr ⟨by omega,by omega⟩ HBW.out)
     have HZ:cutZ (N:Int) l=cutN N l:=by unfold cutZ;rw[if_neg (by omega),Int.toNat_natCast]
     rw[HZ] at HC
     have hgood:=cut_good N t2 HM.out HR.out HLL.out
     have hlen:=fun p hp=>cut_mem N t2 l p hp
     have hfl:=cut_flat N t2 l
     have hbd:=textsI_bd (cutN N l)
     have hcl:=cut_len N t2 l
     have hmay:=roots_may (o:=0) (ps:=cutN N l) (by rw[hfl];exact HM.out) (fun p hp=>(hlen p hp).1) (fun p hp=>by
      have h1:=(textI_bd p).2
      have h2:p.length≤l.length:=by
       obtain⟨P1,P2,he⟩:=List.append_of_mem hp
       rw[← hfl,he]
       simp
       omega
      omega) (by rw[hfl] at hbd;omega)
     have hpl:∀ p ∈ cutN N l,p.length≤150:=fun p hp=>by
      obtain⟨P1,P2,he⟩:=List.append_of_mem hp
      have:p.length≤l.length:=by rw[← hfl,he];simp;omega
      omega
     rw[hfl] at hbd
     generalize cutN N l=ps at *
     have HG:=Lib.hid hgood
     have HPL:=Lib.hid hpl
     have HMY:=Lib.hid hmay
     have HGF:=Lib.hid HG2
     have hpn:ps.length≤150:=by omega
     have htx:(textsI ps).length≤7500:=by omega
     have HTT:=Lib.hid (texts_take ps)
     have ht3:N≤4096:=by omega
     clear hgood hlen hpl hmay hfl hbd hcl HZ HG2 HGS HN hnx t1 HS HGO HCU
     go_wp2_with fail
     refine HC.out.mono ?_
     rintro e w4 ⟨pv,rfl,hpc,hb4⟩
     have HPC:=Lib.hid hpc
     have HB4:=Lib.hid (HBW.out.trans (hb4.mono HBW.out.size))
     obtain⟨ap,cp,rfl,hcp,hmp⟩:=hpc.form
     unfold maxLen at hmp
     clear hpc hb4 HC
     go_wp2_with fail
     go_loopw [10,11,36] (fun vo vb i wz=>∃ k:Nat,k≤ps.length∧i=.int .i64 k∧Hid (OwnE wz w4.heap.size 124 vo (rootsN 0 (ps.take k)))∧Hid (Own wz w4.heap.size vb (bI (str (textsI (ps.take k)))))∧Hid (Below w4.heap.size w4 wz)) (fun _ _ i _=>ps.length - (intOf i).toNat)
     case atStart=>exact⟨0,Nat.zero_le _,rfl,Lib.hid (ownE_nil _ _ _),Lib.hid (own_nil14 _ _),Lib.hid (Below.refl _ _)⟩
     case round =>
      obtain⟨k,hk,rfl,HO,HOB,HB⟩:=hrel
      by_cases hlt:k<ps.length
      ·obtain⟨p,hp⟩:∃ p,ps[k]?=some p:=⟨_,List.getElem?_eq_getElem hlt⟩
       have hmem:=List.mem_of_getElem? hp
       obtain⟨q1,q2,q3,q4⟩:=HG.out p hmem
       obtain⟨e1,e2,e3⟩:=enc_few q2 (by have:=HPL.out p hmem;omega)
       obtain⟨g,off,cap,x,hvx,hg,c0,hx⟩:=HPC.out.at k p hp
       cases hvx
       have d0:=(HB.out.cell (p:=⟨g,off+k,none⟩) hg).trans c0
       have HX:=Lib.hid (hx.below HB.out)
       have HEN:=Lib.hid (fun X (hX:Below wr.heap.size wr X)=>pencD_any x p X ((hx.below HB.out).below hX) q1 (by have:=HPL.out p hmem;omega))
       rw[e1,e2] at HEN
       have HP:=Lib.hid hp
       have hp0:0<p.length:=List.length_pos_iff.2 q4
       obtain⟨gx,ox,cx,rfl,hcx,hgx,hcc⟩:=ens_at HX.out 0 hp0
       obtain⟨x0,_,_,_⟩:=hcc 0 (gS p 0) (gS_get p 0 hp0)
       have hki:(k:Int)<(ps.length:Int):=by omega
       have hpi:(0:Int)<(p.length:Int):=by omega
       have htb:=(textI_bd p).2
       have hpb:=HPL.out p hmem
       have htk:=HTT.out k
       have HID:=Lib.hid (q1 (gS p 0) (gS_mem p 0 hp0))
       obtain⟨avo,cvo,rfl⟩:=ensAt_form HO.out.ensAt
       obtain⟨avb,cvb,rfl⟩:=HOB.out.slice
       clear c0 hx hp hmem q1 q2 q3 e1 e2 e3 hcc
       go_wp2_with fail
       refine(HEN.out _ (Below.refl _ _)).mono ?_
       rintro e w5 ⟨rfl,hb5⟩
       have hB5:=HB.out.trans (hb5.mono HB.out.size)
       have x2:=(hb5.cell (p:=⟨gx,ox+0*4,none⟩) (vcell_lt x0)).trans x0
       simp only[Nat.zero_mul,Nat.add_zero] at x2
       have HO5:=Lib.hid (HO.out.below hb5)
       have HOB5:=Lib.hid (HOB.out.below hb5)
       have HB5:=Lib.hid hB5
       obtain⟨T,hT⟩:∃ T,(textsI (ps.take k)).length=T:=⟨_,rfl⟩
       obtain⟨q,hq⟩:∃ q,(textI p).length=q:=⟨_,rfl⟩
       have HRS:=Lib.hid (roots_snoc ps k p HP.out)
       have HTS:=Lib.hid (texts_snoc ps k p HP.out)
       have hbl:(bI (str (textsI (ps.take k)))).length=T:=by rw[bI_len,str_size,hT]
       have hs2:(str (textI p)).size≤6010:=by rw[str_size];omega
       have hw1:IntKind.u64.wrap (T:Int)=(T:Int):=by rw[IntKind.wrap_u64];omega
       have hw2:IntKind.u32.wrap ((str (textI p)).size:Int)=(q:Int):=by rw[str_size,hq,IntKind.wrap_u32];omega
       have hcat:str (textsI (ps.take k))++str (textI p)=str (textsI (ps.take (k+1))):=by rw[HTS.out,str_append]
       have hszs:(str (textsI (ps.take k))).size≤7500:=by rw[str_size];omega
       rw[hT,hq] at HRS
       have HCAT:=Lib.hid hcat
       rw[hbl] at HOB5 ⊢
       have hba:Below w5.heap.size w5 (w5.alloc (.cells (eC ⟨(gS p 0).id,T,q,0⟩) 124)):=(Below.refl _ _).alloc (Nat.le_refl _) _
       obtain⟨v6,w6,hr6,ho6,hg6⟩:=enappend_run (w5.alloc (.cells (eC ⟨(gS p 0).id,T,q,0⟩) 124)) w4.heap.size 55 124 55 _ Tryz.underlying55 pinfoRf rfl (.slice avo (rootsN 0 (ps.take k)).length cvo) (.slice (some ⟨w5.heap.size,0,none⟩) 1 1) (rootsN 0 (ps.take k)) [⟨(gS p 0).id,T,q,0⟩] (HO5.out.below hba) (ens_lit14 _ _ _) (by rw[rootsN_len,List.length_take];simp;omega) (Nat.le_trans hB5.size hba.size)
       rw[← HRS.out] at ho6
       have hob6:Own w6 w4.heap.size (.slice avb T cvb) (bI (str (textsI (ps.take k)))):=World.ownsRow.kept (HOB5.out.below hba) hg6 (own_apartE (HO5.out.below hba) (HOB5.out.below hba))
       have hb6:=(hB5.trans (hba.mono hB5.size)).grown hg6 (Nat.le_trans hB5.size hba.size) (fun r hr=>(HO5.out.lt r hr).1)
       obtain⟨v7,w7,hr7,ho7,hg7⟩:=bsappend_run w6 w4.heap.size 158 (.slice avb T cvb) _ (str (textI p)) hob6 (by omega) hb6.size
       rw[hcat] at ho7
       have HOB7:=Lib.hid ho7
       have HO7:Hid (OwnE w7 w4.heap.size 124 v6 (rootsN 0 (ps.take (k+1)))):=Lib.hid (World.ownsRow.kept ho6 hg7 (own_apartB ho6 hob6))
       have HB7:=Lib.hid (hb6.grown hg7 hb6.size (fun r hr=>(World.ownsRow.lt hob6 r hr).1))
       unfold eC at hr6
       dsimp only at hr6
       clear ho6 ho7 hg6 hg7 hba hcat hT hq hb5 hB5 d0 x0 htb htk hob6 hb6 hbl
       generalize str (textsI (ps.take k))=st at *
       generalize str (textI p)=sp at *
       go_wp2_with (first|(at_builtin;first|refine Lib.wpList_append_run _ rfl _ _ _ _ rfl _ _ rfl rfl _ _ hr6 ?_|refine Lib.wpList_append_run _ rfl _ _ _ _ rfl _ _ rfl rfl _ _ hr7 ?_)|fail)
       go_roundw
       case rel=>exact⟨k+1,by omega,by go_num,HO7,HOB7,HB7⟩
       case measure=>simp[intOf];omega
      ·obtain rfl:k=ps.length:=by omega
       rw[List.take_length] at HO HOB
       have HSZ2:=Lib.hid (psizD_any u10 (rootsN 0 ps) wr HO.out.ensAt HMY.out (by rw[rootsN_len];omega))
       obtain⟨a9,c9,rfl⟩:=ensAt_form HO.out.ensAt
       by_cases hfit:sizD (rootsN 0 ps)≤b
       ·have hgf:=HGF.out
        rw[if_pos (decide_eq_true hfit)] at hgf
        have HF:=Lib.hid (HSN.out hgf)
        have d5:decide (sizD (rootsN 0 ps)≤b)=true:=decide_eq_true hfit
        clear hgf hfit
        go_wp2_with fail
        refine HSZ2.out.mono ?_
        rintro e w5 ⟨rfl,hb5⟩
        have HE5:=Lib.hid (HO.out.ensAt.below hb5)
        have hob5:=(HOB.out.below hb5)
        have HB5:=Lib.hid (HB4.out.trans ((HB.out.trans (hb5.mono HB.out.size)).mono HB4.out.size))
        have hrs:=fun X (hX:Below w5.heap.size w5 X)=>run_str X _ _ (hob5.bytesAt.below hX)
        rw[str_bI] at hrs
        obtain⟨a8,c8,rfl⟩:=hob5.slice
        have HRS2:=Lib.hid hrs
        have hr0:=hrs w5 (Below.refl _ _)
        have hr1:=hrs w5.drew (Below.drew (Below.refl _ _))
        clear hb5 hob5 hrs
        go_wp2_with fail
        clear HRS2 hr0
        go_region
        all_goals (go_wp2_with fail)
        all_goals (try rw[Exit.noGoto_ret])
        all_goals refine bodyPost_ret (results_tmp4 rfl _ _ _) rfl ⟨_,by rw[HF.out];rfl,by rw[HF.out];exact HE5.out.below (Below.drew (Below.refl _ _)),HB5.out.drew⟩
       ·have hgf:=HGF.out
        rw[if_neg (by rw[decide_eq_false hfit];simp)] at hgf
        have HG3:=Lib.hid hgf
        have d5:decide (sizD (rootsN 0 ps)≤b)=false:=decide_eq_false hfit
        have hw:IntKind.i64.wrap ((N:Int)*2)=((2*N:Nat):Int):=by rw[IntKind.wrap_i64] <;> omega
        clear hgf hfit
        go_wp2_with fail
        refine HSZ2.out.mono ?_
        rintro e w5 ⟨rfl,hb5⟩
        have HB5:=Lib.hid (HB4.out.trans ((HB.out.trans (hb5.mono HB.out.size)).mono HB4.out.size))
        clear hb5
        go_wp2_with fail
        go_roundw
        case rel=>exact⟨j,2*N,by first|rfl|go_num|(push_cast;rfl),by omega,HN2,HG3,HB5⟩
        case measure=>simp[intOf];omega
 ·rw[chk_bad h1]
  have hq:(chkS l b != 0)=true:=by simpa using h1
  generalize chkS l b=q at *
  obtain⟨av,cv,rfl⟩:=ensAt_form hv
  clear h1 hv
  go_enter Tryz.func33,Tryz.ntmps33
  go_wp2_with fail
  go_step3
  go_wp2_with fail
  refine HCK.out.mono ?_
  rintro e w1 ⟨rfl,hb1⟩
  have HB1:=Lib.hid hb1
  clear hb1
  go_wp2_with fail
  try rw[Exit.noGoto_ret]
  refine bodyPost_ret (results_tmp4 rfl _ _ _) rfl ⟨_,rfl,ens_nil _,HB1.out⟩
end Go.Proofs.YtdnmgpcfgcidbaaGreatDoor
