/- bNf bMK. -/
import Derived.Test.YtjkgkmmkehnggaaGreatDoorYs
import Derived.Test.YtjkgkmmkehnggaaGreatDoorYb6
set_option maxHeartbeats 16000000
namespace Go.Proofs.YtjkgkmmkehnggaaGreatDoor
set_option linter.unusedVariables false
set_option linter.unusedSimpArgs false
open Go.RowKit
set_option maxRecDepth 20000
theorem xyJ:(Tryz.prog.info? 147).map (fun i=>(i.zero,i.size,i.bytes))=some (some (.agg #[.int .u64 0,.int .u64 0,.int .u32 0,.int .u32 0]),4,24):=by kernel_rfl
theorem xyx {l:List En} {b:Int} (h:xtE l b≠0):xaq l b=⟨[],noB,0,xtE l b⟩:=by
 unfold xtE at h ⊢
 unfold xaq
 by_cases h1:b<1∨16257<b
 ·rw[if_pos h1,if_pos h1]
 rw[if_neg h1] at h ⊢
 rw[if_neg h1]
 by_cases h2:xa2 l≠0
 ·rw[if_pos h2,if_pos h2]
 rw[if_neg h2] at h ⊢
 rw[if_neg h2]
 by_cases h3:xal l≠[]
 ·rw[if_pos h3,if_pos h3]
 rw[if_neg h3] at h
 exact absurd rfl h
theorem xwL {l:List En} {b:Int} (h:xtE l b=0):¬ (b<1∨16257<b)∧xa2 l=0∧xal l=[]:=by
 unfold xtE at h
 by_cases h1:b<1∨16257<b
 ·rw[if_pos h1] at h;cases h
 rw[if_neg h1] at h
 by_cases h2:xa2 l≠0
 ·rw[if_pos h2] at h;exact absurd h h2
 rw[if_neg h2] at h
 by_cases h3:xal l≠[]
 ·rw[if_pos h3] at h;cases h
 exact⟨h1,Classical.not_not.1 h2,Classical.not_not.1 h3⟩
def bI (s:ByteArray):List Int:=s.data.toList.map (fun c=>(c.toNat:Int))
theorem xu6 (s:ByteArray):Lib.strCells s=(bI s).map (Value.int .u8):=by unfold Lib.strCells bI;rw[List.map_map];rfl
theorem xsK (a b:ByteArray):bI (a++b)=bI a++bI b:=by unfold bI;rw[ByteArray.data_append,Array.toList_append,List.map_append]
theorem xaj (s:ByteArray):(bI s).length=s.size:=by unfold bI;rw[List.length_map,Array.length_toList];rfl
theorem xs9 (s:ByteArray):str (bI s)=s:=by
 apply ByteArray.ext
 apply Array.ext'
 rw[xbF]
 unfold bI
 rw[List.map_map]
 conv=>rhs;rw[← List.map_id s.data.toList]
 refine List.map_congr_left (fun c _=>?_)
 simp
theorem xj9 (W:World) (B:Nat) (ty:TypeId) (v:Value) (s t:ByteArray) (hown:Own W B v (bI s)) (hl:s.size+t.size≤1000000000) (hB:B≤W.heap.size) :
  ∃ v' w',(Builtin.append_ #[23,9] ty #[v,.string t]).run Tryz.prog W=.ok v' w'∧Own w' B v' (bI (s++t))∧W.grownBy w' v.ownBlock:=by
 obtain⟨i0,hi,hz0,hz1,hz2⟩:=xao xnV
 have ho:W.ownsRow B 5 1 v s.size ((bI s).map (Value.int .u8)):=by rw[← xaj];exact hown
 obtain⟨v',w',hr,h2,h3,h4⟩:=Lib.run_append_own_string (P:=Tryz.prog) W B 23 9 ty 5 i0 Tryz.underlying23 Tryz.underlying9 hi hz0 hz1 hz2 v s.size _ ho t (by unfold maxLen;omega) (by omega) hB
 refine⟨v',w',hr,?_,h3⟩
 unfold Own
 rw[xaj,ByteArray.size_append,xsK,List.map_append,← xu6 t]
 exact h2
theorem xhP {w:World} {B B':Nat} {v u:Value} {l:List En} {t:List Int} (h:xa5 w B 147 v l) (h':Own w B' u t):u.ownBlock=none∨u.ownBlock≠v.ownBlock:=by
 rcases h.2 with ⟨rfl,_⟩|⟨g,cap,cur,rfl,_,hh,_⟩
 ·cases hu:u.ownBlock with
  | none=>exact .inl rfl
  | some k=>exact .inr (by simp[Value.ownBlock])
 ·rcases h'.2 with ⟨rfl,_⟩|⟨g',cap',cur',rfl,_,hh',_⟩
  ·exact .inl rfl
  ·refine .inr (fun e=>?_)
   have e':g'=g:=by simpa[Value.ownBlock] using e
   subst e'
   rw[hh] at hh'
   have:=hh'
   simp at this
theorem xpG {w:World} {B B':Nat} {v u:Value} {l:List En} {t:List Int} (h:xa5 w B 147 v l) (h':Own w B' u t):v.ownBlock=none∨v.ownBlock≠u.ownBlock:=by
 rcases xhP h h' with h1|h1
 ·cases hv:v.ownBlock with
  | none=>exact .inl rfl
  | some k=>exact .inr (by rw[h1];simp)
 ·exact .inr (fun e=>h1 e.symm)
theorem Own.slice {w:World} {B:Nat} {v:Value} {l:List Int} (h:Own w B v l):∃ a cap,v=.slice a l.length cap:=by
 obtain⟨a,cap,e,_⟩:=h.bytesAt
 exact⟨a,cap,e⟩
theorem xqm (w:World) (B:Nat):Own w B (.slice none 0 0) []:=World.ownsRow_nil _ _ _ _
theorem xlD (v:Value) (l:List En) (b:Int) (w:World) (hv:xam w v l) (hm:xaT l) (hl:l.length≤150) (hb:-9223372036854775808≤b∧b≤9223372036854775807) :
  Calls Tryz.prog 30 #[v,.int .i64 b] w (xr2 l b w):=by
 unfold xr2
 have HCK:=lH (xpx v l b w hv hm (by omega) hb)
 by_cases h1:xtE l b=0
 ·obtain⟨g1,g2,g3⟩:=xwL h1
  rw[h1] at HCK
  have HSZ:=lH (fun X (hX:Below w.heap.size w X)=>xjR v l X (hv.below hX) hm (by omega))
  by_cases h4:xfR l≤b
  ·rw[xoW g1 g2 g3 h4]
   have HCL:=lH (fun X (hX:Below w.heap.size w X)=>xhT v l X (hv.below hX) (by omega))
   unfold xfk at HCL
   have d4:decide (xfR l≤b)=true:=decide_eq_true h4
   obtain⟨av,cv,rfl⟩:=xak hv
   clear hv h1 g1 g2 g3 h4
   go_enter Tryz.func30,Tryz.ntmps30
   go_wp2_with fail
   go_step3
   go_wp2_with fail
   refine HCK.out.mono ?_
   rintro e w1 ⟨rfl,hb1⟩
   have HB1:=lH hb1
   clear hb1
   go_wp2_with fail
   refine(HSZ.out _ HB1.out).mono ?_
   rintro e w2 ⟨rfl,hb2⟩
   have HB2:=lH (HB1.out.trans (hb2.mono HB1.out.size))
   clear hb2
   go_wp2_with fail
   refine(HCL.out _ HB2.out).mono ?_
   rintro e w3 ⟨v3,rfl,he3,_,hb3⟩
   have HE3:=lH he3
   have HB3:=lH (HB2.out.trans (hb3.mono HB2.out.size))
   obtain⟨a3,c3,rfl⟩:=xak he3
   clear hb3 he3
   go_wp2_with fail
   try rw[Exit.noGoto_ret]
   refine bodyPost_ret (xcD rfl _ _ _) rfl ⟨_,rfl,HE3.out,HB3.out⟩
  ·have HGO:=lH (fun(n:Nat) (hn:1≤n)=>xld (l:=l) n hn hl b)
   have HS:=lH (fun n h=>xob (l:=l) (b:=b) (n:=n) g1 g2 g3 h4 h)
   have HNO:=lH (fun h=>xoF (l:=l) (b:=b) g1 g2 g3 h4 h)
   have HCU:=lH (fun(N:Nat) X (hN:1≤N∧N≤100000) (hX:Below w.heap.size w X)=>xqp v l N X (hv.below hX) hm (by omega) (by omega))
   have d4:decide (xfR l≤b)=false:=decide_eq_false h4
   have HM:=lH hm
   have HR:=lH g2
   have HLL:=lH g3
   have hLN:l.length≤150:=hl
   obtain⟨av,cv,rfl⟩:=xak hv
   obtain⟨R,hR⟩:∃ R,xaq l b=R:=⟨_,rfl⟩
   rw[hR] at HS HNO ⊢
   clear hv h1 g1 g2 g3 h4 hm hR
   go_enter Tryz.func30,Tryz.ntmps30
   go_wp2_with fail
   go_step3
   go_wp2_with fail
   refine HCK.out.mono ?_
   rintro e w1 ⟨rfl,hb1⟩
   have HB1:=lH hb1
   clear hb1
   go_wp2_with fail
   refine(HSZ.out _ HB1.out).mono ?_
   rintro e w2 ⟨rfl,hb2⟩
   have HB2:=lH (HB1.out.trans (hb2.mono HB1.out.size))
   clear hb2
   go_wp2_with fail
   go_step3
   go_wp2_with fail
   go_loopw [9] (fun i wr=>∃ (j N:Nat),i=.int .i64 (N:Int)∧j≤13∧Hid (N=2 ^ (13 - j))∧Hid (goS l b 13 1=goS l b j N)∧Hid (Below w.heap.size w wr)) (fun i _=>8192 - (intOf i).toNat)
   case atStart=>exact⟨13,1,rfl,by omega,lH (by decide),lH rfl,HB2⟩
   case round =>
    obtain⟨j,N,rfl,hj,HN,HGS,HBW⟩:=hrel
    obtain⟨t1,t2,t3⟩:=xxG j (by omega)
    rw[← HN.out] at t1 t2 t3
    cases j with
    | zero =>
     have hi1:¬ (N:Int)≤4096:=by omega
     have HF:=lH (HNO.out (HGS.out.trans rfl))
     clear HN HGS t1
     go_wp2_with fail
     try rw[Exit.noGoto_ret]
     refine bodyPost_ret (xcD rfl _ _ _) rfl ⟨_,by rw[HF.out];rfl,by rw[HF.out];exact xiG _,HBW.out⟩
    | succ j =>
     have hi1:(N:Int)≤4096:=by omega
     have HG2:=HGS.out
     rw[xvH l b j N,HGO.out N (by omega)] at HG2
     have hnx:=xul j (by omega)
     have HN2:Hid (2*N=2 ^ (13 - j)):=lH (by rw[HN.out];exact hnx)
     have HSN:=lH (HS.out N)
     have HC:=lH (HCU.out N wr ⟨by omega,by omega⟩ HBW.out)
     have HZ:xyP (N:Int) l=xbT N l:=by unfold xyP;rw[if_neg (by omega),Int.toNat_natCast]
     rw[HZ] at HC
     have hgood:=xnS N t2 HM.out HR.out HLL.out
     have hlen:=fun p hp=>xjc N t2 l p hp
     have hfl:=xcx N t2 l
     have hbd:=xgG (xbT N l)
     have hcl:=xgk N t2 l
     have hmay:=xjN (o:=0) (ps:=xbT N l) (by rw[hfl];exact HM.out) (fun p hp=>(hlen p hp).1) (fun p hp=>by
      have h1:=(xct p).2
      have h2:p.length≤l.length:=by
       obtain⟨P1,P2,he⟩:=List.append_of_mem hp
       rw[← hfl,he]
       simp
       omega
      omega) (by rw[hfl] at hbd;omega)
     have hpl:∀ p ∈ xbT N l,p.length≤150:=fun p hp=>by
      obtain⟨P1,P2,he⟩:=List.append_of_mem hp
      have:p.length≤l.length:=by rw[← hfl,he];simp;omega
      omega
     rw[hfl] at hbd
     generalize xbT N l=ps at *
     have HG:=lH hgood
     have HPL:=lH hpl
     have HMY:=lH hmay
     have HGF:=lH HG2
     have hpn:ps.length≤150:=by omega
     have htx:(xaI ps).length≤7500:=by omega
     have HTT:=lH (xpk ps)
     have ht3:N≤4096:=by omega
     clear hgood hlen hpl hmay hfl hbd hcl HZ HG2 HGS HN hnx t1 HS HGO HCU
     go_wp2_with fail
     refine HC.out.mono ?_
     rintro e w4 ⟨pv,rfl,hpc,hb4⟩
     have HPC:=lH hpc
     have HB4:=lH (HBW.out.trans (hb4.mono HBW.out.size))
     obtain⟨ap,cp,rfl,hcp,hmp⟩:=hpc.form
     unfold maxLen at hmp
     clear hpc hb4 HC
     go_wp2_with fail
     go_loopw [10,11,36] (fun vo vb i wz=>∃ k:Nat,k≤ps.length∧i=.int .i64 k∧Hid (xa5 wz w4.heap.size 147 vo (xaC 0 (ps.take k)))∧Hid (Own wz w4.heap.size vb (bI (str (xaI (ps.take k)))))∧Hid (Below w4.heap.size w4 wz)) (fun _ _ i _=>ps.length - (intOf i).toNat)
     case atStart=>exact⟨0,Nat.zero_le _,rfl,lH (xbw _ _ _),lH (xqm _ _),lH (Below.refl _ _)⟩
     case round =>
      obtain⟨k,hk,rfl,HO,HOB,HB⟩:=hrel
      by_cases hlt:k<ps.length
      ·obtain⟨p,hp⟩:∃ p,ps[k]?=some p:=⟨_,List.getElem?_eq_getElem hlt⟩
       have hmem:=List.mem_of_getElem? hp
       obtain⟨q1,q2,q3,q4⟩:=HG.out p hmem
       obtain⟨e1,e2,e3⟩:=xz0 q2 (by have:=HPL.out p hmem;omega)
       obtain⟨g,off,cap,x,hvx,hg,c0,hx⟩:=HPC.out.at k p hp
       cases hvx
       have d0:=(HB.out.cell (p:=⟨g,off+k,none⟩) hg).trans c0
       have HX:=lH (hx.below HB.out)
       have HEN:=lH (fun X (hX:Below wr.heap.size wr X)=>xki x p X ((hx.below HB.out).below hX) q1 (by have:=HPL.out p hmem;omega))
       rw[e1,e2] at HEN
       have HP:=lH hp
       have hp0:0<p.length:=List.length_pos_iff.2 q4
       obtain⟨gx,ox,cx,rfl,hcx,hgx,hcc⟩:=xh0 HX.out 0 hp0
       obtain⟨x0,_,_,_⟩:=hcc 0 (gS p 0) (xdZ p 0 hp0)
       have hki:(k:Int)<(ps.length:Int):=by omega
       have hpi:(0:Int)<(p.length:Int):=by omega
       have htb:=(xct p).2
       have hpb:=HPL.out p hmem
       have htk:=HTT.out k
       have HID:=lH (q1 (gS p 0) (xcO p 0 hp0))
       obtain⟨avo,cvo,rfl⟩:=xak HO.out.ensAt
       obtain⟨avb,cvb,rfl⟩:=HOB.out.slice
       clear c0 hx hp hmem q1 q2 q3 e1 e2 e3 hcc
       go_wp2_with fail
       refine(HEN.out _ (Below.refl _ _)).mono ?_
       rintro e w5 ⟨rfl,hb5⟩
       have hB5:=HB.out.trans (hb5.mono HB.out.size)
       have x2:=(hb5.cell (p:=⟨gx,ox+0*4,none⟩) (xbx x0)).trans x0
       simp only[Nat.zero_mul,Nat.add_zero] at x2
       have HO5:=lH (HO.out.below hb5)
       have HOB5:=lH (HOB.out.below hb5)
       have HB5:=lH hB5
       obtain⟨T,hT⟩:∃ T,(xaI (ps.take k)).length=T:=⟨_,rfl⟩
       obtain⟨q,hq⟩:∃ q,(xau p).length=q:=⟨_,rfl⟩
       have HRS:=lH (xop ps k p HP.out)
       have HTS:=lH (xo8 ps k p HP.out)
       have hbl:(bI (str (xaI (ps.take k)))).length=T:=by rw[xaj,xbv,hT]
       have hs2:(str (xau p)).size≤6010:=by rw[xbv];omega
       have hw1:IntKind.u64.wrap (T:Int)=(T:Int):=by rw[IntKind.wrap_u64];omega
       have hw2:IntKind.u32.wrap ((str (xau p)).size:Int)=(q:Int):=by rw[xbv,hq,IntKind.wrap_u32];omega
       have hcat:str (xaI (ps.take k))++str (xau p)=str (xaI (ps.take (k+1))):=by rw[HTS.out,xpf]
       have hszs:(str (xaI (ps.take k))).size≤7500:=by rw[xbv];omega
       rw[hT,hq] at HRS
       have HCAT:=lH hcat
       rw[hbl] at HOB5 ⊢
       have hba:Below w5.heap.size w5 (w5.alloc (.cells (eC ⟨(gS p 0).id,T,q,0⟩) 147)):=(Below.refl _ _).alloc (Nat.le_refl _) _
       obtain⟨v6,w6,hr6,ho6,hg6⟩:=xjt (w5.alloc (.cells (eC ⟨(gS p 0).id,T,q,0⟩) 147)) w4.heap.size 84 147 84 _ Tryz.underlying84 xyJ rfl (.slice avo (xaC 0 (ps.take k)).length cvo) (.slice (some ⟨w5.heap.size,0,none⟩) 1 1) (xaC 0 (ps.take k)) [⟨(gS p 0).id,T,q,0⟩] (HO5.out.below hba) (xj8 _ _ _) (by rw[xcd,List.length_take];simp;omega) (Nat.le_trans hB5.size hba.size)
       rw[← HRS.out] at ho6
       have hob6:Own w6 w4.heap.size (.slice avb T cvb) (bI (str (xaI (ps.take k)))):=World.ownsRow.kept (HOB5.out.below hba) hg6 (xhP (HO5.out.below hba) (HOB5.out.below hba))
       have hb6:=(hB5.trans (hba.mono hB5.size)).grown hg6 (Nat.le_trans hB5.size hba.size) (fun r hr=>(HO5.out.lt r hr).1)
       obtain⟨v7,w7,hr7,ho7,hg7⟩:=xj9 w6 w4.heap.size 23 (.slice avb T cvb) _ (str (xau p)) hob6 (by omega) hb6.size
       rw[hcat] at ho7
       have HOB7:=lH ho7
       have HO7:Hid (xa5 w7 w4.heap.size 147 v6 (xaC 0 (ps.take (k+1)))):=lH (World.ownsRow.kept ho6 hg7 (xpG ho6 hob6))
       have HB7:=lH (hb6.grown hg7 hb6.size (fun r hr=>(World.ownsRow.lt hob6 r hr).1))
       unfold eC at hr6
       dsimp only at hr6
       clear ho6 ho7 hg6 hg7 hba hcat hT hq hb5 hB5 d0 x0 htb htk hob6 hb6 hbl
       generalize str (xaI (ps.take k))=st at *
       generalize str (xau p)=sp at *
       go_wp2_with (first|(at_builtin;first|refine Lib.wpList_append_run _ rfl _ _ _ _ rfl _ _ rfl rfl _ _ hr6 ?_|refine Lib.wpList_append_run _ rfl _ _ _ _ rfl _ _ rfl rfl _ _ hr7 ?_)|fail)
       go_roundw
       case rel=>exact⟨k+1,by omega,by go_num,HO7,HOB7,HB7⟩
       case measure=>simp[intOf];omega
      ·obtain rfl:k=ps.length:=by omega
       rw[List.take_length] at HO HOB
       have HSZ2:=lH (xjR u10 (xaC 0 ps) wr HO.out.ensAt HMY.out (by rw[xcd];omega))
       obtain⟨a9,c9,rfl⟩:=xak HO.out.ensAt
       by_cases hfit:xfR (xaC 0 ps)≤b
       ·have hgf:=HGF.out
        rw[if_pos (decide_eq_true hfit)] at hgf
        have HF:=lH (HSN.out hgf)
        have d5:decide (xfR (xaC 0 ps)≤b)=true:=decide_eq_true hfit
        clear hgf hfit
        go_wp2_with fail
        refine HSZ2.out.mono ?_
        rintro e w5 ⟨rfl,hb5⟩
        have HE5:=lH (HO.out.ensAt.below hb5)
        have hob5:=(HOB.out.below hb5)
        have HB5:=lH (HB4.out.trans ((HB.out.trans (hb5.mono HB.out.size)).mono HB4.out.size))
        have hrs:=fun X (hX:Below w5.heap.size w5 X)=>xib X _ _ (hob5.bytesAt.below hX)
        rw[xs9] at hrs
        obtain⟨a8,c8,rfl⟩:=hob5.slice
        have HRS2:=lH hrs
        have hr0:=hrs w5 (Below.refl _ _)
        have hr1:=hrs w5.drew (Below.drew (Below.refl _ _))
        clear hb5 hob5 hrs
        go_wp2_with fail
        clear HRS2 hr0
        go_region
        all_goals (go_wp2_with fail)
        all_goals (try rw[Exit.noGoto_ret])
        all_goals refine bodyPost_ret (xcD rfl _ _ _) rfl ⟨_,by rw[HF.out];rfl,by rw[HF.out];exact HE5.out.below (Below.drew (Below.refl _ _)),HB5.out.drew⟩
       ·have hgf:=HGF.out
        rw[if_neg (by rw[decide_eq_false hfit];simp)] at hgf
        have HG3:=lH hgf
        have d5:decide (xfR (xaC 0 ps)≤b)=false:=decide_eq_false hfit
        have hw:IntKind.i64.wrap ((N:Int)*2)=((2*N:Nat):Int):=by rw[IntKind.wrap_i64] <;> omega
        clear hgf hfit
        go_wp2_with fail
        refine HSZ2.out.mono ?_
        rintro e w5 ⟨rfl,hb5⟩
        have HB5:=lH (HB4.out.trans ((HB.out.trans (hb5.mono HB.out.size)).mono HB4.out.size))
        clear hb5
        go_wp2_with fail
        go_roundw
        case rel=>exact⟨j,2*N,by first|rfl|go_num|(push_cast;rfl),by omega,HN2,HG3,HB5⟩
        case measure=>simp[intOf];omega
 ·rw[xyx h1]
  have hq:(xtE l b != 0)=true:=by simpa using h1
  generalize xtE l b=q at *
  obtain⟨av,cv,rfl⟩:=xak hv
  clear h1 hv
  go_enter Tryz.func30,Tryz.ntmps30
  go_wp2_with fail
  go_step3
  go_wp2_with fail
  refine HCK.out.mono ?_
  rintro e w1 ⟨rfl,hb1⟩
  have HB1:=lH hb1
  clear hb1
  go_wp2_with fail
  try rw[Exit.noGoto_ret]
  refine bodyPost_ret (xcD rfl _ _ _) rfl ⟨_,rfl,xiG _,HB1.out⟩
end Go.Proofs.YtjkgkmmkehnggaaGreatDoor
namespace Go.Proofs.YtjkgkmmkehnggaaGreatDoor
set_option linter.unusedVariables false
set_option linter.unusedSimpArgs false
def stq (t:List UInt8) (c:Nat) (l:List En) (a:Nat):Nat→List En × Nat
 | 0=>(l,a)
 | k+1=>(xfU (stq t c l a k).1 c k (xa7 (t.drop (stq t c l a k).2)),(stq t c l a k).2+(xaO 10 (t.drop (stq t c l a k).2)+1))
def xq (t:List UInt8) (c:Nat) (l:List En) (a k:Nat):Int:=xa7 (t.drop (stq t c l a k).2)
def xjv (t:List UInt8) (c:Nat) (l:List En) (a k:Nat):Int :=
 if xbI (t.drop (stq t c l a k).2)≠0 then xbI (t.drop (stq t c l a k).2) else xc6 (stq t c l a k).1 c k (xq t c l a k)
theorem xij (t:List UInt8) (c:Nat) (l:List En) (a k:Nat):stq t c l a (k+1)=(xfU (stq t c l a k).1 c k (xq t c l a k),(stq t c l a k).2+(xaO 10 (t.drop (stq t c l a k).2)+1)):=rfl
theorem xk7 {t:List UInt8} {c:Nat} {l:List En} {a k:Nat} (h:xjv t c l a k=0):xbI (t.drop (stq t c l a k).2)=0∧xc6 (stq t c l a k).1 c k (xq t c l a k)=0:=by
 unfold xjv at h
 by_cases h1:xbI (t.drop (stq t c l a k).2)=0
 ·rw[if_neg (fun h=>h h1)] at h;exact⟨h1,h⟩
 ·rw[if_pos h1] at h;exact absurd h h1
theorem xz7 (t:List UInt8) (c:Nat) (l:List En) (a n:Nat):∃ N,N≤n∧(∀ k,k<N→xjv t c l a k=0)∧(N<n→xjv t c l a N≠0):=by
 induction n with
 | zero=>exact⟨0,Nat.le_refl _,fun k h=>by omega,fun h=>by omega⟩
 | succ n ih =>
  obtain⟨N,h1,h2,h3⟩:=ih
  by_cases hN:N<n
  ·exact⟨N,by omega,h2,fun _=>h3 hN⟩
  ·obtain rfl:N=n:=by omega
   by_cases he:xjv t c l a N=0
   ·exact⟨N+1,Nat.le_refl _,fun k hk=>by by_cases hk':k<N;exact h2 k hk';obtain rfl:k=N:=(by omega);exact he,fun h=>by omega⟩
   ·exact⟨N,by omega,h2,fun _=>he⟩
theorem xm8 {n c k:Nat} (hk:k<n):(c*n+k) / n=c∧(c*n+k) % n=k:=by
 have hn:0<n:=by omega
 rw[Nat.mul_comm,Nat.add_comm]
 constructor
 ·rw[Nat.add_mul_div_left _ _ hn,Nat.div_eq_of_lt hk,Nat.zero_add]
 ·rw[Nat.add_mul_mod_self_left,Nat.mod_eq_of_lt hk]
theorem xA0 {n c k:Nat} (hc:c<4) (hk:k<n):c*n+k<4*n:=by
 have:c*n+n≤4*n:=by rw[← Nat.succ_mul];exact Nat.mul_le_mul_right _ (by omega)
 omega
theorem xjA {t:List UInt8} {c n:Nat} {l:List En} {a:Nat} (hc:c<4) (hl:l.length=n) (hm:∀ j,j<n→xa1 (gE l j)) (ha:a≤t.length):∀ k,k≤n→(∀ j,j<k→xjv t c l a j=0) →
  (stq t c l a k).1.length=n∧(∀ j,j<n→xa1 (gE (stq t c l a k).1 j))∧(stq t c l a k).2≤t.length:=by
 intro k
 induction k with
 | zero=>exact fun _ _=>⟨hl,hm,ha⟩
 | succ k ih =>
  intro hk he
  obtain⟨h1,h2,h3⟩:=ih (by omega) (fun j hj=>he j (by omega))
  obtain⟨e1,e2⟩:=xk7 (he k (by omega))
  have hb:=xd4 _ e1
  obtain⟨d1,d2⟩:=xm8 (c:=c) (n:=n) (k:=k) (by omega)
  have hp:=xmg (x:=xq t c l a k) h1 (xA0 hc (by omega:k<n)) h2 hb
  rw[d1,d2] at hp
  rw[xij]
  refine⟨by rw[xc0,h1],hp,?_⟩
  have:=(xdx _ e1).2.1
  rw[List.length_drop] at this
  show _+(_+1)≤_
  omega
theorem xqz {t:List UInt8} {c n r:Nat} {l:List En} {a:Nat}:∀ N,N≤n→(∀ k,k<N→xjv t c l a k=0) →
  goD t n (n+r) (c*n) l a=goD t n (n - N+r) (c*n+N) (stq t c l a N).1 (stq t c l a N).2:=by
 intro N
 induction N with
 | zero=>intro _ _;rfl
 | succ N ih =>
  intro hN he
  rw[ih (by omega) (fun k hk=>he k (by omega))]
  obtain⟨e1,e2⟩:=xk7 (he N (by omega))
  obtain⟨d1,d2⟩:=xm8 (c:=c) (n:=n) (k:=N) (by omega)
  rw[show n - N+r=(n - (N+1)+r)+1 from by omega,goD,d1,d2,if_neg (fun h=>h e1)]
  have e2':xc6 (stq t c l a N).1 c N (xa7 (t.drop (stq t c l a N).2))=0:=e2
  rw[if_neg (fun h=>h e2')]
  rfl
theorem xvb {t:List UInt8} {c n r:Nat} {l:List En} {a N:Nat} (hN:N<n) (he:∀ k,k<N→xjv t c l a k=0) (hn:xjv t c l a N≠0):goD t n (n+r) (c*n) l a=([],(stq t c l a N).2,xjv t c l a N):=by
 rw[xqz N (by omega) he]
 obtain⟨d1,d2⟩:=xm8 (c:=c) (n:=n) (k:=N) hN
 rw[show n - N+r=(n - (N+1)+r)+1 from by omega,goD,d1,d2]
 unfold xjv at hn ⊢
 by_cases h1:xbI (t.drop (stq t c l a N).2)=0
 ·have hc:¬ (xbI (t.drop (stq t c l a N).2)≠0):=fun h=>h h1
  rw[if_neg hc] at hn
  have hn':xc6 (stq t c l a N).1 c N (xa7 (t.drop (stq t c l a N).2))≠0:=hn
  rw[if_neg hc,if_pos hn',if_neg hc]
  rfl
 ·rw[if_pos h1,if_pos h1]
def xpw (t:List UInt8) (c n:Nat) (l:List En) (a:Nat) (q:Int) (l':List En) (a':Nat) (q':Int):Prop :=
 (q≠0∧l'=l∧a'=a∧q'=q)∨(q=0∧∃ N,N≤n∧(∀ k,k<N→xjv t c l a k=0)∧(N<n→xjv t c l a N≠0)∧l'=(stq t c l a N).1∧a'=(stq t c l a N).2∧q'=if N<n then xjv t c l a N else 0)
def xtZ (t:List UInt8) (n r c:Nat) (l:List En) (a:Nat) (q:Int):List En × Nat × Int:=if q≠0 then ([],a,q) else goD t n r (c*n) l a
theorem xer {t:List UInt8} {n r c:Nat} {l l':List En} {a a':Nat} {q q':Int} (h:xpw t c n l a q l' a' q'):xtZ t n (n+r) c l a q=xtZ t n r (c+1) l' a' q':=by
 unfold xtZ
 rcases h with ⟨h1,rfl,rfl,rfl⟩|⟨rfl,N,h1,h2,h3,rfl,rfl,rfl⟩
 ·rw[if_pos h1,if_pos h1]
 ·rw[if_neg (fun h=>h rfl)]
  by_cases hN:N<n
  ·rw[if_pos hN,if_pos (h3 hN)]
   exact xvb hN h2 (h3 hN)
  ·obtain rfl:N=n:=by omega
   rw[if_neg hN,if_neg (fun h=>h rfl),xqz N (Nat.le_refl _) h2,Nat.sub_self,Nat.zero_add,Nat.succ_mul]
open Go.RowKit Go.Shelf
set_option maxRecDepth 20000
theorem xro (t:ByteArray) (a:Nat) (ha:a≤t.size):xby t (a:Int) 0=0:=by
 have h:xaQ t (a:Int)=0:=by
  unfold xaQ
  rw[if_pos (by omega)]
 simp[xby,xaR,h]
theorem xpO (t:ByteArray) (a:Nat) (q:Int) (hq:q≠0):xby t (a:Int) q=q:=by
 unfold xby xaR
 simp[hq]
theorem xqC (t:ByteArray) (a:Nat) (q:Int) (w:World) (hm:t.size≤maxLen) (hq:q≠0):Calls Tryz.prog 180 #[.agg #[.string t,.int .i64 (a:Int),.int .i64 q]] w (xfQ t 0 (a:Int) q w) :=
 xCO t a q q w hm (xpO t a q hq) hq
theorem xm3 (t:ByteArray) (a:Nat) (r:Int) (w:World) (hm:t.size≤maxLen) (ha:a≤t.size) (hr:xbI (t.data.toList.drop a)=r) (h:r≠0):Calls Tryz.prog 180 #[.agg #[.string t,.int .i64 (a:Int),.int .i64 0]] w (xfQ t 0 (a:Int) r w) :=
 xCD t a 0 r w hm (xro t a ha) (by rw[xl3];exact hr) h
theorem xjl (t:ByteArray) (a:Nat) (w:World) (hm:t.size≤maxLen) (ha:a≤t.size) (hr:xbI (t.data.toList.drop a)=0):Calls Tryz.prog 180 #[.agg #[.string t,.int .i64 (a:Int),.int .i64 0]] w (xfQ t (xa7 (t.data.toList.drop a)) ((a+(xaO 10 (t.data.toList.drop a)+1):Nat):Int) 0 w):=by
 have:=xCL t a 0 _ _ w hm (xro t a ha) (by rw[xl3];exact hr) rfl rfl
 rw[xl3] at this
 unfold xlo at this
 have e:(a:Int)+((xaO 10 (t.data.toList.drop a)+1:Nat):Int)=((a+(xaO 10 (t.data.toList.drop a)+1):Nat):Int):=by omega
 rw[e] at this
 exact this
def xb4 (W:World) (b:Nat) (t:ByteArray) (a q:Int) (v:Value):Prop:=xpM W b t a q∧W.cell? ⟨b,3,none⟩=some v
theorem xb4.later {w w':World} {b:Nat} {t:ByteArray} {a q:Int} {v:Value} (h:xb4 w b t a q v) (hb:Below w.heap.size w w'):xb4 w' b t a q v:=⟨h.1.later hb,xaa hb h.2⟩
theorem xb4.lt {w:World} {b:Nat} {t:ByteArray} {a q:Int} {v:Value} (h:xb4 w b t a q v):b<w.heap.size:=xbS (a:=⟨b,3,none⟩) h.2
theorem xds {X Y:World} {b:Nat} (h:Y.heap[b]?=X.heap[b]?) (o:Nat):Y.cell? ⟨b,o,none⟩=X.cell? ⟨b,o,none⟩∧Y.frozen? ⟨b,o,none⟩=X.frozen? ⟨b,o,none⟩:=by
 simp[World.cell?,World.frozen?,h]
theorem xb4.heap {w w':World} {b:Nat} {t:ByteArray} {a q:Int} {v:Value} (h:xb4 w b t a q v) (hb:w'.heap[b]?=w.heap[b]?):xb4 w' b t a q v:=by
 obtain⟨⟨c0,c1,c2,f⟩,c3⟩:=h
 exact⟨⟨(xds hb 0).1.trans c0,(xds hb 1).1.trans c1,(xds hb 2).1.trans c2,fun o=>(xds hb o).2.trans (f o)⟩,(xds hb 3).1.trans c3⟩
theorem xy3 {w:World} {b:Nat} {t t':ByteArray} {a a' q q':Int} {v:Value} (h:xb4 w b t a q v):xb4 (((w.setCell ⟨b,0,none⟩ (.string t')).setCell ⟨b,1,none⟩ (.int .i64 a')).setCell ⟨b,2,none⟩ (.int .i64 q')) b t' a' q' v:=by
 refine⟨xqA h.1,?_⟩
 obtain⟨⟨c0,c1,c2,f⟩,c3⟩:=h
 simp[go_sem,c3]
theorem xlO {w:World} {b:Nat} {t:ByteArray} {a q q':Int} {v:Value} (h:xb4 w b t a q v):xb4 (w.setCell ⟨b,2,none⟩ (.int .i64 q')) b t a q' v:=by
 obtain⟨⟨c0,c1,c2,f⟩,c3⟩:=h
 exact⟨⟨by simp[go_sem,c0],by simp[go_sem,c1],by simp[go_sem,c2],fun o=>by simp[go_sem,f]⟩,by simp[go_sem,c3]⟩
theorem xpv (W:World) (b o:Nat) (v:Value):W.grownBy (W.setCell ⟨b,o,none⟩ v) (some b) :=
 ⟨rfl,rfl,rfl,(KeepsWalks.setCell W _ v).size,fun k _ hk=>Below.heap_setCell _ _ _ k (fun e=>hk (by rw[e]))⟩
theorem xaE.cell {β:Type} {T:Nat→Prop} {B:Nat} {J:β→World→Prop} (h:xaE T B J) {s:β} {W:World} (hs:J s W) (b o:Nat) (v:Value) (hb:T b):J s (W.setCell ⟨b,o,none⟩ v) :=
 h s W _ (some b) hs (xpv W b o v) (fun r e=>by cases e;exact .inl hb)
def wfN (c:Nat):Nat:=if c=0 then 104 else if c=3 then 106 else 105
def wbN (c:Nat) (v:Value):Array Value:=if c=0∨c=3 then #[v] else #[]
theorem xoa (c:Nat) (args:Array Value) (W:World):(callFunc (wfN c) args).run Tryz.prog W=.ok (.enter (wfN c) args) W:=by
 unfold wfN
 split
 ·exact enters_of Tryz.func104 (by kernel_rfl) rfl args W
 split
 ·exact enters_of Tryz.func106 (by kernel_rfl) rfl args W
 ·exact enters_of Tryz.func105 (by kernel_rfl) rfl args W
theorem xAd (c:Nat) (hc:c<4) (v:Value) (l:List En) (hm:xaT l) (W:World) (i:Nat) (x:Int) (hv:xam W v l) (hi:i<l.length) (hx:0≤x∧x≤18446744073709551615) :
  Calls Tryz.prog (wfN c) (wbN c v++#[.int .i64 (i:Int),.int .u64 x]) W fun y w'=>y=.returned (.tuple #[.int .u64 (if xc6 l c i x=0 then xed l c i x else 0),.int .i64 (xc6 l c i x)])∧Below W.heap.size W w':=by
 rcases(by omega:c=0∨c=1∨c=2∨c=3) with rfl|rfl|rfl|rfl
 ·exact xv1 v l W i x hv hm hi hx
 ·exact xkH l 1 i x W (.inl rfl) hx
 ·exact xkH l 2 i x W (.inr rfl) hx
 ·exact xvt v l W i x hv hm hi hx
attribute [local go_sem] Oper.semAt_some
theorem xfb (b k:Nat) (bd:Array Value) (w:World):Calls Tryz.prog 103 #[.pointer (some ⟨b,0,none⟩),.func (.func k) bd #[]] w fun x w'=>x=.returned (.func (.func 181) #[] #[.pointer (some ⟨w.heap.size,0,none⟩),.pointer (some ⟨w.heap.size+1,0,none⟩)])∧w'=(w.alloc (.cells #[.pointer (some ⟨b,0,none⟩)] 287)).alloc (.cells #[.func (.func k) bd #[]] 206):=by
 go_enter Tryz.func103,Tryz.ntmps103
 go_wp2_with fail
 go_ret
 exact⟨rfl,rfl⟩
def xfY (t:List UInt8) (c:Nat) (l:List En) (a:Nat) (q:Int) (k:Nat):Int:=if q≠0 then q else xjv t c l a k
def xt1 (N n:Nat) (e q:Int):Int:=if N<n then e else q
def TK (B1 B2 BT f:Nat) (bd:Array Value) (t:ByteArray) (a q:Int) (v:Value) (S:Nat→Prop) (W:World):Prop :=
 W.cell? ⟨B1,0,none⟩=some (.pointer (some ⟨BT,0,none⟩))∧W.cell? ⟨B2,0,none⟩=some (.func (.func f) bd #[])∧xb4 W BT t a q v∧¬ S B1∧¬ S B2∧¬ S BT
theorem TK.later {B1 B2 BT f:Nat} {bd:Array Value} {t:ByteArray} {a q:Int} {v:Value} {S:Nat→Prop} {W W':World} (h:TK B1 B2 BT f bd t a q v S W) (hb:Below W.heap.size W W'):TK B1 B2 BT f bd t a q v S W' :=
 ⟨xaa hb h.1,xaa hb h.2.1,h.2.2.1.later hb,h.2.2.2⟩
theorem TK.keeps {B1 B2 BT f:Nat} {bd:Array Value} {t:ByteArray} {a q:Int} {v:Value} {S S':Nat→Prop} {W W':World} (h:TK B1 B2 BT f bd t a q v S W) (hk:KeepsS S S' W W'):TK B1 B2 BT f bd t a q v S' W':=by
 obtain⟨h1,h2,h3,n1,n2,n3⟩:=h
 have l1:=xbS h1
 have l2:=xbS h2
 have l3:=h3.lt
 dsimp only at l1 l2
 refine⟨hk.cell (p:=⟨B1,0,none⟩) n1 h1,hk.cell (p:=⟨B2,0,none⟩) n2 h2,h3.heap (hk.heap n3 l3),fun h=>?_,fun h=>?_,fun h=>?_⟩
 ·rcases hk.own _ h with h|h;exact n1 h;omega
 ·rcases hk.own _ h with h|h;exact n2 h;omega
 ·rcases hk.own _ h with h|h;exact n3 h;omega
theorem TK.set {B1 B2 BT f:Nat} {bd:Array Value} {t:ByteArray} {a q a' q':Int} {v:Value} {S:Nat→Prop} {W:World} (h:TK B1 B2 BT f bd t a q v S W) (e1:B1≠BT) (e2:B2≠BT):TK B1 B2 BT f bd t a' q' v S (((W.setCell ⟨BT,0,none⟩ (.string t)).setCell ⟨BT,1,none⟩ (.int .i64 a')).setCell ⟨BT,2,none⟩ (.int .i64 q')):=by
 obtain⟨h1,h2,h3,n⟩:=h
 refine⟨?_,?_,xy3 h3,n⟩
 ·rw[World.cell?_setCell_far _ _ _ _ (fun e=>e1 e.symm),World.cell?_setCell_far _ _ _ _ (fun e=>e1 e.symm),World.cell?_setCell_far _ _ _ _ (fun e=>e1 e.symm)];exact h1
 ·rw[World.cell?_setCell_far _ _ _ _ (fun e=>e2 e.symm),World.cell?_setCell_far _ _ _ _ (fun e=>e2 e.symm),World.cell?_setCell_far _ _ _ _ (fun e=>e2 e.symm)];exact h2
set_option maxRecDepth 100000 in
theorem xo4 (f c n:Nat) (bd:Array Value) (al:Option Addr) (cap:Nat) (t:ByteArray) (l:List En) (a:Nat) (q:Int) (B1 B2 BT N:Nat) (w:World) (hfe:∀ args W,(callFunc f args).run Tryz.prog W=.ok (.enter f args) W)
  (hf:∀ W (L:List En) (k:Nat) (x:Int),xam W (.slice al n cap) L→L.length=n→xaT L→k<n→0≤x∧x≤18446744073709551615→Calls Tryz.prog f (bd++#[.int .i64 (k:Int),.int .u64 x]) W fun y w'=>y=.returned (.tuple #[.int .u64 (if xc6 L c k x=0 then xed L c k x else 0),.int .i64 (xc6 L c k x)])∧Below W.heap.size W w')
  (hc:c<4) (hl:l.length=n) (hm:xaT l) (hn:n≤4096) (hsz:t.size≤65536) (ha:a≤t.size) (hN:N≤n) (hk:∀ k,k<N→xfY t.data.toList c l a q k=0) (hke:N<n→xfY t.data.toList c l a q N≠0)
  (h1:w.cell? ⟨B1,0,none⟩=some (.pointer (some ⟨BT,0,none⟩))) (h2:w.cell? ⟨B2,0,none⟩=some (.func (.func f) bd #[])) (hT:xb4 w BT t (a:Int) q (.slice al n cap)) (e1:B1≠BT) (e2:B2≠BT) :
  xnH Tryz.prog 181 #[.pointer (some ⟨B1,0,none⟩),.pointer (some ⟨B2,0,none⟩)] (fun k=>#[.int .i64 (k:Int),.int .u64 (xed (stq t.data.toList c l a k).1 c k (xq t.data.toList c l a k))]) N (fun b=>b=BT) (fun b=>b=B1∨b=B2∨b=BT)
   (fun k W=>xam W (.slice al n cap) (stq t.data.toList c l a k).1) (fun k W=>xb4 W BT t ((stq t.data.toList c l a (k+1)).2:Int) 0 (.slice al n cap))
   (fun W=>xb4 W BT t ((stq t.data.toList c l a N).2:Int) (xt1 N n (xfY t.data.toList c l a q N) q) (.slice al n cap)) w:=by
 intro m lp J Jx S0 W hW hJ hJx hG hS0 hY h0
 have hTK:TK B1 B2 BT f bd t a q (.slice al n cap) S0 W:=⟨xaa hW h1,xaa hW h2,hT.later hW,fun h=>(hS0 _ h).2 (.inl rfl),fun h=>(hS0 _ h).2 (.inr (.inl rfl)),fun h=>(hS0 _ h).2 (.inr (.inr rfl))⟩
 have hmx:t.size≤maxLen:=by unfold maxLen;omega
 have hst:=fun k (hkN:k≤N) (hq:q=0)=>xjA (t:=t.data.toList) hc hl ((xfA hl).1 hm) (by simpa using ha) k (by omega) (fun j hj=>by have:=hk j (by omega);unfold xfY at this;rw[if_neg (fun h=>h hq)] at this;exact this)
 have HST:=lH hst
 have HF:=lH hf
 have HJ:=lH hJ
 have HY:=lH hY
 have HG:=lH hG
 have HK:=lH (And.intro hN (And.intro hk hke))
 have HE:=lH (And.intro e1 e2)
 have HM:=lH (And.intro hl (And.intro hm (And.intro ha hmx)))
 have HTK:=lH hTK
 obtain⟨g1,g2,⟨⟨g3,g4,g5,g6⟩,g7⟩,_⟩:=hTK
 clear hst hf hJ hY hG hk hke hN e1 e2 hl hm ha hmx hT h1 h2 hS0 hJx hsz
 refine callsIn_of_wp Tryz.func181 rfl trivial ?_ rfl
 simp only[Tryz.ntmps181,List.size_toArray,List.length_cons,List.length_nil,Nat.reduceAdd,Nat.reduceSub,Array.replicate_succ,Array.replicate_zero,List.push_toArray,List.append_toArray,List.nil_append,List.cons_append]
 gi_wp2
 clear g1 g2 g3 g4 g5 g6 g7
 gi_loopw [13] (fun i wr=>∃ k:Nat,k≤N∧i=.int .i64 k∧∃ S,Hid (J k S wr)∧Hid (TK B1 B2 BT f bd t ((stq t.data.toList c l a k).2:Int) q (.slice al n cap) S wr)∧Hid (0<k→q=0)) (fun i _=>N+1 - (intOf i).toNat)
 case atStart=>exact⟨0,Nat.zero_le _,rfl,S0,lH h0,HTK,lH (fun h=>by omega)⟩
 case round =>
  obtain⟨k,hk,rfl,S,HJs,HT,HQ⟩:=hrel
  by_cases hlt:k<n
  ·have hi2:(k:Int)<(n:Int):=by omega
   obtain⟨g1,g2,⟨⟨g3,g4,g5,g6⟩,g7⟩,_⟩:=HT.out
   by_cases hq:q=0
   ·obtain⟨p1,p2,p3⟩:=HST.out k hk hq
    subst hq
    obtain⟨ak,hak⟩:∃ b,(stq t.data.toList c l a k).2=b:=⟨_,rfl⟩
    obtain⟨Lk,hLk⟩:∃ b,(stq t.data.toList c l a k).1=b:=⟨_,rfl⟩
    obtain⟨X,hX⟩:∃ b,xq t.data.toList c l a k=b:=⟨_,rfl⟩
    have hq0:xfY t.data.toList c l a 0 k=if xbI (t.data.toList.drop ak)≠0 then xbI (t.data.toList.drop ak) else xc6 Lk c k X:=by
     unfold xfY xjv
     rw[if_neg (fun h=>h rfl),hak,hLk,hX]
    have hXv:xa7 (t.data.toList.drop ak)=X:=by rw[← hX];unfold xq;rw[hak]
    have hnx:(stq t.data.toList c l a (k+1)).2=ak+(xaO 10 (t.data.toList.drop ak)+1):=by rw[xij,hak]
    rw[hak] at g4 p3 HT
    rw[hLk] at p1 p2
    have hak':ak≤t.size:=by simpa using p3
    have HEn:=lH ((HG.out k S wr HJs.out).1)
    rw[hLk] at HEn
    have HML:Hid (xaT Lk):=lH ((xfA p1).2 p2)
    have HP1:=lH p1
    have hX0:=lH hX
    clear p1 p2 p3 hX
    have HEQ:=lH (And.intro hak (And.intro hLk hnx))
    by_cases he:xbI (t.data.toList.drop ak)=0
    ·have HGet:=lH (xjl t ak wr HM.out.2.2.2 hak' he)
     rw[hXv] at HGet
     have hXb:0≤X∧X≤18446744073709551615:=by rw[← hXv];exact xd4 _ he
     rw[if_neg (fun h=>h he)] at hq0
     have HQ0:=lH hq0
     clear hq0 hXv hak hLk hnx he hak'
     generalize ak+(xaO 10 (t.data.toList.drop ak)+1)=an at *
     gi_wp2
     refine⟨trivial,xbM,(callsIn_wide.2 HGet.out).mono ?_⟩
     rintro x w1 ⟨rfl,hb⟩
     have HT1:=lH (HT.out.later hb)
     have HJ1:=lH (HJ.out.grow (s:=(k,S)) HJs.out hb)
     have HE1:=lH (HEn.out.below hb)
     obtain⟨g1,g2,⟨⟨g3,g4,g5,g6⟩,g7⟩,_⟩:=HT1.out
     have hb2:Below w1.heap.size w1 (w1.alloc (.cells #[.string t,.int .i64 (an:Int),.int .i64 0] 189)):=(Below.refl _ _).alloc (Nat.le_refl _) _
     have HT2:=lH (HT1.out.later hb2)
     have HJ2:=lH (HJ.out.grow (s:=(k,S)) HJ1.out hb2)
     have HE2:=lH (HE1.out.below hb2)
     have q0:(w1.alloc (.cells #[.string t,.int .i64 (an:Int),.int .i64 0] 189)).cell? ⟨w1.heap.size,0,none⟩=some (.string t):=by rw[World.cell?_alloc_mark];rfl
     have q1:(w1.alloc (.cells #[.string t,.int .i64 (an:Int),.int .i64 0] 189)).cell? ⟨w1.heap.size,1,none⟩=some (.int .i64 (an:Int)):=by rw[World.cell?_alloc_mark];rfl
     have q2:(w1.alloc (.cells #[.string t,.int .i64 (an:Int),.int .i64 0] 189)).cell? ⟨w1.heap.size,2,none⟩=some (.int .i64 0):=by rw[World.cell?_alloc_mark];rfl
     have HQQ:=lH (And.intro q0 (And.intro q1 q2))
     obtain⟨j1,j2,⟨⟨j3,j4,j5,j6⟩,j7⟩,_⟩:=HT2.out
     have HW:=lH (fun W' (h:xam W' (.slice al n cap) Lk)=>HF.out W' Lk k X h HP1.out HML.out hlt hXb)
     have hfx:=hfe (bd++#[.int .i64 (k:Int),.int .u64 X])
     clear hb hb2 q0 q1 q2 HGet
     by_cases hw:xc6 Lk c k X=0
     ·have hkN:k<N:=by
       rcases Nat.lt_or_ge k N with h|h
       ·exact h
       ·have hkk:k=N:=by omega
        exact absurd (by rw[← hkk,HQ0.out];exact hw) (HK.out.2.2 (by omega))
      rw[hw,if_pos rfl] at HW
      clear hw
      obtain⟨Y,hY0⟩:∃ b,xed Lk c k X=b:=⟨_,rfl⟩
      rw[hY0] at HW
      gi_wp2
      refine⟨trivial,xbM,(callsIn_wide.2 (HW.out _ HE2.out)).mono ?_⟩
      rintro x w3 ⟨rfl,hb3⟩
      have HT3:=lH (HT2.out.later hb3)
      have HJ3:=lH (HJ.out.grow (s:=(k,S)) HJ2.out hb3)
      have c0:=xaa hb3 HQQ.out.1
      have c1:=xaa hb3 HQQ.out.2.1
      have c2:=xaa hb3 HQQ.out.2.2
      clear g1 g2 g3 g4 g5 g6 g7 j1 j2 j3 j4 j5 j6 j7
      obtain⟨g1,g2,⟨⟨g3,g4,g5,g6⟩,g7⟩,_⟩:=HT3.out
      have hJ4:=HJ.out.cell (s:=(k,S)) (HJ.out.cell (s:=(k,S)) (HJ.out.cell (s:=(k,S)) HJ3.out BT 0 (.string t) rfl) BT 1 (.int .i64 (an:Int)) rfl) BT 2 (.int .i64 0) rfl
      have hT4:=HT3.out.set (a':=(an:Int)) (q':=0) HE.out.1 HE.out.2
      obtain⟨fn,tmps,assign,body,hy,hR⟩:=HY.out k S _ hJ4 (by show xb4 _ _ _ _ _ _;rw[HEQ.out.2.2];exact hT4.2.2.1) hkN
      try dsimp only at hy
      rw[HEQ.out.2.1,hX0.out,hY0] at hy
      have HR:=lH hR
      have HT4:=lH hT4
      clear hR hT4 hJ4 hb3
      gi_wp2
      refine⟨xbM,HR.out.mono ?_⟩
      rintro x W5 (⟨rfl,S',hJ5,hk5⟩|⟨rfl,hJ5,_⟩)
      ·have HJ5:=lH hJ5
       have HT5:=lH (HT4.out.keeps hk5)
       clear hJ5 hk5
       gi_wp2
       go_roundw
       case rel=>exact⟨k+1,by omega,by go_num,S',HJ5,by rw[HEQ.out.2.2];exact HT5,lH (by simp)⟩
       case measure=>simp[intOf];omega
      ·have HJ5:=lH hJ5
       clear hJ5
       gi_wp2
       refine bodyPost_ret (results_none rfl _ _ _) rfl ?_
       exact⟨⟨_,rfl⟩,.inr ⟨k+1,by omega,HJ5.out⟩⟩
     ·have hkN:k=N:=by
       rcases Nat.lt_or_ge k N with h|h
       ·exact absurd (by rw[← HQ0.out];exact HK.out.2.1 k h) hw
       ·omega
      have HKN:=lH hkN
      clear hkN
      rw[if_neg hw] at HW
      have hne:(xc6 Lk c k X == 0)=false:=by simpa using hw
      generalize hrw:xc6 Lk c k X=r at *
      gi_wp2
      refine⟨trivial,xbM,(callsIn_wide.2 (HW.out _ HE2.out)).mono ?_⟩
      rintro x w3 ⟨rfl,hb3⟩
      have HT3:=lH (HT2.out.later hb3)
      have HJ3:=lH (HJ.out.grow (s:=(k,S)) HJ2.out hb3)
      clear g1 g2 g3 g4 g5 g6 g7 hb3 j1 j2 j3 j4 j5 j6 j7
      obtain⟨g1,g2,⟨⟨g3,g4,g5,g6⟩,g7⟩,_⟩:=HT3.out
      gi_wp2
      refine bodyPost_ret (results_none rfl _ _ _) rfl ?_
      refine⟨⟨_,rfl⟩,.inl ⟨S,by rw[← HKN.out];exact HJ.out.cell (s:=(k,S)) HJ3.out BT 2 _ rfl,?_⟩⟩
      show xb4 _ _ _ _ _ _
      rw[← HKN.out,HEQ.out.1,HQ0.out]
      unfold xt1
      rw[if_pos hlt]
      exact xlO HT3.out.2.2.1
    ·have HGet:=lH (xm3 t ak _ wr HM.out.2.2.2 hak' rfl he)
     have hkN:k=N:=by
      rcases Nat.lt_or_ge k N with h|h
      ·exact absurd (HK.out.2.1 k h) (by rw[hq0,if_pos he];exact he)
      ·omega
     have HKN:=lH hkN
     clear hkN
     rw[if_pos he] at hq0
     have HQ0:=lH hq0
     have hne:(xbI (t.data.toList.drop ak) == 0)=false:=by simpa using he
     clear hq0 hXv hak hLk hnx hak'
     generalize hre:xbI (t.data.toList.drop ak)=r at *
     gi_wp2
     refine⟨trivial,xbM,(callsIn_wide.2 HGet.out).mono ?_⟩
     rintro x w1 ⟨rfl,hb⟩
     have HT1:=lH (HT.out.later hb)
     have HJ1:=lH (HJ.out.grow (s:=(k,S)) HJs.out hb)
     clear g1 g2 g3 g4 g5 g6 g7 hb
     obtain⟨g1,g2,⟨⟨g3,g4,g5,g6⟩,g7⟩,_⟩:=HT1.out
     have hb2:Below w1.heap.size w1 (w1.alloc (.cells #[.string t,.int .i64 (ak:Int),.int .i64 r] 189)):=(Below.refl _ _).alloc (Nat.le_refl _) _
     have HT2:=lH (HT1.out.later hb2)
     have HJ2:=lH (HJ.out.grow (s:=(k,S)) HJ1.out hb2)
     obtain⟨j1,j2,⟨⟨j3,j4,j5,j6⟩,j7⟩,_⟩:=HT2.out
     clear hb2
     gi_wp2
     refine bodyPost_ret (results_none rfl _ _ _) rfl ?_
     refine⟨⟨_,rfl⟩,.inl ⟨S,by rw[← HKN.out];exact HJ.out.cell (s:=(k,S)) HJ2.out BT 2 _ rfl,?_⟩⟩
     show xb4 _ _ _ _ _ _
     rw[← HKN.out,HEQ.out.1,HQ0.out]
     unfold xt1
     rw[if_pos hlt]
     exact xlO HT2.out.2.2.1
   ·obtain rfl:k=0:=by
     rcases Nat.eq_zero_or_pos k with h|h
     ·exact h
     ·exact absurd (HQ.out h) hq
    have e0:xfY t.data.toList c l a q 0=q:=by unfold xfY;rw[if_pos hq]
    have hkN:0=N:=by
     rcases Nat.eq_zero_or_pos N with h|h
     ·exact h.symm
     ·exact absurd (HK.out.2.1 0 h) (by rw[e0];exact hq)
    have HKN:=lH hkN
    clear hkN
    have HE0:=lH e0
    have hst0:(stq t.data.toList c l a 0).2=a:=rfl
    rw[hst0] at g4 HT
    have HGet:=lH (xqC t a q wr HM.out.2.2.2 hq)
    have hne:(q == 0)=false:=by simpa using hq
    clear e0 hst0
    gi_wp2
    refine⟨trivial,xbM,(callsIn_wide.2 HGet.out).mono ?_⟩
    rintro x w1 ⟨rfl,hb⟩
    have HT1:=lH (HT.out.later hb)
    have HJ1:=lH (HJ.out.grow (s:=(0,S)) HJs.out hb)
    clear g1 g2 g3 g4 g5 g6 g7 hb
    obtain⟨g1,g2,⟨⟨g3,g4,g5,g6⟩,g7⟩,_⟩:=HT1.out
    have hb2:Below w1.heap.size w1 (w1.alloc (.cells #[.string t,.int .i64 (a:Int),.int .i64 q] 189)):=(Below.refl _ _).alloc (Nat.le_refl _) _
    have HT2:=lH (HT1.out.later hb2)
    have HJ2:=lH (HJ.out.grow (s:=(0,S)) HJ1.out hb2)
    obtain⟨j1,j2,⟨⟨j3,j4,j5,j6⟩,j7⟩,_⟩:=HT2.out
    clear hb2
    gi_wp2
    refine bodyPost_ret (results_none rfl _ _ _) rfl ?_
    refine⟨⟨_,rfl⟩,.inl ⟨S,by rw[← HKN.out];exact HJ.out.cell (s:=(0,S)) HJ2.out BT 2 _ rfl,?_⟩⟩
    show xb4 _ _ _ _ _ _
    rw[← HKN.out,HE0.out]
    unfold xt1
    rw[if_pos hlt]
    exact xlO HT2.out.2.2.1
  ·obtain rfl:k=n:=by have:=HK.out.1;omega
   have HKN:=lH (show k=N by have:=HK.out.1;omega)
   gi_wp2
   go_end0
   have z1:J N S wr:=by rw[← HKN.out];exact HJs.out
   have z2:xb4 wr BT t ((stq t.data.toList c l a N).2:Int) (xt1 N k (xfY t.data.toList c l a q N) q) (.slice al k cap):=by
    rw[← HKN.out]
    unfold xt1
    rw[if_neg (by omega)]
    exact HT.out.2.2.1
   refine⟨⟨_,rfl⟩,.inl ?_⟩
   first|exact⟨S,z1,z2⟩|exact⟨⟨S,z1⟩,z2⟩
end Go.Proofs.YtjkgkmmkehnggaaGreatDoor
