/- aNd aLc aLe aLq. -/
import Derived.Test.YtdnmgpcfgcidbaaGreatDoorTa4
import Derived.Test.YtdnmgpcfgcidbaaGreatDoorTs
namespace Go.Proofs.YtdnmgpcfgcidbaaGreatDoor
set_option linter.unusedVariables false
set_option linter.unusedSimpArgs false
open Go.RowKit
set_option maxRecDepth 20000
theorem info_rent2:(Tryz.prog.info? 185).map (fun i=>(i.zero,i.size,i.bytes))=some (some (.agg #[.int .u64 0,.int .u64 0,.int .u32 0,.int .u32 0]),4,24):=by kernel_rfl
theorem eappend_run (W:World) (ty:TypeId) (B:Nat) (v:Value) (L:List En) (e:En) (b c:Nat) (hown:OwnE W B 185 v L) (he:EAt W b e) (hl:L.length≤1000000) (hB:B≤W.heap.size) :
  ∃ v' w',(Builtin.append_ #[87,87] ty #[v,.slice (some ⟨b,0,none⟩) 1 c]).run Tryz.prog W=.ok v' w'∧OwnE w' B 185 v' (L++[e])∧W.grownBy w' v.ownBlock∧(v'.ownBlock=v.ownBlock∨∃ g,v'.ownBlock=some g∧W.heap.size≤g):=by
 obtain⟨v',w',hr,h2,h3,h4⟩:=rappend_run 4 24 W B 87 185 ty _ Tryz.underlying87 info_rent2 rfl (by omega) (by omega) v L.length (flat4 L) hown ⟨b,0,none⟩ 1 c (flat4 [e]) rfl (by
  intro j u hu
  match j,hu with
  | 0,hu=>simp only[flat4_one1,cE,List.getElem?_cons_zero,Option.some.injEq] at hu;rw[← hu];exact he.1
  | 1,hu=>simp only[flat4_one1,cE,List.getElem?_cons_succ,List.getElem?_cons_zero,Option.some.injEq] at hu;rw[← hu];exact he.2.1
  | 2,hu=>simp only[flat4_one1,cE,List.getElem?_cons_succ,List.getElem?_cons_zero,Option.some.injEq] at hu;rw[← hu];exact he.2.2.1
  | 3,hu=>simp only[flat4_one1,cE,List.getElem?_cons_succ,List.getElem?_cons_zero,Option.some.injEq] at hu;rw[← hu];exact he.2.2.2
  | j+4,hu=>simp[flat4_one1,cE] at hu) (flat4_cells [e]) (by omega) (by omega) hB
 exact⟨v',w',hr,owne_conv h2 (by simp) (by rw[flat4_append]),h3,h4⟩
def SepT (va:Value) (ts:List ByteArray) (vo:Value):Prop:=∀ a n c,va=.slice (some a) n c→ts≠[]→vo.ownBlock≠some a.block
theorem StrsAt.grown {w w':World} {va vo:Value} {ts:List ByteArray} (h:StrsAt w va ts) (hs:SepT va ts vo) (hg:w.grownBy w' vo.ownBlock):StrsAt w' va ts:=by
 obtain⟨a,cap,rfl,h1,h2,hc⟩:=h
 refine⟨a,cap,rfl,h1,h2,fun k t ht=>?_⟩
 obtain⟨g,off,rfl,hlt,c0⟩:=hc k t ht
 have hn:=hs ⟨g,off,none⟩ _ _ rfl (by rintro rfl;simp at ht)
 have hb:=hg.block g hlt (fun e=>hn e.symm)
 exact⟨g,off,rfl,Nat.lt_of_lt_of_le hlt hg.size,(World.cell?_of_block (a:=⟨g,off+k,none⟩) hb).trans c0⟩
theorem flat4_set (r:List En) (a:En) (x:Int):(flat4 (r++[a])).set (r.length*4+3) (.int .u32 x)=flat4 (r++[{ a with rn:=x }]):=by
 rw[flat4_append,flat4_append,List.set_append,if_neg (by rw[flat4_len];omega),flat4_len,Nat.add_sub_cancel_left]
 rfl
theorem own_run {w:World} {B g cap:Nat} {E:TypeId} {r:List En} {a:En} (h:OwnE w B E (.slice (some ⟨g,0,none⟩) (r.length+1) cap) (r++[a])) (x:Int):OwnE (w.setCell ⟨g,r.length*4+3,none⟩ (.int .u32 x)) B E (.slice (some ⟨g,0,none⟩) (r.length+1) cap) (r++[{ a with rn:=x }])∧w.grownBy (w.setCell ⟨g,r.length*4+3,none⟩ (.int .u32 x)) (some g):=by
 unfold OwnE at h ⊢
 rw[List.length_append,List.length_singleton] at h ⊢
 have h2:=World.ownsRow.stored h (r.length*4+3) (.int .u32 x)
 rw[flat4_set] at h2
 exact h2
def lastOne (rows:List En) (e:En):Bool:=match rows.getLast? with
 | some a=>oneE a e
 | none=>false
theorem lastOne_concat (r:List En) (a e:En):lastOne (r++[a]) e=oneE a e:=by unfold lastOne;rw[List.getLast?_concat]
theorem addE_no {rows:List En} {e:En} (h:lastOne rows e=false):addE rows e=rows++[e]:=by
 rcases List.eq_nil_or_concat rows with rfl|⟨r,a,rfl⟩
 ·rfl
 ·rw[List.concat_eq_append] at *
  rw[lastOne_concat] at h
  rw[addE_concat,h]
  rfl
theorem addE_yes {rows:List En} {e:En} (h:lastOne rows e=true):∃ r a,rows=r++[a]∧addE rows e=r++[{ a with rn:=a.rn+1 }]:=by
 rcases List.eq_nil_or_concat rows with rfl|⟨r,a,rfl⟩
 ·cases h
 ·rw[List.concat_eq_append] at *
  rw[lastOne_concat] at h
  exact⟨r,a,rfl,by rw[addE_concat,h];rfl⟩
theorem run_le {l:List En} {d:ByteArray} {e:En} (he:e ∈ l):e.rn.toNat≤(expN l d).length:=by
 obtain⟨a,b,rfl⟩:=List.append_of_mem he
 rw[show a++e :: b=a++([e]++b) by simp,expN_append,expN_append,expN_one,List.length_append,List.length_append,runN_len]
 omega
theorem SepT.new {W:World} {va vo vo':Value} {ts:List ByteArray} (h:SepT va ts vo) (hs:StrsAt W va ts) (hv:vo'.ownBlock=vo.ownBlock∨∃ g,vo'.ownBlock=some g∧W.heap.size≤g):SepT va ts vo':=by
 intro a n c e hne ho
 rcases hv with hv|⟨g,hv,hge⟩
 ·exact h a n c e hne (by rw[← hv];exact ho)
 ·obtain⟨a',cap,e2,_,_,hc⟩:=hs
  rw[e] at e2
  cases e2
  cases ts with
  | nil=>exact hne rfl
  | cons t ts =>
   obtain⟨g',off,e3,hlt,_⟩:=hc 0 t rfl
   cases e3
   rw[ho] at hv
   injection hv with hv
   simp only at hv
   omega
def RRowsEnd (L:List It) (w:World) (x:Ending) (w':World):Prop:=∃ v',x=.returned (.tuple #[v',.string (catF (rowsS L).2)])∧EnsAt w' v' (rowsS L).1∧Below w.heap.size w w'
structure RwS (w W:World) (L:List It) (k:Nat) (va vo:Value):Prop where
 all:StrsAt W va (rowsS (L.take k)).2
 out:OwnE W w.heap.size 185 vo (rowsS (L.take k)).1
 sep:SepT va (rowsS (L.take k)).2 vo
 bel:Below w.heap.size w W
theorem rws_add {w W W':World} {L:List It} {k:Nat} {va vo v':Value} {t:It} (h:RwS w W L k va vo) (ht:L[k]?=some t) (h1:StrsAt W' v' (newL (rowsS (L.take k)).2 t.2)) (hb:Below W.heap.size W W') (h2:∀ a n c,v'=.slice (some a) n c→v'=va∨(W.heap.size≤a.block∧a.block<W'.heap.size)) :
  StrsAt W' v' (rowsS (L.take (k+1))).2∧OwnE W' w.heap.size 185 vo (rowsS (L.take k)).1∧SepT v' (rowsS (L.take (k+1))).2 vo∧Below w.heap.size w W':=by
 have e:(rowsS (L.take (k+1))).2=newL (rowsS (L.take k)).2 t.2:=by rw[rowsS_step L k t ht];rfl
 rw[e]
 refine⟨h1,h.out.below hb,fun a n c hv hne ho=>?_,h.bel.trans (hb.mono h.bel.size)⟩
 rcases h2 a n c hv with hva|⟨hge,_⟩
 ·obtain⟨_,_,e1,_⟩:=h1
  obtain⟨_,_,e2,_⟩:=h.all
  rw[hva,e2] at e1
  injection e1 with _ e3 _
  have hne2:(rowsS (L.take k)).2≠[]:=by
   intro hz
   have e4:=congrArg List.length hz
   rw[List.length_nil] at e4
   exact hne (List.eq_nil_of_length_eq_zero (by omega))
  exact h.sep a n c (by rw[← hva];exact hv) hne2 ho
 ·have:=(h.out.lt _ ho).2
  omega
set_option maxHeartbeats 8000000 in
theorem rrows_any (v:Value) (L:List It) (w:World) (hv:ItsAt w v L) (hg:GoodC L):Calls Tryz.prog 37 #[v] w (RRowsEnd L w):=by
 have HG:=Lib.hid hg
 have HRI:=Lib.hid (fun k hk=>rinv_take hg k hk)
 obtain⟨al,cap,rfl,hcap,hmx,hc⟩:=hv
 have HC:=Lib.hid hc
 have hfew:=hg.few
 have hmx':L.length≤maxLen:=by omega
 unfold maxLen at hmx'
 clear hc hg
 unfold RRowsEnd
 go_enter Tryz.func37,Tryz.ntmps37
 go_wp2_with fail
 go_loopw [4,5,6] (fun va vo i wr=>∃ k:Nat,k≤L.length∧i=.int .i64 k∧RwS w wr L k va vo) (fun _ _ i _=>L.length - (intOf i).toNat)
 case atStart=>exact⟨0,Nat.zero_le _,rfl,strsAt_nil _,ownE_nil _ _ _,(fun a n c h=>by cases h),Below.refl _ _⟩
 case round =>
  obtain⟨k,hk,rfl,hS⟩:=hrel
  have hri:=HRI.out k hk
  have htot:=hri.good.tot
  by_cases hlt:k<L.length
  ·obtain⟨⟨x,t⟩,htk⟩:∃ t,L[k]?=some t:=⟨_,List.getElem?_eq_getElem hlt⟩
   obtain⟨g,off,rfl,hg,c0,c1⟩:=HC.out k _ htk
   have hm:=List.mem_of_getElem? htk
   have d0:=(hS.bel.cell (p:=⟨g,off+k*2,none⟩) hg).trans c0
   have d1:=(hS.bel.cell (p:=⟨g,off+k*2+1,none⟩) hg).trans c1
   have hki:(k:Int)<(L.length:Int):=by omega
   have HAD:=Lib.hid (radd_any u4 (rowsS (L.take k)).2 t wr hS.all (by omega))
   have HST:=Lib.hid (fun W' v' h1 hb h2=>rws_add (W':=W') (v':=v') (t:=(x,t)) hS htk h1 hb h2)
   have HNX:Hid ((rowsS (L.take (k+1))).1=addE (rowsS (L.take k)).1 (newE (rowsS (L.take k)).2 (x,t))):=Lib.hid (by rw[rowsS_step L k _ htk];rfl)
   have hne:newE (rowsS (L.take k)).2 (x,t)=⟨x,offA (rowsS (L.take k)).2 t,lenA (rowsS (L.take k)).2 t,1⟩:=rfl
   have hbel:=hS.bel
   have hlen:=hri.len
   have hgad:=hri.good.add t
   have hok:=hri.ok
   have hfw:=hri.few
   have hex:=congrArg List.length hri.exp
   generalize hrows:(rowsS (L.take k)).1=rows at *
   generalize hts:(rowsS (L.take k)).2=ts at *
   rw[List.length_take] at hlen hfw
   have hpl:=new_place (ts:=ts) (s:=t) (HG.out.pos _ hm) (HG.out.short _ hm) (by omega)
   have hfl:=findF_le _ _ _ _ hpl.2
   have htt:totF (newL ts t)≤134217728:=hgad.tot
   have hts2:t.size≤65536:=HG.out.short _ hm
   rw[hpl.1] at hne
   rw[hne] at HNX
   dsimp only at d0 d1 HST
   have hrn:∀ e ∈ rows,e.rn≤2048:=fun e he=>by have:=run_le (d:=catF ts) he;rw[List.length_take] at hex;omega
   clear hri hgad hne hrows hts hex hm
   obtain⟨e1,he1⟩:∃ e1:En,e1=⟨x,offA ts t,t.size,1⟩:=⟨_,rfl⟩
   rw[← he1] at HNX
   have hme1:MayN e1:=by rw[he1];unfold MayN;have:=HG.out.low _ (List.mem_of_getElem? htk);simp only at this ⊢;omega
   have HE1:=Lib.hid he1
   have hl:=hpl.1
   dsimp only at c0 c1
   clear hpl hfl htt he1 hS
   go_wp2_with fail
   refine HAD.out.mono ?_
   rintro y w1 ⟨v',rfl,hst,hb,hloc⟩
   have H1:=Lib.hid (HST.out w1 v' hst hb hloc)
   have hg1:g<w1.heap.size:=Nat.lt_of_lt_of_le hg H1.out.2.2.2.size
   have f0:=(H1.out.2.2.2.cell (p:=⟨g,off+k*2,none⟩) hg).trans c0
   have f0a:∀ O,(w1.alloc O).cell? ⟨g,off+k*2,none⟩=_:=fun O=>(((Below.refl _ w1).alloc (Nat.le_refl _) O).cell (p:=⟨g,off+k*2,none⟩) hg1).trans f0
   have f0b:∀ O O',((w1.alloc O).alloc O').cell? ⟨g,off+k*2,none⟩=_:=fun O O'=>(((Below.refl _ (w1.alloc O)).alloc (Nat.le_refl _) O').cell (p:=⟨g,off+k*2,none⟩) (by show g<_;rw[World.size_alloc];omega)).trans (f0a O)
   clear hst hb hloc HAD HST d0 d1 c0 c1 hg
   have hgg:=hg1
   clear hg1
   go_upto_region 8 with fail
   go_cut [11] (fun p wx=>∃ b,p=.pointer (some ⟨b,0,none⟩)∧EAt wx b e1∧Below w1.heap.size w1 wx)
   case first =>
    clear hgg
    go_region
    all_goals
     go_wp2_with fail
     go_meet
     case rel=>exact⟨_,rfl,by rw[HE1.out];exact⟨by simp[go_sem],by simp[go_sem],by simp[go_sem],by simp[go_sem]⟩,by go_grown⟩
   case rest =>
    obtain⟨b,rfl,hE,hb8⟩:=hcut
    generalize wc=W8 at *
    have H8:Hid (StrsAt W8 v' (rowsS (L.take (k+1))).2∧OwnE W8 w.heap.size 185 u5 rows∧SepT v' (rowsS (L.take (k+1))).2 u5∧Below w.heap.size w W8):=Lib.hid ⟨H1.out.1.below hb8,H1.out.2.1.below hb8,H1.out.2.2.1,H1.out.2.2.2.trans (hb8.mono H1.out.2.2.2.size)⟩
    have HE8:=Lib.hid hE
    clear hb8 hE H1 f0 f0a f0b hgg hl
    go_upto_region 9 with fail
    go_cut [53] (fun q wx=>q=.bool (lastOne rows e1)∧Below W8.heap.size W8 wx)
    case first =>
     have HKE:=Lib.hid (fun X (hX:Below W8.heap.size W8 X)=>HE8.out.later hX)
     rcases List.eq_nil_or_concat rows with rfl|⟨r,a,rfl⟩
     ·obtain⟨au,cu,hu⟩:∃ a c,u5=.slice a 0 c:=by
       rcases H8.out.2.1.form with ⟨h,_⟩|⟨g,c,h,_⟩
       ·exact⟨_,_,h⟩
       ·exact⟨_,_,h⟩
      subst hu
      refine wp_region_held_drew (S:=fun w'=>(w'.cell? ⟨b,0,none⟩=some (.int .u64 e1.id)∧w'.cell? ⟨b,1,none⟩=some (.int .u64 e1.off)∧w'.cell? ⟨b,2,none⟩=some (.int .u32 e1.ln)∧w'.cell? ⟨b,3,none⟩=some (.int .u32 e1.rn))∧Below W8.heap.size W8 w') (by kernel_rfl) ⟨HKE.out _ (Below.drew (Below.refl _ _)),Below.drew (Below.refl _ _)⟩ (fun hH0=>?_)
      refine tK 0 41 hH0 ?_
      try simp only[Act.put,zsA,zsB,zsC]
      refine tK 1 42 hH0 ?_
      try simp only[Act.put,zsA,zsB,zsC]
      refine tK 2 43 hH0 ?_
      try simp only[Act.put,zsA,zsB,zsC]
      refine tK 3 44 hH0 ?_
      try simp only[Act.put,zsA,zsB,zsC]
      refine tU 4 45 hH0 ?_
      try simp only[Act.put,zsA,zsB,zsC]
      refine tU 5 46 hH0 ?_
      try simp only[Act.put,zsA,zsB,zsC]
      refine tU 6 47 hH0 ?_
      try simp only[Act.put,zsA,zsB,zsC]
      refine tU 7 48 hH0 ?_
      try simp only[Act.put,zsA,zsB,zsC]
      refine tU 8 49 hH0 ?_
      try simp only[Act.put,zsA,zsB,zsC]
      refine tU 9 50 hH0 ?_
      try simp only[Act.put,zsA,zsB,zsC]
      refine tU 10 51 hH0 ?_
      try simp only[Act.put,zsA,zsB,zsC]
      refine tU 11 52 hH0 ?_
      try simp only[Act.put,zsA,zsB,zsC]
      refine tK 12 53 hH0 ?_
      try simp only[Act.put,zsA,zsB,zsC]
      refine wpAnyH_done (by kernel_rfl) ?_ _
      go_wp2_with fail
      go_meet
      case rel=>exact⟨rfl,hH0.2⟩
     ·rw[List.concat_eq_append] at *
      have HLO:=Lib.hid (lastOne_concat r a e1)
      obtain⟨go,cu,hu,hcell⟩:∃ go cu,u5=.slice (some ⟨go,0,none⟩) (r.length+1) cu∧∀ X,Below W8.heap.size W8 X→(X.cell? ⟨go,r.length*4,none⟩=some (.int .u64 a.id)∧X.cell? ⟨go,r.length*4+1,none⟩=some (.int .u64 a.off)∧X.cell? ⟨go,r.length*4+2,none⟩=some (.int .u32 a.ln)∧X.cell? ⟨go,r.length*4+3,none⟩=some (.int .u32 a.rn)):=by
       rcases H8.out.2.1.form with ⟨_,h⟩|⟨go,c,h,_⟩
       ·simp at h
       ·refine⟨go,c,by rw[h];simp,fun X hX=>?_⟩
        obtain⟨_,_,e,_,_,hcc⟩:=(H8.out.2.1.below hX).ensAt
        rw[h] at e
        cases e
        obtain⟨g',o',e2,_,hq⟩:=hcc r.length a (by simp)
        cases e2
        simpa using hq
      subst hu
      have HKA:=Lib.hid hcell
      have hon:=fun W=>rone_any a e1 W (hok a (by simp)).may hme1
      unfold eC at hon
      have HON:=Lib.hid hon
      have hi1:IntKind.i64.wrap ((r.length:Int)+1 - 1)=(r.length:Int):=by rw[IntKind.wrap_i64];simp at hfw;omega
      have hi2:IntKind.i64.wrap (r.length:Int)=(r.length:Int):=by rw[IntKind.wrap_i64];simp at hfw;omega
      have hi3:(r.length:Int)<(r.length:Int)+1:=by omega
      have hi4:(0:Int)<(r.length:Int)+1:=by omega
      generalize oneE a e1=o1 at *
      generalize hrl:r.length=rl at *
      clear hcell hon
      refine wp_region_held_drew (S:=fun w'=>((w'.cell? ⟨b,0,none⟩=some (.int .u64 e1.id)∧w'.cell? ⟨b,1,none⟩=some (.int .u64 e1.off)∧w'.cell? ⟨b,2,none⟩=some (.int .u32 e1.ln)∧w'.cell? ⟨b,3,none⟩=some (.int .u32 e1.rn))∧(w'.cell? ⟨go,rl*4,none⟩=some (.int .u64 a.id)∧w'.cell? ⟨go,rl*4+1,none⟩=some (.int .u64 a.off)∧w'.cell? ⟨go,rl*4+2,none⟩=some (.int .u32 a.ln)∧w'.cell? ⟨go,rl*4+3,none⟩=some (.int .u32 a.rn)))∧Below W8.heap.size W8 w') (by kernel_rfl) ⟨⟨HKE.out _ (Below.drew (Below.refl _ _)),HKA.out _ (Below.drew (Below.refl _ _))⟩,Below.drew (Below.refl _ _)⟩ (fun hH0=>?_)
      refine tK 0 41 hH0 ?_
      try simp only[Act.put,zsA,zsB,zsC]
      refine tK 1 42 hH0 ?_
      try simp only[Act.put,zsA,zsB,zsC]
      refine tK 2 43 hH0 ?_
      try simp only[Act.put,zsA,zsB,zsC]
      refine tK 3 44 hH0 ?_
      try simp only[Act.put,zsA,zsB,zsC]
      refine tK 4 45 hH0 ?_
      try simp only[Act.put,zsA,zsB,zsC]
      refine tK 5 46 hH0 ?_
      try simp only[Act.put,zsA,zsB,zsC]
      refine tK 6 47 hH0 ?_
      try simp only[Act.put,zsA,zsB,zsC]
      refine tK 7 48 hH0 ?_
      try simp only[Act.put,zsA,zsB,zsC]
      refine tK 8 49 hH0 ?_
      try simp only[Act.put,zsA,zsB,zsC]
      refine tK 9 50 hH0 ?_
      try simp only[Act.put,zsA,zsB,zsC]
      refine tK 10 51 hH0 ?_
      try simp only[Act.put,zsA,zsB,zsC]
      refine wpAnyH_ready (rs:=[11]) (by kernel_rfl) (by simp) ?_
      refine AllReadyH.cons rfl (fun K hK=>?_) AllReadyH.nil
      go_simp
      refine(HON.out _).mono ?_
      rintro e w' ⟨rfl,hb⟩
      go_wp2_with fail
      refine hK.out _ _ (⟨⟨HKE.out _ (hH0.2.trans (hb.mono hH0.2.size)),HKA.out _ (hH0.2.trans (hb.mono hH0.2.size))⟩,hH0.2.trans (hb.mono hH0.2.size)⟩) (fun hH1=>?_)
      clear hK K hb hH0
      try simp only[Act.put,zsA,zsB,zsC]
      refine tK 12 53 hH1 ?_
      try simp only[Act.put,zsA,zsB,zsC]
      refine wpAnyH_done (by kernel_rfl) ?_ _
      go_wp2_with fail
      go_meet
      case rel=>exact⟨by rw[HLO.out],hH1.2⟩
    case rest =>
     obtain⟨rfl,hb9⟩:=hcut
     generalize wc=W9 at *
     have H9:Hid (StrsAt W9 v' (rowsS (L.take (k+1))).2∧OwnE W9 w.heap.size 185 u5 rows∧SepT v' (rowsS (L.take (k+1))).2 u5∧Below w.heap.size w W9):=Lib.hid ⟨H8.out.1.below hb9,H8.out.2.1.below hb9,H8.out.2.2.1,H8.out.2.2.2.trans (hb9.mono H8.out.2.2.2.size)⟩
     have HE9:=Lib.hid (HE8.out.later hb9)
     clear hb9 H8 HE8
     cases hlo:lastOne rows e1 with
     | true =>
      obtain⟨r,a,rfl,hadd⟩:=addE_yes hlo
      rw[hadd] at HNX
      have hra:=hrn a (by simp)
      have hma:=(hok a (by simp)).may
      have hrr:=(hok a (by simp)).run
      unfold MayN at hma
      obtain⟨go,cu,hu,hcn,hfz⟩:∃ go cu,u5=.slice (some ⟨go,0,none⟩) (r.length+1) cu∧W9.cell? ⟨go,r.length*4+3,none⟩=some (.int .u32 a.rn)∧W9.frozen? ⟨go,r.length*4+3,none⟩=false:=by
       rcases H9.out.2.1.form with ⟨_,h⟩|⟨go,c,h,_,_,_,_,_,hf⟩
       ·simp at h
       ·refine⟨go,c,by rw[h];simp,?_,hf _⟩
        obtain⟨_,_,e,_,_,hcc⟩:=H9.out.2.1.ensAt
        rw[h] at e
        cases e
        obtain⟨g',o',e2,_,hq⟩:=hcc r.length a (by simp)
        cases e2
        simpa using hq.2.2.2
      subst hu
      have hst:=own_run H9.out.2.1 (a.rn+1)
      have HN:Hid (RwS w (W9.setCell ⟨go,r.length*4+3,none⟩ (.int .u32 (a.rn+1))) L (k+1) v' (.slice (some ⟨go,0,none⟩) (r.length+1) cu)):=Lib.hid ⟨H9.out.1.grown H9.out.2.2.1 hst.2,by rw[HNX.out];exact hst.1,H9.out.2.2.1,H9.out.2.2.2.grown hst.2 H9.out.2.2.2.size (fun q hq=>(H9.out.2.1.lt q hq).1)⟩
      have hi1:IntKind.i64.wrap ((r.length:Int)+1 - 1)=(r.length:Int):=by rw[IntKind.wrap_i64];simp at hfw;omega
      have hi2:IntKind.i64.wrap (r.length:Int)=(r.length:Int):=by rw[IntKind.wrap_i64];simp at hfw;omega
      have hi3:(r.length:Int)<(r.length:Int)+1:=by omega
      have hi4:IntKind.u32.wrap (a.rn+1)=a.rn+1:=by rw[IntKind.wrap_u32];omega
      clear hst hlo hadd H9 hma hok hrn
      generalize r.length=rl at *
      go_wp2_with fail
      go_roundw
      case rel=>exact⟨k+1,by omega,by go_num,HN.out⟩
      case measure=>simp[intOf];omega
     | false =>
      rw[addE_no hlo] at HNX
      have hea:=EAt.made W9 e1 185
      have hba:Below W9.heap.size W9 (W9.alloc (.cells (eC e1) 185)):=(Below.refl _ _).alloc (Nat.le_refl _) _
      obtain⟨v5,w5,hr5,ho5,hg5,hl5⟩:=eappend_run (W9.alloc (.cells (eC e1) 185)) 87 w.heap.size u5 rows e1 W9.heap.size 1 (H9.out.2.1.below hba) hea (by omega) (Nat.le_trans H9.out.2.2.2.size hba.size)
      have hs2:=H9.out.1.below hba
      have HN:Hid (RwS w w5 L (k+1) v' v5):=Lib.hid ⟨hs2.grown H9.out.2.2.1 hg5,by rw[HNX.out];exact ho5,H9.out.2.2.1.new hs2 hl5,(H9.out.2.2.2.trans (hba.mono H9.out.2.2.2.size)).grown hg5 (Nat.le_trans H9.out.2.2.2.size hba.size) (fun q hq=>(H9.out.2.1.lt q hq).1)⟩
      obtain⟨k0,k1,k2,k3⟩:=HE9.out
      unfold eC at hr5
      clear hlo hea hba ho5 hg5 hl5 hs2 H9 hok hrn
      go_wp2_with (first|(at_builtin;refine Lib.wpList_append_run _ rfl _ _ _ _ rfl _ _ rfl rfl _ _ hr5 ?_)|fail)
      go_roundw
      case rel=>exact⟨k+1,by omega,by go_num,HN.out⟩
      case measure=>simp[intOf];omega
  ·obtain rfl:k=L.length:=by omega
   have HS:=Lib.hid hS
   have HT:=Lib.hid (rtext_any u4 (rowsS L).2 wr (by have:=hS.all;rw[List.take_length] at this;exact this) (by rw[List.take_length] at htot;omega))
   clear hS hri htot
   go_wp2_with fail
   refine HT.out.mono ?_
   rintro y w4 ⟨rfl,rfl⟩
   go_wp2_with fail
   refine bodyPost_ret (results_tmp2 rfl _ _ _) rfl ⟨_,rfl,?_,HS.out.bel⟩
   have:=HS.out.out.ensAt
   rw[List.take_length] at this
   exact this
def getT (o:Option ByteArray):ByteArray:=o.getD { data:=#[] }
theorem getI_step (id:Nat) (l:List It) (k:Nat) (t:It) (h:l[k]?=some t):getI id (l.drop k)=if t.1=id then some t.2 else getI id (l.drop (k+1)):=by
 rw[idrop_at l k t h,getI]
set_option maxHeartbeats 1000000 in
theorem rget_anyC (v:Value) (l:List It) (id:Nat) (w:World) (hv:ItsAt w v l) :
  Calls Tryz.prog 66 #[v,.int .u64 id] w fun e w'=>e=.returned (.tuple #[.string (getT (getI id l)),.bool (getI id l).isSome])∧w'=w:=by
 obtain⟨al,cap,rfl,hcap,hmx,hc⟩:=hv
 have HC:=Lib.hid hc
 have hmx':l.length≤maxLen:=by omega
 unfold maxLen at hmx'
 clear hc
 go_enter Tryz.func66,Tryz.ntmps66
 go_wp2_with fail
 go_loop [6] (fun i=>∃ k:Nat,k≤l.length∧i=.int .i64 k∧getI id l=getI id (l.drop k)) (fun i=>l.length - (intOf i).toNat)
 case atStart=>exact⟨0,Nat.zero_le _,rfl,by simp⟩
 case round =>
  obtain⟨k,hk,rfl,hf⟩:=hrel
  by_cases hlt:k<l.length
  ·obtain⟨⟨x,s⟩,htk⟩:∃ t,l[k]?=some t:=⟨_,List.getElem?_eq_getElem hlt⟩
   obtain⟨g,off,rfl,hg,c0,c1⟩:=HC.out k _ htk
   rw[getI_step id l k _ htk] at hf
   by_cases he:x=id
   ·rw[if_pos he] at hf
    have HF:=Lib.hid hf
    clear hf
    subst he
    go_wp2_with fail
    refine bodyPost_ret (results_tmp2 rfl _ _ _) rfl ⟨?_,rfl⟩
    rw[HF.out];rfl
   ·rw[if_neg he] at hf
    have HF:=Lib.hid hf
    clear hf
    have hne:((x:Int) == (id:Int))=false:=by rw[beq_eq_false_iff_ne];omega
    go_wp2_with fail
    go_round
    case rel=>exact⟨k+1,by omega,by go_num,HF.out⟩
    case measure=>simp[intOf];omega
  ·obtain rfl:k=l.length:=by omega
   rw[List.drop_length,getI] at hf
   have HF:=Lib.hid hf
   clear hf
   go_wp2_with fail
   refine bodyPost_ret (results_tmp2 rfl _ _ _) rfl ⟨?_,rfl⟩
   rw[HF.out];rfl
def overI (l:List It) (m M:Int):Bool:=decide (M<bytesI l) || decide (m<(l.length:Int))
set_option maxHeartbeats 1000000 in
theorem over_any (v:Value) (l:List It) (m M:Int) (w:World) (hv:ItsAt w v l) (hsz:∀ t ∈ l,t.2.size≤maxLen) (hM0:0≤M) (hM1:M≤1000000) :
  Calls Tryz.prog 7 #[v,.int .i64 m,.int .i64 M] w fun e w'=>e=.returned (.bool (overI l m M))∧w'=w:=by
 obtain⟨al,cap,rfl,hcap,hmx,hc⟩:=hv
 have HC:=Lib.hid hc
 have hmx':l.length≤maxLen:=by omega
 unfold maxLen at hmx'
 clear hc
 go_enter Tryz.func7,Tryz.ntmps7
 go_wp2_with fail
 go_loop [2,7] (fun n i=>∃ k:Nat,k≤l.length∧i=.int .i64 k∧n=.int .i64 (M - (bytesI (l.take k):Int))∧(bytesI (l.take k):Int)≤M) (fun _ i=>l.length - (intOf i).toNat)
 case atStart=>exact⟨0,Nat.zero_le _,rfl,by simp[bytesI],by simp[bytesI];exact hM0⟩
 case round =>
  obtain⟨k,hk,rfl,rfl,hle⟩:=hrel
  by_cases hlt:k<l.length
  ·obtain⟨⟨x,s⟩,htk⟩:∃ t,l[k]?=some t:=⟨_,List.getElem?_eq_getElem hlt⟩
   obtain⟨g,off,rfl,hg,c0,c1⟩:=HC.out k _ htk
   have hts:=hsz _ (List.mem_of_getElem? htk)
   have h1:=bytesI_step l k _ htk
   have h2:=bytesI_take l (k+1)
   have HS:=Lib.hid h1
   simp only at HS h1 hts
   unfold maxLen at hts
   generalize bytesI (l.take k)=q at *
   have hw:IntKind.i64.wrap (M - (q:Int) - (s.size:Int))=M - (q:Int) - (s.size:Int):=by rw[IntKind.wrap_i64] <;> omega
   by_cases hn:M - (q:Int) - (s.size:Int)<0
   ·have HO:=Lib.hid (show overI l m M=true by unfold overI;rw[Bool.or_eq_true,decide_eq_true_eq];left;omega)
    go_wp2_with fail
    go_ret
    exact⟨by rw[HO.out];rfl,rfl⟩
   ·go_wp2_with fail
    go_round
    case rel=>exact⟨k+1,by omega,by go_num,by rw[HS.out];go_num,by rw[HS.out];omega⟩
    case measure=>simp[intOf];omega
  ·obtain rfl:k=l.length:=by omega
   rw[List.take_length] at hle ⊢
   have HO:=Lib.hid (show overI l m M=decide (m<(l.length:Int)) by unfold overI;rw[decide_eq_false (by omega),Bool.false_or])
   go_wp2_with fail
   go_ret
   exact⟨by rw[HO.out];rfl,rfl⟩
def OwnEnd (E:TypeId) (l:List It) (w:World) (e:Ending) (w':World):Prop:=∃ v,e=.returned v∧OwnIt w' w.heap.size E v l∧Below w.heap.size w w'
set_option maxHeartbeats 1000000 in
theorem rdel_any (v:Value) (l:List It) (id:Nat) (w:World) (hv:ItsAt w v l) (hl:l.length≤100000) :
  Calls Tryz.prog 67 #[v,.int .u64 id] w (OwnEnd 74 (delI id l) w):=by
 obtain⟨al,cap,rfl,hcap,hmx,hc⟩:=hv
 have HC:=Lib.hid hc
 have hmx':l.length≤maxLen:=by omega
 unfold maxLen at hmx'
 clear hc
 go_enter Tryz.func67,Tryz.ntmps67
 go_wp2_with fail
 go_loopw [5,6] (fun u i wr=>∃ k:Nat,k≤l.length∧i=.int .i64 k∧OwnIt wr w.heap.size 74 u (delI id (l.take k))∧Below w.heap.size w wr) (fun _ i _=>l.length - (intOf i).toNat)
 case atStart=>exact⟨0,Nat.zero_le _,rfl,ownIt_nil _ _ _,Below.refl _ _⟩
 case round =>
  obtain⟨k,hk,rfl,hown,hbw⟩:=hrel
  by_cases hlt:k<l.length
  ·obtain⟨⟨x,s⟩,htk⟩:∃ t,l[k]?=some t:=⟨_,List.getElem?_eq_getElem hlt⟩
   obtain⟨g,off,rfl,hg,c0,c1⟩:=HC.out k _ htk
   have HS:=Lib.hid (delI_step id l k _ htk)
   have hlen:=delI_len id (l.take k)
   rw[List.length_take] at hlen
   have d0:=(hbw.cell (p:=⟨g,off+k*2,none⟩) hg).trans c0
   have d1:=(hbw.cell (p:=⟨g,off+k*2+1,none⟩) hg).trans c1
   have d2:=Nat.lt_of_lt_of_le hg hbw.size
   by_cases he:x=id
   ·have HO:=Lib.hid hown
    have HB:=Lib.hid hbw
    clear hown hbw
    have hs:delI id (l.take (k+1))=delI id (l.take k):=by rw[HS.out,if_pos he]
    have HS2:=Lib.hid hs
    clear hs HS c0 c1
    subst he
    go_wp2_with fail
    go_roundw
    case rel=>exact⟨k+1,by omega,by go_num,by rw[HS2.out];exact HO.out,HB.out⟩
    case measure=>simp[intOf];omega
   ·have hs:delI id (l.take (k+1))=delI id (l.take k)++[(x,s)]:=by rw[HS.out,if_neg he]
    have HS2:=Lib.hid hs
    have hne:((x:Int) != (id:Int))=true:=by simp;omega
    have hb2:Below w.heap.size w (wr.alloc (.cells #[.int .u64 x,.string s] 74)):=hbw.alloc hbw.size _
    obtain⟨v',w',hr,hown',hgr⟩:=itappend_run (wr.alloc (.cells #[.int .u64 x,.string s] 74)) w.heap.size 22 74 22 _ Tryz.underlying22 infoIt rfl _ _ _ [(x,s)] (hown.below (Below.alloc (Below.refl _ _) (Nat.le_refl _) _)) (it_lit wr x s _) (by simp;omega) hb2.size
    have HO:=Lib.hid hown'
    have HB:=Lib.hid (Below.grown hb2 hgr hb2.size (fun k hk=>(hown.lt k hk).1))
    clear hown hbw hs HS c0 c1 hb2 hown' hgr
    go_wp2_with (first|(at_builtin;refine Lib.wpList_append_run _ rfl _ _ _ _ rfl _ _ rfl rfl _ _ hr ?_)|fail)
    go_roundw
    case rel=>exact⟨k+1,by omega,by go_num,by rw[HS2.out];exact HO.out,HB.out⟩
    case measure=>simp[intOf];omega
  ·obtain rfl:k=l.length:=by omega
   rw[List.take_length] at hown
   go_wp2_with fail
   go_ret
   exact⟨_,rfl,hown,hbw⟩
theorem low_take (id:Nat) (r:List It):r.take (lowI id r).length=lowI id r:=by
 conv=>lhs;arg 2;rw[← low_high id r]
 exact List.take_left
theorem low_drop (id:Nat) (r:List It):r.drop (lowI id r).length=highI id r:=by
 conv=>lhs;arg 2;rw[← low_high id r]
 exact List.drop_left
theorem low_le (id:Nat) (r:List It):(lowI id r).length≤r.length:=by
 have:=congrArg List.length (low_high id r)
 rw[List.length_append] at this
 omega
theorem low_at (id:Nat) (r:List It):∀ k,k<(lowI id r).length→∃ t,r[k]?=some t∧t.1<id:=by
 induction r with
 | nil=>intro k h;simp[lowI] at h
 | cons x r ih =>
  intro k h
  unfold lowI at h
  rw[List.takeWhile_cons] at h
  by_cases hx:x.1<id
  ·rw[if_pos (by simpa using hx)] at h
   cases k with
   | zero=>exact⟨x,rfl,hx⟩
   | succ k=>exact ih k (by simpa[lowI] using h)
  ·rw[if_neg (by simpa using hx)] at h
   simp at h
theorem low_end (id:Nat) (r:List It):∀ t,r[(lowI id r).length]?=some t→¬ t.1<id:=by
 induction r with
 | nil=>intro t h;simp at h
 | cons x r ih =>
  intro t h
  unfold lowI at h
  rw[List.takeWhile_cons] at h
  by_cases hx:x.1<id
  ·rw[if_pos (by simpa using hx)] at h
   exact ih t (by simpa[lowI] using h)
  ·rw[if_neg (by simpa using hx)] at h
   simp at h
   subst h
   exact hx
theorem OwnIt.form {w:World} {B:Nat} {E:TypeId} {v:Value} {l:List It} (h:OwnIt w B E v l) :
  (v=.slice none 0 0∧l=[])∨∃ g cap,v=.slice (some ⟨g,0,none⟩) l.length cap∧B≤g∧g<w.heap.size∧l.length≤cap∧cap≤maxLen∧(∀ k t,l[k]?=some t→w.cell? ⟨g,k*2,none⟩=some (.int .u64 t.1)∧w.cell? ⟨g,k*2+1,none⟩=some (.string t.2)):=by
 have hlt:=h.lt
 have h':=h
 obtain⟨h1,h2⟩:=h
 rcases h2 with ⟨rfl,hn⟩|⟨g,cap,cur,rfl,hg,hh,hle,hm,_⟩
 ·exact .inl ⟨rfl,List.eq_nil_of_length_eq_zero hn⟩
 ·refine .inr ⟨g,cap,rfl,hg,(hlt g rfl).2,hle,hm,fun k t ht=>?_⟩
  have hk:=(List.getElem?_eq_some_iff.1 ht).1
  obtain⟨f0,f1⟩:=flatI_at l k t ht
  exact⟨(World.ownsRow.cellAt h' (k*2) (by omega)).trans f0,(World.ownsRow.cellAt h' (k*2+1) (by omega)).trans f1⟩
theorem its_pre {w:World} {g cap:Nat} {l:List It} (k:Nat) (hk:k≤l.length) (hg:g<w.heap.size) (h1:l.length≤cap) (h2:cap≤maxLen) (hc:∀ k t,l[k]?=some t→w.cell? ⟨g,k*2,none⟩=some (.int .u64 t.1)∧w.cell? ⟨g,k*2+1,none⟩=some (.string t.2)):ItsAt w (.slice (some ⟨g,0,none⟩) k cap) (l.take k):=by
 have e:(l.take k).length=k:=by rw[List.length_take];omega
 refine⟨_,cap,by rw[e],by omega,h2,fun j t ht=>⟨g,0,rfl,hg,?_⟩⟩
 have hj:j<k:=by have:=(List.getElem?_eq_some_iff.1 ht).1;omega
 rw[List.getElem?_take,if_pos hj] at ht
 rw[Nat.zero_add]
 exact hc j t ht
theorem its_post {w:World} {g cap:Nat} {l:List It} (k:Nat) (hk:k≤l.length) (hg:g<w.heap.size) (h1:l.length≤cap) (h2:cap≤maxLen) (hc:∀ k t,l[k]?=some t→w.cell? ⟨g,k*2,none⟩=some (.int .u64 t.1)∧w.cell? ⟨g,k*2+1,none⟩=some (.string t.2)):ItsAt w (.slice (some ⟨g,k*2,none⟩) (l.length - k) (cap - k)) (l.drop k):=by
 refine⟨_,cap - k,by rw[List.length_drop],by rw[List.length_drop];omega,by omega,fun j t ht=>⟨g,k*2,rfl,hg,?_⟩⟩
 rw[List.getElem?_drop] at ht
 have:=hc (k+j) t ht
 rw[show k*2+j*2=(k+j)*2 by omega]
 exact this
theorem its_zero {w:World} {a:Option Addr} {l:List It} (k:Nat) (hk:l.length≤k):ItsAt w (.slice a (l.length - k) 0) (l.drop k):=by
 have:l.drop k=[]:=List.drop_of_length_le hk
 rw[this]
 exact⟨a,0,by rw[show l.length - k=0 by omega];rfl,by simp,by simp,fun j t ht=>by simp at ht⟩
theorem OwnIt.slice {w:World} {B:Nat} {E:TypeId} {v:Value} {l:List It} (h:OwnIt w B E v l):∃ a cap,v=.slice a l.length cap:=by
 rcases h.form with ⟨rfl,rfl⟩|⟨g,cap,rfl,_⟩
 ·exact⟨none,0,rfl⟩
 ·exact⟨_,cap,rfl⟩
def RPutEnd (l:List It) (id:Nat) (s:ByteArray) (w:World) (e:Ending) (w':World):Prop :=
 ∃ v',e=.returned (.tuple #[v',.int .i64 (putE l id s:Nat)])∧ItsAt w' v' (putL l id s)∧Below w.heap.size w w'
theorem rput_err (v:Value) (l:List It) (id n:Nat) (s:ByteArray) (w:World) (hv:ItsAt w v l) (hn:putE l id s=n) (h0:n≠0):∀ e,e=Ending.returned (.tuple #[v,.int .i64 (n:Nat)])→RPutEnd l id s w e w:=by
 rintro e rfl
 refine⟨v,by rw[hn],?_,Below.refl _ _⟩
 unfold putL
 rw[hn,if_neg h0]
 exact hv
set_option maxHeartbeats 1000000 in
theorem rput_no (v:Value) (l:List It) (id:Nat) (s:ByteArray) (w:World) (hv:ItsAt w v l) (hid:id<18446744073709551616) (h:putE l id s≠0):Calls Tryz.prog 30 #[v,.int .u64 id,.string s] w (RPutEnd l id s w):=by
 have HV:=Lib.hid (rput_err v l id _ s w hv rfl h)
 have HG:=Lib.hid (rget_anyC v l id w hv)
 obtain⟨n,hn⟩:∃ n,putE l id s=n:=⟨_,rfl⟩
 rw[hn] at HV h
 unfold putE at hn
 obtain⟨al,cap,rfl,hcap,hmx,hc⟩:=hv
 clear hc
 by_cases h1:6004799503160661≤id
 ·rw[if_pos h1] at hn
  subst hn
  have h1':(6004799503160661:Int)≤(id:Int):=by omega
  go_enter Tryz.func30,Tryz.ntmps30
  go_wp2_with fail
  exact bodyPost_ret (results_tmp2 rfl _ _ _) rfl (HV.out _ rfl)
 ·rw[if_neg h1] at hn
  have h1':¬ (6004799503160661:Int)≤(id:Int):=by omega
  by_cases h2:s.size=0
  ·rw[if_pos h2] at hn
   subst hn
   have h2':((s.size:Int) == 0)=true:=by rw[beq_iff_eq];omega
   go_enter Tryz.func30,Tryz.ntmps30
   go_wp2_with fail
   exact bodyPost_ret (results_tmp2 rfl _ _ _) rfl (HV.out _ rfl)
  ·rw[if_neg h2] at hn
   have h2':((s.size:Int) == 0)=false:=by rw[beq_eq_false_iff_ne];omega
   by_cases h3:65536<s.size
   ·rw[if_pos h3] at hn
    subst hn
    have h3':(65536:Int)<(s.size:Int):=by omega
    go_enter Tryz.func30,Tryz.ntmps30
    go_wp2_with fail
    exact bodyPost_ret (results_tmp2 rfl _ _ _) rfl (HV.out _ rfl)
   ·rw[if_neg h3] at hn
    have h3':¬ (65536:Int)<(s.size:Int):=by omega
    cases hg:getI id l with
    | some t=>rw[hg] at hn;simp at hn;exact absurd hn.symm h
    | none =>
     rw[hg] at hn HG
     by_cases h4:2048≤l.length
     ·simp[h4] at hn
      subst hn
      have h4':decide ((2048:Int)≤(l.length:Int))=true:=decide_eq_true (by omega)
      rw[show (none:Option ByteArray).isSome=false from rfl] at HG
      generalize getT none=gt at *
      go_enter Tryz.func30,Tryz.ntmps30
      go_wp2_with fail
      refine HG.out.mono ?_
      rintro y w1 ⟨rfl,rfl⟩
      go_wp2_with fail
      exact bodyPost_ret (results_tmp2 rfl _ _ _) rfl (HV.out _ rfl)
     ·simp[h4] at hn;exact absurd hn.symm h
set_option maxRecDepth 20000 in
set_option maxHeartbeats 2000000 in
theorem rput_yes (v:Value) (l:List It) (id:Nat) (s:ByteArray) (w:World) (hv:ItsAt w v l) (hl:l.length≤100000) (h:putE l id s=0):Calls Tryz.prog 30 #[v,.int .u64 id,.string s] w (RPutEnd l id s w):=by
 have HG:=Lib.hid (rget_anyC v l id w hv)
 have HD:=Lib.hid (rdel_any v l id w hv hl)
 have hlen:=delI_len id l
 have hE:=h
 have hL:=Lib.hid (show putL l id s=putI id s l by unfold putL;rw[if_pos h])
 have E:=Lib.hid h
 unfold putE at h
 by_cases h1:6004799503160661≤id
 ·rw[if_pos h1] at h;omega
 rw[if_neg h1] at h
 by_cases h2:s.size=0
 ·rw[if_pos h2] at h;omega
 rw[if_neg h2] at h
 by_cases h3:65536<s.size
 ·rw[if_pos h3] at h;omega
 rw[if_neg h3] at h
 have h1':¬ (6004799503160661:Int)≤(id:Int):=by omega
 have h2':((s.size:Int) == 0)=false:=by rw[beq_eq_false_iff_ne];omega
 have h3':¬ (65536:Int)<(s.size:Int):=by omega
 have h4:((getI id l).isSome=true)∨((getI id l).isSome=false∧decide ((2048:Int)≤(l.length:Int))=false):=by
  cases hg:getI id l with
  | some t=>exact .inl rfl
  | none =>
   refine .inr ⟨rfl,decide_eq_false ?_⟩
   rw[hg] at h
   intro hq
   have:2048≤l.length:=by omega
   simp[this] at h
 obtain⟨al,cap,rfl,hcap,hmx,hc⟩:=hv
 clear hc h hE
 generalize getT (getI id l)=gt at *
 generalize (getI id l).isSome=gb at *
 generalize hr:delI id l=r at *
 go_enter Tryz.func30,Tryz.ntmps30
 go_wp2_with fail
 refine HG.out.mono ?_
 rintro y w1 ⟨rfl,rfl⟩
 rcases h4 with rfl|⟨rfl,h4⟩
 all_goals
  go_wp2_with fail
  refine HD.out.mono ?_
  rintro y w2 ⟨vr,rfl,hown,hb⟩
  rcases hown.form with ⟨rfl,rfl⟩|⟨g,cap2,rfl,hB,hg,hq1,hq2,hcells⟩
  ·obtain⟨v1,w3,hr1,hown1,hgr1⟩:=itappend_run w2 w2.heap.size 22 74 22 _ Tryz.underlying22 infoIt rfl (.slice none 0 0) (.slice none 0 0) [] [] (ownIt_nil _ _ _) (its_nil _) (by simp) (Nat.le_refl _)
   have hb1:Below w2.heap.size w2 w3:=Below.grown (Below.refl _ _) hgr1 (Nat.le_refl _) (fun k hk=>by cases hk)
   have hb2:Below w2.heap.size w2 (w3.alloc (.cells #[.int .u64 id,.string s] 74)):=hb1.alloc hb1.size _
   obtain⟨v2,w4,hr2,hown2,hgr2⟩:=itappend_run (w3.alloc (.cells #[.int .u64 id,.string s] 74)) w2.heap.size 22 74 22 _ Tryz.underlying22 infoIt rfl v1 _ _ [(id,s)] (hown1.below (Below.alloc (Below.refl _ _) (Nat.le_refl _) _)) (it_lit w3 id s _) (by simp) hb2.size
   have hb3:Below w2.heap.size w2 w4:=Below.grown hb2 hgr2 hb2.size (fun k hk=>(hown1.lt k hk).1)
   obtain⟨v3,w5,hr3,hown3,hgr3⟩:=itappend_run w4 w2.heap.size 22 74 22 _ Tryz.underlying22 infoIt rfl v2 (.slice none 0 0) _ [] hown2 (its_nil _) (by simp) hb3.size
   have hb4:Below w2.heap.size w2 w5:=Below.grown hb3 hgr3 hb3.size (fun k hk=>(hown2.lt k hk).1)
   have HB:=Lib.hid (hb.trans (hb4.mono hb.size))
   have hput:putL l id s=[]++[]++[(id,s)]++[]:=by
    rw[hL.out]
    unfold putI
    rw[hr]
    rfl
   have HO:=Lib.hid (show ItsAt w5 v3 (putL l id s) by rw[hput];exact hown3.itsAt)
   obtain⟨a1,cap1,rfl⟩:=hown1.slice
   obtain⟨a2,cap2',rfl⟩:=hown2.slice
   simp only[List.append_nil,List.nil_append,List.length_nil,List.length_singleton] at hr2 hr3
   clear hown1 hown2 hown3 hgr1 hgr2 hgr3 hb1 hb2 hb3 hb4 hb hput hown
   go_wp2_with fail
   go_loop [11] (fun i=>i=.int .i64 0) (fun i=>0)
   case atStart=>rfl
   case round =>
    subst hrel
    go_wp2_with (first|(at_builtin;refine Lib.wpList_append_run _ rfl _ _ _ _ rfl _ _ rfl rfl _ _ hr1 ?_;clear hr1)|(at_builtin;refine Lib.wpList_append_run _ rfl _ _ _ _ rfl _ _ rfl rfl _ _ hr2 ?_;clear hr2)|(at_builtin;refine Lib.wpList_append_run _ rfl _ _ _ _ rfl _ _ rfl rfl _ _ hr3 ?_;clear hr3)|fail)
    refine bodyPost_ret (results_tmp2 rfl _ _ _) rfl ⟨_,?_,HO.out,HB.out⟩
    rw[E.out];rfl
  ·have HC:=Lib.hid hcells
   have HLo:=Lib.hid (low_at id r)
   have hlo:=low_le id r
   have hLe:=Lib.hid (low_end id r)
   generalize hn:(lowI id r).length=n at *
   go_wp2_with fail
   go_loop [11] (fun i=>∃ k:Nat,k≤n∧i=.int .i64 k) (fun i=>n - (intOf i).toNat)
   case atStart=>exact⟨0,Nat.zero_le _,rfl⟩
   case round =>
    obtain⟨k,hk,rfl⟩:=hrel
    by_cases hlt:k<n
    ·obtain⟨⟨x,t⟩,htk,hx⟩:=HLo.out k hlt
     obtain⟨c0,c1⟩:=HC.out k _ htk
     have hkr:(k:Int)<(r.length:Int):=by omega
     have hx':(x:Int)<(id:Int):=by simp only at hx;omega
     go_wp2_with fail
     go_round
     case rel=>exact⟨k+1,by omega,by go_num⟩
     case measure=>simp[intOf];omega
    ·have hkn:k=n:=by omega
     subst hkn
     have hend:((k:Int)<(r.length:Int)∧∃ x t,r[k]?=some (x,t)∧¬ (x:Int)<(id:Int))∨¬ (k:Int)<(r.length:Int):=by
      by_cases hq:k<r.length
      ·obtain⟨⟨x,t⟩,ht⟩:∃ t,r[k]?=some t:=⟨_,List.getElem?_eq_getElem hq⟩
       have:=hLe.out _ ht
       exact .inl ⟨by omega,x,t,ht,by simp only at this;omega⟩
      ·exact .inr (by omega)
     have hpre:=its_pre k hlo hg hq1 hq2 hcells
     have hpost:=its_post k hlo hg hq1 hq2 hcells
     have hlp:(r.take k).length=k:=by rw[List.length_take];omega
     obtain⟨v1,w3,hr1,hown1,hgr1⟩:=itappend_run w2 w2.heap.size 22 74 22 _ Tryz.underlying22 infoIt rfl (.slice none 0 0) _ [] (r.take k) (ownIt_nil _ _ _) hpre (by simp;omega) (Nat.le_refl _)
     rw[List.nil_append] at hown1
     have hb1:Below w2.heap.size w2 w3:=Below.grown (Below.refl _ _) hgr1 (Nat.le_refl _) (fun k hk=>by cases hk)
     have hb2:Below w2.heap.size w2 (w3.alloc (.cells #[.int .u64 id,.string s] 74)):=hb1.alloc hb1.size _
     obtain⟨v2,w4,hr2,hown2,hgr2⟩:=itappend_run (w3.alloc (.cells #[.int .u64 id,.string s] 74)) w2.heap.size 22 74 22 _ Tryz.underlying22 infoIt rfl v1 _ _ [(id,s)] (hown1.below (Below.alloc (Below.refl _ _) (Nat.le_refl _) _)) (it_lit w3 id s _) (by simp only[List.length_singleton];omega) hb2.size
     have hb3:Below w2.heap.size w2 w4:=Below.grown hb2 hgr2 hb2.size (fun k hk=>(hown1.lt k hk).1)
     have hlq:(r.take k++[(id,s)]).length=k+1:=by rw[List.length_append,hlp];rfl
     have hput:putL l id s=r.take k++[(id,s)]++r.drop k:=by
      rw[hL.out]
      unfold putI
      rw[hr,← low_take id r,← low_drop id r,hn,List.append_assoc]
      rfl
     rcases hend with ⟨e1,x,t,e2,e3⟩|e1
     ·obtain⟨c0,c1⟩:=hcells k _ e2
      obtain⟨v3,w5,hr3,hown3,hgr3⟩:=itappend_run w4 w2.heap.size 22 74 22 _ Tryz.underlying22 infoIt rfl v2 _ _ (r.drop k) hown2 (hpost.below hb3) (by rw[List.length_drop];omega) hb3.size
      have hb4:Below w2.heap.size w2 w5:=Below.grown hb3 hgr3 hb3.size (fun k hk=>(hown2.lt k hk).1)
      have HB:=Lib.hid (hb.trans (hb4.mono hb.size))
      have HO:=Lib.hid (show ItsAt w5 v3 (putL l id s) by rw[hput];exact hown3.itsAt)
      obtain⟨a1,cap1,rfl⟩:=hown1.slice
      obtain⟨a2,cap2',rfl⟩:=hown2.slice
      rw[hlp] at hr2
      rw[hlq] at hr3
      have HC:=Lib.hid hcells
      clear hcells hpre hpost hown1 hown2 hown3 hgr1 hgr2 hgr3 hb1 hb2 hb3 hb4 hb hput hown
      go_wp2_with (first|(at_builtin;refine Lib.wpList_append_run _ rfl _ _ _ _ rfl _ _ rfl rfl _ _ hr1 ?_;clear hr1)|(at_builtin;refine Lib.wpList_append_run _ rfl _ _ _ _ rfl _ _ rfl rfl _ _ hr2 ?_;clear hr2)|(at_builtin;refine Lib.wpList_append_run _ rfl _ _ _ _ rfl _ _ rfl rfl _ _ hr3 ?_;clear hr3)|fail)
      refine bodyPost_ret (results_tmp2 rfl _ _ _) rfl ⟨_,?_,HO.out,HB.out⟩
      rw[E.out];rfl
     ·by_cases hck:cap2=k
      ·have hpz:ItsAt w4 (.slice (some ⟨g,0,none⟩) (r.length - k) 0) (r.drop k):=its_zero k (by omega)
       obtain⟨v3,w5,hr3,hown3,hgr3⟩:=itappend_run w4 w2.heap.size 22 74 22 _ Tryz.underlying22 infoIt rfl v2 _ _ (r.drop k) hown2 hpz (by rw[List.length_drop];omega) hb3.size
       have hb4:Below w2.heap.size w2 w5:=Below.grown hb3 hgr3 hb3.size (fun k hk=>(hown2.lt k hk).1)
       have HB:=Lib.hid (hb.trans (hb4.mono hb.size))
       have HO:=Lib.hid (show ItsAt w5 v3 (putL l id s) by rw[hput];exact hown3.itsAt)
       obtain⟨a1,cap1,rfl⟩:=hown1.slice
       obtain⟨a2,cap2',rfl⟩:=hown2.slice
       rw[hlp] at hr2
       rw[hlq] at hr3
       have HC:=Lib.hid hcells
       clear hpz hcells hpre hpost hown1 hown2 hown3 hgr1 hgr2 hgr3 hb1 hb2 hb3 hb4 hb hput hown
       go_wp2_with (first|(at_builtin;refine Lib.wpList_append_run _ rfl _ _ _ _ rfl _ _ rfl rfl _ _ hr1 ?_;clear hr1)|(at_builtin;refine Lib.wpList_append_run _ rfl _ _ _ _ rfl _ _ rfl rfl _ _ hr2 ?_;clear hr2)|(at_builtin;refine Lib.wpList_append_run _ rfl _ _ _ _ rfl _ _ rfl rfl _ _ hr3 ?_;clear hr3)|fail)
       refine bodyPost_ret (results_tmp2 rfl _ _ _) rfl ⟨_,?_,HO.out,HB.out⟩
       rw[E.out];rfl
      ·have hdu:=hck
       obtain⟨v3,w5,hr3,hown3,hgr3⟩:=itappend_run w4 w2.heap.size 22 74 22 _ Tryz.underlying22 infoIt rfl v2 _ _ (r.drop k) hown2 (hpost.below hb3) (by rw[List.length_drop];omega) hb3.size
       have hb4:Below w2.heap.size w2 w5:=Below.grown hb3 hgr3 hb3.size (fun k hk=>(hown2.lt k hk).1)
       have HB:=Lib.hid (hb.trans (hb4.mono hb.size))
       have HO:=Lib.hid (show ItsAt w5 v3 (putL l id s) by rw[hput];exact hown3.itsAt)
       obtain⟨a1,cap1,rfl⟩:=hown1.slice
       obtain⟨a2,cap2',rfl⟩:=hown2.slice
       rw[hlp] at hr2
       rw[hlq] at hr3
       have HC:=Lib.hid hcells
       clear hcells hpre hpost hown1 hown2 hown3 hgr1 hgr2 hgr3 hb1 hb2 hb3 hb4 hb hput hown
       go_wp2_with (first|(at_builtin;refine Lib.wpList_append_run _ rfl _ _ _ _ rfl _ _ rfl rfl _ _ hr1 ?_;clear hr1)|(at_builtin;refine Lib.wpList_append_run _ rfl _ _ _ _ rfl _ _ rfl rfl _ _ hr2 ?_;clear hr2)|(at_builtin;refine Lib.wpList_append_run _ rfl _ _ _ _ rfl _ _ rfl rfl _ _ hr3 ?_;clear hr3)|fail)
       refine bodyPost_ret (results_tmp2 rfl _ _ _) rfl ⟨_,?_,HO.out,HB.out⟩
       rw[E.out];rfl
theorem rput_any (v:Value) (l:List It) (id:Nat) (s:ByteArray) (w:World) (hv:ItsAt w v l) (hl:l.length≤100000) (hid:id<18446744073709551616):Calls Tryz.prog 30 #[v,.int .u64 id,.string s] w (RPutEnd l id s w):=by
 by_cases h:putE l id s=0
 ·exact rput_yes v l id s w hv hl h
 ·exact rput_no v l id s w hv hid h
end Go.Proofs.YtdnmgpcfgcidbaaGreatDoor
namespace Go.Proofs.YtdnmgpcfgcidbaaGreatDoor
set_option linter.unusedVariables false
set_option linter.unusedSimpArgs false
theorem mem_low {id:Nat} {l:List It} {t:It} (h:t ∈ lowI id l):t.1<id:=by
 unfold lowI at h
 induction l with
 | nil=>simp at h
 | cons x l ih =>
  rw[List.takeWhile_cons] at h
  split at h
  ·rename_i hx
   rcases List.mem_cons.1 h with rfl|h
   ·simpa using hx
   ·exact ih h
  ·simp at h
theorem mem_lh (id:Nat) (l:List It) (t:It):t ∈ l↔t ∈ lowI id l∨t ∈ highI id l:=by
 conv=>lhs;rw[← low_high id l]
 exact List.mem_append
theorem high_ge {id:Nat} {l:List It} (hr:Rise l):∀ t ∈ highI id l,id≤t.1:=by
 unfold highI
 induction l with
 | nil=>intro t h;simp at h
 | cons x l ih =>
  intro t h
  rw[List.dropWhile_cons] at h
  split at h
  ·exact ih (List.pairwise_cons.1 hr).2 t h
  ·rename_i hx
   rcases List.mem_cons.1 h with rfl|h
   ·simpa using hx
   ·have:=(List.pairwise_cons.1 hr).1 t h
    have hx':¬ x.1<id:=by simpa using hx
    omega
theorem del_rise {id:Nat} {l:List It} (hr:Rise l):Rise (delI id l):=List.Pairwise.sublist List.filter_sublist hr
theorem mem_del (id:Nat) (l:List It) (t:It):t ∈ delI id l↔t ∈ l∧t.1≠id:=by
 unfold delI
 rw[List.mem_filter]
 simp
theorem mem_put (id:Nat) (s:ByteArray) (l:List It) (t:It):t ∈ putI id s l↔t=(id,s)∨(t ∈ l∧t.1≠id):=by
 unfold putI
 rw[List.mem_append,List.mem_cons,← mem_del,mem_lh id (delI id l) t]
 constructor
 ·rintro(h|h|h)
  ·exact .inr (.inl h)
  ·exact .inl h
  ·exact .inr (.inr h)
 ·rintro(h|h|h)
  ·exact .inr (.inl h)
  ·exact .inl h
  ·exact .inr (.inr h)
theorem put_rise (id:Nat) (s:ByteArray) {l:List It} (hr:Rise l):Rise (putI id s l):=by
 have hd:=del_rise (id:=id) hr
 have hsplit:=low_high id (delI id l)
 have hp:Rise (lowI id (delI id l)++highI id (delI id l)):=by rw[hsplit];exact hd
 unfold Rise at hp
 rw[List.pairwise_append] at hp
 unfold Rise putI
 rw[List.pairwise_append,List.pairwise_cons]
 refine⟨hp.1,⟨fun t ht=>?_,hp.2.1⟩,fun a ha b hb=>?_⟩
 ·have h1:=high_ge hd t ht
  have h2:t ∈ delI id l:=(mem_lh id _ t).2 (.inr ht)
  have h3:=(mem_del id l t).1 h2
  show id<t.1
  omega
 ·rcases List.mem_cons.1 hb with rfl|hb
  ·exact mem_low ha
  ·exact hp.2.2 a ha b hb
theorem del_len_lt {id:Nat} {l:List It} {t:It} (h:t ∈ l) (ht:t.1=id):(delI id l).length+1≤l.length:=by
 induction l with
 | nil=>simp at h
 | cons x l ih =>
  have hle:=delI_len id l
  unfold delI at hle ih ⊢
  by_cases hx:x.1=id
  ·rw[List.filter_cons_of_neg (by simpa using hx),List.length_cons]
   omega
  ·rw[List.filter_cons_of_pos (by simpa using hx),List.length_cons,List.length_cons]
   rcases List.mem_cons.1 h with rfl|h
   ·exact absurd ht hx
   ·have:=ih h;omega
theorem put_len (id:Nat) (s:ByteArray) (l:List It):(putI id s l).length=(delI id l).length+1:=by
 have h1:=congrArg List.length (low_high id (delI id l))
 rw[List.length_append] at h1
 unfold putI
 rw[List.length_append,List.length_cons]
 omega
theorem getI_some (id:Nat) (l:List It):(getI id l).isSome=true↔∃ t ∈ l,t.1=id:=by
 have h:=getI_none id l
 cases hg:getI id l with
 | none =>
  rw[hg] at h
  constructor
  ·intro hh;cases hh
  ·rintro⟨t,ht,e⟩
   exact absurd e ((h.1 rfl) t ht)
 | some s =>
  refine⟨fun _=>?_,fun _=>rfl⟩
  rcases Classical.em (∃ t ∈ l,t.1=id) with h2|h2
  ·exact h2
  ·exfalso
   have:getI id l=none:=(getI_none id l).2 (fun t ht e=>h2 ⟨t,ht,e⟩)
   rw[this] at hg
   cases hg
theorem good_put {id:Nat} {s:ByteArray} {l:List It} (h:GoodC l):GoodC (putL l id s):=by
 unfold putL
 split
 ·rename_i he
  unfold putE at he
  by_cases h1:6004799503160661≤id
  ·rw[if_pos h1] at he;cases he
  rw[if_neg h1] at he
  by_cases h2:s.size=0
  ·rw[if_pos h2] at he;cases he
  rw[if_neg h2] at he
  by_cases h3:65536<s.size
  ·rw[if_pos h3] at he;cases he
  rw[if_neg h3] at he
  refine⟨put_rise id s h.rise,fun t ht=>?_,fun t ht=>?_,fun t ht=>?_,?_⟩
  ·rcases(mem_put id s l t).1 ht with rfl|h4
   ·show id<_;omega
   ·exact h.low t h4.1
  ·rcases(mem_put id s l t).1 ht with rfl|h4
   ·show 0<s.size;omega
   ·exact h.pos t h4.1
  ·rcases(mem_put id s l t).1 ht with rfl|h4
   ·show s.size≤_;omega
   ·exact h.short t h4.1
  ·rw[put_len]
   have hf:=h.few
   cases hg:getI id l with
   | none =>
    rw[hg] at he
    have h5:¬ 2048≤l.length:=by
     intro h6
     rw[if_pos (by simp[h6])] at he
     cases he
    have:=delI_len id l
    omega
   | some x =>
    obtain⟨t,ht,e⟩:=(getI_some id l).1 (by rw[hg];rfl)
    have:=del_len_lt ht e
    omega
 ·exact h
theorem rise_ext:∀ {a b:List It},Rise a→Rise b→(∀ t,t ∈ a↔t ∈ b)→a=b
 | [],[],_,_,_=>rfl
 | [],y :: b,_,_,h=>by have:=(h y).2 (by simp);simp at this
 | x :: a,[],_,_,h=>by have:=(h x).1 (by simp);simp at this
 | x :: a,y :: b,ha,hb,h=>by
  have hx:=List.pairwise_cons.1 ha
  have hy:=List.pairwise_cons.1 hb
  have hxy:x=y:=by
   rcases List.mem_cons.1 ((h x).1 (by simp)) with e|e
   ·exact e
   ·rcases List.mem_cons.1 ((h y).2 (by simp)) with e2|e2
    ·exact e2.symm
    ·have h1:=hy.1 x e
     have h2:=hx.1 y e2
     omega
  subst hxy
  have:a=b:=rise_ext hx.2 hy.2 (fun t=>by
   constructor
   ·intro ht
    rcases List.mem_cons.1 ((h t).1 (List.mem_cons_of_mem _ ht)) with e|e
    ·subst e;have:=hx.1 t ht;omega
    ·exact e
   ·intro ht
    rcases List.mem_cons.1 ((h t).2 (List.mem_cons_of_mem _ ht)) with e|e
    ·subst e;have:=hy.1 t ht;omega
    ·exact e)
  rw[this]
end Go.Proofs.YtdnmgpcfgcidbaaGreatDoor
