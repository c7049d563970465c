/- Wg Wh Wi Wj. -/
import Derived.Test.YtjkgkmmkehnggaaGreatDoorYs
import Derived.Shelf.SlSortCmp.NoneTotal
import Derived.Test.YtjkgkmmkehnggaaGreatDoorYZ2
set_option maxHeartbeats 16000000
namespace Go.Proofs.YtjkgkmmkehnggaaGreatDoor
set_option linter.unusedVariables false
set_option linter.unusedSimpArgs false
open Go.RowKit
set_option maxRecDepth 20000
def xqt:Go.Shelf.Ren:=⟨fun|6=>186|15=>120|14=>226|28=>198|29=>199|20=>253|21=>254|22=>255|23=>256|24=>257|25=>258|26=>259|27=>260|46=>282|47=>230|48=>231|49=>283|50=>284|57=>305|n=>n,fun|22=>216|24=>214|25=>292|3=>3|39=>225|0=>0|53=>73|55=>44|4=>4|46=>298|45=>297|50=>96|5=>5|9=>9|66=>336|70=>284|76=>366|77=>220|n=>n,fun|n=>n⟩
theorem xBn:Go.Proofs.SlLaysF0.n6 Tryz.prog xqt:={
 mixed:=by kernel_rfl,
 f6:=⟨Tryz.f186.name,by decide,Tryz.func186.trans (congrArg some (by kernel_rfl))⟩,
 f14:=⟨Tryz.f226.name,by decide,Tryz.func226.trans (congrArg some (by kernel_rfl))⟩,
 f15:=Tryz.func120.trans (congrArg some (by kernel_rfl)),
 f20:=⟨Tryz.f253.name,by decide,Tryz.func253.trans (congrArg some (by kernel_rfl))⟩,
 f21:=⟨Tryz.f254.name,by decide,Tryz.func254.trans (congrArg some (by kernel_rfl))⟩,
 f22:=⟨Tryz.f255.name,by decide,Tryz.func255.trans (congrArg some (by kernel_rfl))⟩,
 f23:=⟨Tryz.f256.name,by decide,Tryz.func256.trans (congrArg some (by kernel_rfl))⟩,
 f24:=⟨Tryz.f257.name,by decide,Tryz.func257.trans (congrArg some (by kernel_rfl))⟩,
 f25:=⟨Tryz.f258.name,by decide,Tryz.func258.trans (congrArg some (by kernel_rfl))⟩,
 f26:=⟨Tryz.f259.name,by decide,Tryz.func259.trans (congrArg some (by kernel_rfl))⟩,
 f27:=⟨Tryz.f260.name,by decide,Tryz.func260.trans (congrArg some (by kernel_rfl))⟩,
 f28:=Tryz.func198.trans (congrArg some (by kernel_rfl)),
 f29:=Tryz.func199.trans (congrArg some (by kernel_rfl)),
 f46:=⟨Tryz.f282.name,by decide,Tryz.func282.trans (congrArg some (by kernel_rfl))⟩,
 f47:=Tryz.func230.trans (congrArg some (by kernel_rfl)),
 f48:=Tryz.func231.trans (congrArg some (by kernel_rfl)),
 f49:=⟨Tryz.f283.name,by decide,Tryz.func283.trans (congrArg some (by kernel_rfl))⟩,
 f50:=⟨Tryz.f284.name,by decide,Tryz.func284.trans (congrArg some (by kernel_rfl))⟩,
 f57:=⟨Tryz.f305.name,by decide,Tryz.func305.trans (congrArg some (by kernel_rfl))⟩,
 t0:=Tryz.underlying0,
 a0:=Tryz.isAgg0,
 z0:=Tryz.sizeOf0,
 v0:=Tryz.zeroValue0,
 t3:=Tryz.underlying3,
 a3:=Tryz.isAgg3,
 z3:=Tryz.sizeOf3,
 v3:=Tryz.zeroValue3,
 t4:=Tryz.underlying4,
 a4:=Tryz.isAgg4,
 z4:=Tryz.sizeOf4,
 v4:=Tryz.zeroValue4,
 t5:=Tryz.underlying5,
 a5:=Tryz.isAgg5,
 z5:=Tryz.sizeOf5,
 v5:=Tryz.zeroValue5,
 t9:=Tryz.underlying9,
 a9:=Tryz.isAgg9,
 z9:=Tryz.sizeOf9,
 v9:=Tryz.zeroValue9,
 t22:=Tryz.underlying216,
 a22:=Tryz.isAgg216,
 z22:=Tryz.sizeOf216,
 v22:=Tryz.zeroValue216,
 t25:=Tryz.underlying292,
 a25:=Tryz.isAgg292,
 z25:=Tryz.sizeOf292,
 v25:=Tryz.zeroValue292,
 t39:=Tryz.underlying225,
 a39:=Tryz.isAgg225,
 z39:=Tryz.sizeOf225,
 v39:=Tryz.zeroValue225,
 t45:=Tryz.underlying297,
 a45:=Tryz.isAgg297,
 z45:=Tryz.sizeOf297,
 v45:=Tryz.zeroValue297,
 t46:=Tryz.underlying298,
 a46:=Tryz.isAgg298,
 z46:=Tryz.sizeOf298,
 v46:=Tryz.zeroValue298,
 t50:=Tryz.underlying96,
 a50:=Tryz.isAgg96,
 z50:=Tryz.sizeOf96,
 v50:=Tryz.zeroValue96,
 t53:=Tryz.underlying73,
 a53:=Tryz.isAgg73,
 z53:=Tryz.sizeOf73,
 v53:=Tryz.zeroValue73,
 t55:=Tryz.underlying44,
 a55:=Tryz.isAgg44,
 z55:=Tryz.sizeOf44,
 v55:=Tryz.zeroValue44,
 t66:=Tryz.underlying336,
 a66:=Tryz.isAgg336,
 z66:=Tryz.sizeOf336,
 v66:=Tryz.zeroValue336,
 t70:=Tryz.underlying284,
 a70:=Tryz.isAgg284,
 z70:=Tryz.sizeOf284,
 v70:=Tryz.zeroValue284,
 t76:=Tryz.underlying366,
 a76:=Tryz.isAgg366,
 z76:=Tryz.sizeOf366,
 v76:=Tryz.zeroValue366,
 t77:=Tryz.underlying220,
 a77:=Tryz.isAgg220,
 z77:=Tryz.sizeOf220,
 v77:=Tryz.zeroValue220 }
def xwE (x:Int × Int):List Value:=[.int .u64 x.1,.int .u32 x.2]
def orI (a b:Int):Int:=if a≠0 then a else b
def xz3 (x y:Int × Int):Int:=orI (xdU x.1 y.1) (xdU x.2 y.2)
theorem xs5 (x:Int) (w:World):Calls Tryz.prog 261 #[.int .u32 x] w fun e w'=>e=.returned (.bool false)∧w'=w:=by
 go_enter Tryz.func261,Tryz.ntmps261
 go_wp2
 go_ret
 exact⟨by simp,rfl⟩
theorem xiC (a b:Int) (w:World):Calls Tryz.prog 228 #[.int .u32 a,.int .u32 b] w fun e w'=>e=.returned (.int .i64 (xdU a b))∧w'=w:=by
 have H:=lH (fun a=>xs5 a w)
 unfold xdU
 by_cases g:a<b
 ·rw[if_pos g]
  go_enter Tryz.func228,Tryz.ntmps228
  go_wp2_with fail
  refine(H.out _).mono ?_
  rintro e w' ⟨rfl,rfl⟩
  go_wp2_with fail
  refine(H.out _).mono ?_
  rintro e w' ⟨rfl,rfl⟩
  go_wp2_with fail
  go_ret
  exact⟨rfl,rfl⟩
 ·rw[if_neg g]
  by_cases g2:b<a
  ·rw[if_pos g2]
   go_enter Tryz.func228,Tryz.ntmps228
   go_wp2_with fail
   refine(H.out _).mono ?_
   rintro e w' ⟨rfl,rfl⟩
   go_wp2_with fail
   refine(H.out _).mono ?_
   rintro e w' ⟨rfl,rfl⟩
   go_wp2_with fail
   go_ret
   exact⟨rfl,rfl⟩
  ·rw[if_neg g2]
   go_enter Tryz.func228,Tryz.ntmps228
   go_wp2_with fail
   refine(H.out _).mono ?_
   rintro e w' ⟨rfl,rfl⟩
   go_wp2_with fail
   refine(H.out _).mono ?_
   rintro e w' ⟨rfl,rfl⟩
   go_wp2_with fail
   go_ret
   exact⟨rfl,rfl⟩
theorem xAM (x y:Int) (g:Nat) (w:World) (h0:w.cell? ⟨g,0,none⟩=some (.int .i64 x)) (h1:w.cell? ⟨g,1,none⟩=some (.int .i64 y)):Calls Tryz.prog 227 #[.slice (some ⟨g,0,none⟩) 2 2] w fun e w'=>e=.returned (.int .i64 (orI x y))∧w'=w:=by
 unfold orI
 by_cases hx:x=0
 ·subst hx
  rw[if_neg (by simp)]
  by_cases hy:y=0
  ·subst hy
   go_enter Tryz.func227,Tryz.ntmps227
   go_wp2_with fail
   refine wp_loop_rounds 3 ?_
   rw[rounds_succ]
   go_wp2_with fail
   rw[rounds_succ]
   go_wp2_with fail
   rw[rounds_succ]
   go_wp2_with fail
   go_ret
   exact⟨rfl,rfl⟩
  ·have hy2:(y != 0)=true:=by simpa using hy
   go_enter Tryz.func227,Tryz.ntmps227
   go_wp2_with fail
   refine wp_loop_rounds 3 ?_
   rw[rounds_succ]
   go_wp2_with fail
   rw[rounds_succ]
   go_wp2_with fail
   go_ret
   exact⟨rfl,rfl⟩
 ·rw[if_pos hx]
  have hx2:(x != 0)=true:=by simpa using hx
  go_enter Tryz.func227,Tryz.ntmps227
  go_wp2_with fail
  refine wp_loop_rounds 3 ?_
  rw[rounds_succ]
  go_wp2_with fail
  go_ret
  exact⟨rfl,rfl⟩
theorem xvv (x y:Int × Int) (W:World):Calls Tryz.prog 187 #[.agg #[.int .u64 x.1,.int .u32 x.2],.agg #[.int .u64 y.1,.int .u32 y.2]] W fun e w'=>e=.returned (.int .i64 (xz3 x y))∧∃ q os',w'=Go.Sort.grow (W.drewN q) os':=by
 obtain⟨a,b⟩:=x
 obtain⟨c,d⟩:=y
 have H:=lH (fun w=>xfH a c w)
 have H2:=lH (fun w=>xiC b d w)
 unfold xz3
 dsimp only
 generalize xdU a c=r at *
 generalize xdU b d=s at *
 have H3:=lH (fun g w h0 h1=>xAM r s g w h0 h1)
 go_enter Tryz.func187,Tryz.ntmps187
 go_upto_region 1 with fail
 refine wp_region_held_drew (S:=fun w'=>(w'.cell? ⟨W.heap.size,0,none⟩=some (.int .u64 a)∧w'.cell? ⟨W.heap.size,1,none⟩=some (.int .u32 b)∧w'.cell? ⟨W.heap.size+1,0,none⟩=some (.int .u64 c)∧w'.cell? ⟨W.heap.size+1,1,none⟩=some (.int .u32 d))∧∃ q os',w'=Go.Sort.grow (W.drewN q) os') (by kernel_rfl) ⟨⟨by simp[go_sem],by simp[go_sem],by simp[go_sem],by simp[go_sem]⟩,1,_,by rw[Go.Sort.alloc_eq_grow,Go.Sort.alloc_eq_grow,Go.Sort.grow_grow];rfl⟩ (fun hH0=>?_)
 refine tK 0 5 hH0 ?_
 refine tK 1 6 hH0 ?_
 refine tK 2 7 hH0 ?_
 refine tK 3 8 hH0 ?_
 refine tK 5 10 hH0 ?_
 refine tK 6 11 hH0 ?_
 refine tK 7 12 hH0 ?_
 refine tK 8 13 hH0 ?_
 refine wpAnyH_ready (rs:=[4]) (by kernel_rfl) (by simp) ?_
 refine AllReadyH.cons rfl (fun K hK=>?_) AllReadyH.nil
 go_simp
 refine(H.out _).mono ?_
 rintro e w1 ⟨rfl,rfl⟩
 go_wp2_with fail
 refine hK.out _ _ (hH0) (fun hH1=>?_)
 clear hK K
 try simp only[Act.put,zsA,zsB,zsC]
 refine wpAnyH_ready (rs:=[9]) (by kernel_rfl) (by simp) ?_
 refine AllReadyH.cons rfl (fun K hK=>?_) AllReadyH.nil
 go_simp
 refine(H2.out _).mono ?_
 rintro e w2 ⟨rfl,rfl⟩
 go_wp2_with fail
 refine hK.out _ _ (hH1) (fun hH2=>?_)
 clear hK K
 try simp only[Act.put,zsA,zsB,zsC]
 refine wpAnyH_ready (rs:=[10]) (by kernel_rfl) (by simp) ?_
 refine AllReadyH.cons rfl (fun K hK=>?_) AllReadyH.nil
 go_simp
 refine hK.out _ _ (⟨⟨by simp[go_sem],by simp[go_sem],by simp[go_sem],by simp[go_sem]⟩,1,_,by rw[Go.Sort.alloc_eq_grow,Go.Sort.alloc_eq_grow,Go.Sort.alloc_eq_grow,Go.Sort.grow_grow,Go.Sort.grow_grow];rfl⟩) (fun hH3=>?_)
 clear hK K
 try simp only[Act.put,zsA,zsB,zsC]
 refine wpAnyH_ready (rs:=[11]) (by kernel_rfl) (by simp) ?_
 refine AllReadyH.cons rfl (fun K hK=>?_) AllReadyH.nil
 go_simp
 refine(H3.out _ _ (by simp[go_sem]) (by simp[go_sem])).mono ?_
 rintro e w4 ⟨rfl,rfl⟩
 go_wp2_with fail
 refine hK.out _ _ (hH3) (fun hH4=>?_)
 clear hK K
 try simp only[Act.put,zsA,zsB,zsC]
 refine tK 12 4 hH4 ?_
 refine wpAnyH_done (by kernel_rfl) ?_ _
 go_wp2_with fail
 go_ret
 exact⟨rfl,hH4.2⟩
theorem ltQ (x y:Int × Int):ltOf xz3 x y=ltP x y:=by
 unfold ltOf xz3 orI xdU
 rw[Bool.eq_iff_iff,xdj,decide_eq_true_eq]
 by_cases h1:x.1<y.1
 ·simp[h1]
 ·by_cases h2:x.1 > y.1
  ·simp[h1,h2];omega
  ·by_cases h3:x.2<y.2
   ·simp[h1,h2,h3];omega
   ·by_cases h4:x.2 > y.2 <;> simp[h1,h2,h3,h4]
theorem xDy:Go.Sort.SWO (ltOf xz3) where
 irrefl x:=by rw[ltQ,← Bool.not_eq_true,xdj];omega
 trans x y z h1 h2:=by rw[ltQ] at *;exact xgB h1 h2
 ntrans x y z h1 h2:=by rw[ltQ,← Bool.not_eq_true,xdj] at *;omega
theorem xko (l:List (Int × Int)) (j:Nat) (h:j<l.length*2):(xbH l)[j]?=some ((Go.Sort.flatK xwE 2 l.toArray)[j]!):=by
 rw[Go.Sort.get_flatK xwE 2 l.toArray j (by simpa using h)]
 obtain⟨t,ht⟩:∃ t,l[j / 2]?=some t:=⟨_,List.getElem?_eq_getElem (by omega)⟩
 obtain⟨f0,f1⟩:=xc1 l (j / 2) t ht
 have e:l.toArray[j / 2]! = t:=by
  rw[getElem!_def]
  simp[ht]
 rw[e]
 rcases(by omega:j % 2=0∨j % 2=1) with g|g
 ·rw[g,show j=j / 2*2 from by omega,f0];rfl
 ·rw[g,show j=j / 2*2+1 from by omega,f1];rfl
theorem xmi {B:Nat} {w:World} {g n:Nat} {d:Array (Int × Int)} {os:Array Obj} (hg:B≤g) (hB:B≤w.heap.size):Below B w (Go.Proofs.sortWorldK xwE 2 w g 0 n d os):=by
 refine⟨rfl,rfl,rfl,?_,fun k hk=>?_⟩
 ·exact Go.Proofs.size_sortWorldK_c xwE 2 w g 0 n d os
 ·unfold sortWorldK
  rw[Go.Sort.heap_grow_old _ _ (by simp[Go.Sort.putRowK,Go.Sort.putRow,Go.Sort.mapBlock,Go.Sort.ahead];omega)]
  simp[Go.Sort.putRowK,Go.Sort.putRow,Go.Sort.mapBlock,Go.Sort.ahead,Array.getElem?_modify,show g≠k by omega]
theorem xwv (l:List (Int × Int)) (d':Array (Int × Int)) (h:Go.Sort.PermIn 0 l.toArray.size l.toArray d'):d'.toList.Perm l∧d'.size=l.length:=by
 obtain⟨hs,_,hp⟩:=h
 rw[Array.extract_eq_self_of_le (by omega),Array.extract_eq_self_of_le (by omega)] at hp
 exact⟨hp,by rw[hs];simp⟩
theorem xn7 (n:Nat) (d':Array (Int × Int)) (hn:d'.size=n) (h:Go.Sort.SortedIn (ltOf xz3) 0 n d'):d'.toList.Pairwise (fun a b=>ltP b a=false):=by
 rw[List.pairwise_iff_getElem]
 intro i j hi hj hij
 have hi':i<d'.size:=by simpa using hi
 have hj':j<d'.size:=by simpa using hj
 have:=h i j (Nat.zero_le _) hij (by omega)
 rw[ltQ,getElem!_pos d' i hi',getElem!_pos d' j hj'] at this
 simpa only[Array.getElem_toList] using this
theorem xow {w:World} {B g cap n:Nat} {l l':List (Int × Int)} {os:Array Obj} (hown:xd7 w B 214 (.slice (some ⟨g,0,none⟩) l.length cap) l) (hl:l'.length=l.length) :
  xd7 (Go.Proofs.sortWorldK xwE 2 w g 0 n l'.toArray os) B 214 (.slice (some ⟨g,0,none⟩) l'.length cap) l':=by
 have hlt:=(hown.lt g rfl).2
 obtain⟨h1,h2⟩:=hown
 rcases h2 with ⟨h2,_⟩|⟨g',cap',cur,hv,hg,hh,hle,hm,hs,ht⟩
 ·cases h2
 injection hv with e1 e2 e3
 injection e1 with e1
 injection e1 with e1
 subst e1 e3
 refine⟨by rw[xcP],.inr ⟨g,cap,Go.Sort.putCells id 0 (Go.Sort.flatK xwE 2 l'.toArray) cur,rfl,hg,?_,by omega,hm,by simp[Go.Sort.putCells,hs],?_⟩⟩
 ·unfold sortWorldK
  rw[Go.Sort.heap_grow_old _ _ (by simp[Go.Sort.putRowK,Go.Sort.putRow,Go.Sort.mapBlock,Go.Sort.ahead];omega)]
  simp[Go.Sort.putRowK,Go.Sort.putRow,Go.Sort.mapBlock,Go.Sort.ahead,Array.getElem?_modify,hh,Go.Sort.onCells]
 ·apply List.ext_getElem?
  intro j
  by_cases hj:j<l'.length*2
  ·have hf:=xko l' j hj
   rw[List.getElem?_take_of_lt hj,Array.getElem?_toList,hf]
   have hjc:j<cur.size:=by omega
   simp only[Go.Sort.putCells,Array.getElem?_mapIdx,Nat.zero_le,Nat.zero_add,Go.Sort.size_flatK,List.size_toArray,Nat.sub_zero,id_eq,true_and]
   rw[Array.getElem?_eq_getElem hjc,Option.map_some,if_pos hj]
  ·rw[List.getElem?_take_eq_none (by omega),List.getElem?_eq_none (by rw[xcP];omega)]
def xmO (B:Nat) (v:Value) (l:List (Int × Int)) (w:World) (e:Ending) (w':World):Prop:=e=.returned (.tuple #[])∧∃ l':List (Int × Int),l'.Perm l∧l'.Pairwise (fun a b=>ltP b a=false)∧xd7 w' B 214 v l'∧Below B w w'
theorem xrq (B:Nat) (v:Value) (l:List (Int × Int)) (w:World) (hown:xd7 w B 214 v l) (hl:l.length≤20000000) (hB:B≤w.heap.size):Calls Tryz.prog 186 #[v,.func (.func 187) #[] #[]] w (xmO B v l w):=by
 have hnone:=fun p cap fv w=>AnyF.slices_SortFunc_none xBn p cap fv w
 change ∀ p cap fv w,Calls Tryz.prog 186 _ _ _ at hnone
 rcases hown.form with ⟨rfl,rfl⟩|⟨g,cap,rfl,hg,hgw,hle,hm,hc,hf⟩
 ·refine(hnone none 0 _ w).mono ?_
  rintro e w' ⟨rfl,rfl⟩
  exact⟨rfl,[],List.Perm.refl _,List.Pairwise.nil,hown,Below.refl _ _⟩
 ·by_cases h0:l.length=0
  ·have hl0:=List.eq_nil_of_length_eq_zero h0
   subst hl0
   refine(hnone (some ⟨g,0,none⟩) cap _ w).mono ?_
   rintro e w' ⟨rfl,rfl⟩
   exact⟨rfl,[],List.Perm.refl _,List.Pairwise.nil,hown,Below.refl _ _⟩
  ·have eg:∀ args w,(callFunc 187 args).run Tryz.prog w=.ok (.enter 187 args) w:=enters_of Tryz.func187 (by kernel_rfl) rfl
   have hH:Go.Sort.HoldsK xwE 2 w g 0 l.toArray:=by
    intro j hj
    rw[Go.Sort.size_flatK] at hj
    have hj2:j<l.length*2:=by simpa using hj
    refine⟨?_,hf _⟩
    rw[Nat.zero_add,hc j hj2]
    exact xko l j hj2
   have hsz:l.toArray.size=l.length:=by simp
   have hcon:=AnyQ.slices_SortFunc xBn 2 Tryz.isAgg214 Tryz.sizeOf214 xwE (fun _=>rfl) (fun x v hv=>by simp only[xwE,List.mem_cons,List.not_mem_nil,or_false] at hv;rcases hv with rfl|rfl <;> rfl) xz3 xDy 187 #[] g 0 cap l.toArray w eg (fun m os dk hs x y=>xvv x y _) hH hgw (by omega)
   change Calls Tryz.prog 186 _ _ _ at hcon
   rw[hsz] at hcon
   refine hcon.mono ?_
   rintro e w' ⟨rfl,d',n,os,hp,hs,rfl⟩
   obtain⟨p1,p2⟩:=xwv l d' (by rw[hsz];exact hp)
   have hlen:d'.toList.length=l.length:=by simpa using p2
   have hos:=xow (n:=n) (os:=os) hown hlen
   rw[Array.toArray_toList,hlen] at hos
   exact⟨rfl,d'.toList,p1,xn7 _ _ p2 hs,hos,xmi hg hB⟩
def gP (l:List (Int × Int)) (k:Nat):Int × Int:=l.getD k (0,0)
theorem xoD {l:List (Int × Int)} {k:Nat} {t:Int × Int} (h:l[k]?=some t):gP l k=t:=by unfold gP;rw[List.getD_eq_getElem?_getD,h];rfl
theorem xnk (l:List (Int × Int)) (k:Nat) (h:k<l.length):l[k]?=some (gP l k):=by
 rw[List.getElem?_eq_getElem h]
 congr 1
 exact(xoD (List.getElem?_eq_getElem h)).symm
def xgV (l:List (Int × Int)):Nat→List (Int × Int)
 | 0=>[]
 | j+1=>if j≠0∧gP l j=gP l (j - 1) then xgV l j else xgV l j++[gP l j]
def RP (l:List (Int × Int)):Prop:=l.Pairwise (fun a b=>ltP b a=false)
theorem xCm {l:List (Int × Int)} (h:RP l) {i j:Nat} (hij:i<j) (hj:j<l.length):ltP (gP l j) (gP l i)=false:=by
 have:=List.pairwise_iff_getElem.1 h i j (by omega) hj hij
 rw[xoD (List.getElem?_eq_getElem (show i<l.length by omega)),xoD (List.getElem?_eq_getElem hj)]
 exact this
theorem xnN {l:List (Int × Int)} (h:RP l):∀ n,n≤l.length→SU (xgV l n)∧(∀ q,q ∈ xgV l n↔q ∈ l.take n)∧(0<n→∀ x ∈ xgV l n,x=gP l (n - 1)∨ltP x (gP l (n - 1))=true)
 | 0,_=>⟨List.Pairwise.nil,fun q=>by simp[xgV],fun h=>by omega⟩
 | n+1,hn=>by
  obtain⟨i1,i2,i3⟩:=xnN h n (by omega)
  have ht:l.take (n+1)=l.take n++[gP l n]:=by rw[List.take_add_one,xnk l n (by omega)];rfl
  rw[xgV,ht]
  split
  ·rename_i he
   obtain⟨h0,he⟩:=he
   refine⟨i1,fun q=>?_,fun _ x hx=>?_⟩
   ·rw[i2,List.mem_append,List.mem_singleton]
    refine⟨.inl,fun hq=>hq.elim id (fun hq=>?_)⟩
    rw[hq,he]
    exact List.mem_take_iff_getElem.2 ⟨n - 1,by omega,(xoD (List.getElem?_eq_getElem (show n - 1<l.length by omega))).symm⟩
   ·have:=i3 (by omega) x hx
    rw[show n+1 - 1=n by omega,he]
    exact this
  ·rename_i he
   have hlt:∀ x ∈ xgV l n,ltP x (gP l n)=true:=fun x hx=>by
    have h0:0<n:=by
     rcases Nat.eq_zero_or_pos n with rfl|h
     ·simp[xgV] at hx
     ·exact h
    have hne:gP l n≠gP l (n - 1):=fun e=>he ⟨by omega,e⟩
    have hl:=xkp (a:=gP l n) (b:=gP l (n - 1)) (by rw[xCm h (show n - 1<n by omega) (by omega)];simp) hne
    rcases i3 h0 x hx with rfl|hx
    ·exact hl
    ·exact xgB hx hl
   refine⟨List.pairwise_append.2 ⟨i1,by simp,fun x hx y hy=>?_⟩,fun q=>?_,fun _ x hx=>?_⟩
   ·rw[List.mem_singleton.1 hy];exact hlt x hx
   ·rw[List.mem_append,List.mem_append,i2]
   ·rcases List.mem_append.1 hx with hx|hx
    ·exact .inr (hlt x hx)
    ·exact .inl (List.mem_singleton.1 hx)
theorem xx9 {l:List (Int × Int)} (h:RP l):SU (xgV l l.length)∧∀ q,q ∈ xgV l l.length↔q ∈ l:=by
 obtain⟨h1,h2,_⟩:=xnN h l.length (Nat.le_refl _)
 exact⟨h1,fun q=>by rw[h2,List.take_length]⟩
theorem xir {l:List (Int × Int)}:∀ n,n≤l.length→(∀ j,0<j→j<n→gP l j≠gP l (j - 1))→xgV l n=l.take n
 | 0,_,_=>by simp[xgV]
 | n+1,hn,h=>by
  rw[xgV,if_neg (fun he=>h n (by omega) (by omega) he.2),xir n (by omega) (fun j h1 h2=>h j h1 (by omega)),List.take_add_one,xnk l n (by omega)]
  rfl
structure CMv (l M:List (Int × Int)) (k j:Nat):Prop where
 k0:1≤k
 kj:k<j
 jl:j≤l.length
 len:M.length=l.length
 rest:M.drop (j - 1)=l.drop (j - 1)
 kept:M.take k=xgV l j
theorem CMv.start {l:List (Int × Int)} {i:Nat} (h0:1≤i) (hi:i<l.length) (hn:∀ j,0<j→j<i→gP l j≠gP l (j - 1)) (he:gP l i=gP l (i - 1)):CMv l l i (i+1) :=
 ⟨h0,by omega,by omega,rfl,rfl,by rw[xgV,if_pos ⟨by omega,he⟩,xir i (by omega) hn]⟩
theorem CMv.at {l M:List (Int × Int)} {k j:Nat} (h:CMv l M k j) (hj:j<l.length):gP M j=gP l j∧gP M (j - 1)=gP l (j - 1):=by
 have hk:=h.k0
 have hkj:=h.kj
 have key:∀ i,j - 1≤i→gP M i=gP l i:=fun i hi=>by
  have:=congrArg (fun x=>x[i - (j - 1)]?) h.rest
  simp only[List.getElem?_drop,show j - 1+(i - (j - 1))=i by omega] at this
  unfold gP
  rw[List.getD_eq_getElem?_getD,List.getD_eq_getElem?_getD,this]
 exact⟨key j (by omega),key (j - 1) (Nat.le_refl _)⟩
theorem CMv.off {l M:List (Int × Int)} {k j:Nat} (h:CMv l M k j) (hj:j<l.length) (he:gP l j=gP l (j - 1)):CMv l M k (j+1):=by
 have hk:=h.k0
 have hkj:=h.kj
 refine⟨h.k0,by omega,by omega,h.len,?_,?_⟩
 ·have:=congrArg (fun x=>x.drop 1) h.rest
  simpa[List.drop_drop,show j - 1+1=j by omega] using this
 ·rw[h.kept,xgV,if_pos ⟨by omega,he⟩]
theorem CMv.on {l M:List (Int × Int)} {k j:Nat} (h:CMv l M k j) (hj:j<l.length) (he:gP l j≠gP l (j - 1)):CMv l (M.set k (gP l j)) (k+1) (j+1):=by
 have hk:=h.k0
 have hkj:=h.kj
 have hl:=h.len
 refine⟨by omega,by omega,by omega,by simpa using hl,?_,?_⟩
 ·rw[show j+1 - 1=j by omega,List.drop_set_of_lt (by omega)]
  have:=congrArg (fun x=>x.drop 1) h.rest
  simpa[List.drop_drop,show j - 1+1=j by omega] using this
 ·rw[List.take_add_one,List.take_set_of_le (by omega),List.getElem?_set_self (by omega),h.kept,xgV,if_neg (fun e=>he e.2)]
  rfl
theorem CMv.fin {l M:List (Int × Int)} {k:Nat} (h:CMv l M k l.length):M.take k=xgV l l.length:=h.kept
theorem xfo (e:En) (w:World):Calls Tryz.prog 112 #[.agg (eC e)] w fun x w'=>x=.returned (.agg #[.int .u64 e.off,.int .u32 e.ln])∧Below w.heap.size w w':=by
 obtain⟨i,o,l,r⟩:=e
 unfold eC
 dsimp only
 go_enter Tryz.func112,Tryz.ntmps112
 generalize hQQ:bodyPost (P:=Tryz.prog) _ _=QQ
 have HQQ:=lH hQQ
 clear hQQ
 go_wp2_with fail
 rw[← HQQ.out]
 refine bodyPost_ret (v:=.agg #[.int .u64 o,.int .u32 l]) (by simp[results,Tryz.results112,go_sem]) rfl ⟨rfl,by go_grown⟩
theorem xiQ (a b c d:Int) (w:World):(Op.equalIn 10000 214 (.agg #[.int .u64 a,.int .u32 b]) (.agg #[.int .u64 c,.int .u32 d])).run Tryz.prog w=.ok (decide ((a,b)=(c,d))) w:=by
 have hS:Tryz.prog.underlying 214=some (.struct (Tryz.prog.fieldsOf 214)):=by kernel_rfl
 rw[show (10000:Nat)=9999+1 from rfl,run_equalIn_agg w 9999 214 _ _ hS (by kernel_rfl)]
 simp only[Program.fieldsOf,Tryz.underlying214]
 by_cases h1:a=c
 ·subst h1
  by_cases h2:b=d
  ·subst h2
   go_simp
   try simp
  ·have e:(b == d)=false:=by simpa using h2
   go_simp
   try simp[h2]
 ·have e:(a == c)=false:=by simpa using h1
  go_simp
  try simp[h1]
def xdp (n:Nat):List (Int × Int):=List.replicate n (0,0)
theorem xl2 (n:Nat):xbH (xdp n)=(madeCells #[.int .u64 0,.int .u32 0] (n*2)).toList:=by
 apply List.ext_getElem?
 intro i
 have hl:(xbH (xdp n)).length=n*2:=by rw[xcP];simp[xdp]
 by_cases h:i<n*2
 ·have hj:(xdp n)[i / 2]?=some (0,0):=by unfold xdp;rw[List.getElem?_replicate,if_pos (by omega)]
  obtain⟨a0,a1⟩:=xc1 _ _ _ hj
  have hr:(madeCells #[Value.int .u64 0,.int .u32 0] (n*2)).toList[i]?=some ((#[Value.int .u64 0,.int .u32 0]:Array Value)[i % 2]!):=by
   unfold madeCells
   simp[h]
  rw[hr]
  rcases(show i % 2=0∨i % 2=1 by omega) with e|e
  ·rw[e,show i=i / 2*2 from by omega,a0];rfl
  ·rw[e,show i=i / 2*2+1 from by omega,a1];rfl
 ·rw[List.getElem?_eq_none (by omega),List.getElem?_eq_none (by rw[Array.length_toList,size_madeCells];omega)]
theorem xps:(Tryz.prog.info? 214).map (fun i=>(i.zero,i.size,i.bytes))=some (some (.agg #[.int .u64 0,.int .u32 0]),2,16):=by kernel_rfl
theorem xl0 (n:Nat) (W:World) (h:n≤20000000):(Instr.makeSlice 216 (.int .i64 (n:Int)) (.int .i64 (n:Int))).run Tryz.prog W=.ok (.slice (some ⟨W.heap.size,0,none⟩) n n) (W.alloc (.cells (madeCells #[.int .u64 0,.int .u32 0] (n*2)) 214)):=by
 obtain⟨i0,hi,hz0,hz1,hz2⟩:=xao xps
 have:=run_make (P:=Tryz.prog) W 216 214 i0 _ Tryz.underlying216 hi hz0 .i64 .i64 (n:Int) (n:Int) (by omega) (by omega) (by rw[hz2];omega) (by omega)
 rw[this,hz1]
 simp only[Int.toNat_natCast]
 rfl
theorem xpW (w:World) (n:Nat) (h:n≤20000000):xd7 (w.alloc (.cells (madeCells #[.int .u64 0,.int .u32 0] (n*2)) 214)) w.heap.size 214 (.slice (some ⟨w.heap.size,0,none⟩) n n) (xdp n):=by
 have:=World.ownsRow_lit (e:=214) (size:=2) w (madeCells #[.int .u64 0,.int .u32 0] (n*2)) n (Nat.le_refl _) (by unfold maxLen;omega) (size_madeCells _ _)
 exact xeM this (by simp[xdp]) (xl2 n).symm
def xnu (B:Nat) (l:List (Int × Int)) (w:World) (e:Ending) (w':World):Prop:=∃ v,e=.returned v∧xd7 w' B 214 v (xgV l l.length)∧Below B w w'
theorem xk9 (B:Nat) (v:Value) (l:List (Int × Int)) (w:World) (hown:xd7 w B 214 v l) (hl:l.length≤20000000) (hB:B≤w.heap.size):Calls Tryz.prog 188 #[v] w (xnu B l w):=by
 by_cases h2:l.length<2
 ·have hc:xgV l l.length=l:=by
   match l,h2 with
   | [],_=>rfl
   | [x],_=>rfl
  have hform:∃ a c,v=.slice a l.length c:=by
   rcases hown.form with ⟨rfl,rfl⟩|⟨g,cap,rfl,_⟩
   ·exact⟨_,_,rfl⟩
   ·exact⟨_,_,rfl⟩
  have hd:decide ((l.length:Int)<2)=true:=decide_eq_true (by omega)
  have HO:=lH hown
  unfold xnu
  rw[hc]
  obtain⟨a,c,rfl⟩:=hform
  clear hown h2 hc hl
  go_enter Tryz.func188,Tryz.ntmps188
  go_wp2_with fail
  go_ret
  exact⟨_,rfl,HO.out,Below.refl _ _⟩
 rcases hown.form with ⟨rfl,rfl⟩|⟨g,cap,rfl,hg,hgw,hle,hm,hc,hf⟩
 ·simp at h2
 have hd:decide ((l.length:Int)<2)=false:=decide_eq_false (by omega)
 have HO:=lH hown
 clear hown hc hf
 unfold xnu
 go_enter Tryz.func188,Tryz.ntmps188
 go_wp2_with fail
 go_loopw [3] (fun k wr=>∃ i:Nat,1≤i∧i≤l.length∧k=.int .i64 i∧Hid (∀ j,0<j→j<i→gP l j≠gP l (j - 1))∧Hid (xd7 wr B 214 (.slice (some ⟨g,0,none⟩) l.length cap) l)∧Below B w wr) (fun k _=>l.length - (intOf k).toNat)
 case atStart=>exact⟨1,Nat.le_refl _,by omega,rfl,lH (fun j h1 h2=>by omega),HO,Below.refl _ _⟩
 case round =>
  clear HO
  obtain⟨i,hi1,hi2,rfl,HN,HO,hbw⟩:=hrel
  by_cases hlt:i<l.length
  ·obtain⟨p,hp⟩:∃ p,p+1=i:=⟨i - 1,by omega⟩
   obtain⟨t,ht⟩:∃ t,l[i]?=some t:=⟨_,List.getElem?_eq_getElem hlt⟩
   obtain⟨u,hu⟩:∃ u,l[p]?=some u:=⟨_,List.getElem?_eq_getElem (by omega)⟩
   have HGT:=lH (xoD ht)
   have HGU:=lH (xoD hu)
   rcases HO.out.form with ⟨h0,_⟩|⟨g2,cap2,hv,_,_,_,_,hc,hf⟩
   ·cases h0
   injection hv with hv1 hv2 hv3
   injection hv1 with hv1
   injection hv1 with hv1
   subst hv1
   clear hv2 hv3
   obtain⟨f0,f1⟩:=xc1 l i t ht
   obtain⟨f2,f3⟩:=xc1 l p u hu
   have l0:=(hc (i*2) (by omega)).trans f0
   have l1:=(hc (i*2+1) (by omega)).trans f1
   have l2:=(hc (p*2) (by omega)).trans f2
   have l3:=(hc (p*2+1) (by omega)).trans f3
   have hpi:(i:Int) - 1=(p:Int):=by omega
   have hpw:IntKind.i64.wrap (p:Int)=(p:Int):=by rw[IntKind.wrap_i64];omega
   have hil:(i:Int)<(l.length:Int):=by omega
   have hpl:(p:Int)<(l.length:Int):=by omega
   have hi0:(0:Int)≤(i:Int):=by omega
   have hp0:(0:Int)≤(p:Int):=by omega
   have HPI:=lH hp
   clear ht hu f0 f1 f2 f3 hc hf hp
   obtain⟨t1,t2⟩:=t
   obtain⟨u1,u2⟩:=u
   dsimp only at l0 l1 l2 l3
   have heq:=fun w=>xiQ t1 t2 u1 u2 w
   by_cases he:(t1,t2)=(u1,u2)
   ·have HC:=lH (CMv.start hi1 hlt HN.out (by rw[HGT.out,show i - 1=p by have:=HPI.out;omega,HGU.out];exact he))
    rw[decide_eq_true he] at heq
    clear he
    go_upto_region 6 with fail
    go_region_with fail
    all_goals
     have HB:=lH (Below.drew hbw)
     have HOQ:=lH (HO.out.below (Below.drew (Below.refl _ _)))
     generalize wr.drew=wq at *
     clear hbw l0 l1 l2 l3 HO HN heq
     go_wp2_with fail
     go_loopw [3,5] (fun k3 k5 wr2=>∃ (kk jj:Nat) (M:List (Int × Int)),k3=.int .i64 kk∧k5=.int .i64 jj∧1≤jj∧jj≤l.length - i∧Hid (CMv l M kk (i+jj))∧Hid (xd7 wr2 B 214 (.slice (some ⟨g,0,none⟩) l.length cap) M)∧Below B w wr2) (fun _ j _=>l.length - (intOf j).toNat)
     case atStart=>exact⟨i,1,l,rfl,rfl,Nat.le_refl _,by omega,HC,HOQ,HB.out⟩
     case round =>
      clear HC HOQ HB
      obtain⟨kk,jj,M,rfl,rfl,hj1,hj2,HC,HO,hbw⟩:=hrel
      have hM:=HC.out.len
      have hkj:=HC.out.kj
      have hk0:=HC.out.k0
      have HOW:wr.ownsRow B 214 2 (.slice (some ⟨g,0,none⟩) l.length cap) l.length (xbH M):=by
       have:=HO.out
       unfold xd7 at this
       rwa[hM] at this
      have hsz:=(HO.out.lt g rfl).2
      have hf:=World.ownsRow.frozenAt HOW
      have hc:∀ k,k<l.length→wr.cell? ⟨g,k*2,none⟩=some (.int .u64 (gP M k).1)∧wr.cell? ⟨g,k*2+1,none⟩=some (.int .u32 (gP M k).2):=fun k hk=>by
       obtain⟨f0,f1⟩:=xc1 M k _ (xnk M k (by omega))
       exact⟨(World.ownsRow.cellAt HOW (k*2) (by omega)).trans f0,(World.ownsRow.cellAt HOW (k*2+1) (by omega)).trans f1⟩
      by_cases hlt2:jj<l.length - i
      ·obtain⟨q,hq⟩:∃ q,q+1=jj:=⟨jj - 1,by omega⟩
       obtain⟨m0,m1⟩:=HC.out.at (show i+jj<l.length by omega)
       have c0:=(hc (i+jj) (by omega)).1
       have c1:=(hc (i+jj) (by omega)).2
       have c2:=(hc (i+q) (by omega)).1
       have c3:=(hc (i+q) (by omega)).2
       have c4:=(hc kk (by omega)).1
       have c5:=(hc kk (by omega)).2
       rw[show i+jj - 1=i+q by omega] at m1
       rw[m0] at c0 c1
       rw[m1] at c2 c3
       rw[show (i+jj)*2=i*2+jj*2 by omega] at c0 c1
       rw[show (i+q)*2=i*2+q*2 by omega] at c2 c3
       have hqi:(jj:Int) - 1=(q:Int):=by omega
       have hqw:IntKind.i64.wrap (q:Int)=(q:Int):=by rw[IntKind.wrap_i64];omega
       have hjl:(jj:Int)<((l.length - i:Nat):Int):=by omega
       have hql:(q:Int)<((l.length - i:Nat):Int):=by omega
       have hkl:(kk:Int)<(l.length:Int):=by omega
       have hj0:(0:Int)≤(jj:Int):=by omega
       have hq0:(0:Int)≤(q:Int):=by omega
       have hk00:(0:Int)≤(kk:Int):=by omega
       have fk0:=hf (kk*2)
       have fk1:=hf (kk*2+1)
       have HQ:=lH hq
       have HGJ:=lH (show gP l (i+jj)=gP l (i+jj) from rfl)
       obtain⟨a,ha⟩:∃ a,gP l (i+jj)=a:=⟨_,rfl⟩
       obtain⟨b,hb⟩:∃ b,gP l (i+q)=b:=⟨_,rfl⟩
       rw[ha] at c0 c1
       rw[hb] at c2 c3
       have HA:=lH ha
       have HBB:=lH hb
       have HOX:=lH HOW
       have HM:=lH hM
       clear m0 m1 hc hf hq HGJ ha hb HOW hM
       obtain⟨a1,a2⟩:=a
       obtain⟨b1,b2⟩:=b
       dsimp only at c0 c1 c2 c3
       have heq:=fun w=>xiQ a1 a2 b1 b2 w
       by_cases he:(a1,a2)=(b1,b2)
       ·have HN:=lH (HC.out.off (by omega) (by rw[HA.out,show i+jj - 1=i+q by have:=HQ.out;omega,HBB.out];exact he))
        have hne:((a1,a2) != (b1,b2))=false:=by simpa using he
        rw[decide_eq_true he] at heq
        clear he
        go_upto_region 11 with fail
        go_region_with fail
        all_goals
         have HB:=lH (Below.drew hbw)
         have HOQ:=lH (HO.out.below (Below.drew (Below.refl _ _)))
         generalize wr.drew=wq at *
         clear hbw c0 c1 c2 c3 c4 c5 fk0 fk1 HO HOX heq
         go_wp2_with fail
         go_roundw
         case rel=>exact⟨kk,jj+1,M,rfl,by go_num,by omega,by omega,HN,HOQ,HB.out⟩
         case measure=>simp[intOf];omega
       ·have HN:=lH (HC.out.on (by omega) (by rw[HA.out,show i+jj - 1=i+q by have:=HQ.out;omega,HBB.out];exact he))
        rw[HA.out] at HN
        rw[decide_eq_false he] at heq
        have HS:=lH (xkh M kk (a1,a2))
        clear he
        go_upto_region 11 with fail
        go_region_with fail
        all_goals
         have HB:=lH (Below.drew hbw)
         have HOQ:=lH (show wr.drew.ownsRow B 214 2 (.slice (some ⟨g,0,none⟩) l.length cap) l.length (xbH M) from HOX.out)
         have c0:=xaa (Below.drew (Below.refl _ _)) c0
         have c1:=xaa (Below.drew (Below.refl _ _)) c1
         have c4:=xaa (Below.drew (Below.refl _ _)) c4
         have c5:=xaa (Below.drew (Below.refl _ _)) c5
         have fk0:=World.ownsRow.frozenAt HOQ.out (kk*2)
         have fk1:=World.ownsRow.frozenAt HOQ.out (kk*2+1)
         generalize wr.drew=wq at *
         clear hbw c2 c3 HO HOX heq
         go_wp2_with fail
         go_roundw
         case rel =>
          have q1:=(World.ownsRow.stored HOQ.out (kk*2) (.int .u64 a1)).1
          have q2:=(World.ownsRow.stored q1 (kk*2+1) (.int .u32 a2)).1
          rw[show ((xbH M).set (kk*2) (.int .u64 a1)).set (kk*2+1) (.int .u32 a2)=xbH (M.set kk (a1,a2)) from HS.out] at q2
          exact⟨kk+1,jj+1,M.set kk (a1,a2),by go_num,by go_num,by omega,by omega,HN,lH (xeM q2 (by simp[HM.out]) rfl),(HB.out.setCell (p:=⟨g,kk*2,none⟩) hg _).setCell (p:=⟨g,kk*2+1,none⟩) hg _⟩
         case measure=>simp[intOf];omega
      ·obtain hje:jj=l.length - i:=by omega
       have HCE:CMv l M kk l.length:=by have:=HC.out;rwa[show i+jj=l.length by omega] at this
       have hcut:=xd7.cut HO.out hM (show kk≤l.length by omega)
       have hlen:(M.take kk).length=kk:=by rw[List.length_take];omega
       obtain⟨z1,z2⟩:=xq5 _ B g cap kk (M.take kk) hlen hcut (Builtin.zeroCells #[.int .u64 0,.int .u32 0] (l.length - kk)).toList (kk*2) (Nat.le_refl _)
       rw[HCE.fin] at z1
       have hcl:=xot wr g (kk*2) (l.length - kk) (cap - kk) (by omega) (fun t ht=>by
        rw[World.ownsRow.cellAt HOW (kk*2+t) (by omega)]
        have:kk*2+t<(xbH M).length:=by rw[xcP];omega
        rw[List.getElem?_eq_getElem this];rfl) (fun t ht=>hf _)
       have HZ:=lH z1
       have HBZ:=lH (hbw.grown z2 (Nat.le_trans hB hbw.size) (fun k hk=>by injection hk with hk;omega))
       have hk2:(kk:Int)<(l.length:Int):=by omega
       have hk3:(kk:Int)≤(l.length:Int):=by omega
       have hk4:(kk:Int)≤(cap:Int):=by omega
       subst hje
       clear hc hf hcut z1 z2 hlen HCE HC HO HOW hM hbw
       go_wp2_with fail
       go_ret
       exact⟨_,rfl,HZ.out,HBZ.out⟩
   ·have HN2:Hid (∀ j,0<j→j<i+1→gP l j≠gP l (j - 1)):=lH (fun j h1 h2=>by
     by_cases e:j=i
     ·subst e
      rw[HGT.out,show j - 1=p by have:=HPI.out;omega,HGU.out]
      exact he
     ·exact HN.out j h1 (by omega))
    rw[decide_eq_false he] at heq
    clear he
    go_upto_region 6 with fail
    go_region_with fail
    all_goals
     have HB:=lH (Below.drew hbw)
     have HOQ:=lH (HO.out.below (Below.drew (Below.refl _ _)))
     generalize wr.drew=wq at *
     clear hbw l0 l1 l2 l3
     go_wp2_with fail
     go_roundw
     case rel=>exact⟨i+1,by omega,by omega,by go_num,HN2,HOQ,HB.out⟩
     case measure=>simp[intOf];omega
  ·obtain rfl:i=l.length:=by omega
   have hc:xgV l l.length=l:=by rw[xir l.length (Nat.le_refl _) HN.out,List.take_length]
   have HCC:=lH hc
   clear hc
   go_wp2_with fail
   go_ret
   exact⟨_,rfl,by rw[HCC.out];exact HO.out,hbw⟩
def plM (l:List En) (i:Nat):List (Int × Int):=(l.take i).map prE++xdp (l.length - i)
theorem xyI (l:List En) (i:Nat) (hi:i≤l.length):(plM l i).length=l.length:=by
 unfold plM xdp
 simp
 omega
theorem xw0 (l:List En) (i:Nat) (e:En) (h:l[i]?=some e):(plM l i).set i (prE e)=plM l (i+1):=by
 have hi:=(List.getElem?_eq_some_iff.1 h).1
 unfold plM xdp
 rw[List.take_add_one,h,List.set_append_right _ _ (by simp;omega),List.map_append]
 simp only[List.length_map,List.length_take,Option.toList_some,List.map_cons,List.map_nil,List.append_assoc,List.cons_append,List.nil_append]
 rw[show i - min i l.length=0 by omega,show l.length - i=(l.length - (i+1))+1 by omega,List.replicate_succ,List.set_cons_zero]
theorem xzE (l:List En):plM l l.length=l.map prE:=by unfold plM xdp;simp
theorem xz9 {l:List En} {s:List (Int × Int)} (hp:s.Perm (l.map prE)) (hr:s.Pairwise (fun a b=>ltP b a=false)):xgV s s.length=(xje l).map prE:=by
 obtain⟨c1,c2⟩:=xx9 (l:=s) hr
 obtain⟨u1,u2,_⟩:=xf2 l
 exact xBr c1 u1 (fun q=>by rw[c2,u2,hp.mem_iff])
theorem xlm (v:Value) (l:List En) (w:World) (hv:xam w v l) (hl:l.length≤20000000):Calls Tryz.prog 113 #[v] w fun e w'=>∃ v',e=.returned v'∧xd7 w' w.heap.size 214 v' ((xje l).map prE)∧Below w.heap.size w w':=by
 have HV:=lH (fun X (hX:Below w.heap.size w X)=>hv.below hX)
 obtain⟨av,cv,rfl⟩:=xak hv
 have hmk:=fun W=>xl0 l.length W hl
 have HO:=lH (xpW w l.length hl)
 have HB:=lH ((Below.refl _ w).alloc (Nat.le_refl _) (.cells (madeCells #[.int .u64 0,.int .u32 0] (l.length*2)) 214))
 clear hv
 go_enter Tryz.func113,Tryz.ntmps113
 go_wp2_with fail
 go_loopw [11] (fun s wr=>∃ i:Nat,i≤l.length∧s=.int .i64 i∧Hid (xd7 wr w.heap.size 214 (.slice (some ⟨w.heap.size,0,none⟩) l.length l.length) (plM l i))∧Below w.heap.size w wr) (fun s _=>l.length - (intOf s).toNat)
 case atStart=>exact⟨0,Nat.zero_le _,rfl,lH (by unfold plM;simpa using HO.out),HB.out⟩
 case round =>
  clear HO HB
  obtain⟨i,hi,rfl,HO,hbw⟩:=hrel
  have hM:=xyI l i hi
  by_cases hlt:i<l.length
  ·obtain⟨e,he⟩:∃ e,l[i]?=some e:=⟨_,List.getElem?_eq_getElem hlt⟩
   obtain⟨g,off,cap,hv2,hle,hgl,hc⟩:=xh0 (HV.out wr hbw) i hlt
   cases hv2
   obtain⟨k0,k1,k2,k3⟩:=hc i e he
   have hi2:(i:Int)<(l.length:Int):=by omega
   have hi0:(0:Int)≤(i:Int):=by omega
   have HP:=lH (fun X=>xfo e X)
   have HS:=lH (xw0 l i e he)
   have HF:=lH (xkh (plM l i) i (e.off,e.ln))
   have hb1:Below wr.heap.size wr (wr.alloc (.cells (eC e) 147)):=(Below.refl _ _).alloc (Nat.le_refl _) _
   have HB1:=lH hb1
   have HEA:=lH (EAt.made wr e 147)
   have hgw:=(HO.out.lt w.heap.size rfl).2
   have HM:=lH hM
   clear hc he hb1 hM
   unfold eC at HP HB1
   obtain⟨p1,p2,p3,p4⟩:=e
   dsimp only at k0 k1 k2 k3 HP HB1 HF
   go_wp2_with fail
   refine(HP.out _).mono ?_
   rintro x w1 ⟨rfl,hb2⟩
   have hb01:=HB1.out.trans (hb2.mono HB1.out.size)
   have hO1:=HO.out.below hb01
   have HOW:w1.ownsRow w.heap.size 214 2 (.slice (some ⟨w.heap.size,0,none⟩) l.length l.length) l.length (xbH (plM l i)):=by
    unfold xd7 at hO1
    rwa[HM.out] at hO1
   obtain⟨f0,f1⟩:=xc1 (plM l i) i _ (xnk (plM l i) i (by rw[HM.out];exact hlt))
   have c0:=(World.ownsRow.cellAt HOW (i*2) (by omega)).trans f0
   have c1:=(World.ownsRow.cellAt HOW (i*2+1) (by omega)).trans f1
   have fk0:=World.ownsRow.frozenAt HOW (i*2)
   have fk1:=World.ownsRow.frozenAt HOW (i*2+1)
   have HOX:=lH HOW
   have HBW:=lH (hbw.trans (hb01.mono hbw.size))
   clear hb2 hb01 hO1 HOW f0 f1 k0 k1 k2 k3 HP HB1 HEA HO hbw
   go_wp2_with fail
   go_roundw
   case rel =>
    have q1:=(World.ownsRow.stored HOX.out (i*2) (.int .u64 p2)).1
    have q2:=(World.ownsRow.stored q1 (i*2+1) (.int .u32 p3)).1
    rw[show ((xbH (plM l i)).set (i*2) (.int .u64 p2)).set (i*2+1) (.int .u32 p3)=xbH ((plM l i).set i (p2,p3)) from HF.out] at q2
    refine⟨i+1,by omega,by go_num,lH ?_,(HBW.out.setCell (p:=⟨w.heap.size,i*2,none⟩) (Nat.le_refl _) _).setCell (p:=⟨w.heap.size,i*2+1,none⟩) (Nat.le_refl _) _⟩
    rw[← HS.out]
    exact xeM q2 (by simp[HM.out,prE]) rfl
   case measure=>simp[intOf];omega
  ·obtain rfl:i=l.length:=by omega
   have ho:=HO.out
   rw[xzE] at ho
   have HS:=lH (xrq w.heap.size (.slice (some ⟨w.heap.size,0,none⟩) l.length l.length) (l.map prE) wr ho (by simpa using hl) hbw.size)
   unfold xmO at HS
   clear ho HO hM
   go_wp2_with fail
   refine HS.out.mono ?_
   rintro e w2 ⟨rfl,s,hp,hr,ho,hb2⟩
   have HX:=lH (xz9 hp hr)
   have hsl:s.length≤20000000:=by have:=hp.length_eq;simp at this;omega
   have hbw2:=hbw.trans hb2
   have HC:=lH (xk9 w.heap.size _ s w2 ho hsl hbw2.size)
   unfold xnu at HC
   have HB2:=lH hbw2
   clear hp hr ho hb2 hbw hbw2 HS
   go_wp2_with fail
   refine HC.out.mono ?_
   rintro e w3 ⟨v',rfl,ho,hb3⟩
   rw[HX.out] at ho
   have HF:=lH (And.intro ho (HB2.out.trans hb3))
   clear ho hb3 HC
   go_wp2_with fail
   go_ret
   exact⟨_,rfl,HF.out⟩
end Go.Proofs.YtjkgkmmkehnggaaGreatDoor
