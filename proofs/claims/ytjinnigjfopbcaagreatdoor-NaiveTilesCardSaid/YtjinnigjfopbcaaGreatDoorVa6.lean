/- aVb aVd aLn aEb aEd aNa. -/
import Derived.Test.YtjinnigjfopbcaaGreatDoorVa5
import Derived.Test.YtjinnigjfopbcaaGreatDoorRb
import Derived.Test.YtjinnigjfopbcaaGreatDoorVs
set_option maxHeartbeats 16000000
namespace Go.Proofs.YtjinnigjfopbcaaGreatDoor
set_option linter.unusedVariables false
set_option linter.unusedSimpArgs false
open Go.RowKit
set_option maxRecDepth 20000
theorem xp9 (v:Value) (l:List En) (e:En) (w:World) (hv:xaj w v l) (hm:xas l) (he:xaY e):Calls Tryz.prog 131 #[v,.agg (eC e),.func (.func 132) #[] #[]] w fun x w'=>x=.returned (.bool (xgh l e))∧Below w.heap.size w w':=by
 have hbw:Below w.heap.size w (w.alloc (.cells (eC e) 74)):=(Below.refl _ _).alloc (Nat.le_refl _) _
 have hea:=EAt.made w e 74
 have hv2:=hv.below hbw
 rcases List.eq_nil_or_concat l with rfl|⟨r,a,rfl⟩
 ·obtain⟨a0,c0,rfl,-⟩:=hv
  have HR:Hid (xgh [] e=false):=lH rfl
  have hz:IntKind.i64.wrap ((0:Int) - 1)=-1:=by rw[IntKind.wrap_i64];omega
  rw[List.length_nil]
  unfold eC at hbw hea ⊢
  obtain⟨W,hW⟩:∃ W,(w.alloc (.cells #[.int .u64 e.id,.int .u64 e.off,.int .u32 e.ln,.int .u32 e.rn] 74))=W:=⟨_,rfl⟩
  rw[hW] at hea hbw
  have HK:Hid (∀ w',Below W.heap.size W w'→(w'.cell? ⟨w.heap.size,0,none⟩=some (.int .u64 e.id)∧w'.cell? ⟨w.heap.size,1,none⟩=some (.int .u64 e.off)∧w'.cell? ⟨w.heap.size,2,none⟩=some (.int .u32 e.ln)∧w'.cell? ⟨w.heap.size,3,none⟩=some (.int .u32 e.rn))∧Below W.heap.size W w'):=lH (fun w' h=>⟨hea.later h,h⟩)
  have HB:=lH hbw
  clear hea hbw hv2 he hm
  go_enter Tryz.func131,Tryz.ntmps131
  go_wp2_with fail
  refine wp_region_held_drew (S:=fun w'=>(w'.cell? ⟨w.heap.size,0,none⟩=some (.int .u64 e.id)∧w'.cell? ⟨w.heap.size,1,none⟩=some (.int .u64 e.off)∧w'.cell? ⟨w.heap.size,2,none⟩=some (.int .u32 e.ln)∧w'.cell? ⟨w.heap.size,3,none⟩=some (.int .u32 e.rn))∧Below W.heap.size W w') (by kernel_rfl) (HK.out _ (Below.drew (Below.refl _ _))) (fun hH0=>?_)
  refine tK 0 11 hH0 ?_
  refine tK 1 12 hH0 ?_
  refine tK 2 13 hH0 ?_
  refine tU 3 14 hH0 ?_
  refine tU 4 15 hH0 ?_
  refine tU 5 16 hH0 ?_
  refine tU 6 17 hH0 ?_
  refine tU 7 18 hH0 ?_
  refine tU 8 19 hH0 ?_
  refine tU 9 20 hH0 ?_
  refine tK 10 21 hH0 ?_
  refine tK 11 6 hH0 ?_
  refine wpAnyH_done (by kernel_rfl) ?_ _
  go_wp2_with fail
  go_ret
  exact⟨by rw[HR.out];rfl,HB.out.trans (hH0.2.mono HB.out.size)⟩
 ·rw[List.concat_eq_append] at *
  have HR:=lH (xgE r a e)
  obtain⟨g,off,cap,rfl,hle,hg,hc⟩:=xdA hv r.length (by simp)
  have hmx:r.length+1≤maxLen:=by
   obtain⟨a',c',e',h1,h2,_⟩:=hv
   rw[List.length_append,List.length_singleton] at h1
   omega
  have hlt:(r++[a]).length=r.length+1:=by simp
  rw[hlt] at *
  have hca:=hc r.length a (by simp)
  have hG:=fun W=>xtb e a W he (hm a (by simp))
  have HCA:=lH (fun X (hX:Below w.heap.size w X)=>xbP hX hca)
  unfold maxLen at hmx
  have hi1:IntKind.i64.wrap ((r.length:Int)+1 - 1)=(r.length:Int):=by rw[IntKind.wrap_i64];omega
  have hi2:IntKind.i64.wrap (r.length:Int)=(r.length:Int):=by rw[IntKind.wrap_i64];omega
  have hi3:(r.length:Int)<(r.length:Int)+1:=by omega
  have hi4:(0:Int)≤(r.length:Int):=by omega
  unfold eC at hbw hea hG ⊢
  have HG:=lH hG
  obtain⟨W,hW⟩:∃ W,(w.alloc (.cells #[.int .u64 e.id,.int .u64 e.off,.int .u32 e.ln,.int .u32 e.rn] 74))=W:=⟨_,rfl⟩
  rw[hW] at hea hbw
  have HK:Hid (∀ w',Below W.heap.size W w'→((w'.cell? ⟨w.heap.size,0,none⟩=some (.int .u64 e.id)∧w'.cell? ⟨w.heap.size,1,none⟩=some (.int .u64 e.off)∧w'.cell? ⟨w.heap.size,2,none⟩=some (.int .u32 e.ln)∧w'.cell? ⟨w.heap.size,3,none⟩=some (.int .u32 e.rn))∧(w'.cell? ⟨g,off+r.length*4,none⟩=some (.int .u64 a.id)∧w'.cell? ⟨g,off+r.length*4+1,none⟩=some (.int .u64 a.off)∧w'.cell? ⟨g,off+r.length*4+2,none⟩=some (.int .u32 a.ln)∧w'.cell? ⟨g,off+r.length*4+3,none⟩=some (.int .u32 a.rn)))∧Below W.heap.size W w'):=lH (fun w' h=>⟨⟨hea.later h,HCA.out w' (hbw.trans (h.mono hbw.size))⟩,h⟩)
  have HB:=lH hbw
  generalize xvJ a e=R at *
  clear hea hbw hv2 hv he hm hG hc hca hlt
  generalize r.length=rl at *
  go_enter Tryz.func131,Tryz.ntmps131
  go_wp2_with fail
  refine wp_region_held_drew (S:=fun w'=>((w'.cell? ⟨w.heap.size,0,none⟩=some (.int .u64 e.id)∧w'.cell? ⟨w.heap.size,1,none⟩=some (.int .u64 e.off)∧w'.cell? ⟨w.heap.size,2,none⟩=some (.int .u32 e.ln)∧w'.cell? ⟨w.heap.size,3,none⟩=some (.int .u32 e.rn))∧(w'.cell? ⟨g,off+rl*4,none⟩=some (.int .u64 a.id)∧w'.cell? ⟨g,off+rl*4+1,none⟩=some (.int .u64 a.off)∧w'.cell? ⟨g,off+rl*4+2,none⟩=some (.int .u32 a.ln)∧w'.cell? ⟨g,off+rl*4+3,none⟩=some (.int .u32 a.rn)))∧Below W.heap.size W w') (by kernel_rfl) (HK.out _ (Below.drew (Below.refl _ _))) (fun hH0=>?_)
  refine tK 0 11 hH0 ?_
  refine tK 1 12 hH0 ?_
  refine tK 2 13 hH0 ?_
  refine tK 3 14 hH0 ?_
  refine tK 4 15 hH0 ?_
  refine tK 5 16 hH0 ?_
  refine tK 6 17 hH0 ?_
  refine tK 7 18 hH0 ?_
  refine tK 8 19 hH0 ?_
  refine wpAnyH_ready (rs:=[9]) (by kernel_rfl) (by simp) ?_
  refine AllReadyH.cons rfl (fun K hK=>?_) AllReadyH.nil
  go_simp
  refine(HG.out _).mono ?_
  rintro e w' ⟨rfl,hb⟩
  go_wp2_with fail
  refine hK.out _ _ (HK.out _ (hH0.2.trans (hb.mono hH0.2.size))) (fun hH1=>?_)
  clear hK K hb hH0
  try simp only[Act.put,zsA,zsB,zsC]
  refine tK 10 21 hH1 ?_
  refine tK 11 6 hH1 ?_
  refine wpAnyH_done (by kernel_rfl) ?_ _
  go_wp2_with fail
  go_ret
  exact⟨by rw[HR.out];rfl,HB.out.trans (hH1.2.mono HB.out.size)⟩
theorem xaj.take {w:World} {l:List En} {g off cap:Nat} (h:xaj w (.slice (some ⟨g,off,none⟩) l.length cap) l) (i:Nat) (hi:i≤l.length):xaj w (.slice (some ⟨g,off,none⟩) i cap) (l.take i):=by
 obtain⟨a',c',e',h1,h2,hc⟩:=h
 cases e'
 refine⟨_,cap,by rw[List.length_take,Nat.min_eq_left hi],by rw[List.length_take];omega,h2,fun k t ht=>?_⟩
 refine hc k t ?_
 rw[List.getElem?_take] at ht
 split at ht
 ·exact ht
 ·cases ht
theorem xaQ.keep {w w':World} {B:Nat} {E:TypeId} {v:Value} {l:List En} (h:xaQ w B E v l) (hk:∀ k,v.ownBlock=some k→w'.heap[k]?=w.heap[k]?):xaQ w' B E v l:=by
 obtain⟨h1,h2⟩:=h
 refine⟨h1,?_⟩
 rcases h2 with h2|⟨g,cap,cur,hv,hg,hh,r⟩
 ·exact .inl h2
 ·refine .inr ⟨g,cap,cur,hv,hg,?_,r⟩
  rw[hk g (by rw[hv];rfl)];exact hh
theorem xaQ.cells {w:World} {B:Nat} {E:TypeId} {v:Value} {l:List En} (h:xaQ w B E v l) {g:Nat} (hg:v.ownBlock=some g):∃ cur T fz,w.heap[g]?=some (.cells cur T fz):=by
 rcases h.2 with ⟨rfl,_⟩|⟨g',cap,cur,rfl,_,hh,_⟩
 ·cases hg
 ·cases hg
  exact⟨_,_,_,hh⟩
theorem xby {w:World} {B g:Nat} {E:TypeId} {v x:Value} {l:List En} (h:xaQ w B E v l) (ho:One w g x):v.ownBlock≠some g:=by
 intro e
 obtain⟨T,hh⟩:=ho
 rcases h.2 with ⟨rfl,_⟩|⟨g',cap,cur,rfl,_,h2,_,_,hcs,_⟩
 ·cases e
 ·cases e
  rw[hh] at h2
  cases h2
  simp at hcs
  omega
theorem One.keep {w w':World} {g:Nat} {x:Value} (h:One w g x) (hk:w'.heap[g]?=w.heap[g]?):One w' g x:=by
 obtain⟨T,h⟩:=h
 exact⟨T,hk.trans h⟩
theorem xne {w:World} {v:Value} {l:List ByteArray} {S:Nat→Prop} (h:xgH w v l S) {b:Nat} (hb:S b) {o:Obj} (ho:w.heap[b]?=some o):xcY o=false:=by
 obtain⟨pb,va,vm,G,rfl,hP,hS⟩:=h
 rcases(hS b).1 hb with rfl|hb|hb|⟨k,hb⟩
 ·have h0:=hP.two.1
  unfold World.cell? at h0
  simp only[ho] at h0
  cases o <;> first|rfl|simp at h0
 ·obtain⟨_,_,_,hh⟩:=hP.all.cells hb
  rw[ho] at hh;cases hh;rfl
 ·rcases hP.map with ⟨e,_⟩|⟨mb,e,hm⟩
  ·rw[e] at hb;cases hb
  ·rw[e] at hb;cases hb
   obtain⟨_,_,hh⟩:=hm.block
   rw[ho] at hh;cases hh;rfl
 ·obtain⟨_,_,_,hh⟩:=(hP.grps k).cells hb
  rw[ho] at hh;cases hh;rfl
def xrO (bl:Nat) (vo:Value) (Sp:Nat→Prop) (b:Nat):Prop:=b=bl∨vo.ownBlock=some b∨Sp b
structure RwP (w:World) (B bp bl:Nat) (pv:Value) (rows:List En) (ts:List ByteArray) (vo:Value) (Sp:Nat→Prop) (W:World):Prop where
 bxp:One W bp pv
 bxl:One W bl vo
 out:xaQ W B 74 vo rows
 pool:xgH W pv ts Sp
 np:¬ Sp bp
 nl:¬ Sp bl
 no:∀ b,vo.ownBlock=some b→¬ Sp b
 npl:bp≠bl
 bas:∀ b,Sp b→B≤b
 bll:B≤bl
 bel:Below B w W
section
variable {w:World} {B bp bl:Nat} {pv:Value} {rows:List En} {ts:List ByteArray} {vo:Value} {Sp:Nat→Prop} {W W':World}
theorem RwP.lt (h:RwP w B bp bl pv rows ts vo Sp W):∀ b,xrO bl vo Sp b→b<W.heap.size:=by
 rintro b (rfl|hb|hb)
 ·exact h.bxl.lt
 ·exact(h.out.lt b hb).2
 ·exact h.pool.lt b hb
theorem RwP.low (h:RwP w B bp bl pv rows ts vo Sp W):∀ b,xrO bl vo Sp b→B≤b:=by
 rintro b (rfl|hb|hb)
 ·exact h.bll
 ·exact(h.out.lt b hb).1
 ·exact h.bas b hb
theorem RwP.keep (h:RwP w B bp bl pv rows ts vo Sp W) (hs:W.heap.size≤W'.heap.size) (hk:∀ b,b=bp∨xrO bl vo Sp b→W'.heap[b]?=W.heap[b]?) (hb:Below B w W'):RwP w B bp bl pv rows ts vo Sp W' :=
 ⟨h.bxp.keep (hk _ (.inl rfl)),h.bxl.keep (hk _ (.inr (.inl rfl))),h.out.keep (fun k hv=>hk k (.inr (.inr (.inl hv)))),h.pool.keep hs (fun b hS=>hk b (.inr (.inr (.inr hS)))),h.np,h.nl,h.no,h.npl,h.bas,h.bll,hb⟩
theorem RwP.below (h:RwP w B bp bl pv rows ts vo Sp W) (hb:Below W.heap.size W W') (hB:B≤W.heap.size):RwP w B bp bl pv rows ts vo Sp W' :=
 h.keep hb.size (fun b hk=>hb.block b (by rcases hk with rfl|hk;exact h.bxp.lt;exact h.lt b hk)) (h.bel.trans (hb.mono hB))
theorem RwP.size (h:RwP w B bp bl pv rows ts vo Sp W):B≤W.heap.size:=Nat.le_of_lt (Nat.lt_of_le_of_lt h.bll h.bxl.lt)
theorem RwP.later (h:RwP w B bp bl pv rows ts vo Sp W) (hb:Below W.heap.size W W'):RwP w B bp bl pv rows ts vo Sp W':=h.below hb h.size
theorem RwP.add {ts':List ByteArray} {Sp':Nat→Prop} (h:RwP w B bp bl pv rows ts vo Sp W) (hp:xgH W' pv ts' Sp') (hk:Kept Sp Sp' W W'):RwP w B bp bl pv rows ts' vo Sp' W'∧KeepsS (xrO bl vo Sp) (xrO bl vo Sp') W W':=by
 refine⟨⟨h.bxp.keep (hk.same _ h.bxp.lt h.np),h.bxl.keep (hk.same _ h.bxl.lt h.nl),h.out.keep (fun k hv=>hk.same k (h.out.lt k hv).2 (h.no k hv)),hp,fun hb=>?_,fun hb=>?_,fun b hv hb=>?_,h.npl,fun b hb=>?_,h.bll,Below.kept h.bel hk h.bas h.size⟩,⟨hk.size,fun b o hb ho=>?_,fun b hb=>?_⟩⟩
 ·rcases hk.own _ hb with hq|hq
  ·exact h.np hq
  ·have:=h.bxp.lt;omega
 ·rcases hk.own _ hb with hq|hq
  ·exact h.nl hq
  ·have:=h.bxl.lt;omega
 ·rcases hk.own _ hb with hq|hq
  ·exact h.no b hv hq
  ·have:=(h.out.lt b hv).2;omega
 ·rcases hk.own _ hb with hq|hq
  ·exact h.bas b hq
  ·exact Nat.le_trans h.size hq
 ·exact(hk.same b (xay ho) (fun hq=>hb (.inr (.inr hq)))).trans ho
 ·rcases hb with rfl|hb|hb
  ·exact .inl (.inl rfl)
  ·exact .inl (.inr (.inl hb))
  ·rcases hk.own _ hb with hq|hq
   ·exact .inl (.inr (.inr hq))
   ·exact .inr hq
theorem RwP.row {rows':List En} (h:RwP w B bp bl pv rows ts vo Sp W) (ho:xaQ W' B 74 vo rows') (hg:W.grownBy W' vo.ownBlock):RwP w B bp bl pv rows' ts vo Sp W':=by
 have hbp:=xby h.out h.bxp
 have hbl:=xby h.out h.bxl
 exact⟨h.bxp.keep (hg.block _ h.bxp.lt (fun e=>hbp e.symm)),h.bxl.keep (hg.block _ h.bxl.lt (fun e=>hbl e.symm)),ho,h.pool.keep hg.size (fun b hS=>hg.block b (h.pool.lt b hS) (fun e=>h.no b e.symm hS)),h.np,h.nl,h.no,h.npl,h.bas,h.bll,h.bel.grown hg h.size (fun k hk=>(h.out.lt k hk).1)⟩
theorem xjV {S:Nat→Prop} {X Y:World} {r:Option Nat} (h:X.grownBy Y r) (hr:∀ k,r=some k→S k):KeepsS S S X Y :=
 ⟨h.size,fun b o hb ho=>(h.block b (xay ho) (fun e=>hb (hr b e.symm))).trans ho,fun _ h=>.inl h⟩
theorem RwP.run {r:List En} {a:En} {g cap:Nat} (h:RwP w B bp bl pv (r++[a]) ts (.slice (some ⟨g,0,none⟩) (r.length+1) cap) Sp W) (x:Int) :
  RwP w B bp bl pv (r++[{ a with rn:=x }]) ts (.slice (some ⟨g,0,none⟩) (r.length+1) cap) Sp (W.setCell ⟨g,r.length*4+3,none⟩ (.int .u32 x))∧KeepsS (xrO bl (.slice (some ⟨g,0,none⟩) (r.length+1) cap) Sp) (xrO bl (.slice (some ⟨g,0,none⟩) (r.length+1) cap) Sp) W (W.setCell ⟨g,r.length*4+3,none⟩ (.int .u32 x)):=by
 obtain⟨h1,h2⟩:=xrk h.out x
 exact⟨h.row h1 h2,xjV h2 (fun k e=>.inr (.inl e))⟩
theorem RwP.app {rows':List En} {v':Value} (h:RwP w B bp bl pv rows ts vo Sp W) (ho:xaQ W' B 74 v' rows') (hg:W.grownBy W' vo.ownBlock) (hl:v'.ownBlock=vo.ownBlock∨∃ g,v'.ownBlock=some g∧W.heap.size≤g) :
  RwP w B bp bl pv rows' ts v' Sp (W'.setCell ⟨bl,0,none⟩ v')∧KeepsS (xrO bl vo Sp) (xrO bl v' Sp) W (W'.setCell ⟨bl,0,none⟩ v'):=by
 have hbp:=xby h.out h.bxp
 have hbl:=xby h.out h.bxl
 have hp1:=h.bxp.keep (w':=W') (hg.block _ h.bxp.lt (fun e=>hbp e.symm))
 have hl1:=h.bxl.keep (w':=W') (hg.block _ h.bxl.lt (fun e=>hbl e.symm))
 have hbl':=xby ho hl1
 have hset:∀ b,b≠bl→(W'.setCell ⟨bl,0,none⟩ v').heap[b]?=W'.heap[b]?:=fun b hb=>Below.heap_setCell _ _ _ _ (by simpa using hb)
 have hsz:(W'.setCell ⟨bl,0,none⟩ v').heap.size=W'.heap.size:=by simp
 refine⟨⟨hp1.set_other h.npl v',hl1.set v',ho.keep (fun k hk=>hset k (fun e=>hbl' (by rw[hk,e]))),h.pool.keep (by rw[hsz];exact hg.size) (fun b hS=>(hset b (fun e=>h.nl (e ▸ hS))).trans (hg.block b (h.pool.lt b hS) (fun e=>h.no b e.symm hS))),h.np,h.nl,fun b hv hS=>?_,h.npl,h.bas,h.bll,(h.bel.grown hg h.size (fun k hk=>(h.out.lt k hk).1)).setCell (p:=⟨bl,0,none⟩) h.bll v'⟩,⟨by rw[hsz];exact hg.size,fun b o hb hq=>?_,fun b hb=>?_⟩⟩
 ·rcases hl with hl|⟨g,hl,hge⟩
  ·exact h.no b (by rw[← hl];exact hv) hS
  ·rw[hv] at hl
   cases hl
   have:=h.pool.lt b hS
   omega
 ·exact(hset b (fun e=>hb (.inl e))).trans ((hg.block b (xay hq) (fun e=>hb (.inr (.inl e.symm)))).trans hq)
 ·rcases hb with rfl|hb|hb
  ·exact .inl (.inl rfl)
  ·rcases hl with hl|⟨g,hl,hge⟩
   ·exact .inl (.inr (.inl (by rw[← hl];exact hb)))
   ·rw[hb] at hl
    cases hl
    exact .inr hge
  ·exact .inl (.inr (.inr hb))
theorem RwP.grown {row:Option Nat} (h:RwP w B bp bl pv rows ts vo Sp W) (hg:W.grownBy W' row) (hrow:∀ r,row=some r→B≤r∧∃ o:Obj,W.heap[r]?=some o∧xcY o=true):RwP w B bp bl pv rows ts vo Sp W':=by
 have hne:∀ b o,W.heap[b]?=some o→xcY o=false→row≠some b:=fun b o ho hn e=>by
  obtain⟨_,o',ho',hy⟩:=hrow b e
  rw[ho] at ho'
  cases ho'
  rw[hn] at hy
  cases hy
 refine h.keep hg.size (fun b hb=>?_) (h.bel.grown hg h.size (fun r e=>(hrow r e).1))
 rcases hb with rfl|rfl|hb|hb
 ·obtain⟨T,hh⟩:=h.bxp
  exact hg.block _ (xay hh) (fun e=>hne _ _ hh rfl e.symm)
 ·obtain⟨T,hh⟩:=h.bxl
  exact hg.block _ (xay hh) (fun e=>hne _ _ hh rfl e.symm)
 ·obtain⟨_,_,_,hh⟩:=h.out.cells hb
  exact hg.block _ (xay hh) (fun e=>hne _ _ hh rfl e.symm)
 ·have hlt:=h.pool.lt b hb
  have ho:=Array.getElem?_eq_getElem hlt
  exact hg.block _ hlt (fun e=>hne _ _ ho (xne h.pool hb ho) e.symm)
end
def RwI (w:World) (B bp bl:Nat) (pv:Value) (L:List It) (k:Nat) (S:Nat→Prop) (W:World):Prop :=
 ∃ vo Sp,RwP w B bp bl pv (xoS (L.take k)).1 (xoS (L.take k)).2 vo Sp W∧∀ b,S b↔xrO bl vo Sp b
theorem RwI.lt {w:World} {B bp bl:Nat} {pv:Value} {L:List It} {k:Nat} {S:Nat→Prop} {W:World} (h:RwI w B bp bl pv L k S W):∀ b,S b→b<W.heap.size:=by
 obtain⟨vo,Sp,h,hS⟩:=h
 exact fun b hb=>h.lt b ((hS b).1 hb)
theorem xnu:(Tryz.prog.info? 74).map (fun i=>(i.zero,i.size,i.bytes))=some (some (.agg #[.int .u64 0,.int .u64 0,.int .u32 0,.int .u32 0]),4,24):=by kernel_rfl
theorem xjR (W:World) (ty:TypeId) (B:Nat) (v:Value) (L:List En) (e:En) (b c:Nat) (hown:xaQ W B 74 v L) (he:EAt W b e) (hl:L.length≤1000000) (hB:B≤W.heap.size) :
  ∃ v' w',(Builtin.append_ #[27,27] ty #[v,.slice (some ⟨b,0,none⟩) 1 c]).run Tryz.prog W=.ok v' w'∧xaQ w' B 74 v' (L++[e])∧W.grownBy w' v.ownBlock∧(v'.ownBlock=v.ownBlock∨∃ g,v'.ownBlock=some g∧W.heap.size≤g):=by
 obtain⟨v',w',hr,h2,h3,h4⟩:=xfZ 4 24 W B 27 74 ty _ Tryz.underlying27 xnu rfl (by omega) (by omega) v L.length (xaw L) hown ⟨b,0,none⟩ 1 c (xaw [e]) rfl (by
  intro j u hu
  match j,hu with
  | 0,hu=>simp only[xcx,cE,List.getElem?_cons_zero,Option.some.injEq] at hu;rw[← hu];exact he.1
  | 1,hu=>simp only[xcx,cE,List.getElem?_cons_succ,List.getElem?_cons_zero,Option.some.injEq] at hu;rw[← hu];exact he.2.1
  | 2,hu=>simp only[xcx,cE,List.getElem?_cons_succ,List.getElem?_cons_zero,Option.some.injEq] at hu;rw[← hu];exact he.2.2.1
  | 3,hu=>simp only[xcx,cE,List.getElem?_cons_succ,List.getElem?_cons_zero,Option.some.injEq] at hu;rw[← hu];exact he.2.2.2
  | j+4,hu=>simp[xcx,cE] at hu) (xdM [e]) (by omega) (by omega) hB
 exact⟨v',w',hr,xaJ h2 (by simp) (by rw[xbu]),h3,h4⟩
end Go.Proofs.YtjinnigjfopbcaaGreatDoor
namespace Go.Proofs.YtjinnigjfopbcaaGreatDoor
set_option linter.unusedVariables false
set_option linter.unusedSimpArgs false
open Go.RowKit
set_option maxRecDepth 20000
def tab:List UInt8:=[0,1,2,2,3,3,3,3,4,4,4,4,4,4,4,4,5,5,5,5,5,5,5,5,5,5,5,5,5,5,5,5,6,6,6,6,6,6,6,6,6,6,6,6,6,6,6,6,6,6,6,6,6,6,6,6,6,6,6,6,6,6,6,6,7,7,7,7,7,7,7,7,7,7,7,7,7,7,7,7,7,7,7,7,7,7,7,7,7,7,7,7,7,7,7,7,7,7,7,7,7,7,7,7,7,7,7,7,7,7,7,7,7,7,7,7,7,7,7,7,7,7,7,7,7,7,7,7,8,8,8,8,8,8,8,8,8,8,8,8,8,8,8,8,8,8,8,8,8,8,8,8,8,8,8,8,8,8,8,8,8,8,8,8,8,8,8,8,8,8,8,8,8,8,8,8,8,8,8,8,8,8,8,8,8,8,8,8,8,8,8,8,8,8,8,8,8,8,8,8,8,8,8,8,8,8,8,8,8,8,8,8,8,8,8,8,8,8,8,8,8,8,8,8,8,8,8,8,8,8,8,8,8,8,8,8,8,8,8,8,8,8,8,8,8,8,8,8,8,8,8,8,8,8,8,8]
def xzJ (N b:Nat):Bool:=(N == 0 && b == 0) || (decide (1≤N) && decide (N≤64) && decide (2 ^ (N - 1)≤b) && decide (b<2 ^ N))
def Len (N:Nat) (x:Int):Prop:=N≤64∧(N=0∧x=0∨1≤N∧((2 ^ (N - 1):Nat):Int)≤x∧x<((2 ^ N:Nat):Int))
theorem xvf:(List.range 256).all (fun b=>decide ((tab.getD b 0).toNat≤8) && xzJ (tab.getD b 0).toNat b)=true:=by kernel_rfl
theorem xvl:tab.length=256:=by kernel_rfl
theorem xtu (b:Nat) (h:b<256):(tab.getD b 0).toNat≤8∧Len (tab.getD b 0).toNat (b:Int):=by
 have:=List.all_eq_true.1 xvf b (by simpa using h)
 generalize (tab.getD b 0).toNat=L at *
 simp only[Bool.and_eq_true,decide_eq_true_eq,xzJ,Bool.or_eq_true,beq_iff_eq] at this
 refine⟨this.1,by omega,?_⟩
 omega
theorem xxR (B L:Nat) (y x:Int) (hL:L≤8) (hB:B=0∨B=8∨B=16∨B=24∨B=32∨B=40∨B=48∨B=56) (h:Len L y) (hy:x / ((2 ^ B:Nat):Int)=y) (h1:B=0∨1≤y):Len (B+L) x:=by
 unfold Len at *
 refine⟨by omega,?_⟩
 rcases(by omega:L=0∨L=1∨L=2∨L=3∨L=4∨L=5∨L=6∨L=7∨L=8) with rfl|rfl|rfl|rfl|rfl|rfl|rfl|rfl|rfl <;>
 rcases hB with rfl|rfl|rfl|rfl|rfl|rfl|rfl|rfl <;> simp only[Nat.reducePow,Nat.reduceSub,Nat.reduceAdd,Nat.add_zero,Nat.zero_add,Int.cast_ofNat_Int] at*<;> first|omega|(simp at *;omega)
theorem xv4 (B:Nat) (y x:Int) (T:ByteArray) (hT:T.data.toList=tab) (hi:y.toNat<T.size) (hB:B=0∨B=8∨B=16∨B=24∨B=32∨B=40∨B=48∨B=56) (hy:x / ((2 ^ B:Nat):Int)=y) (y0:0≤y) (h1:B=0∨1≤y):∃ n:Nat,wrap64 ((B:Int)+wrap64 ((T[y.toNat].toNat:Nat):Int))=n∧Len n x:=by
 have hz:T.size=256:=by rw[← xvl,← hT];simp
 have hs:=xtu y.toNat (by omega)
 have e:T[y.toNat]=tab.getD y.toNat 0:=by
  rw[← hT]
  simp[List.getD,ByteArray.getElem_eq_getElem_data]
  have:y.toNat<T.data.size:=hi
  rw[Array.getElem?_eq_getElem this];rfl
 rw[e]
 refine⟨B+(tab.getD y.toNat 0).toNat,?_,xxR B _ y x hs.1 hB (by have:=hs.2;rwa[Int.toNat_of_nonneg y0] at this) hy h1⟩
 unfold wrap64
 omega
theorem xbm (B:Nat) (y x:Int) (T:ByteArray) (hi:y.toNat<T.size) (hT:T.data.toList=tab) (hB:B=0∨B=8∨B=16∨B=24∨B=32∨B=40∨B=48∨B=56) (hy:x / ((2 ^ B:Nat):Int)=y) (y0:0≤y) (h1:B=0∨1≤y) (v:Int) (hv:v=wrap64 ((B:Int)+wrap64 ((T[y.toNat].toNat:Nat):Int))):∃ n:Nat,Ending.returned (.int .i64 v)=.returned (.int .i64 n)∧Len n x:=by
 obtain⟨n,a,b⟩:=xv4 B y x T hT hi hB hy y0 h1
 exact⟨n,by rw[hv,a],b⟩
set_option maxRecDepth 100000 in
theorem xjZ (x:Int) (w:World) (x0:0≤x) (x1:x≤18446744073709551615):Calls Tryz.prog 263 #[.int .u64 x] w fun e w'=>(∃ n:Nat,e=.returned (.int .i64 n)∧Len n x)∧w=w':=by
 by_cases h1:4294967296≤x
 ·go_enter Tryz.func263,Tryz.ntmps263
  go_wp2
  all_goals
   go_ret
   refine⟨?_,rfl⟩
   first
    | exact xbm 56 _ x _ _ (by kernel_rfl) (by decide) (by (simp only[Nat.reducePow,Int.cast_ofNat_Int]) <;> omega) (by omega) (by omega) _ rfl
    | exact xbm 48 _ x _ _ (by kernel_rfl) (by decide) (by (simp only[Nat.reducePow,Int.cast_ofNat_Int]) <;> omega) (by omega) (by omega) _ rfl
    | exact xbm 40 _ x _ _ (by kernel_rfl) (by decide) (by (simp only[Nat.reducePow,Int.cast_ofNat_Int]) <;> omega) (by omega) (by omega) _ rfl
    | exact xbm 32 _ x _ _ (by kernel_rfl) (by decide) (by (simp only[Nat.reducePow,Int.cast_ofNat_Int]) <;> omega) (by omega) (by omega) _ rfl
    | exact xbm 24 _ x _ _ (by kernel_rfl) (by decide) (by (simp only[Nat.reducePow,Int.cast_ofNat_Int]) <;> omega) (by omega) (by omega) _ rfl
    | exact xbm 16 _ x _ _ (by kernel_rfl) (by decide) (by (simp only[Nat.reducePow,Int.cast_ofNat_Int]) <;> omega) (by omega) (by omega) _ rfl
    | exact xbm 8 _ x _ _ (by kernel_rfl) (by decide) (by (simp only[Nat.reducePow,Int.cast_ofNat_Int]) <;> omega) (by omega) (by omega) _ rfl
    | exact xbm 0 _ x _ _ (by kernel_rfl) (by decide) (by (simp only[Nat.reducePow,Int.cast_ofNat_Int]) <;> omega) (by omega) (by omega) _ (congrArg wrap64 (Int.zero_add _).symm)
 ·go_enter Tryz.func263,Tryz.ntmps263
  go_wp2
  all_goals
   go_ret
   refine⟨?_,rfl⟩
   first
    | exact xbm 56 _ x _ _ (by kernel_rfl) (by decide) (by (simp only[Nat.reducePow,Int.cast_ofNat_Int]) <;> omega) (by omega) (by omega) _ rfl
    | exact xbm 48 _ x _ _ (by kernel_rfl) (by decide) (by (simp only[Nat.reducePow,Int.cast_ofNat_Int]) <;> omega) (by omega) (by omega) _ rfl
    | exact xbm 40 _ x _ _ (by kernel_rfl) (by decide) (by (simp only[Nat.reducePow,Int.cast_ofNat_Int]) <;> omega) (by omega) (by omega) _ rfl
    | exact xbm 32 _ x _ _ (by kernel_rfl) (by decide) (by (simp only[Nat.reducePow,Int.cast_ofNat_Int]) <;> omega) (by omega) (by omega) _ rfl
    | exact xbm 24 _ x _ _ (by kernel_rfl) (by decide) (by (simp only[Nat.reducePow,Int.cast_ofNat_Int]) <;> omega) (by omega) (by omega) _ rfl
    | exact xbm 16 _ x _ _ (by kernel_rfl) (by decide) (by (simp only[Nat.reducePow,Int.cast_ofNat_Int]) <;> omega) (by omega) (by omega) _ rfl
    | exact xbm 8 _ x _ _ (by kernel_rfl) (by decide) (by (simp only[Nat.reducePow,Int.cast_ofNat_Int]) <;> omega) (by omega) (by omega) _ rfl
    | exact xbm 0 _ x _ _ (by kernel_rfl) (by decide) (by (simp only[Nat.reducePow,Int.cast_ofNat_Int]) <;> omega) (by omega) (by omega) _ (congrArg wrap64 (Int.zero_add _).symm)
set_option maxRecDepth 20000 in
theorem xgU (e:En) (w:World) (hm:xaY e):Calls Tryz.prog 109 #[.agg (eC e)] w fun x w'=>x=.returned (.int .u64 (laN e))∧Below w.heap.size w w':=by
 have HW:=lH (fun W=>xjG e W hm)
 have HC:=lH (fun W=>xdK e W hm)
 have H0:=EAt.made w e 118
 have HB:Below w.heap.size w (w.alloc (.cells (eC e) 118)):=(Below.refl _ _).alloc (Nat.le_refl _) _
 have hwd:=xjA e hm.2.2.2.1
 by_cases h0:ckN e=0
 ·have hb:=xhO e h0
  have hi:=hm.1
  have hw1:IntKind.u64.wrap (e.id+wdN e)=e.id+wdN e:=by rw[IntKind.wrap_u64] <;> omega
  have hw2:IntKind.u64.wrap (e.id+wdN e - 1)=e.id+wdN e - 1:=by rw[IntKind.wrap_u64] <;> omega
  have hla:Hid (e.id+wdN e - 1=laN e):=lH (by unfold laN;rw[if_pos h0])
  rw[h0] at HC
  obtain⟨d,hd⟩:∃ d,wdN e=d:=⟨_,rfl⟩
  rw[hd] at HW hw1 hw2 hla
  clear hd h0 hb hm hwd
  unfold eC at HB HC HW ⊢
  obtain⟨c0,c1,c2,c3⟩:=H0
  unfold eC at c0 c1 c2 c3
  go_enter Tryz.func109,Tryz.ntmps109
  go_wp2_with fail
  refine(HC.out _).mono ?_
  rintro x w1 ⟨rfl,hb⟩
  have HS1:=xa6 hb ⟨⟨c0,c1,c2,c3⟩,HB⟩
  have HS0:=xa6 (Below.drew (Below.refl _ _)) HS1
  clear hb c0 c1 c2 c3 HB HS1
  go_upto_region 3 with fail
  refine wp_region_held_drew (S:=fun w'=>(w'.cell? ⟨w.heap.size,0,none⟩=some (.int .u64 e.id)∧w'.cell? ⟨w.heap.size,1,none⟩=some (.int .u64 e.off)∧w'.cell? ⟨w.heap.size,2,none⟩=some (.int .u32 e.ln)∧w'.cell? ⟨w.heap.size,3,none⟩=some (.int .u32 e.rn))∧Below w.heap.size w w') (by kernel_rfl) HS0 (fun hH0=>?_)
  refine tK 0 6 hH0 ?_
  refine tK 1 7 hH0 ?_
  refine tK 2 8 hH0 ?_
  refine wpAnyH_ready (rs:=[3]) (by kernel_rfl) (by simp) ?_
  refine AllReadyH.cons rfl (fun K hK=>?_) AllReadyH.nil
  go_simp
  refine(HW.out _).mono ?_
  rintro e w' ⟨rfl,hb⟩
  go_wp2_with fail
  refine hK.out _ _ (xa6 hb hH0) (fun hH1=>?_)
  clear hK K hb hH0
  try simp only[Act.put,zsA,zsB,zsC]
  refine tK 4 10 hH1 ?_
  refine tK 5 11 hH1 ?_
  refine tK 6 2 hH1 ?_
  refine wpAnyH_done (by kernel_rfl) ?_ _
  go_wp2_with fail
  go_ret
  exact⟨xe2 hla.out,hH1.2⟩
 ·have hla:laN e=0:=by unfold laN;rw[if_neg h0]
  rw[hla]
  obtain⟨r,hr⟩:∃ r,ckN e=r:=⟨_,rfl⟩
  rw[hr] at HC h0
  have hne:(r != 0)=true:=by simp only[bne_iff_ne,ne_eq];exact h0
  clear hr h0 hm hla hwd HW
  unfold eC at HB HC ⊢
  obtain⟨c0,c1,c2,c3⟩:=H0
  unfold eC at c0 c1 c2 c3
  go_enter Tryz.func109,Tryz.ntmps109
  go_wp2_with fail
  refine(HC.out _).mono ?_
  rintro x w1 ⟨rfl,hb⟩
  have HS1:=xa6 hb ⟨⟨c0,c1,c2,c3⟩,HB⟩
  have HU:=lH HS1.2
  clear hb c0 c1 c2 c3 HB HS1
  go_wp2_with fail
  go_ret
  exact⟨rfl,HU.out⟩
set_option maxRecDepth 20000 in
theorem xt0 (e:En) (q:Int) (w:World) (hm:xaY e):Calls Tryz.prog 62 #[.agg (eC e),.int .u64 q] w fun x w'=>x=.returned (.bool (xic e q))∧Below w.heap.size w w':=by
 have HL:=lH (fun W=>xgU e W hm)
 have HC:=lH (fun W=>xdK e W hm)
 have H0:=EAt.made w e 118
 have HB:Below w.heap.size w (w.alloc (.cells (eC e) 118)):=(Below.refl _ _).alloc (Nat.le_refl _) _
 obtain⟨r,hr⟩:∃ r,ckN e=r:=⟨_,rfl⟩
 obtain⟨la,hla⟩:∃ la,laN e=la:=⟨_,rfl⟩
 have hh:Hid ((decide (r=0) && (decide (0<e.rn) && (decide (e.id≤q) && decide (q≤la))))=xic e q):=lH (by unfold xic;rw[hr,hla])
 obtain⟨b,hb⟩:∃ b,xic e q=b:=⟨_,rfl⟩
 rw[hb] at hh ⊢
 rw[hr] at HC
 rw[hla] at HL
 clear hb hr hla hm
 unfold eC at HB HC HL ⊢
 obtain⟨c0,c1,c2,c3⟩:=H0
 unfold eC at c0 c1 c2 c3
 by_cases h0:r=0
 ·subst h0
  by_cases h1:0<e.rn
  ·have d1:decide (0<e.rn)=true:=by simpa using h1
   by_cases h2:e.id≤q
   ·have d2:decide (e.id≤q)=true:=by simpa using h2
    clear h1 h2
    go_enter Tryz.func62,Tryz.ntmps62
    go_wp2_with fail
    refine(HC.out _).mono ?_
    rintro x w1 ⟨rfl,hb⟩
    obtain⟨⟨k0,k1,k2,k3⟩,hU⟩:=xa6 hb ⟨⟨c0,c1,c2,c3⟩,HB⟩
    have HU:=lH hU
    clear hb c0 c1 c2 c3 HB hU
    go_wp2_with fail
    refine(HL.out _).mono ?_
    rintro x w2 ⟨rfl,hb⟩
    have HU2:=lH (HU.out.trans (hb.mono HU.out.size))
    clear hb k0 k1 k2 k3
    go_wp2_with fail
    go_ret
    exact⟨xfj (by rw[← hh.out,d1,d2];simp),HU2.out⟩
   ·have d2:decide (e.id≤q)=false:=by simpa using h2
    clear h1 h2
    go_enter Tryz.func62,Tryz.ntmps62
    go_wp2_with fail
    refine(HC.out _).mono ?_
    rintro x w1 ⟨rfl,hb⟩
    obtain⟨⟨k0,k1,k2,k3⟩,hU⟩:=xa6 hb ⟨⟨c0,c1,c2,c3⟩,HB⟩
    have HU:=lH hU
    clear hb c0 c1 c2 c3 HB hU
    go_wp2_with fail
    go_ret
    exact⟨xfj (by rw[← hh.out,d1,d2];simp),HU.out⟩
  ·have d1:decide (0<e.rn)=false:=by simpa using h1
   clear h1
   go_enter Tryz.func62,Tryz.ntmps62
   go_wp2_with fail
   refine(HC.out _).mono ?_
   rintro x w1 ⟨rfl,hb⟩
   obtain⟨⟨k0,k1,k2,k3⟩,hU⟩:=xa6 hb ⟨⟨c0,c1,c2,c3⟩,HB⟩
   have HU:=lH hU
   clear hb c0 c1 c2 c3 HB hU
   go_wp2_with fail
   go_ret
   exact⟨xfj (by rw[← hh.out,d1];simp),HU.out⟩
 ·have hne:(r == 0)=false:=by simpa using h0
  have hne2:decide (r=0)=false:=by simpa using h0
  clear h0
  go_enter Tryz.func62,Tryz.ntmps62
  go_wp2_with fail
  refine(HC.out _).mono ?_
  rintro x w1 ⟨rfl,hb⟩
  obtain⟨⟨k0,k1,k2,k3⟩,hU⟩:=xa6 hb ⟨⟨c0,c1,c2,c3⟩,HB⟩
  have HU:=lH hU
  clear hb c0 c1 c2 c3 HB hU
  go_wp2_with fail
  go_ret
  exact⟨xfj (by rw[← hh.out,hne2];simp),HU.out⟩
set_option maxRecDepth 20000 in
theorem xd0 (v:Value) (l:List En) (w:World) (hv:xaj w v l) (hm:xas l):Calls Tryz.prog 108 #[v] w fun x w'=>x=.returned (.int .i64 (xa5 l))∧Below w.heap.size w w':=by
 obtain⟨al,cap,rfl,hcap,_,hc⟩:=hv
 have HC:=lH hc
 have HM:=lH hm
 obtain⟨R,hR⟩:∃ R,xa5 l=R:=⟨_,rfl⟩
 rw[hR]
 clear hc hm
 by_cases h4:4096<l.length
 ·have hR2:R=21:=by rw[← hR,xa5,if_pos h4]
  subst hR2
  have hd:decide (4096<(l.length:Int))=true:=by simp;omega
  clear hR
  go_enter Tryz.func108,Tryz.ntmps108
  go_wp2_with fail
  go_ret
  exact⟨rfl,by go_grown⟩
 have hR2:xfk (-1) l=R:=by rw[← hR,xa5,if_neg h4]
 have HR:=lH hR2
 have hd:decide (4096<(l.length:Int))=false:=by simp;omega
 clear hR hR2
 go_enter Tryz.func108,Tryz.ntmps108
 go_wp2_with fail
 go_loopw [3] (fun s wr=>∃ i:Nat,i≤l.length∧s=.int .i64 i∧Hid (xfk (-1) (l.take i)=0)∧Below w.heap.size w wr) (fun s _=>l.length - (intOf s).toNat)
 case atStart=>exact⟨0,Nat.zero_le _,rfl,lH rfl,Below.refl _ _⟩
 case round =>
  obtain⟨i,hi,rfl,HG,hbw⟩:=hrel
  by_cases hlt:i<l.length
  ·obtain⟨e,he⟩:∃ t,l[i]?=some t:=⟨_,List.getElem?_eq_getElem hlt⟩
   obtain⟨g,off,rfl,hg,l0,l1,l2,l3⟩:=HC.out i e he
   have hme:=HM.out e (List.mem_of_getElem? he)
   have HK:=lH (fun W=>xdK e W hme)
   have HAt:=lH (xoQ l i e he HG.out)
   have hi2:(i:Int)<(l.length:Int):=by omega
   have hcl:=xly (Below.refl _ _) ⟨xbP hbw ⟨l0,l1,l2,l3⟩,hbw⟩
   have HE:Hid (¬ e.id≤-1):=lH (by have:=hme.1;omega)
   clear he hme l0 l1 l2 l3 hbw HG
   unfold eC at HK
   by_cases h0:ckN e=0
   ·rw[h0] at HK
    have HCL:=lH hcl
    obtain⟨⟨k0,k1,k2,k3⟩,hbw⟩:=hcl
    clear hbw
    by_cases hz:i=0
    ·have hdz:decide (0<(i:Int))=false:=by simp;omega
     have hdn:decide (0<i)=false:=by simp;omega
     have HZ:=lH hz
     clear hz
     go_wp2_with fail
     refine(HK.out _).mono ?_
     rintro x w1 ⟨rfl,hb⟩
     have HS0:=xly (Below.drew (Below.refl _ _)) (xly hb HCL.out)
     clear hb k0 k1 k2 k3 HCL
     go_upto_region 9 with fail
     refine wp_region_held_drew (S:=fun w'=>(w'.cell? ⟨g,off+i*4,none⟩=some (.int .u64 e.id)∧w'.cell? ⟨g,off+i*4+1,none⟩=some (.int .u64 e.off)∧w'.cell? ⟨g,off+i*4+2,none⟩=some (.int .u32 e.ln)∧w'.cell? ⟨g,off+i*4+3,none⟩=some (.int .u32 e.rn))∧Below w.heap.size w w') (by kernel_rfl) HS0 (fun hH0=>?_)
     refine tK 0 22 hH0 ?_
     refine tK 1 23 hH0 ?_
     refine tK 2 24 hH0 ?_
     refine tU 3 25 hH0 ?_
     refine tU 4 26 hH0 ?_
     refine tU 5 27 hH0 ?_
     refine tU 6 28 hH0 ?_
     refine tU 7 29 hH0 ?_
     refine tU 8 30 hH0 ?_
     refine tU 9 31 hH0 ?_
     refine tU 10 32 hH0 ?_
     refine tU 11 33 hH0 ?_
     refine tU 12 34 hH0 ?_
     refine tU 13 35 hH0 ?_
     refine tU 14 36 hH0 ?_
     refine tK 15 37 hH0 ?_
     refine wpAnyH_done (by kernel_rfl) ?_ _
     go_wp2_with fail
     go_roundw
     case rel =>
      refine⟨i+1,by omega,by go_num,lH (HAt.out.2 h0 ?_),hH0.2⟩
      unfold xrN
      rw[if_pos HZ.out]
      exact HE.out
     case measure=>simp[intOf];omega
    ·obtain⟨j,rfl⟩:∃ j,i=j+1:=⟨i - 1,by omega⟩
     obtain⟨f,hf⟩:∃ t,l[j]?=some t:=⟨_,List.getElem?_eq_getElem (by omega)⟩
     have hpv:xrN l (j+1)=laN f:=by
      unfold xrN
      rw[if_neg (by omega),Nat.add_sub_cancel,List.getD_eq_getElem?_getD,hf]
      rfl
     rw[hpv] at HAt
     obtain⟨g',off',ha,hg',f0,f1,f2,f3⟩:=HC.out j f hf
     obtain⟨rfl,rfl⟩:g=g'∧off=off':=by simpa using ha
     have hmf:=HM.out f (List.mem_of_getElem? hf)
     have HLF:=lH (fun W=>xgU f W hmf)
     unfold eC at HLF
     have HCL2:=lH (xck (Below.refl _ _) ⟨HCL.out.1,xbP (HCL.out.2) ⟨f0,f1,f2,f3⟩,HCL.out.2⟩)
     have hij:((j+1:Nat):Int) - 1=(j:Int):=by omega
     have hwj:IntKind.i64.wrap (j:Int)=(j:Int):=by rw[IntKind.wrap_i64] <;> omega
     have hj2:(j:Int)<(l.length:Int):=by omega
     have hj0:(0:Int)≤(j:Int):=by omega
     generalize hgi:j+1=i at *
     have hdz:decide (0<(i:Int))=true:=by simp;omega
     have hdn:decide (0<i)=true:=by simp;omega
     obtain⟨q,hq⟩:∃ q,laN f=q:=⟨_,rfl⟩
     rw[hq] at HAt HLF
     clear hq hf f0 f1 f2 f3 hpv hz hmf
     by_cases hle:e.id≤q
     ·have hR:R=10:=by rw[← HR.out,HAt.out.1,if_neg (fun h=>h h0),if_pos hle]
      subst hR
      have hdl:decide (e.id≤q)=true:=by simpa using hle
      clear hle HAt
      go_wp2_with fail
      refine(HK.out _).mono ?_
      rintro x w1 ⟨rfl,hb⟩
      have HS0:=xck (Below.drew (Below.refl _ _)) (xck hb HCL2.out)
      clear hb k0 k1 k2 k3 HCL HCL2
      go_upto_region 9 with fail
      refine wp_region_held_drew (S:=fun w'=>(w'.cell? ⟨g,off+i*4,none⟩=some (.int .u64 e.id)∧w'.cell? ⟨g,off+i*4+1,none⟩=some (.int .u64 e.off)∧w'.cell? ⟨g,off+i*4+2,none⟩=some (.int .u32 e.ln)∧w'.cell? ⟨g,off+i*4+3,none⟩=some (.int .u32 e.rn))∧(w'.cell? ⟨g,off+j*4,none⟩=some (.int .u64 f.id)∧w'.cell? ⟨g,off+j*4+1,none⟩=some (.int .u64 f.off)∧w'.cell? ⟨g,off+j*4+2,none⟩=some (.int .u32 f.ln)∧w'.cell? ⟨g,off+j*4+3,none⟩=some (.int .u32 f.rn))∧Below w.heap.size w w') (by kernel_rfl) HS0 (fun hH0=>?_)
      refine tK 0 22 hH0 ?_
      refine tK 1 23 hH0 ?_
      refine tK 2 24 hH0 ?_
      refine tK 3 25 hH0 ?_
      refine tK 4 26 hH0 ?_
      refine tK 5 27 hH0 ?_
      refine tK 6 28 hH0 ?_
      refine tK 7 29 hH0 ?_
      refine tK 8 30 hH0 ?_
      refine tK 9 31 hH0 ?_
      refine tK 10 32 hH0 ?_
      refine tK 11 33 hH0 ?_
      refine tK 12 34 hH0 ?_
      refine wpAnyH_ready (rs:=[13]) (by kernel_rfl) (by simp) ?_
      refine AllReadyH.cons rfl (fun K hK=>?_) AllReadyH.nil
      go_simp
      refine(HLF.out _).mono ?_
      rintro e w' ⟨rfl,hb⟩
      go_wp2_with fail
      refine hK.out _ _ (xck hb hH0) (fun hH1=>?_)
      clear hK K hb hH0
      try simp only[Act.put,zsA,zsB,zsC]
      refine tK 14 36 hH1 ?_
      refine tK 15 37 hH1 ?_
      refine wpAnyH_done (by kernel_rfl) ?_ _
      go_wp2_with fail
      go_ret
      exact⟨rfl,hH1.2.2⟩
     ·have hdl:decide (e.id≤q)=false:=by simpa using hle
      have HG2:=lH (HAt.out.2 h0 hle)
      clear hle HAt
      go_wp2_with fail
      refine(HK.out _).mono ?_
      rintro x w1 ⟨rfl,hb⟩
      have HS0:=xck (Below.drew (Below.refl _ _)) (xck hb HCL2.out)
      clear hb k0 k1 k2 k3 HCL HCL2
      go_upto_region 9 with fail
      refine wp_region_held_drew (S:=fun w'=>(w'.cell? ⟨g,off+i*4,none⟩=some (.int .u64 e.id)∧w'.cell? ⟨g,off+i*4+1,none⟩=some (.int .u64 e.off)∧w'.cell? ⟨g,off+i*4+2,none⟩=some (.int .u32 e.ln)∧w'.cell? ⟨g,off+i*4+3,none⟩=some (.int .u32 e.rn))∧(w'.cell? ⟨g,off+j*4,none⟩=some (.int .u64 f.id)∧w'.cell? ⟨g,off+j*4+1,none⟩=some (.int .u64 f.off)∧w'.cell? ⟨g,off+j*4+2,none⟩=some (.int .u32 f.ln)∧w'.cell? ⟨g,off+j*4+3,none⟩=some (.int .u32 f.rn))∧Below w.heap.size w w') (by kernel_rfl) HS0 (fun hH0=>?_)
      refine tK 0 22 hH0 ?_
      refine tK 1 23 hH0 ?_
      refine tK 2 24 hH0 ?_
      refine tK 3 25 hH0 ?_
      refine tK 4 26 hH0 ?_
      refine tK 5 27 hH0 ?_
      refine tK 6 28 hH0 ?_
      refine tK 7 29 hH0 ?_
      refine tK 8 30 hH0 ?_
      refine tK 9 31 hH0 ?_
      refine tK 10 32 hH0 ?_
      refine tK 11 33 hH0 ?_
      refine tK 12 34 hH0 ?_
      refine wpAnyH_ready (rs:=[13]) (by kernel_rfl) (by simp) ?_
      refine AllReadyH.cons rfl (fun K hK=>?_) AllReadyH.nil
      go_simp
      refine(HLF.out _).mono ?_
      rintro e w' ⟨rfl,hb⟩
      go_wp2_with fail
      refine hK.out _ _ (xck hb hH0) (fun hH1=>?_)
      clear hK K hb hH0
      try simp only[Act.put,zsA,zsB,zsC]
      refine tK 14 36 hH1 ?_
      refine tK 15 37 hH1 ?_
      refine wpAnyH_done (by kernel_rfl) ?_ _
      go_wp2_with fail
      go_roundw
      case rel=>exact⟨i+1,by omega,by go_num,HG2,hH1.2.2⟩
      case measure=>simp[intOf];omega
   ·have hR:R=ckN e:=by rw[← HR.out,HAt.out.1,if_pos h0]
    obtain⟨r,hr⟩:∃ r,ckN e=r:=⟨_,rfl⟩
    rw[hr] at HK h0 hR
    subst hR
    have hne:(R != 0)=true:=by simp only[bne_iff_ne,ne_eq];exact h0
    clear h0 hr HAt HR
    have HCL:=lH hcl.2
    obtain⟨⟨k0,k1,k2,k3⟩,hbw⟩:=hcl
    clear hbw
    go_wp2_with fail
    refine(HK.out _).mono ?_
    rintro x w1 ⟨rfl,hb⟩
    have hb1:=lH (HCL.out.trans (hb.mono HCL.out.size))
    clear hb k0 k1 k2 k3 HCL
    go_wp2_with fail
    go_ret
    exact⟨rfl,hb1.out⟩
  ·obtain rfl:i=l.length:=by omega
   have hG:=HG.out
   rw[List.take_length] at hG
   have hR:R=0:=HR.out.symm.trans hG
   subst hR
   clear hG HG HR
   go_wp2_with fail
   go_ret
   exact⟨rfl,hbw⟩
theorem xjl:(Tryz.prog.info? 118).map (fun i=>(i.zero,i.size,i.bytes))=some (some (.agg #[.int .u64 0,.int .u64 0,.int .u32 0,.int .u32 0]),4,24):=by kernel_rfl
theorem xn2 (v:Value) (l:List En) (w:World) (hv:xaj w v l) (hl:l.length*24≤140737488351232):Calls Tryz.prog 22 #[v] w (xmy l 118 w):=by
 obtain⟨a,cap,rfl,h1,h2,hc⟩:=hv
 have HC:=lH hc
 clear hc
 obtain⟨i0,hi,hz0,hz1,hz2⟩:=xaq xjl
 have HI0:=lH hi
 have HZ0:=lH hz0
 have HZ1:=lH hz1
 have HZ2:=lH hz2
 clear hi hz0 hz1 hz2
 go_enter Tryz.func22,Tryz.ntmps22
 go_wp2_with fail
 go_loopw [3,4] (fun v s wr=>∃ i:Nat,i≤l.length∧s=.int .i64 i∧xaQ wr w.heap.size 118 v (l.take i)∧Below w.heap.size w wr) (fun _ s _=>l.length - (intOf s).toNat)
 case atStart=>exact⟨0,Nat.zero_le _,rfl,xaU _ _ _,Below.refl _ _⟩
 case round =>
  obtain⟨i,hi,rfl,hown,hbw⟩:=hrel
  by_cases hlt:i<l.length
  ·obtain⟨t,ht⟩:∃ t,l[i]?=some t:=⟨_,List.getElem?_eq_getElem hlt⟩
   obtain⟨g,off,rfl,hg,l0,l1,l2,l3⟩:=HC.out i t ht
   replace l0:=xad hbw l0
   replace l1:=xad hbw l1
   replace l2:=xad hbw l2
   replace l3:=xad hbw l3
   have hsz:=hbw.size
   have HTK:=lH (xbM l i t ht)
   have HOWN:Hid (wr.ownsRow w.heap.size 118 4 u3 (l.take i).length (xaw (l.take i))):=lH hown
   have hlen:(l.take i).length=i:=by rw[List.length_take];omega
   have HLEN:=lH hlen
   have hi2:(i:Int)<(l.length:Int):=by omega
   clear ht hown hlen
   obtain⟨p,q,r,s⟩:=t
   dsimp only at l0 l1 l2 l3
   go_wp2_with (first|(at_builtin;refine wpList_append_own _ rfl _ _ 31 rfl w.heap.size 118 i0 (.agg #[.int .u64 0,.int .u64 0,.int .u32 0,.int .u32 0]) 4 24 Tryz.underlying31 HI0.out HZ0.out HZ1.out HZ2.out rfl (by decide) _ _ _ rfl (World.ownsRow.alloc HOWN.out _) ⟨wr.heap.size,0,none⟩ 1 1 [.int .u64 p,.int .u64 q,.int .u32 r,.int .u32 s] rfl rfl ?c2 ?c3 ?c4 ?c5 ?c6 ?_)|fail)
   case c2 =>
    intro j u hu
    match j,hu with
    | 0,hu=>simp at hu;subst hu;simp[Addr.add,go_sem]
    | 1,hu=>simp at hu;subst hu;simp[Addr.add,go_sem]
    | 2,hu=>simp at hu;subst hu;simp[Addr.add,go_sem]
    | 3,hu=>simp at hu;subst hu;simp[Addr.add,go_sem]
   case c3=>intro u hu;simp at hu;rcases hu with rfl|rfl|rfl|rfl <;> rfl
   case c4=>rw[HLEN.out];unfold maxLen;omega
   case c5=>rw[HLEN.out];omega
   case c6=>simp;omega
   intro v' w5 hown' hgr _
   have hb5:Below w.heap.size w w5:=(hbw.alloc hsz _).grown hgr (by simp;omega) (fun g hg=>(World.ownsRow.lt HOWN.out g hg).1)
   have hO':xaQ w5 w.heap.size 118 v' (l.take (i+1)):=xaJ hown' (by rw[HTK.out,List.length_append,HLEN.out];rfl) (by rw[HTK.out,xbu];rfl)
   have HO':=lH hO'
   clear hown' hgr HOWN hO' l0 l1 l2 l3 hbw
   go_wp2_with fail
   go_roundw
   case rel=>exact⟨i+1,by omega,by go_num,HO'.out,hb5⟩
   case measure=>simp[intOf];omega
  ·obtain rfl:i=l.length:=by omega
   rw[List.take_length] at hown
   go_wp2_with fail
   go_ret
   exact⟨_,rfl,hown,hbw⟩
end Go.Proofs.YtjinnigjfopbcaaGreatDoor
