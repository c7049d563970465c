/- aEg aKk aKr aLb aLe aLq aHa aNd aHb aHd aA aFa aGa aHf aHg. -/
import Derived.Test.YtjinnigjfopbcaaGreatDoorVs
import Derived.Test.YtjinnigjfopbcaaGreatDoorVa1
import Derived.Deep.RegionLawGrows
import Derived.Test.YtjinnigjfopbcaaGreatDoorRc
import Derived.Lib.AppendZerosOnto
set_option maxHeartbeats 16000000
namespace Go.Proofs.YtjinnigjfopbcaaGreatDoor
set_option linter.unusedVariables false
set_option linter.unusedSimpArgs false
open Go.RowKit
set_option maxRecDepth 20000
theorem xxb (a b:En) (T:TypeId) (w:World) (hT:T=118):(Op.equalIn 10000 T (.agg #[.int .u64 a.id,.int .u64 a.off,.int .u32 a.ln,.int .u32 a.rn]) (.agg #[.int .u64 b.id,.int .u64 b.off,.int .u32 b.ln,.int .u32 b.rn])).run Tryz.prog w=.ok (decide (a=b)) w:=by
 subst hT
 have hS:Tryz.prog.underlying 118=some (.struct (Tryz.prog.fieldsOf 118)):=by kernel_rfl
 rw[show (10000:Nat)=9999+1 from rfl,run_equalIn_agg w 9999 _ _ _ hS (by kernel_rfl)]
 simp only[Program.fieldsOf,Tryz.underlying118]
 go_simp
 by_cases h0:a.id=b.id
 case neg=>simp[h0,En.eq_iff]
 by_cases h1:a.off=b.off
 case neg=>simp[h0,h1,En.eq_iff]
 by_cases h2:a.ln=b.ln
 case neg=>simp[h0,h1,h2,En.eq_iff]
 by_cases h3:a.rn=b.rn
 case neg=>simp[h0,h1,h2,h3,En.eq_iff]
 simp[h0,h1,h2,h3,En.eq_iff]
set_option maxRecDepth 20000 in
theorem xnh (v u:Value) (l m:List En) (w:World) (hv:xaj w v l) (hu:xaj w u m):Calls Tryz.prog 21 #[v,u] w fun x w'=>x=.returned (.bool (decide (l=m)))∧Below w.heap.size w w':=by
 obtain⟨al,cap,rfl,hcap,hmx,hc⟩:=hv
 obtain⟨am,cam,rfl,hcam,hmm,hcm⟩:=hu
 have HC:=lH hc
 have HD:=lH hcm
 obtain⟨R,hR⟩:∃ R,decide (l=m)=R:=⟨_,rfl⟩
 rw[hR]
 have HR:=lH hR
 have hml:l.length≤9223372036854775807:=by unfold maxLen at hmx;omega
 clear hc hcm hR
 by_cases hne:l.length=m.length
 ·have hd:((l.length:Int) != (m.length:Int))=false:=by simp;omega
  have HN:=lH hne
  clear hne
  go_enter Tryz.func21,Tryz.ntmps21
  go_wp2_with fail
  go_loopw [5] (fun s wr=>∃ i:Nat,i≤l.length∧s=.int .i64 i∧Hid (l.take i=m.take i)∧Below w.heap.size w wr) (fun s _=>l.length - (intOf s).toNat)
  case atStart=>exact⟨0,Nat.zero_le _,rfl,lH rfl,Below.refl _ _⟩
  case round =>
   obtain⟨i,hi,rfl,HG,hbw⟩:=hrel
   by_cases hlt:i<l.length
   ·have hlm:i<m.length:=by have:=HN.out;omega
    obtain⟨e,he⟩:∃ t,l[i]?=some t:=⟨_,List.getElem?_eq_getElem hlt⟩
    obtain⟨f,hf⟩:∃ t,m[i]?=some t:=⟨_,List.getElem?_eq_getElem hlm⟩
    obtain⟨g,off,rfl,hg,l0,l1,l2,l3⟩:=HC.out i e he
    obtain⟨g',off',rfl,hg',f0,f1,f2,f3⟩:=HD.out i f hf
    have HS0:=xck (Below.drew (Below.refl _ _)) ⟨xbP hbw ⟨l0,l1,l2,l3⟩,xbP hbw ⟨f0,f1,f2,f3⟩,hbw⟩
    have hq:=fun W=>xxb e f _ W rfl
    have hi2:(i:Int)<(l.length:Int):=by omega
    have hi3:(i:Int)<(m.length:Int):=by omega
    have hi4:(0:Int)≤(i:Int):=by omega
    have HE:=lH (And.intro he hf)
    clear he hf l0 l1 l2 l3 f0 f1 f2 f3 hbw hg hg'
    by_cases hef:e=f
    ·rw[decide_eq_true hef] at hq
     have HG2:Hid (l.take (i+1)=m.take (i+1)):=lH (by rw[xbM l i e HE.out.1,xbM m i f HE.out.2,HG.out,hef])
     clear hef HG HE
     go_upto_region 6 with fail
     refine wp_region_held_drew (S:=fun w'=>(w'.cell? ⟨g,off+i*4,none⟩=some (.int .u64 e.id)∧w'.cell? ⟨g,off+i*4+1,none⟩=some (.int .u64 e.off)∧w'.cell? ⟨g,off+i*4+2,none⟩=some (.int .u32 e.ln)∧w'.cell? ⟨g,off+i*4+3,none⟩=some (.int .u32 e.rn))∧(w'.cell? ⟨g',off'+i*4,none⟩=some (.int .u64 f.id)∧w'.cell? ⟨g',off'+i*4+1,none⟩=some (.int .u64 f.off)∧w'.cell? ⟨g',off'+i*4+2,none⟩=some (.int .u32 f.ln)∧w'.cell? ⟨g',off'+i*4+3,none⟩=some (.int .u32 f.rn))∧Below w.heap.size w w') (by kernel_rfl) HS0 (fun hH0=>?_)
     refine tK 0 17 hH0 ?_
     refine tK 1 18 hH0 ?_
     refine tK 2 19 hH0 ?_
     refine tK 3 20 hH0 ?_
     refine tK 4 21 hH0 ?_
     refine tK 5 22 hH0 ?_
     refine tK 6 23 hH0 ?_
     refine tK 7 24 hH0 ?_
     refine tK 8 25 hH0 ?_
     refine wpAnyH_done (by kernel_rfl) ?_ _
     go_wp2_with fail
     go_roundw
     case rel=>exact⟨i+1,by omega,by go_num,HG2,hH0.2.2⟩
     case measure=>simp[intOf];omega
    ·rw[decide_eq_false hef] at hq
     have hR:R=false:=by
      rw[← HR.out,decide_eq_false_iff_not]
      intro hlm2
      apply hef
      have h1:=HE.out.1
      rw[hlm2,HE.out.2] at h1
      exact(Option.some.inj h1).symm
     subst hR
     clear hef HG HE HR
     go_upto_region 6 with fail
     refine wp_region_held_drew (S:=fun w'=>(w'.cell? ⟨g,off+i*4,none⟩=some (.int .u64 e.id)∧w'.cell? ⟨g,off+i*4+1,none⟩=some (.int .u64 e.off)∧w'.cell? ⟨g,off+i*4+2,none⟩=some (.int .u32 e.ln)∧w'.cell? ⟨g,off+i*4+3,none⟩=some (.int .u32 e.rn))∧(w'.cell? ⟨g',off'+i*4,none⟩=some (.int .u64 f.id)∧w'.cell? ⟨g',off'+i*4+1,none⟩=some (.int .u64 f.off)∧w'.cell? ⟨g',off'+i*4+2,none⟩=some (.int .u32 f.ln)∧w'.cell? ⟨g',off'+i*4+3,none⟩=some (.int .u32 f.rn))∧Below w.heap.size w w') (by kernel_rfl) HS0 (fun hH0=>?_)
     refine tK 0 17 hH0 ?_
     refine tK 1 18 hH0 ?_
     refine tK 2 19 hH0 ?_
     refine tK 3 20 hH0 ?_
     refine tK 4 21 hH0 ?_
     refine tK 5 22 hH0 ?_
     refine tK 6 23 hH0 ?_
     refine tK 7 24 hH0 ?_
     refine tK 8 25 hH0 ?_
     refine wpAnyH_done (by kernel_rfl) ?_ _
     go_wp2_with fail
     go_ret
     exact⟨rfl,hH0.2.2⟩
   ·obtain rfl:i=l.length:=by omega
    have hR:R=true:=by
     rw[← HR.out,decide_eq_true_iff]
     have:=HG.out
     rw[List.take_length,HN.out,List.take_length] at this
     exact this
    subst hR
    clear HG HR
    go_wp2_with fail
    go_ret
    exact⟨rfl,hbw⟩
 ·have hd:((l.length:Int) != (m.length:Int))=true:=by simp;omega
  have hR:R=false:=by
   rw[← HR.out,decide_eq_false_iff_not]
   intro h
   exact hne (by rw[h])
  subst hR
  clear hne HR
  go_enter Tryz.func21,Tryz.ntmps21
  go_wp2_with fail
  go_ret
  exact⟨rfl,by go_grown⟩
theorem xaq {P:Program} {t:TypeId} {z:Option Value} {s b:Nat} (h:(P.info? t).map (fun i=>(i.zero,i.size,i.bytes))=some (z,s,b)):∃ i,P.info? t=some i∧i.zero=z∧i.size=s∧i.bytes=b:=by
 cases hi:P.info? t with
 | none=>rw[hi] at h;cases h
 | some i =>
  rw[hi] at h
  simp only[Option.map_some,Option.some.injEq,Prod.mk.injEq] at h
  exact⟨i,rfl,h.1,h.2.1,h.2.2⟩
def xmy (l:List En) (E:TypeId) (w:World) (x:Ending) (w':World):Prop:=∃ v',x=.returned v'∧xaQ w' w.heap.size E v' l∧Below w.heap.size w w'
structure Kept (S S':Nat→Prop) (W W':World):Prop where
 os:W'.os=W.os
 tape:W'.tape=W.tape
 output:W'.output=W.output
 size:W.heap.size≤W'.heap.size
 same:∀ b,b<W.heap.size→¬ S b→W'.heap[b]?=W.heap[b]?
 own:∀ b,S' b→S b∨W.heap.size≤b
theorem Kept.refl (S:Nat→Prop) (W:World):Kept S S W W:=⟨rfl,rfl,rfl,Nat.le_refl _,fun _ _ _=>rfl,fun _ h=>.inl h⟩
theorem Kept.trans {S S' S'':Nat→Prop} {X Y Z:World} (h:Kept S S' X Y) (h':Kept S' S'' Y Z):Kept S S'' X Z:=by
 refine⟨h'.os.trans h.os,h'.tape.trans h.tape,h'.output.trans h.output,Nat.le_trans h.size h'.size,fun b hb hs=>?_,fun b hb=>?_⟩
 ·rw[h'.same b (Nat.lt_of_lt_of_le hb h.size) (fun hs'=>?_),h.same b hb hs]
  rcases h.own b hs' with h1|h1
  ·exact hs h1
  ·omega
 ·rcases h'.own b hb with h1|h1
  ·exact h.own b h1
  ·exact .inr (Nat.le_trans h.size h1)
theorem Kept.below (S:Nat→Prop) {W W':World} (hb:Below W.heap.size W W'):Kept S S W W':=⟨hb.os,hb.tape,hb.output,hb.size,fun b hl _=>hb.block b hl,fun _ h=>.inl h⟩
theorem Below.kept {S S':Nat→Prop} {B:Nat} {w W W':World} (h:Below B w W) (hk:Kept S S' W W') (hS:∀ b,S b→B≤b) (hB:B≤W.heap.size):Below B w W' :=
 ⟨hk.os.trans h.os,hk.tape.trans h.tape,hk.output.trans h.output,Nat.le_trans h.size hk.size,fun b hb=>(hk.same b (Nat.lt_of_lt_of_le hb hB) (fun hs=>absurd (hS b hs) (by omega))).trans (h.block b hb)⟩
theorem Kept.cell {S S':Nat→Prop} {W W':World} (h:Kept S S' W W') {p:Addr} (hl:p.block<W.heap.size) (hp:¬ S p.block):W'.cell? p=W.cell? p:=World.cell?_of_block (h.same _ hl hp)
theorem Kept.vals {S S':Nat→Prop} {W W':World} (h:Kept S S' W W') {v:Value} {xs:List Value} (hv:xcU W v xs) (hn:∀ a n c,v=.slice (some a) n c→¬ S a.block):xcU W' v xs :=
 hv.keep h.size (fun a n c e hl=>h.same _ hl (hn a n c e))
def xtB (S:Nat→Prop) (W:World) (g:Nat) (x y:Value):Prop:=Two W g x y∧¬ S g
theorem xtB.kept {S S':Nat→Prop} {W W':World} {g:Nat} {x y:Value} (h:xtB S W g x y) (hk:Kept S S' W W'):xtB S' W' g x y:=by
 obtain⟨⟨h0,h1,h2,h3⟩,hn⟩:=h
 have hl:=xbh h0
 have hs:=hk.same g hl hn
 refine⟨⟨(World.cell?_of_block (a:=⟨g,0,none⟩) hs).trans h0,(World.cell?_of_block (a:=⟨g,1,none⟩) hs).trans h1,(World.frozen?_of_block (a:=⟨g,0,none⟩) hs).trans h2,(World.frozen?_of_block (a:=⟨g,1,none⟩) hs).trans h3⟩,fun hg=>?_⟩
 rcases hk.own g hg with h|h
 ·exact hn h
 ·exact absurd h (Nat.not_le.2 hl)
theorem xtB.below {S:Nat→Prop} {W W':World} {g:Nat} {x y:Value} (h:xtB S W g x y) (hb:Below W.heap.size W W'):xtB S W' g x y:=⟨h.1.below hb,h.2⟩
theorem xtB.alloc {S:Nat→Prop} {W:World} {g:Nat} {x y:Value} (h:xtB S W g x y) (o:Obj):xtB S (W.alloc o) g x y:=⟨h.1.alloc o,h.2⟩
def Off (S:Nat→Prop) (W:World) (v:Value):Prop:=∀ a n c,v=.slice (some a) n c→a.block<W.heap.size∧¬ S a.block
theorem Off.kept {S S':Nat→Prop} {W W':World} {v:Value} (h:Off S W v) (hk:Kept S S' W W'):Off S' W' v:=fun a n c e=>by
 obtain⟨h1,h2⟩:=h a n c e
 refine⟨Nat.lt_of_lt_of_le h1 hk.size,fun hs=>?_⟩
 rcases hk.own _ hs with h|h
 ·exact h2 h
 ·omega
theorem Off.below {S:Nat→Prop} {W W':World} {v:Value} (h:Off S W v) (hs:W.heap.size≤W'.heap.size):Off S W' v:=fun a n c e=>⟨Nat.lt_of_lt_of_le (h a n c e).1 hs,(h a n c e).2⟩
theorem xcm.kept {S S':Nat→Prop} {W W':World} {v:Value} {l:List ByteArray} (h:xcm W v l) (ho:Off S W v) (hk:Kept S S' W W'):xcm W' v l :=
 (hk.vals h.vals (fun a n c e=>(ho a n c e).2)).strs
def xx3:List (Nat × Nat)→List Value
 | []=>[]
 | t :: l=>.int .u64 t.1 :: .int .u32 t.2 :: xx3 l
def xf4 (w:World) (B:Nat) (E:TypeId) (v:Value) (l:List (Nat × Nat)):Prop:=w.ownsRow B E 2 v l.length (xx3 l)
theorem xf4.lt {w:World} {B:Nat} {E:TypeId} {v:Value} {l:List (Nat × Nat)} (h:xf4 w B E v l):∀ k,v.ownBlock=some k→B≤k∧k<w.heap.size:=World.ownsRow.lt h
theorem xf4.keep {w w':World} {B:Nat} {E:TypeId} {v:Value} {l:List (Nat × Nat)} (h:xf4 w B E v l) (hk:∀ k,v.ownBlock=some k→w'.heap[k]?=w.heap[k]?):xf4 w' B E v l:=by
 obtain⟨h1,h2⟩:=h
 refine⟨h1,?_⟩
 rcases h2 with h2|⟨g,cap,cur,hv,hg,hh,r⟩
 ·exact .inl h2
 ·refine .inr ⟨g,cap,cur,hv,hg,?_,r⟩
  rw[hk g (by rw[hv];rfl)];exact hh
theorem xf4.below {w w':World} {B:Nat} {E:TypeId} {v:Value} {l:List (Nat × Nat)} (h:xf4 w B E v l) (hb:Below w.heap.size w w'):xf4 w' B E v l :=
 h.keep (fun k hk=>hb.block k (h.lt k hk).2)
theorem xf4.kept {S S':Nat→Prop} {w w':World} {B:Nat} {E:TypeId} {v:Value} {l:List (Nat × Nat)} (h:xf4 w B E v l) (ho:Off S w v) (hk:Kept S S' w w'):xf4 w' B E v l:=by
 refine h.keep (fun k hb=>?_)
 cases v with
 | slice a n c =>
  cases a with
  | none=>cases hb
  | some a=>cases hb;exact hk.same _ (ho a n c rfl).1 (ho a n c rfl).2
 | _=>cases hb
theorem xfZ (sz bytes:Nat) (W:World) (B:Nat) (TS E ty:TypeId) (z:Value) (ht:Tryz.prog.underlying TS=some (.slice E)) (hI:(Tryz.prog.info? E).map (fun i=>(i.zero,i.size,i.bytes))=some (some z,sz,bytes)) (hzs:z.cells.size=sz) (hsz:0<sz) (hby:bytes≤64)
  (v:Value) (n:Nat) (L:List Value) (hown:W.ownsRow B E sz v n L) (ad:Addr) (m c:Nat) (xs:List Value) (hxs:xs.length=m*sz) (hnews:∀ j u,xs[j]?=some u→W.cell? (ad.add j)=some u) (hone:∀ u ∈ xs,u.oneCell'=true) (hm:0<m) (hl:n+m≤1000000000) (hb:B≤W.heap.size) :
  ∃ v' w',(Builtin.append_ #[TS,TS] ty #[v,.slice (some ad) m c]).run Tryz.prog W=.ok v' w'∧w'.ownsRow B E sz v' (n+m) (L++xs)∧W.grownBy w' v.ownBlock∧(v'.ownBlock=v.ownBlock∨∃ g,v'.ownBlock=some g∧W.heap.size≤g):=by
 obtain⟨i0,hi,hz0,hz1,hz2⟩:=xaq hI
 have hbb:(n+m)*bytes≤1000000000*64:=Nat.mul_le_mul hl hby
 obtain⟨v',w',hr,h2,h3,h4⟩:=run_append_own (P:=Tryz.prog) W B TS ty E i0 _ sz bytes ht hi hz0 hz1 hz2 hzs hsz v n L hown ad m c xs hxs hnews hone (by unfold maxLen;omega) (by omega) hb
 refine⟨v',w',hr,h2,h3,?_⟩
 rcases hown.2 with ⟨rfl,hn⟩|⟨g,cap,cur,rfl,hbg,hg,hnc,hcm,hcs,htake⟩
 ·obtain⟨_,_,hr2,h22,_,_⟩:=run_append_own (P:=Tryz.prog) W W.heap.size TS ty E i0 _ sz bytes ht hi hz0 hz1 hz2 hzs hsz (.slice none 0 0) n L ⟨hown.1,.inl ⟨rfl,hn⟩⟩ ad m c xs hxs hnews hone (by unfold maxLen;omega) (by omega) (Nat.le_refl _)
  rw[hr] at hr2
  injection hr2 with e1 e2
  subst e1 e2
  rcases h22.2 with ⟨rfl,_⟩|⟨g,cap,cur,rfl,hg,_⟩
  ·exact .inl rfl
  ·exact .inr ⟨g,rfl,hg⟩
 ·have hL:L.length=n*i0.size:=by rw[hz1];exact hown.1
  by_cases hroom:n+m≤cap
  ·have hmul:(n+m)*sz≤cap*sz:=Nat.mul_le_mul_right _ hroom
   have hr2:=run_append_room (P:=Tryz.prog) W TS ty E i0 ht hi g n cap cur hg ad m c xs (by rw[hz1];exact hxs) hnews hone hroom (by rw[hz1,hxs,hcs,← Nat.add_mul];exact hmul)
   rw[hr] at hr2
   injection hr2 with e1 e2
   rw[e1]
   exact .inl rfl
  ·have hr2:=run_append_grow (P:=Tryz.prog) W TS ty E i0 _ ht hi hz0 ⟨g,0,none⟩ n cap L hL (World.ownsRow.cells hown rfl) ad m c xs (by rw[hz1];exact hxs) hnews (by omega) (by omega) (growslice_fits (by omega) (by rw[hz2];omega))
   rw[hr] at hr2
   injection hr2 with e1 e2
   rw[e1]
   exact .inr ⟨_,rfl,Nat.le_refl _⟩
theorem Kept.grown {S:Nat→Prop} {W W':World} {v:Value} (hg:W.grownBy W' v.ownBlock) (T:Nat→Prop) (hT:∀ k,v.ownBlock=some k→T k):Kept T T W W' :=
 ⟨hg.os,hg.tape,hg.output,hg.size,fun b hb hs=>hg.block b hb (fun e=>hs (hT b e.symm)),fun _ h=>.inl h⟩
def xaH:List It→List Value
 | []=>[]
 | t :: l=>.int .u64 t.1 :: .string t.2 :: xaH l
theorem xa0 (l:List It):(xaH l).length=l.length*2:=by
 induction l with
 | nil=>rfl
 | cons t l ih=>simp[xaH,ih];omega
theorem xdh (a b:List It):xaH (a++b)=xaH a++xaH b:=by
 induction a with
 | nil=>rfl
 | cons t l ih=>simp[xaH,ih]
theorem xfD (l:List It):∀ (k:Nat) (t:It),l[k]?=some t→(xaH l)[k*2]?=some (.int .u64 t.1)∧(xaH l)[k*2+1]?=some (.string t.2):=by
 induction l with
 | nil=>intro k t h;simp at h
 | cons s l ih =>
  intro k t h
  cases k with
  | zero=>simp at h;subst h;simp[xaH]
  | succ k =>
   have:=ih k t (by simpa using h)
   rw[show (k+1)*2=k*2+1+1 by omega]
   simpa[xaH] using this
theorem xd4 (l:List It):∀ u ∈ xaH l,u.oneCell'=true:=by
 induction l with
 | nil=>intro u h;simp[xaH] at h
 | cons t l ih =>
  intro u h
  simp only[xaH,List.mem_cons] at h
  rcases h with rfl|rfl|h
  ·rfl
  ·rfl
  ·exact ih u h
def ItsAt (w:World) (v:Value) (l:List It):Prop:=∃ a cap,v=.slice a l.length cap∧l.length≤cap∧cap≤maxLen∧∀ k t,l[k]?=some t→∃ g off,a=some ⟨g,off,none⟩∧g<w.heap.size∧w.cell? ⟨g,off+k*2,none⟩=some (.int .u64 t.1)∧w.cell? ⟨g,off+k*2+1,none⟩=some (.string t.2)
theorem xcu (w:World):ItsAt w (.slice none 0 0) []:=⟨none,0,rfl,Nat.le_refl _,by simp,fun k t h=>by simp at h⟩
theorem ItsAt.below {w w':World} {v:Value} {l:List It} (h:ItsAt w v l) (hb:Below w.heap.size w w'):ItsAt w' v l:=by
 obtain⟨a,cap,rfl,h1,h2,hc⟩:=h
 refine⟨a,cap,rfl,h1,h2,fun k t ht=>?_⟩
 obtain⟨g,off,ha,hg,c0,c1⟩:=hc k t ht
 exact⟨g,off,ha,Nat.lt_of_lt_of_le hg hb.size,xan hb c0,xan hb c1⟩
def xaV (w:World) (B:Nat) (E:TypeId) (v:Value) (l:List It):Prop:=w.ownsRow B E 2 v l.length (xaH l)
theorem xec (w:World) (B:Nat) (E:TypeId):xaV w B E (.slice none 0 0) []:=World.ownsRow_nil _ _ _ _
theorem xaV.lt {w:World} {B:Nat} {E:TypeId} {v:Value} {l:List It} (h:xaV w B E v l):∀ k,v.ownBlock=some k→B≤k∧k<w.heap.size:=World.ownsRow.lt h
theorem xaV.below {w w':World} {B:Nat} {E:TypeId} {v:Value} {l:List It} (h:xaV w B E v l) (hb:Below w.heap.size w w'):xaV w' B E v l:=by
 have hlt:=h.lt
 obtain⟨h1,h2⟩:=h
 refine⟨h1,?_⟩
 rcases h2 with h2|⟨g,cap,cur,hv,hg,hh,r⟩
 ·exact .inl h2
 ·refine .inr ⟨g,cap,cur,hv,hg,?_,r⟩
  rw[hb.block g (hlt g (by rw[hv];rfl)).2];exact hh
theorem xaV.mono {w:World} {B B':Nat} {E:TypeId} {v:Value} {l:List It} (h:xaV w B E v l) (hb:B'≤B):xaV w B' E v l:=by
 obtain⟨h1,h2⟩:=h
 refine⟨h1,?_⟩
 rcases h2 with h2|⟨g,cap,cur,hv,hg,r⟩
 ·exact .inl h2
 ·exact .inr ⟨g,cap,cur,hv,Nat.le_trans hb hg,r⟩
theorem xaV.itsAt {w:World} {B:Nat} {E:TypeId} {v:Value} {l:List It} (h:xaV w B E v l):ItsAt w v l:=by
 have hlt:=h.lt
 have h':=h
 obtain⟨h1,h2⟩:=h
 rcases h2 with ⟨rfl,hn⟩|⟨g,cap,cur,rfl,hg,hh,hle,hm,_⟩
 ·obtain rfl:l=[]:=List.eq_nil_of_length_eq_zero hn
  exact xcu w
 ·refine⟨_,cap,rfl,hle,hm,fun k t ht=>⟨g,0,rfl,(hlt g rfl).2,?_⟩⟩
  have hk:=(List.getElem?_eq_some_iff.1 ht).1
  obtain⟨f0,f1⟩:=xfD l k t ht
  rw[Nat.zero_add]
  exact⟨(World.ownsRow.cellAt h' (k*2) (by omega)).trans f0,(World.ownsRow.cellAt h' (k*2+1) (by omega)).trans f1⟩
theorem xsD:(Tryz.prog.info? 67).map (·.size)=some 2:=by kernel_rfl
theorem xui:(Tryz.prog.info? 64).map (fun i=>(i.zero,i.size,i.bytes))=some (some (.agg #[.int .u64 0,.string { data:=#[] }]),2,24):=by kernel_rfl
theorem xeB:(Tryz.prog.info? 67).map (fun i=>(i.zero,i.size,i.bytes))=some (some (.agg #[.int .u64 0,.string { data:=#[] }]),2,24):=by kernel_rfl
theorem xcp (W:World) (B:Nat) (TS E ty:TypeId) (z:Value) (ht:Tryz.prog.underlying TS=some (.slice E)) (hI:(Tryz.prog.info? E).map (fun i=>(i.zero,i.size,i.bytes))=some (some z,2,24)) (hzs:z.cells.size=2)
  (v x:Value) (L m:List It) (hown:xaV W B E v L) (hx:ItsAt W x m) (hl:L.length+m.length≤1000000) (hb:B≤W.heap.size) :
  ∃ v' w',(Builtin.append_ #[TS,TS] ty #[v,x]).run Tryz.prog W=.ok v' w'∧xaV w' B E v' (L++m)∧W.grownBy w' v.ownBlock:=by
 obtain⟨a,cap,rfl,h1,h2,hc⟩:=hx
 have fin:∀ {w':World} {v':Value},w'.ownsRow B E 2 v' (L.length+m.length) (xaH L++xaH m)→xaV w' B E v' (L++m):=by
  intro w' v' h
  unfold xaV
  rw[xdh,List.length_append]
  exact h
 cases a with
 | none =>
  have hl0:m=[]:=by
   cases m with
   | nil=>rfl
   | cons t l=>obtain⟨g,off,ha,_⟩:=hc 0 t rfl;cases ha
  subst hl0
  refine⟨v,W,?_,by rw[List.append_nil];exact hown,World.grownBy.refl _ _⟩
  obtain⟨i0,hi,hz0,hz1,hz2⟩:=xaq hI
  rcases hown.2 with ⟨rfl,hn⟩|⟨g,cap2,cur,rfl,hbg,hg,hnc,hcm,hcs,htake⟩
  ·simp[Builtin.append_,run_underlying ht,sizeOf,typeInfo,hi,Builtin.lenOf,Builtin.firstCells,loadCells,loadCellsFrom]
  ·simp[Builtin.append_,run_underlying ht,sizeOf,typeInfo,hi,Builtin.lenOf,Builtin.firstCells,loadCells,loadCellsFrom,hnc,storeCells]
 | some ad =>
  have hnews:∀ j u,(xaH m)[j]?=some u→W.cell? (ad.add j)=some u:=by
   intro j u hu
   have hj:j<m.length*2:=by rw[← xa0];exact(List.getElem?_eq_some_iff.1 hu).1
   obtain⟨t,ht⟩:∃ t,m[j / 2]?=some t:=⟨_,List.getElem?_eq_getElem (by omega)⟩
   obtain⟨g,off,ha,_,c0,c1⟩:=hc (j / 2) t ht
   obtain⟨f0,f1⟩:=xfD m (j / 2) t ht
   injection ha with ha
   subst ha
   have hadd:(⟨g,off,none⟩:Addr).add j=⟨g,off+j,none⟩:=by simp[Addr.add]
   rw[hadd]
   rcases(by omega:j=j / 2*2∨j=j / 2*2+1) with e|e
   ·rw[e,f0] at hu;rw[← hu];rw[show off+j=off+j / 2*2 from by omega];exact c0
   ·rw[e,f1] at hu;rw[← hu];rw[show off+j=off+j / 2*2+1 from by omega];exact c1
  obtain⟨i0,hi,hz0,hz1,hz2⟩:=xaq hI
  obtain⟨v',w',hr,h2,h3,h4⟩:=run_append_own (P:=Tryz.prog) W B TS ty E i0 _ 2 24 ht hi hz0 hz1 hz2 hzs (by omega) v L.length (xaH L) hown ad m.length cap (xaH m) (xa0 m) hnews (xd4 m) (by unfold maxLen;omega) (by omega) hb
  exact⟨v',w',hr,fin h2,h3⟩
theorem xuq (w:World) (x:Nat) (s:ByteArray) (T:TypeId):ItsAt (w.alloc (.cells #[.int .u64 x,.string s] T)) (.slice (some ⟨w.heap.size,0,none⟩) 1 1) [(x,s)]:=by
 refine⟨_,1,rfl,Nat.le_refl _,by unfold maxLen;omega,fun k t ht=>⟨w.heap.size,0,rfl,by simp,?_⟩⟩
 match k,ht with
 | 0,ht=>simp only[List.getElem?_cons_zero,Option.some.injEq] at ht;subst ht;exact⟨by simp[go_sem],by simp[go_sem]⟩
 | k+1,ht=>simp at ht
theorem xsC (id:Nat) (r:List It):r.take (xip id r).length=xip id r:=by
 conv=>lhs;arg 2;rw[← xdm id r]
 exact List.take_left
theorem xlQ (id:Nat) (r:List It):r.drop (xip id r).length=xix id r:=by
 conv=>lhs;arg 2;rw[← xdm id r]
 exact List.drop_left
theorem xyi (id:Nat) (r:List It):(xip id r).length≤r.length:=by
 have:=congrArg List.length (xdm id r)
 rw[List.length_append] at this
 omega
theorem xx4 (id:Nat) (r:List It):∀ k,k<(xip id r).length→∃ t,r[k]?=some t∧t.1<id:=by
 induction r with
 | nil=>intro k h;simp[xip] at h
 | cons x r ih =>
  intro k h
  unfold xip at h
  rw[List.takeWhile_cons] at h
  by_cases hx:x.1<id
  ·rw[if_pos (by simpa using hx)] at h
   cases k with
   | zero=>exact⟨x,rfl,hx⟩
   | succ k=>exact ih k (by simpa[xip] using h)
  ·rw[if_neg (by simpa using hx)] at h
   simp at h
theorem xuT (id:Nat) (r:List It):∀ t,r[(xip id r).length]?=some t→¬ t.1<id:=by
 induction r with
 | nil=>intro t h;simp at h
 | cons x r ih =>
  intro t h
  unfold xip at h
  rw[List.takeWhile_cons] at h
  by_cases hx:x.1<id
  ·rw[if_pos (by simpa using hx)] at h
   exact ih t (by simpa[xip] using h)
  ·rw[if_neg (by simpa using hx)] at h
   simp at h
   subst h
   exact hx
theorem xaV.form {w:World} {B:Nat} {E:TypeId} {v:Value} {l:List It} (h:xaV w B E v l) :
  (v=.slice none 0 0∧l=[])∨∃ g cap,v=.slice (some ⟨g,0,none⟩) l.length cap∧B≤g∧g<w.heap.size∧l.length≤cap∧cap≤maxLen∧(∀ k t,l[k]?=some t→w.cell? ⟨g,k*2,none⟩=some (.int .u64 t.1)∧w.cell? ⟨g,k*2+1,none⟩=some (.string t.2)):=by
 have hlt:=h.lt
 have h':=h
 obtain⟨h1,h2⟩:=h
 rcases h2 with ⟨rfl,hn⟩|⟨g,cap,cur,rfl,hg,hh,hle,hm,_⟩
 ·exact .inl ⟨rfl,List.eq_nil_of_length_eq_zero hn⟩
 ·refine .inr ⟨g,cap,rfl,hg,(hlt g rfl).2,hle,hm,fun k t ht=>?_⟩
  have hk:=(List.getElem?_eq_some_iff.1 ht).1
  obtain⟨f0,f1⟩:=xfD l k t ht
  exact⟨(World.ownsRow.cellAt h' (k*2) (by omega)).trans f0,(World.ownsRow.cellAt h' (k*2+1) (by omega)).trans f1⟩
theorem xaV.slice {w:World} {B:Nat} {E:TypeId} {v:Value} {l:List It} (h:xaV w B E v l):∃ a cap,v=.slice a l.length cap:=by
 rcases h.form with ⟨rfl,rfl⟩|⟨g,cap,rfl,_⟩
 ·exact⟨none,0,rfl⟩
 ·exact⟨_,cap,rfl⟩
end Go.Proofs.YtjinnigjfopbcaaGreatDoor
namespace Go.Proofs.YtjinnigjfopbcaaGreatDoor
set_option linter.unusedVariables false
set_option linter.unusedSimpArgs false
theorem xve {id:Nat} {l:List It} {t:It} (h:t ∈ xip id l):t.1<id:=by
 unfold xip at h
 induction l with
 | nil=>simp at h
 | cons x l ih =>
  rw[List.takeWhile_cons] at h
  split at h
  ·rename_i hx
   rcases List.mem_cons.1 h with rfl|h
   ·simpa using hx
   ·exact ih h
  ·simp at h
theorem xuE (id:Nat) (l:List It) (t:It):t ∈ l↔t ∈ xip id l∨t ∈ xix id l:=by
 conv=>lhs;rw[← xdm id l]
 exact List.mem_append
theorem xqK {id:Nat} {l:List It} (hr:xgG l):∀ t ∈ xix id l,id≤t.1:=by
 unfold xix
 induction l with
 | nil=>intro t h;simp at h
 | cons x l ih =>
  intro t h
  rw[List.dropWhile_cons] at h
  split at h
  ·exact ih (List.pairwise_cons.1 hr).2 t h
  ·rename_i hx
   rcases List.mem_cons.1 h with rfl|h
   ·simpa using hx
   ·have:=(List.pairwise_cons.1 hr).1 t h
    have hx':¬ x.1<id:=by simpa using hx
    omega
theorem xsh {id:Nat} {l:List It} (hr:xgG l):xgG (xhA id l):=List.Pairwise.sublist List.filter_sublist hr
theorem xqr (id:Nat) (l:List It) (t:It):t ∈ xhA id l↔t ∈ l∧t.1≠id:=by
 unfold xhA
 rw[List.mem_filter]
 simp
theorem xdP (id:Nat) (s:ByteArray) (l:List It) (t:It):t ∈ xjQ id s l↔t=(id,s)∨(t ∈ l∧t.1≠id):=by
 unfold xjQ
 rw[List.mem_append,List.mem_cons,← xqr,xuE id (xhA id l) t]
 constructor
 ·rintro(h|h|h)
  ·exact .inr (.inl h)
  ·exact .inl h
  ·exact .inr (.inr h)
 ·rintro(h|h|h)
  ·exact .inr (.inl h)
  ·exact .inl h
  ·exact .inr (.inr h)
theorem xlA (id:Nat) (s:ByteArray) {l:List It} (hr:xgG l):xgG (xjQ id s l):=by
 have hd:=xsh (id:=id) hr
 have hsplit:=xdm id (xhA id l)
 have hp:xgG (xip id (xhA id l)++xix id (xhA id l)):=by rw[hsplit];exact hd
 unfold xgG at hp
 rw[List.pairwise_append] at hp
 unfold xgG xjQ
 rw[List.pairwise_append,List.pairwise_cons]
 refine⟨hp.1,⟨fun t ht=>?_,hp.2.1⟩,fun a ha b hb=>?_⟩
 ·have h1:=xqK hd t ht
  have h2:t ∈ xhA id l:=(xuE id _ t).2 (.inr ht)
  have h3:=(xqr id l t).1 h2
  show id<t.1
  omega
 ·rcases List.mem_cons.1 hb with rfl|hb
  ·exact xve ha
  ·exact hp.2.2 a ha b hb
theorem xm8 {id:Nat} {l:List It} {t:It} (h:t ∈ l) (ht:t.1=id):(xhA id l).length+1≤l.length:=by
 induction l with
 | nil=>simp at h
 | cons x l ih =>
  have hle:=xmD id l
  unfold xhA at hle ih ⊢
  by_cases hx:x.1=id
  ·rw[List.filter_cons_of_neg (by simpa using hx),List.length_cons]
   omega
  ·rw[List.filter_cons_of_pos (by simpa using hx),List.length_cons,List.length_cons]
   rcases List.mem_cons.1 h with rfl|h
   ·exact absurd ht hx
   ·have:=ih h;omega
theorem xoU (id:Nat) (s:ByteArray) (l:List It):(xjQ id s l).length=(xhA id l).length+1:=by
 have h1:=congrArg List.length (xdm id (xhA id l))
 rw[List.length_append] at h1
 unfold xjQ
 rw[List.length_append,List.length_cons]
 omega
theorem xbS (id:Nat) (l:List It):(xbx id l).isSome=true↔∃ t ∈ l,t.1=id:=by
 have h:=xcH id l
 cases hg:xbx id l with
 | none =>
  rw[hg] at h
  constructor
  ·intro hh;cases hh
  ·rintro⟨t,ht,e⟩
   exact absurd e ((h.1 rfl) t ht)
 | some s =>
  refine⟨fun _=>?_,fun _=>rfl⟩
  rcases Classical.em (∃ t ∈ l,t.1=id) with h2|h2
  ·exact h2
  ·exfalso
   have:xbx id l=none:=(xcH id l).2 (fun t ht e=>h2 ⟨t,ht,e⟩)
   rw[this] at hg
   cases hg
theorem xti {id:Nat} {s:ByteArray} {l:List It} (h:GoodC l):GoodC (xy3 l id s):=by
 unfold xy3
 split
 ·rename_i he
  unfold putE at he
  by_cases h1:6004799503160661≤id
  ·rw[if_pos h1] at he;cases he
  rw[if_neg h1] at he
  by_cases h2:s.size=0
  ·rw[if_pos h2] at he;cases he
  rw[if_neg h2] at he
  by_cases h3:65536<s.size
  ·rw[if_pos h3] at he;cases he
  rw[if_neg h3] at he
  refine⟨xlA id s h.rise,fun t ht=>?_,fun t ht=>?_,fun t ht=>?_,?_⟩
  ·rcases(xdP id s l t).1 ht with rfl|h4
   ·show id<_;omega
   ·exact h.low t h4.1
  ·rcases(xdP id s l t).1 ht with rfl|h4
   ·show 0<s.size;omega
   ·exact h.pos t h4.1
  ·rcases(xdP id s l t).1 ht with rfl|h4
   ·show s.size≤_;omega
   ·exact h.short t h4.1
  ·rw[xoU]
   have hf:=h.few
   cases hg:xbx id l with
   | none =>
    rw[hg] at he
    have h5:¬ 2048≤l.length:=by
     intro h6
     rw[if_pos (by simp[h6])] at he
     cases he
    have:=xmD id l
    omega
   | some x =>
    obtain⟨t,ht,e⟩:=(xbS id l).1 (by rw[hg];rfl)
    have:=xm8 ht e
    omega
 ·exact h
theorem xlM:∀ {a b:List It},xgG a→xgG b→(∀ t,t ∈ a↔t ∈ b)→a=b
 | [],[],_,_,_=>rfl
 | [],y :: b,_,_,h=>by have:=(h y).2 (by simp);simp at this
 | x :: a,[],_,_,h=>by have:=(h x).1 (by simp);simp at this
 | x :: a,y :: b,ha,hb,h=>by
  have hx:=List.pairwise_cons.1 ha
  have hy:=List.pairwise_cons.1 hb
  have hxy:x=y:=by
   rcases List.mem_cons.1 ((h x).1 (by simp)) with e|e
   ·exact e
   ·rcases List.mem_cons.1 ((h y).2 (by simp)) with e2|e2
    ·exact e2.symm
    ·have h1:=hy.1 x e
     have h2:=hx.1 y e2
     omega
  subst hxy
  have:a=b:=xlM hx.2 hy.2 (fun t=>by
   constructor
   ·intro ht
    rcases List.mem_cons.1 ((h t).1 (List.mem_cons_of_mem _ ht)) with e|e
    ·subst e;have:=hx.1 t ht;omega
    ·exact e
   ·intro ht
    rcases List.mem_cons.1 ((h t).2 (List.mem_cons_of_mem _ ht)) with e|e
    ·subst e;have:=hy.1 t ht;omega
    ·exact e)
  rw[this]
theorem xqb (all:List It) (hg:GoodC all):∀ (rest seen acc:List It),(seen++rest).Nodup→(∀ t ∈ seen++rest,t ∈ all)→xgG acc→(∀ t,t ∈ acc↔t ∈ seen)→acc.length=seen.length→seen.length+rest.length≤2048→∃ r,ofR seen acc rest=(r,0)∧xgG r∧∀ t,t ∈ r↔t ∈ seen++rest
 | [],seen,acc,_,_,hr,hm,_,_=>⟨acc,rfl,hr,fun t=>by rw[List.append_nil];exact hm t⟩
 | t :: rest,seen,acc,hn,hin,hr,hm,hl,h2=>by
  have hta:t ∈ all:=hin t (by simp)
  have huniq:∀ u ∈ all,u.1=t.1→u=t:=by
   intro u hu e
   have hp:=hg.rise
   unfold xgG at hp
   rcases List.mem_iff_getElem.1 hu with ⟨i,hi,rfl⟩
   rcases List.mem_iff_getElem.1 hta with ⟨j,hj,rfl⟩
   rw[List.pairwise_iff_getElem] at hp
   rcases Nat.lt_trichotomy i j with h|h|h
   ·have:=hp i j hi hj h;omega
   ·subst h;rfl
   ·have:=hp j i hj hi h;omega
  have hnot:t ∉ seen:=by
   intro h
   rw[List.nodup_append] at hn
   exact hn.2.2 t h t (by simp) rfl
  have hnone:∀ l:List It,(∀ u ∈ l,u ∈ all)→t ∉ l→xbx t.1 l=none:=fun l hl hn=>(xcH t.1 l).2 (fun u hu e=>hn (huniq u (hl u hu) e ▸ hu))
  have hs:xbx t.1 seen=none:=hnone seen (fun u hu=>hin u (by simp[hu])) hnot
  have ha:xbx t.1 acc=none:=hnone acc (fun u hu=>hin u (by simp[(hm u).1 hu])) (fun h=>hnot ((hm t).1 h))
  have hacc:acc.length≤2047:=by rw[hl];simp at h2;omega
  have he:putE acc t.1 t.2=0:=by
   unfold putE
   rw[if_neg (by have:=hg.low t hta;omega),if_neg (by have:=hg.pos t hta;omega),if_neg (by have:=hg.short t hta;omega),if_neg]
   simp;omega
  rw[ofR,hs,he]
  have hdel:xhA t.1 acc=acc:=by
   unfold xhA
   rw[List.filter_eq_self]
   intro u hu
   have:=(xcH t.1 acc).1 ha u hu
   simpa using this
  have hm':∀ u,u ∈ xjQ t.1 t.2 acc↔u ∈ seen++[t]:=by
   intro u
   rw[xdP,List.mem_append,List.mem_singleton]
   constructor
   ·rintro(h|⟨h,_⟩)
    ·exact .inr h
    ·exact .inl ((hm u).1 h)
   ·rintro(h|h)
    ·exact .inr ⟨(hm u).2 h,(xcH t.1 seen).1 hs u h⟩
    ·exact .inl h
  have hl':(xjQ t.1 t.2 acc).length=(seen++[t]).length:=by rw[xoU,hdel,hl];simp
  have e:seen++t :: rest=(seen++[t])++rest:=by simp
  obtain⟨r,h1,h3,h4⟩:=xqb all hg rest (seen++[t]) (xjQ t.1 t.2 acc) (e ▸ hn) (e ▸ hin) (xlA _ _ hr) hm' hl' (by simp at h2 ⊢;omega)
  refine⟨r,?_,h3,fun u=>by rw[e];exact h4 u⟩
  simpa using h1
theorem xu5 (all m:List It) (hg:GoodC all) (hp:m.Perm all):ofI m=(all,0):=by
 have hnd:all.Nodup:=List.Pairwise.imp (fun {a b} h e=>by subst e;omega) hg.rise
 obtain⟨r,h1,h2,h3⟩:=xqb all hg m [] [] (by simpa using hp.nodup_iff.2 hnd) (fun t ht=>by simpa using hp.mem_iff.1 (by simpa using ht)) List.Pairwise.nil (by simp) rfl (by have:=hg.few;have:=hp.length_eq;simp;omega)
 have:r=all:=xlM h2 hg.rise (fun t=>by rw[h3 t];simpa using hp.mem_iff)
 unfold ofI
 rw[h1,this]
theorem xuH {l:List It} (hr:xgG l) (k:Nat) (t:It) (h:l[k]?=some t):xbx t.1 l=some t.2:=by
 induction l generalizing k with
 | nil=>simp at h
 | cons x l ih =>
  rw[xbx]
  cases k with
  | zero=>simp at h;subst h;simp
  | succ k =>
   have hm:t ∈ l:=List.mem_of_getElem? (by simpa using h)
   have:=(List.pairwise_cons.1 hr).1 t hm
   rw[if_neg (by omega)]
   exact ih (List.pairwise_cons.1 hr).2 k (by simpa using h)
end Go.Proofs.YtjinnigjfopbcaaGreatDoor
namespace Go.Proofs.YtjinnigjfopbcaaGreatDoor
set_option linter.unusedVariables false
set_option linter.unusedSimpArgs false
open Go.RowKit
set_option maxRecDepth 20000
theorem xsM (x:Int) (w:World):Calls Tryz.prog 279 #[.int .u64 x] w fun e w'=>e=.returned (.bool false)∧w'=w:=by
 go_enter Tryz.func279,Tryz.ntmps279
 go_wp2
 go_ret
 exact⟨rfl,rfl⟩
def xhM (x y:Int):Int:=if x<y then -1 else if x > y then 1 else 0
theorem xjY (x y:Int) (w:World):Calls Tryz.prog 228 #[.int .u64 x,.int .u64 y] w fun e w'=>e=.returned (.int .i64 (xhM x y))∧w'=w:=by
 have HN:=lH (fun a W=>xsM a W)
 unfold xhM
 by_cases h:x<y
 ·rw[if_pos h]
  go_enter Tryz.func228,Tryz.ntmps228
  go_wp2_with fail
  refine(HN.out _ _).mono ?_
  rintro e w1 ⟨rfl,rfl⟩
  go_wp2_with fail
  refine(HN.out _ _).mono ?_
  rintro e w1 ⟨rfl,rfl⟩
  go_wp2_with fail
  go_ret
  exact⟨rfl,rfl⟩
 ·rw[if_neg h]
  by_cases h2:x > y
  ·rw[if_pos h2]
   go_enter Tryz.func228,Tryz.ntmps228
   go_wp2_with fail
   refine(HN.out _ _).mono ?_
   rintro e w1 ⟨rfl,rfl⟩
   go_wp2_with fail
   refine(HN.out _ _).mono ?_
   rintro e w1 ⟨rfl,rfl⟩
   go_wp2_with fail
   go_ret
   exact⟨rfl,rfl⟩
  ·rw[if_neg h2]
   go_enter Tryz.func228,Tryz.ntmps228
   go_wp2_with fail
   refine(HN.out _ _).mono ?_
   rintro e w1 ⟨rfl,rfl⟩
   go_wp2_with fail
   refine(HN.out _ _).mono ?_
   rintro e w1 ⟨rfl,rfl⟩
   go_wp2_with fail
   go_ret
   exact⟨rfl,rfl⟩
theorem xt2 (x y:Int):decide (xhM x y<0)=decide (x<y):=by
 unfold xhM
 by_cases h:x<y
 ·simp[h]
 ·by_cases h2:x > y <;> simp[h,h2]
theorem xs8 (x y:Int):decide (xhM x y=0)=decide (x=y):=by
 unfold xhM
 by_cases h:x<y
 ·simp[h];omega
 ·by_cases h2:x > y
  ·simp[h,h2];omega
  ·simp[h,h2];omega
theorem xiH (t:It) (y:Nat) (w:World):Calls Tryz.prog 151 #[.agg #[.int .u64 t.1,.string t.2],.int .u64 y] w fun e w'=>e=.returned (.int .i64 (xhM t.1 y))∧Below w.heap.size w w':=by
 have HC:=lH (fun W=>xjY t.1 y W)
 go_enter Tryz.func151,Tryz.ntmps151
 go_wp2_with fail
 refine(HC.out _).mono ?_
 rintro e w1 ⟨rfl,rfl⟩
 go_wp2_with fail
 go_ret
 exact⟨rfl,by go_grown⟩
def loC (id:Nat) (l:List It):Nat:=(xip id l).length
theorem xrh (id:Nat) (l:List It):loC id l≤l.length:=xyi id l
theorem xq1 {id:Nat} {l:List It} (hr:xgG l) (d:Nat) (t:It) (h:l[d]?=some t):t.1<id↔d<loC id l:=by
 constructor
 ·intro ht
  rcases Nat.lt_or_ge d (loC id l) with h1|h1
  ·exact h1
  ·exfalso
   have h2:(xix id l)[d - loC id l]?=some t:=by
    rw[← xlQ id l,List.getElem?_drop]
    show l[loC id l+(d - loC id l)]?=some t
    rw[Nat.add_sub_cancel' h1]
    exact h
   have:=xqK hr t (List.mem_of_getElem? h2)
   omega
 ·intro hd
  obtain⟨u,hu,hlt⟩:=xx4 id l d hd
  rw[h] at hu
  cases hu
  exact hlt
theorem isC {id:Nat} {l:List It} (hr:xgG l):(xbx id l).isSome=decide (∃ t,l[loC id l]?=some t∧t.1=id):=by
 rw[Bool.eq_iff_iff,xbS,decide_eq_true_iff]
 constructor
 ·rintro⟨t,ht,he⟩
  obtain⟨d,hd⟩:=List.mem_iff_getElem?.1 ht
  have h1:=(xq1 (id:=id) hr d t hd)
  have h2:¬ d<loC id l:=fun h=>by have:=h1.2 h;omega
  rcases Nat.lt_or_ge (loC id l) d with h3|h3
  ·exfalso
   obtain⟨u,hu⟩:∃ u,l[loC id l]?=some u:=⟨_,List.getElem?_eq_getElem (by have:=(List.getElem?_eq_some_iff.1 hd).1;omega)⟩
   have h4:=xuT id l u hu
   have h5:u.1<t.1:=by
    obtain⟨a1,rfl⟩:=List.getElem?_eq_some_iff.1 hu
    obtain⟨a2,rfl⟩:=List.getElem?_eq_some_iff.1 hd
    exact List.pairwise_iff_getElem.1 hr _ _ a1 a2 h3
   omega
  ·have:d=loC id l:=by omega
   subst this
   exact⟨t,hd,he⟩
 ·rintro⟨t,ht,he⟩
  exact⟨t,List.mem_of_getElem? ht,he⟩
theorem xz5 {id:Nat} {l:List It} (hr:xgG l) (t:It) (h:l[loC id l]?=some t) (he:t.1=id):xbx id l=some t.2:=by
 rw[← he];exact xuH hr _ t h
theorem xyj {id:Nat} {l:List It} (h:(xbx id l).isSome=false):xhA id l=l:=by
 unfold xhA
 rw[List.filter_eq_self]
 intro u hu
 have hn:xbx id l=none:=by cases hg:xbx id l with|none=>rfl|some x=>rw[hg] at h;cases h
 have:=(xcH id l).1 hn u hu
 simpa using this
theorem xxv {id:Nat} {s:ByteArray} {l:List It} (h:(xbx id l).isSome=false):xjQ id s l=l.take (loC id l)++(id,s) :: l.drop (loC id l):=by
 unfold xjQ
 rw[xyj h]
 unfold loC
 rw[xsC,xlQ]
def xx1 (va:Value) (ts:List ByteArray) (vo:Value):Prop:=∀ a n c,va=.slice (some a) n c→ts≠[]→vo.ownBlock≠some a.block
theorem xcm.grown {w w':World} {va vo:Value} {ts:List ByteArray} (h:xcm w va ts) (hs:xx1 va ts vo) (hg:w.grownBy w' vo.ownBlock):xcm w' va ts:=by
 obtain⟨a,cap,rfl,h1,h2,hc⟩:=h
 refine⟨a,cap,rfl,h1,h2,fun k t ht=>?_⟩
 obtain⟨g,off,rfl,hlt,c0⟩:=hc k t ht
 have hn:=hs ⟨g,off,none⟩ _ _ rfl (by rintro rfl;simp at ht)
 have hb:=hg.block g hlt (fun e=>hn e.symm)
 exact⟨g,off,rfl,Nat.lt_of_lt_of_le hlt hg.size,(World.cell?_of_block (a:=⟨g,off+k,none⟩) hb).trans c0⟩
theorem xrC (r:List En) (a:En) (x:Int):(xaw (r++[a])).set (r.length*4+3) (.int .u32 x)=xaw (r++[{ a with rn:=x }]):=by
 rw[xbu,xbu,List.set_append,if_neg (by rw[xbU];omega),xbU,Nat.add_sub_cancel_left]
 rfl
theorem xrk {w:World} {B g cap:Nat} {E:TypeId} {r:List En} {a:En} (h:xaQ w B E (.slice (some ⟨g,0,none⟩) (r.length+1) cap) (r++[a])) (x:Int):xaQ (w.setCell ⟨g,r.length*4+3,none⟩ (.int .u32 x)) B E (.slice (some ⟨g,0,none⟩) (r.length+1) cap) (r++[{ a with rn:=x }])∧w.grownBy (w.setCell ⟨g,r.length*4+3,none⟩ (.int .u32 x)) (some g):=by
 unfold xaQ at h ⊢
 rw[List.length_append,List.length_singleton] at h ⊢
 have h2:=World.ownsRow.stored h (r.length*4+3) (.int .u32 x)
 rw[xrC] at h2
 exact h2
def xgh (rows:List En) (e:En):Bool:=match rows.getLast? with
 | some a=>xvJ a e
 | none=>false
theorem xgE (r:List En) (a e:En):xgh (r++[a]) e=xvJ a e:=by unfold xgh;rw[List.getLast?_concat]
theorem xx1.new {W:World} {va vo vo':Value} {ts:List ByteArray} (h:xx1 va ts vo) (hs:xcm W va ts) (hv:vo'.ownBlock=vo.ownBlock∨∃ g,vo'.ownBlock=some g∧W.heap.size≤g):xx1 va ts vo':=by
 intro a n c e hne ho
 rcases hv with hv|⟨g,hv,hge⟩
 ·exact h a n c e hne (by rw[← hv];exact ho)
 ·obtain⟨a',cap,e2,_,_,hc⟩:=hs
  rw[e] at e2
  cases e2
  cases ts with
  | nil=>exact hne rfl
  | cons t ts =>
   obtain⟨g',off,e3,hlt,_⟩:=hc 0 t rfl
   cases e3
   rw[ho] at hv
   injection hv with hv
   simp only at hv
   omega
structure RwS (w W:World) (L:List It) (k:Nat) (va vo:Value):Prop where
 all:xcm W va (xoS (L.take k)).2
 out:xaQ W w.heap.size 118 vo (xoS (L.take k)).1
 sep:xx1 va (xoS (L.take k)).2 vo
 bel:Below w.heap.size w W
theorem RwS.below {w W W':World} {L:List It} {k:Nat} {va vo:Value} (h:RwS w W L k va vo) (hb:Below W.heap.size W W'):RwS w W' L k va vo:=⟨h.all.below hb,h.out.below hb,h.sep,h.bel.trans (hb.mono h.bel.size)⟩
theorem xtC (v:Value) (l:List It) (id:Nat) (w:World) (hr:xgG l) (hv:ItsAt w v l) (hl:l.length≤100000):Calls Tryz.prog 150 #[v,.int .u64 id,.func (.func 151) #[] #[]] w fun x w'=>x=.returned (.tuple #[.int .i64 (loC id l:Nat),.bool (xbx id l).isSome])∧Below w.heap.size w w':=by
 have HF:=lH (fun t W=>xiH t id W)
 have hle:=xrh id l
 obtain⟨al,cap,rfl,hcap,hmx,hc⟩:=hv
 have HC:=lH hc
 have HP:=lH (fun d t h=>xq1 (id:=id) hr d t h)
 have HL:Hid ((xbx id l).isSome=decide (∃ t,l[loC id l]?=some t∧t.1=id)):=lH (isC hr)
 generalize (xbx id l).isSome=il at *
 obtain⟨r,hr⟩:∃ r,loC id l=r:=⟨_,rfl⟩
 rw[hr] at HP HL hle ⊢
 clear hc hr
 go_enter Tryz.func150,Tryz.ntmps150
 go_wp2_with fail
 go_loopw [9,10] (fun x y wr=>∃ a b:Nat,a≤r∧r≤b∧b≤l.length∧x=.int .i64 a∧y=.int .i64 b∧Below w.heap.size w wr) (fun x y _=>(intOf y).toNat - (intOf x).toNat)
 case atStart=>exact⟨0,l.length,Nat.zero_le _,by omega,Nat.le_refl _,rfl,rfl,Below.refl _ _⟩
 case round =>
  obtain⟨a,b,h1,h2,h3,rfl,rfl,hbw⟩:=hrel
  by_cases hlt:a<b
  ·obtain⟨d,hd0⟩:∃ d:Nat,d=(a+b) / 2:=⟨_,rfl⟩
   have hm1:a≤d:=by omega
   have hm2:d<b:=by omega
   obtain⟨e,he⟩:∃ t,l[d]?=some t:=⟨_,List.getElem?_eq_getElem (by omega)⟩
   obtain⟨g,off,rfl,hg,l0,l1⟩:=HC.out d e he
   have k0:=(hbw.cell (p:=⟨g,off+d*2,none⟩) hg).trans l0
   have k1:=(hbw.cell (p:=⟨g,off+d*2+1,none⟩) hg).trans l1
   have hi0:(a:Int)<(b:Int):=by omega
   have hi2:(d:Int)<(l.length:Int):=by omega
   have hw1:IntKind.i64.wrap ((a:Int)+(b:Int))=((a+b:Nat):Int):=by rw[IntKind.wrap_i64] <;> omega
   have hw2:IntKind.u64.wrap ((a:Int)+(b:Int))=((a+b:Nat):Int):=by rw[IntKind.wrap_u64];omega
   have hP:=HP.out d e he
   have HE:=lH (HF.out e)
   have HLT:=lH (xt2 (e.1:Nat) (id:Int))
   clear he l0 l1
   subst hd0
   have hi2':((a:Int)+(b:Int)) / 2<(l.length:Int):=by omega
   by_cases hq:e.1<id
   ·have hd:decide (xhM (e.1:Int) (id:Int)<0)=true:=by rw[HLT.out];simpa using hq
    have hq':(a+b) / 2+1≤r:=by have:=hP.1 hq;omega
    clear hq hP
    go_wp2_with fail
    refine(HE.out _).mono ?_
    rintro x w1 ⟨rfl,hb⟩
    have HB:=lH (hbw.trans (hb.mono hbw.size))
    clear hb hbw k0 k1
    go_wp2_with fail
    go_roundw
    case rel=>exact⟨(a+b) / 2+1,b,hq',h2,h3,by go_num,rfl,HB.out⟩
    case measure=>simp[intOf];omega
   ·have hd:decide (xhM (e.1:Int) (id:Int)<0)=false:=by rw[HLT.out];simpa using hq
    have hq':r≤(a+b) / 2:=by
     rcases Nat.lt_or_ge ((a+b) / 2) r with h|h
     ·exact absurd (hP.2 h) hq
     ·exact h
    clear hq hP
    go_wp2_with fail
    refine(HE.out _).mono ?_
    rintro x w1 ⟨rfl,hb⟩
    have HB:=lH (hbw.trans (hb.mono hbw.size))
    clear hb hbw k0 k1
    go_wp2_with fail
    go_roundw
    case rel=>exact⟨a,(a+b) / 2,h1,hq',by omega,rfl,by go_num,HB.out⟩
    case measure=>simp[intOf];omega
  ·obtain rfl:a=r:=by omega
   have hlt':¬ (a:Int)<(b:Int):=by omega
   have HBW:=lH hbw
   by_cases hal:a<l.length
   ·obtain⟨e,he⟩:∃ t,l[a]?=some t:=⟨_,List.getElem?_eq_getElem hal⟩
    obtain⟨g,off,rfl,hg,l0,l1⟩:=HC.out a e he
    have k0:=(hbw.cell (p:=⟨g,off+a*2,none⟩) hg).trans l0
    have k1:=(hbw.cell (p:=⟨g,off+a*2+1,none⟩) hg).trans l1
    have hi2:(a:Int)<(l.length:Int):=by omega
    have HE:=lH (HF.out e)
    have hil:il=decide ((e.1:Int)=(id:Int)):=by
     rw[HL.out]
     apply decide_eq_decide.2
     constructor
     ·rintro⟨t,ht,h⟩
      rw[he] at ht
      cases ht
      omega
     ·intro h
      exact⟨e,he,by omega⟩
    have HIL:=lH (hil.trans (xs8 _ _).symm)
    clear he l0 l1 hil hbw
    go_wp2_with fail
    refine(HE.out _).mono ?_
    rintro x w1 ⟨rfl,hb⟩
    have HB:=lH (HBW.out.trans (hb.mono HBW.out.size))
    clear hb k0 k1
    go_wp2_with fail
    go_ret2
    refine⟨?_,HB.out⟩
    rw[HIL.out]
    first|rfl|simp
   ·have hil:il=false:=by
     rw[HL.out,decide_eq_false_iff_not]
     rintro⟨t,ht,_⟩
     exact hal (List.getElem?_eq_some_iff.1 ht).1
    obtain rfl:a=l.length:=by omega
    subst hil
    have hi2:¬ (l.length:Int)<(l.length:Int):=by omega
    clear hbw
    go_wp2_with fail
    go_ret2
    exact⟨rfl,HBW.out⟩
structure ChS (w:World) (s:Value) (l:List It):Prop where
 its:ItsAt w s l
 good:GoodC l
theorem ChS.below {w w':World} {s:Value} {l:List It} (h:ChS w s l) (hb:Below w.heap.size w w'):ChS w' s l:=⟨h.its.below hb,h.good⟩
theorem ChS.form {w:World} {s:Value} {l:List It} (h:ChS w s l):∃ a n c,s=.slice a n c:=by
 obtain⟨a,c,e,_⟩:=h.its
 exact⟨_,_,_,e⟩
theorem xhF (w:World):ChS w (.slice none 0 0) []:=⟨xcu w,xfN⟩
theorem xiJ (s:Value) (l:List It) (id:Nat) (w:World) (h:ChS w s l):Calls Tryz.prog 73 #[.agg #[s],.int .u64 id] w fun e w'=>e=.returned (.tuple #[.int .i64 (loC id l:Nat),.bool (xbx id l).isSome])∧Below w.heap.size w w':=by
 have HB:=lH (fun W (hb:Below w.heap.size w W)=>xtC s l id W h.good.rise (h.its.below hb) (by have:=h.good.few;omega))
 obtain⟨a,n,c,rfl⟩:=h.form
 clear h
 go_enter Tryz.func73,Tryz.ntmps73
 go_wp2_with fail
 refine(HB.out _ (by go_grown)).mono ?_
 rintro e w1 ⟨rfl,hb⟩
 have H1:=lH (((Below.refl w.heap.size w).alloc (Nat.le_refl _) _).trans (hb.mono (by simp)))
 clear hb
 go_wp2_with fail
 go_ret2
 exact⟨rfl,H1.out⟩
theorem xah (w:World) (o:Obj):Below w.heap.size w (w.alloc o):=(Below.refl _ _).alloc (Nat.le_refl _) o
def One (w:World) (g:Nat) (x:Value):Prop:=∃ T,w.heap[g]?=some (.cells #[x] T (0,0))
theorem One.cell {w:World} {g:Nat} {x:Value} (h:One w g x):w.cell? ⟨g,0,none⟩=some x:=by
 obtain⟨T,h⟩:=h
 simp[World.cell?,h]
theorem One.frz {w:World} {g:Nat} {x:Value} (h:One w g x):w.frozen? ⟨g,0,none⟩=false:=by
 obtain⟨T,h⟩:=h
 simp[World.frozen?,h]
theorem One.lt {w:World} {g:Nat} {x:Value} (h:One w g x):g<w.heap.size:=xbh h.cell
theorem One.below {w w':World} {g:Nat} {x:Value} (h:One w g x) (hb:Below w.heap.size w w'):One w' g x:=by
 have hl:=h.lt
 obtain⟨T,h⟩:=h
 exact⟨T,(hb.block g hl).trans h⟩
theorem One.alloc {w:World} {g:Nat} {x:Value} (h:One w g x) (o:Obj):One (w.alloc o) g x:=h.below (xah w o)
theorem xbn (w:World) (x:Value) (T:TypeId):One (w.alloc (.cells #[x] T)) w.heap.size x:=⟨T,xcr w _⟩
theorem One.set {w:World} {g:Nat} {x:Value} (h:One w g x) (x':Value):One (w.setCell ⟨g,0,none⟩ x') g x':=by
 obtain⟨T,h⟩:=h
 exact⟨T,by simp[World.setCell,Array.getElem?_modify,h]⟩
theorem One.set_other {w:World} {g g':Nat} {x:Value} (h:One w g x) (hn:g≠g') (x':Value):One (w.setCell ⟨g',0,none⟩ x') g x:=by
 obtain⟨T,h⟩:=h
 exact⟨T,(Below.heap_setCell _ _ _ _ (by simpa using hn)).trans h⟩
theorem ItsAt.set {w:World} {g:Nat} {x v:Value} {l:List It} (h:ItsAt w v l) (ho:One w g x) (x':Value):ItsAt (w.setCell ⟨g,0,none⟩ x') v l:=by
 obtain⟨T,hh⟩:=ho
 obtain⟨a,cap,rfl,h1,h2,hc⟩:=h
 refine⟨a,cap,rfl,h1,h2,fun k t ht=>?_⟩
 obtain⟨g',off,ha,hg,c0,c1⟩:=hc k t ht
 have hn:g'≠g:=by
  rintro rfl
  simp[World.cell?,hh] at c1
 have hb:(w.setCell ⟨g,0,none⟩ x').heap[g']?=w.heap[g']?:=Below.heap_setCell _ _ _ _ (by simpa using hn)
 exact⟨g',off,ha,by simpa using hg,(World.cell?_of_block (a:=⟨g',off+k*2,none⟩) hb).trans c0,(World.cell?_of_block (a:=⟨g',off+k*2+1,none⟩) hb).trans c1⟩
theorem ChS.set {w:World} {g:Nat} {x s:Value} {l:List It} (h:ChS w s l) (ho:One w g x) (x':Value):ChS (w.setCell ⟨g,0,none⟩ x') s l:=⟨h.its.set ho x',h.good⟩
theorem xbw:(Tryz.prog.info? 36).map (·.size)=some 1:=by kernel_rfl
theorem xsd (w:World) (g:Nat) (ty:TypeId) (x:Value) (d:TypeDesc) (c0:w.cell? ⟨g,0,none⟩=some x)
  (hu:Tryz.prog.underlying ty=some d) (hd:(match d with|.struct _|.array _ _=>true|_=>false)=true) (hi:(Tryz.prog.info? ty).map (·.size)=some 1) :
  (loadVar ty ⟨g,0,none⟩).run Tryz.prog w=.ok (.agg #[x]) w:=by
 have hl:(loadCells ⟨g,0,none⟩ 1).run Tryz.prog w=.ok #[x] w :=
  run_loadCells_list (P:=Tryz.prog) w ⟨g,0,none⟩ [x] (fun j v hv=>by
   have hadd:(⟨g,0,none⟩:Addr).add j=⟨g,j,none⟩:=by unfold Addr.add;split <;> simp_all
   rw[hadd]
   match j,hv with
   | 0,hv=>simp at hv;rw[c0,hv]
   | j+1,hv=>simp at hv)
 cases hq:Tryz.prog.info? ty with
 | none=>simp[hq] at hi
 | some i =>
  have hs:i.size=1:=by simpa[hq] using hi
  have hagg:(isAgg ty).run Tryz.prog w=.ok true w:=by
   unfold isAgg
   rw[Sem.run_bind,run_underlying hu w]
   cases d <;> simp_all
  simp[loadVar,Sem.run_bind,hagg,sizeOf,typeInfo,hq,hs,hl]
theorem xbv {fn:Func} {p q:Tmp} {ty:TypeId} (h:fn.results=#[.cell p ty,.tmp q]) (tmps:Array Value) (w:World) (g:Nat) (x v:Value) (d:TypeDesc) (hp:tmps.getD p undef=.pointer (some ⟨g,0,none⟩)) (hq:tmps.getD q undef=v) (c0:w.cell? ⟨g,0,none⟩=some x)
  (hu:Tryz.prog.underlying ty=some d) (hd:(match d with|.struct _|.array _ _=>true|_=>false)=true) (hi:(Tryz.prog.info? ty).map (·.size)=some 1) :
  (results fn tmps).run Tryz.prog w=.ok (.tuple #[.agg #[x],v]) w:=by
 have hl:=xsd w g ty x d c0 hu hd hi
 have hp':tmps[p]?.getD undef=.pointer (some ⟨g,0,none⟩):=by simpa using hp
 have hq':tmps[q]?.getD undef=v:=by simpa using hq
 simp[results,h,hp',hq',asAddr,hl]
theorem xjJ {fn:Func} {p:Tmp} {ty:TypeId} (h:fn.results=#[.cell p ty]) (tmps:Array Value) (w:World) (g:Nat) (x y:Value) (d:TypeDesc) (hp:tmps.getD p undef=.pointer (some ⟨g,0,none⟩)) (c0:w.cell? ⟨g,0,none⟩=some x) (c1:w.cell? ⟨g,1,none⟩=some y)
  (hu:Tryz.prog.underlying ty=some d) (hd:(match d with|.struct _|.array _ _=>true|_=>false)=true) (hi:(Tryz.prog.info? ty).map (·.size)=some 2) :
  (results fn tmps).run Tryz.prog w=.ok (.agg #[x,y]) w:=by
 have hl:=xfu w g ty x y d c0 c1 hu hd hi
 have hp':tmps[p]?.getD undef=.pointer (some ⟨g,0,none⟩):=by simpa using hp
 simp[results,h,hp',asAddr,hl]
theorem xkY (s:ByteArray) (w:World) (hs:s.size≤281474976710656):Calls Tryz.prog 115 #[.string s] w fun e w'=>e=.returned (.string s)∧Below w.heap.size w w':=by
 have HC:=lH (fun W=>clo_any s W hs)
 go_enter Tryz.func115,Tryz.ntmps115
 go_wp2_with fail
 refine(HC.out _).mono ?_
 rintro e w1 ⟨rfl,hb⟩
 have HB:=lH hb
 clear hb
 go_wp2_with fail
 go_ret
 exact⟨rfl,HB.out⟩
theorem xsT (id:Nat) (t:ByteArray) (w:World) (hs:t.size≤281474976710656):Calls Tryz.prog 87 #[.agg #[.int .u64 id,.string t]] w fun e w'=>e=.returned (.agg #[.int .u64 id,.string t])∧Below w.heap.size w w':=by
 have HC:=lH (fun W=>xkY t W hs)
 go_enter Tryz.func87,Tryz.ntmps87
 go_wp2_with fail
 go_region_with (refine(HC.out _).mono ?_;rintro e w1 ⟨rfl,hb⟩;have b0:w1.cell? ⟨w.heap.size,0,none⟩=some (.int .u64 id):=(hb.cell (p:=⟨w.heap.size,0,none⟩) (by simp;omega)).trans (by simp[go_sem]);have b1:w1.cell? ⟨w.heap.size,1,none⟩=some (.string t):=(hb.cell (p:=⟨w.heap.size,1,none⟩) (by simp;omega)).trans (by simp[go_sem]);have z0:w1.cell? ⟨w.heap.size+1,0,none⟩=some (.int .u64 0):=(hb.cell (p:=⟨w.heap.size+1,0,none⟩) (by simp)).trans (by simp[go_sem]);have z1:w1.cell? ⟨w.heap.size+1,1,none⟩=some (.string { data:=#[] }):=(hb.cell (p:=⟨w.heap.size+1,1,none⟩) (by simp)).trans (by simp[go_sem]);have f0:w1.frozen? ⟨w.heap.size+1,0,none⟩=false:=(hb.frozen (p:=⟨w.heap.size+1,0,none⟩) (by simp)).trans (by simp[go_sem]);have f1:w1.frozen? ⟨w.heap.size+1,1,none⟩=false:=(hb.frozen (p:=⟨w.heap.size+1,1,none⟩) (by simp)).trans (by simp[go_sem]);have hB:Below w.heap.size w w1:=(by go_grown:Below w.heap.size w _).trans (hb.mono (by simp;omega));have hl:w.heap.size+1<w1.heap.size:=xbh z0)
 all_goals
  go_wp2_with fail
  refine bodyPost_ret (xjJ rfl _ _ (w.heap.size+1) (.int .u64 id) (.string t) _ rfl (by simp[go_sem,z0,z1]) (by simp[go_sem,z0,z1]) Tryz.underlying67 rfl xsD) rfl ⟨rfl,(hB.setCell (p:=⟨w.heap.size+1,0,none⟩) (by simp) _).setCell (p:=⟨w.heap.size+1,1,none⟩) (by simp) _⟩
theorem xoj {k l:IntKind} {a b c d:Int} (h:a=b) (g:c=d):Ending.returned (.tuple #[.int k a,.int l c])=.returned (.tuple #[.int k b,.int l d]):=by rw[h,g]
theorem xuw {k l m:IntKind} {a b c d e f:Int} (h:a=b) (g:c=d) (i:e=f):Ending.returned (.tuple #[.int k a,.int l c,.int m e])=.returned (.tuple #[.int k b,.int l d,.int m f]):=by rw[h,g,i]
def xf3 (W:World) (n:Nat) (r u:Int) (s t:Bool):Prop :=
 W.cell? ⟨0,4*n,none⟩=some (.int .i64 r)∧W.cell? ⟨0,4*n+1,none⟩=some (.int .i64 u)∧W.cell? ⟨0,4*n+2,none⟩=some (.bool s)∧W.cell? ⟨0,4*n+3,none⟩=some (.bool t)
def xvu (W:World):Prop:=0<W.heap.size∧xf3 W 0 0 0 true false∧xf3 W 1 0 1 false false∧xf3 W 2 1 1 false false∧xf3 W 3 1 0 true true
theorem xf3.below {W W':World} {n:Nat} {r u:Int} {s t:Bool} (h:xf3 W n r u s t) (h0:0<W.heap.size) (hb:Below W.heap.size W W'):xf3 W' n r u s t :=
 ⟨(hb.cell (p:=⟨0,4*n,none⟩) h0).trans h.1,(hb.cell (p:=⟨0,4*n+1,none⟩) h0).trans h.2.1,(hb.cell (p:=⟨0,4*n+2,none⟩) h0).trans h.2.2.1,(hb.cell (p:=⟨0,4*n+3,none⟩) h0).trans h.2.2.2⟩
theorem xvu.below {W W':World} (h:xvu W) (hb:Below W.heap.size W W'):xvu W' :=
 ⟨Nat.lt_of_lt_of_le h.1 hb.size,h.2.1.below h.1 hb,h.2.2.1.below h.1 hb,h.2.2.2.1.below h.1 hb,h.2.2.2.2.below h.1 hb⟩
end Go.Proofs.YtjinnigjfopbcaaGreatDoor
namespace Go.Proofs.YtjinnigjfopbcaaGreatDoor
set_option linter.unusedVariables false
set_option linter.unusedSimpArgs false
def xvx (s b:Nat):Nat:=(s ^^^ b)*1099511628211 % 18446744073709551616
def xgL (x:Nat) (l:List UInt8):Nat:=l.foldl (fun x c=>xvx x c.toNat) x
def fSt:Nat:=14695981039346656037
def xwm (s:Nat) (n:Int):Int:=if n<1 then 0 else (s:Int) % n
theorem xvn (s b:Nat):xvx s b<18446744073709551616:=Nat.mod_lt _ (by decide)
theorem xok (x:Nat) (l:List UInt8) (c:UInt8):xgL x (c :: l)=xgL (xvx x c.toNat) l:=by
 unfold xgL;rw[List.foldl_cons]
theorem xln (x:Nat):xgL x []=x:=by
 unfold xgL;rw[List.foldl_nil]
theorem xq2 (l:List UInt8):∀ x,x<18446744073709551616→xgL x l<18446744073709551616:=by
 induction l with
 | nil=>intro x h;rw[xln];exact h
 | cons c l ih=>intro x _;rw[xok];exact ih _ (xvn _ _)
theorem xqI (x:Nat) (a:List UInt8) (c:UInt8):xgL x (a++[c])=xvx (xgL x a) c.toNat:=by
 unfold xgL;rw[List.foldl_append,List.foldl_cons,List.foldl_nil]
theorem xyc (s b:Nat) (hs:s<18446744073709551616) (hb:b<18446744073709551616):s ^^^ b<18446744073709551616:=by
 have:=Nat.xor_lt_two_pow (n:=64) (x:=s) (y:=b) (by omega) (by omega)
 omega
abbrev Kt:=Nat × ByteArray
def plc:List ByteArray→Nat→List Kt
 | [],_=>[]
 | t :: l,n=>(n,t) :: plc l (n+t.size)
def bkt (s:ByteArray):Int:=xwm (xgL fSt s.data.toList) 2048
theorem xf0 (s:ByteArray):0≤bkt s∧bkt s<2048:=by
 unfold bkt xwm
 rw[if_neg (by omega)]
 omega
def grp (k:Int) (l:List Kt):List Kt:=l.filter (fun t=>decide (bkt t.2=k))
end Go.Proofs.YtjinnigjfopbcaaGreatDoor
namespace Go.Proofs.YtjinnigjfopbcaaGreatDoor
set_option linter.unusedVariables false
set_option linter.unusedSimpArgs false
open Go.RowKit
set_option maxRecDepth 20000
structure PutS (w W:World) (s:Value) (id:Nat) (t:ByteArray):Prop where
 box:One W w.heap.size s
 res:One W (w.heap.size+1) (.slice none 0 0)
 itm:Two W (w.heap.size+2) (.int .u64 id) (.string t)
 bel:Below w.heap.size w W
theorem PutS.below {w W W':World} {s:Value} {id:Nat} {t:ByteArray} (h:PutS w W s id t) (hb:Below W.heap.size W W'):PutS w W' s id t :=
 ⟨h.box.below hb,h.res.below hb,h.itm.below hb,h.bel.trans (hb.mono h.bel.size)⟩
theorem ItsAt.post {w:World} {g off n cap:Nat} {l:List It} (h:ItsAt w (.slice (some ⟨g,off,none⟩) n cap) l) (k:Nat) (hk:k≤l.length):ItsAt w (.slice (some ⟨g,off+k*2,none⟩) (l.length - k) (cap - k)) (l.drop k):=by
 obtain⟨a,cap',e,h1,h2,hc⟩:=h
 cases e
 refine⟨_,cap - k,by rw[List.length_drop],by rw[List.length_drop];omega,by omega,fun j t ht=>?_⟩
 rw[List.getElem?_drop] at ht
 obtain⟨g',off',e,hg,c0,c1⟩:=hc (k+j) t ht
 cases e
 refine⟨g,off+k*2,rfl,hg,?_,?_⟩
 ·rw[show off+k*2+j*2=off+(k+j)*2 by omega];exact c0
 ·rw[show off+k*2+j*2+1=off+(k+j)*2+1 by omega];exact c1
structure DelS (w W:World) (s:Value):Prop where
 box:One W w.heap.size s
 res:One W (w.heap.size+1) (.slice none 0 0)
 bel:Below w.heap.size w W
theorem DelS.below {w W W':World} {s:Value} (h:DelS w W s) (hb:Below W.heap.size W W'):DelS w W' s :=
 ⟨h.box.below hb,h.res.below hb,h.bel.trans (hb.mono h.bel.size)⟩
end Go.Proofs.YtjinnigjfopbcaaGreatDoor
