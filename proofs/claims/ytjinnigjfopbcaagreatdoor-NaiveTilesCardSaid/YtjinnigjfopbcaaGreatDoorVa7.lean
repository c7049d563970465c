/- aPc aGj aGt13 aMb aMd aNe aVc aPb aFb aFc aGd aGk aMg. -/
import Derived.Test.YtjinnigjfopbcaaGreatDoorVa6
import Derived.Test.YtjinnigjfopbcaaGreatDoorVs
set_option maxHeartbeats 16000000
namespace Go.Proofs.YtjinnigjfopbcaaGreatDoor
set_option linter.unusedVariables false
set_option linter.unusedSimpArgs false
open Go.RowKit
set_option maxRecDepth 20000
set_option maxRecDepth 20000 in
theorem xcR (v:Value) (l:List En) (w:World) (hv:xaj w v l) (hm:xas l):Calls Tryz.prog 122 #[v] w fun x w'=>x=.returned (.int .i64 (xa5 l))∧Below w.heap.size w w':=by
 obtain⟨al,cap,rfl,hcap,_,hc⟩:=hv
 have HC:=lH hc
 have HM:=lH hm
 obtain⟨R,hR⟩:∃ R,xa5 l=R:=⟨_,rfl⟩
 rw[hR]
 clear hc hm
 by_cases h4:4096<l.length
 ·have hR2:R=21:=by rw[← hR,xa5,if_pos h4]
  subst hR2
  have hd:decide (4096<(l.length:Int))=true:=by simp;omega
  clear hR
  go_enter Tryz.func122,Tryz.ntmps122
  go_wp2_with fail
  go_ret
  exact⟨rfl,by go_grown⟩
 have hR2:xfk (-1) l=R:=by rw[← hR,xa5,if_neg h4]
 have HR:=lH hR2
 have hd:decide (4096<(l.length:Int))=false:=by simp;omega
 clear hR hR2
 go_enter Tryz.func122,Tryz.ntmps122
 go_wp2_with fail
 go_loopw [11] (fun s wr=>∃ i:Nat,i≤l.length∧s=.int .i64 i∧Hid (xfk (-1) (l.take i)=0)∧Below w.heap.size w wr) (fun s _=>l.length - (intOf s).toNat)
 case atStart=>exact⟨0,Nat.zero_le _,rfl,lH rfl,Below.refl _ _⟩
 case round =>
  obtain⟨i,hi,rfl,HG,hbw⟩:=hrel
  by_cases hlt:i<l.length
  ·obtain⟨e,he⟩:∃ t,l[i]?=some t:=⟨_,List.getElem?_eq_getElem hlt⟩
   obtain⟨g,off,rfl,hg,l0,l1,l2,l3⟩:=HC.out i e he
   have hme:=HM.out e (List.mem_of_getElem? he)
   have HK:=lH (fun W=>xdn e W hme)
   have HAt:=lH (xoQ l i e he HG.out)
   have hi2:(i:Int)<(l.length:Int):=by omega
   have hcl:=xly (Below.refl _ _) ⟨xbP hbw ⟨l0,l1,l2,l3⟩,hbw⟩
   have HE:Hid (¬ e.id≤-1):=lH (by have:=hme.1;omega)
   clear he hme l0 l1 l2 l3 hbw HG
   unfold eC at HK
   have HX:=lH (EAt.made wr e 74)
   have HBX:=lH (hcl.2.trans (((Below.refl wr.heap.size wr).alloc (Nat.le_refl _) (.cells (eC e) 74)).mono hcl.2.size))
   unfold eC at HX HBX
   by_cases h0:ckN e=0
   ·rw[h0] at HK
    have HCL:=lH hcl
    obtain⟨⟨k0,k1,k2,k3⟩,hbw⟩:=hcl
    clear hbw
    by_cases hz:i=0
    ·have hdz:decide (0<(i:Int))=false:=by simp;omega
     have hdn:decide (0<i)=false:=by simp;omega
     have HZ:=lH hz
     clear hz
     go_wp2_with fail
     refine(HK.out _).mono ?_
     rintro x w1 ⟨rfl,hb⟩
     have HS0:=xa6 (Below.drew (Below.refl _ _)) (xa6 hb ⟨HX.out,HBX.out⟩)
     clear hb k0 k1 k2 k3 HCL HX HBX
     go_upto_region 9 with fail
     refine wp_region_held_drew (S:=fun w'=>(w'.cell? ⟨wr.heap.size,0,none⟩=some (.int .u64 e.id)∧w'.cell? ⟨wr.heap.size,1,none⟩=some (.int .u64 e.off)∧w'.cell? ⟨wr.heap.size,2,none⟩=some (.int .u32 e.ln)∧w'.cell? ⟨wr.heap.size,3,none⟩=some (.int .u32 e.rn))∧Below w.heap.size w w') (by kernel_rfl) HS0 (fun hH0=>?_)
     refine tK 0 21 hH0 ?_
     refine tK 1 22 hH0 ?_
     refine tK 2 23 hH0 ?_
     refine tU 3 24 hH0 ?_
     refine tU 4 25 hH0 ?_
     refine tU 5 26 hH0 ?_
     refine tU 6 27 hH0 ?_
     refine tU 7 28 hH0 ?_
     refine tU 8 29 hH0 ?_
     refine tU 9 30 hH0 ?_
     refine tU 10 31 hH0 ?_
     refine tU 11 32 hH0 ?_
     refine tK 12 33 hH0 ?_
     refine wpAnyH_done (by kernel_rfl) ?_ _
     go_wp2_with fail
     go_roundw
     case rel =>
      refine⟨i+1,by omega,by go_num,lH (HAt.out.2 h0 ?_),hH0.2⟩
      unfold xrN
      rw[if_pos HZ.out]
      exact HE.out
     case measure=>simp[intOf];omega
    ·obtain⟨j,rfl⟩:∃ j,i=j+1:=⟨i - 1,by omega⟩
     obtain⟨f,hf⟩:∃ t,l[j]?=some t:=⟨_,List.getElem?_eq_getElem (by omega)⟩
     have hpv:xrN l (j+1)=laN f:=by
      unfold xrN
      rw[if_neg (by omega),Nat.add_sub_cancel,List.getD_eq_getElem?_getD,hf]
      rfl
     rw[hpv] at HAt
     obtain⟨g',off',ha,hg',f0,f1,f2,f3⟩:=HC.out j f hf
     obtain⟨rfl,rfl⟩:g=g'∧off=off':=by simpa using ha
     have hmf:=HM.out f (List.mem_of_getElem? hf)
     have HLF:=lH (fun W=>xga f W hmf)
     unfold eC at HLF
     have HF:=lH (xbP HBX.out ⟨f0,f1,f2,f3⟩)
     have hij:((j+1:Nat):Int) - 1=(j:Int):=by omega
     have hwj:IntKind.i64.wrap (j:Int)=(j:Int):=by rw[IntKind.wrap_i64] <;> omega
     have hj2:(j:Int)<(l.length:Int):=by omega
     have hj0:(0:Int)≤(j:Int):=by omega
     generalize hgi:j+1=i at *
     have hdz:decide (0<(i:Int))=true:=by simp;omega
     have hdn:decide (0<i)=true:=by simp;omega
     obtain⟨q,hq⟩:∃ q,laN f=q:=⟨_,rfl⟩
     rw[hq] at HAt HLF
     clear hq hf f0 f1 f2 f3 hpv hz hmf
     by_cases hle:e.id≤q
     ·have hR:R=10:=by rw[← HR.out,HAt.out.1,if_neg (fun h=>h h0),if_pos hle]
      subst hR
      have hdl:decide (e.id≤q)=true:=by simpa using hle
      clear hle HAt
      go_wp2_with fail
      refine(HK.out _).mono ?_
      rintro x w1 ⟨rfl,hb⟩
      have HS0:=xck (Below.drew (Below.refl _ _)) (xck hb ⟨HX.out,HF.out,HBX.out⟩)
      clear hb k0 k1 k2 k3 HCL HX HBX HF
      go_upto_region 9 with fail
      refine wp_region_held_drew (S:=fun w'=>(w'.cell? ⟨wr.heap.size,0,none⟩=some (.int .u64 e.id)∧w'.cell? ⟨wr.heap.size,1,none⟩=some (.int .u64 e.off)∧w'.cell? ⟨wr.heap.size,2,none⟩=some (.int .u32 e.ln)∧w'.cell? ⟨wr.heap.size,3,none⟩=some (.int .u32 e.rn))∧(w'.cell? ⟨g,off+j*4,none⟩=some (.int .u64 f.id)∧w'.cell? ⟨g,off+j*4+1,none⟩=some (.int .u64 f.off)∧w'.cell? ⟨g,off+j*4+2,none⟩=some (.int .u32 f.ln)∧w'.cell? ⟨g,off+j*4+3,none⟩=some (.int .u32 f.rn))∧Below w.heap.size w w') (by kernel_rfl) HS0 (fun hH0=>?_)
      refine tK 0 21 hH0 ?_
      refine tK 1 22 hH0 ?_
      refine tK 2 23 hH0 ?_
      refine tK 3 24 hH0 ?_
      refine tK 4 25 hH0 ?_
      refine tK 5 26 hH0 ?_
      refine tK 6 27 hH0 ?_
      refine tK 7 28 hH0 ?_
      refine tK 8 29 hH0 ?_
      refine tK 9 30 hH0 ?_
      refine wpAnyH_ready (rs:=[10]) (by kernel_rfl) (by simp) ?_
      refine AllReadyH.cons rfl (fun K hK=>?_) AllReadyH.nil
      go_simp
      refine(HLF.out _).mono ?_
      rintro e w' ⟨rfl,hb⟩
      go_wp2_with fail
      refine hK.out _ _ (xck hb hH0) (fun hH1=>?_)
      clear hK K hb hH0
      try simp only[Act.put,zsA,zsB,zsC]
      refine tK 11 32 hH1 ?_
      refine tK 12 33 hH1 ?_
      refine wpAnyH_done (by kernel_rfl) ?_ _
      go_wp2_with fail
      go_ret
      exact⟨rfl,hH1.2.2⟩
     ·have hdl:decide (e.id≤q)=false:=by simpa using hle
      have HG2:=lH (HAt.out.2 h0 hle)
      clear hle HAt
      go_wp2_with fail
      refine(HK.out _).mono ?_
      rintro x w1 ⟨rfl,hb⟩
      have HS0:=xck (Below.drew (Below.refl _ _)) (xck hb ⟨HX.out,HF.out,HBX.out⟩)
      clear hb k0 k1 k2 k3 HCL HX HBX HF
      go_upto_region 9 with fail
      refine wp_region_held_drew (S:=fun w'=>(w'.cell? ⟨wr.heap.size,0,none⟩=some (.int .u64 e.id)∧w'.cell? ⟨wr.heap.size,1,none⟩=some (.int .u64 e.off)∧w'.cell? ⟨wr.heap.size,2,none⟩=some (.int .u32 e.ln)∧w'.cell? ⟨wr.heap.size,3,none⟩=some (.int .u32 e.rn))∧(w'.cell? ⟨g,off+j*4,none⟩=some (.int .u64 f.id)∧w'.cell? ⟨g,off+j*4+1,none⟩=some (.int .u64 f.off)∧w'.cell? ⟨g,off+j*4+2,none⟩=some (.int .u32 f.ln)∧w'.cell? ⟨g,off+j*4+3,none⟩=some (.int .u32 f.rn))∧Below w.heap.size w w') (by kernel_rfl) HS0 (fun hH0=>?_)
      refine tK 0 21 hH0 ?_
      refine tK 1 22 hH0 ?_
      refine tK 2 23 hH0 ?_
      refine tK 3 24 hH0 ?_
      refine tK 4 25 hH0 ?_
      refine tK 5 26 hH0 ?_
      refine tK 6 27 hH0 ?_
      refine tK 7 28 hH0 ?_
      refine tK 8 29 hH0 ?_
      refine tK 9 30 hH0 ?_
      refine wpAnyH_ready (rs:=[10]) (by kernel_rfl) (by simp) ?_
      refine AllReadyH.cons rfl (fun K hK=>?_) AllReadyH.nil
      go_simp
      refine(HLF.out _).mono ?_
      rintro e w' ⟨rfl,hb⟩
      go_wp2_with fail
      refine hK.out _ _ (xck hb hH0) (fun hH1=>?_)
      clear hK K hb hH0
      try simp only[Act.put,zsA,zsB,zsC]
      refine tK 11 32 hH1 ?_
      refine tK 12 33 hH1 ?_
      refine wpAnyH_done (by kernel_rfl) ?_ _
      go_wp2_with fail
      go_roundw
      case rel=>exact⟨i+1,by omega,by go_num,HG2,hH1.2.2⟩
      case measure=>simp[intOf];omega
   ·have hR:R=ckN e:=by rw[← HR.out,HAt.out.1,if_pos h0]
    obtain⟨r,hr⟩:∃ r,ckN e=r:=⟨_,rfl⟩
    rw[hr] at HK h0 hR
    subst hR
    have hne:(R != 0)=true:=by simp only[bne_iff_ne,ne_eq];exact h0
    clear h0 hr HAt HR
    have HCL:=lH hcl.2
    obtain⟨⟨k0,k1,k2,k3⟩,hbw⟩:=hcl
    clear hbw
    go_wp2_with fail
    refine(HK.out _).mono ?_
    rintro x w1 ⟨rfl,hb⟩
    have hb1:=lH (HBX.out.trans (hb.mono HBX.out.size))
    clear hb k0 k1 k2 k3 HCL
    go_wp2_with fail
    go_ret
    exact⟨rfl,hb1.out⟩
  ·obtain rfl:i=l.length:=by omega
   have hG:=HG.out
   rw[List.take_length] at hG
   have hR:R=0:=HR.out.symm.trans hG
   subst hR
   clear hG HG HR
   go_wp2_with fail
   go_ret
   exact⟨rfl,hbw⟩
theorem xlf (w:World):(Op.equal 319 (.map none) (.map none)).run Tryz.prog w=.ok true w:=by
 rw[Op.equal,show Op.maxDepth=9999+1 from rfl]
 unfold Op.equalIn
 simp[go_sem]
theorem xjq (w:World):(binOp BinOp.eql 319 (.map none) (.map none)).run Tryz.prog w=.ok (.bool true) w:=by
 simp[binOp,go_sem,xlf]
theorem xaI (w:World) (o:Obj):Below w.heap.size w (w.alloc o):=(Below.refl _ _).alloc (Nat.le_refl _) o
def xcO (w:World) (B b:Nat) (l:List UInt8):Prop:=Lib.BuilderAt 254 5 B b (.pointer (some ⟨b,0,none⟩)) (Lib.byteCells l) w
theorem xcO.alloc {w:World} {B b:Nat} {l:List UInt8} (h:xcO w B b l) (o:Obj):xcO (w.alloc o) B b l:=by
 obtain⟨h1,v,h2,h3,h4⟩:=h
 have hb:b<w.heap.size:=(Array.getElem?_eq_some_iff.1 h2).1
 exact⟨h1,v,((xaI w o).block b hb).trans h2,h3.alloc o,h4⟩
theorem xjX (B b n:Nat) (w:World) (hB:B≤b) (hbk:w.heap[b]?=some (.cells #[.pointer none,.slice none 0 0] 254 (0,0))) (hBw:B≤w.heap.size) (hn:n≤281474976710656) :
  Calls Tryz.prog 145 #[.pointer (some ⟨b,0,none⟩),.int .i64 n] w fun e w'=>e=.returned (.tuple #[])∧xcO w' B b []∧Below B w w' :=
 Any.Builder_Grow_fresh bgL bgLX B b n w hB hbk hBw hn
theorem xca (B b:Nat) (l:List UInt8) (s:ByteArray) (w:World) (h:xcO w B b l) (hlen:l.length+s.size≤140737488355328) (hBw:B≤w.heap.size) :
  Calls Tryz.prog 146 #[.pointer (some ⟨b,0,none⟩),.string s] w fun e w'=>e=.returned (.tuple #[.int .i64 s.size,.nilIface])∧xcO w' B b (l++s.data.toList)∧Below B w w':=by
 refine(Any.Builder_WriteString bwL bwLX B b (Lib.byteCells l) s w (.inr h) (by rw[Lib.byteCells_length];exact hlen) hBw).mono ?_
 rintro e w' ⟨rfl,h1,h2⟩
 refine⟨rfl,?_,h2⟩
 unfold xcO
 have e:Lib.byteCells (l++s.data.toList)=Lib.byteCells l++Lib.strCells s:=by simp[Lib.byteCells,Lib.strCells]
 rw[e];exact h1
theorem xlE (B b:Nat) (l:List UInt8) (w:World) (h:xcO w B b l) (hBw:B≤w.heap.size) :
  Calls Tryz.prog 147 #[.pointer (some ⟨b,0,none⟩)] w fun e w'=>e=.returned (.string ⟨l.toArray⟩)∧Below B w w' :=
 Any.Builder_String_any bsL bsLX B b l w (.inr h) hBw
end Go.Proofs.YtjinnigjfopbcaaGreatDoor
namespace Go.Proofs.YtjinnigjfopbcaaGreatDoor
set_option linter.unusedVariables false
set_option linter.unusedSimpArgs false
set_option maxRecDepth 20000
theorem xvK {e:En} (h:ckN e=0) (hr:1≤e.rn):laN e=e.id+e.rn - 1:=by
 unfold laN wdN
 rw[if_pos h,if_neg (by omega)]
theorem xwn (e:En) (d:ByteArray) (hm:xaY e) (hc:ckN e=0) (id:Nat):xic e (id:Int)=true↔∃ t ∈ xg4 e d,t.1=id:=by
 rw[xvC]
 unfold xaY at hm
 constructor
 ·rintro⟨_,h1,h2,h3⟩
  rw[xvK hc (by omega)] at h3
  exact⟨_,(xeu e d _).2 ⟨id - e.id.toNat,by omega,rfl⟩,by show e.id.toNat+(id - e.id.toNat)=id;omega⟩
 ·rintro⟨t,ht,rfl⟩
  obtain⟨k,hk,rfl⟩:=(xeu e d t).1 ht
  rw[xvK hc (by omega)]
  refine⟨hc,by omega,?_,?_⟩
  ·show e.id≤((e.id.toNat+k:Nat):Int);omega
  ·show ((e.id.toNat+k:Nat):Int)≤_;omega
theorem xsi {l:List En} {d:ByteArray} (hm:∀ e ∈ l,xaY e) (hr:xfk (-1) l=0) (ht:∀ e ∈ l,TellE e d) (hs:(l.map (·.rn)).sum≤2048):GoodC (xiR l d):=by
 have hc:∀ e ∈ l,ckN e=0:=fun e he=>(xb7 (-1) l hm hr e he).2
 have hlen:=xvR l d (fun e he=>(hm e he).2.2.2.1)
 have hmem:∀ t ∈ xiR l d,∃ e ∈ l,∃ k,k<e.rn.toNat∧t=(e.id.toNat+k,txN e d):=fun t h=>by
  obtain⟨e,he,hte⟩:=List.mem_flatMap.1 h
  exact⟨e,he,(xeu e d t).1 hte⟩
 have hsz:∀ e ∈ l,(txN e d).size=e.ln.toNat:=fun e he=>by
  have h1:=ht e he
  have h2:=hm e he
  unfold xaY at h2
  have h3:=h1.inn
  unfold txN
  rw[ByteArray.size_extract]
  omega
 refine⟨?_,fun t h=>?_,fun t h=>?_,fun t h=>?_,by omega⟩
 ·have key:∀ (l:List En) (p:Int),(∀ e ∈ l,xaY e)→xfk p l=0→xgG (xiR l d)∧∀ t ∈ xiR l d,p<(t.1:Int):=by
   intro l
   induction l with
   | nil=>intro p _ _;exact⟨List.Pairwise.nil,by simp[xiR]⟩
   | cons e l ih =>
    intro p hm hr
    obtain⟨g1,g2,g3⟩:=xiY p e l hr
    obtain⟨i1,i2⟩:=ih (laN e) (fun x hx=>hm x (by simp[hx])) g3
    have hme:=hm e (by simp)
    have hla:=xuW e hme g1
    unfold xaY at hme
    have hup:∀ t ∈ xg4 e d,e.id≤(t.1:Int)∧(t.1:Int)≤laN e:=fun t h=>by
     obtain⟨k,hk,rfl⟩:=(xeu e d t).1 h
     rw[xvK g1 (by omega)]
     refine⟨?_,?_⟩
     ·show e.id≤((e.id.toNat+k:Nat):Int);omega
     ·show ((e.id.toNat+k:Nat):Int)≤_;omega
    have e0:xiR (e :: l) d=xg4 e d++xiR l d:=by simp[xiR]
    rw[e0]
    refine⟨?_,fun t h=>?_⟩
    ·unfold xgG at i1 ⊢
     rw[List.pairwise_append]
     refine⟨?_,i1,fun a ha b hb=>?_⟩
     ·unfold xg4
      rw[List.pairwise_map]
      refine List.Pairwise.imp (fun {a b} h=>?_) List.pairwise_lt_range
      show e.id.toNat+a<e.id.toNat+b
      omega
     ·have:=hup a ha
      have:=i2 b hb
      omega
    ·rcases List.mem_append.1 h with h|h
     ·have:=hup t h;omega
     ·have:=i2 t h;omega
  exact(key l (-1) hm hr).1
 ·obtain⟨e,he,k,hk,rfl⟩:=hmem t h
  have h1:=xhO e (hc e he)
  have h2:=hm e he
  unfold xaY at h2
  have h3:=(ht e he).run
  unfold wdN at h1
  rw[if_neg h3] at h1
  show e.id.toNat+k<_
  omega
 ·obtain⟨e,he,k,hk,rfl⟩:=hmem t h
  have h1:=(xhO e (hc e he)).1
  have h2:=hm e he
  unfold xaY at h2
  show 0<(txN e d).size
  rw[hsz e he]
  omega
 ·obtain⟨e,he,k,hk,rfl⟩:=hmem t h
  have h2:=(ht e he).short
  show (txN e d).size≤_
  rw[hsz e he]
  omega
end Go.Proofs.YtjinnigjfopbcaaGreatDoor
namespace Go.Proofs.YtjinnigjfopbcaaGreatDoor
set_option linter.unusedVariables false
set_option linter.unusedSimpArgs false
open Go.RowKit
set_option maxRecDepth 20000
def xhU (l:List En) (d:ByteArray) (w:World) (x:Ending) (w':World):Prop:=∃ v',x=.returned (.tuple #[v',.int .i64 (xcT l d).2])∧ItsAt w' v' (xcT l d).1∧Below w.heap.size w w'
theorem xgX (l:List En) (i:Nat) (e:En) (d:ByteArray) (acc:List It) (m:Int) (h:l[i]?=some e):xb2 (l.drop i) d acc m=if e.rn=0 then ([],14) else if (d.size:Int)<e.off+e.ln then ([],8) else if 2048<m+e.rn then ([],21) else if 65536<e.ln then ([],5) else xb2 (l.drop (i+1)) d (acc++xg4 e d) (m+e.rn):=by
 rw[xmB l i e h,xb2]
theorem xuM (e:En) (d:ByteArray) (j:Nat) (h:(j:Int)<e.rn):(xg4 e d)[j]?=some (e.id.toNat+j,txN e d):=by
 unfold xg4
 rw[List.getElem?_map,List.getElem?_range (by omega)]
 rfl
theorem xot (w:World) (z:Int) (n:Nat) (hz:z=n) (s:ByteArray) (T:TypeId):ItsAt (w.alloc (.cells #[.int .u64 z,.string s] T)) (.slice (some ⟨w.heap.size,0,none⟩) 1 1) [(n,s)]:=by
 subst hz
 exact xuq w n s T
theorem xeD {ops:Array Oper} {o:Oper} {a:Act} {w:World} {K:Act→World→Prop} {Q:Exit→Act→World→Prop} {E:Prop}
  (hg:o.guard=none) (s x:Operand) (tA tB:TypeId) (hop:o.op=Op.call { callee:=Callee.builtin Builtin.append,args:=#[s,x],argTypes:=#[tA,tB] })
  (v u:Value) (hs:a.eval s=v) (hx:a.eval x=u) {v':Value} {w':World} (hr:(Builtin.append_ #[tA,tB] o.type #[v,u]).run Tryz.prog w=.ok v' w') (hK:K (a.put o.dst v') w') :
  if Region.wanted o (yielded ops a.tmps)=true then Oper.wp Tryz.prog o a w K Q else E:=by
 have hw:Region.wanted o (yielded ops a.tmps)=true:=by simp[Region.wanted,hg]
 rw[if_pos hw]
 unfold Oper.wp
 simp[execOp,hop,resolve,invoke,builtin,hs,hx,hr,Result.andThen]
 exact hK
theorem xkr (v:Value) (l:List En) (d:ByteArray) (w:World) (hv:xaj w v l) (hm:xas l) (hd:d.size≤1000000):Calls Tryz.prog 58 #[v,.string d] w (xhU l d w):=by
 have HRO:=lH (xd0 v l w hv hm)
 have HV:=lH hv
 have HM:=lH hm
 obtain⟨a0,c0,rfl,hcap,hmx,-⟩:=hv
 have hml:l.length≤9223372036854775807:=by unfold maxLen at hmx;omega
 obtain⟨R,hR⟩:∃ R,xcT l d=R:=⟨_,rfl⟩
 unfold xhU
 rw[hR]
 obtain⟨q,hq⟩:∃ q,xa5 l=q:=⟨_,rfl⟩
 rw[hq] at HRO
 clear hm
 by_cases h0:q=0
 ·have e0:(q != 0)=false:=by simpa using h0
  have HB0:Hid (R=xb2 (l.drop 0) d [] 0):=lH (by rw[← hR];unfold xcT;rw[hq,if_neg (by simpa using h0),List.drop_zero])
  have HCK:Hid (∀ e ∈ l,ckN e=0):=lH (fun e he=>by
   have hrow:=hq.trans h0
   unfold xa5 at hrow
   split at hrow
   ·omega
   ·exact(xb7 (-1) l HM.out hrow e he).2)
  clear h0 hq hR
  go_enter Tryz.func58,Tryz.ntmps58
  go_wp2_with fail
  refine HRO.out.mono ?_
  rintro x w1 ⟨rfl,hb1⟩
  have HB1:=lH hb1
  clear hb1
  go_wp2_with fail
  go_loopw [7,8,9] (fun o y x wr=>∃ (i:Nat) (m:Nat) (acc:List It),i≤l.length∧x=.int .i64 i∧y=.int .u64 m∧m≤2048∧acc.length=m∧Hid (xaV wr w.heap.size 64 o acc)∧Hid (R=xb2 (l.drop i) d acc m)∧Below w.heap.size w wr) (fun _ _ x _=>l.length - (intOf x).toNat)
  case atStart=>exact⟨0,0,[],Nat.zero_le _,rfl,rfl,by omega,rfl,lH (xec _ _ _),HB0,HB1.out⟩
  case round =>
   obtain⟨i,m,acc,hi,rfl,rfl,hm,hal,HO,HR,hbw⟩:=hrel
   by_cases hlt:i<l.length
   ·obtain⟨e,he⟩:∃ e,l[i]?=some e:=⟨_,List.getElem?_eq_getElem hlt⟩
    have hme:=HM.out e (List.mem_of_getElem? he)
    have hck:=xhO e (HCK.out e (List.mem_of_getElem? he))
    unfold xaY at hme
    have HR2:=lH (HR.out.trans (xgX l i e d acc m he))
    obtain⟨g,off,cap,hv2,hle,hg,hc⟩:=xdA HV.out i hlt
    cases hv2
    have HC:=lH (fun X (hX:Below w.heap.size w X)=>xbP hX (hc i e he))
    obtain⟨k0,k1,k2,k3⟩:=HC.out wr hbw
    have hii:(i:Int)<(l.length:Int):=by omega
    have hw1:IntKind.u64.wrap e.rn=e.rn:=by rw[IntKind.wrap_u64];omega
    have hw2:IntKind.u64.wrap ((m:Int)+e.rn)=(m:Int)+e.rn:=by rw[IntKind.wrap_u64];omega
    have hw3:IntKind.u64.wrap e.ln=e.ln:=by rw[IntKind.wrap_u64];omega
    have hw4:IntKind.u64.wrap (e.off+e.ln)=e.off+e.ln:=by rw[IntKind.wrap_u64];omega
    have hw5:IntKind.u64.wrap (d.size:Int)=(d.size:Int):=by rw[IntKind.wrap_u64];omega
    have HB:=lH (fun n=>hbw.trans (show Below w.heap.size wr (wr.drewN n) from ⟨rfl,rfl,rfl,Nat.le_refl _,fun _ _=>rfl⟩))
    have HBW:=lH hbw
    clear hc he HR hbw HB0
    by_cases h1:e.rn=0
    ·have HRR:=lH (HR2.out.trans (if_pos h1))
     have d1:(e.rn == 0)=true:=by simpa using h1
     clear h1 HR2
     go_wp2_with fail
     refine bodyPost_ret (results_tmp2 rfl _ _ _) rfl ⟨_,by rw[HRR.out];rfl,by rw[HRR.out];exact xcu _,HBW.out⟩
    have HR3:=lH (HR2.out.trans (if_neg h1))
    have d1:(e.rn == 0)=false:=by simpa using h1
    clear HR2
    by_cases h2:(d.size:Int)<e.off+e.ln
    ·have HRR:=lH (HR3.out.trans (if_pos h2))
     clear HR3 h1
     go_wp2_with fail
     go_quiet (fail)
     go_wp2_with fail
     refine bodyPost_ret (results_tmp2 rfl _ _ _) rfl ⟨_,by rw[HRR.out];rfl,by rw[HRR.out];exact xcu _,HB.out _⟩
    have HR4:=lH (HR3.out.trans (if_neg h2))
    clear HR3
    by_cases h3:2048<(m:Int)+e.rn
    ·have HRR:=lH (HR4.out.trans (if_pos h3))
     clear HR4 h1
     go_wp2_with fail
     go_quiet (fail)
     go_wp2_with fail
     refine bodyPost_ret (results_tmp2 rfl _ _ _) rfl ⟨_,by rw[HRR.out];rfl,by rw[HRR.out];exact xcu _,HB.out _⟩
    have HR5:=lH (HR4.out.trans (if_neg h3))
    clear HR4
    by_cases h4:65536<e.ln
    ·have HRR:=lH (HR5.out.trans (if_pos h4))
     clear HR5 h1
     go_wp2_with fail
     go_quiet (fail)
     go_wp2_with fail
     refine bodyPost_ret (results_tmp2 rfl _ _ _) rfl ⟨_,by rw[HRR.out];rfl,by rw[HRR.out];exact xcu _,HB.out _⟩
    have HR6:=lH (HR5.out.trans (if_neg h4))
    clear HR5
    go_wp2_with fail
    go_quiet (fail)
    go_wp2_with fail
    have HTX:Hid (d.extract e.off.toNat (e.off+e.ln).toNat=txN e d):=lH (by unfold txN;rw[show (e.off+e.ln).toNat=e.off.toNat+e.ln.toNat by omega])
    have HRL:=lH (xhD e d)
    have HRT:=lH (xuM e d)
    generalize txN e d=tx at *
    generalize xg4 e d=rl at *
    go_loopw [7,10] (fun o x wy=>∃ j:Nat,(j:Int)≤e.rn∧x=.int .u64 j∧Hid (xaV wy w.heap.size 64 o (acc++rl.take j))∧Below w.heap.size w wy) (fun _ x _=>e.rn.toNat - (intOf x).toNat)
    case atStart=>exact⟨0,by omega,rfl,lH (by rw[List.take_zero,List.append_nil];exact HO.out.below ⟨rfl,rfl,rfl,Nat.le_refl _,fun _ _=>rfl⟩),HB.out _⟩
    case round =>
     obtain⟨j,hj,rfl,HOJ,hbj⟩:=hrel
     obtain⟨k0,k1,k2,k3⟩:=HC.out wr hbj
     by_cases hjl:(j:Int)<e.rn
     ·have htake:=xcL rl j _ (HRT.out j hjl)
      have hid:e.id+(j:Int)=((e.id.toNat+j:Nat):Int):=by omega
      have hw6:IntKind.u64.wrap (e.id+(j:Int))=e.id+(j:Int):=by rw[IntKind.wrap_u64];omega
      have hw7:IntKind.u64.wrap ((j:Int)+1)=(j:Int)+1:=by rw[IntKind.wrap_u64];omega
      have hx:=xot wr (e.id+(j:Int)) _ hid tx 64
      have hba:Below wr.heap.size wr (wr.alloc (.cells #[.int .u64 (e.id+(j:Int)),.string tx] 64)).drew:=((Below.refl _ _).alloc (Nat.le_refl _) _).drew
      obtain⟨v5,w5,hr5,ho5,hg5⟩:=xcp (wr.alloc (.cells #[.int .u64 (e.id+(j:Int)),.string tx] 64)).drew w.heap.size 39 64 39 _ Tryz.underlying39 xui rfl u7 (.slice (some ⟨wr.heap.size,0,none⟩) 1 1) (acc++rl.take j) [(e.id.toNat+j,tx)] (HOJ.out.below hba) (hx.below (Below.drew (Below.refl _ _))) (by rw[List.length_append,List.length_take];simp;omega) (Nat.le_trans hbj.size hba.size)
      rw[List.append_assoc,← htake] at ho5
      have HO5:=lH ho5
      have HB5:=lH ((hbj.trans (hba.mono hbj.size)).grown hg5 (Nat.le_trans hbj.size hba.size) (fun q hq=>(HOJ.out.lt q hq).1))
      have htx:=HTX.out
      have hs1:(0:Int)≤e.off:=by omega
      have hs2:e.off≤e.off+e.ln:=by omega
      have hs3:e.off+e.ln≤(d.size:Int):=by omega
      clear ho5 hg5 hx hba hid htake
      go_wp2_with fail
      go_region_law (refine xeD rfl (.tmp 70) (.tmp 98) 39 39 rfl u7 (.slice (some ⟨wr.heap.size,0,none⟩) 1 1) (by simp[Act.eval,Act.put]) (by simp[Act.eval,Act.put]) hr5 ?_)
      all_goals
       go_wp2_with fail
       go_roundw
       case rel=>exact⟨j+1,by omega,by go_num,HO5,HB5.out⟩
       case measure=>simp[intOf];omega
     ·have hje:(j:Int)=e.rn:=by omega
      have hjn:j=e.rn.toNat:=by omega
      have hfull:rl.take j=rl:=List.take_of_length_le (by rw[HRL.out];omega)
      have HOF:=HOJ.out
      rw[hfull] at HOF
      have HOF:=lH HOF
      have HRR:Hid (R=xb2 (l.drop (i+1)) d (acc++rl) ((m+e.rn.toNat:Nat):Int)):=lH (by rw[show ((m+e.rn.toNat:Nat):Int)=(m:Int)+e.rn by omega];exact HR6.out)
      have hmn:(m:Int)+e.rn=((m+e.rn.toNat:Nat):Int):=by omega
      have HMN:=lH hmn
      clear hmn hfull hje hjn
      go_wp2_with fail
      go_roundw
      case rel=>exact⟨i+1,m+e.rn.toNat,acc++rl,by omega,by go_num,by rw[HMN.out],by have:=HMN.out;omega,by rw[List.length_append,HRL.out,hal],HOF,HRR,hbj⟩
      case measure=>simp[intOf];omega
   ·obtain rfl:i=l.length:=by omega
    have HRR:=HR.out
    rw[List.drop_length,xb2] at HRR
    have HRR:=lH HRR
    go_wp2_with fail
    refine bodyPost_ret (results_tmp2 rfl _ _ _) rfl ⟨_,by rw[HRR.out];rfl,by rw[HRR.out];exact HO.out.itsAt,hbw⟩
 ·have e0:(q != 0)=true:=by simpa using h0
  have HRR:Hid (R=([],q)):=lH (by rw[← hR];unfold xcT;rw[hq,if_pos h0])
  clear h0 hq hR
  go_enter Tryz.func58,Tryz.ntmps58
  go_wp2_with fail
  refine HRO.out.mono ?_
  rintro x w1 ⟨rfl,hb1⟩
  have HB1:=lH hb1
  clear hb1
  go_wp2_with fail
  refine bodyPost_ret (results_tmp2 rfl _ _ _) rfl ⟨_,by rw[HRR.out];rfl,by rw[HRR.out];exact xcu _,HB1.out⟩
theorem xvc {w:World} {B g:Nat} {E T:TypeId} {v:Value} {l:List It} {cs:Array Value} {m:Nat × Nat} (h:xaV w B E v l) (ho:w.heap[g]?=some (.cells cs T m)) (hT:T≠E):v.ownBlock≠some g:=by
 intro e
 rcases h.2 with ⟨rfl,_⟩|⟨g',cap,cur,rfl,_,h2,_⟩
 ·cases e
 ·cases e
  rw[ho] at h2
  cases h2
  exact hT rfl
def xnn (w:World) (g:Nat) (e:En):Prop:=w.heap[g]?=some (.cells (eC e) 74 (0,0))
theorem xnn.lt {w:World} {g:Nat} {e:En} (h:xnn w g e):g<w.heap.size:=(Array.getElem?_eq_some_iff.1 h).1
theorem xnn.at {w:World} {g:Nat} {e:En} (h:xnn w g e):EAt w g e:=by
 unfold xnn eC at h
 refine⟨?_,?_,?_,?_⟩ <;> simp[World.cell?,h]
theorem xnn.below {w w':World} {g:Nat} {e:En} (h:xnn w g e) (hb:Below w.heap.size w w'):xnn w' g e:=(hb.block g h.lt).trans h
theorem xnn.grown {w w':World} {B g:Nat} {v:Value} {l:List It} {e:En} (h:xnn w g e) (ho:xaV w B 67 v l) (hg:w.grownBy w' v.ownBlock):xnn w' g e :=
 (hg.block g h.lt (fun e'=>xvc ho h (by decide) e'.symm)).trans h
theorem xpw (l:List En) (i:Nat) (e:En) (d:ByteArray) (acc:List It) (h:l[i]?=some e):xb2 (l.drop i) d acc (acc.length:Nat)=if xrP e acc.length d.size=0 then xb2 (l.drop (i+1)) d (acc++xg4 e d) ((acc.length:Nat)+e.rn) else ([],xrP e acc.length d.size):=by
 rw[xgX l i e d acc _ h]
 unfold xrP
 by_cases h1:e.rn=0
 ·rw[if_pos h1,if_pos h1];rfl
 rw[if_neg h1,if_neg h1]
 by_cases h2:(d.size:Int)<e.off+e.ln
 ·rw[if_pos h2,if_pos h2];rfl
 rw[if_neg h2,if_neg h2]
 by_cases h3:2048<((acc.length:Nat):Int)+e.rn
 ·rw[if_pos h3,if_pos h3];rfl
 rw[if_neg h3,if_neg h3]
 by_cases h4:65536<e.ln
 ·rw[if_pos h4,if_pos h4];rfl
 rw[if_neg h4,if_neg h4,if_pos rfl]
theorem xxq {e:En} {n d:Nat} (h:xrP e n d=0):e.rn≠0∧e.off+e.ln≤d∧(n:Int)+e.rn≤2048∧e.ln≤65536:=by
 unfold xrP at h
 by_cases h1:e.rn=0
 ·rw[if_pos h1] at h;omega
 rw[if_neg h1] at h
 by_cases h2:(d:Int)<e.off+e.ln
 ·rw[if_pos h2] at h;omega
 rw[if_neg h2] at h
 by_cases h3:2048<(n:Int)+e.rn
 ·rw[if_pos h3] at h;omega
 rw[if_neg h3] at h
 by_cases h4:65536<e.ln
 ·rw[if_pos h4] at h;omega
 exact⟨h1,by omega,by omega,by omega⟩
theorem xqS {l:List En} {d:ByteArray} {C:List It} (hm:xas l) (hr:xa5 l=0) (h:xcT l d=(C,0)):GoodC C:=by
 have hb:xb2 l d [] 0=(C,0):=by unfold xcT at h;rwa[if_neg (by simpa using hr)] at h
 obtain⟨h1,h2,h3⟩:=xfV l d [] 0 C hb
 rw[List.nil_append] at h2
 have hrow:xfk (-1) l=0:=by
  unfold xa5 at hr
  split at hr
  ·omega
  ·exact hr
 rw[h2]
 refine xsi hm hrow h1 ?_
 rcases h3 with rfl|h3
 ·simp
 ·omega
theorem xu1 {C:List It} (h:GoodC C):ofI C=(C,0):=xu5 C C h (List.Perm.refl _)
theorem xnF (v:Value) (l:List En) (d:ByteArray) (w:World) (hv:xaj w v l) (hm:xas l) (hd:d.size≤200000000) :
  Calls Tryz.prog 57 #[v,.string d] w fun e w'=>∃ s',e=.returned (.tuple #[.agg #[s'],.int .i64 (xcT l d).2])∧ChS w' s' (xcT l d).1∧Below w.heap.size w w':=by
 have hba:=xah w (.cells #[.slice none 0 0] 36)
 have HV:=lH (hv.below hba)
 have HRO:=lH (xcR v l _ (hv.below hba) hm)
 have HON:=lH (xbn w (.slice none 0 0) 36)
 have HBA:=lH hba
 have HM:=lH hm
 obtain⟨a0,c0,rfl,hcap,hmx,-⟩:=hv
 have hml:l.length≤9223372036854775807:=by unfold maxLen at hmx;omega
 obtain⟨R,hR⟩:∃ R,xcT l d=R:=⟨_,rfl⟩
 have HRE:=lH hR
 rw[hR]
 obtain⟨q,hq⟩:∃ q,xa5 l=q:=⟨_,rfl⟩
 rw[hq] at HRO
 clear hm hba
 by_cases h0:q=0
 ·have e0:(q != 0)=false:=by simpa using h0
  have HB0:Hid (R=xb2 (l.drop 0) d [] 0):=lH (by rw[← hR];unfold xcT;rw[hq,if_neg (by simpa using h0),List.drop_zero])
  have HQ:=lH (hq.trans h0)
  have HCK:Hid (∀ e ∈ l,ckN e=0):=lH (fun e he=>by
   have hrow:=hq.trans h0
   unfold xa5 at hrow
   split at hrow
   ·omega
   ·exact(xb7 (-1) l HM.out hrow e he).2)
  clear h0 hq hR
  go_enter Tryz.func57,Tryz.ntmps57
  go_wp2_with fail
  generalize hW0:w.alloc (.cells #[.slice none 0 0] 36)=W0 at *
  refine HRO.out.mono ?_
  rintro x w1 ⟨rfl,hb1⟩
  have HB1:=lH (HBA.out.trans (hb1.mono HBA.out.size))
  have HV1:=lH (HV.out.below hb1)
  have HO1:=lH (HON.out.below hb1)
  clear hb1 hW0 HV HON HBA HRO
  go_wp2_with fail
  go_loopw [7,21] (fun o x wr=>∃ (i:Nat) (acc:List It),i≤l.length∧x=.int .i64 i∧acc.length≤2048∧Hid (xaV wr w1.heap.size 67 o acc)∧Hid (R=xb2 (l.drop i) d acc acc.length)∧Hid (One wr w.heap.size (.slice none 0 0))∧Hid (Below w.heap.size w wr∧Below w1.heap.size w1 wr)) (fun _ x _=>l.length - (intOf x).toNat)
  case atStart=>exact⟨0,[],Nat.zero_le _,rfl,by simp,lH (xec _ _ _),HB0,HO1,lH ⟨HB1.out,Below.refl _ _⟩⟩
  case round =>
   obtain⟨i,acc,hi,rfl,hal,HO,HR,HC1,HBW⟩:=hrel
   by_cases hlt:i<l.length
   ·obtain⟨e,he⟩:∃ e,l[i]?=some e:=⟨_,List.getElem?_eq_getElem hlt⟩
    have hme:=HM.out e (List.mem_of_getElem? he)
    have hck:=xhO e (HCK.out e (List.mem_of_getElem? he))
    have hme2:=hme
    unfold xaY at hme2
    have HR2:=lH (HR.out.trans (xpw l i e d acc he))
    obtain⟨g,off,cap,hv2,hle,hg,hc⟩:=xdA HV1.out i hlt
    cases hv2
    obtain⟨k0,k1,k2,k3⟩:=xbP HBW.out.2 (hc i e he)
    obtain⟨a7,c7,rfl⟩:=HO.out.slice
    have hii:(i:Int)<(l.length:Int):=by omega
    have HEB:Hid (xnn (wr.alloc (.cells (eC e) 74)) wr.heap.size e):=lH (xcr wr _)
    have HBX:=lH (xah wr (.cells (eC e) 74))
    have HCH:=lH (fun W=>xnO e acc.length d W hme (by omega) (by omega) (by omega))
    unfold eC at HBX HCH HEB
    have HM2:=lH (And.intro hme2 hck)
    clear hc he hme hme2 hck HR
    by_cases hz:xrP e acc.length d.size=0
    ·have HOK:=lH (xxq hz)
     have HR3:=lH (HR2.out.trans (if_pos hz))
     rw[hz] at HCH
     clear hz HR2
     go_wp2_with fail
     generalize hWx:wr.alloc (.cells #[.int .u64 e.id,.int .u64 e.off,.int .u32 e.ln,.int .u32 e.rn] 74)=Wx at *
     refine(HCH.out _).mono ?_
     rintro x w2 ⟨rfl,hb2⟩
     have HEB2:=lH (HEB.out.below hb2)
     have hbx2:=HBX.out.trans (hb2.mono HBX.out.size)
     have HO2:=lH (HO.out.below hbx2)
     have HC2:=lH (HC1.out.below hbx2)
     have HBW2:=lH (And.intro (HBW.out.1.trans (hbx2.mono HBW.out.1.size)) (HBW.out.2.trans (hbx2.mono HBW.out.2.size)))
     obtain⟨e0,e1,e2,e3⟩:=HEB2.out.at
     obtain⟨o1,o2,o3,o4⟩:=HOK.out
     have hw1:IntKind.u64.wrap e.rn=e.rn:=by have:=HM2.out.1;rw[IntKind.wrap_u64];omega
     have hw3:IntKind.u64.wrap e.ln=e.ln:=by have:=HM2.out.1;rw[IntKind.wrap_u64];omega
     have hw4:IntKind.u64.wrap (e.off+e.ln)=e.off+e.ln:=by have:=HM2.out.1;rw[IntKind.wrap_u64];omega
     have hs1:(0:Int)≤e.off:=HM2.out.1.2.1.1
     have hs2:e.off≤e.off+e.ln:=by have:=HM2.out.1;omega
     have hs3:e.off+e.ln≤(d.size:Int):=o2
     have HRN:=lH o3
     clear hb2 hbx2 hWx HEB HBX HO HC1 HBW HCH k0 k1 k2 k3 o1 o3 o4 o2
     go_wp2_with fail
     have HTX:Hid (d.extract e.off.toNat (e.off+e.ln).toNat=txN e d):=lH (by have:=HM2.out.1;unfold txN;rw[show (e.off+e.ln).toNat=e.off.toNat+e.ln.toNat by omega])
     rw[HTX.out]
     have HRL:=lH (xhD e d)
     have HRT:=lH (xuM e d)
     clear e0 e1 e2 e3 hs1 hs2 hs3
     generalize txN e d=tx at *
     generalize xg4 e d=rl at *
     go_loopw [7,47] (fun o x wy=>∃ j:Nat,(j:Int)≤e.rn∧x=.int .u64 j∧Hid (xaV wy w1.heap.size 67 o (acc++rl.take j))∧Hid (xnn wy wr.heap.size e)∧Hid (One wy w.heap.size (.slice none 0 0))∧Hid (Below w.heap.size w wy∧Below w1.heap.size w1 wy)) (fun _ x _=>e.rn.toNat - (intOf x).toNat)
     case atStart=>exact⟨0,by have:=HM2.out.1;omega,rfl,lH (by rw[List.take_zero,List.append_nil];exact HO2.out),HEB2,HC2,HBW2⟩
     case round =>
      obtain⟨j,hj,rfl,HOJ,HEJ,HCJ,HBJ⟩:=hrel
      obtain⟨k0,k1,k2,k3⟩:=HEJ.out.at
      by_cases hjl:(j:Int)<e.rn
      ·have htake:=xcL rl j _ (HRT.out j hjl)
       have hid:e.id+(j:Int)=((e.id.toNat+j:Nat):Int):=by have:=HM2.out.1;omega
       have hw6:IntKind.u64.wrap (e.id+(j:Int))=e.id+(j:Int):=by have:=HM2.out;rw[IntKind.wrap_u64];omega
       have hw7:IntKind.u64.wrap ((j:Int)+1)=(j:Int)+1:=by have:=HM2.out.1;rw[IntKind.wrap_u64];omega
       have hx:=xot wr (e.id+(j:Int)) _ hid tx 67
       have hba:Below wr.heap.size wr (wr.alloc (.cells #[.int .u64 (e.id+(j:Int)),.string tx] 67)):=xah _ _
       obtain⟨v5,w5,hr5,ho5,hg5⟩:=xcp (wr.alloc (.cells #[.int .u64 (e.id+(j:Int)),.string tx] 67)) w1.heap.size 34 67 34 _ Tryz.underlying34 xeB rfl u7 (.slice (some ⟨wr.heap.size,0,none⟩) 1 1) (acc++rl.take j) [(e.id.toNat+j,tx)] (HOJ.out.below hba) hx (by have:=HRN.out;rw[List.length_append,List.length_take];simp;omega) (Nat.le_trans HBJ.out.2.size hba.size)
       rw[List.append_assoc,← htake] at ho5
       have HO5:=lH ho5
       have hb5:Below w1.heap.size w1 w5:=(HBJ.out.2.trans (hba.mono HBJ.out.2.size)).grown hg5 (Nat.le_trans HBJ.out.2.size hba.size) (fun q hq=>(HOJ.out.lt q hq).1)
       have HB5:Hid (Below w.heap.size w w5∧Below w1.heap.size w1 w5):=lH ⟨HB1.out.trans (hb5.mono HB1.out.size),hb5⟩
       have HE5:=lH ((HEJ.out.below hba).grown (HOJ.out.below hba) hg5)
       have HC5:=lH ((HCJ.out.below hba).grown (HOJ.out.below hba) hg5)
       clear ho5 hg5 hx hba hid htake hb5
       go_wp2_with (first|(at_builtin;refine Lib.wpList_append_run _ rfl _ _ _ _ rfl _ _ rfl rfl _ _ hr5 ?_)|fail)
       go_roundw
       case rel=>exact⟨j+1,by omega,by go_num,HO5,HE5,HC5,HB5⟩
       case measure=>simp[intOf];omega
      ·have hje:(j:Int)=e.rn:=by omega
       have hjn:j=e.rn.toNat:=by omega
       have hfull:rl.take j=rl:=List.take_of_length_le (by rw[HRL.out];omega)
       have HOF:=HOJ.out
       rw[hfull] at HOF
       have HOF:=lH HOF
       have hall:(acc++rl).length=acc.length+e.rn.toNat:=by rw[List.length_append,HRL.out]
       have HRR:Hid (R=xb2 (l.drop (i+1)) d (acc++rl) (((acc++rl).length:Nat):Int)):=lH (by rw[hall,show ((acc.length+e.rn.toNat:Nat):Int)=((acc.length:Nat):Int)+e.rn by omega];exact HR3.out)
       have HAL:Hid ((acc++rl).length≤2048):=lH (by have:=HRN.out;rw[hall];omega)
       clear hfull hje hjn hall
       go_wp2_with fail
       go_roundw
       case rel=>exact⟨i+1,acc++rl,by omega,by go_num,HAL.out,HOF,HRR,HCJ,HBJ⟩
       case measure=>simp[intOf];omega
    ·have HR3:=lH (HR2.out.trans (if_neg hz))
     obtain⟨z,hzz⟩:∃ z,xrP e acc.length d.size=z:=⟨_,rfl⟩
     rw[hzz] at hz HR3 HCH
     have hzn:(z != 0)=true:=by simpa using hz
     clear hz HR2 hzz
     go_wp2_with fail
     generalize hWx:wr.alloc (.cells #[.int .u64 e.id,.int .u64 e.off,.int .u32 e.ln,.int .u32 e.rn] 74)=Wx at *
     refine(HCH.out _).mono ?_
     rintro x w2 ⟨rfl,hb2⟩
     have hbx2:=HBX.out.trans (hb2.mono HBX.out.size)
     have HC2:=lH (HC1.out.below hbx2)
     have HBW2:=lH (HBW.out.1.trans (hbx2.mono HBW.out.1.size))
     have rr:=HC2.out.cell
     have rf:=HC2.out.frz
     clear hb2 hbx2 hWx HEB HBX HO HC1 HBW HCH k0 k1 k2 k3
     go_wp2_with fail
     refine bodyPost_ret (xbv rfl _ _ w.heap.size _ _ _ rfl rfl (HC2.out.set _).cell Tryz.underlying36 rfl xbw) rfl ⟨_,by rw[HR3.out];rfl,?_,HBW2.out.setCell (p:=⟨w.heap.size,0,none⟩) (Nat.le_refl _) _⟩
     rw[HR3.out]
     exact xhF _
   ·obtain rfl:i=l.length:=by omega
    have HRR:=HR.out
    rw[List.drop_length,xb2] at HRR
    have HG:=xqS HM.out HQ.out (HRE.out.trans HRR)
    have hof:=xu1 HG
    have HRR:=lH HRR
    have hOF:=xri u7 acc wr HO.out.itsAt (by omega) (fun t ht=>by have:=HG.low t ht;omega) (fun t ht=>by have:=HG.short t ht;unfold maxLen;omega)
    rw[hof] at hOF
    have HOF:=lH hOF
    obtain⟨a7,c7,rfl⟩:=HO.out.slice
    clear hOF hof HG
    go_wp2_with fail
    refine HOF.out.mono ?_
    rintro x w3 ⟨s',rfl,hch,hb3⟩
    obtain⟨a9,n9,c9,rfl⟩:=hch.form
    have HC3:=lH (HC1.out.below hb3)
    have HCH3:=lH hch
    have HB3:=lH (HBW.out.1.trans (hb3.mono HBW.out.1.size))
    have rr:=HC3.out.cell
    have rf:=HC3.out.frz
    clear hch hb3 HC1 HBW HOF
    go_wp2_with fail
    refine bodyPost_ret (xbv rfl _ _ w.heap.size _ _ _ rfl rfl (HC3.out.set _).cell Tryz.underlying36 rfl xbw) rfl ⟨_,by rw[HRR.out];rfl,?_,HB3.out.setCell (p:=⟨w.heap.size,0,none⟩) (Nat.le_refl _) _⟩
    rw[HRR.out]
    exact HCH3.out.set HC3.out _
 ·have e0:(q != 0)=true:=by simpa using h0
  have HRR:Hid (R=([],q)):=lH (by rw[← hR];unfold xcT;rw[hq,if_pos h0])
  clear h0 hq hR
  go_enter Tryz.func57,Tryz.ntmps57
  go_wp2_with fail
  generalize hW0:w.alloc (.cells #[.slice none 0 0] 36)=W0 at *
  refine HRO.out.mono ?_
  rintro x w1 ⟨rfl,hb1⟩
  have HB1:=lH (HBA.out.trans (hb1.mono HBA.out.size))
  have HO1:=lH (HON.out.below hb1)
  have rr:=HO1.out.cell
  have rf:=HO1.out.frz
  clear hb1 hW0 HV HON HBA HRO
  go_wp2_with fail
  refine bodyPost_ret (xbv rfl _ _ w.heap.size _ _ _ rfl rfl (HO1.out.set _).cell Tryz.underlying36 rfl xbw) rfl ⟨_,by rw[HRR.out];rfl,?_,HB1.out.setCell (p:=⟨w.heap.size,0,none⟩) (Nat.le_refl _) _⟩
  rw[HRR.out]
  exact xhF _
set_option maxRecDepth 20000 in
theorem xsH (e:En) (q:Int) (w:World) (hm:xaY e):Calls Tryz.prog 35 #[.agg (eC e),.int .u64 q] w fun x w'=>x=.returned (.bool (xic e q))∧Below w.heap.size w w':=by
 have HL:=lH (fun W=>xga e W hm)
 have HC:=lH (fun W=>xdn e W hm)
 have HP:=lH (fun W=>xhI e W)
 have H0:=EAt.made w e 74
 have HB:Below w.heap.size w (w.alloc (.cells (eC e) 74)):=(Below.refl _ _).alloc (Nat.le_refl _) _
 have hz:Hid (0≤e.rn):=lH hm.2.2.2.1
 obtain⟨r,hr⟩:∃ r,ckN e=r:=⟨_,rfl⟩
 obtain⟨la,hla⟩:∃ la,laN e=la:=⟨_,rfl⟩
 have hh:Hid ((decide (r=0) && (decide (0<e.rn) && (decide (e.id≤q) && decide (q≤la))))=xic e q):=lH (by unfold xic;rw[hr,hla])
 obtain⟨b,hb⟩:∃ b,xic e q=b:=⟨_,rfl⟩
 rw[hb] at hh ⊢
 rw[hr] at HC
 rw[hla] at HL
 clear hb hr hla hm
 unfold eC at HB HC HL HP ⊢
 obtain⟨c0,c1,c2,c3⟩:=H0
 unfold eC at c0 c1 c2 c3
 by_cases h0:r=0
 ·subst h0
  by_cases h1:e.rn=0
  ·have d1:decide (0<e.rn)=false:=by simp;omega
   have d0:decide (e.rn=0)=true:=by simpa using h1
   rw[d0] at HP
   clear h1 d0
   go_enter Tryz.func35,Tryz.ntmps35
   go_wp2_with fail
   refine(HC.out _).mono ?_
   rintro x w1 ⟨rfl,hb⟩
   obtain⟨⟨k0,k1,k2,k3⟩,hU⟩:=xa6 hb ⟨⟨c0,c1,c2,c3⟩,HB⟩
   have HU:=lH hU
   clear hb c0 c1 c2 c3 HB hU
   go_wp2_with fail
   refine(HP.out _).mono ?_
   rintro x w2 ⟨rfl,hb⟩
   obtain⟨⟨c0,c1,c2,c3⟩,hU⟩:=xa6 hb ⟨⟨k0,k1,k2,k3⟩,HU.out⟩
   have HU2:=lH hU
   clear hb k0 k1 k2 k3 HU hU
   go_wp2_with fail
   go_ret
   exact⟨xfj (by rw[← hh.out,d1];simp),HU2.out⟩
  ·have d1:decide (0<e.rn)=true:=by have:=hz.out;simp;omega
   have d0:decide (e.rn=0)=false:=by simpa using h1
   rw[d0] at HP
   clear h1 d0
   by_cases h2:e.id≤q
   ·have d2:decide (e.id≤q)=true:=by simpa using h2
    clear h2
    go_enter Tryz.func35,Tryz.ntmps35
    go_wp2_with fail
    refine(HC.out _).mono ?_
    rintro x w1 ⟨rfl,hb⟩
    obtain⟨⟨k0,k1,k2,k3⟩,hU⟩:=xa6 hb ⟨⟨c0,c1,c2,c3⟩,HB⟩
    have HU:=lH hU
    clear hb c0 c1 c2 c3 HB hU
    go_wp2_with fail
    refine(HP.out _).mono ?_
    rintro x w2 ⟨rfl,hb⟩
    obtain⟨⟨c0,c1,c2,c3⟩,hU⟩:=xa6 hb ⟨⟨k0,k1,k2,k3⟩,HU.out⟩
    have HU2:=lH hU
    clear hb k0 k1 k2 k3 HU hU
    go_wp2_with fail
    refine(HL.out _).mono ?_
    rintro x w3 ⟨rfl,hb⟩
    have HU3:=lH (HU2.out.trans (hb.mono HU2.out.size))
    clear hb c0 c1 c2 c3
    go_wp2_with fail
    go_ret
    exact⟨xfj (by rw[← hh.out,d1,d2];simp),HU3.out⟩
   ·have d2:decide (e.id≤q)=false:=by simpa using h2
    clear h2
    go_enter Tryz.func35,Tryz.ntmps35
    go_wp2_with fail
    refine(HC.out _).mono ?_
    rintro x w1 ⟨rfl,hb⟩
    obtain⟨⟨k0,k1,k2,k3⟩,hU⟩:=xa6 hb ⟨⟨c0,c1,c2,c3⟩,HB⟩
    have HU:=lH hU
    clear hb c0 c1 c2 c3 HB hU
    go_wp2_with fail
    refine(HP.out _).mono ?_
    rintro x w2 ⟨rfl,hb⟩
    obtain⟨⟨c0,c1,c2,c3⟩,hU⟩:=xa6 hb ⟨⟨k0,k1,k2,k3⟩,HU.out⟩
    have HU2:=lH hU
    clear hb k0 k1 k2 k3 HU hU
    go_wp2_with fail
    go_ret
    exact⟨xfj (by rw[← hh.out,d1,d2];simp),HU2.out⟩
 ·have hne:(r == 0)=false:=by simpa using h0
  have hne2:decide (r=0)=false:=by simpa using h0
  clear h0
  go_enter Tryz.func35,Tryz.ntmps35
  go_wp2_with fail
  refine(HC.out _).mono ?_
  rintro x w1 ⟨rfl,hb⟩
  obtain⟨⟨k0,k1,k2,k3⟩,hU⟩:=xa6 hb ⟨⟨c0,c1,c2,c3⟩,HB⟩
  have HU:=lH hU
  clear hb c0 c1 c2 c3 HB hU
  go_wp2_with fail
  go_ret
  exact⟨xfj (by rw[← hh.out,hne2];simp),HU.out⟩
theorem xtd (s b:Nat) (hs:s<18446744073709551616) (hb:b<256) (w:World) :
  Calls Tryz.prog 339 #[.int .u64 s,.int .u8 b] w fun e w'=>e=.returned (.int .u64 (xvx s b))∧w'=w:=by
 have h1:=bits_xor_u64_nat s b hs (by omega)
 have h2:=xyc s b hs (by omega)
 have hw:IntKind.u64.wrap (b:Int)=(b:Int):=by rw[IntKind.wrap_u64];omega
 go_enter Tryz.func339,Tryz.ntmps339
 go_wp2
 go_ret
 refine⟨xal ?_,rfl⟩
 rw[IntKind.wrap_u64]
 unfold xvx
 generalize (s ^^^ b)=y
 omega
theorem xpC (s:ByteArray) (k:Nat) (h:k<s.size):s.data.toList.take (k+1)=s.data.toList.take k++[s[k]]:=by
 rw[List.take_succ_eq_append_getElem (by simpa using h)];rfl
theorem xt5 (x:Nat) (s:ByteArray) (k:Nat) (h:k<s.size):xgL x (s.data.toList.take (k+1))=xvx (xgL x (s.data.toList.take k)) s[k].toNat:=by
 rw[xpC s k h,xqI]
theorem xqg (x:Nat) (s:ByteArray):xgL x (s.data.toList.take s.size)=xgL x s.data.toList:=by
 rw[List.take_of_length_le (by simp)]
theorem xx9 (x0:Nat) (hx0:x0<18446744073709551616) (s:ByteArray) (hs:s.size≤maxLen) (w:World) :
  Calls Tryz.prog 340 #[.agg #[.int .u64 x0,.func (.func 339) #[] #[]],.string s] w fun e w'=>e=.returned (.int .u64 (xgL x0 s.data.toList))∧Below w.heap.size w w':=by
 have hs':=hs
 unfold maxLen at hs
 go_enter Tryz.func340,Tryz.ntmps340
 go_wp2
 go_loopw [5,11] (fun x i wr=>∃ k:Nat,k≤s.size∧i=.int .i64 k∧x=.int .u64 (xgL x0 (s.data.toList.take k):Nat)∧wr.cell? ⟨w.heap.size,1,none⟩=some (.func (.func 339) #[] #[])∧w.heap.size<wr.heap.size∧Below w.heap.size w wr) (fun _ i _=>s.size - (intOf i).toNat)
 case atStart=>exact⟨0,Nat.zero_le _,rfl,by rw[List.take_zero,xln],by simp[go_sem],by simp,Below.alloc (Below.refl _ _) (Nat.le_refl _) _⟩
 case round =>
  obtain⟨k,hk,rfl,rfl,hc,hz,hbw⟩:=hrel
  by_cases hlt:k<s.size
  ·have HS:=lH (xt5 x0 s k hlt)
   have hx:=xq2 (s.data.toList.take k) x0 hx0
   have hb:s[k].toNat<256:=s[k].toNat_lt
   generalize xgL x0 (s.data.toList.take k)=x at *
   have HA:=lH (xtd x s[k].toNat hx hb)
   go_wp2_with fail
   go_quiet ((go_at_call 339;(with_reducible refine Calls.quiet_of_same (HA.out _))))
   have hd:Below w.heap.size w (wr.drewN nq):=hbw.trans ⟨rfl,rfl,rfl,Nat.le_refl _,fun _ _=>rfl⟩
   have hc':(wr.drewN nq).cell? ⟨w.heap.size,1,none⟩=some (.func (.func 339) #[] #[]):=hc
   have hz':w.heap.size<(wr.drewN nq).heap.size:=hz
   clear hc hz hbw HA
   generalize wr.drewN nq=wn at *
   go_wp2_with fail
   go_roundw
   case rel=>exact⟨k+1,by omega,by go_num,by rw[HS.out],hc',hz',hd⟩
   case measure=>simp[intOf];omega
  ·obtain rfl:k=s.size:=by omega
   have HW:=lH (xqg x0 s)
   generalize xgL x0 (s.data.toList.take s.size)=x at *
   go_wp2
   go_ret
   exact⟨xal (by rw[HW.out]),hbw⟩
theorem xvt (s:ByteArray) (hs:s.size≤maxLen) (w:World) :
  Calls Tryz.prog 310 #[.string s] w fun e w'=>e=.returned (.int .u64 (xgL fSt s.data.toList))∧Below w.heap.size w w':=by
 have HO:=lH (fun W=>xx9 fSt (by decide) s hs W)
 have he:((fSt:Nat):Int)=14695981039346656037:=rfl
 rw[he] at HO
 clear he
 go_enter Tryz.func310,Tryz.ntmps310
 go_wp2_with fail
 refine(HO.out _).mono ?_
 rintro y w1 ⟨rfl,hb⟩
 have HB:=lH hb
 clear hb
 go_wp2_with fail
 go_ret
 exact⟨rfl,HB.out⟩
theorem xrB (x:Nat) (n:Int) (h1:1≤n):0≤(x:Int) % n∧(x:Int) % n<n:=⟨Int.emod_nonneg _ (by omega),Int.emod_lt_of_pos _ (by omega)⟩
theorem xmJ (s:ByteArray) (hs:s.size≤maxLen) (n:Int) (n0:-9223372036854775808≤n) (n1:n≤9223372036854775807) (w:World) :
  Calls Tryz.prog 270 #[.string s,.int .i64 n] w fun e w'=>e=.returned (.int .i64 (xwm (xgL fSt s.data.toList) n))∧Below w.heap.size w w':=by
 have HS:=lH (fun W=>xvt s hs W)
 have hx:=xq2 s.data.toList fSt (by decide)
 generalize xgL fSt s.data.toList=x at *
 by_cases h1:n<1
 ·have HB:=lH (show xwm x n=0 by unfold xwm;rw[if_pos h1])
  go_enter Tryz.func270,Tryz.ntmps270
  go_wp2_with fail
  go_ret
  exact⟨xal HB.out.symm,Below.refl _ _⟩
 ·have HB:=lH (show xwm x n=(x:Int) % n by unfold xwm;rw[if_neg h1])
  have HQ:=lH (xrB x n (by omega))
  have hw:IntKind.u64.wrap n=n:=by rw[IntKind.wrap_u64];omega
  have hn:¬ n=0:=by omega
  go_enter Tryz.func270,Tryz.ntmps270
  go_wp2_with fail
  refine(HS.out _).mono ?_
  rintro y w1 ⟨rfl,hb⟩
  have HBl:=lH hb
  clear hb HS
  go_wp2_with fail
  go_ret
  exact⟨xal (by rw[HB.out];have:=HQ.out;unfold wrap64;omega),HBl.out⟩
theorem xxa (s:ByteArray) (t:Kt) (w:World):Calls Tryz.prog 271 #[.string s,.agg #[.int .u64 t.1,.int .u32 t.2.size,.string t.2]] w fun e w'=>e=.returned (.bool (decide (t.2=s)))∧Below w.heap.size w w':=by
 by_cases h:t.2=s
 ·have hd:=xcd h
  rw[decide_eq_true h]
  go_enter Tryz.func271,Tryz.ntmps271
  go_wp2_with fail
  go_ret
  exact⟨rfl,by go_grown⟩
 ·have hd:=xhl h
  rw[decide_eq_false h]
  go_enter Tryz.func271,Tryz.ntmps271
  go_wp2_with fail
  go_ret
  exact⟨rfl,by go_grown⟩
theorem xfa (s:ByteArray) (hs:s.size≤maxLen) (w:World):Calls Tryz.prog 206 #[.string s] w fun e w'=>e=.returned (.int .i64 (bkt s))∧Below w.heap.size w w':=by
 have HB:=lH (fun W=>xmJ s hs 2048 (by omega) (by omega) W)
 go_enter Tryz.func206,Tryz.ntmps206
 go_wp2_with fail
 refine(HB.out _).mono ?_
 rintro e w1 ⟨rfl,hb⟩
 have HBl:=lH hb
 clear hb
 go_wp2_with fail
 go_ret
 exact⟨rfl,HBl.out⟩
theorem xlr {s:ByteArray} (h:¬ s.size=0):s.toList.isEmpty=false:=by
 rw[ByteArray.toList_eq,List.isEmpty_eq_false_iff]
 intro e
 apply h
 show s.data.size=0
 rw[← Array.length_toList,e];rfl
end Go.Proofs.YtjinnigjfopbcaaGreatDoor
namespace Go.Proofs.YtjinnigjfopbcaaGreatDoor
set_option linter.unusedVariables false
set_option linter.unusedSimpArgs false
open Go.Maps
set_option maxRecDepth 20000
def klS (s:ByteArray):Lit:=.string s.data.toList
theorem xoz {s t:ByteArray} (h:klS s=klS t):s=t:=by
 unfold klS at h
 injection h with h
 have:=Array.toList_inj.1 h
 cases s;cases t;cases this;rfl
theorem xko (s:ByteArray):WideAt.IsKeyLit (klS s):=trivial
def numS (s:ByteArray):List ByteArray→Nat
 | []=>0
 | t :: l=>(if t=s then 1 else 0)+numS s l
theorem xgo (s:ByteArray) (a b:List ByteArray):numS s (a++b)=numS s a+numS s b:=by
 induction a with
 | nil=>simp[numS]
 | cons t a ih=>rw[List.cons_append,numS,numS,ih];omega
structure Tal (D:DataW Unit) (xs:List ByteArray):Prop where
 tidy:Tidy D
 size:Maps.size D=unl xs
 has:∀ s,Maps.has D (klS s)=true↔s ∈ xs
 num:∀ s,D.atKey (klS s) (.lit (.int .i64 0))=.lit (.int .i64 (numS s xs:Nat))
theorem Tal.put {D:DataW Unit} {xs:List ByteArray} (h:Tal D xs) (s:ByteArray):Tal (D.put (klS s) (.lit (.int .i64 ((numS s xs:Nat)+1)))) (xs++[s]):=by
 refine⟨h.tidy.put (xko s) _,?_,fun t=>?_,fun t=>?_⟩
 ·rw[size_put h.tidy,h.size,xlS]
  by_cases hm:s ∈ xs
  ·rw[if_pos hm,if_pos ((h.has s).2 hm)]
  ·rw[if_neg hm,if_neg (fun f=>hm ((h.has s).1 f))]
 ·by_cases e:t=s
  ·subst e
   rw[has_put_same h.tidy.isMap (xko t)]
   simp
  ·rw[has_put_other (fun f=>e (xoz f)),h.has]
   simp[e]
 ·by_cases e:t=s
  ·subst e
   rw[atKey_put_same h.tidy.isMap (xko t),xgo]
   simp[numS]
  ·have e':¬ s=t:=fun f=>e f.symm
   rw[atKey_put_other (fun f=>e (xoz f)),h.num,xgo]
   simp[numS,e']
end Go.Proofs.YtjinnigjfopbcaaGreatDoor
