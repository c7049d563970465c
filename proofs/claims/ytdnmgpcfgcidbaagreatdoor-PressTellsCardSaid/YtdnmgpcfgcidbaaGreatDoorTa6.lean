/- aHa aHb aHd aHc aHe aHf aHi aLf. -/
import Derived.Test.YtdnmgpcfgcidbaaGreatDoorTa5
import Derived.Deep.RegionLawGrows
import Derived.Test.YtdnmgpcfgcidbaaGreatDoorRc
import Derived.Lib.AppendZerosOnto
import Derived.Lib.Overlaps
import Derived.Laws.CopyOwn
namespace Go.Proofs.YtdnmgpcfgcidbaaGreatDoor
set_option linter.unusedVariables false
set_option linter.unusedSimpArgs false
open Go.RowKit
set_option maxRecDepth 20000
theorem nan_anyC (x:Int) (w:World):Calls Tryz.prog 228 #[.int .u64 x] w fun e w'=>e=.returned (.bool false)∧w'=w:=by
 go_enter Tryz.func228,Tryz.ntmps228
 go_wp2
 go_ret
 exact⟨rfl,rfl⟩
def cmpIC (x y:Int):Int:=if x<y then -1 else if x > y then 1 else 0
set_option maxHeartbeats 1000000 in
theorem compare_anyC (x y:Int) (w:World):Calls Tryz.prog 192 #[.int .u64 x,.int .u64 y] w fun e w'=>e=.returned (.int .i64 (cmpIC x y))∧w'=w:=by
 have HN:=Lib.hid (fun a W=>nan_anyC a W)
 unfold cmpIC
 by_cases h:x<y
 ·rw[if_pos h]
  go_enter Tryz.func192,Tryz.ntmps192
  go_wp2_with fail
  refine(HN.out _ _).mono ?_
  rintro e w1 ⟨rfl,rfl⟩
  go_wp2_with fail
  refine(HN.out _ _).mono ?_
  rintro e w1 ⟨rfl,rfl⟩
  go_wp2_with fail
  go_ret
  exact⟨rfl,rfl⟩
 ·rw[if_neg h]
  by_cases h2:x > y
  ·rw[if_pos h2]
   go_enter Tryz.func192,Tryz.ntmps192
   go_wp2_with fail
   refine(HN.out _ _).mono ?_
   rintro e w1 ⟨rfl,rfl⟩
   go_wp2_with fail
   refine(HN.out _ _).mono ?_
   rintro e w1 ⟨rfl,rfl⟩
   go_wp2_with fail
   go_ret
   exact⟨rfl,rfl⟩
  ·rw[if_neg h2]
   go_enter Tryz.func192,Tryz.ntmps192
   go_wp2_with fail
   refine(HN.out _ _).mono ?_
   rintro e w1 ⟨rfl,rfl⟩
   go_wp2_with fail
   refine(HN.out _ _).mono ?_
   rintro e w1 ⟨rfl,rfl⟩
   go_wp2_with fail
   go_ret
   exact⟨rfl,rfl⟩
theorem cmpI_ltC (x y:Int):decide (cmpIC x y<0)=decide (x<y):=by
 unfold cmpIC
 by_cases h:x<y
 ·simp[h]
 ·by_cases h2:x > y <;> simp[h,h2]
theorem cmpI_eqC (x y:Int):decide (cmpIC x y=0)=decide (x=y):=by
 unfold cmpIC
 by_cases h:x<y
 ·simp[h];omega
 ·by_cases h2:x > y
  ·simp[h,h2];omega
  ·simp[h,h2];omega
theorem against_anyC (t:It) (y:Nat) (w:World):Calls Tryz.prog 128 #[.agg #[.int .u64 t.1,.string t.2],.int .u64 y] w fun e w'=>e=.returned (.int .i64 (cmpIC t.1 y))∧Below w.heap.size w w':=by
 have HC:=Lib.hid (fun W=>compare_anyC t.1 y W)
 go_enter Tryz.func128,Tryz.ntmps128
 go_wp2_with fail
 refine(HC.out _).mono ?_
 rintro e w1 ⟨rfl,rfl⟩
 go_wp2_with fail
 go_ret
 exact⟨rfl,by go_grown⟩
def loC (id:Nat) (l:List It):Nat:=(lowI id l).length
theorem loC_le (id:Nat) (l:List It):loC id l≤l.length:=low_le id l
theorem high_at {id:Nat} {l:List It} (hr:Rise l) (d:Nat) (t:It) (h:l[d]?=some t):t.1<id↔d<loC id l:=by
 constructor
 ·intro ht
  rcases Nat.lt_or_ge d (loC id l) with h1|h1
  ·exact h1
  ·exfalso
   have h2:(highI id l)[d - loC id l]?=some t:=by
    rw[← low_drop id l,List.getElem?_drop]
    show l[loC id l+(d - loC id l)]?=some t
    rw[Nat.add_sub_cancel' h1]
    exact h
   have:=high_ge hr t (List.mem_of_getElem? h2)
   omega
 ·intro hd
  obtain⟨u,hu,hlt⟩:=low_at id l d hd
  rw[h] at hu
  cases hu
  exact hlt
theorem isC {id:Nat} {l:List It} (hr:Rise l):(getI id l).isSome=decide (∃ t,l[loC id l]?=some t∧t.1=id):=by
 rw[Bool.eq_iff_iff,getI_some,decide_eq_true_iff]
 constructor
 ·rintro⟨t,ht,he⟩
  obtain⟨d,hd⟩:=List.mem_iff_getElem?.1 ht
  have h1:=(high_at (id:=id) hr d t hd)
  have h2:¬ d<loC id l:=fun h=>by have:=h1.2 h;omega
  rcases Nat.lt_or_ge (loC id l) d with h3|h3
  ·exfalso
   obtain⟨u,hu⟩:∃ u,l[loC id l]?=some u:=⟨_,List.getElem?_eq_getElem (by have:=(List.getElem?_eq_some_iff.1 hd).1;omega)⟩
   have h4:=low_end id l u hu
   have h5:u.1<t.1:=by
    obtain⟨a1,rfl⟩:=List.getElem?_eq_some_iff.1 hu
    obtain⟨a2,rfl⟩:=List.getElem?_eq_some_iff.1 hd
    exact List.pairwise_iff_getElem.1 hr _ _ a1 a2 h3
   omega
  ·have:d=loC id l:=by omega
   subst this
   exact⟨t,hd,he⟩
 ·rintro⟨t,ht,he⟩
  exact⟨t,List.mem_of_getElem? ht,he⟩
theorem del_no {id:Nat} {l:List It} (h:(getI id l).isSome=false):delI id l=l:=by
 unfold delI
 rw[List.filter_eq_self]
 intro u hu
 have hn:getI id l=none:=by cases hg:getI id l with|none=>rfl|some x=>rw[hg] at h;cases h
 have:=(getI_none id l).1 hn u hu
 simpa using this
theorem del_yes {id:Nat} {l:List It} (hr:Rise l) (t:It) (h:l[loC id l]?=some t) (he:t.1=id):delI id l=l.take (loC id l)++l.drop (loC id l+1):=by
 apply rise_ext (del_rise hr)
 ·have e:(l.take (loC id l)++l.drop (loC id l+1)).Sublist l:=by
   conv=>rhs;rw[← List.take_append_drop (loC id l) l]
   refine List.Sublist.append (List.Sublist.refl _) ?_
   rw[idrop_at l _ t h]
   exact List.sublist_cons_self _ _
  exact List.Pairwise.sublist e hr
 ·intro u
  have hl:u ∈ l↔u ∈ l.take (loC id l)∨u=t∨u ∈ l.drop (loC id l+1):=by
   conv=>lhs;rw[← List.take_append_drop (loC id l) l,idrop_at l _ t h]
   rw[List.mem_append,List.mem_cons]
  rw[mem_del,hl,List.mem_append]
  have hlt:∀ u ∈ l.take (loC id l),u.1<id:=by
   intro u hu
   have:u ∈ lowI id l:=by
    have e:=low_take id l
    unfold loC at hu
    rwa[e] at hu
   exact mem_low this
  have hgt:∀ u ∈ l.drop (loC id l+1),id<u.1:=by
   intro u hu
   obtain⟨j,hj⟩:=List.mem_iff_getElem?.1 hu
   rw[List.getElem?_drop] at hj
   obtain⟨a1,e1⟩:=List.getElem?_eq_some_iff.1 h
   obtain⟨a2,e2⟩:=List.getElem?_eq_some_iff.1 hj
   have:=List.pairwise_iff_getElem.1 hr _ _ a1 a2 (by omega)
   rw[e1,e2] at this
   omega
  constructor
  ·rintro⟨h1|h1|h1,h2⟩
   ·exact .inl h1
   ·subst h1;exact absurd he h2
   ·exact .inr h1
  ·rintro(h1|h1)
   ·exact⟨.inl h1,by have:=hlt u h1;omega⟩
   ·exact⟨.inr (.inr h1),by have:=hgt u h1;omega⟩
theorem put_no {id:Nat} {s:ByteArray} {l:List It} (h:(getI id l).isSome=false):putI id s l=l.take (loC id l)++(id,s) :: l.drop (loC id l):=by
 unfold putI
 rw[del_no h]
 unfold loC
 rw[low_take,low_drop]
theorem put_yes {id:Nat} {s:ByteArray} {l:List It} (hr:Rise l) (t:It) (h:l[loC id l]?=some t) (he:t.1=id):putI id s l=l.take (loC id l)++(id,s) :: l.drop (loC id l+1):=by
 apply rise_ext (put_rise id s hr)
 ·have hd:Rise (l.take (loC id l)++l.drop (loC id l+1)):=by rw[← del_yes hr t h he];exact del_rise hr
  have hlt:∀ u ∈ l.take (loC id l),u.1<id:=by
   intro u hu
   have:u ∈ lowI id l:=by
    have e:=low_take id l
    unfold loC at hu
    rwa[e] at hu
   exact mem_low this
  have hgt:∀ u ∈ l.drop (loC id l+1),id<u.1:=by
   intro u hu
   obtain⟨j,hj⟩:=List.mem_iff_getElem?.1 hu
   rw[List.getElem?_drop] at hj
   obtain⟨a1,e1⟩:=List.getElem?_eq_some_iff.1 h
   obtain⟨a2,e2⟩:=List.getElem?_eq_some_iff.1 hj
   have:=List.pairwise_iff_getElem.1 hr _ _ a1 a2 (by omega)
   rw[e1,e2] at this
   omega
  unfold Rise at hd ⊢
  rw[List.pairwise_append] at hd ⊢
  rw[List.pairwise_cons]
  refine⟨hd.1,⟨fun u hu=>hgt u hu,hd.2.1⟩,fun a ha b hb=>?_⟩
  rcases List.mem_cons.1 hb with rfl|hb
  ·exact hlt a ha
  ·exact hd.2.2 a ha b hb
 ·intro u
  rw[mem_put,← mem_del,del_yes hr t h he,List.mem_append,List.mem_append,List.mem_cons]
  constructor
  ·rintro(h1|h1|h1)
   ·exact .inr (.inl h1)
   ·exact .inl h1
   ·exact .inr (.inr h1)
  ·rintro(h1|h1|h1)
   ·exact .inr (.inl h1)
   ·exact .inl h1
   ·exact .inr (.inr h1)
set_option maxHeartbeats 1000000 in
theorem bin_anyC (v:Value) (l:List It) (id:Nat) (w:World) (hr:Rise l) (hv:ItsAt w v l) (hl:l.length≤100000):Calls Tryz.prog 127 #[v,.int .u64 id,.func (.func 128) #[] #[]] w fun x w'=>x=.returned (.tuple #[.int .i64 (loC id l:Nat),.bool (getI id l).isSome])∧Below w.heap.size w w':=by
 have HF:=Lib.hid (fun t W=>against_anyC t id W)
 have hle:=loC_le id l
 obtain⟨al,cap,rfl,hcap,hmx,hc⟩:=hv
 have HC:=Lib.hid hc
 have HP:=Lib.hid (fun d t h=>high_at (id:=id) hr d t h)
 have HL:Hid ((getI id l).isSome=decide (∃ t,l[loC id l]?=some t∧t.1=id)):=Lib.hid (isC hr)
 generalize (getI id l).isSome=il at *
 obtain⟨r,hr⟩:∃ r,loC id l=r:=⟨_,rfl⟩
 rw[hr] at HP HL hle ⊢
 clear hc hr
 go_enter Tryz.func127,Tryz.ntmps127
 go_wp2_with fail
 go_loopw [9,10] (fun x y wr=>∃ a b:Nat,a≤r∧r≤b∧b≤l.length∧x=.int .i64 a∧y=.int .i64 b∧Below w.heap.size w wr) (fun x y _=>(intOf y).toNat - (intOf x).toNat)
 case atStart=>exact⟨0,l.length,Nat.zero_le _,by omega,Nat.le_refl _,rfl,rfl,Below.refl _ _⟩
 case round =>
  obtain⟨a,b,h1,h2,h3,rfl,rfl,hbw⟩:=hrel
  by_cases hlt:a<b
  ·obtain⟨d,hd0⟩:∃ d:Nat,d=(a+b) / 2:=⟨_,rfl⟩
   have hm1:a≤d:=by omega
   have hm2:d<b:=by omega
   obtain⟨e,he⟩:∃ t,l[d]?=some t:=⟨_,List.getElem?_eq_getElem (by omega)⟩
   obtain⟨g,off,rfl,hg,l0,l1⟩:=HC.out d e he
   have k0:=(hbw.cell (p:=⟨g,off+d*2,none⟩) hg).trans l0
   have k1:=(hbw.cell (p:=⟨g,off+d*2+1,none⟩) hg).trans l1
   have hi0:(a:Int)<(b:Int):=by omega
   have hi2:(d:Int)<(l.length:Int):=by omega
   have hw1:IntKind.i64.wrap ((a:Int)+(b:Int))=((a+b:Nat):Int):=by rw[IntKind.wrap_i64] <;> omega
   have hw2:IntKind.u64.wrap ((a:Int)+(b:Int))=((a+b:Nat):Int):=by rw[IntKind.wrap_u64];omega
   have hP:=HP.out d e he
   have HE:=Lib.hid (HF.out e)
   have HLT:=Lib.hid (cmpI_ltC (e.1:Nat) (id:Int))
   clear he l0 l1
   subst hd0
   have hi2':((a:Int)+(b:Int)) / 2<(l.length:Int):=by omega
   by_cases hq:e.1<id
   ·have hd:decide (cmpIC (e.1:Int) (id:Int)<0)=true:=by rw[HLT.out];simpa using hq
    have hq':(a+b) / 2+1≤r:=by have:=hP.1 hq;omega
    clear hq hP
    go_wp2_with fail
    refine(HE.out _).mono ?_
    rintro x w1 ⟨rfl,hb⟩
    have HB:=Lib.hid (hbw.trans (hb.mono hbw.size))
    clear hb hbw k0 k1
    go_wp2_with fail
    go_roundw
    case rel=>exact⟨(a+b) / 2+1,b,hq',h2,h3,by go_num,rfl,HB.out⟩
    case measure=>simp[intOf];omega
   ·have hd:decide (cmpIC (e.1:Int) (id:Int)<0)=false:=by rw[HLT.out];simpa using hq
    have hq':r≤(a+b) / 2:=by
     rcases Nat.lt_or_ge ((a+b) / 2) r with h|h
     ·exact absurd (hP.2 h) hq
     ·exact h
    clear hq hP
    go_wp2_with fail
    refine(HE.out _).mono ?_
    rintro x w1 ⟨rfl,hb⟩
    have HB:=Lib.hid (hbw.trans (hb.mono hbw.size))
    clear hb hbw k0 k1
    go_wp2_with fail
    go_roundw
    case rel=>exact⟨a,(a+b) / 2,h1,hq',by omega,rfl,by go_num,HB.out⟩
    case measure=>simp[intOf];omega
  ·obtain rfl:a=r:=by omega
   have hlt':¬ (a:Int)<(b:Int):=by omega
   have HBW:=Lib.hid hbw
   by_cases hal:a<l.length
   ·obtain⟨e,he⟩:∃ t,l[a]?=some t:=⟨_,List.getElem?_eq_getElem hal⟩
    obtain⟨g,off,rfl,hg,l0,l1⟩:=HC.out a e he
    have k0:=(hbw.cell (p:=⟨g,off+a*2,none⟩) hg).trans l0
    have k1:=(hbw.cell (p:=⟨g,off+a*2+1,none⟩) hg).trans l1
    have hi2:(a:Int)<(l.length:Int):=by omega
    have HE:=Lib.hid (HF.out e)
    have hil:il=decide ((e.1:Int)=(id:Int)):=by
     rw[HL.out]
     apply decide_eq_decide.2
     constructor
     ·rintro⟨t,ht,h⟩
      rw[he] at ht
      cases ht
      omega
     ·intro h
      exact⟨e,he,by omega⟩
    have HIL:=Lib.hid (hil.trans (cmpI_eqC _ _).symm)
    clear he l0 l1 hil hbw
    go_wp2_with fail
    refine(HE.out _).mono ?_
    rintro x w1 ⟨rfl,hb⟩
    have HB:=Lib.hid (HBW.out.trans (hb.mono HBW.out.size))
    clear hb k0 k1
    go_wp2_with fail
    go_ret2
    refine⟨?_,HB.out⟩
    rw[HIL.out]
    first|rfl|simp
   ·have hil:il=false:=by
     rw[HL.out,decide_eq_false_iff_not]
     rintro⟨t,ht,_⟩
     exact hal (List.getElem?_eq_some_iff.1 ht).1
    obtain rfl:a=l.length:=by omega
    subst hil
    have hi2:¬ (l.length:Int)<(l.length:Int):=by omega
    clear hbw
    go_wp2_with fail
    go_ret2
    exact⟨rfl,HBW.out⟩
structure ChS (w:World) (s:Value) (l:List It):Prop where
 its:ItsAt w s l
 good:GoodC l
theorem ChS.below {w w':World} {s:Value} {l:List It} (h:ChS w s l) (hb:Below w.heap.size w w'):ChS w' s l:=⟨h.its.below hb,h.good⟩
theorem ChS.form {w:World} {s:Value} {l:List It} (h:ChS w s l):∃ a n c,s=.slice a n c:=by
 obtain⟨a,c,e,_⟩:=h.its
 exact⟨_,_,_,e⟩
theorem chS_nil (w:World):ChS w (.slice none 0 0) []:=⟨its_nil w,goodC_nil⟩
theorem place_any (s:Value) (l:List It) (id:Nat) (w:World) (h:ChS w s l):Calls Tryz.prog 61 #[.agg #[s],.int .u64 id] w fun e w'=>e=.returned (.tuple #[.int .i64 (loC id l:Nat),.bool (getI id l).isSome])∧Below w.heap.size w w':=by
 have HB:=Lib.hid (fun W (hb:Below w.heap.size w W)=>bin_anyC s l id W h.good.rise (h.its.below hb) (by have:=h.good.few;omega))
 obtain⟨a,n,c,rfl⟩:=h.form
 clear h
 go_enter Tryz.func61,Tryz.ntmps61
 go_wp2_with fail
 refine(HB.out _ (by go_grown)).mono ?_
 rintro e w1 ⟨rfl,hb⟩
 have H1:=Lib.hid (((Below.refl w.heap.size w).alloc (Nat.le_refl _) _).trans (hb.mono (by simp)))
 clear hb
 go_wp2_with fail
 go_ret2
 exact⟨rfl,H1.out⟩
theorem below_oneC (w:World) (o:Obj):Below w.heap.size w (w.alloc o):=(Below.refl _ _).alloc (Nat.le_refl _) o
def One (w:World) (g:Nat) (x:Value):Prop:=∃ T,w.heap[g]?=some (.cells #[x] T (0,0))
theorem One.cell {w:World} {g:Nat} {x:Value} (h:One w g x):w.cell? ⟨g,0,none⟩=some x:=by
 obtain⟨T,h⟩:=h
 simp[World.cell?,h]
theorem One.frz {w:World} {g:Nat} {x:Value} (h:One w g x):w.frozen? ⟨g,0,none⟩=false:=by
 obtain⟨T,h⟩:=h
 simp[World.frozen?,h]
theorem One.lt {w:World} {g:Nat} {x:Value} (h:One w g x):g<w.heap.size:=vcell_lt h.cell
theorem One.below {w w':World} {g:Nat} {x:Value} (h:One w g x) (hb:Below w.heap.size w w'):One w' g x:=by
 have hl:=h.lt
 obtain⟨T,h⟩:=h
 exact⟨T,(hb.block g hl).trans h⟩
theorem One.alloc {w:World} {g:Nat} {x:Value} (h:One w g x) (o:Obj):One (w.alloc o) g x:=h.below (below_oneC w o)
theorem one_new (w:World) (x:Value) (T:TypeId):One (w.alloc (.cells #[x] T)) w.heap.size x:=⟨T,heap_new w _⟩
theorem One.set {w:World} {g:Nat} {x:Value} (h:One w g x) (x':Value):One (w.setCell ⟨g,0,none⟩ x') g x':=by
 obtain⟨T,h⟩:=h
 exact⟨T,by simp[World.setCell,Array.getElem?_modify,h]⟩
theorem One.set_other {w:World} {g g':Nat} {x:Value} (h:One w g x) (hn:g≠g') (x':Value):One (w.setCell ⟨g',0,none⟩ x') g x:=by
 obtain⟨T,h⟩:=h
 exact⟨T,(Below.heap_setCell _ _ _ _ (by simpa using hn)).trans h⟩
theorem ItsAt.set {w:World} {g:Nat} {x v:Value} {l:List It} (h:ItsAt w v l) (ho:One w g x) (x':Value):ItsAt (w.setCell ⟨g,0,none⟩ x') v l:=by
 obtain⟨T,hh⟩:=ho
 obtain⟨a,cap,rfl,h1,h2,hc⟩:=h
 refine⟨a,cap,rfl,h1,h2,fun k t ht=>?_⟩
 obtain⟨g',off,ha,hg,c0,c1⟩:=hc k t ht
 have hn:g'≠g:=by
  rintro rfl
  simp[World.cell?,hh] at c1
 have hb:(w.setCell ⟨g,0,none⟩ x').heap[g']?=w.heap[g']?:=Below.heap_setCell _ _ _ _ (by simpa using hn)
 exact⟨g',off,ha,by simpa using hg,(World.cell?_of_block (a:=⟨g',off+k*2,none⟩) hb).trans c0,(World.cell?_of_block (a:=⟨g',off+k*2+1,none⟩) hb).trans c1⟩
theorem ChS.set {w:World} {g:Nat} {x s:Value} {l:List It} (h:ChS w s l) (ho:One w g x) (x':Value):ChS (w.setCell ⟨g,0,none⟩ x') s l:=⟨h.its.set ho x',h.good⟩
theorem chart_size:(Tryz.prog.info? 29).map (·.size)=some 1:=by kernel_rfl
theorem one_load (w:World) (g:Nat) (ty:TypeId) (x:Value) (d:TypeDesc) (c0:w.cell? ⟨g,0,none⟩=some x)
  (hu:Tryz.prog.underlying ty=some d) (hd:(match d with|.struct _|.array _ _=>true|_=>false)=true) (hi:(Tryz.prog.info? ty).map (·.size)=some 1) :
  (loadVar ty ⟨g,0,none⟩).run Tryz.prog w=.ok (.agg #[x]) w:=by
 have hl:(loadCells ⟨g,0,none⟩ 1).run Tryz.prog w=.ok #[x] w :=
  run_loadCells_list (P:=Tryz.prog) w ⟨g,0,none⟩ [x] (fun j v hv=>by
   have hadd:(⟨g,0,none⟩:Addr).add j=⟨g,j,none⟩:=by unfold Addr.add;split <;> simp_all
   rw[hadd]
   match j,hv with
   | 0,hv=>simp at hv;rw[c0,hv]
   | j+1,hv=>simp at hv)
 cases hq:Tryz.prog.info? ty with
 | none=>simp[hq] at hi
 | some i =>
  have hs:i.size=1:=by simpa[hq] using hi
  have hagg:(isAgg ty).run Tryz.prog w=.ok true w:=by
   unfold isAgg
   rw[Sem.run_bind,run_underlying hu w]
   cases d <;> simp_all
  simp[loadVar,Sem.run_bind,hagg,sizeOf,typeInfo,hq,hs,hl]
theorem results_o2 {fn:Func} {p q:Tmp} {ty:TypeId} (h:fn.results=#[.cell p ty,.tmp q]) (tmps:Array Value) (w:World) (g:Nat) (x v:Value) (d:TypeDesc) (hp:tmps.getD p undef=.pointer (some ⟨g,0,none⟩)) (hq:tmps.getD q undef=v) (c0:w.cell? ⟨g,0,none⟩=some x)
  (hu:Tryz.prog.underlying ty=some d) (hd:(match d with|.struct _|.array _ _=>true|_=>false)=true) (hi:(Tryz.prog.info? ty).map (·.size)=some 1) :
  (results fn tmps).run Tryz.prog w=.ok (.tuple #[.agg #[x],v]) w:=by
 have hl:=one_load w g ty x d c0 hu hd hi
 have hp':tmps[p]?.getD undef=.pointer (some ⟨g,0,none⟩):=by simpa using hp
 have hq':tmps[q]?.getD undef=v:=by simpa using hq
 simp[results,h,hp',hq',asAddr,hl]
theorem results_ct1C {fn:Func} {p:Tmp} {ty:TypeId} (h:fn.results=#[.cell p ty]) (tmps:Array Value) (w:World) (g:Nat) (x y:Value) (d:TypeDesc) (hp:tmps.getD p undef=.pointer (some ⟨g,0,none⟩)) (c0:w.cell? ⟨g,0,none⟩=some x) (c1:w.cell? ⟨g,1,none⟩=some y)
  (hu:Tryz.prog.underlying ty=some d) (hd:(match d with|.struct _|.array _ _=>true|_=>false)=true) (hi:(Tryz.prog.info? ty).map (·.size)=some 2) :
  (results fn tmps).run Tryz.prog w=.ok (.agg #[x,y]) w:=by
 have hl:=two_load w g ty x y d c0 c1 hu hd hi
 have hp':tmps[p]?.getD undef=.pointer (some ⟨g,0,none⟩):=by simpa using hp
 simp[results,h,hp',asAddr,hl]
theorem sclone_anyC (s:ByteArray) (w:World) (hs:s.size≤281474976710656):Calls Tryz.prog 47 #[.string s] w fun e w'=>e=.returned (.string s)∧Below w.heap.size w w':=by
 have HC:=Lib.hid (fun W=>clo_any s W hs)
 go_enter Tryz.func47,Tryz.ntmps47
 go_wp2_with fail
 refine(HC.out _).mono ?_
 rintro e w1 ⟨rfl,hb⟩
 have HB:=Lib.hid hb
 clear hb
 go_wp2_with fail
 go_ret
 exact⟨rfl,HB.out⟩
set_option maxHeartbeats 1000000 in
theorem kept_any (id:Nat) (t:ByteArray) (w:World) (hs:t.size≤281474976710656):Calls Tryz.prog 63 #[.agg #[.int .u64 id,.string t]] w fun e w'=>e=.returned (.agg #[.int .u64 id,.string t])∧Below w.heap.size w w':=by
 have HC:=Lib.hid (fun W=>sclone_anyC t W hs)
 go_enter Tryz.func63,Tryz.ntmps63
 go_wp2_with fail
 go_region_with (refine(HC.out _).mono ?_;rintro e w1 ⟨rfl,hb⟩;have b0:w1.cell? ⟨w.heap.size,0,none⟩=some (.int .u64 id):=(hb.cell (p:=⟨w.heap.size,0,none⟩) (by simp;omega)).trans (by simp[go_sem]);have b1:w1.cell? ⟨w.heap.size,1,none⟩=some (.string t):=(hb.cell (p:=⟨w.heap.size,1,none⟩) (by simp;omega)).trans (by simp[go_sem]);have z0:w1.cell? ⟨w.heap.size+1,0,none⟩=some (.int .u64 0):=(hb.cell (p:=⟨w.heap.size+1,0,none⟩) (by simp)).trans (by simp[go_sem]);have z1:w1.cell? ⟨w.heap.size+1,1,none⟩=some (.string { data:=#[] }):=(hb.cell (p:=⟨w.heap.size+1,1,none⟩) (by simp)).trans (by simp[go_sem]);have f0:w1.frozen? ⟨w.heap.size+1,0,none⟩=false:=(hb.frozen (p:=⟨w.heap.size+1,0,none⟩) (by simp)).trans (by simp[go_sem]);have f1:w1.frozen? ⟨w.heap.size+1,1,none⟩=false:=(hb.frozen (p:=⟨w.heap.size+1,1,none⟩) (by simp)).trans (by simp[go_sem]);have hB:Below w.heap.size w w1:=(by go_grown:Below w.heap.size w _).trans (hb.mono (by simp;omega));have hl:w.heap.size+1<w1.heap.size:=vcell_lt z0)
 all_goals
  go_wp2_with fail
  refine bodyPost_ret (results_ct1C rfl _ _ (w.heap.size+1) (.int .u64 id) (.string t) _ rfl (by simp[go_sem,z0,z1]) (by simp[go_sem,z0,z1]) Tryz.underlying69 rfl pit_size) rfl ⟨rfl,(hB.setCell (p:=⟨w.heap.size+1,0,none⟩) (by simp) _).setCell (p:=⟨w.heap.size+1,1,none⟩) (by simp) _⟩
set_option maxHeartbeats 1000000 in
theorem check_any (s:Value) (l:List It) (id:Nat) (t:ByteArray) (w:World) (h:ChS w s l) (ht:t.size≤maxLen) :
  Calls Tryz.prog 62 #[.agg #[s],.agg #[.int .u64 id,.string t],.bool (getI id l).isSome] w fun e w'=>e=.returned (.int .i64 (putE l id t:Nat))∧Below w.heap.size w w':=by
 obtain⟨al,cap,rfl,hcap,hmx,hc⟩:=h.its
 have hfew:=h.good.few
 clear hc h
 unfold maxLen at hmx ht
 unfold putE
 obtain⟨b,hb⟩:∃ b,(getI id l).isSome=b:=⟨_,rfl⟩
 have hb':(getI id l).isNone=!b:=by rw[← hb];cases getI id l <;> rfl
 rw[hb,hb']
 clear hb hb'
 by_cases h1:6004799503160661≤id
 ·have h1':(6004799503160661:Int)≤(id:Int):=by omega
  rw[if_pos h1]
  go_enter Tryz.func62,Tryz.ntmps62
  go_wp2_with fail
  go_ret
  exact⟨rfl,by go_grown⟩
 have h1':¬ (6004799503160661:Int)≤(id:Int):=by omega
 rw[if_neg h1]
 by_cases h2:t.size=0
 ·rw[if_pos h2]
  have h2':(t.toList == [])=true:=by
   have:t={ data:=#[] }:=ByteArray.ext (Array.eq_empty_of_size_eq_zero h2)
   rw[this,ByteArray.toList_eq];rfl
  go_enter Tryz.func62,Tryz.ntmps62
  go_wp2_with fail
  go_ret
  exact⟨rfl,by go_grown⟩
 rw[if_neg h2]
 have h2':(t.toList == [])=false:=by
  rw[ByteArray.toList_eq,beq_eq_false_iff_ne]
  intro e
  exact h2 (by have:=congrArg List.length e;simpa using this)
 by_cases h3:65536<t.size
 ·have h3':(65536:Int)<(t.size:Int):=by omega
  rw[if_pos h3]
  go_enter Tryz.func62,Tryz.ntmps62
  go_wp2_with fail
  go_ret
  exact⟨rfl,by go_grown⟩
 have h3':¬ (65536:Int)<(t.size:Int):=by omega
 rw[if_neg h3]
 by_cases h4:2048≤l.length
 ·have h4':(2048:Int)≤(l.length:Int):=by omega
  cases b with
  | true =>
   rw[if_neg (by simp)]
   go_enter Tryz.func62,Tryz.ntmps62
   go_wp2_with fail
   go_ret
   exact⟨rfl,by go_grown⟩
  | false =>
   rw[if_pos (by simpa using h4)]
   go_enter Tryz.func62,Tryz.ntmps62
   go_wp2_with fail
   go_ret
   exact⟨rfl,by go_grown⟩
 ·have h4':¬ (2048:Int)≤(l.length:Int):=by omega
  rw[if_neg (by simp;intro _;omega)]
  go_enter Tryz.func62,Tryz.ntmps62
  go_wp2_with fail
  go_ret
  exact⟨rfl,by go_grown⟩
theorem len_anyC (s:Value) (l:List It) (w:World) (h:ChS w s l) :
  Calls Tryz.prog 23 #[.agg #[s]] w fun e w'=>e=.returned (.int .i64 l.length)∧Below w.heap.size w w':=by
 obtain⟨al,cap,rfl,hcap,hmx,hc⟩:=h.its
 clear h hc
 unfold maxLen at hmx
 go_enter Tryz.func23,Tryz.ntmps23
 go_wp2_with fail
 go_ret
 exact⟨rfl,by go_grown⟩
theorem its_cells {W:World} {ad:Addr} {n cap:Nat} {l:List It} (h:ItsAt W (.slice (some ad) n cap) l):∀ j u,(flatI l)[j]?=some u→W.cell? (ad.add j)=some u:=by
 obtain⟨a,cap',he,h1,h2,hc⟩:=h
 cases he
 intro j u hu
 have hj:j<l.length*2:=by rw[← flatI_len];exact(List.getElem?_eq_some_iff.1 hu).1
 obtain⟨t,ht⟩:∃ t,l[j / 2]?=some t:=⟨_,List.getElem?_eq_getElem (by omega)⟩
 obtain⟨g,off,ha,_,c0,c1⟩:=hc (j / 2) t ht
 obtain⟨f0,f1⟩:=flatI_at l (j / 2) t ht
 injection ha with ha
 subst ha
 have hadd:(⟨g,off,none⟩:Addr).add j=⟨g,off+j,none⟩:=by simp[Addr.add]
 rw[hadd]
 rcases(by omega:j=j / 2*2∨j=j / 2*2+1) with e|e
 ·rw[e,f0] at hu;rw[← hu];rw[show off+j=off+j / 2*2 from by omega];exact c0
 ·rw[e,f1] at hu;rw[← hu];rw[show off+j=off+j / 2*2+1 from by omega];exact c1
theorem its_first {W:World} {a:Option Addr} {n cap:Nat} {l:List It} (h:ItsAt W (.slice a n cap) l) (W':World) (hW:∀ p,W'.cell? p=W.cell? p):(Builtin.firstCells 2 n (.slice a n cap)).run Tryz.prog W'=.ok (flatI l).toArray W':=by
 have h':=h
 obtain⟨a',cap',he,h1,h2,hc⟩:=h'
 cases he
 cases a with
 | none =>
  have hl0:l=[]:=by
   cases l with
   | nil=>rfl
   | cons t l=>obtain⟨g,off,ha,_⟩:=hc 0 t rfl;cases ha
  subst hl0
  exact run_firstCells_none W' 2 0 0 cap
 | some ad=>exact run_firstCells_some W' 2 l.length ad l.length cap (flatI l) (flatI_len l) (fun j u hu=>(hW _).trans (its_cells h j u hu))
theorem its_src {W:World} {a:Option Addr} {n cap:Nat} {l:List It} {TS E:TypeId} (hk:Tryz.prog.underlying TS=some (.slice E)) (h:ItsAt W (.slice a n cap) l):Src Tryz.prog 2 TS (.slice a n cap) l.length (flatI l) W:=by
 have h':=h
 obtain⟨a',cap',he,h1,h2,hc⟩:=h'
 cases he
 cases a with
 | none =>
  have hl0:l=[]:=by
   cases l with
   | nil=>rfl
   | cons t l=>obtain⟨g,off,ha,_⟩:=hc 0 t rfl;cases ha
  subst hl0
  exact Src.ofNil W hk cap
 | some ad=>exact Src.ofSlice W hk ad l.length cap (flatI l) (flatI_len l) (its_cells h) (flatI_one l)
theorem itgrow_run (W:World) (ty:TypeId) (a:Option Addr) (n cap:Nat) (x:Value) (L m:List It) (hv:ItsAt W (.slice a n cap) L) (hx:ItsAt W x m) (hg:cap<L.length+m.length) (hl:L.length+m.length≤1000000) :
  ∃ v' w',(Builtin.append_ #[27,27] ty #[.slice a n cap,x]).run Tryz.prog W=.ok v' w'∧OwnIt w' W.heap.size 69 v' (L++m)∧Below W.heap.size W w':=by
 obtain⟨i0,hi,hz0,hz1,hz2⟩:=info_parts infoPit
 have hx':=hx
 obtain⟨ax,cx,rfl,_⟩:=hx'
 have hn:n=L.length:=by obtain⟨_,_,e,_⟩:=hv;cases e;rfl
 subst hn
 have hsrc:=its_src Tryz.underlying27 hx
 have hold:=its_first hv W.drew (fun p=>by simp)
 have hr:=run_append_grow_src (P:=Tryz.prog) W 27 27 ty 69 i0 _ Tryz.underlying27 hi hz0 a L.length cap (flatI L) (by rw[hz1];exact hold) (.slice ax m.length cx) m.length (flatI m) (by rw[hz1];exact hsrc) hg (by omega) (growslice_fits hg (by rw[hz2];omega))
 refine⟨_,_,hr,?_,((Below.refl W.heap.size W).drew).alloc (Nat.le_refl _) _⟩
 have hge:=grownCap_ge W (L.length+m.length) cap 69
 have hle:=grownCap_le_maxLen W (L.length+m.length) cap 69 (by unfold maxLen;omega)
 generalize grownCap W (L.length+m.length) cap 69=G at *
 unfold OwnIt
 rw[List.length_append]
 refine⟨by rw[flatI_len,List.length_append],.inr ⟨W.heap.size,G,_,rfl,Nat.le_refl _,heap_new W.drew _,hge,hle,?_,?_⟩⟩
 ·simp only[Array.size_append,size_zeroCells]
  have e1:(flatI L++flatI m).toArray.size=(L.length+m.length)*2:=by simp[flatI_len];omega
  rw[e1]
  show (L.length+m.length)*2+(G - (L.length+m.length))*2=G*2
  omega
 ·rw[flatI_append]
  simp only[Array.toList_append]
  rw[List.take_append_of_le_length (by simp[flatI_len];omega)]
  exact List.take_of_length_le (by simp[flatI_len];omega)
def PutEnd (l:List It) (id:Nat) (t:ByteArray) (w:World) (e:Ending) (w':World):Prop:=∃ s',e=.returned (.tuple #[.agg #[s'],.int .i64 (putE l id t:Nat)])∧ChS w' s' (putL l id t)∧Below w.heap.size w w'
structure PutS (w W:World) (s:Value) (id:Nat) (t:ByteArray):Prop where
 box:One W w.heap.size s
 res:One W (w.heap.size+1) (.slice none 0 0)
 itm:Two W (w.heap.size+2) (.int .u64 id) (.string t)
 bel:Below w.heap.size w W
theorem One.lower {w w':World} {B g:Nat} {x:Value} (h:One w g x) (hb:Below B w w') (hg:g<B):One w' g x:=by
 obtain⟨T,h⟩:=h
 exact⟨T,(hb.block g hg).trans h⟩
theorem PutS.below {w W W':World} {s:Value} {id:Nat} {t:ByteArray} (h:PutS w W s id t) (hb:Below W.heap.size W W'):PutS w W' s id t :=
 ⟨h.box.below hb,h.res.below hb,h.itm.below hb,h.bel.trans (hb.mono h.bel.size)⟩
theorem PutS.lower {w W W':World} {s:Value} {id:Nat} {t:ByteArray} {B:Nat} (h:PutS w W s id t) (hb:Below B W W') (hB:w.heap.size+2<B):PutS w W' s id t :=
 ⟨h.box.lower hb (by omega),h.res.lower hb (by omega),h.itm.lower hb hB,h.bel.trans (hb.mono (by omega))⟩
theorem put_start (w:World) (s:Value) (id:Nat) (t:ByteArray):PutS w (((w.alloc (.cells #[s] 29)).alloc (.cells #[.slice none 0 0] 29)).alloc (.cells #[.int .u64 id,.string t] 69)) s id t:=by
 have h1:=one_new w s 29
 have h2:=one_new (w.alloc (.cells #[s] 29)) (.slice none 0 0) 29
 have h3:=two_new ((w.alloc (.cells #[s] 29)).alloc (.cells #[.slice none 0 0] 29)) (.int .u64 id) (.string t) 69
 simp only[World.size_alloc] at h2 h3
 exact⟨(h1.alloc _).alloc _,h2.alloc _,h3,by go_grown⟩
theorem PutS.room {w W:World} {s:Value} {id:Nat} {t:ByteArray} (h:PutS w W s id t):w.heap.size+2<W.heap.size:=h.itm.lt
set_option maxHeartbeats 1000000 in
theorem put_no_any (s:Value) (l:List It) (id:Nat) (t:ByteArray) (w:World) (h:ChS w s l) (hid:id<18446744073709551616) (ht:t.size≤maxLen) (h0:putE l id t≠0) :
  Calls Tryz.prog 27 #[.agg #[s],.int .u64 id,.string t] w (PutEnd l id t w):=by
 have HP:=Lib.hid (fun W (hb:Below w.heap.size w W)=>place_any s l id W (h.below hb))
 have HK:=Lib.hid (fun W (hb:Below w.heap.size w W)=>check_any s l id t W (h.below hb) ht)
 have hne:((putE l id t:Nat):Int)≠0:=by omega
 have hbn:(((putE l id t:Nat):Int) != 0)=true:=by simpa using hne
 have hpl:putL l id t=l:=by unfold putL;rw[if_neg h0]
 unfold PutEnd
 rw[hpl]
 have HS:=Lib.hid h
 obtain⟨a,n,c,rfl⟩:=h.form
 have HST:=Lib.hid (put_start w (.slice a n c) id t)
 clear h hpl h0 hne
 generalize (getI id l).isSome=b at *
 generalize putE l id t=z at *
 go_enter Tryz.func27,Tryz.ntmps27
 go_wp2_with fail
 refine(HP.out _ (by go_grown)).mono ?_
 rintro e w1 ⟨rfl,hb⟩
 have H1:=Lib.hid (HST.out.below hb)
 have k0:=H1.out.box.cell
 obtain⟨k1,k2,_,_⟩:=H1.out.itm
 clear hb
 go_wp2_with fail
 refine(HK.out _ H1.out.bel).mono ?_
 rintro e w2 ⟨rfl,hb⟩
 have H2:=Lib.hid (H1.out.below hb)
 clear hb k0 k1 k2
 have k0:=H2.out.box.cell
 have r0:=H2.out.res.cell
 have r1:=H2.out.res.frz
 go_wp2_with fail
 refine bodyPost_ret (results_o2 rfl _ _ (w.heap.size+1) _ _ _ rfl rfl (H2.out.res.set _).cell Tryz.underlying29 rfl chart_size) rfl ⟨_,rfl,?_,H2.out.bel.setCell (p:=⟨w.heap.size+1,0,none⟩) (Nat.le_succ _) _⟩
 exact(HS.out.below H2.out.bel).set H2.out.res _
theorem ItsAt.pre3 {w:World} {a:Option Addr} {n cap:Nat} {l:List It} (h:ItsAt w (.slice a n cap) l) (k:Nat) (hk:k≤l.length):ItsAt w (.slice a k k) (l.take k):=by
 obtain⟨a',cap',e,h1,h2,hc⟩:=h
 cases e
 have e2:(l.take k).length=k:=by rw[List.length_take];omega
 refine⟨_,k,by rw[e2],by omega,by omega,fun j t ht=>hc j t ?_⟩
 rw[List.getElem?_take] at ht
 split at ht
 ·exact ht
 ·cases ht
theorem ItsAt.post {w:World} {g off n cap:Nat} {l:List It} (h:ItsAt w (.slice (some ⟨g,off,none⟩) n cap) l) (k:Nat) (hk:k≤l.length):ItsAt w (.slice (some ⟨g,off+k*2,none⟩) (l.length - k) (cap - k)) (l.drop k):=by
 obtain⟨a,cap',e,h1,h2,hc⟩:=h
 cases e
 refine⟨_,cap - k,by rw[List.length_drop],by rw[List.length_drop];omega,by omega,fun j t ht=>?_⟩
 rw[List.getElem?_drop] at ht
 obtain⟨g',off',e,hg,c0,c1⟩:=hc (k+j) t ht
 cases e
 refine⟨g,off+k*2,rfl,hg,?_,?_⟩
 ·rw[show off+k*2+j*2=off+(k+j)*2 by omega];exact c0
 ·rw[show off+k*2+j*2+1=off+(k+j)*2+1 by omega];exact c1
theorem ItsAt.cut {w:World} {ad:Addr} {n cap:Nat} {l:List It} (h:ItsAt w (.slice (some ad) n cap) l) (k:Nat) (hk:k≤l.length):ItsAt w (.slice (some (ad.add (k*2))) (l.length - k) (cap - k)) (l.drop k):=by
 obtain⟨a',cap',e,h1,h2,hc⟩:=h
 cases e
 refine⟨_,cap - k,by rw[List.length_drop],by rw[List.length_drop];omega,by omega,fun j t ht=>?_⟩
 rw[List.getElem?_drop] at ht
 obtain⟨g',off',e,hg,c0,c1⟩:=hc (k+j) t ht
 cases e
 refine⟨g',off'+k*2,by simp[Addr.add],hg,?_,?_⟩
 ·rw[show off'+k*2+j*2=off'+(k+j)*2 by omega];exact c0
 ·rw[show off'+k*2+j*2+1=off'+(k+j)*2+1 by omega];exact c1
theorem its_none {w:World} (a:Option Addr):ItsAt w (.slice a 0 0) []:=⟨a,0,rfl,Nat.le_refl _,by unfold maxLen;omega,fun k t h=>by simp at h⟩
theorem put_split {id:Nat} {t:ByteArray} {l:List It} (hr:Rise l) (b:Bool) (hb:(getI id l).isSome=b):putI id t l=(l.take (loC id l)++[(id,t)])++l.drop (if b then loC id l+1 else loC id l):=by
 cases b with
 | false=>rw[put_no hb];simp
 | true =>
  have h:=isC (id:=id) hr
  rw[hb] at h
  obtain⟨u,hu,he⟩:=of_decide_eq_true h.symm
  rw[put_yes hr u hu he];simp
theorem is_lt {id:Nat} {l:List It} (hr:Rise l) (hb:(getI id l).isSome=true):loC id l<l.length:=by
 have h:=isC (id:=id) hr
 rw[hb] at h
 obtain⟨u,hu,he⟩:=of_decide_eq_true h.symm
 exact(List.getElem?_eq_some_iff.1 hu).1
theorem put_app (W:World) (a:Option Addr) (i:Nat) (L:List It) (hL:L.length=i) (hl:i≤5000) (id:Nat) (t:ByteArray) (hv:ItsAt W (.slice a i i) L) :
  ∃ v' w',(Builtin.append_ #[27,27] 27 #[.slice a i i,.slice (some ⟨W.heap.size,0,none⟩) 1 1]).run Tryz.prog (W.alloc (.cells #[.int .u64 id,.string t] 69))=.ok v' w'∧OwnIt w' (W.heap.size+1) 69 v' (L++[(id,t)])∧Below W.heap.size W w':=by
 have hx:=it_lit W id t 69
 obtain⟨v',w',h1,h2,h3⟩:=itgrow_run (W.alloc (.cells #[.int .u64 id,.string t] 69)) 27 a i i (.slice (some ⟨W.heap.size,0,none⟩) 1 1) L [(id,t)] (hv.below (below_oneC _ _)) hx (by simp;omega) (by simp;omega)
 rw[World.size_alloc] at h2 h3
 exact⟨v',w',h1,h2,(below_oneC _ _).trans (h3.mono (Nat.le_succ _))⟩
theorem step_append_run {ops:Array Oper} {o:Oper} {a:Act} {w:World} {K:Act→World→Prop} {Q:Exit→Act→World→Prop} {E:Prop}
  (hg:o.guard=none) (s x:Operand) (tA tB:TypeId) (hop:o.op=Op.call { callee:=Callee.builtin Builtin.append,args:=#[s,x],argTypes:=#[tA,tB] })
  (v u:Value) (hs:a.eval s=v) (hx:a.eval x=u) {v':Value} {w':World} (hr:(Builtin.append_ #[tA,tB] o.type #[v,u]).run Tryz.prog w=.ok v' w') (hK:K (a.put o.dst v') w') :
  if Region.wanted o (yielded ops a.tmps)=true then Oper.wp Tryz.prog o a w K Q else E:=by
 have hw:Region.wanted o (yielded ops a.tmps)=true:=by simp[Region.wanted,hg]
 rw[if_pos hw]
 unfold Oper.wp
 simp[execOp,hop,resolve,invoke,builtin,hs,hx,hr,Result.andThen]
 exact hK
set_option maxHeartbeats 2000000 in
theorem put_yes_any (s:Value) (l:List It) (id:Nat) (t:ByteArray) (w:World) (h:ChS w s l) (hid:id<18446744073709551616) (ht:t.size≤maxLen) (h0:putE l id t=0) :
  Calls Tryz.prog 27 #[.agg #[s],.int .u64 id,.string t] w (PutEnd l id t w):=by
 have HP:=Lib.hid (fun W (hb:Below w.heap.size w W)=>place_any s l id W (h.below hb))
 have HK:=Lib.hid (fun W (hb:Below w.heap.size w W)=>check_any s l id t W (h.below hb) ht)
 have hts:t.size≤65536:=by
  unfold putE at h0
  by_cases h1:6004799503160661≤id
  ·rw[if_pos h1] at h0;cases h0
  rw[if_neg h1] at h0
  by_cases h2:t.size=0
  ·omega
  rw[if_neg h2] at h0
  by_cases h3:65536<t.size
  ·rw[if_pos h3] at h0;cases h0
  omega
 have HKE:=Lib.hid (fun W=>kept_any id t W (by omega))
 have hpl:putL l id t=putI id t l:=by unfold putL;rw[if_pos h0]
 have HG:=Lib.hid (good_put (id:=id) (s:=t) h.good)
 obtain⟨b,hb⟩:∃ b,(getI id l).isSome=b:=⟨_,rfl⟩
 have HPS:=Lib.hid (put_split (t:=t) h.good.rise b hb)
 have HLT:=Lib.hid (fun(e:b=true)=>is_lt (id:=id) h.good.rise (by rw[hb,e]))
 have hle:=loC_le id l
 rw[hb] at HP HK
 rw[h0] at HK
 unfold PutEnd
 rw[h0]
 rw[hpl] at HG ⊢
 rw[HPS.out] at HG ⊢
 generalize loC id l=i at *
 obtain⟨a,cap,rfl,hcap,hmx,hc⟩:=h.its
 have HV:=Lib.hid h.its
 have hfew:=h.good.few
 have HST:=Lib.hid (put_start w (.slice a l.length cap) id t)
 unfold maxLen at hmx
 clear h hpl h0 hb hc HPS
 obtain⟨M,hM⟩:∃ M,(l.take i++[(id,t)])++l.drop (if b=true then i+1 else i)=M:=⟨_,rfl⟩
 rw[hM] at HG ⊢
 have HM:=Lib.hid hM
 clear hM
 go_enter Tryz.func27,Tryz.ntmps27
 go_wp2_with fail
 refine(HP.out _ (by go_grown)).mono ?_
 rintro e w1 ⟨rfl,hb⟩
 have H1:=Lib.hid (HST.out.below hb)
 have k0:=H1.out.box.cell
 obtain⟨k1,k2,_,_⟩:=H1.out.itm
 clear hb
 go_wp2_with fail
 refine(HK.out _ H1.out.bel).mono ?_
 rintro e w2 ⟨rfl,hb⟩
 have H2:=Lib.hid (H1.out.below hb)
 have HV2:=Lib.hid (HV.out.below H2.out.bel)
 clear hb k0 k1 k2 HP HK H1 HST
 have k0:=H2.out.box.cell
 have hi:(i:Int)≤(l.length:Int):=by omega
 have hi2:(i:Int)≤(cap:Int):=by omega
 go_upto_region 6 with fail
 go_cut [12] (fun q wx=>ItsAt wx q (l.drop i)∧wx=w2)
 case first =>
  cases a with
  | none =>
   have hl0:l=[]:=by
    obtain⟨_,_,e,_,_,hc⟩:=HV.out
    cases l with
    | nil=>rfl
    | cons t l=>obtain⟨g,off,ha,_⟩:=hc 0 t rfl;cases e;cases ha
   subst hl0
   obtain rfl:i=0:=by simpa using hle
   go_wp2_with fail
   go_meet
   case rel=>exact⟨HV2.out,rfl⟩
  | some ad =>
   by_cases hci:cap=i
   ·subst hci
    obtain rfl:cap=l.length:=by omega
    go_wp2_with fail
    go_meet
    case rel=>exact⟨by rw[List.drop_length];exact its_none _,rfl⟩
   ·go_wp2_with fail
    go_meet
    case rel=>exact⟨HV2.out.cut i hle,rfl⟩
 case rest =>
  obtain⟨hq,rfl⟩:=hcut
  generalize wc=w2 at *
  have HQ:=Lib.hid hq
  obtain⟨aq,cq,rfl,hcq,hmq,hcc⟩:=hq
  rw[List.length_drop] at *
  go_upto_if 35 with fail
  go_cut [12] (fun q wx=>ItsAt wx q (l.drop (if b then i+1 else i))∧wx=w2)
  case first =>
   cases b with
   | false =>
    clear hcc
    go_wp2_with fail
    go_meet
    case rel=>exact⟨HQ.out,rfl⟩
   | true =>
    have hlt:=HLT.out rfl
    obtain⟨g,off,rfl,_⟩:=hcc 0 (l[i]) (by simp)
    clear hcc
    by_cases hc1:cq=1
    ·subst hc1
     have hll:l.length - i=1:=by omega
     have hdd:l.drop (i+1)=[]:=List.drop_of_length_le (by omega)
     rw[hll] at *
     go_wp2_with fail
     go_meet
     case rel=>exact⟨by simp only[if_pos,hdd];exact its_none _,rfl⟩
    ·have hd:=HQ.out.cut 1 (by rw[List.length_drop];omega)
     rw[List.drop_drop,List.length_drop] at hd
     have HD:=Lib.hid hd
     have h1l:(1:Int)≤((l.length - i:Nat):Int):=by omega
     clear hd
     go_wp2_with fail
     go_meet
     case rel=>exact⟨HD.out,rfl⟩
  case rest =>
   obtain⟨hq2,rfl⟩:=hcut
   generalize wc=w2 at *
   have HQ2:=Lib.hid hq2
   obtain⟨aq2,cq2,rfl,_,_,_⟩:=hq2
   have HA:=Lib.hid (fun X (hX:Below w2.heap.size w2 X)=>put_app X a i (l.take i) (by rw[List.length_take];omega) (by omega) id t ((HV2.out.pre3 i hle).below hX))
   obtain⟨k1,k2,_,_⟩:=H2.out.itm
   clear hcc HLT HQ
   generalize (l.drop (if b=true then i+1 else i)).length=n2 at *
   go_upto_region 9 with fail
   go_cut [13] (fun q wx=>OwnIt wx (w2.heap.size+1) 69 q (l.take i++[(id,t)])∧Below w2.heap.size w2 wx)
   case first =>
    go_region_law (first|(refine step_append_run rfl (.tmp 42) (.tmp 45) 27 27 rfl (.slice a i i) (.slice (some ⟨w3.heap.size,0,none⟩) 1 1) (by simp[Act.eval,Act.put]) (by simp[Act.eval,Act.put]) hr ?_)|(go_simp;go_at_call 63;refine(HKE.out _).mono ?_;rintro e w3 ⟨rfl,hb⟩;have hb3:Below w2.heap.size w2 w3:=(by go_grown:Below w2.heap.size w2 _).trans (hb.mono (by simp));obtain⟨v',w4,hr,ho,hb4⟩:=HA.out w3 hb3;have k3:=(H2.out.below hb3).box.cell;have k4:∀ O,(w3.alloc O).cell? ⟨w.heap.size,0,none⟩=_:=fun O=>((H2.out.below hb3).box.alloc O).cell))
    all_goals
     go_wp2_with fail
     go_meet
     case rel=>exact⟨ho.mono (by have:=hb3.size;omega),hb3.trans (hb4.mono hb3.size)⟩
   case rest =>
    obtain⟨ho,hb4⟩:=hcut
    generalize wc=w4 at *
    have hsz:w2.heap.size+1<w4.heap.size:=by
     rcases ho.form with ⟨_,h⟩|⟨g,cp,_,h1,h2,_⟩
     ·simp at h
     ·omega
    have hlen:(l.take i++[(id,t)]).length+(l.drop (if b=true then i+1 else i)).length≤1000000:=by
     rw[List.length_append,List.length_take,List.length_drop];simp;omega
    obtain⟨v5,w5,hr5,ho5,hg5⟩:=itappend_run w4 (w2.heap.size+1) 27 69 27 _ Tryz.underlying27 infoPit rfl u13 (.slice aq2 n2 cq2) _ _ ho (HQ2.out.below hb4) hlen (by omega)
    have hb5:Below (w2.heap.size+1) w4 w5:=(Below.refl _ _).grown hg5 (by omega) (fun k hk=>(ho.lt k hk).1)
    have H5:=Lib.hid ((H2.out.below hb4).lower hb5 (by have:=H2.out.room;omega))
    have HO5:=Lib.hid ho5
    obtain⟨a5,n5,c5,rfl⟩:∃ a n c,v5=.slice a n c:=by obtain⟨_,_,e⟩:=ho5.slice;exact⟨_,_,_,e⟩
    have r0:=H5.out.res.cell
    have r1:=H5.out.res.frz
    clear ho hb4 hg5 hb5 ho5 hlen k0 k1 k2 HA HQ2 H2
    go_wp2_with (first|(at_builtin;refine Lib.wpList_append_run _ rfl _ _ _ _ rfl _ _ rfl rfl _ _ hr5 ?_)|fail)
    refine bodyPost_ret (results_o2 rfl _ _ (w.heap.size+1) _ _ _ rfl rfl (H5.out.res.set _).cell Tryz.underlying29 rfl chart_size) rfl ⟨_,rfl,⟨by rw[← HM.out];exact HO5.out.itsAt.set H5.out.res _,HG.out⟩,H5.out.bel.setCell (p:=⟨w.heap.size+1,0,none⟩) (Nat.le_succ _) _⟩
theorem put_any (s:Value) (l:List It) (id:Nat) (t:ByteArray) (w:World) (h:ChS w s l) (hid:id<18446744073709551616) (ht:t.size≤maxLen) :
  Calls Tryz.prog 27 #[.agg #[s],.int .u64 id,.string t] w fun e w'=>∃ s',e=.returned (.tuple #[.agg #[s'],.int .i64 (putE l id t:Nat)])∧ChS w' s' (putL l id t)∧Below w.heap.size w w':=by
 by_cases h0:putE l id t=0
 ·exact put_yes_any s l id t w h hid ht h0
 ·exact put_no_any s l id t w h hid ht h0
theorem copy_run2 (W:World) (g o dLen dCap:Nat) (a:Addr) (sLen sCap:Nat) (cur:List Value) (T:TypeId) (cs:List Value) (hg:W.heap[g]?=some (.cells cur.toArray T (0,0))) (hn:cs.length=Nat.min sLen dLen*2)
  (hsrc:∀ j v,cs[j]?=some v→W.cell? (a.add j)=some v) (hfit:o+cs.length≤cur.length) (h1:∀ v ∈ cs,v.oneCell'=true) :
  ∃ W',(∀ ty,(Builtin.copy_ #[27,27] ty #[.slice (some ⟨g,o,none⟩) dLen dCap,.slice (some a) sLen sCap]).run Tryz.prog W=.ok (goInt (Nat.min sLen dLen)) W')∧W'.heap[g]?=some (.cells (splice cur o cs).toArray T (0,0))∧W.grownBy W' (some g):=by
 have hl:=run_loadCells_list (P:=Tryz.prog) W a cs hsrc
 have hst:=run_storeCells_at Tryz.prog g o T cs 0 cur.toArray W hg (by simpa using hfit) h1
 obtain⟨i0,hi,hz0,hz1,hz2⟩:=info_parts infoPit
 have hu:=Tryz.underlying27
 refine⟨W.setRow g (cur.take o++(cs++cur.drop (o+cs.length))).toArray,fun ty=>?_,?_,?_⟩
 ·have hn':Nat.min sLen dLen*2=cs.length:=hn.symm
  simp only[Nat.add_zero] at hst
  rw[show cur.take o++(cs++cur.drop (o+cs.length))=cur.toArray.toList.take o++cs++cur.toArray.toList.drop (o+cs.length) by simp]
  simp[Builtin.copy_,run_underlying hu,Builtin.lenOf,Builtin.firstCells,sizeOf,typeInfo,hi,hz1,hn',hl,hst]
 ·exact setRow_heap W g _ _ T _ hg
 ·exact⟨rfl,rfl,rfl,by simp[World.setRow],fun k hk hne=>setRow_other W g k _ (fun e=>hne (by rw[e]))⟩
theorem size_item (w:World):(sizeOf 69).run Tryz.prog w=.ok 2 w:=by
 obtain⟨i0,hi,hz0,hz1,hz2⟩:=info_parts infoPit
 simp[sizeOf,typeInfo,hi,hz1]
theorem over_run (w:World) (vb b oB lb cb:Nat) (hvb:vb≠b) (x y:Value) (tA tB:TypeId) (cur:Array Value) (hA:w.heap[vb]?=some (.cells #[x,y] tA (0,0))) (hB:w.heap[b]?=some (.cells cur tB (0,0))) (hc:cur.size≠0) :
  (callFunc 129 #[.slice (some ⟨vb,0,none⟩) 1 1,.slice (some ⟨b,oB,none⟩) lb cb]).run Tryz.prog w=.ok (.value (.bool false)) w:=by
 rw[run_callFunc_extern Tryz.func129 (by kernel_rfl) (by kernel_rfl) (by kernel_rfl) (e:=Extern.SlicesOverlaps.overlaps #[27,27] #[4]) (by kernel_rfl),
  Lib.run_overlaps_apart w 27 4 69 Tryz.underlying27 2 size_item ⟨vb,0,none⟩ ⟨b,oB,none⟩ 1 1 lb cb hvb tA tB 2 cur.size (by simp[World.shape?,hA]) (by simp[World.shape?,hB]) hc (by simp[World.frozen?,hA]) (by simp[World.frozen?,hA])]
 rfl
theorem wpList_copy_known {w:World} {ops:Array Oper} {rest:List Oper} {o:Oper} {a:Act} {Q:Exit→Act→World→Prop} (hgd:o.guard=none) (d s:Operand) (t t':TypeId)
  (ho:o.op=.call { callee:=.builtin .copy,args:=#[d,s],argTypes:=#[t,t'] }) (v u:Value) (hd:a.eval d=v) (hs:a.eval s=u) {v':Value} {w':World}
  (hr:(Builtin.copy_ #[t,t'] o.type #[v,u]).run Tryz.prog w=.ok v' w') (h:wpList Tryz.prog ops Q rest (a.put o.dst v') w'):wpList Tryz.prog ops Q (o :: rest) a w:=by
 refine wpList_plain hgd fun K hK=>?_
 unfold Oper.wp execOp
 simp only[ho,resolve,invoke,builtin,Sem.run_bind,Sem.run_pure,Result.andThen_ok,List.map_toArray,List.map_cons,List.map_nil,hd,hs,hr]
 exact hK _ _ h
theorem step_copy_known {ops:Array Oper} {o:Oper} {a:Act} {w:World} {K:Act→World→Prop} {Q:Exit→Act→World→Prop} {E:Prop}
  (hg:o.guard=none) (d x:Operand) (dT sT:TypeId) (hop:o.op=Op.call { callee:=Callee.builtin Builtin.copy,args:=#[d,x],argTypes:=#[dT,sT] })
  (v u:Value) (hd:a.eval d=v) (hx:a.eval x=u) {v':Value} {w':World} (hr:(Builtin.copy_ #[dT,sT] o.type #[v,u]).run Tryz.prog w=.ok v' w') (hK:K (a.put o.dst v') w') :
  if Region.wanted o (yielded ops a.tmps)=true then Oper.wp Tryz.prog o a w K Q else E:=by
 have hw:Region.wanted o (yielded ops a.tmps)=true:=by simp[Region.wanted,hg]
 rw[if_pos hw]
 unfold Oper.wp
 simp[execOp,hop,resolve,invoke,builtin,hd,hx,hr,Result.andThen]
 exact hK
def insI (l:List It) (i:Nat) (t:It):List It:=l.take i++t :: l.drop i
def InsEnd (l:List It) (i:Nat) (t:It) (B:Nat) (s:Value) (w:World) (e:Ending) (w':World):Prop:=∃ v',e=.returned v'∧OwnIt w' B 69 v' (insI l i t)∧w.grownBy w' s.ownBlock
set_option maxHeartbeats 1000000 in
theorem ins_end (s:Value) (l:List It) (t:It) (B vb:Nat) (w:World) (ho:OwnIt w B 69 s l) (hx:ItsAt w (.slice (some ⟨vb,0,none⟩) 1 1) [t]) (hl:l.length≤5000) (hB:B≤w.heap.size) :
  Calls Tryz.prog 64 #[s,.int .i64 l.length,.slice (some ⟨vb,0,none⟩) 1 1] w (InsEnd l l.length t B s w):=by
 obtain⟨v5,w5,hr5,ho5,hg5⟩:=itappend_run w B 27 69 27 _ Tryz.underlying27 infoPit rfl s (.slice (some ⟨vb,0,none⟩) 1 1) l [t] ho hx (by simp;omega) hB
 have HE:Hid (∀ e,e=Ending.returned v5→InsEnd l l.length t B s w e w5):=Lib.hid (fun e he=>⟨v5,he,by unfold insI;rw[List.take_length,List.drop_length];exact ho5,hg5⟩)
 have hee:((l.length:Int) == (l.length:Int))=true:=by simp
 rcases ho.form with ⟨rfl,rfl⟩|⟨g,cap,rfl,_,_,hle,hm,_⟩
 ·clear ho hx ho5 hg5
  go_enter Tryz.func64,Tryz.ntmps64
  go_wp2_with (first|(at_builtin;refine Lib.wpList_append_run _ rfl _ _ _ _ rfl _ _ rfl rfl _ _ hr5 ?_)|fail)
  go_ret
  exact HE.out _ rfl
 ·unfold maxLen at hm
  generalize l.length=n at *
  have hn:(n:Int)≤(cap:Int):=by omega
  clear ho hx ho5 hg5
  by_cases hc:cap=n
  ·subst hc
   go_enter Tryz.func64,Tryz.ntmps64
   go_wp2_with (first|(at_builtin;refine Lib.wpList_append_run _ rfl _ _ _ _ rfl _ _ rfl rfl _ _ hr5 ?_)|fail)
   go_ret
   exact HE.out _ rfl
  ·go_enter Tryz.func64,Tryz.ntmps64
   go_wp2_with (first|(at_builtin;refine Lib.wpList_append_run _ rfl _ _ _ _ rfl _ _ rfl rfl _ _ hr5 ?_)|fail)
   go_ret
   exact HE.out _ rfl
theorem ItsAt.pre {w:World} {a:Option Addr} {n cap:Nat} {l:List It} (h:ItsAt w (.slice a n cap) l) (k:Nat) (hk:k≤l.length):ItsAt w (.slice a k cap) (l.take k):=by
 obtain⟨a',cap',e,h1,h2,hc⟩:=h
 cases e
 have hl:(l.take k).length=k:=by rw[List.length_take];omega
 refine⟨_,cap,by rw[hl],by omega,h2,fun j t ht=>?_⟩
 have hj:j<k:=by have:=(List.getElem?_eq_some_iff.1 ht).1;omega
 rw[List.getElem?_take,if_pos hj] at ht
 exact hc j t ht
theorem ofR_step (all acc:List It) (k:Nat) (t:It) (h:all[k]?=some t):ofR (all.take k) acc (all.drop k)=if (getI t.1 (all.take k)).isSome then ([],22) else if putE acc t.1 t.2≠0 then ([],putE acc t.1 t.2) else ofR (all.take (k+1)) (putI t.1 t.2 acc) (all.drop (k+1)):=by
 rw[idrop_at all k t h,ofR,itake_at all k t h]
end Go.Proofs.YtdnmgpcfgcidbaaGreatDoor
