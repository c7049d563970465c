/- aEg aKa aKb aLb aKc aKd aKe aKr aKh aMa. -/
import Derived.Test.YtdnmgpcfgcidbaaGreatDoorTa2
namespace Go.Proofs.YtdnmgpcfgcidbaaGreatDoor
set_option linter.unusedVariables false
set_option linter.unusedSimpArgs false
open Go.RowKit
set_option maxRecDepth 20000
set_option maxRecDepth 20000 in
set_option maxHeartbeats 2000000 in
theorem rcontN_any (v:Value) (l:List En) (w:World) (hv:EnsAt w v l) (hm:MaysN l) (hl:l.length≤100000):Calls Tryz.prog 44 #[v] w fun x w'=>x=.returned (.int .i64 (conN l:Nat))∧Below w.heap.size w w':=by
 have HV:=Lib.hid hv
 have HFi:=Lib.hid (fun k f W hk h=>rfirstN_any v l k f W h hm hk)
 obtain⟨al,cap,rfl,hcap,hmx,hc⟩:=hv
 have HC:=Lib.hid hc
 have HM:=Lib.hid hm
 have HBd:=Lib.hid (fun i=>unl_len (pairN (l.take i)))
 clear hc hm
 go_enter Tryz.func44,Tryz.ntmps44
 go_wp2_with fail
 go_loopw [3,4] (fun n s wr=>∃ i c:Nat,i≤l.length∧s=.int .i64 i∧n=.int .i64 c∧Hid (c=conN (l.take i))∧c≤i∧Below w.heap.size w wr) (fun _ s _=>l.length - (intOf s).toNat)
 case atStart=>exact⟨0,0,Nat.zero_le _,rfl,rfl,Lib.hid rfl,by omega,Below.refl _ _⟩
 case round =>
  obtain⟨i,c,hi,rfl,rfl,HCo,hci,hbw⟩:=hrel
  by_cases hlt:i<l.length
  ·obtain⟨e,he⟩:∃ t,l[i]?=some t:=⟨_,List.getElem?_eq_getElem hlt⟩
   obtain⟨g,off,rfl,hg,l0,l1,l2,l3⟩:=HC.out i e he
   have hme:=HM.out e (List.mem_of_getElem? he)
   have HK:=Lib.hid (fun W=>rcheckN_any e W hme)
   have HF:=Lib.hid (fun W h=>HFi.out i e W he h)
   have HT:Hid (conN (l.take (i+1))=if ckN e=0∧0<e.rn∧(e.off,e.ln) ∉ pairN (l.take i) then conN (l.take i)+1 else conN (l.take i)):=Lib.hid (by rw[take_one l i e he,conN_snoc])
   have hi2:(i:Int)<(l.length:Int):=by omega
   have hwc:IntKind.i64.wrap ((c:Int)+1)=(c:Int)+1:=by rw[IntKind.wrap_i64] <;> omega
   have hcl:=keep1E (Below.refl _ _) ⟨cells4 hbw ⟨l0,l1,l2,l3⟩,hbw⟩
   have HCL:=Lib.hid hcl
   obtain⟨⟨k0,k1,k2,k3⟩,hbw2⟩:=hcl
   clear he hme l0 l1 l2 l3 hbw hbw2
   unfold eC at HK
   by_cases h0:ckN e=0
   ·rw[h0] at HK
    by_cases h1:0<e.rn
    ·have d1:decide (0<e.rn)=true:=by simpa using h1
     obtain⟨b,hb⟩:∃ b,decide ((e.off,e.ln) ∉ pairN (l.take i))=b:=⟨_,rfl⟩
     have HFb:=HF.out
     rw[hb] at HFb
     have HF2:=Lib.hid HFb
     clear HF HFb
     go_wp2_with fail
     refine(HK.out _).mono ?_
     rintro x w1 ⟨rfl,hb1⟩
     have hcl:=keep1E hb1 HCL.out
     have HCL1:=Lib.hid hcl
     obtain⟨⟨j0,j1,j2,j3⟩,hbw⟩:=hcl
     clear hb1 k0 k1 k2 k3 hbw HCL
     go_wp2_with fail
     refine(HF2.out _ (HV.out.below HCL1.out.2)).mono ?_
     rintro x w2 ⟨rfl,hb2⟩
     have hb3:=Lib.hid (HCL1.out.2.trans (hb2.mono HCL1.out.2.size))
     clear hb2 j0 j1 j2 j3 HCL1
     cases b
     ·have hc2:c=conN (l.take (i+1)):=by rw[HT.out,if_neg (fun h=>(by simpa using hb:¬ _) h.2.2)];exact HCo.out
      have HC2:=Lib.hid hc2
      clear hc2 hb h0 h1 HT HCo
      go_wp2_with fail
      go_roundw
      case rel=>exact⟨i+1,c,by omega,by go_num,rfl,HC2,by omega,hb3.out⟩
      case measure=>simp[intOf];omega
     ·have hc2:c+1=conN (l.take (i+1)):=by rw[HT.out,if_pos ⟨h0,h1,by simpa using hb⟩,HCo.out]
      have HC2:=Lib.hid hc2
      clear hc2 hb h0 h1 HT HCo
      go_wp2_with fail
      go_roundw
      case rel=>exact⟨i+1,c+1,by omega,by go_num,by go_num,HC2,by omega,hb3.out⟩
      case measure=>simp[intOf];omega
    ·have d1:decide (0<e.rn)=false:=by simpa using h1
     have hc2:c=conN (l.take (i+1)):=by rw[HT.out,if_neg (fun h=>h1 h.2.1)];exact HCo.out
     have HC2:=Lib.hid hc2
     clear hc2 h0 h1 HT HCo
     go_wp2_with fail
     refine(HK.out _).mono ?_
     rintro x w1 ⟨rfl,hb1⟩
     have hcl:=keep1E hb1 HCL.out
     have HCL1:=Lib.hid hcl.2
     obtain⟨⟨j0,j1,j2,j3⟩,hbw⟩:=hcl
     clear hb1 k0 k1 k2 k3 hbw HCL
     go_wp2_with fail
     go_roundw
     case rel=>exact⟨i+1,c,by omega,by go_num,rfl,HC2,by omega,HCL1.out⟩
     case measure=>simp[intOf];omega
   ·have hc2:c=conN (l.take (i+1)):=by rw[HT.out,if_neg (fun h=>h0 h.1)];exact HCo.out
    have HC2:=Lib.hid hc2
    obtain⟨r,hr⟩:∃ r,ckN e=r:=⟨_,rfl⟩
    rw[hr] at HK h0
    have hne:(r == 0)=false:=by simpa using h0
    clear hc2 h0 hr HT HCo
    go_wp2_with fail
    refine(HK.out _).mono ?_
    rintro x w1 ⟨rfl,hb1⟩
    have hcl:=keep1E hb1 HCL.out
    have HCL1:=Lib.hid hcl.2
    obtain⟨⟨j0,j1,j2,j3⟩,hbw⟩:=hcl
    clear hb1 k0 k1 k2 k3 hbw HCL
    go_wp2_with fail
    go_roundw
    case rel=>exact⟨i+1,c,by omega,by go_num,rfl,HC2,by omega,HCL1.out⟩
    case measure=>simp[intOf];omega
  ·obtain rfl:i=l.length:=by omega
   have hco:=HCo.out
   rw[List.take_length] at hco
   subst hco
   go_wp2_with fail
   go_ret
   exact⟨rfl,hbw⟩
theorem info_parts {P:Program} {t:TypeId} {z:Option Value} {s b:Nat} (h:(P.info? t).map (fun i=>(i.zero,i.size,i.bytes))=some (z,s,b)):∃ i,P.info? t=some i∧i.zero=z∧i.size=s∧i.bytes=b:=by
 cases hi:P.info? t with
 | none=>rw[hi] at h;cases h
 | some i =>
  rw[hi] at h
  simp only[Option.map_some,Option.some.injEq,Prod.mk.injEq] at h
  exact⟨i,rfl,h.1,h.2.1,h.2.2⟩
def EnsEnd (l:List En) (E:TypeId) (w:World) (x:Ending) (w':World):Prop:=∃ v',x=.returned v'∧OwnE w' w.heap.size E v' l∧Below w.heap.size w w'
end Go.Proofs.YtdnmgpcfgcidbaaGreatDoor
namespace Go.Proofs.YtdnmgpcfgcidbaaGreatDoor
set_option linter.unusedVariables false
set_option linter.unusedSimpArgs false
def totF:List ByteArray→Nat
 | []=>0
 | t :: l=>t.size+totF l
def catF:List ByteArray→ByteArray
 | []=>ByteArray.empty
 | t :: l=>t++catF l
def findF (s:ByteArray):List ByteArray→Nat→Option Nat
 | [],_=>none
 | t :: l,n=>if t=s then some n else findF s l (n+t.size)
def offV (o:Option Nat):Nat:=o.getD 0
def lenV (o:Option Nat) (s:ByteArray):Nat:=if o.isSome then s.size else 0
def eV (l:List ByteArray) (s:ByteArray):Nat:=if s.size=0 then 2 else if 65536<s.size then 5 else if (findF s l 0).isSome then 0 else if 2048≤l.length then 7 else 0
def isNew (l:List ByteArray) (s:ByteArray):Bool:=decide (eV l s=0) && (findF s l 0).isNone
def newL (l:List ByteArray) (s:ByteArray):List ByteArray:=if isNew l s then l++[s] else l
def offA (l:List ByteArray) (s:ByteArray):Nat:=if isNew l s then totF l else if eV l s=0 then offV (findF s l 0) else 0
def lenA (l:List ByteArray) (s:ByteArray):Nat:=if eV l s=0 then s.size else 0
structure GoodP (l:List ByteArray):Prop where
 pos:∀ t ∈ l,0<t.size
 short:∀ t ∈ l,t.size≤65536
 once:l.Nodup
 few:l.length≤2048
theorem goodP_nil:GoodP []:=⟨by simp,by simp,by simp,by simp⟩
theorem totF_append (a b:List ByteArray):totF (a++b)=totF a+totF b:=by
 induction a with
 | nil=>simp[totF]
 | cons t l ih=>rw[List.cons_append,totF,totF,ih];omega
theorem totF_one (s:ByteArray):totF [s]=s.size:=by simp[totF]
theorem totF_take (l:List ByteArray) (k:Nat):totF (l.take k)≤totF l:=by
 have h:=totF_append (l.take k) (l.drop k)
 rw[List.take_append_drop] at h
 omega
theorem totF_step (l:List ByteArray) (k:Nat) (t:ByteArray) (h:l[k]?=some t):totF (l.take (k+1))=totF (l.take k)+t.size:=by
 rw[List.take_add_one,h,totF_append]
 simp[totF]
theorem totF_bound (l:List ByteArray) (M:Nat) (h:∀ t ∈ l,t.size≤M):totF l≤l.length*M:=by
 induction l with
 | nil=>simp[totF]
 | cons t l ih =>
  have h1:=h t (by simp)
  have h2:=ih (fun x hx=>h x (by simp[hx]))
  rw[totF,List.length_cons,Nat.succ_mul]
  omega
theorem GoodP.tot {l:List ByteArray} (h:GoodP l):totF l≤134217728:=by
 have h1:=totF_bound l 65536 h.short
 have h2:=h.few
 omega
theorem mem_tot (l:List ByteArray) (t:ByteArray) (h:t ∈ l):t.size≤totF l:=by
 induction l with
 | nil=>simp at h
 | cons x l ih =>
  rw[totF]
  rcases List.mem_cons.1 h with rfl|h
  ·omega
  ·have:=ih h;omega
theorem cat_append (a b:List ByteArray):catF (a++b)=catF a++catF b:=by
 induction a with
 | nil=>simp[catF]
 | cons t l ih=>rw[List.cons_append,catF,catF,ih,ByteArray.append_assoc]
theorem catF_step (l:List ByteArray) (k:Nat) (t:ByteArray) (h:l[k]?=some t):catF (l.take (k+1))=catF (l.take k)++t:=by
 rw[List.take_add_one,h,cat_append]
 simp[catF]
theorem catF_size (l:List ByteArray):(catF l).size=totF l:=by
 induction l with
 | nil=>simp[catF,totF]
 | cons t l ih=>rw[catF,totF,ByteArray.size_append,ih]
theorem drop_at {α:Type} (l:List α) (k:Nat) (t:α) (h:l[k]?=some t):l.drop k=t :: l.drop (k+1):=by
 obtain⟨hk,rfl⟩:=List.getElem?_eq_some_iff.1 h
 exact List.drop_eq_getElem_cons hk
theorem findF_mem (s:ByteArray) (l:List ByteArray):∀ n,(findF s l n).isSome=true↔s ∈ l:=by
 induction l with
 | nil=>simp[findF]
 | cons t l ih =>
  intro n
  rw[findF]
  by_cases h:t=s
  ·simp[h]
  ·rw[if_neg h,ih]
   simp[h,Ne.symm h]
theorem findF_none (s:ByteArray) (l:List ByteArray) (n:Nat):findF s l n=none↔s ∉ l:=by
 rw[← findF_mem s l n]
 cases findF s l n <;> simp
theorem findF_append (s:ByteArray) (a b:List ByteArray):∀ n,findF s (a++b) n=match findF s a n with|some k=>some k|none=>findF s b (n+totF a):=by
 induction a with
 | nil=>intro n;simp[findF,totF]
 | cons t l ih =>
  intro n
  rw[List.cons_append,findF,findF]
  by_cases h:t=s
  ·simp[h]
  ·rw[if_neg h,if_neg h,ih,totF]
   rw[Nat.add_assoc]
theorem findF_le (s:ByteArray) (l:List ByteArray):∀ n k,findF s l n=some k→n≤k∧k+s.size≤n+totF l:=by
 induction l with
 | nil=>intro n k h;simp[findF] at h
 | cons t l ih =>
  intro n k h
  rw[findF] at h
  rw[totF]
  by_cases e:t=s
  ·rw[if_pos e] at h;injection h with h;subst e;omega
  ·rw[if_neg e] at h;have:=ih _ _ h;omega
theorem eV_iff (l:List ByteArray) (s:ByteArray):eV l s=0↔0<s.size∧s.size≤65536∧(s ∈ l∨l.length<2048):=by
 unfold eV
 have:=findF_mem s l 0
 by_cases h1:s.size=0
 ·simp[h1]
 ·rw[if_neg h1]
  by_cases h2:65536<s.size
  ·rw[if_pos h2];simp;omega
  ·rw[if_neg h2]
   by_cases h3:(findF s l 0).isSome=true
   ·rw[if_pos h3];simp only[true_iff];exact⟨by omega,by omega,.inl (this.1 h3)⟩
   ·rw[if_neg h3]
    have h4:s ∉ l:=fun h=>h3 (this.2 h)
    by_cases h5:2048≤l.length
    ·rw[if_pos h5];simp[h4];omega
    ·rw[if_neg h5];simp;omega
theorem isNew_iff (l:List ByteArray) (s:ByteArray):isNew l s=true↔0<s.size∧s.size≤65536∧s ∉ l∧l.length<2048:=by
 unfold isNew
 rw[Bool.and_eq_true,decide_eq_true_eq,eV_iff,Option.isNone_iff_eq_none,findF_none]
 constructor
 ·rintro⟨⟨h1,h2,h3⟩,h4⟩;exact⟨h1,h2,h4,h3.resolve_left h4⟩
 ·rintro⟨h1,h2,h3,h4⟩;exact⟨⟨h1,h2,.inr h4⟩,h3⟩
theorem GoodP.add {l:List ByteArray} (h:GoodP l) (s:ByteArray):GoodP (newL l s):=by
 unfold newL
 split
 ·rename_i hn
  obtain⟨h1,h2,h3,h4⟩:=(isNew_iff l s).1 hn
  refine⟨?_,?_,?_,by simp;omega⟩
  ·intro t ht;rcases List.mem_append.1 ht with ht|ht
   ·exact h.pos t ht
   ·rw[List.mem_singleton.1 ht];exact h1
  ·intro t ht;rcases List.mem_append.1 ht with ht|ht
   ·exact h.short t ht
   ·rw[List.mem_singleton.1 ht];exact h2
  ·rw[List.nodup_append]
   refine⟨h.once,by simp,fun a ha b hb=>?_⟩
   rw[List.mem_singleton.1 hb]
   intro e
   exact h3 (e ▸ ha)
 ·exact h
theorem newL_len (l:List ByteArray) (s:ByteArray):l.length≤(newL l s).length∧(newL l s).length≤l.length+1:=by
 unfold newL;split <;> simp
end Go.Proofs.YtdnmgpcfgcidbaaGreatDoor
namespace Go.Proofs.YtdnmgpcfgcidbaaGreatDoor
set_option linter.unusedVariables false
set_option linter.unusedSimpArgs false
open Go.RowKit
set_option maxRecDepth 20000
theorem ret_int {k:IntKind} {a b:Int} (h:a=b):Ending.returned (.int k a)=.returned (.int k b):=by rw[h]
theorem ret_str {a b:ByteArray} (h:a=b):Ending.returned (.string a)=.returned (.string b):=by rw[h]
theorem vcell_lt {w:World} {a:Addr} {v:Value} (h:w.cell? a=some v):a.block<w.heap.size:=by
 rcases Nat.lt_or_ge a.block w.heap.size with h'|h'
 ·exact h'
 ·simp[World.cell?,Array.getElem?_eq_none h'] at h
theorem vcell_later {w w':World} {a:Addr} {v:Value} (hb:Below w.heap.size w w') (h:w.cell? a=some v):w'.cell? a=some v:=(hb.cell (p:=a) (vcell_lt h)).trans h
def ValsAt (w:World) (v:Value) (xs:List Value):Prop:=∃ a cap,v=.slice a xs.length cap∧xs.length≤cap∧cap≤maxLen∧∀ k t,xs[k]?=some t→∃ g off,a=some ⟨g,off,none⟩∧g<w.heap.size∧w.cell? ⟨g,off+k,none⟩=some t
theorem valsAt_nil (w:World):ValsAt w (.slice none 0 0) []:=⟨none,0,rfl,Nat.le_refl _,by simp,fun k t h=>by simp at h⟩
theorem ValsAt.below {w w':World} {v:Value} {xs:List Value} (h:ValsAt w v xs) (hb:Below w.heap.size w w'):ValsAt w' v xs:=by
 obtain⟨a,cap,rfl,h1,h2,hc⟩:=h
 refine⟨a,cap,rfl,h1,h2,fun k t ht=>?_⟩
 obtain⟨g,off,ha,hg,c⟩:=hc k t ht
 exact⟨g,off,ha,Nat.lt_of_lt_of_le hg hb.size,vcell_later hb c⟩
def OwnV (w:World) (B:Nat) (E:TypeId) (v:Value) (xs:List Value):Prop:=w.ownsRow B E 1 v xs.length xs
theorem ownV_nil (w:World) (B:Nat) (E:TypeId):OwnV w B E (.slice none 0 0) []:=World.ownsRow_nil _ _ _ _
theorem OwnV.lt {w:World} {B:Nat} {E:TypeId} {v:Value} {xs:List Value} (h:OwnV w B E v xs):∀ k,v.ownBlock=some k→B≤k∧k<w.heap.size:=World.ownsRow.lt h
theorem OwnV.keep {w w':World} {B:Nat} {E:TypeId} {v:Value} {xs:List Value} (h:OwnV w B E v xs) (hk:∀ k,v.ownBlock=some k→w'.heap[k]?=w.heap[k]?):OwnV w' B E v xs:=by
 obtain⟨h1,h2⟩:=h
 refine⟨h1,?_⟩
 rcases h2 with h2|⟨g,cap,cur,hv,hg,hh,r⟩
 ·exact .inl h2
 ·refine .inr ⟨g,cap,cur,hv,hg,?_,r⟩
  rw[hk g (by rw[hv];rfl)];exact hh
theorem OwnV.below {w w':World} {B:Nat} {E:TypeId} {v:Value} {xs:List Value} (h:OwnV w B E v xs) (hb:Below w.heap.size w w'):OwnV w' B E v xs :=
 h.keep (fun k hk=>hb.block k (h.lt k hk).2)
theorem OwnV.form {w:World} {B:Nat} {E:TypeId} {v:Value} {xs:List Value} (h:OwnV w B E v xs) :
  (v=.slice none 0 0∧xs=[])∨∃ g cap,v=.slice (some ⟨g,0,none⟩) xs.length cap∧B≤g∧g<w.heap.size∧xs.length≤cap∧cap≤maxLen∧(∀ j,j<xs.length→w.cell? ⟨g,j,none⟩=xs[j]?)∧∀ j,w.frozen? ⟨g,j,none⟩=false:=by
 have hlt:=h.lt
 have h':=h
 obtain⟨h1,h2⟩:=h
 rcases h2 with ⟨rfl,hn⟩|⟨g,cap,cur,rfl,hg,hh,hle,hm,_⟩
 ·exact .inl ⟨rfl,List.eq_nil_of_length_eq_zero hn⟩
 ·exact .inr ⟨g,cap,rfl,hg,(hlt g rfl).2,hle,hm,fun j hj=>World.ownsRow.cellAt h' j (by omega),fun j=>World.ownsRow.frozenAt h' j⟩
theorem OwnV.valsAt {w:World} {B:Nat} {E:TypeId} {v:Value} {xs:List Value} (h:OwnV w B E v xs):ValsAt w v xs:=by
 rcases h.form with ⟨rfl,rfl⟩|⟨g,cap,rfl,hg,hl,h1,h2,hc,_⟩
 ·exact valsAt_nil w
 ·refine⟨_,cap,rfl,h1,h2,fun k t ht=>⟨g,0,rfl,hl,?_⟩⟩
  have hk:=(List.getElem?_eq_some_iff.1 ht).1
  rw[Nat.zero_add,hc k hk];exact ht
theorem vals_conv {w:World} {B:Nat} {E:TypeId} {v:Value} {n:Nat} {xs ys:List Value} (h:w.ownsRow B E 1 v n ys) (hn:n=xs.length) (he:ys=xs):OwnV w B E v xs:=by
 subst hn;subst he;exact h
theorem vappend_run (W:World) (B:Nat) (TS E ty:TypeId) (z:Value) (bytes:Nat) (ht:Tryz.prog.underlying TS=some (.slice E)) (hI:(Tryz.prog.info? E).map (fun i=>(i.zero,i.size,i.bytes))=some (some z,1,bytes)) (hzs:z.cells.size=1) (hby:bytes≤64)
  (v x:Value) (L xs:List Value) (hown:OwnV W B E v L) (hx:ValsAt W x xs) (h1:∀ u ∈ xs,u.oneCell'=true) (hl:L.length+xs.length≤1000000000) (hb:B≤W.heap.size) :
  ∃ v' w',(Builtin.append_ #[TS,TS] ty #[v,x]).run Tryz.prog W=.ok v' w'∧OwnV w' B E v' (L++xs)∧W.grownBy w' v.ownBlock:=by
 obtain⟨i0,hi,hz0,hz1,hz2⟩:=info_parts hI
 obtain⟨a,cap,rfl,h1',h2,hc⟩:=hx
 cases a with
 | none =>
  have hl0:xs=[]:=by
   cases xs with
   | nil=>rfl
   | cons t l=>obtain⟨g,off,ha,_⟩:=hc 0 t rfl;cases ha
  subst hl0
  refine⟨v,W,?_,by rw[List.append_nil];exact hown,World.grownBy.refl _ _⟩
  rcases hown.2 with ⟨rfl,hn⟩|⟨g,cap2,cur,rfl,hbg,hg,hnc,hcm,hcs,htake⟩
  ·simp[Builtin.append_,run_underlying ht,sizeOf,typeInfo,hi,Builtin.lenOf,Builtin.firstCells,loadCells,loadCellsFrom]
  ·simp[Builtin.append_,run_underlying ht,sizeOf,typeInfo,hi,Builtin.lenOf,Builtin.firstCells,loadCells,loadCellsFrom,hnc,storeCells]
 | some ad =>
  have hnews:∀ j u,xs[j]?=some u→W.cell? (ad.add j)=some u:=by
   intro j u hu
   obtain⟨g,off,ha,_,c⟩:=hc j u hu
   injection ha with ha
   subst ha
   have hadd:(⟨g,off,none⟩:Addr).add j=⟨g,off+j,none⟩:=by simp[Addr.add]
   rw[hadd]
   exact c
  have hbb:(L.length+xs.length)*bytes≤1000000000*64:=Nat.mul_le_mul hl hby
  obtain⟨v',w',hr,h2,h3,h4⟩:=run_append_own (P:=Tryz.prog) W B TS ty E i0 _ 1 bytes ht hi hz0 hz1 hz2 hzs (by omega) v L.length L hown ad xs.length cap xs (by omega) hnews h1 (by unfold maxLen;omega) (by omega) hb
  exact⟨v',w',hr,vals_conv h2 (by simp) rfl,h3⟩
def strL (l:List ByteArray):List Value:=l.map Value.string
theorem strL_len (l:List ByteArray):(strL l).length=l.length:=by simp[strL]
theorem strL_at (l:List ByteArray) (k:Nat):(strL l)[k]?=l[k]?.map Value.string:=by simp[strL]
def StrsAt (w:World) (v:Value) (l:List ByteArray):Prop:=∃ a cap,v=.slice a l.length cap∧l.length≤cap∧cap≤maxLen∧∀ k t,l[k]?=some t→∃ g off,a=some ⟨g,off,none⟩∧g<w.heap.size∧w.cell? ⟨g,off+k,none⟩=some (.string t)
theorem StrsAt.vals {w:World} {v:Value} {l:List ByteArray} (h:StrsAt w v l):ValsAt w v (strL l):=by
 obtain⟨a,cap,rfl,h1,h2,hc⟩:=h
 refine⟨a,cap,by rw[strL_len],by rw[strL_len];exact h1,h2,fun k t ht=>?_⟩
 rw[strL_at] at ht
 obtain⟨s,hs,rfl⟩:=Option.map_eq_some_iff.1 ht
 exact hc k s hs
theorem ValsAt.strs {w:World} {v:Value} {l:List ByteArray} (h:ValsAt w v (strL l)):StrsAt w v l:=by
 obtain⟨a,cap,hv,h1,h2,hc⟩:=h
 rw[strL_len] at hv h1
 exact⟨a,cap,hv,h1,h2,fun k t ht=>hc k (.string t) (by rw[strL_at,ht];rfl)⟩
theorem StrsAt.below {w w':World} {v:Value} {l:List ByteArray} (h:StrsAt w v l) (hb:Below w.heap.size w w'):StrsAt w' v l:=(h.vals.below hb).strs
theorem strsAt_nil (w:World):StrsAt w (.slice none 0 0) []:=(valsAt_nil w).strs (l:=[])
theorem strL_one (l:List ByteArray):∀ u ∈ strL l,u.oneCell'=true:=by
 intro u hu
 obtain⟨s,_,rfl⟩:=List.mem_map.1 hu
 rfl
theorem strL_append (a b:List ByteArray):strL (a++b)=strL a++strL b:=by simp[strL]
theorem infoStr:(Tryz.prog.info? 9).map (fun i=>(i.zero,i.size,i.bytes))=some (some (.string { data:=#[] }),1,16):=by kernel_rfl
theorem sappend_run (W:World) (B:Nat) (ty:TypeId) (v x:Value) (L l:List ByteArray) (hown:OwnV W B 9 v (strL L)) (hx:StrsAt W x l) (hl:L.length+l.length≤1000000000) (hb:B≤W.heap.size) :
  ∃ v' w',(Builtin.append_ #[98,98] ty #[v,x]).run Tryz.prog W=.ok v' w'∧OwnV w' B 9 v' (strL (L++l))∧W.grownBy w' v.ownBlock:=by
 rw[strL_append]
 exact vappend_run W B 98 9 ty _ 16 Tryz.underlying98 infoStr rfl (by omega) v x (strL L) (strL l) hown hx.vals (strL_one l) (by rw[strL_len,strL_len];exact hl) hb
theorem str_yes {a b:ByteArray} (h:a=b):(a.toList == b.toList)=true:=by rw[h];simp
theorem str_no {a b:ByteArray} (h:¬ a=b):(a.toList == b.toList)=false:=by
 rw[ByteArray.toList_eq,ByteArray.toList_eq,beq_eq_false_iff_ne]
 intro e
 exact h (ByteArray.ext (Array.toList_inj.1 e))
theorem heap_new (w:World) (o:Obj):(w.alloc o).heap[w.heap.size]?=some o:=by
 show (w.heap.push o)[w.heap.size]?=_
 simp
theorem rct_size:(Tryz.prog.info? 182).map (·.size)=some 2:=by kernel_rfl
theorem pct_size:(Tryz.prog.info? 147).map (·.size)=some 2:=by kernel_rfl
theorem two_load (w:World) (g:Nat) (ty:TypeId) (x y:Value) (d:TypeDesc) (c0:w.cell? ⟨g,0,none⟩=some x) (c1:w.cell? ⟨g,1,none⟩=some y)
  (hu:Tryz.prog.underlying ty=some d) (hd:(match d with|.struct _|.array _ _=>true|_=>false)=true) (hi:(Tryz.prog.info? ty).map (·.size)=some 2) :
  (loadVar ty ⟨g,0,none⟩).run Tryz.prog w=.ok (.agg #[x,y]) w:=by
 have hl:(loadCells ⟨g,0,none⟩ 2).run Tryz.prog w=.ok #[x,y] w :=
  run_loadCells_list (P:=Tryz.prog) w ⟨g,0,none⟩ [x,y] (fun j v hv=>by
   have hadd:(⟨g,0,none⟩:Addr).add j=⟨g,j,none⟩:=by unfold Addr.add;split <;> simp_all
   rw[hadd]
   match j,hv with
   | 0,hv=>simp at hv;rw[c0,hv]
   | 1,hv=>simp at hv;rw[c1,hv]
   | j+2,hv=>simp at hv)
 cases hq:Tryz.prog.info? ty with
 | none=>simp[hq] at hi
 | some i =>
  have hs:i.size=2:=by simpa[hq] using hi
  have hagg:(isAgg ty).run Tryz.prog w=.ok true w:=by
   unfold isAgg
   rw[Sem.run_bind,run_underlying hu w]
   cases d <;> simp_all
  simp[loadVar,Sem.run_bind,hagg,sizeOf,typeInfo,hq,hs,hl]
theorem results_ct {fn:Func} {p q:Tmp} {ty:TypeId} (h:fn.results=#[.cell p ty,.tmp q]) (tmps:Array Value) (w:World) (g:Nat) (x y v:Value) (d:TypeDesc) (hp:tmps.getD p undef=.pointer (some ⟨g,0,none⟩)) (hq:tmps.getD q undef=v) (c0:w.cell? ⟨g,0,none⟩=some x) (c1:w.cell? ⟨g,1,none⟩=some y)
  (hu:Tryz.prog.underlying ty=some d) (hd:(match d with|.struct _|.array _ _=>true|_=>false)=true) (hi:(Tryz.prog.info? ty).map (·.size)=some 2) :
  (results fn tmps).run Tryz.prog w=.ok (.tuple #[.agg #[x,y],v]) w:=by
 have hl:=two_load w g ty x y d c0 c1 hu hd hi
 have hp':tmps[p]?.getD undef=.pointer (some ⟨g,0,none⟩):=by simpa using hp
 have hq':tmps[q]?.getD undef=v:=by simpa using hq
 simp[results,h,hp',hq',asAddr,hl]
theorem results_ct3 {fn:Func} {p q r:Tmp} {ty:TypeId} (h:fn.results=#[.cell p ty,.tmp q,.tmp r]) (tmps:Array Value) (w:World) (g:Nat) (x y v u:Value) (d:TypeDesc) (hp:tmps.getD p undef=.pointer (some ⟨g,0,none⟩)) (hq:tmps.getD q undef=v) (hr:tmps.getD r undef=u) (c0:w.cell? ⟨g,0,none⟩=some x) (c1:w.cell? ⟨g,1,none⟩=some y)
  (hu:Tryz.prog.underlying ty=some d) (hd:(match d with|.struct _|.array _ _=>true|_=>false)=true) (hi:(Tryz.prog.info? ty).map (·.size)=some 2) :
  (results fn tmps).run Tryz.prog w=.ok (.tuple #[.agg #[x,y],v,u]) w:=by
 have hl:=two_load w g ty x y d c0 c1 hu hd hi
 have hp':tmps[p]?.getD undef=.pointer (some ⟨g,0,none⟩):=by simpa using hp
 have hq':tmps[q]?.getD undef=v:=by simpa using hq
 have hr':tmps[r]?.getD undef=u:=by simpa using hr
 simp[results,h,hp',hq',hr',asAddr,hl]
theorem results_ct4 {fn:Func} {o p q r:Tmp} {ty:TypeId} (h:fn.results=#[.tmp o,.cell p ty,.tmp q,.tmp r]) (tmps:Array Value) (w:World) (g:Nat) (z x y v u:Value) (d:TypeDesc) (ho:tmps.getD o undef=z) (hp:tmps.getD p undef=.pointer (some ⟨g,0,none⟩)) (hq:tmps.getD q undef=v) (hr:tmps.getD r undef=u) (c0:w.cell? ⟨g,0,none⟩=some x) (c1:w.cell? ⟨g,1,none⟩=some y)
  (hu:Tryz.prog.underlying ty=some d) (hd:(match d with|.struct _|.array _ _=>true|_=>false)=true) (hi:(Tryz.prog.info? ty).map (·.size)=some 2) :
  (results fn tmps).run Tryz.prog w=.ok (.tuple #[z,.agg #[x,y],v,u]) w:=by
 have hl:=two_load w g ty x y d c0 c1 hu hd hi
 have ho':tmps[o]?.getD undef=z:=by simpa using ho
 have hp':tmps[p]?.getD undef=.pointer (some ⟨g,0,none⟩):=by simpa using hp
 have hq':tmps[q]?.getD undef=v:=by simpa using hq
 have hr':tmps[r]?.getD undef=u:=by simpa using hr
 simp[results,h,ho',hp',hq',hr',asAddr,hl]
def Two (w:World) (g:Nat) (x y:Value):Prop:=w.cell? ⟨g,0,none⟩=some x∧w.cell? ⟨g,1,none⟩=some y∧w.frozen? ⟨g,0,none⟩=false∧w.frozen? ⟨g,1,none⟩=false
theorem Two.lt {w:World} {g:Nat} {x y:Value} (h:Two w g x y):g<w.heap.size:=vcell_lt h.1
theorem Two.below {w w':World} {g:Nat} {x y:Value} (h:Two w g x y) (hb:Below w.heap.size w w'):Two w' g x y :=
 ⟨vcell_later hb h.1,vcell_later hb h.2.1,(hb.frozen (p:=⟨g,0,none⟩) h.lt).trans h.2.2.1,(hb.frozen (p:=⟨g,1,none⟩) h.lt).trans h.2.2.2⟩
theorem Two.alloc {w:World} {g:Nat} {x y:Value} (h:Two w g x y) (o:Obj):Two (w.alloc o) g x y:=h.below (Below.alloc (Below.refl _ _) (Nat.le_refl _) _)
theorem two_new (w:World) (x y:Value) (T:TypeId):Two (w.alloc (.cells #[x,y] T)) w.heap.size x y:=⟨by simp[go_sem],by simp[go_sem],by simp[go_sem],by simp[go_sem]⟩
theorem Two.set {w:World} {g:Nat} {x y:Value} (h:Two w g x y) (x' y':Value):Two ((w.setCell ⟨g,0,none⟩ x').setCell ⟨g,1,none⟩ y') g x' y':=by
 obtain⟨h0,h1,h2,h3⟩:=h
 have e1:(w.setCell ⟨g,0,none⟩ x').cell? ⟨g,1,none⟩=some y:=by rw[World.cell?_setCell_other (h:=by simp),h1]
 refine⟨?_,World.cell?_setCell_same _ _ _ e1,by simpa using h2,by simpa using h3⟩
 rw[World.cell?_setCell_other (h:=by simp)]
 exact World.cell?_setCell_same _ _ _ h0
theorem below_two {w w1:World} {B g:Nat} (hb:Below B w w1) (hg:B≤g) (x y:Value):Below B w ((w1.setCell ⟨g,0,none⟩ x).setCell ⟨g,1,none⟩ y):=(hb.setCell hg _).setCell hg _
theorem Two.lower {w w':World} {B g:Nat} {x y:Value} (h:Two w g x y) (hb:Below B w w') (hg:g<B):Two w' g x y :=
 ⟨(hb.cell (p:=⟨g,0,none⟩) hg).trans h.1,(hb.cell (p:=⟨g,1,none⟩) hg).trans h.2.1,(hb.frozen (p:=⟨g,0,none⟩) hg).trans h.2.2.1,(hb.frozen (p:=⟨g,1,none⟩) hg).trans h.2.2.2⟩
theorem OwnV.slice {w:World} {B:Nat} {E:TypeId} {v:Value} {xs:List Value} (h:OwnV w B E v xs):∃ a cap,v=.slice a xs.length cap:=by
 rcases h.form with ⟨rfl,rfl⟩|⟨g,cap,rfl,_⟩
 ·exact⟨none,0,rfl⟩
 ·exact⟨_,cap,rfl⟩
theorem str_lit (w:World) (s:ByteArray) (T:TypeId):StrsAt (w.alloc (.cells #[.string s] T)) (.slice (some ⟨w.heap.size,0,none⟩) 1 1) [s]:=by
 refine⟨_,1,rfl,Nat.le_refl _,by unfold maxLen;omega,fun k t ht=>⟨w.heap.size,0,rfl,by simp,?_⟩⟩
 match k,ht with
 | 0,ht=>simp only[List.getElem?_cons_zero,Option.some.injEq] at ht;subst ht;simp[go_sem]
 | k+1,ht=>simp at ht
theorem OwnV.two {w:World} {B g:Nat} {E:TypeId} {v:Value} {xs:List Value} (h:OwnV w B E v xs) (hg:g<B) (x y:Value):OwnV ((w.setCell ⟨g,0,none⟩ x).setCell ⟨g,1,none⟩ y) B E v xs:=by
 refine h.keep (fun k hk=>?_)
 have:=(h.lt k hk).1
 rw[Below.heap_setCell _ _ _ _ (by simp;omega),Below.heap_setCell _ _ _ _ (by simp;omega)]
def flatI:List It→List Value
 | []=>[]
 | t :: l=>.int .u64 t.1 :: .string t.2 :: flatI l
theorem flatI_len (l:List It):(flatI l).length=l.length*2:=by
 induction l with
 | nil=>rfl
 | cons t l ih=>simp[flatI,ih];omega
theorem flatI_append (a b:List It):flatI (a++b)=flatI a++flatI b:=by
 induction a with
 | nil=>rfl
 | cons t l ih=>simp[flatI,ih]
theorem flatI_at (l:List It):∀ (k:Nat) (t:It),l[k]?=some t→(flatI l)[k*2]?=some (.int .u64 t.1)∧(flatI l)[k*2+1]?=some (.string t.2):=by
 induction l with
 | nil=>intro k t h;simp at h
 | cons s l ih =>
  intro k t h
  cases k with
  | zero=>simp at h;subst h;simp[flatI]
  | succ k =>
   have:=ih k t (by simpa using h)
   rw[show (k+1)*2=k*2+1+1 by omega]
   simpa[flatI] using this
theorem flatI_one (l:List It):∀ u ∈ flatI l,u.oneCell'=true:=by
 induction l with
 | nil=>intro u h;simp[flatI] at h
 | cons t l ih =>
  intro u h
  simp only[flatI,List.mem_cons] at h
  rcases h with rfl|rfl|h
  ·rfl
  ·rfl
  ·exact ih u h
def ItsAt (w:World) (v:Value) (l:List It):Prop:=∃ a cap,v=.slice a l.length cap∧l.length≤cap∧cap≤maxLen∧∀ k t,l[k]?=some t→∃ g off,a=some ⟨g,off,none⟩∧g<w.heap.size∧w.cell? ⟨g,off+k*2,none⟩=some (.int .u64 t.1)∧w.cell? ⟨g,off+k*2+1,none⟩=some (.string t.2)
theorem its_nil (w:World):ItsAt w (.slice none 0 0) []:=⟨none,0,rfl,Nat.le_refl _,by simp,fun k t h=>by simp at h⟩
theorem ItsAt.below {w w':World} {v:Value} {l:List It} (h:ItsAt w v l) (hb:Below w.heap.size w w'):ItsAt w' v l:=by
 obtain⟨a,cap,rfl,h1,h2,hc⟩:=h
 refine⟨a,cap,rfl,h1,h2,fun k t ht=>?_⟩
 obtain⟨g,off,ha,hg,c0,c1⟩:=hc k t ht
 exact⟨g,off,ha,Nat.lt_of_lt_of_le hg hb.size,vcell_later hb c0,vcell_later hb c1⟩
def OwnIt (w:World) (B:Nat) (E:TypeId) (v:Value) (l:List It):Prop:=w.ownsRow B E 2 v l.length (flatI l)
theorem ownIt_nil (w:World) (B:Nat) (E:TypeId):OwnIt w B E (.slice none 0 0) []:=World.ownsRow_nil _ _ _ _
theorem OwnIt.lt {w:World} {B:Nat} {E:TypeId} {v:Value} {l:List It} (h:OwnIt w B E v l):∀ k,v.ownBlock=some k→B≤k∧k<w.heap.size:=World.ownsRow.lt h
theorem OwnIt.below {w w':World} {B:Nat} {E:TypeId} {v:Value} {l:List It} (h:OwnIt w B E v l) (hb:Below w.heap.size w w'):OwnIt w' B E v l:=by
 have hlt:=h.lt
 obtain⟨h1,h2⟩:=h
 refine⟨h1,?_⟩
 rcases h2 with h2|⟨g,cap,cur,hv,hg,hh,r⟩
 ·exact .inl h2
 ·refine .inr ⟨g,cap,cur,hv,hg,?_,r⟩
  rw[hb.block g (hlt g (by rw[hv];rfl)).2];exact hh
theorem OwnIt.mono {w:World} {B B':Nat} {E:TypeId} {v:Value} {l:List It} (h:OwnIt w B E v l) (hb:B'≤B):OwnIt w B' E v l:=by
 obtain⟨h1,h2⟩:=h
 refine⟨h1,?_⟩
 rcases h2 with h2|⟨g,cap,cur,hv,hg,r⟩
 ·exact .inl h2
 ·exact .inr ⟨g,cap,cur,hv,Nat.le_trans hb hg,r⟩
theorem OwnIt.itsAt {w:World} {B:Nat} {E:TypeId} {v:Value} {l:List It} (h:OwnIt w B E v l):ItsAt w v l:=by
 have hlt:=h.lt
 have h':=h
 obtain⟨h1,h2⟩:=h
 rcases h2 with ⟨rfl,hn⟩|⟨g,cap,cur,rfl,hg,hh,hle,hm,_⟩
 ·obtain rfl:l=[]:=List.eq_nil_of_length_eq_zero hn
  exact its_nil w
 ·refine⟨_,cap,rfl,hle,hm,fun k t ht=>⟨g,0,rfl,(hlt g rfl).2,?_⟩⟩
  have hk:=(List.getElem?_eq_some_iff.1 ht).1
  obtain⟨f0,f1⟩:=flatI_at l k t ht
  rw[Nat.zero_add]
  exact⟨(World.ownsRow.cellAt h' (k*2) (by omega)).trans f0,(World.ownsRow.cellAt h' (k*2+1) (by omega)).trans f1⟩
theorem pit_size:(Tryz.prog.info? 69).map (·.size)=some 2:=by kernel_rfl
theorem infoIt:(Tryz.prog.info? 74).map (fun i=>(i.zero,i.size,i.bytes))=some (some (.agg #[.int .u64 0,.string { data:=#[] }]),2,24):=by kernel_rfl
theorem infoPit:(Tryz.prog.info? 69).map (fun i=>(i.zero,i.size,i.bytes))=some (some (.agg #[.int .u64 0,.string { data:=#[] }]),2,24):=by kernel_rfl
theorem itappend_run (W:World) (B:Nat) (TS E ty:TypeId) (z:Value) (ht:Tryz.prog.underlying TS=some (.slice E)) (hI:(Tryz.prog.info? E).map (fun i=>(i.zero,i.size,i.bytes))=some (some z,2,24)) (hzs:z.cells.size=2)
  (v x:Value) (L m:List It) (hown:OwnIt W B E v L) (hx:ItsAt W x m) (hl:L.length+m.length≤1000000) (hb:B≤W.heap.size) :
  ∃ v' w',(Builtin.append_ #[TS,TS] ty #[v,x]).run Tryz.prog W=.ok v' w'∧OwnIt w' B E v' (L++m)∧W.grownBy w' v.ownBlock:=by
 obtain⟨a,cap,rfl,h1,h2,hc⟩:=hx
 have fin:∀ {w':World} {v':Value},w'.ownsRow B E 2 v' (L.length+m.length) (flatI L++flatI m)→OwnIt w' B E v' (L++m):=by
  intro w' v' h
  unfold OwnIt
  rw[flatI_append,List.length_append]
  exact h
 cases a with
 | none =>
  have hl0:m=[]:=by
   cases m with
   | nil=>rfl
   | cons t l=>obtain⟨g,off,ha,_⟩:=hc 0 t rfl;cases ha
  subst hl0
  refine⟨v,W,?_,by rw[List.append_nil];exact hown,World.grownBy.refl _ _⟩
  obtain⟨i0,hi,hz0,hz1,hz2⟩:=info_parts hI
  rcases hown.2 with ⟨rfl,hn⟩|⟨g,cap2,cur,rfl,hbg,hg,hnc,hcm,hcs,htake⟩
  ·simp[Builtin.append_,run_underlying ht,sizeOf,typeInfo,hi,Builtin.lenOf,Builtin.firstCells,loadCells,loadCellsFrom]
  ·simp[Builtin.append_,run_underlying ht,sizeOf,typeInfo,hi,Builtin.lenOf,Builtin.firstCells,loadCells,loadCellsFrom,hnc,storeCells]
 | some ad =>
  have hnews:∀ j u,(flatI m)[j]?=some u→W.cell? (ad.add j)=some u:=by
   intro j u hu
   have hj:j<m.length*2:=by rw[← flatI_len];exact(List.getElem?_eq_some_iff.1 hu).1
   obtain⟨t,ht⟩:∃ t,m[j / 2]?=some t:=⟨_,List.getElem?_eq_getElem (by omega)⟩
   obtain⟨g,off,ha,_,c0,c1⟩:=hc (j / 2) t ht
   obtain⟨f0,f1⟩:=flatI_at m (j / 2) t ht
   injection ha with ha
   subst ha
   have hadd:(⟨g,off,none⟩:Addr).add j=⟨g,off+j,none⟩:=by simp[Addr.add]
   rw[hadd]
   rcases(by omega:j=j / 2*2∨j=j / 2*2+1) with e|e
   ·rw[e,f0] at hu;rw[← hu];rw[show off+j=off+j / 2*2 from by omega];exact c0
   ·rw[e,f1] at hu;rw[← hu];rw[show off+j=off+j / 2*2+1 from by omega];exact c1
  obtain⟨i0,hi,hz0,hz1,hz2⟩:=info_parts hI
  obtain⟨v',w',hr,h2,h3,h4⟩:=run_append_own (P:=Tryz.prog) W B TS ty E i0 _ 2 24 ht hi hz0 hz1 hz2 hzs (by omega) v L.length (flatI L) hown ad m.length cap (flatI m) (flatI_len m) hnews (flatI_one m) (by unfold maxLen;omega) (by omega) hb
  exact⟨v',w',hr,fin h2,h3⟩
theorem it_lit (w:World) (x:Nat) (s:ByteArray) (T:TypeId):ItsAt (w.alloc (.cells #[.int .u64 x,.string s] T)) (.slice (some ⟨w.heap.size,0,none⟩) 1 1) [(x,s)]:=by
 refine⟨_,1,rfl,Nat.le_refl _,by unfold maxLen;omega,fun k t ht=>⟨w.heap.size,0,rfl,by simp,?_⟩⟩
 match k,ht with
 | 0,ht=>simp only[List.getElem?_cons_zero,Option.some.injEq] at ht;subst ht;exact⟨by simp[go_sem],by simp[go_sem]⟩
 | k+1,ht=>simp at ht
set_option maxHeartbeats 1000000 in
theorem rtext_any (v:Value) (l:List ByteArray) (w:World) (hv:StrsAt w v l) (ht:totF l≤1000000000) :
  Calls Tryz.prog 92 #[v] w fun e w'=>e=.returned (.string (catF l))∧w'=w:=by
 obtain⟨al,cap,rfl,hcap,hmx,hc⟩:=hv
 have HC:=Lib.hid hc
 have hmx':l.length≤maxLen:=by omega
 unfold maxLen at hmx'
 clear hc
 go_enter Tryz.func92,Tryz.ntmps92
 go_wp2_with fail
 go_loop [3,4] (fun s i=>∃ k:Nat,k≤l.length∧i=.int .i64 k∧s=.string (catF (l.take k))) (fun _ i=>l.length - (intOf i).toNat)
 case atStart=>exact⟨0,Nat.zero_le _,rfl,by simp[catF];rfl⟩
 case round =>
  obtain⟨k,hk,rfl,rfl⟩:=hrel
  by_cases hlt:k<l.length
  ·obtain⟨t,htk⟩:∃ t,l[k]?=some t:=⟨_,List.getElem?_eq_getElem hlt⟩
   obtain⟨g,off,rfl,hg,hcell⟩:=HC.out k t htk
   have HS:=Lib.hid (catF_step l k t htk)
   have hsum:(catF (l.take k)).size+t.size≤9223372036854775807:=by
    have h1:=totF_step l k t htk
    have h2:=totF_take l (k+1)
    rw[catF_size]
    omega
   generalize catF (l.take k)=q at *
   go_wp2_with fail
   go_round
   case rel=>exact⟨k+1,by omega,by go_num,by rw[HS.out]⟩
   case measure=>simp[intOf];omega
  ·obtain rfl:k=l.length:=by omega
   rw[List.take_length]
   go_wp2_with fail
   go_ret
   exact⟨rfl,rfl⟩
set_option maxHeartbeats 1000000 in
theorem rfind_any (v:Value) (l:List ByteArray) (s:ByteArray) (w:World) (hv:StrsAt w v l) (ht:totF l≤1000000000) (hs:s.size≤1000000000) :
  Calls Tryz.prog 156 #[v,.string s] w fun e w'=>e=.returned (.tuple #[.agg #[.int .u64 (offV (findF s l 0):Nat),.int .u32 (lenV (findF s l 0) s:Nat)],.bool (findF s l 0).isSome])∧Below w.heap.size w w':=by
 obtain⟨al,cap,rfl,hcap,hmx,hc⟩:=hv
 have HC:=Lib.hid hc
 have hmx':l.length≤maxLen:=by omega
 unfold maxLen at hmx'
 clear hc
 go_enter Tryz.func156,Tryz.ntmps156
 go_wp2_with fail
 go_loop [6,7] (fun m i=>∃ k:Nat,k≤l.length∧i=.int .i64 k∧m=.int .i64 (totF (l.take k):Nat)∧findF s l 0=findF s (l.drop k) (totF (l.take k))) (fun _ i=>l.length - (intOf i).toNat)
 case atStart=>exact⟨0,Nat.zero_le _,rfl,by simp[totF],by simp[totF]⟩
 case round =>
  obtain⟨k,hk,rfl,rfl,hf⟩:=hrel
  have HF:=Lib.hid hf
  clear hf
  by_cases hlt:k<l.length
  ·obtain⟨t,htk⟩:∃ t,l[k]?=some t:=⟨_,List.getElem?_eq_getElem hlt⟩
   obtain⟨g,off,rfl,hg,hcell⟩:=HC.out k t htk
   have hcell':(w.alloc (.cells #[.int .u64 0,.int .u32 0] 182)).cell? ⟨g,off+k,none⟩=some (.string t):=vcell_later (Below.alloc (Below.refl _ _) (Nat.le_refl _) _) hcell
   have HS:=Lib.hid (totF_step l k t htk)
   have hq1:=totF_step l k t htk
   have hq2:=totF_take l (k+1)
   have HD:=Lib.hid (drop_at l k t htk)
   generalize totF (l.take k)=q at *
   rw[HD.out,findF] at HF
   by_cases he:t=s
   ·rw[if_pos he] at HF
    have hy:=str_yes he
    go_wp2_with fail
    refine bodyPost_ret (v:=.tuple #[.agg #[.int .u64 q,.int .u32 s.size],.bool true]) (results_ct rfl _ _ w.heap.size _ _ _ _ rfl rfl (by simp[go_sem]) (by simp[go_sem]) Tryz.underlying182 rfl rct_size) rfl ⟨?_,Below.alloc (Below.refl _ _) (Nat.le_refl _) _⟩
    rw[HF.out]
    simp[offV,lenV]
   ·rw[if_neg he] at HF
    have hy:=str_no he
    go_wp2_with fail
    go_round
    case rel=>exact⟨k+1,by omega,by go_num,by rw[HS.out];go_num,by rw[HS.out];exact HF.out⟩
    case measure=>simp[intOf];omega
  ·obtain rfl:k=l.length:=by omega
   rw[List.drop_length,findF] at HF
   rw[List.take_length]
   go_wp2_with fail
   refine bodyPost_ret (v:=.tuple #[.agg #[.int .u64 0,.int .u32 0],.bool false]) (results_ct rfl _ _ w.heap.size _ _ _ _ rfl rfl (by simp[go_sem]) (by simp[go_sem]) Tryz.underlying182 rfl rct_size) rfl ⟨?_,Below.alloc (Below.refl _ _) (Nat.le_refl _) _⟩
   rw[HF.out]
   simp[offV,lenV]
def RAddEnd (v:Value) (l:List ByteArray) (s:ByteArray) (w:World) (e:Ending) (w':World):Prop :=
 ∃ v',e=.returned (.tuple #[v',.agg #[.int .u64 (offA l s:Nat),.int .u32 (lenA l s:Nat)],.bool (isNew l s),.int .i64 (eV l s:Nat)])∧StrsAt w' v' (newL l s)∧Below w.heap.size w w'∧∀ a n c,v'=.slice (some a) n c→v'=v∨(w.heap.size≤a.block∧a.block<w'.heap.size)
theorem rfind_later (v:Value) (l:List ByteArray) (s:ByteArray) (w:World) (hv:StrsAt w v l) (ht:totF l≤1000000000) (hs:s.size≤1000000000) (W:World) (hb:Below w.heap.size w W) :
  Calls Tryz.prog 156 #[v,.string s] W fun e w'=>e=.returned (.tuple #[.agg #[.int .u64 (offV (findF s l 0):Nat),.int .u32 (lenV (findF s l 0) s:Nat)],.bool (findF s l 0).isSome])∧Below W.heap.size W w' :=
 rfind_any v l s W (hv.below hb) ht hs
theorem radd_none (v:Value) (l:List ByteArray) (s:ByteArray) (w:World) (hv:StrsAt w v l) (h1:s.size=0):Calls Tryz.prog 90 #[v,.string s] w (RAddEnd v l s w):=by
 have E:=Lib.hid (show eV l s=2 by unfold eV;rw[if_pos h1])
 have NW:=Lib.hid (show isNew l s=false by unfold isNew;rw[E.out];rfl)
 have OA:=Lib.hid (show offA l s=0 by unfold offA;rw[NW.out,E.out];rfl)
 have LA:=Lib.hid (show lenA l s=0 by unfold lenA;rw[E.out];rfl)
 have HN:=Lib.hid (fun w' (hb:Below w.heap.size w w')=>show StrsAt w' v (newL l s) by unfold newL;rw[NW.out];exact hv.below hb)
 have e1:(s.size:Int)=0:=by omega
 obtain⟨al,cap,rfl,hcap,hmx,hc⟩:=hv
 have HB:Hid (Below w.heap.size w (w.alloc (.cells #[.int .u64 0,.int .u32 0] 182))):=Lib.hid (Below.alloc (Below.refl _ _) (Nat.le_refl _) _)
 go_enter Tryz.func90,Tryz.ntmps90
 go_wp2_with fail
 refine bodyPost_ret (results_ct4 rfl _ _ w.heap.size _ _ _ _ _ _ rfl rfl rfl rfl (by simp[go_sem];rfl) (by simp[go_sem];rfl) Tryz.underlying182 rfl rct_size) rfl ⟨_,?_,HN.out _ HB.out,HB.out,fun _ _ _ _=>.inl rfl⟩
 rw[E.out,OA.out,LA.out,NW.out];rfl
theorem radd_long (v:Value) (l:List ByteArray) (s:ByteArray) (w:World) (hv:StrsAt w v l) (h1:65536<s.size):Calls Tryz.prog 90 #[v,.string s] w (RAddEnd v l s w):=by
 have E:=Lib.hid (show eV l s=5 by unfold eV;rw[if_neg (by omega),if_pos h1])
 have NW:=Lib.hid (show isNew l s=false by unfold isNew;rw[E.out];rfl)
 have OA:=Lib.hid (show offA l s=0 by unfold offA;rw[NW.out,E.out];rfl)
 have LA:=Lib.hid (show lenA l s=0 by unfold lenA;rw[E.out];rfl)
 have HN:=Lib.hid (fun w' (hb:Below w.heap.size w w')=>show StrsAt w' v (newL l s) by unfold newL;rw[NW.out];exact hv.below hb)
 have e1:((s.size:Int) == 0)=false:=by rw[beq_eq_false_iff_ne];omega
 obtain⟨al,cap,rfl,hcap,hmx,hc⟩:=hv
 have HB:Hid (Below w.heap.size w (w.alloc (.cells #[.int .u64 0,.int .u32 0] 182))):=Lib.hid (Below.alloc (Below.refl _ _) (Nat.le_refl _) _)
 go_enter Tryz.func90,Tryz.ntmps90
 go_wp2_with fail
 refine bodyPost_ret (results_ct4 rfl _ _ w.heap.size _ _ _ _ _ _ rfl rfl rfl rfl (by simp[go_sem];rfl) (by simp[go_sem];rfl) Tryz.underlying182 rfl rct_size) rfl ⟨_,?_,HN.out _ HB.out,HB.out,fun _ _ _ _=>.inl rfl⟩
 rw[E.out,OA.out,LA.out,NW.out];rfl
set_option maxHeartbeats 1000000 in
theorem radd_full (v:Value) (l:List ByteArray) (s:ByteArray) (w:World) (hv:StrsAt w v l) (ht:totF l≤1000000000) (h0:0<s.size) (h1:s.size≤65536) (hf:findF s l 0=none) (h2:2048≤l.length):Calls Tryz.prog 90 #[v,.string s] w (RAddEnd v l s w):=by
 have E:=Lib.hid (show eV l s=7 by unfold eV;rw[if_neg (by omega),if_neg (by omega),hf,if_neg (by simp),if_pos h2])
 have NW:=Lib.hid (show isNew l s=false by unfold isNew;rw[E.out];rfl)
 have OA:=Lib.hid (show offA l s=0 by unfold offA;rw[NW.out,E.out];rfl)
 have LA:=Lib.hid (show lenA l s=0 by unfold lenA;rw[E.out];rfl)
 have HN:=Lib.hid (fun w' (hb:Below w.heap.size w w')=>show StrsAt w' v (newL l s) by unfold newL;rw[NW.out];exact hv.below hb)
 have e1:((s.size:Int) == 0)=false:=by rw[beq_eq_false_iff_ne];omega
 have e2:¬ 65536<(s.size:Int):=by omega
 have HF:=Lib.hid (rfind_later v l s w hv ht (by omega))
 rw[hf] at HF
 obtain⟨al,cap,rfl,hcap,hmx,hc⟩:=hv
 have h2':(2048:Int)≤(l.length:Int):=by omega
 have hB0:Below w.heap.size w (w.alloc (.cells #[.int .u64 0,.int .u32 0] 182)):=Below.alloc (Below.refl _ _) (Nat.le_refl _) _
 have HB0:=Lib.hid hB0
 clear hB0 hc
 go_enter Tryz.func90,Tryz.ntmps90
 go_wp2_with fail
 refine(HF.out _ HB0.out).mono ?_
 rintro y w1 ⟨rfl,hb⟩
 have T1:Two w1 w.heap.size (.int .u64 0) (.int .u32 0):=(two_new w (.int .u64 0) (.int .u32 0) 182).below hb
 obtain⟨c0,c1,f0,f1⟩:=id T1
 have HT1:=Lib.hid T1
 clear T1
 have c2:w.heap.size<w1.heap.size:=by have:=hb.size;simp at this;omega
 have HB1:=Lib.hid (HB0.out.trans (hb.mono HB0.out.size))
 clear hb
 go_wp2_with fail
 have T2:=(HT1.out.set (.int .u64 0) (.int .u32 0)).alloc (.cells #[.int .u64 (offV none:Nat),.int .u32 (lenV none s:Nat)] 182)
 have HB:=(below_two HB1.out (Nat.le_refl _) (.int .u64 0) (.int .u32 0)).alloc (o:=.cells #[.int .u64 (offV none:Nat),.int .u32 (lenV none s:Nat)] 182) (by have:=HB1.out.size;simp;omega)
 refine bodyPost_ret (results_ct4 rfl _ _ w.heap.size _ _ _ _ _ _ rfl rfl rfl rfl T2.1 T2.2.1 Tryz.underlying182 rfl rct_size) rfl ⟨_,?_,HN.out _ HB,HB,fun _ _ _ _=>.inl rfl⟩
 rw[E.out,OA.out,LA.out,NW.out];rfl
set_option maxHeartbeats 1000000 in
theorem radd_found (v:Value) (l:List ByteArray) (s:ByteArray) (w:World) (hv:StrsAt w v l) (ht:totF l≤1000000000) (h0:0<s.size) (h1:s.size≤65536) (n:Nat) (hf:findF s l 0=some n):Calls Tryz.prog 90 #[v,.string s] w (RAddEnd v l s w):=by
 have E:=Lib.hid (show eV l s=0 by unfold eV;rw[if_neg (by omega),if_neg (by omega),hf,if_pos (by simp)])
 have NW:=Lib.hid (show isNew l s=false by unfold isNew;rw[hf];simp)
 have OA:=Lib.hid (show offA l s=n by unfold offA;rw[NW.out,E.out,hf];rfl)
 have LA:=Lib.hid (show lenA l s=s.size by unfold lenA;rw[E.out];rfl)
 have HN:=Lib.hid (fun w' (hb:Below w.heap.size w w')=>show StrsAt w' v (newL l s) by unfold newL;rw[NW.out];exact hv.below hb)
 have e1:((s.size:Int) == 0)=false:=by rw[beq_eq_false_iff_ne];omega
 have e2:¬ 65536<(s.size:Int):=by omega
 have HF:=Lib.hid (rfind_later v l s w hv ht (by omega))
 rw[hf,show offV (some n)=n from rfl,show lenV (some n) s=s.size from rfl,show (some n).isSome=true from rfl] at HF
 obtain⟨al,cap,rfl,hcap,hmx,hc⟩:=hv
 have hB0:Below w.heap.size w (w.alloc (.cells #[.int .u64 0,.int .u32 0] 182)):=Below.alloc (Below.refl _ _) (Nat.le_refl _) _
 have HB0:=Lib.hid hB0
 clear hB0 hc hf
 go_enter Tryz.func90,Tryz.ntmps90
 go_wp2_with fail
 refine(HF.out _ HB0.out).mono ?_
 rintro y w1 ⟨rfl,hb⟩
 have T1:Two w1 w.heap.size (.int .u64 0) (.int .u32 0):=(two_new w (.int .u64 0) (.int .u32 0) 182).below hb
 obtain⟨c0,c1,f0,f1⟩:=id T1
 have HT1:=Lib.hid T1
 clear T1
 have c2:w.heap.size<w1.heap.size:=by have:=hb.size;simp at this;omega
 have HB1:=Lib.hid (HB0.out.trans (hb.mono HB0.out.size))
 clear hb
 go_wp2_with fail
 go_region
 go_wp2_with fail
 have T2:=(HT1.out.set (.int .u64 n) (.int .u32 s.size)).alloc (.cells #[.int .u64 n,.int .u32 s.size] 182)
 have HB:=((below_two HB1.out (Nat.le_refl _) (.int .u64 n) (.int .u32 s.size)).alloc (o:=.cells #[.int .u64 n,.int .u32 s.size] 182) (by have:=HB1.out.size;simp;omega)).drew
 refine bodyPost_ret (results_ct4 rfl _ _ w.heap.size _ _ _ _ _ _ rfl rfl rfl rfl T2.1 T2.2.1 Tryz.underlying182 rfl rct_size) rfl ⟨_,?_,HN.out _ HB,HB,fun _ _ _ _=>.inl rfl⟩
 rw[E.out,OA.out,LA.out,NW.out];rfl
set_option maxRecDepth 20000 in
set_option maxHeartbeats 1000000 in
theorem radd_new (v:Value) (l:List ByteArray) (s:ByteArray) (w:World) (hv:StrsAt w v l) (ht:totF l≤1000000000) (h0:0<s.size) (h1:s.size≤65536) (hf:findF s l 0=none) (h2:l.length<2048):Calls Tryz.prog 90 #[v,.string s] w (RAddEnd v l s w):=by
 have E:=Lib.hid (show eV l s=0 by unfold eV;rw[if_neg (by omega),if_neg (by omega),hf,if_neg (by simp),if_neg (by omega)])
 have NW:=Lib.hid (show isNew l s=true by unfold isNew;rw[hf,E.out];rfl)
 have OA:=Lib.hid (show offA l s=totF l by unfold offA;rw[NW.out];rfl)
 have LA:=Lib.hid (show lenA l s=s.size by unfold lenA;rw[E.out];rfl)
 have e1:((s.size:Int) == 0)=false:=by rw[beq_eq_false_iff_ne];omega
 have e2:¬ 65536<(s.size:Int):=by omega
 have e3:decide ((2048:Int)≤(l.length:Int))=false:=decide_eq_false (by omega)
 have HF:=Lib.hid (rfind_later v l s w hv ht (by omega))
 rw[hf,show ((offV none:Nat):Int)=0 from rfl,show ((lenV none s:Nat):Int)=0 from rfl,show (none:Option Nat).isSome=false from rfl] at HF
 have HV:=Lib.hid hv
 obtain⟨al,cap,rfl,hcap,hmx,hc⟩:=hv
 have hB0:Below w.heap.size w (w.alloc (.cells #[.int .u64 0,.int .u32 0] 182)):=Below.alloc (Below.refl _ _) (Nat.le_refl _) _
 have HB0:=Lib.hid hB0
 clear hB0 hc hf
 go_enter Tryz.func90,Tryz.ntmps90
 go_wp2_with fail
 refine(HF.out _ HB0.out).mono ?_
 rintro y w1 ⟨rfl,hb⟩
 have T1:Two w1 w.heap.size (.int .u64 0) (.int .u32 0):=(two_new w (.int .u64 0) (.int .u32 0) 182).below hb
 obtain⟨c0,c1,f0,f1⟩:=id T1
 have HT1:=Lib.hid T1
 clear T1
 have c2:w.heap.size<w1.heap.size:=by have:=hb.size;simp at this;omega
 have HB1:=Lib.hid (HB0.out.trans (hb.mono HB0.out.size))
 clear hb
 have hB2:Below w.heap.size w (w1.alloc (.cells #[.int .u64 0,.int .u32 0] 182)):=HB1.out.alloc (by omega) _
 have hz2:(w1.alloc (.cells #[.int .u64 0,.int .u32 0] 182)).heap.size=w1.heap.size+1:=by simp
 obtain⟨v1,w2,hr1,hown1,hgr1⟩:=sappend_run (w1.alloc (.cells #[.int .u64 0,.int .u32 0] 182)) (w.heap.size+1) 98 (.slice none 0 0) _ [] l (ownV_nil _ _ _) (HV.out.below hB2) (by simp;omega) (by omega)
 rw[List.nil_append] at hown1
 have hb1:Below (w.heap.size+1) (w1.alloc (.cells #[.int .u64 0,.int .u32 0] 182)) w2:=Below.grown (Below.refl _ _) hgr1 (by omega) (fun k hk=>by cases hk)
 have hz3:=hb1.size
 have hb2:Below (w.heap.size+1) (w1.alloc (.cells #[.int .u64 0,.int .u32 0] 182)) (w2.alloc (.cells #[.string s] 9)):=hb1.alloc (by omega) _
 have hz4:(w2.alloc (.cells #[.string s] 9)).heap.size=w2.heap.size+1:=by simp
 obtain⟨v2,w3,hr2,hown2,hgr2⟩:=sappend_run (w2.alloc (.cells #[.string s] 9)) (w.heap.size+1) 98 v1 _ l [s] (hown1.below (Below.alloc (Below.refl _ _) (Nat.le_refl _) _)) (str_lit w2 s 9) (by simp;omega) (by omega)
 have hb3:Below (w.heap.size+1) (w1.alloc (.cells #[.int .u64 0,.int .u32 0] 182)) w3:=Below.grown hb2 hgr2 (by omega) (fun k hk=>(hown1.lt k hk).1)
 have T3:=(HT1.out.alloc (.cells #[.int .u64 0,.int .u32 0] 182)).lower hb3 (by omega)
 have HB3:=Lib.hid (hB2.trans (hb3.mono (Nat.le_succ _)))
 have HT:=Lib.hid (rtext_any _ l w3 (HV.out.below HB3.out) ht)
 have hsz:=catF_size l
 obtain⟨a1,cap1,rfl⟩:=hown1.slice
 obtain⟨a2,cap2,rfl⟩:=hown2.slice
 obtain⟨d0,d1,g0,g1⟩:=id T3
 have HT3:=Lib.hid T3
 have d2:w.heap.size<w3.heap.size:=vcell_lt d0
 have HO:=Lib.hid hown2
 generalize hq:totF l=q at *
 generalize catF l=ct at *
 clear hb1 hb2 hb3 hgr1 hgr2 hz2 hz3 hz4 T3 hB2 HF hown1 hown2 HT1 HB0 c0 c1 f0 f1 HB1 c2 hq
 go_wp2_with (first|(at_builtin;refine Lib.wpList_append_run _ rfl _ _ _ _ rfl _ _ rfl rfl _ _ hr1 ?_)|(at_builtin;refine Lib.wpList_append_run _ rfl _ _ _ _ rfl _ _ rfl rfl _ _ hr2 ?_)|fail)
 refine HT.out.mono ?_
 rintro y w4 ⟨rfl,rfl⟩
 go_wp2_with fail
 have HB:=below_two HB3.out (Nat.le_refl _) (.int .u64 q) (.int .u32 s.size)
 have T2:=HT3.out.set (.int .u64 q) (.int .u32 s.size)
 refine bodyPost_ret (results_ct4 rfl _ _ w.heap.size _ _ _ _ _ _ rfl rfl rfl rfl T2.1 T2.2.1 Tryz.underlying182 rfl rct_size) rfl ⟨.slice a2 (strL (l++[s])).length cap2,?_,?_,HB,fun a n c e=>.inr ?_⟩
 ·rw[E.out,OA.out,LA.out,NW.out];rfl
 ·unfold newL
  rw[NW.out,if_pos rfl]
  exact(HO.out.two (by omega) _ _).valsAt.strs
 ·have h:=HO.out.lt a.block (by rw[e];rfl)
  refine⟨by omega,?_⟩
  rw[World.size_setCell,World.size_setCell]
  exact h.2
theorem radd_any (v:Value) (l:List ByteArray) (s:ByteArray) (w:World) (hv:StrsAt w v l) (ht:totF l≤1000000000):Calls Tryz.prog 90 #[v,.string s] w (RAddEnd v l s w):=by
 by_cases h0:s.size=0
 ·exact radd_none v l s w hv h0
 ·by_cases h1:65536<s.size
  ·exact radd_long v l s w hv h1
  ·cases hf:findF s l 0 with
   | some n=>exact radd_found v l s w hv ht (by omega) (by omega) n hf
   | none =>
    by_cases h2:2048≤l.length
    ·exact radd_full v l s w hv ht (by omega) (by omega) hf h2
    ·exact radd_new v l s w hv ht (by omega) (by omega) hf (by omega)
theorem rappend_run (sz bytes:Nat) (W:World) (B:Nat) (TS E ty:TypeId) (z:Value) (ht:Tryz.prog.underlying TS=some (.slice E)) (hI:(Tryz.prog.info? E).map (fun i=>(i.zero,i.size,i.bytes))=some (some z,sz,bytes)) (hzs:z.cells.size=sz) (hsz:0<sz) (hby:bytes≤64)
  (v:Value) (n:Nat) (L:List Value) (hown:W.ownsRow B E sz v n L) (ad:Addr) (m c:Nat) (xs:List Value) (hxs:xs.length=m*sz) (hnews:∀ j u,xs[j]?=some u→W.cell? (ad.add j)=some u) (hone:∀ u ∈ xs,u.oneCell'=true) (hm:0<m) (hl:n+m≤1000000000) (hb:B≤W.heap.size) :
  ∃ v' w',(Builtin.append_ #[TS,TS] ty #[v,.slice (some ad) m c]).run Tryz.prog W=.ok v' w'∧w'.ownsRow B E sz v' (n+m) (L++xs)∧W.grownBy w' v.ownBlock∧(v'.ownBlock=v.ownBlock∨∃ g,v'.ownBlock=some g∧W.heap.size≤g):=by
 obtain⟨i0,hi,hz0,hz1,hz2⟩:=info_parts hI
 have hbb:(n+m)*bytes≤1000000000*64:=Nat.mul_le_mul hl hby
 obtain⟨v',w',hr,h2,h3,h4⟩:=run_append_own (P:=Tryz.prog) W B TS ty E i0 _ sz bytes ht hi hz0 hz1 hz2 hzs hsz v n L hown ad m c xs hxs hnews hone (by unfold maxLen;omega) (by omega) hb
 refine⟨v',w',hr,h2,h3,?_⟩
 rcases hown.2 with ⟨rfl,hn⟩|⟨g,cap,cur,rfl,hbg,hg,hnc,hcm,hcs,htake⟩
 ·obtain⟨_,_,hr2,h22,_,_⟩:=run_append_own (P:=Tryz.prog) W W.heap.size TS ty E i0 _ sz bytes ht hi hz0 hz1 hz2 hzs hsz (.slice none 0 0) n L ⟨hown.1,.inl ⟨rfl,hn⟩⟩ ad m c xs hxs hnews hone (by unfold maxLen;omega) (by omega) (Nat.le_refl _)
  rw[hr] at hr2
  injection hr2 with e1 e2
  subst e1 e2
  rcases h22.2 with ⟨rfl,_⟩|⟨g,cap,cur,rfl,hg,_⟩
  ·exact .inl rfl
  ·exact .inr ⟨g,rfl,hg⟩
 ·have hL:L.length=n*i0.size:=by rw[hz1];exact hown.1
  by_cases hroom:n+m≤cap
  ·have hmul:(n+m)*sz≤cap*sz:=Nat.mul_le_mul_right _ hroom
   have hr2:=run_append_room (P:=Tryz.prog) W TS ty E i0 ht hi g n cap cur hg ad m c xs (by rw[hz1];exact hxs) hnews hone hroom (by rw[hz1,hxs,hcs,← Nat.add_mul];exact hmul)
   rw[hr] at hr2
   injection hr2 with e1 e2
   rw[e1]
   exact .inl rfl
  ·have hr2:=run_append_grow (P:=Tryz.prog) W TS ty E i0 _ ht hi hz0 ⟨g,0,none⟩ n cap L hL (World.ownsRow.cells hown rfl) ad m c xs (by rw[hz1];exact hxs) hnews (by omega) (by omega) (growslice_fits (by omega) (by rw[hz2];omega))
   rw[hr] at hr2
   injection hr2 with e1 e2
   rw[e1]
   exact .inr ⟨_,rfl,Nat.le_refl _⟩
end Go.Proofs.YtdnmgpcfgcidbaaGreatDoor
namespace Go.Proofs.YtdnmgpcfgcidbaaGreatDoor
set_option linter.unusedVariables false
set_option linter.unusedSimpArgs false
theorem cat_found (l:List ByteArray) (s:ByteArray):∀ n k,findF s l n=some k→(catF l).extract (k - n) (k - n+s.size)=s:=by
 induction l with
 | nil=>intro n k h;simp[findF] at h
 | cons t l ih =>
  intro n k h
  rw[findF] at h
  rw[catF]
  by_cases e:t=s
  ·rw[if_pos e] at h;injection h with h;subst e;subst h
   rw[Nat.sub_self,Nat.zero_add]
   apply ByteArray.ext
   simp
  ·rw[if_neg e] at h
   have hle:=(findF_le s l _ _ h).1
   have h2:=ih _ _ h
   rw[show k - n=t.size+(k - (n+t.size)) by omega]
   conv=>rhs;rw[← h2]
   apply ByteArray.ext
   simp[Nat.add_assoc]
end Go.Proofs.YtdnmgpcfgcidbaaGreatDoor
namespace Go.Proofs.YtdnmgpcfgcidbaaGreatDoor
set_option linter.unusedVariables false
set_option linter.unusedSimpArgs false
set_option maxRecDepth 20000
def oneE (a b:En):Bool:=decide (b.id=laN a+1∧a.off=b.off∧a.ln=b.ln)
def addE (rows:List En) (e:En):List En:=match rows.getLast? with
 | some a=>if oneE a e then rows.dropLast++[{ a with rn:=a.rn+1 }] else rows++[e]
 | none=>rows++[e]
theorem addE_nil (e:En):addE [] e=[e]:=rfl
theorem addE_concat (r:List En) (a e:En):addE (r++[a]) e=if oneE a e then r++[{ a with rn:=a.rn+1 }] else r++[a]++[e]:=by
 unfold addE
 rw[List.getLast?_concat]
 simp only[List.dropLast_concat]
def newE (ts:List ByteArray) (t:It):En:=⟨t.1,offA ts t.2,lenA ts t.2,1⟩
def stepR (p:List En × List ByteArray) (t:It):List En × List ByteArray:=(addE p.1 (newE p.2 t),newL p.2 t.2)
def rowsS (L:List It):List En × List ByteArray:=L.foldl stepR ([],[])
theorem rowsS_snoc (L:List It) (t:It):rowsS (L++[t])=stepR (rowsS L) t:=by unfold rowsS;rw[List.foldl_append];rfl
theorem rowsS_step (L:List It) (k:Nat) (t:It) (h:L[k]?=some t):rowsS (L.take (k+1))=stepR (rowsS (L.take k)) t:=by rw[itake_at L k t h,rowsS_snoc]
def txN (e:En) (d:ByteArray):ByteArray:=d.extract e.off.toNat (e.off.toNat+e.ln.toNat)
def runN (e:En) (d:ByteArray):List It:=(List.range e.rn.toNat).map (fun k=>(e.id.toNat+k,txN e d))
def expN (l:List En) (d:ByteArray):List It:=l.flatMap (fun e=>runN e d)
theorem expN_append (a b:List En) (d:ByteArray):expN (a++b) d=expN a d++expN b d:=by simp[expN]
theorem expN_one (e:En) (d:ByteArray):expN [e] d=runN e d:=by simp[expN]
theorem runN_len (e:En) (d:ByteArray):(runN e d).length=e.rn.toNat:=by simp[runN]
def NoOne (l:List En):Prop:=∀ i a b,l[i]?=some a→l[i+1]?=some b→oneE a b=false
theorem noOne_nil:NoOne []:=fun i a b h=>by simp at h
theorem noOne_snoc {l:List En} {e:En} (h:NoOne l) (hl:∀ r a,l=r++[a]→oneE a e=false):NoOne (l++[e]):=by
 intro i a b ha hb
 have hi:i+1<(l++[e]).length:=(List.getElem?_eq_some_iff.1 hb).1
 rw[List.length_append,List.length_singleton] at hi
 rw[List.getElem?_append_left (by omega)] at ha
 rcases Nat.lt_or_ge (i+1) l.length with h1|h1
 ·rw[List.getElem?_append_left h1] at hb
  exact h i a b ha hb
 ·have hb':b=e:=by
   rw[List.getElem?_append_right h1,show i+1 - l.length=0 by omega] at hb
   simpa using hb.symm
  subst hb'
  rcases List.eq_nil_or_concat l with rfl|⟨r,x,rfl⟩
  ·simp at ha
  ·rw[List.concat_eq_append] at *
   refine hl r a ?_
   have:i=r.length:=by simp at hi h1;omega
   subst this
   simp at ha
   rw[ha]
theorem noOne_left {l:List En} {e:En} (h:NoOne (l++[e])):NoOne l:=by
 intro i a b ha hb
 have h1:=(List.getElem?_eq_some_iff.1 ha).1
 have h2:=(List.getElem?_eq_some_iff.1 hb).1
 exact h i a b (by rw[List.getElem?_append_left h1];exact ha) (by rw[List.getElem?_append_left h2];exact hb)
theorem noOne_last {r:List En} {a b:En} (h:NoOne (r++[a])) (hb:b.id=a.id∧b.off=a.off∧b.ln=a.ln):NoOne (r++[b]):=by
 refine noOne_snoc (noOne_left h) (fun r' x hx=>?_)
 have h1:=h r'.length x a (by rw[hx];simp) (by rw[hx];simp)
 unfold oneE at h1 ⊢
 rw[hb.1,hb.2.1,hb.2.2]
 exact h1
structure OkE (e:En) (ts:List ByteArray):Prop where
 may:MayN e
 ck:ckN e=0
 run:1≤e.rn
 txt:∃ s,findF s ts 0=some e.off.toNat∧e.ln=(s.size:Int)
theorem ok_text {e:En} {ts:List ByteArray} {s:ByteArray} (h:findF s ts 0=some e.off.toNat) (hl:e.ln=(s.size:Int)):txN e (catF ts)=s:=by
 have h1:=cat_found ts s 0 _ h
 unfold txN
 rw[hl,Int.toNat_natCast]
 exact h1
theorem find_grow (ts:List ByteArray) (s t:ByteArray) (k:Nat) (h:findF s ts 0=some k):findF s (newL ts t) 0=some k:=by
 unfold newL
 split
 ·rw[findF_append,h]
 ·exact h
theorem OkE.grow {e:En} {ts:List ByteArray} (h:OkE e ts) (t:ByteArray):OkE e (newL ts t)∧txN e (catF (newL ts t))=txN e (catF ts):=by
 obtain⟨s,h1,h2⟩:=h.txt
 have h3:=find_grow ts s t _ h1
 exact⟨⟨h.may,h.ck,h.run,s,h3,h2⟩,by rw[ok_text h3 h2,ok_text h1 h2]⟩
theorem run_grow {e:En} {ts:List ByteArray} (h:OkE e ts) (t:ByteArray):runN e (catF (newL ts t))=runN e (catF ts):=by
 unfold runN
 rw[(h.grow t).2]
theorem exp_grow {l:List En} {ts:List ByteArray} (h:∀ e ∈ l,OkE e ts) (t:ByteArray):expN l (catF (newL ts t))=expN l (catF ts):=by
 unfold expN
 induction l with
 | nil=>rfl
 | cons e l ih=>rw[List.flatMap_cons,List.flatMap_cons,run_grow (h e (by simp)) t,ih (fun x hx=>h x (by simp[hx]))]
theorem new_place {ts:List ByteArray} {s:ByteArray} (h0:0<s.size) (h1:s.size≤65536) (hl:ts.length<2048):lenA ts s=s.size∧findF s (newL ts s) 0=some (offA ts s):=by
 have he:eV ts s=0:=(eV_iff ts s).2 ⟨h0,h1,.inr hl⟩
 refine⟨by unfold lenA;rw[if_pos he],?_⟩
 by_cases hm:s ∈ ts
 ·have hn:isNew ts s=false:=by
   cases hh:isNew ts s with
   | false=>rfl
   | true=>exact absurd hm ((isNew_iff ts s).1 hh).2.2.1
  unfold newL offA
  rw[hn,if_neg (by simp),if_neg (by simp),if_pos he]
  obtain⟨k,hk⟩:=Option.isSome_iff_exists.1 ((findF_mem s ts 0).2 hm)
  rw[hk]
  rfl
 ·have hn:isNew ts s=true:=(isNew_iff ts s).2 ⟨h0,h1,hm,hl⟩
  unfold newL offA
  rw[hn,if_pos rfl,if_pos rfl,findF_append,(findF_none s ts 0).2 hm]
  simp[findF]
theorem mem_newL (ts:List ByteArray) (s x:ByteArray) (h0:0<s.size) (h1:s.size≤65536) (hl:ts.length<2048):x ∈ newL ts s↔x ∈ ts∨x=s:=by
 unfold newL
 split
 ·simp
 ·rename_i hn
  constructor
  ·exact .inl
  ·rintro(h|rfl)
   ·exact h
   ·have:x ∈ ts:=Classical.byContradiction fun hm=>hn ((isNew_iff ts x).2 ⟨h0,h1,hm,hl⟩)
    exact this
end Go.Proofs.YtdnmgpcfgcidbaaGreatDoor
