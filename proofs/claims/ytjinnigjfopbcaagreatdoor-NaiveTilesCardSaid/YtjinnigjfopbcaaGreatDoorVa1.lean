/- aEp aEr aEc aLa aKa aKh aMa aMc aKb aEa. -/
import Derived.Lib.Hide
import Derived.WalkSpells
import Derived.WalkLawsBesides
import Derived.Handy
import Derived.Deep.RegionHeld3
import Derived.Deep.DeepCutAuto
import Derived.BigQuiet
import Derived.Laws.AppendOwnNone
import Derived.Test.YtjinnigjfopbcaaGreatDoorRows
import Derived.Lib.AppendZeros
import Derived.Test.YtjinnigjfopbcaaGreatDoorVs
set_option maxHeartbeats 16000000
namespace Go.Proofs.YtjinnigjfopbcaaGreatDoor
set_option linter.unusedVariables false
set_option linter.unusedSimpArgs false
section
variable {α:Type} [DecidableEq α]
def ded:List α→List α
 | []=>[]
 | p :: r=>if p ∈ r then ded r else p :: ded r
theorem xeW (x:α) (l:List α):x ∈ ded l↔x ∈ l:=by
 induction l with
 | nil=>exact Iff.rfl
 | cons p r ih =>
  unfold ded
  split
  ·rename_i hp
   rw[ih,List.mem_cons]
   exact⟨.inr,fun h=>h.elim (fun h=>h ▸ hp) id⟩
  ·rw[List.mem_cons,List.mem_cons,ih]
theorem xgf (l:List α):(ded l).Nodup:=by
 induction l with
 | nil=>exact List.nodup_nil
 | cons p r ih =>
  unfold ded
  split
  ·exact ih
  ·rename_i hp
   exact List.nodup_cons.2 ⟨fun h=>hp ((xeW p r).1 h),ih⟩
theorem xer {a b:List α} (ha:a.Nodup) (hs:∀ x ∈ a,x ∈ b):a.length≤b.length:=by
 induction a generalizing b with
 | nil=>simp
 | cons p r ih =>
  obtain⟨h1,h2⟩:=List.nodup_cons.1 ha
  have hp:p ∈ b:=hs p (List.mem_cons_self ..)
  have:=ih (b:=b.erase p) h2 (fun x hx=>(List.mem_erase_of_ne (fun(e:x=p)=>h1 (e ▸ hx))).2 (hs x (List.mem_cons_of_mem _ hx)))
  rw[List.length_erase_of_mem hp] at this
  have h0:0<b.length:=List.length_pos_of_mem hp
  rw[List.length_cons]
  omega
def unl (l:List α):Nat:=(ded l).length
theorem xmv {a b:List α} (h:∀ x ∈ a,x ∈ b):unl a≤unl b:=xer (xgf a) (fun x hx=>(xeW x b).2 (h x ((xeW x a).1 hx)))
theorem xuk {a b:List α} (h:∀ x,x ∈ a↔x ∈ b):unl a=unl b:=Nat.le_antisymm (xmv fun x hx=>(h x).1 hx) (xmv fun x hx=>(h x).2 hx)
theorem xv5:unl ([]:List α)=0:=rfl
theorem xhW (p:α) (r:List α):unl (p :: r)=if p ∈ r then unl r else unl r+1:=by
 unfold unl
 rw[ded]
 split <;> simp
theorem xlS (l:List α) (p:α):unl (l++[p])=if p ∈ l then unl l else unl l+1:=by
 rw[← xhW]
 exact xuk (fun x=>by simp only[List.mem_append,List.mem_cons,List.not_mem_nil,or_false];exact or_comm)
theorem xxW {l:List α} (h:l.Nodup):unl l=l.length:=by
 refine Nat.le_antisymm (xer (xgf l) fun x hx=>(xeW x l).1 hx) (xer h fun x hx=>(xeW x l).2 hx)
theorem xin (a b:List α):unl (a++b)≤unl a+unl b:=by
 induction a with
 | nil=>simp[xv5]
 | cons p r ih =>
  rw[List.cons_append,xhW,xhW]
  by_cases h:p ∈ r
  ·rw[if_pos (List.mem_append_left _ h),if_pos h];exact ih
  ·rw[if_neg h]
   split <;> omega
theorem xwX (a b:List α):unl (a++b)≤unl a+unl b∧unl a≤unl (a++b)∧unl b≤unl (a++b)∧unl (a++b++a)=unl (a++b) :=
 ⟨xin a b,xmv fun x hx=>List.mem_append_left _ hx,xmv fun x hx=>List.mem_append_right _ hx,xuk fun x=>by
  simp only[List.mem_append]
  exact⟨fun h=>h.elim id .inl,.inl⟩⟩
theorem xzg (l:List α):unl l≤l.length:=xer (xgf l) fun x hx=>(xeW x l).1 hx
end
structure En where
 id:Int
 off:Int
 ln:Int
 rn:Int
deriving DecidableEq
def xcF:En:=⟨0,0,0,0⟩
theorem En.eq_iff (a b:En):a=b↔(a.id=b.id∧a.off=b.off∧a.ln=b.ln∧a.rn=b.rn):=by
 cases a;cases b;simp
def xaY (e:En):Prop:=(0≤e.id∧e.id≤18446744073709551615)∧(0≤e.off∧e.off≤18446744073709551615)∧(0≤e.ln∧e.ln≤4294967295)∧(0≤e.rn∧e.rn≤4294967295)
def cnN:Int:=6004799503160661
def wdN (e:En):Int:=if e.rn=0 then 1 else e.rn
def ckN (e:En):Int :=
 if e.ln=0 then 2 else
 if cnN≤e.id∨cnN<e.id+wdN e then 8 else
 if 1099511627776<e.off∨1099511627776<e.off+e.ln then 8 else 0
def laN (e:En):Int:=if ckN e=0 then e.id+wdN e - 1 else 0
def xic (e:En) (d:Int):Bool:=decide (ckN e=0) && (decide (0<e.rn) && (decide (e.id≤d) && decide (d≤laN e)))
theorem xjA (e:En) (h:0≤e.rn):1≤wdN e:=by unfold wdN;split <;> omega
theorem xhO (e:En) (h:ckN e=0):e.ln≠0∧e.id+wdN e≤6004799503160661∧e.id<6004799503160661∧e.off+e.ln≤1099511627776∧e.off≤1099511627776:=by
 unfold ckN cnN at h
 split at h
 ·omega
 split at h
 ·omega
 split at h
 ·omega
 omega
theorem xuW (e:En) (hm:xaY e) (h:ckN e=0):e.id≤laN e∧laN e≤6004799503160660:=by
 have:=xjA e hm.2.2.2.1
 have:=xhO e h
 unfold laN
 rw[if_pos h]
 omega
def xfk:Int→List En→Int
 | _,[]=>0
 | p,e :: l=>if ckN e≠0 then ckN e else if e.id≤p then 10 else xfk (laN e) l
def xa5 (l:List En):Int:=if 4096<l.length then 21 else xfk (-1) l
theorem xgs (p:Int) (a b:List En) (h:xfk p a=0):xfk p (a++b)=xfk (a.foldl (fun _ e=>laN e) p) b:=by
 induction a generalizing p with
 | nil=>rfl
 | cons e l ih =>
  rw[xfk] at h
  rw[List.cons_append,xfk]
  split at h
  ·contradiction
  ·rename_i hc
   rw[if_neg hc]
   split at h
   ·omega
   ·rename_i ho
    rw[if_neg ho]
    exact ih (laN e) h
theorem xiY (p:Int) (e:En) (l:List En) (h:xfk p (e :: l)=0):ckN e=0∧p<e.id∧xfk (laN e) l=0:=by
 rw[xfk] at h
 split at h
 ·contradiction
 ·rename_i hc
  split at h
  ·omega
  ·rename_i ho
   exact⟨Classical.not_not.1 hc,by omega,h⟩
theorem xb7 (p:Int) (l:List En) (hm:∀ e ∈ l,xaY e) (h:xfk p l=0) (e:En) (he:e ∈ l):p<e.id∧ckN e=0:=by
 induction l generalizing p with
 | nil=>simp at he
 | cons f l ih =>
  obtain⟨h1,h2,h3⟩:=xiY p f l h
  rcases List.mem_cons.1 he with rfl|he
  ·exact⟨h2,h1⟩
  ·have:=ih (laN f) (fun x hx=>hm x (List.mem_cons_of_mem _ hx)) h3 he
   have hl:=xuW f (hm f (List.mem_cons_self ..)) h1
   exact⟨by omega,this.2⟩
theorem xvC (e:En) (d:Int):xic e d=true↔ckN e=0∧0<e.rn∧e.id≤d∧d≤laN e:=by simp[xic]
def xh7 (l:List En):List (Int × Int):=(l.filter fun e=>decide (ckN e=0) && decide (0<e.rn)).map fun e=>(e.off,e.ln)
def conN (l:List En):Nat:=unl (xh7 l)
theorem xqj (l:List En) (q:Int × Int):q ∈ xh7 l↔∃ e ∈ l,ckN e=0∧0<e.rn∧e.off=q.1∧e.ln=q.2:=by
 simp only[xh7,List.mem_map,List.mem_filter,Bool.and_eq_true,decide_eq_true_eq]
 constructor
 ·rintro⟨e,⟨h1,h2,h3⟩,rfl⟩
  exact⟨e,h1,h2,h3,rfl,rfl⟩
 ·rintro⟨e,h1,h2,h3,h4,h5⟩
  exact⟨e,⟨h1,h2,h3⟩,Prod.ext h4 h5⟩
end Go.Proofs.YtjinnigjfopbcaaGreatDoor
namespace Go.Proofs.YtjinnigjfopbcaaGreatDoor
set_option linter.unusedVariables false
set_option linter.unusedSimpArgs false
open Go.RowKit
set_option maxRecDepth 20000
theorem xbz {w:World} {a:Addr} {v:Value} (h:w.cell? a=some v):a.block<w.heap.size:=by
 rcases Nat.lt_or_ge a.block w.heap.size with h'|h'
 ·exact h'
 ·simp[World.cell?,Array.getElem?_eq_none h'] at h
theorem xad {w w':World} {a:Addr} {v:Value} (hb:Below w.heap.size w w') (h:w.cell? a=some v):w'.cell? a=some v:=(hb.cell (p:=a) (xbz h)).trans h
def cE (e:En):List Value:=[.int .u64 e.id,.int .u64 e.off,.int .u32 e.ln,.int .u32 e.rn]
def xaw:List En→List Value
 | []=>[]
 | t :: l=>.int .u64 t.id :: .int .u64 t.off :: .int .u32 t.ln :: .int .u32 t.rn :: xaw l
theorem xbU (l:List En):(xaw l).length=l.length*4:=by
 induction l with
 | nil=>rfl
 | cons t l ih=>simp only[xaw,List.length_cons,ih];omega
theorem xbu (l m:List En):xaw (l++m)=xaw l++xaw m:=by
 induction l with
 | nil=>rfl
 | cons t l ih=>simp only[List.cons_append,xaw,ih]
theorem xcx (e:En):xaw [e]=cE e:=rfl
theorem xbp (l:List En) (n:Nat) (t:En) (h:l[n]?=some t):(xaw l)[n*4]?=some (.int .u64 t.id)∧(xaw l)[n*4+1]?=some (.int .u64 t.off)∧(xaw l)[n*4+2]?=some (.int .u32 t.ln)∧(xaw l)[n*4+3]?=some (.int .u32 t.rn):=by
 induction l generalizing n with
 | nil=>simp at h
 | cons u l ih =>
  cases n with
  | zero=>simp only[List.getElem?_cons_zero,Option.some.injEq] at h;subst h;exact⟨rfl,rfl,rfl,rfl⟩
  | succ n =>
   have:=ih n (by simpa using h)
   rw[show (n+1)*4=n*4+1+1+1+1 from by omega]
   simpa[xaw] using this
theorem xdM (l:List En):∀ u ∈ xaw l,u.oneCell'=true:=by
 induction l with
 | nil=>intro u hu;simp[xaw] at hu
 | cons t l ih =>
  intro u hu
  simp only[xaw,List.mem_cons] at hu
  rcases hu with rfl|rfl|rfl|rfl|hu
  ·rfl
  ·rfl
  ·rfl
  ·rfl
  ·exact ih u hu
def xaj (w:World) (v:Value) (l:List En):Prop :=
 ∃ a cap,v=.slice a l.length cap∧l.length≤cap∧cap≤maxLen∧∀ (k:Nat) (t:En),l[k]?=some t→∃ g off,a=some ⟨g,off,none⟩∧g<w.heap.size∧w.cell? ⟨g,off+k*4,none⟩=some (.int .u64 t.id)∧w.cell? ⟨g,off+k*4+1,none⟩=some (.int .u64 t.off)∧w.cell? ⟨g,off+k*4+2,none⟩=some (.int .u32 t.ln)∧w.cell? ⟨g,off+k*4+3,none⟩=some (.int .u32 t.rn)
theorem xaj.below {w w':World} {v:Value} {l:List En} (h:xaj w v l) (hb:Below w.heap.size w w'):xaj w' v l:=by
 obtain⟨a,cap,hv,h1,h2,hc⟩:=h
 refine⟨a,cap,hv,h1,h2,fun k t ht=>?_⟩
 obtain⟨g,off,ha,hg,c0,c1,c2,c3⟩:=hc k t ht
 exact⟨g,off,ha,Nat.lt_of_lt_of_le hg hb.size,xad hb c0,xad hb c1,xad hb c2,xad hb c3⟩
theorem xaL (w:World):xaj w (.slice none 0 0) []:=⟨none,0,rfl,Nat.le_refl _,by unfold maxLen;omega,fun k t h=>by simp at h⟩
def xaQ (w:World) (B:Nat) (E:TypeId) (v:Value) (l:List En):Prop:=w.ownsRow B E 4 v l.length (xaw l)
theorem xaU (w:World) (B:Nat) (E:TypeId):xaQ w B E (.slice none 0 0) []:=World.ownsRow_nil _ _ _ _
theorem xaQ.lt {w:World} {B:Nat} {E:TypeId} {v:Value} {l:List En} (h:xaQ w B E v l):∀ k,v.ownBlock=some k→B≤k∧k<w.heap.size:=World.ownsRow.lt h
theorem xaQ.below {w w':World} {B:Nat} {E:TypeId} {v:Value} {l:List En} (h:xaQ w B E v l) (hb:Below w.heap.size w w'):xaQ w' B E v l:=by
 have hlt:=h.lt
 obtain⟨h1,h2⟩:=h
 refine⟨h1,?_⟩
 rcases h2 with h2|⟨g,cap,cur,hv,hg,hh,r⟩
 ·exact .inl h2
 ·refine .inr ⟨g,cap,cur,hv,hg,?_,r⟩
  rw[hb.block g (hlt g (by rw[hv];rfl)).2];exact hh
theorem xaQ.mono {w:World} {B B':Nat} {E:TypeId} {v:Value} {l:List En} (h:xaQ w B E v l) (hb:B'≤B):xaQ w B' E v l:=by
 obtain⟨h1,h2⟩:=h
 refine⟨h1,?_⟩
 rcases h2 with h2|⟨g,cap,cur,hv,hg,r⟩
 ·exact .inl h2
 ·exact .inr ⟨g,cap,cur,hv,Nat.le_trans hb hg,r⟩
theorem xaQ.form {w:World} {B:Nat} {E:TypeId} {v:Value} {l:List En} (h:xaQ w B E v l) :
  (v=.slice none 0 0∧l=[])∨∃ g cap,v=.slice (some ⟨g,0,none⟩) l.length cap∧B≤g∧g<w.heap.size∧l.length≤cap∧cap≤maxLen∧(∀ j,j<l.length*4→w.cell? ⟨g,j,none⟩=(xaw l)[j]?)∧∀ j,w.frozen? ⟨g,j,none⟩=false:=by
 have hlt:=h.lt
 have h':=h
 obtain⟨h1,h2⟩:=h
 rcases h2 with ⟨rfl,hn⟩|⟨g,cap,cur,rfl,hg,hh,hle,hm,_⟩
 ·exact .inl ⟨rfl,List.eq_nil_of_length_eq_zero hn⟩
 ·exact .inr ⟨g,cap,rfl,hg,(hlt g rfl).2,hle,hm,fun j hj=>World.ownsRow.cellAt h' j hj,fun j=>World.ownsRow.frozenAt h' j⟩
theorem xaQ.ensAt {w:World} {B:Nat} {E:TypeId} {v:Value} {l:List En} (h:xaQ w B E v l):xaj w v l:=by
 rcases h.form with ⟨rfl,rfl⟩|⟨g,cap,rfl,hB,hg,hle,hm,hc,_⟩
 ·exact xaL w
 ·refine⟨_,cap,rfl,hle,hm,fun k t ht=>⟨g,0,rfl,hg,?_⟩⟩
  have hk:k<l.length:=(List.getElem?_eq_some_iff.1 ht).1
  obtain⟨f0,f1,f2,f3⟩:=xbp l k t ht
  exact⟨by rw[Nat.zero_add,hc _ (by omega)];exact f0,by rw[Nat.zero_add,hc _ (by omega)];exact f1,by rw[Nat.zero_add,hc _ (by omega)];exact f2,by rw[Nat.zero_add,hc _ (by omega)];exact f3⟩
theorem xaJ {w:World} {B n:Nat} {E:TypeId} {v:Value} {xs:List Value} {l:List En} (h:w.ownsRow B E 4 v n xs) (hn:n=l.length) (hx:xs=xaw l):xaQ w B E v l:=by
 subst hn;subst hx;exact h
def xas (l:List En):Prop:=∀ e ∈ l,xaY e
theorem xbP {w w':World} {g o1 o2 o3 o4:Nat} {v1 v2 v3 v4:Value} (hb:Below w.heap.size w w') (h:w.cell? ⟨g,o1,none⟩=some v1∧w.cell? ⟨g,o2,none⟩=some v2∧w.cell? ⟨g,o3,none⟩=some v3∧w.cell? ⟨g,o4,none⟩=some v4):w'.cell? ⟨g,o1,none⟩=some v1∧w'.cell? ⟨g,o2,none⟩=some v2∧w'.cell? ⟨g,o3,none⟩=some v3∧w'.cell? ⟨g,o4,none⟩=some v4:=⟨xad hb h.1,xad hb h.2.1,xad hb h.2.2.1,xad hb h.2.2.2⟩
theorem xly {w w' w1:World} {g o1 o2 o3 o4:Nat} {v1 v2 v3 v4:Value} (hb:Below w'.heap.size w' w1) (h:(w'.cell? ⟨g,o1,none⟩=some v1∧w'.cell? ⟨g,o2,none⟩=some v2∧w'.cell? ⟨g,o3,none⟩=some v3∧w'.cell? ⟨g,o4,none⟩=some v4)∧Below w.heap.size w w'):(w1.cell? ⟨g,o1,none⟩=some v1∧w1.cell? ⟨g,o2,none⟩=some v2∧w1.cell? ⟨g,o3,none⟩=some v3∧w1.cell? ⟨g,o4,none⟩=some v4)∧Below w.heap.size w w1:=⟨xbP hb h.1,h.2.trans (hb.mono h.2.size)⟩
theorem xck {w w' w1:World} {g o1 o2 o3 o4 g' p1 p2 p3 p4:Nat} {v1 v2 v3 v4 u1 u2 u3 u4:Value} (hb:Below w'.heap.size w' w1) (h:(w'.cell? ⟨g,o1,none⟩=some v1∧w'.cell? ⟨g,o2,none⟩=some v2∧w'.cell? ⟨g,o3,none⟩=some v3∧w'.cell? ⟨g,o4,none⟩=some v4)∧(w'.cell? ⟨g',p1,none⟩=some u1∧w'.cell? ⟨g',p2,none⟩=some u2∧w'.cell? ⟨g',p3,none⟩=some u3∧w'.cell? ⟨g',p4,none⟩=some u4)∧Below w.heap.size w w'):(w1.cell? ⟨g,o1,none⟩=some v1∧w1.cell? ⟨g,o2,none⟩=some v2∧w1.cell? ⟨g,o3,none⟩=some v3∧w1.cell? ⟨g,o4,none⟩=some v4)∧(w1.cell? ⟨g',p1,none⟩=some u1∧w1.cell? ⟨g',p2,none⟩=some u2∧w1.cell? ⟨g',p3,none⟩=some u3∧w1.cell? ⟨g',p4,none⟩=some u4)∧Below w.heap.size w w1:=⟨xbP hb h.1,xbP hb h.2.1,h.2.2.trans (hb.mono h.2.2.size)⟩
def xrN (l:List En) (i:Nat):Int:=if i=0 then -1 else laN (l.getD (i - 1) xcF)
theorem xbM (l:List En) (i:Nat) (e:En) (h:l[i]?=some e):l.take (i+1)=l.take i++[e]:=by
 rw[List.take_add_one,h];rfl
theorem xlz (l:List En) (i:Nat) (hi:i≤l.length):(l.take i).foldl (fun _ e=>laN e) (-1)=xrN l i:=by
 cases i with
 | zero=>rfl
 | succ j =>
  have h:l[j]?=some (l.getD j xcF):=by rw[List.getD_eq_getElem?_getD,List.getElem?_eq_getElem (by omega)];rfl
  rw[xbM l j _ h,List.foldl_append]
  unfold xrN
  rw[if_neg (by omega),Nat.add_sub_cancel]
  rfl
theorem xoQ (l:List En) (i:Nat) (e:En) (h:l[i]?=some e) (h0:xfk (-1) (l.take i)=0):xfk (-1) l=(if ckN e≠0 then ckN e else if e.id≤xrN l i then 10 else xfk (laN e) (l.drop (i+1)))∧(ckN e=0→¬ e.id≤xrN l i→xfk (-1) (l.take (i+1))=0):=by
 have hi:i<l.length:=(List.getElem?_eq_some_iff.1 h).1
 have hd:l.drop i=e :: l.drop (i+1):=by
  rw[List.drop_eq_getElem_cons hi]
  rw[List.getElem?_eq_getElem hi] at h
  rw[Option.some.inj h]
 refine⟨?_,fun hc ho=>?_⟩
 ·conv=>lhs;rw[← List.take_append_drop i l]
  rw[xgs _ _ _ h0,xlz l i (by omega),hd,xfk]
 ·rw[xbM l i e h,xgs _ _ _ h0,xlz l i (by omega),xfk,if_neg (fun f=>f hc),if_neg ho]
  rfl
theorem xdA {w:World} {v:Value} {l:List En} (h:xaj w v l) (i:Nat) (hi:i<l.length):∃ g off cap,v=.slice (some ⟨g,off,none⟩) l.length cap∧l.length≤cap∧g<w.heap.size∧∀ k e,l[k]?=some e→(w.cell? ⟨g,off+k*4,none⟩=some (.int .u64 e.id)∧w.cell? ⟨g,off+k*4+1,none⟩=some (.int .u64 e.off)∧w.cell? ⟨g,off+k*4+2,none⟩=some (.int .u32 e.ln)∧w.cell? ⟨g,off+k*4+3,none⟩=some (.int .u32 e.rn)):=by
 obtain⟨a,cap,hv,h1,h2,hc⟩:=h
 obtain⟨e,he⟩:∃ e,l[i]?=some e:=⟨_,List.getElem?_eq_getElem hi⟩
 obtain⟨g,off,rfl,hg,_⟩:=hc i e he
 refine⟨g,off,cap,hv,h1,hg,fun k f hf=>?_⟩
 obtain⟨g',off',ha,hg',r⟩:=hc k f hf
 obtain⟨rfl,rfl⟩:g=g'∧off=off':=by simpa using ha
 exact r
end Go.Proofs.YtjinnigjfopbcaaGreatDoor
namespace Go.Proofs.YtjinnigjfopbcaaGreatDoor
set_option linter.unusedVariables false
set_option linter.unusedSimpArgs false
abbrev It:=Nat × ByteArray
def xbx (id:Nat):List It→Option ByteArray
 | []=>none
 | t :: l=>if t.1=id then some t.2 else xbx id l
def xhA (id:Nat) (l:List It):List It:=l.filter (fun t=>decide (t.1≠id))
def xip (id:Nat) (l:List It):List It:=l.takeWhile (fun t=>decide (t.1<id))
def xix (id:Nat) (l:List It):List It:=l.dropWhile (fun t=>decide (t.1<id))
def xjQ (id:Nat) (s:ByteArray) (l:List It):List It:=xip id (xhA id l)++(id,s) :: xix id (xhA id l)
def putE (l:List It) (id:Nat) (s:ByteArray):Nat:=if 6004799503160661≤id then 8 else if s.size=0 then 2 else if 65536<s.size then 5 else if (xbx id l).isNone && decide (2048≤l.length) then 7 else 0
def xy3 (l:List It) (id:Nat) (s:ByteArray):List It:=if putE l id s=0 then xjQ id s l else l
def ofR:List It→List It→List It→List It × Nat
 | _,acc,[]=>(acc,0)
 | seen,acc,t :: r=>if (xbx t.1 seen).isSome then ([],22) else if putE acc t.1 t.2≠0 then ([],putE acc t.1 t.2) else ofR (seen++[t]) (xjQ t.1 t.2 acc) r
def ofI (l:List It):List It × Nat:=ofR [] [] l
def xgG (l:List It):Prop:=l.Pairwise (fun a b=>a.1<b.1)
structure GoodC (l:List It):Prop where
 rise:xgG l
 low:∀ t ∈ l,t.1<6004799503160661
 pos:∀ t ∈ l,0<t.2.size
 short:∀ t ∈ l,t.2.size≤65536
 few:l.length≤2048
theorem xfN:GoodC []:=⟨List.Pairwise.nil,by simp,by simp,by simp,by simp⟩
theorem xmB {α:Type} (l:List α) (k:Nat) (t:α) (h:l[k]?=some t):l.drop k=t :: l.drop (k+1):=by
 obtain⟨hk,rfl⟩:=List.getElem?_eq_some_iff.1 h
 exact List.drop_eq_getElem_cons hk
theorem xcL {α:Type} (l:List α) (k:Nat) (t:α) (h:l[k]?=some t):l.take (k+1)=l.take k++[t]:=by
 rw[List.take_add_one,h];rfl
theorem xcH (id:Nat) (l:List It):xbx id l=none↔∀ t ∈ l,t.1≠id:=by
 induction l with
 | nil=>simp[xbx]
 | cons t l ih =>
  rw[xbx]
  by_cases h:t.1=id
  ·rw[if_pos h];simp[h]
  ·rw[if_neg h,ih];simp[h]
theorem xkN (id:Nat) (a b:List It):xbx id (a++b)=match xbx id a with|some s=>some s|none=>xbx id b:=by
 induction a with
 | nil=>rfl
 | cons t l ih =>
  rw[List.cons_append,xbx,xbx]
  by_cases h:t.1=id
  ·simp[h]
  ·rw[if_neg h,if_neg h,ih]
theorem xmD (id:Nat) (l:List It):(xhA id l).length≤l.length:=List.length_filter_le _ _
theorem xdm (id:Nat) (l:List It):xip id l++xix id l=l:=List.takeWhile_append_dropWhile
def xrQ:List ByteArray→Nat
 | []=>0
 | t :: l=>t.size+xrQ l
def xwC:List ByteArray→ByteArray
 | []=>ByteArray.empty
 | t :: l=>t++xwC l
def xbO (s:ByteArray):List ByteArray→Nat→Option Nat
 | [],_=>none
 | t :: l,n=>if t=s then some n else xbO s l (n+t.size)
def xzP (o:Option Nat):Nat:=o.getD 0
def eV (l:List ByteArray) (s:ByteArray):Nat:=if s.size=0 then 2 else if 65536<s.size then 5 else if (xbO s l 0).isSome then 0 else if 2048≤l.length then 7 else 0
def xug (l:List ByteArray) (s:ByteArray):Bool:=decide (eV l s=0) && (xbO s l 0).isNone
def xvF (l:List ByteArray) (s:ByteArray):List ByteArray:=if xug l s then l++[s] else l
def xzX (l:List ByteArray) (s:ByteArray):Nat:=if xug l s then xrQ l else if eV l s=0 then xzP (xbO s l 0) else 0
def xz6 (l:List ByteArray) (s:ByteArray):Nat:=if eV l s=0 then s.size else 0
structure GoodP (l:List ByteArray):Prop where
 pos:∀ t ∈ l,0<t.size
 short:∀ t ∈ l,t.size≤65536
 once:l.Nodup
 few:l.length≤2048
theorem xjn (s:ByteArray) (l:List ByteArray):∀ n,(xbO s l n).isSome=true↔s ∈ l:=by
 induction l with
 | nil=>simp[xbO]
 | cons t l ih =>
  intro n
  rw[xbO]
  by_cases h:t=s
  ·simp[h]
  ·rw[if_neg h,ih]
   simp[h,Ne.symm h]
theorem xnm (s:ByteArray) (l:List ByteArray) (n:Nat):xbO s l n=none↔s ∉ l:=by
 rw[← xjn s l n]
 cases xbO s l n <;> simp
theorem xiE (s:ByteArray) (a b:List ByteArray):∀ n,xbO s (a++b) n=match xbO s a n with|some k=>some k|none=>xbO s b (n+xrQ a):=by
 induction a with
 | nil=>intro n;simp[xbO,xrQ]
 | cons t l ih =>
  intro n
  rw[List.cons_append,xbO,xbO]
  by_cases h:t=s
  ·simp[h]
  ·rw[if_neg h,if_neg h,ih,xrQ]
   rw[Nat.add_assoc]
theorem xsS (s:ByteArray) (l:List ByteArray):∀ n k,xbO s l n=some k→n≤k∧k+s.size≤n+xrQ l:=by
 induction l with
 | nil=>intro n k h;simp[xbO] at h
 | cons t l ih =>
  intro n k h
  rw[xbO] at h
  rw[xrQ]
  by_cases e:t=s
  ·rw[if_pos e] at h;injection h with h;subst e;omega
  ·rw[if_neg e] at h;have:=ih _ _ h;omega
theorem xxI (l:List ByteArray) (s:ByteArray):eV l s=0↔0<s.size∧s.size≤65536∧(s ∈ l∨l.length<2048):=by
 unfold eV
 have:=xjn s l 0
 by_cases h1:s.size=0
 ·simp[h1]
 ·rw[if_neg h1]
  by_cases h2:65536<s.size
  ·rw[if_pos h2];simp;omega
  ·rw[if_neg h2]
   by_cases h3:(xbO s l 0).isSome=true
   ·rw[if_pos h3];simp only[true_iff];exact⟨by omega,by omega,.inl (this.1 h3)⟩
   ·rw[if_neg h3]
    have h4:s ∉ l:=fun h=>h3 (this.2 h)
    by_cases h5:2048≤l.length
    ·rw[if_pos h5];simp[h4];omega
    ·rw[if_neg h5];simp;omega
theorem xpb (l:List ByteArray) (s:ByteArray):xug l s=true↔0<s.size∧s.size≤65536∧s ∉ l∧l.length<2048:=by
 unfold xug
 rw[Bool.and_eq_true,decide_eq_true_eq,xxI,Option.isNone_iff_eq_none,xnm]
 constructor
 ·rintro⟨⟨h1,h2,h3⟩,h4⟩;exact⟨h1,h2,h4,h3.resolve_left h4⟩
 ·rintro⟨h1,h2,h3,h4⟩;exact⟨⟨h1,h2,.inr h4⟩,h3⟩
theorem GoodP.add {l:List ByteArray} (h:GoodP l) (s:ByteArray):GoodP (xvF l s):=by
 unfold xvF
 split
 ·rename_i hn
  obtain⟨h1,h2,h3,h4⟩:=(xpb l s).1 hn
  refine⟨?_,?_,?_,by simp;omega⟩
  ·intro t ht;rcases List.mem_append.1 ht with ht|ht
   ·exact h.pos t ht
   ·rw[List.mem_singleton.1 ht];exact h1
  ·intro t ht;rcases List.mem_append.1 ht with ht|ht
   ·exact h.short t ht
   ·rw[List.mem_singleton.1 ht];exact h2
  ·rw[List.nodup_append]
   refine⟨h.once,by simp,fun a ha b hb=>?_⟩
   rw[List.mem_singleton.1 hb]
   intro e
   exact h3 (e ▸ ha)
 ·exact h
theorem xpN (l:List ByteArray) (s:ByteArray):∀ n k,xbO s l n=some k→(xwC l).extract (k - n) (k - n+s.size)=s:=by
 induction l with
 | nil=>intro n k h;simp[xbO] at h
 | cons t l ih =>
  intro n k h
  rw[xbO] at h
  rw[xwC]
  by_cases e:t=s
  ·rw[if_pos e] at h;injection h with h;subst e;subst h
   rw[Nat.sub_self,Nat.zero_add]
   apply ByteArray.ext
   simp
  ·rw[if_neg e] at h
   have hle:=(xsS s l _ _ h).1
   have h2:=ih _ _ h
   rw[show k - n=t.size+(k - (n+t.size)) by omega]
   conv=>rhs;rw[← h2]
   apply ByteArray.ext
   simp[Nat.add_assoc]
end Go.Proofs.YtjinnigjfopbcaaGreatDoor
namespace Go.Proofs.YtjinnigjfopbcaaGreatDoor
set_option linter.unusedVariables false
set_option linter.unusedSimpArgs false
set_option maxRecDepth 20000
def xvJ (a b:En):Bool:=decide (b.id=laN a+1∧a.off=b.off∧a.ln=b.ln)
def xzS (rows:List En) (e:En):List En:=match rows.getLast? with
 | some a=>if xvJ a e then rows.dropLast++[{ a with rn:=a.rn+1 }] else rows++[e]
 | none=>rows++[e]
def xzW (ts:List ByteArray) (t:It):En:=⟨t.1,xzX ts t.2,xz6 ts t.2,1⟩
def xyX (p:List En × List ByteArray) (t:It):List En × List ByteArray:=(xzS p.1 (xzW p.2 t),xvF p.2 t.2)
def xoS (L:List It):List En × List ByteArray:=L.foldl xyX ([],[])
def txN (e:En) (d:ByteArray):ByteArray:=d.extract e.off.toNat (e.off.toNat+e.ln.toNat)
def xg4 (e:En) (d:ByteArray):List It:=(List.range e.rn.toNat).map (fun k=>(e.id.toNat+k,txN e d))
def xiR (l:List En) (d:ByteArray):List It:=l.flatMap (fun e=>xg4 e d)
theorem xhD (e:En) (d:ByteArray):(xg4 e d).length=e.rn.toNat:=by simp[xg4]
theorem xeu (e:En) (d:ByteArray) (t:It):t ∈ xg4 e d↔∃ k,k<e.rn.toNat∧t=(e.id.toNat+k,txN e d):=by
 unfold xg4
 rw[List.mem_map]
 constructor
 ·rintro⟨k,hk,rfl⟩;exact⟨k,List.mem_range.1 hk,rfl⟩
 ·rintro⟨k,hk,rfl⟩;exact⟨k,List.mem_range.2 hk,rfl⟩
structure OkE (e:En) (ts:List ByteArray):Prop where
 may:xaY e
 ck:ckN e=0
 run:1≤e.rn
 txt:∃ s,xbO s ts 0=some e.off.toNat∧e.ln=(s.size:Int)
theorem xqh {e:En} {ts:List ByteArray} {s:ByteArray} (h:xbO s ts 0=some e.off.toNat) (hl:e.ln=(s.size:Int)):txN e (xwC ts)=s:=by
 have h1:=xpN ts s 0 _ h
 unfold txN
 rw[hl,Int.toNat_natCast]
 exact h1
theorem xqd (ts:List ByteArray) (s t:ByteArray) (k:Nat) (h:xbO s ts 0=some k):xbO s (xvF ts t) 0=some k:=by
 unfold xvF
 split
 ·rw[xiE,h]
 ·exact h
theorem OkE.grow {e:En} {ts:List ByteArray} (h:OkE e ts) (t:ByteArray):OkE e (xvF ts t)∧txN e (xwC (xvF ts t))=txN e (xwC ts):=by
 obtain⟨s,h1,h2⟩:=h.txt
 have h3:=xqd ts s t _ h1
 exact⟨⟨h.may,h.ck,h.run,s,h3,h2⟩,by rw[xqh h3 h2,xqh h1 h2]⟩
def xb2:List En→ByteArray→List It→Int→List It × Int
 | [],_,out,_=>(out,0)
 | e :: l,d,out,m =>
  if e.rn=0 then ([],14) else if (d.size:Int)<e.off+e.ln then ([],8) else if 2048<m+e.rn then ([],21) else if 65536<e.ln then ([],5)
  else xb2 l d (out++xg4 e d) (m+e.rn)
def xcT (l:List En) (d:ByteArray):List It × Int:=if xa5 l≠0 then ([],xa5 l) else xb2 l d [] 0
structure TellE (e:En) (d:ByteArray):Prop where
 run:e.rn≠0
 inn:e.off+e.ln≤(d.size:Int)
 short:e.ln≤65536
theorem xfV:∀ (l:List En) (d:ByteArray) (out:List It) (m:Int) (C:List It),xb2 l d out m=(C,0)→(∀ e ∈ l,TellE e d)∧C=out++xiR l d∧(l=[]∨m+((l.map (·.rn)).sum)≤2048)
 | [],d,out,m,C,h=>by
  rw[xb2] at h
  cases h
  exact⟨by simp,by simp[xiR],.inl rfl⟩
 | e :: l,d,out,m,C,h=>by
  rw[xb2] at h
  by_cases h1:e.rn=0
  ·rw[if_pos h1] at h;cases h
  rw[if_neg h1] at h
  by_cases h2:(d.size:Int)<e.off+e.ln
  ·rw[if_pos h2] at h;cases h
  rw[if_neg h2] at h
  by_cases h3:2048<m+e.rn
  ·rw[if_pos h3] at h;cases h
  rw[if_neg h3] at h
  by_cases h4:65536<e.ln
  ·rw[if_pos h4] at h;cases h
  rw[if_neg h4] at h
  obtain⟨g1,g2,g3⟩:=xfV l d _ _ C h
  refine⟨fun x hx=>?_,?_,.inr ?_⟩
  ·rcases List.mem_cons.1 hx with rfl|hx
   ·exact⟨h1,by omega,by omega⟩
   ·exact g1 x hx
  ·rw[g2,List.append_assoc];rfl
  ·rw[List.map_cons,List.sum_cons]
   rcases g3 with rfl|g3
   ·simp;omega
   ·omega
theorem xvR (l:List En) (d:ByteArray) (h:∀ e ∈ l,0≤e.rn):((xiR l d).length:Int)=(l.map (·.rn)).sum:=by
 induction l with
 | nil=>rfl
 | cons e l ih =>
  have h1:=ih (fun x hx=>h x (by simp[hx]))
  have h2:=h e (by simp)
  unfold xiR at h1 ⊢
  rw[List.flatMap_cons,List.length_append,List.map_cons,List.sum_cons,xhD]
  omega
end Go.Proofs.YtjinnigjfopbcaaGreatDoor
namespace Go.Proofs.YtjinnigjfopbcaaGreatDoor
set_option linter.unusedVariables false
set_option linter.unusedSimpArgs false
open Go.RowKit
set_option maxRecDepth 20000
theorem xal {k:IntKind} {a b:Int} (h:a=b):Ending.returned (.int k a)=.returned (.int k b):=by rw[h]
theorem xbh {w:World} {a:Addr} {v:Value} (h:w.cell? a=some v):a.block<w.heap.size:=by
 rcases Nat.lt_or_ge a.block w.heap.size with h'|h'
 ·exact h'
 ·simp[World.cell?,Array.getElem?_eq_none h'] at h
theorem xan {w w':World} {a:Addr} {v:Value} (hb:Below w.heap.size w w') (h:w.cell? a=some v):w'.cell? a=some v:=(hb.cell (p:=a) (xbh h)).trans h
def xcU (w:World) (v:Value) (xs:List Value):Prop:=∃ a cap,v=.slice a xs.length cap∧xs.length≤cap∧cap≤maxLen∧∀ k t,xs[k]?=some t→∃ g off,a=some ⟨g,off,none⟩∧g<w.heap.size∧w.cell? ⟨g,off+k,none⟩=some t
theorem xcU.below {w w':World} {v:Value} {xs:List Value} (h:xcU w v xs) (hb:Below w.heap.size w w'):xcU w' v xs:=by
 obtain⟨a,cap,rfl,h1,h2,hc⟩:=h
 refine⟨a,cap,rfl,h1,h2,fun k t ht=>?_⟩
 obtain⟨g,off,ha,hg,c⟩:=hc k t ht
 exact⟨g,off,ha,Nat.lt_of_lt_of_le hg hb.size,xan hb c⟩
theorem xcU.keep {w w':World} {v:Value} {xs:List Value} (h:xcU w v xs) (hs:w.heap.size≤w'.heap.size) (hk:∀ a n c,v=.slice (some a) n c→a.block<w.heap.size→w'.heap[a.block]?=w.heap[a.block]?):xcU w' v xs:=by
 obtain⟨a,cap,rfl,h1,h2,hc⟩:=h
 refine⟨a,cap,rfl,h1,h2,fun k t ht=>?_⟩
 obtain⟨g,off,rfl,hg,c⟩:=hc k t ht
 have hb:=hk ⟨g,off,none⟩ _ _ rfl hg
 exact⟨g,off,rfl,Nat.lt_of_lt_of_le hg hs,(World.cell?_of_block (a:=⟨g,off+k,none⟩) hb).trans c⟩
def xgJ (w:World) (B:Nat) (E:TypeId) (v:Value) (xs:List Value):Prop:=w.ownsRow B E 1 v xs.length xs
theorem xgJ.lt {w:World} {B:Nat} {E:TypeId} {v:Value} {xs:List Value} (h:xgJ w B E v xs):∀ k,v.ownBlock=some k→B≤k∧k<w.heap.size:=World.ownsRow.lt h
theorem xgJ.keep {w w':World} {B:Nat} {E:TypeId} {v:Value} {xs:List Value} (h:xgJ w B E v xs) (hk:∀ k,v.ownBlock=some k→w'.heap[k]?=w.heap[k]?):xgJ w' B E v xs:=by
 obtain⟨h1,h2⟩:=h
 refine⟨h1,?_⟩
 rcases h2 with h2|⟨g,cap,cur,hv,hg,hh,r⟩
 ·exact .inl h2
 ·refine .inr ⟨g,cap,cur,hv,hg,?_,r⟩
  rw[hk g (by rw[hv];rfl)];exact hh
theorem xgJ.below {w w':World} {B:Nat} {E:TypeId} {v:Value} {xs:List Value} (h:xgJ w B E v xs) (hb:Below w.heap.size w w'):xgJ w' B E v xs :=
 h.keep (fun k hk=>hb.block k (h.lt k hk).2)
theorem xgJ.mono {w:World} {B B':Nat} {E:TypeId} {v:Value} {xs:List Value} (h:xgJ w B E v xs) (hb:B'≤B):xgJ w B' E v xs:=by
 obtain⟨h1,h2⟩:=h
 refine⟨h1,?_⟩
 rcases h2 with h2|⟨g,cap,cur,hv,hg,r⟩
 ·exact .inl h2
 ·exact .inr ⟨g,cap,cur,hv,Nat.le_trans hb hg,r⟩
theorem xgJ.form {w:World} {B:Nat} {E:TypeId} {v:Value} {xs:List Value} (h:xgJ w B E v xs) :
  (v=.slice none 0 0∧xs=[])∨∃ g cap,v=.slice (some ⟨g,0,none⟩) xs.length cap∧B≤g∧g<w.heap.size∧xs.length≤cap∧cap≤maxLen∧(∀ j,j<xs.length→w.cell? ⟨g,j,none⟩=xs[j]?)∧∀ j,w.frozen? ⟨g,j,none⟩=false:=by
 have hlt:=h.lt
 have h':=h
 obtain⟨h1,h2⟩:=h
 rcases h2 with ⟨rfl,hn⟩|⟨g,cap,cur,rfl,hg,hh,hle,hm,_⟩
 ·exact .inl ⟨rfl,List.eq_nil_of_length_eq_zero hn⟩
 ·exact .inr ⟨g,cap,rfl,hg,(hlt g rfl).2,hle,hm,fun j hj=>World.ownsRow.cellAt h' j (by omega),fun j=>World.ownsRow.frozenAt h' j⟩
def xwz (l:List ByteArray):List Value:=l.map Value.string
theorem xh2 (l:List ByteArray):(xwz l).length=l.length:=by simp[xwz]
theorem xpI (l:List ByteArray) (k:Nat):(xwz l)[k]?=l[k]?.map Value.string:=by simp[xwz]
def xcm (w:World) (v:Value) (l:List ByteArray):Prop:=∃ a cap,v=.slice a l.length cap∧l.length≤cap∧cap≤maxLen∧∀ k t,l[k]?=some t→∃ g off,a=some ⟨g,off,none⟩∧g<w.heap.size∧w.cell? ⟨g,off+k,none⟩=some (.string t)
theorem xcm.vals {w:World} {v:Value} {l:List ByteArray} (h:xcm w v l):xcU w v (xwz l):=by
 obtain⟨a,cap,rfl,h1,h2,hc⟩:=h
 refine⟨a,cap,by rw[xh2],by rw[xh2];exact h1,h2,fun k t ht=>?_⟩
 rw[xpI] at ht
 obtain⟨s,hs,rfl⟩:=Option.map_eq_some_iff.1 ht
 exact hc k s hs
theorem xcU.strs {w:World} {v:Value} {l:List ByteArray} (h:xcU w v (xwz l)):xcm w v l:=by
 obtain⟨a,cap,hv,h1,h2,hc⟩:=h
 rw[xh2] at hv h1
 exact⟨a,cap,hv,h1,h2,fun k t ht=>hc k (.string t) (by rw[xpI,ht];rfl)⟩
theorem xcm.below {w w':World} {v:Value} {l:List ByteArray} (h:xcm w v l) (hb:Below w.heap.size w w'):xcm w' v l:=(h.vals.below hb).strs
theorem xcd {a b:ByteArray} (h:a=b):(a.toList == b.toList)=true:=by rw[h];simp
theorem xhl {a b:ByteArray} (h:¬ a=b):(a.toList == b.toList)=false:=by
 rw[ByteArray.toList_eq,ByteArray.toList_eq,beq_eq_false_iff_ne]
 intro e
 exact h (ByteArray.ext (Array.toList_inj.1 e))
theorem xcr (w:World) (o:Obj):(w.alloc o).heap[w.heap.size]?=some o:=by
 show (w.heap.push o)[w.heap.size]?=_
 simp
theorem xfA:(Tryz.prog.info? 227).map (·.size)=some 2:=by kernel_rfl
theorem xfu (w:World) (g:Nat) (ty:TypeId) (x y:Value) (d:TypeDesc) (c0:w.cell? ⟨g,0,none⟩=some x) (c1:w.cell? ⟨g,1,none⟩=some y)
  (hu:Tryz.prog.underlying ty=some d) (hd:(match d with|.struct _|.array _ _=>true|_=>false)=true) (hi:(Tryz.prog.info? ty).map (·.size)=some 2) :
  (loadVar ty ⟨g,0,none⟩).run Tryz.prog w=.ok (.agg #[x,y]) w:=by
 have hl:(loadCells ⟨g,0,none⟩ 2).run Tryz.prog w=.ok #[x,y] w :=
  run_loadCells_list (P:=Tryz.prog) w ⟨g,0,none⟩ [x,y] (fun j v hv=>by
   have hadd:(⟨g,0,none⟩:Addr).add j=⟨g,j,none⟩:=by unfold Addr.add;split <;> simp_all
   rw[hadd]
   match j,hv with
   | 0,hv=>simp at hv;rw[c0,hv]
   | 1,hv=>simp at hv;rw[c1,hv]
   | j+2,hv=>simp at hv)
 cases hq:Tryz.prog.info? ty with
 | none=>simp[hq] at hi
 | some i =>
  have hs:i.size=2:=by simpa[hq] using hi
  have hagg:(isAgg ty).run Tryz.prog w=.ok true w:=by
   unfold isAgg
   rw[Sem.run_bind,run_underlying hu w]
   cases d <;> simp_all
  simp[loadVar,Sem.run_bind,hagg,sizeOf,typeInfo,hq,hs,hl]
theorem xmI {fn:Func} {p q:Tmp} {ty:TypeId} (h:fn.results=#[.cell p ty,.tmp q]) (tmps:Array Value) (w:World) (g:Nat) (x y v:Value) (d:TypeDesc) (hp:tmps.getD p undef=.pointer (some ⟨g,0,none⟩)) (hq:tmps.getD q undef=v) (c0:w.cell? ⟨g,0,none⟩=some x) (c1:w.cell? ⟨g,1,none⟩=some y)
  (hu:Tryz.prog.underlying ty=some d) (hd:(match d with|.struct _|.array _ _=>true|_=>false)=true) (hi:(Tryz.prog.info? ty).map (·.size)=some 2) :
  (results fn tmps).run Tryz.prog w=.ok (.tuple #[.agg #[x,y],v]) w:=by
 have hl:=xfu w g ty x y d c0 c1 hu hd hi
 have hp':tmps[p]?.getD undef=.pointer (some ⟨g,0,none⟩):=by simpa using hp
 have hq':tmps[q]?.getD undef=v:=by simpa using hq
 simp[results,h,hp',hq',asAddr,hl]
theorem xf2 {fn:Func} {p q r:Tmp} {ty:TypeId} (h:fn.results=#[.cell p ty,.tmp q,.tmp r]) (tmps:Array Value) (w:World) (g:Nat) (x y v u:Value) (d:TypeDesc) (hp:tmps.getD p undef=.pointer (some ⟨g,0,none⟩)) (hq:tmps.getD q undef=v) (hr:tmps.getD r undef=u) (c0:w.cell? ⟨g,0,none⟩=some x) (c1:w.cell? ⟨g,1,none⟩=some y)
  (hu:Tryz.prog.underlying ty=some d) (hd:(match d with|.struct _|.array _ _=>true|_=>false)=true) (hi:(Tryz.prog.info? ty).map (·.size)=some 2) :
  (results fn tmps).run Tryz.prog w=.ok (.tuple #[.agg #[x,y],v,u]) w:=by
 have hl:=xfu w g ty x y d c0 c1 hu hd hi
 have hp':tmps[p]?.getD undef=.pointer (some ⟨g,0,none⟩):=by simpa using hp
 have hq':tmps[q]?.getD undef=v:=by simpa using hq
 have hr':tmps[r]?.getD undef=u:=by simpa using hr
 simp[results,h,hp',hq',hr',asAddr,hl]
def Two (w:World) (g:Nat) (x y:Value):Prop:=w.cell? ⟨g,0,none⟩=some x∧w.cell? ⟨g,1,none⟩=some y∧w.frozen? ⟨g,0,none⟩=false∧w.frozen? ⟨g,1,none⟩=false
theorem Two.lt {w:World} {g:Nat} {x y:Value} (h:Two w g x y):g<w.heap.size:=xbh h.1
theorem Two.below {w w':World} {g:Nat} {x y:Value} (h:Two w g x y) (hb:Below w.heap.size w w'):Two w' g x y :=
 ⟨xan hb h.1,xan hb h.2.1,(hb.frozen (p:=⟨g,0,none⟩) h.lt).trans h.2.2.1,(hb.frozen (p:=⟨g,1,none⟩) h.lt).trans h.2.2.2⟩
theorem Two.alloc {w:World} {g:Nat} {x y:Value} (h:Two w g x y) (o:Obj):Two (w.alloc o) g x y:=h.below (Below.alloc (Below.refl _ _) (Nat.le_refl _) _)
theorem xf7 (w:World) (x y:Value) (T:TypeId):Two (w.alloc (.cells #[x,y] T)) w.heap.size x y:=⟨by simp[go_sem],by simp[go_sem],by simp[go_sem],by simp[go_sem]⟩
theorem Two.set {w:World} {g:Nat} {x y:Value} (h:Two w g x y) (x' y':Value):Two ((w.setCell ⟨g,0,none⟩ x').setCell ⟨g,1,none⟩ y') g x' y':=by
 obtain⟨h0,h1,h2,h3⟩:=h
 have e1:(w.setCell ⟨g,0,none⟩ x').cell? ⟨g,1,none⟩=some y:=by rw[World.cell?_setCell_other (h:=by simp),h1]
 refine⟨?_,World.cell?_setCell_same _ _ _ e1,by simpa using h2,by simpa using h3⟩
 rw[World.cell?_setCell_other (h:=by simp)]
 exact World.cell?_setCell_same _ _ _ h0
theorem xgJ.slice {w:World} {B:Nat} {E:TypeId} {v:Value} {xs:List Value} (h:xgJ w B E v xs):∃ a cap,v=.slice a xs.length cap:=by
 rcases h.form with ⟨rfl,rfl⟩|⟨g,cap,rfl,_⟩
 ·exact⟨none,0,rfl⟩
 ·exact⟨_,cap,rfl⟩
theorem xgJ.two {w:World} {B g:Nat} {E:TypeId} {v:Value} {xs:List Value} (h:xgJ w B E v xs) (hg:g<B) (x y:Value):xgJ ((w.setCell ⟨g,0,none⟩ x).setCell ⟨g,1,none⟩ y) B E v xs:=by
 refine h.keep (fun k hk=>?_)
 have:=(h.lt k hk).1
 rw[Below.heap_setCell _ _ _ _ (by simp;omega),Below.heap_setCell _ _ _ _ (by simp;omega)]
theorem xel {P:Program} {ops:Array Oper} {Q:Exit→Act→World→Prop} {md:Region.Mode} {S:World→Prop} {i d:Nat} {oi:Oper} {v:Value} {fuel:Nat} {listed:Array Bool} {a:Act} {w:World} (hi:ops[i]?=some oi) (hd:oi.dst=some d)
  (hy:YieldsIf P ops S oi v a) (hS:S w) (h:wpAnyH P md ops Q S fuel (listed.setIfInBounds i true) (a.put (some d) v) w)
  (hs:Region.noSelect ops=true:=by kernel_rfl) (hf:Region.free md ops listed i=true:=by kernel_rfl) (hr:(Region.ready md ops listed).contains i=true:=by kernel_rfl) (hQ:∀ c a w,Q (.panic c) (a.put (some d) v) w→Q (.panic c) a w:=by exact fun _ _ _ h=>h):wpAnyH P md ops Q S (fuel+1) listed a w :=
 wpAnyH_take hi hs hf hr (by rw[hd];exact hQ) hy hS (by rw[hd];exact h)
theorem tK {P:Program} {ops:Array Oper} {Q:Exit→Act→World→Prop} {md:Region.Mode} {S:World→Prop} {oi:Oper} {v:Value} {fuel:Nat} {listed:Array Bool} {a a2:Act} {l2:Array Bool} {w:World} (i d:Nat) (hS:S w)
  (h:wpAnyH P md ops Q S fuel l2 a2 w) (hi:ops[i]?=some oi:=by rfl) (hd:oi.dst=some d:=by rfl) (hs:Region.noSelect ops=true:=by kernel_rfl) (hf:Region.free md ops listed i=true:=by kernel_rfl) (hr:(Region.ready md ops listed).contains i=true:=by kernel_rfl)
  (hQ:∀ c a w,Q (.panic c) (a.put (some d) v) w→Q (.panic c) a w:=by exact fun _ _ _ h=>h) (hw:Region.wanted oi (yielded ops a.tmps)=true:=by rfl) (hy:∀ w,S w→(execOp a.eval oi).run P w=.ok (.value v) w:=by intro w hSw;go_simp;try with_reducible rfl) (ha:a.put (some d) v=a2:=by (try simp only[Act.put,zsA,zsB,zsC]);exact rfl) (hl:listed.setIfInBounds i true=l2:=by (try simp only[Act.put,zsA,zsB,zsC]);exact rfl):wpAnyH P md ops Q S (fuel+1) listed a w :=
 xel hi hd (Or.inl ⟨hw,hy⟩) hS (by rw[hl,ha];exact h) hs hf hr hQ
theorem tU {P:Program} {ops:Array Oper} {Q:Exit→Act→World→Prop} {md:Region.Mode} {S:World→Prop} {oi:Oper} {fuel:Nat} {listed:Array Bool} {a a2:Act} {l2:Array Bool} {w:World} (i d:Nat) (hS:S w)
  (h:wpAnyH P md ops Q S fuel l2 a2 w) (hi:ops[i]?=some oi:=by rfl) (hd:oi.dst=some d:=by rfl) (hs:Region.noSelect ops=true:=by kernel_rfl) (hf:Region.free md ops listed i=true:=by kernel_rfl) (hr:(Region.ready md ops listed).contains i=true:=by kernel_rfl)
  (hQ:∀ c a w,Q (.panic c) (a.put (some d) undef) w→Q (.panic c) a w:=by exact fun _ _ _ h=>h) (hw:Region.wanted oi (yielded ops a.tmps)=false:=by rfl) (ha:a.put (some d) undef=a2:=by (try simp only[Act.put,zsA,zsB,zsC]);exact rfl) (hl:listed.setIfInBounds i true=l2:=by (try simp only[Act.put,zsA,zsB,zsC]);exact rfl):wpAnyH P md ops Q S (fuel+1) listed a w :=
 xel hi hd (Or.inr ⟨hw,rfl⟩) hS (by rw[hl,ha];exact h) hs hf hr hQ
def eC (e:En):Array Value:=#[.int .u64 e.id,.int .u64 e.off,.int .u32 e.ln,.int .u32 e.rn]
def EAt (w:World) (b:Nat) (e:En):Prop:=w.cell? ⟨b,0,none⟩=some (.int .u64 e.id)∧w.cell? ⟨b,1,none⟩=some (.int .u64 e.off)∧w.cell? ⟨b,2,none⟩=some (.int .u32 e.ln)∧w.cell? ⟨b,3,none⟩=some (.int .u32 e.rn)
theorem EAt.later {w w':World} {b:Nat} {e:En} (h:EAt w b e) (hb:Below w.heap.size w w'):EAt w' b e:=⟨xad hb h.1,xad hb h.2.1,xad hb h.2.2.1,xad hb h.2.2.2⟩
theorem EAt.made (w:World) (e:En) (T:TypeId):EAt (w.alloc (.cells (eC e) T)) w.heap.size e:=by
 unfold EAt eC
 refine⟨?_,?_,?_,?_⟩ <;> rw[World.cell?_alloc_mark] <;> rfl
theorem xa6 {w w' w1:World} {b:Nat} {e:En} (hb:Below w'.heap.size w' w1) (H:(w'.cell? ⟨b,0,none⟩=some (.int .u64 e.id)∧w'.cell? ⟨b,1,none⟩=some (.int .u64 e.off)∧w'.cell? ⟨b,2,none⟩=some (.int .u32 e.ln)∧w'.cell? ⟨b,3,none⟩=some (.int .u32 e.rn))∧Below w.heap.size w w'):(w1.cell? ⟨b,0,none⟩=some (.int .u64 e.id)∧w1.cell? ⟨b,1,none⟩=some (.int .u64 e.off)∧w1.cell? ⟨b,2,none⟩=some (.int .u32 e.ln)∧w1.cell? ⟨b,3,none⟩=some (.int .u32 e.rn))∧Below w.heap.size w w1:=⟨EAt.later H.1 hb,H.2.trans (hb.mono H.2.size)⟩
theorem xvi {a b:Int} (h:a=b):Ending.returned (.int .i64 a)=.returned (.int .i64 b):=by rw[h]
theorem xe2 {a b:Int} (h:a=b):Ending.returned (.int .u64 a)=.returned (.int .u64 b):=by rw[h]
theorem xfj {a b:Bool} (h:a=b):Ending.returned (.bool a)=.returned (.bool b):=by rw[h]
theorem xjG (e:En) (w:World) (hm:xaY e):Calls Tryz.prog 192 #[.agg (eC e)] w fun x w'=>x=.returned (.int .u64 (wdN e))∧Below w.heap.size w w':=by
 obtain⟨i,o,l,r⟩:=e
 obtain⟨m0,m1,m2,m3⟩:=hm
 dsimp only at m0 m1 m2 m3
 unfold eC wdN
 dsimp only
 by_cases h:r=0
 ·subst h
  go_enter Tryz.func192,Tryz.ntmps192
  go_wp2_with fail
  go_ret
  exact⟨rfl,by go_grown⟩
 ·have hd:(r == 0)=false:=by simpa using h
  have hw:IntKind.u64.wrap r=r:=by rw[IntKind.wrap_u64] <;> omega
  rw[if_neg h]
  clear h
  go_enter Tryz.func192,Tryz.ntmps192
  go_wp2_with fail
  go_ret
  exact⟨rfl,by go_grown⟩
set_option maxRecDepth 20000 in
theorem xdK (e:En) (w:World) (hm:xaY e):Calls Tryz.prog 126 #[.agg (eC e)] w fun x w'=>x=.returned (.int .i64 (ckN e))∧Below w.heap.size w w':=by
 have HW:=lH (fun W=>xjG e W hm)
 obtain⟨m0,m1,m2,m3⟩:=hm
 have H0:=EAt.made w e 118
 have HB:Below w.heap.size w (w.alloc (.cells (eC e) 118)):=(Below.refl _ _).alloc (Nat.le_refl _) _
 have HS0:=xa6 (Below.drew (Below.refl _ _)) ⟨H0,HB⟩
 have hck:Hid (ckN e=if e.ln=0 then 2 else if cnN≤e.id∨cnN<e.id+wdN e then 8 else if 1099511627776<e.off∨1099511627776<e.off+e.ln then 8 else 0):=lH rfl
 have hwd:=xjA e m3.1
 have hwu:wdN e≤4294967295:=by unfold wdN;split <;> omega
 obtain⟨R,hR⟩:∃ R,ckN e=R:=⟨_,rfl⟩
 rw[hR] at hck ⊢
 clear hR
 obtain⟨d,hd⟩:∃ d,wdN e=d:=⟨_,rfl⟩
 rw[hd] at HW hck hwd hwu
 clear hd
 unfold cnN at hck
 by_cases h1:e.ln=0
 ·have hR:R=2:=by rw[hck.out,if_pos h1]
  subst hR
  have hl:(e.ln == 0)=true:=by simpa using h1
  clear HW HS0 hck
  unfold eC at HB ⊢
  go_enter Tryz.func126,Tryz.ntmps126
  go_wp2_with fail
  go_ret
  exact⟨rfl,by go_grown⟩
 have hl:(e.ln == 0)=false:=by simpa using h1
 rw[if_neg h1] at hck
 by_cases h2:6004799503160661≤e.id
 ·have hR:R=8:=by rw[hck.out,if_pos (.inl h2)]
  subst hR
  have hi:decide (6004799503160661≤e.id)=true:=by simpa using h2
  clear hck HW
  unfold eC at HB HS0 ⊢
  go_enter Tryz.func126,Tryz.ntmps126
  go_upto_region 3 with fail
  refine wp_region_held_drew (S:=fun w'=>(w'.cell? ⟨w.heap.size,0,none⟩=some (.int .u64 e.id)∧w'.cell? ⟨w.heap.size,1,none⟩=some (.int .u64 e.off)∧w'.cell? ⟨w.heap.size,2,none⟩=some (.int .u32 e.ln)∧w'.cell? ⟨w.heap.size,3,none⟩=some (.int .u32 e.rn))∧Below w.heap.size w w') (by kernel_rfl) HS0 (fun hH0=>?_)
  refine tK 0 6 hH0 ?_
  refine tK 1 7 hH0 ?_
  refine tK 2 8 hH0 ?_
  refine tK 3 9 hH0 ?_
  refine tU 4 10 hH0 ?_
  refine tU 5 11 hH0 ?_
  refine tU 6 12 hH0 ?_
  refine tU 7 13 hH0 ?_
  refine tU 8 14 hH0 ?_
  refine tU 9 15 hH0 ?_
  refine tK 10 16 hH0 ?_
  refine wpAnyH_done (by kernel_rfl) ?_ _
  go_wp2_with fail
  go_ret
  exact⟨rfl,hH0.2⟩
 have hi:decide (6004799503160661≤e.id)=false:=by simpa using h2
 have hw:IntKind.u64.wrap (e.id+d)=e.id+d:=by rw[IntKind.wrap_u64] <;> omega
 by_cases h3:6004799503160661<e.id+d
 ·have hR:R=8:=by rw[hck.out,if_pos (.inr h3)]
  subst hR
  have hj:decide (6004799503160661<e.id+d)=true:=by simpa using h3
  clear hck
  unfold eC at HB HS0 HW ⊢
  go_enter Tryz.func126,Tryz.ntmps126
  go_upto_region 3 with fail
  refine wp_region_held_drew (S:=fun w'=>(w'.cell? ⟨w.heap.size,0,none⟩=some (.int .u64 e.id)∧w'.cell? ⟨w.heap.size,1,none⟩=some (.int .u64 e.off)∧w'.cell? ⟨w.heap.size,2,none⟩=some (.int .u32 e.ln)∧w'.cell? ⟨w.heap.size,3,none⟩=some (.int .u32 e.rn))∧Below w.heap.size w w') (by kernel_rfl) HS0 (fun hH0=>?_)
  refine tK 0 6 hH0 ?_
  refine tK 1 7 hH0 ?_
  refine tK 2 8 hH0 ?_
  refine tK 3 9 hH0 ?_
  refine tK 4 10 hH0 ?_
  refine tK 5 11 hH0 ?_
  refine tK 6 12 hH0 ?_
  refine wpAnyH_ready (rs:=[7]) (by kernel_rfl) (by simp) ?_
  refine AllReadyH.cons rfl (fun K hK=>?_) AllReadyH.nil
  go_simp
  refine(HW.out _).mono ?_
  rintro e w' ⟨rfl,hb⟩
  go_wp2_with fail
  refine hK.out _ _ (xa6 hb hH0) (fun hH1=>?_)
  clear hK K hb hH0
  try simp only[Act.put,zsA,zsB,zsC]
  refine tK 8 14 hH1 ?_
  refine tK 9 15 hH1 ?_
  refine tK 10 16 hH1 ?_
  refine wpAnyH_done (by kernel_rfl) ?_ _
  go_wp2_with fail
  go_ret
  exact⟨rfl,hH1.2⟩
 have hj:decide (6004799503160661<e.id+d)=false:=by simpa using h3
 have hwl:IntKind.u64.wrap e.ln=e.ln:=by rw[IntKind.wrap_u64] <;> omega
 rw[if_neg (fun h=>h.elim h2 h3)] at hck
 by_cases h4:1099511627776<e.off
 ·have hR:R=8:=by rw[hck.out,if_pos (.inl h4)]
  subst hR
  have hk:decide (1099511627776<e.off)=true:=by simpa using h4
  clear hck
  unfold eC at HB HS0 HW ⊢
  go_enter Tryz.func126,Tryz.ntmps126
  go_upto_region 3 with fail
  refine wp_region_held_drew (S:=fun w'=>(w'.cell? ⟨w.heap.size,0,none⟩=some (.int .u64 e.id)∧w'.cell? ⟨w.heap.size,1,none⟩=some (.int .u64 e.off)∧w'.cell? ⟨w.heap.size,2,none⟩=some (.int .u32 e.ln)∧w'.cell? ⟨w.heap.size,3,none⟩=some (.int .u32 e.rn))∧Below w.heap.size w w') (by kernel_rfl) HS0 (fun hH0=>?_)
  refine tK 0 6 hH0 ?_
  refine tK 1 7 hH0 ?_
  refine tK 2 8 hH0 ?_
  refine tK 3 9 hH0 ?_
  refine tK 4 10 hH0 ?_
  refine tK 5 11 hH0 ?_
  refine tK 6 12 hH0 ?_
  refine wpAnyH_ready (rs:=[7]) (by kernel_rfl) (by simp) ?_
  refine AllReadyH.cons rfl (fun K hK=>?_) AllReadyH.nil
  go_simp
  refine(HW.out _).mono ?_
  rintro e w' ⟨rfl,hb⟩
  go_wp2_with fail
  refine hK.out _ _ (xa6 hb hH0) (fun hH1=>?_)
  clear hK K hb hH0
  try simp only[Act.put,zsA,zsB,zsC]
  refine tK 8 14 hH1 ?_
  refine tK 9 15 hH1 ?_
  refine tK 10 16 hH1 ?_
  refine wpAnyH_done (by kernel_rfl) ?_ _
  obtain⟨⟨c0,c1,c2,c3⟩,hU⟩:=hH1
  have HU:=lH hU
  clear hU
  go_wp2_with fail
  go_ret
  exact⟨rfl,HU.out⟩
 have hk:decide (1099511627776<e.off)=false:=by simpa using h4
 have hwo:IntKind.u64.wrap (e.off+e.ln)=e.off+e.ln:=by rw[IntKind.wrap_u64] <;> omega
 by_cases h5:1099511627776<e.off+e.ln
 ·have hR:R=8:=by rw[hck.out,if_pos (.inr h5)]
  subst hR
  have hk2:decide (1099511627776<e.off+e.ln)=true:=by simpa using h5
  clear hck
  unfold eC at HB HS0 HW ⊢
  go_enter Tryz.func126,Tryz.ntmps126
  go_upto_region 3 with fail
  refine wp_region_held_drew (S:=fun w'=>(w'.cell? ⟨w.heap.size,0,none⟩=some (.int .u64 e.id)∧w'.cell? ⟨w.heap.size,1,none⟩=some (.int .u64 e.off)∧w'.cell? ⟨w.heap.size,2,none⟩=some (.int .u32 e.ln)∧w'.cell? ⟨w.heap.size,3,none⟩=some (.int .u32 e.rn))∧Below w.heap.size w w') (by kernel_rfl) HS0 (fun hH0=>?_)
  refine tK 0 6 hH0 ?_
  refine tK 1 7 hH0 ?_
  refine tK 2 8 hH0 ?_
  refine tK 3 9 hH0 ?_
  refine tK 4 10 hH0 ?_
  refine tK 5 11 hH0 ?_
  refine tK 6 12 hH0 ?_
  refine wpAnyH_ready (rs:=[7]) (by kernel_rfl) (by simp) ?_
  refine AllReadyH.cons rfl (fun K hK=>?_) AllReadyH.nil
  go_simp
  refine(HW.out _).mono ?_
  rintro e w' ⟨rfl,hb⟩
  go_wp2_with fail
  refine hK.out _ _ (xa6 hb hH0) (fun hH1=>?_)
  clear hK K hb hH0
  try simp only[Act.put,zsA,zsB,zsC]
  refine tK 8 14 hH1 ?_
  refine tK 9 15 hH1 ?_
  refine tK 10 16 hH1 ?_
  refine wpAnyH_done (by kernel_rfl) ?_ _
  obtain⟨⟨c0,c1,c2,c3⟩,hU⟩:=hH1
  have HU:=lH hU
  clear hU
  go_wp2_with fail
  go_ret
  exact⟨rfl,HU.out⟩
 ·have hR:R=0:=by rw[hck.out,if_neg (fun h=>h.elim h4 h5)]
  subst hR
  have hk2:decide (1099511627776<e.off+e.ln)=false:=by simpa using h5
  clear hck
  unfold eC at HB HS0 HW ⊢
  go_enter Tryz.func126,Tryz.ntmps126
  go_upto_region 3 with fail
  refine wp_region_held_drew (S:=fun w'=>(w'.cell? ⟨w.heap.size,0,none⟩=some (.int .u64 e.id)∧w'.cell? ⟨w.heap.size,1,none⟩=some (.int .u64 e.off)∧w'.cell? ⟨w.heap.size,2,none⟩=some (.int .u32 e.ln)∧w'.cell? ⟨w.heap.size,3,none⟩=some (.int .u32 e.rn))∧Below w.heap.size w w') (by kernel_rfl) HS0 (fun hH0=>?_)
  refine tK 0 6 hH0 ?_
  refine tK 1 7 hH0 ?_
  refine tK 2 8 hH0 ?_
  refine tK 3 9 hH0 ?_
  refine tK 4 10 hH0 ?_
  refine tK 5 11 hH0 ?_
  refine tK 6 12 hH0 ?_
  refine wpAnyH_ready (rs:=[7]) (by kernel_rfl) (by simp) ?_
  refine AllReadyH.cons rfl (fun K hK=>?_) AllReadyH.nil
  go_simp
  refine(HW.out _).mono ?_
  rintro e w' ⟨rfl,hb⟩
  go_wp2_with fail
  refine hK.out _ _ (xa6 hb hH0) (fun hH1=>?_)
  clear hK K hb hH0
  try simp only[Act.put,zsA,zsB,zsC]
  refine tK 8 14 hH1 ?_
  refine tK 9 15 hH1 ?_
  refine tK 10 16 hH1 ?_
  refine wpAnyH_done (by kernel_rfl) ?_ _
  obtain⟨⟨c0,c1,c2,c3⟩,hU⟩:=hH1
  have HU:=lH hU
  clear hU
  go_wp2_with fail
  go_ret
  exact⟨rfl,HU.out⟩
end Go.Proofs.YtjinnigjfopbcaaGreatDoor
