/- aEp aEr aEc aLa aKa aKh aMa aMb aMc aKb aKk aEg aKr. -/
import Derived.Lib.Hide
import Derived.WalkSpells
import Derived.WalkLawsBesides
import Derived.Handy
import Derived.Deep.RegionHeld3
import Derived.Deep.DeepCutAuto
import Derived.BigQuiet
import Derived.Laws.AppendOwnNone
import Derived.Test.YtjinnigjfopbcaaGreatDoorRows
import Derived.Lib.AppendZeros
namespace Go.Proofs.YtjinnigjfopbcaaGreatDoor
set_option linter.unusedVariables false
set_option linter.unusedSimpArgs false
section
variable {α:Type} [DecidableEq α]
def ded:List α→List α
 | []=>[]
 | p :: r=>if p ∈ r then ded r else p :: ded r
theorem xel (x:α) (l:List α):x ∈ ded l↔x ∈ l:=by
 induction l with
 | nil=>exact Iff.rfl
 | cons p r ih =>
  unfold ded
  split
  ·rename_i hp
   rw[ih,List.mem_cons]
   exact⟨.inr,fun h=>h.elim (fun h=>h ▸ hp) id⟩
  ·rw[List.mem_cons,List.mem_cons,ih]
theorem xfa (l:List α):(ded l).Nodup:=by
 induction l with
 | nil=>exact List.nodup_nil
 | cons p r ih =>
  unfold ded
  split
  ·exact ih
  ·rename_i hp
   exact List.nodup_cons.2 ⟨fun h=>hp ((xel p r).1 h),ih⟩
theorem xdw {a b:List α} (ha:a.Nodup) (hs:∀ x ∈ a,x ∈ b):a.length≤b.length:=by
 induction a generalizing b with
 | nil=>simp
 | cons p r ih =>
  obtain⟨h1,h2⟩:=List.nodup_cons.1 ha
  have hp:p ∈ b:=hs p (List.mem_cons_self ..)
  have:=ih (b:=b.erase p) h2 (fun x hx=>(List.mem_erase_of_ne (fun(e:x=p)=>h1 (e ▸ hx))).2 (hs x (List.mem_cons_of_mem _ hx)))
  rw[List.length_erase_of_mem hp] at this
  have h0:0<b.length:=List.length_pos_of_mem hp
  rw[List.length_cons]
  omega
def unl (l:List α):Nat:=(ded l).length
theorem xkB {a b:List α} (h:∀ x ∈ a,x ∈ b):unl a≤unl b:=xdw (xfa a) (fun x hx=>(xel x b).2 (h x ((xel x a).1 hx)))
theorem xr2 {a b:List α} (h:∀ x,x ∈ a↔x ∈ b):unl a=unl b:=Nat.le_antisymm (xkB fun x hx=>(h x).1 hx) (xkB fun x hx=>(h x).2 hx)
theorem xsk:unl ([]:List α)=0:=rfl
theorem xg7 (p:α) (r:List α):unl (p :: r)=if p ∈ r then unl r else unl r+1:=by
 unfold unl
 rw[ded]
 split <;> simp
theorem xpd (l:List α) (p:α):unl (l++[p])=if p ∈ l then unl l else unl l+1:=by
 rw[← xg7]
 exact xr2 (fun x=>by simp only[List.mem_append,List.mem_cons,List.not_mem_nil,or_false];exact or_comm)
theorem xvA {l:List α} (h:l.Nodup):unl l=l.length:=by
 refine Nat.le_antisymm (xdw (xfa l) fun x hx=>(xel x l).1 hx) (xdw h fun x hx=>(xel x l).2 hx)
theorem xg8 (a b:List α):unl (a++b)≤unl a+unl b:=by
 induction a with
 | nil=>simp[xsk]
 | cons p r ih =>
  rw[List.cons_append,xg7,xg7]
  by_cases h:p ∈ r
  ·rw[if_pos (List.mem_append_left _ h),if_pos h];exact ih
  ·rw[if_neg h]
   split <;> omega
theorem xvu (a b:List α):unl (a++b)≤unl a+unl b∧unl a≤unl (a++b)∧unl b≤unl (a++b)∧unl (a++b++a)=unl (a++b) :=
 ⟨xg8 a b,xkB fun x hx=>List.mem_append_left _ hx,xkB fun x hx=>List.mem_append_right _ hx,xr2 fun x=>by
  simp only[List.mem_append]
  exact⟨fun h=>h.elim id .inl,.inl⟩⟩
theorem xsJ (l:List α):unl l≤l.length:=xdw (xfa l) fun x hx=>(xel x l).1 hx
end
structure En where
 id:Int
 off:Int
 ln:Int
 rn:Int
deriving DecidableEq
def xcT:En:=⟨0,0,0,0⟩
theorem En.eq_iff (a b:En):a=b↔(a.id=b.id∧a.off=b.off∧a.ln=b.ln∧a.rn=b.rn):=by
 cases a;cases b;simp
def xaO (e:En):Prop:=(0≤e.id∧e.id≤18446744073709551615)∧(0≤e.off∧e.off≤18446744073709551615)∧(0≤e.ln∧e.ln≤4294967295)∧(0≤e.rn∧e.rn≤4294967295)
def cnN:Int:=6004799503160661
def wdN (e:En):Int:=if e.rn=0 then 1 else e.rn
def ckN (e:En):Int :=
 if e.ln=0 then 2 else
 if cnN≤e.id∨cnN<e.id+wdN e then 8 else
 if 1099511627776<e.off∨1099511627776<e.off+e.ln then 8 else 0
def laN (e:En):Int:=if ckN e=0 then e.id+wdN e - 1 else 0
def xlf (e:En) (d:Int):Bool:=decide (ckN e=0) && (decide (0<e.rn) && (decide (e.id≤d) && decide (d≤laN e)))
theorem xky (e:En) (h:0≤e.rn):1≤wdN e:=by unfold wdN;split <;> omega
theorem xgr (e:En) (h:ckN e=0):e.ln≠0∧e.id+wdN e≤6004799503160661∧e.id<6004799503160661∧e.off+e.ln≤1099511627776∧e.off≤1099511627776:=by
 unfold ckN cnN at h
 split at h
 ·omega
 split at h
 ·omega
 split at h
 ·omega
 omega
theorem xi5 (e:En) (hm:xaO e) (h:ckN e=0):e.id≤laN e∧laN e≤6004799503160660:=by
 have:=xky e hm.2.2.2.1
 have:=xgr e h
 unfold laN
 rw[if_pos h]
 omega
def xb9:Int→List En→Int
 | _,[]=>0
 | p,e :: l=>if ckN e≠0 then ckN e else if e.id≤p then 10 else xb9 (laN e) l
def xaC (l:List En):Int:=if 4096<l.length then 21 else xb9 (-1) l
theorem xbl (p:Int) (a b:List En) (h:xb9 p a=0):xb9 p (a++b)=xb9 (a.foldl (fun _ e=>laN e) p) b:=by
 induction a generalizing p with
 | nil=>rfl
 | cons e l ih =>
  rw[xb9] at h
  rw[List.cons_append,xb9]
  split at h
  ·contradiction
  ·rename_i hc
   rw[if_neg hc]
   split at h
   ·omega
   ·rename_i ho
    rw[if_neg ho]
    exact ih (laN e) h
theorem xdE (p:Int) (a b:List En) (h:xb9 p (a++b)=0):xb9 p a=0:=by
 induction a generalizing p with
 | nil=>rfl
 | cons e l ih =>
  rw[List.cons_append,xb9] at h
  rw[xb9]
  split at h
  ·contradiction
  ·rename_i hc
   rw[if_neg hc]
   split at h
   ·omega
   ·rename_i ho
    rw[if_neg ho]
    exact ih (laN e) h
theorem xhf (p q:Int) (l:List En) (h:xb9 p l=0) (hq:q≤p):xb9 q l=0:=by
 cases l with
 | nil=>rfl
 | cons e l =>
  rw[xb9] at h ⊢
  split at h
  ·contradiction
  ·rename_i hc
   rw[if_neg hc]
   split at h
   ·omega
   ·rename_i ho
    rw[if_neg (by omega)]
    exact h
theorem xby (p:Int) (e:En) (l:List En) (h:xb9 p (e :: l)=0):ckN e=0∧p<e.id∧xb9 (laN e) l=0:=by
 rw[xb9] at h
 split at h
 ·contradiction
 ·rename_i hc
  split at h
  ·omega
  ·rename_i ho
   exact⟨Classical.not_not.1 hc,by omega,h⟩
theorem xcZ (p:Int) (l:List En) (hm:∀ e ∈ l,xaO e) (h:xb9 p l=0) (e:En) (he:e ∈ l):p<e.id∧ckN e=0:=by
 induction l generalizing p with
 | nil=>simp at he
 | cons f l ih =>
  obtain⟨h1,h2,h3⟩:=xby p f l h
  rcases List.mem_cons.1 he with rfl|he
  ·exact⟨h2,h1⟩
  ·have:=ih (laN f) (fun x hx=>hm x (List.mem_cons_of_mem _ hx)) h3 he
   have hl:=xi5 f (hm f (List.mem_cons_self ..)) h1
   exact⟨by omega,this.2⟩
theorem xsx (e:En) (d:Int):xlf e d=true↔ckN e=0∧0<e.rn∧e.id≤d∧d≤laN e:=by simp[xlf]
def xwA (l:List En):Int:=(l.map fun e=>if ckN e=0 then e.rn else 0).sum
def xfR (l:List En):List (Int × Int):=(l.filter fun e=>decide (ckN e=0) && decide (0<e.rn)).map fun e=>(e.off,e.ln)
def conN (l:List En):Nat:=unl (xfR l)
theorem xna (l:List En) (q:Int × Int):q ∈ xfR l↔∃ e ∈ l,ckN e=0∧0<e.rn∧e.off=q.1∧e.ln=q.2:=by
 simp only[xfR,List.mem_map,List.mem_filter,Bool.and_eq_true,decide_eq_true_eq]
 constructor
 ·rintro⟨e,⟨h1,h2,h3⟩,rfl⟩
  exact⟨e,h1,h2,h3,rfl,rfl⟩
 ·rintro⟨e,h1,h2,h3,h4,h5⟩
  exact⟨e,⟨h1,h2,h3⟩,Prod.ext h4 h5⟩
end Go.Proofs.YtjinnigjfopbcaaGreatDoor
namespace Go.Proofs.YtjinnigjfopbcaaGreatDoor
set_option linter.unusedVariables false
set_option linter.unusedSimpArgs false
open Go.RowKit
set_option maxRecDepth 20000
theorem xba {w:World} {a:Addr} {v:Value} (h:w.cell? a=some v):a.block<w.heap.size:=by
 rcases Nat.lt_or_ge a.block w.heap.size with h'|h'
 ·exact h'
 ·simp[World.cell?,Array.getElem?_eq_none h'] at h
theorem xaa {w w':World} {a:Addr} {v:Value} (hb:Below w.heap.size w w') (h:w.cell? a=some v):w'.cell? a=some v:=(hb.cell (p:=a) (xba h)).trans h
def cE (e:En):List Value:=[.int .u64 e.id,.int .u64 e.off,.int .u32 e.ln,.int .u32 e.rn]
def xaB:List En→List Value
 | []=>[]
 | t :: l=>.int .u64 t.id :: .int .u64 t.off :: .int .u32 t.ln :: .int .u32 t.rn :: xaB l
theorem xbv (l:List En):(xaB l).length=l.length*4:=by
 induction l with
 | nil=>rfl
 | cons t l ih=>simp only[xaB,List.length_cons,ih];omega
theorem xb1 (l m:List En):xaB (l++m)=xaB l++xaB m:=by
 induction l with
 | nil=>rfl
 | cons t l ih=>simp only[List.cons_append,xaB,ih]
theorem xck (e:En):xaB [e]=cE e:=rfl
theorem xe5 (l:List En) (n:Nat) (t:En) (h:l[n]?=some t):(xaB l)[n*4]?=some (.int .u64 t.id)∧(xaB l)[n*4+1]?=some (.int .u64 t.off)∧(xaB l)[n*4+2]?=some (.int .u32 t.ln)∧(xaB l)[n*4+3]?=some (.int .u32 t.rn):=by
 induction l generalizing n with
 | nil=>simp at h
 | cons u l ih =>
  cases n with
  | zero=>simp only[List.getElem?_cons_zero,Option.some.injEq] at h;subst h;exact⟨rfl,rfl,rfl,rfl⟩
  | succ n =>
   have:=ih n (by simpa using h)
   rw[show (n+1)*4=n*4+1+1+1+1 from by omega]
   simpa[xaB] using this
theorem xds (l:List En):∀ u ∈ xaB l,u.oneCell'=true:=by
 induction l with
 | nil=>intro u hu;simp[xaB] at hu
 | cons t l ih =>
  intro u hu
  simp only[xaB,List.mem_cons] at hu
  rcases hu with rfl|rfl|rfl|rfl|hu
  ·rfl
  ·rfl
  ·rfl
  ·rfl
  ·exact ih u hu
def xak (w:World) (v:Value) (l:List En):Prop :=
 ∃ a cap,v=.slice a l.length cap∧l.length≤cap∧cap≤maxLen∧∀ (k:Nat) (t:En),l[k]?=some t→∃ g off,a=some ⟨g,off,none⟩∧g<w.heap.size∧w.cell? ⟨g,off+k*4,none⟩=some (.int .u64 t.id)∧w.cell? ⟨g,off+k*4+1,none⟩=some (.int .u64 t.off)∧w.cell? ⟨g,off+k*4+2,none⟩=some (.int .u32 t.ln)∧w.cell? ⟨g,off+k*4+3,none⟩=some (.int .u32 t.rn)
theorem xak.below {w w':World} {v:Value} {l:List En} (h:xak w v l) (hb:Below w.heap.size w w'):xak w' v l:=by
 obtain⟨a,cap,hv,h1,h2,hc⟩:=h
 refine⟨a,cap,hv,h1,h2,fun k t ht=>?_⟩
 obtain⟨g,off,ha,hg,c0,c1,c2,c3⟩:=hc k t ht
 exact⟨g,off,ha,Nat.lt_of_lt_of_le hg hb.size,xaa hb c0,xaa hb c1,xaa hb c2,xaa hb c3⟩
theorem xbb (w:World):xak w (.slice none 0 0) []:=⟨none,0,rfl,Nat.le_refl _,by unfold maxLen;omega,fun k t h=>by simp at h⟩
def xa1 (w:World) (B:Nat) (E:TypeId) (v:Value) (l:List En):Prop:=w.ownsRow B E 4 v l.length (xaB l)
theorem xbG (w:World) (B:Nat) (E:TypeId):xa1 w B E (.slice none 0 0) []:=World.ownsRow_nil _ _ _ _
theorem xa1.lt {w:World} {B:Nat} {E:TypeId} {v:Value} {l:List En} (h:xa1 w B E v l):∀ k,v.ownBlock=some k→B≤k∧k<w.heap.size:=World.ownsRow.lt h
theorem xa1.below {w w':World} {B:Nat} {E:TypeId} {v:Value} {l:List En} (h:xa1 w B E v l) (hb:Below w.heap.size w w'):xa1 w' B E v l:=by
 have hlt:=h.lt
 obtain⟨h1,h2⟩:=h
 refine⟨h1,?_⟩
 rcases h2 with h2|⟨g,cap,cur,hv,hg,hh,r⟩
 ·exact .inl h2
 ·refine .inr ⟨g,cap,cur,hv,hg,?_,r⟩
  rw[hb.block g (hlt g (by rw[hv];rfl)).2];exact hh
theorem xa1.mono {w:World} {B B':Nat} {E:TypeId} {v:Value} {l:List En} (h:xa1 w B E v l) (hb:B'≤B):xa1 w B' E v l:=by
 obtain⟨h1,h2⟩:=h
 refine⟨h1,?_⟩
 rcases h2 with h2|⟨g,cap,cur,hv,hg,r⟩
 ·exact .inl h2
 ·exact .inr ⟨g,cap,cur,hv,Nat.le_trans hb hg,r⟩
theorem xa1.form {w:World} {B:Nat} {E:TypeId} {v:Value} {l:List En} (h:xa1 w B E v l) :
  (v=.slice none 0 0∧l=[])∨∃ g cap,v=.slice (some ⟨g,0,none⟩) l.length cap∧B≤g∧g<w.heap.size∧l.length≤cap∧cap≤maxLen∧(∀ j,j<l.length*4→w.cell? ⟨g,j,none⟩=(xaB l)[j]?)∧∀ j,w.frozen? ⟨g,j,none⟩=false:=by
 have hlt:=h.lt
 have h':=h
 obtain⟨h1,h2⟩:=h
 rcases h2 with ⟨rfl,hn⟩|⟨g,cap,cur,rfl,hg,hh,hle,hm,_⟩
 ·exact .inl ⟨rfl,List.eq_nil_of_length_eq_zero hn⟩
 ·exact .inr ⟨g,cap,rfl,hg,(hlt g rfl).2,hle,hm,fun j hj=>World.ownsRow.cellAt h' j hj,fun j=>World.ownsRow.frozenAt h' j⟩
theorem xa1.ensAt {w:World} {B:Nat} {E:TypeId} {v:Value} {l:List En} (h:xa1 w B E v l):xak w v l:=by
 rcases h.form with ⟨rfl,rfl⟩|⟨g,cap,rfl,hB,hg,hle,hm,hc,_⟩
 ·exact xbb w
 ·refine⟨_,cap,rfl,hle,hm,fun k t ht=>⟨g,0,rfl,hg,?_⟩⟩
  have hk:k<l.length:=(List.getElem?_eq_some_iff.1 ht).1
  obtain⟨f0,f1,f2,f3⟩:=xe5 l k t ht
  exact⟨by rw[Nat.zero_add,hc _ (by omega)];exact f0,by rw[Nat.zero_add,hc _ (by omega)];exact f1,by rw[Nat.zero_add,hc _ (by omega)];exact f2,by rw[Nat.zero_add,hc _ (by omega)];exact f3⟩
theorem xbQ {w:World} {B n:Nat} {E:TypeId} {v:Value} {xs:List Value} {l:List En} (h:w.ownsRow B E 4 v n xs) (hn:n=l.length) (hx:xs=xaB l):xa1 w B E v l:=by
 subst hn;subst hx;exact h
def xay (l:List En):Prop:=∀ e ∈ l,xaO e
theorem xdI {w w':World} {g o1 o2 o3 o4:Nat} {v1 v2 v3 v4:Value} (hb:Below w.heap.size w w') (h:w.cell? ⟨g,o1,none⟩=some v1∧w.cell? ⟨g,o2,none⟩=some v2∧w.cell? ⟨g,o3,none⟩=some v3∧w.cell? ⟨g,o4,none⟩=some v4):w'.cell? ⟨g,o1,none⟩=some v1∧w'.cell? ⟨g,o2,none⟩=some v2∧w'.cell? ⟨g,o3,none⟩=some v3∧w'.cell? ⟨g,o4,none⟩=some v4:=⟨xaa hb h.1,xaa hb h.2.1,xaa hb h.2.2.1,xaa hb h.2.2.2⟩
theorem xuS {w w' w1:World} {g o1 o2 o3 o4:Nat} {v1 v2 v3 v4:Value} (hb:Below w'.heap.size w' w1) (h:(w'.cell? ⟨g,o1,none⟩=some v1∧w'.cell? ⟨g,o2,none⟩=some v2∧w'.cell? ⟨g,o3,none⟩=some v3∧w'.cell? ⟨g,o4,none⟩=some v4)∧Below w.heap.size w w'):(w1.cell? ⟨g,o1,none⟩=some v1∧w1.cell? ⟨g,o2,none⟩=some v2∧w1.cell? ⟨g,o3,none⟩=some v3∧w1.cell? ⟨g,o4,none⟩=some v4)∧Below w.heap.size w w1:=⟨xdI hb h.1,h.2.trans (hb.mono h.2.size)⟩
theorem xgj {w w' w1:World} {g o1 o2 o3 o4 g' p1 p2 p3 p4:Nat} {v1 v2 v3 v4 u1 u2 u3 u4:Value} (hb:Below w'.heap.size w' w1) (h:(w'.cell? ⟨g,o1,none⟩=some v1∧w'.cell? ⟨g,o2,none⟩=some v2∧w'.cell? ⟨g,o3,none⟩=some v3∧w'.cell? ⟨g,o4,none⟩=some v4)∧(w'.cell? ⟨g',p1,none⟩=some u1∧w'.cell? ⟨g',p2,none⟩=some u2∧w'.cell? ⟨g',p3,none⟩=some u3∧w'.cell? ⟨g',p4,none⟩=some u4)∧Below w.heap.size w w'):(w1.cell? ⟨g,o1,none⟩=some v1∧w1.cell? ⟨g,o2,none⟩=some v2∧w1.cell? ⟨g,o3,none⟩=some v3∧w1.cell? ⟨g,o4,none⟩=some v4)∧(w1.cell? ⟨g',p1,none⟩=some u1∧w1.cell? ⟨g',p2,none⟩=some u2∧w1.cell? ⟨g',p3,none⟩=some u3∧w1.cell? ⟨g',p4,none⟩=some u4)∧Below w.heap.size w w1:=⟨xdI hb h.1,xdI hb h.2.1,h.2.2.trans (hb.mono h.2.2.size)⟩
def xsH (l:List En) (i:Nat):Int:=if i=0 then -1 else laN (l.getD (i - 1) xcT)
theorem xdc (l:List En) (i:Nat) (e:En) (h:l[i]?=some e):l.take (i+1)=l.take i++[e]:=by
 rw[List.take_add_one,h];rfl
theorem xjN (l:List En) (i:Nat) (hi:i≤l.length):(l.take i).foldl (fun _ e=>laN e) (-1)=xsH l i:=by
 cases i with
 | zero=>rfl
 | succ j =>
  have h:l[j]?=some (l.getD j xcT):=by rw[List.getD_eq_getElem?_getD,List.getElem?_eq_getElem (by omega)];rfl
  rw[xdc l j _ h,List.foldl_append]
  unfold xsH
  rw[if_neg (by omega),Nat.add_sub_cancel]
  rfl
theorem xs6 (l:List En) (i:Nat) (e:En) (h:l[i]?=some e) (h0:xb9 (-1) (l.take i)=0):xb9 (-1) l=(if ckN e≠0 then ckN e else if e.id≤xsH l i then 10 else xb9 (laN e) (l.drop (i+1)))∧(ckN e=0→¬ e.id≤xsH l i→xb9 (-1) (l.take (i+1))=0):=by
 have hi:i<l.length:=(List.getElem?_eq_some_iff.1 h).1
 have hd:l.drop i=e :: l.drop (i+1):=by
  rw[List.drop_eq_getElem_cons hi]
  rw[List.getElem?_eq_getElem hi] at h
  rw[Option.some.inj h]
 refine⟨?_,fun hc ho=>?_⟩
 ·conv=>lhs;rw[← List.take_append_drop i l]
  rw[xbl _ _ _ h0,xjN l i (by omega),hd,xb9]
 ·rw[xdc l i e h,xbl _ _ _ h0,xjN l i (by omega),xb9,if_neg (fun f=>f hc),if_neg ho]
  rfl
theorem xfX {w:World} {v:Value} {l:List En} (h:xak w v l) (i:Nat) (hi:i<l.length):∃ g off cap,v=.slice (some ⟨g,off,none⟩) l.length cap∧l.length≤cap∧g<w.heap.size∧∀ k e,l[k]?=some e→(w.cell? ⟨g,off+k*4,none⟩=some (.int .u64 e.id)∧w.cell? ⟨g,off+k*4+1,none⟩=some (.int .u64 e.off)∧w.cell? ⟨g,off+k*4+2,none⟩=some (.int .u32 e.ln)∧w.cell? ⟨g,off+k*4+3,none⟩=some (.int .u32 e.rn)):=by
 obtain⟨a,cap,hv,h1,h2,hc⟩:=h
 obtain⟨e,he⟩:∃ e,l[i]?=some e:=⟨_,List.getElem?_eq_getElem hi⟩
 obtain⟨g,off,rfl,hg,_⟩:=hc i e he
 refine⟨g,off,cap,hv,h1,hg,fun k f hf=>?_⟩
 obtain⟨g',off',ha,hg',r⟩:=hc k f hf
 obtain⟨rfl,rfl⟩:g=g'∧off=off':=by simpa using ha
 exact r
end Go.Proofs.YtjinnigjfopbcaaGreatDoor
namespace Go.Proofs.YtjinnigjfopbcaaGreatDoor
set_option linter.unusedVariables false
set_option linter.unusedSimpArgs false
abbrev It:=Nat × ByteArray
def xbA (id:Nat):List It→Option ByteArray
 | []=>none
 | t :: l=>if t.1=id then some t.2 else xbA id l
def xcC (id:Nat) (l:List It):List It:=l.filter (fun t=>decide (t.1≠id))
def xfP (id:Nat) (l:List It):List It:=l.takeWhile (fun t=>decide (t.1<id))
def xg2 (id:Nat) (l:List It):List It:=l.dropWhile (fun t=>decide (t.1<id))
def xeM (id:Nat) (s:ByteArray) (l:List It):List It:=xfP id (xcC id l)++(id,s) :: xg2 id (xcC id l)
def putE (l:List It) (id:Nat) (s:ByteArray):Nat:=if 6004799503160661≤id then 8 else if s.size=0 then 2 else if 65536<s.size then 5 else if (xbA id l).isNone && decide (2048≤l.length) then 7 else 0
def xcG (l:List It) (id:Nat) (s:ByteArray):List It:=if putE l id s=0 then xeM id s l else l
def xan:List It→Nat
 | []=>0
 | t :: l=>t.2.size+xan l
def ofR:List It→List It→List It→List It × Nat
 | _,acc,[]=>(acc,0)
 | seen,acc,t :: r=>if (xbA t.1 seen).isSome then ([],22) else if putE acc t.1 t.2≠0 then ([],putE acc t.1 t.2) else ofR (seen++[t]) (xeM t.1 t.2 acc) r
def ofI (l:List It):List It × Nat:=ofR [] [] l
def xeu (l:List It):Prop:=l.Pairwise (fun a b=>a.1<b.1)
structure GoodC (l:List It):Prop where
 rise:xeu l
 low:∀ t ∈ l,t.1<6004799503160661
 pos:∀ t ∈ l,0<t.2.size
 short:∀ t ∈ l,t.2.size≤65536
 few:l.length≤2048
theorem xfl:GoodC []:=⟨List.Pairwise.nil,by simp,by simp,by simp,by simp⟩
theorem xa2 (a b:List It):xan (a++b)=xan a+xan b:=by
 induction a with
 | nil=>simp[xan]
 | cons t l ih=>rw[List.cons_append,xan,xan,ih];omega
theorem xiG (l:List It) (k:Nat):xan (l.take k)≤xan l:=by
 have h:=xa2 (l.take k) (l.drop k)
 rw[List.take_append_drop] at h
 omega
theorem xi1 (l:List It) (k:Nat) (t:It) (h:l[k]?=some t):xan (l.take (k+1))=xan (l.take k)+t.2.size:=by
 rw[List.take_add_one,h,xa2]
 simp[xan]
theorem xc6 {α:Type} (l:List α) (k:Nat) (t:α) (h:l[k]?=some t):l.drop k=t :: l.drop (k+1):=by
 obtain⟨hk,rfl⟩:=List.getElem?_eq_some_iff.1 h
 exact List.drop_eq_getElem_cons hk
theorem xbY {α:Type} (l:List α) (k:Nat) (t:α) (h:l[k]?=some t):l.take (k+1)=l.take k++[t]:=by
 rw[List.take_add_one,h];rfl
theorem xcd (id:Nat) (l:List It):xbA id l=none↔∀ t ∈ l,t.1≠id:=by
 induction l with
 | nil=>simp[xbA]
 | cons t l ih =>
  rw[xbA]
  by_cases h:t.1=id
  ·rw[if_pos h];simp[h]
  ·rw[if_neg h,ih];simp[h]
theorem xoa (id:Nat) (l:List It) (k:Nat) (t:It) (h:l[k]?=some t):xcC id (l.take (k+1))=if t.1=id then xcC id (l.take k) else xcC id (l.take k)++[t]:=by
 unfold xcC
 rw[xbY l k t h,List.filter_append]
 by_cases e:t.1=id
 ·rw[if_pos e];simp[e]
 ·rw[if_neg e];simp[e]
theorem xdR (id:Nat) (l:List It):(xcC id l).length≤l.length:=List.length_filter_le _ _
theorem xlU (id:Nat) (l:List It):xan (xcC id l)≤xan l:=by
 unfold xcC
 induction l with
 | nil=>simp[xan]
 | cons t l ih =>
  rw[List.filter_cons]
  split
  ·rw[xan,xan];omega
  ·rw[xan];omega
theorem xcs (id:Nat) (l:List It):xfP id l++xg2 id l=l:=List.takeWhile_append_dropWhile
def totF:List ByteArray→Nat
 | []=>0
 | t :: l=>t.size+totF l
def xbU:List ByteArray→ByteArray
 | []=>ByteArray.empty
 | t :: l=>t++xbU l
def xaN (s:ByteArray):List ByteArray→Nat→Option Nat
 | [],_=>none
 | t :: l,n=>if t=s then some n else xaN s l (n+t.size)
def xwL (o:Option Nat):Nat:=o.getD 0
def xxg (o:Option Nat) (s:ByteArray):Nat:=if o.isSome then s.size else 0
def eV (l:List ByteArray) (s:ByteArray):Nat:=if s.size=0 then 2 else if 65536<s.size then 5 else if (xaN s l 0).isSome then 0 else if 2048≤l.length then 7 else 0
def xcb (l:List ByteArray) (s:ByteArray):Bool:=decide (eV l s=0) && (xaN s l 0).isNone
def xbK (l:List ByteArray) (s:ByteArray):List ByteArray:=if xcb l s then l++[s] else l
def offA (l:List ByteArray) (s:ByteArray):Nat:=if xcb l s then totF l else if eV l s=0 then xwL (xaN s l 0) else 0
def lenA (l:List ByteArray) (s:ByteArray):Nat:=if eV l s=0 then s.size else 0
structure GoodP (l:List ByteArray):Prop where
 pos:∀ t ∈ l,0<t.size
 short:∀ t ∈ l,t.size≤65536
 once:l.Nodup
 few:l.length≤2048
theorem xiA:GoodP []:=⟨by simp,by simp,by simp,by simp⟩
theorem xcl (a b:List ByteArray):totF (a++b)=totF a+totF b:=by
 induction a with
 | nil=>simp[totF]
 | cons t l ih=>rw[List.cons_append,totF,totF,ih];omega
theorem xko (s:ByteArray):totF [s]=s.size:=by simp[totF]
theorem xnS (l:List ByteArray) (k:Nat):totF (l.take k)≤totF l:=by
 have h:=xcl (l.take k) (l.drop k)
 rw[List.take_append_drop] at h
 omega
theorem xlc (l:List ByteArray) (M:Nat) (h:∀ t ∈ l,t.size≤M):totF l≤l.length*M:=by
 induction l with
 | nil=>simp[totF]
 | cons t l ih =>
  have h1:=h t (by simp)
  have h2:=ih (fun x hx=>h x (by simp[hx]))
  rw[totF,List.length_cons,Nat.succ_mul]
  omega
theorem GoodP.tot {l:List ByteArray} (h:GoodP l):totF l≤134217728:=by
 have h1:=xlc l 65536 h.short
 have h2:=h.few
 omega
theorem xtA (l:List ByteArray) (t:ByteArray) (h:t ∈ l):t.size≤totF l:=by
 induction l with
 | nil=>simp at h
 | cons x l ih =>
  rw[totF]
  rcases List.mem_cons.1 h with rfl|h
  ·omega
  ·have:=ih h;omega
theorem xdJ (l:List ByteArray):(xbU l).size=totF l:=by
 induction l with
 | nil=>simp[xbU,totF]
 | cons t l ih=>rw[xbU,totF,ByteArray.size_append,ih]
theorem xuI {α:Type} (l:List α) (k:Nat) (t:α) (h:l[k]?=some t):l.drop k=t :: l.drop (k+1):=by
 obtain⟨hk,rfl⟩:=List.getElem?_eq_some_iff.1 h
 exact List.drop_eq_getElem_cons hk
theorem xcS (s:ByteArray) (l:List ByteArray):∀ n,(xaN s l n).isSome=true↔s ∈ l:=by
 induction l with
 | nil=>simp[xaN]
 | cons t l ih =>
  intro n
  rw[xaN]
  by_cases h:t=s
  ·simp[h]
  ·rw[if_neg h,ih]
   simp[h,Ne.symm h]
theorem xc4 (s:ByteArray) (l:List ByteArray) (n:Nat):xaN s l n=none↔s ∉ l:=by
 rw[← xcS s l n]
 cases xaN s l n <;> simp
theorem xet (s:ByteArray) (a b:List ByteArray):∀ n,xaN s (a++b) n=match xaN s a n with|some k=>some k|none=>xaN s b (n+totF a):=by
 induction a with
 | nil=>intro n;simp[xaN,totF]
 | cons t l ih =>
  intro n
  rw[List.cons_append,xaN,xaN]
  by_cases h:t=s
  ·simp[h]
  ·rw[if_neg h,if_neg h,ih,totF]
   rw[Nat.add_assoc]
theorem xe4 (s:ByteArray) (l:List ByteArray):∀ n k,xaN s l n=some k→n≤k∧k+s.size≤n+totF l:=by
 induction l with
 | nil=>intro n k h;simp[xaN] at h
 | cons t l ih =>
  intro n k h
  rw[xaN] at h
  rw[totF]
  by_cases e:t=s
  ·rw[if_pos e] at h;injection h with h;subst e;omega
  ·rw[if_neg e] at h;have:=ih _ _ h;omega
theorem xrQ (l:List ByteArray) (s:ByteArray):eV l s=0↔0<s.size∧s.size≤65536∧(s ∈ l∨l.length<2048):=by
 unfold eV
 have:=xcS s l 0
 by_cases h1:s.size=0
 ·simp[h1]
 ·rw[if_neg h1]
  by_cases h2:65536<s.size
  ·rw[if_pos h2];simp;omega
  ·rw[if_neg h2]
   by_cases h3:(xaN s l 0).isSome=true
   ·rw[if_pos h3];simp only[true_iff];exact⟨by omega,by omega,.inl (this.1 h3)⟩
   ·rw[if_neg h3]
    have h4:s ∉ l:=fun h=>h3 (this.2 h)
    by_cases h5:2048≤l.length
    ·rw[if_pos h5];simp[h4];omega
    ·rw[if_neg h5];simp;omega
theorem xdG (l:List ByteArray) (s:ByteArray):xcb l s=true↔0<s.size∧s.size≤65536∧s ∉ l∧l.length<2048:=by
 unfold xcb
 rw[Bool.and_eq_true,decide_eq_true_eq,xrQ,Option.isNone_iff_eq_none,xc4]
 constructor
 ·rintro⟨⟨h1,h2,h3⟩,h4⟩;exact⟨h1,h2,h4,h3.resolve_left h4⟩
 ·rintro⟨h1,h2,h3,h4⟩;exact⟨⟨h1,h2,.inr h4⟩,h3⟩
theorem GoodP.add {l:List ByteArray} (h:GoodP l) (s:ByteArray):GoodP (xbK l s):=by
 unfold xbK
 split
 ·rename_i hn
  obtain⟨h1,h2,h3,h4⟩:=(xdG l s).1 hn
  refine⟨?_,?_,?_,by simp;omega⟩
  ·intro t ht;rcases List.mem_append.1 ht with ht|ht
   ·exact h.pos t ht
   ·rw[List.mem_singleton.1 ht];exact h1
  ·intro t ht;rcases List.mem_append.1 ht with ht|ht
   ·exact h.short t ht
   ·rw[List.mem_singleton.1 ht];exact h2
  ·rw[List.nodup_append]
   refine⟨h.once,by simp,fun a ha b hb=>?_⟩
   rw[List.mem_singleton.1 hb]
   intro e
   exact h3 (e ▸ ha)
 ·exact h
theorem xqW (l:List ByteArray) (s:ByteArray):l.length≤(xbK l s).length∧(xbK l s).length≤l.length+1:=by
 unfold xbK;split <;> simp
theorem xmt (l:List ByteArray) (s:ByteArray):∀ n k,xaN s l n=some k→(xbU l).extract (k - n) (k - n+s.size)=s:=by
 induction l with
 | nil=>intro n k h;simp[xaN] at h
 | cons t l ih =>
  intro n k h
  rw[xaN] at h
  rw[xbU]
  by_cases e:t=s
  ·rw[if_pos e] at h;injection h with h;subst e;subst h
   rw[Nat.sub_self,Nat.zero_add]
   apply ByteArray.ext
   simp
  ·rw[if_neg e] at h
   have hle:=(xe4 s l _ _ h).1
   have h2:=ih _ _ h
   rw[show k - n=t.size+(k - (n+t.size)) by omega]
   conv=>rhs;rw[← h2]
   apply ByteArray.ext
   simp[Nat.add_assoc]
end Go.Proofs.YtjinnigjfopbcaaGreatDoor
namespace Go.Proofs.YtjinnigjfopbcaaGreatDoor
set_option linter.unusedVariables false
set_option linter.unusedSimpArgs false
set_option maxRecDepth 20000
theorem xq6 {α:Type} {M:List α→Prop} (h0:M []) (hs:∀ l a,M l→M (l++[a])) (l:List α):M l:=by
 rw[← List.reverse_reverse l]
 induction l.reverse with
 | nil=>exact h0
 | cons a r ih=>rw[List.reverse_cons];exact hs _ _ ih
def xlY (a b:En):Bool:=decide (b.id=laN a+1∧a.off=b.off∧a.ln=b.ln)
def xrP (rows:List En) (e:En):List En:=match rows.getLast? with
 | some a=>if xlY a e then rows.dropLast++[{ a with rn:=a.rn+1 }] else rows++[e]
 | none=>rows++[e]
theorem xrv (e:En):xrP [] e=[e]:=rfl
theorem xdj (r:List En) (a e:En):xrP (r++[a]) e=if xlY a e then r++[{ a with rn:=a.rn+1 }] else r++[a]++[e]:=by
 unfold xrP
 rw[List.getLast?_concat]
 simp only[List.dropLast_concat]
def xwh (ts:List ByteArray) (t:It):En:=⟨t.1,offA ts t.2,lenA ts t.2,1⟩
def xnY (p:List En × List ByteArray) (t:It):List En × List ByteArray:=(xrP p.1 (xwh p.2 t),xbK p.2 t.2)
def xad (L:List It):List En × List ByteArray:=L.foldl xnY ([],[])
theorem xga (L:List It) (t:It):xad (L++[t])=xnY (xad L) t:=by unfold xad;rw[List.foldl_append];rfl
theorem xda (L:List It) (k:Nat) (t:It) (h:L[k]?=some t):xad (L.take (k+1))=xnY (xad (L.take k)) t:=by rw[xbY L k t h,xga]
def txN (e:En) (d:ByteArray):ByteArray:=d.extract e.off.toNat (e.off.toNat+e.ln.toNat)
def xeX (e:En) (d:ByteArray):List It:=(List.range e.rn.toNat).map (fun k=>(e.id.toNat+k,txN e d))
def xd7 (l:List En) (d:ByteArray):List It:=l.flatMap (fun e=>xeX e d)
theorem xbM (a b:List En) (d:ByteArray):xd7 (a++b) d=xd7 a d++xd7 b d:=by simp[xd7]
theorem xdS (e:En) (d:ByteArray):xd7 [e] d=xeX e d:=by simp[xd7]
theorem xeS (e:En) (d:ByteArray):(xeX e d).length=e.rn.toNat:=by simp[xeX]
theorem xdD (e:En) (d:ByteArray) (t:It):t ∈ xeX e d↔∃ k,k<e.rn.toNat∧t=(e.id.toNat+k,txN e d):=by
 unfold xeX
 rw[List.mem_map]
 constructor
 ·rintro⟨k,hk,rfl⟩;exact⟨k,List.mem_range.1 hk,rfl⟩
 ·rintro⟨k,hk,rfl⟩;exact⟨k,List.mem_range.2 hk,rfl⟩
def xg3 (l:List En):Prop:=∀ i a b,l[i]?=some a→l[i+1]?=some b→xlY a b=false
theorem xhw:xg3 []:=fun i a b h=>by simp at h
theorem xeb {l:List En} {e:En} (h:xg3 l) (hl:∀ r a,l=r++[a]→xlY a e=false):xg3 (l++[e]):=by
 intro i a b ha hb
 have hi:i+1<(l++[e]).length:=(List.getElem?_eq_some_iff.1 hb).1
 rw[List.length_append,List.length_singleton] at hi
 rw[List.getElem?_append_left (by omega)] at ha
 rcases Nat.lt_or_ge (i+1) l.length with h1|h1
 ·rw[List.getElem?_append_left h1] at hb
  exact h i a b ha hb
 ·have hb':b=e:=by
   rw[List.getElem?_append_right h1,show i+1 - l.length=0 by omega] at hb
   simpa using hb.symm
  subst hb'
  rcases List.eq_nil_or_concat l with rfl|⟨r,x,rfl⟩
  ·simp at ha
  ·rw[List.concat_eq_append] at *
   refine hl r a ?_
   have:i=r.length:=by simp at hi h1;omega
   subst this
   simp at ha
   rw[ha]
theorem xlG {l:List En} {e:En} (h:xg3 (l++[e])):xg3 l:=by
 intro i a b ha hb
 have h1:=(List.getElem?_eq_some_iff.1 ha).1
 have h2:=(List.getElem?_eq_some_iff.1 hb).1
 exact h i a b (by rw[List.getElem?_append_left h1];exact ha) (by rw[List.getElem?_append_left h2];exact hb)
theorem xlW {r:List En} {a b:En} (h:xg3 (r++[a])) (hb:b.id=a.id∧b.off=a.off∧b.ln=a.ln):xg3 (r++[b]):=by
 refine xeb (xlG h) (fun r' x hx=>?_)
 have h1:=h r'.length x a (by rw[hx];simp) (by rw[hx];simp)
 unfold xlY at h1 ⊢
 rw[hb.1,hb.2.1,hb.2.2]
 exact h1
structure OkE (e:En) (ts:List ByteArray):Prop where
 may:xaO e
 ck:ckN e=0
 run:1≤e.rn
 txt:∃ s,xaN s ts 0=some e.off.toNat∧e.ln=(s.size:Int)
theorem xfC {e:En} {ts:List ByteArray} {s:ByteArray} (h:xaN s ts 0=some e.off.toNat) (hl:e.ln=(s.size:Int)):txN e (xbU ts)=s:=by
 have h1:=xmt ts s 0 _ h
 unfold txN
 rw[hl,Int.toNat_natCast]
 exact h1
theorem xod (ts:List ByteArray) (s t:ByteArray) (k:Nat) (h:xaN s ts 0=some k):xaN s (xbK ts t) 0=some k:=by
 unfold xbK
 split
 ·rw[xet,h]
 ·exact h
theorem OkE.grow {e:En} {ts:List ByteArray} (h:OkE e ts) (t:ByteArray):OkE e (xbK ts t)∧txN e (xbU (xbK ts t))=txN e (xbU ts):=by
 obtain⟨s,h1,h2⟩:=h.txt
 have h3:=xod ts s t _ h1
 exact⟨⟨h.may,h.ck,h.run,s,h3,h2⟩,by rw[xfC h3 h2,xfC h1 h2]⟩
theorem xpx {e:En} {ts:List ByteArray} (h:OkE e ts) (t:ByteArray):xeX e (xbU (xbK ts t))=xeX e (xbU ts):=by
 unfold xeX
 rw[(h.grow t).2]
theorem xqp {l:List En} {ts:List ByteArray} (h:∀ e ∈ l,OkE e ts) (t:ByteArray):xd7 l (xbU (xbK ts t))=xd7 l (xbU ts):=by
 unfold xd7
 induction l with
 | nil=>rfl
 | cons e l ih=>rw[List.flatMap_cons,List.flatMap_cons,xpx (h e (by simp)) t,ih (fun x hx=>h x (by simp[hx]))]
theorem xhV {ts:List ByteArray} {s:ByteArray} (h0:0<s.size) (h1:s.size≤65536) (hl:ts.length<2048):lenA ts s=s.size∧xaN s (xbK ts s) 0=some (offA ts s):=by
 have he:eV ts s=0:=(xrQ ts s).2 ⟨h0,h1,.inr hl⟩
 refine⟨by unfold lenA;rw[if_pos he],?_⟩
 by_cases hm:s ∈ ts
 ·have hn:xcb ts s=false:=by
   cases hh:xcb ts s with
   | false=>rfl
   | true=>exact absurd hm ((xdG ts s).1 hh).2.2.1
  unfold xbK offA
  rw[hn,if_neg (by simp),if_neg (by simp),if_pos he]
  obtain⟨k,hk⟩:=Option.isSome_iff_exists.1 ((xcS s ts 0).2 hm)
  rw[hk]
  rfl
 ·have hn:xcb ts s=true:=(xdG ts s).2 ⟨h0,h1,hm,hl⟩
  unfold xbK offA
  rw[hn,if_pos rfl,if_pos rfl,xet,(xc4 s ts 0).2 hm]
  simp[xaN]
theorem xqX (ts:List ByteArray) (s x:ByteArray) (h0:0<s.size) (h1:s.size≤65536) (hl:ts.length<2048):x ∈ xbK ts s↔x ∈ ts∨x=s:=by
 unfold xbK
 split
 ·simp
 ·rename_i hn
  constructor
  ·exact .inl
  ·rintro(h|rfl)
   ·exact h
   ·have:x ∈ ts:=Classical.byContradiction fun hm=>hn ((xdG ts x).2 ⟨h0,h1,hm,hl⟩)
    exact this
structure RInv (P:List It) (rows:List En) (ts:List ByteArray):Prop where
 good:GoodP ts
 len:ts.length≤P.length
 mem:∀ s,s ∈ ts↔∃ t ∈ P,t.2=s
 ok:∀ e ∈ rows,OkE e ts
 row:xb9 (-1) rows=0
 exp:xd7 rows (xbU ts)=P
 one:xg3 rows
 few:rows.length≤P.length
 last:∀ r a,rows=r++[a]→∃ P' t,P=P'++[t]∧laN a=(t.1:Int)
theorem xq9:RInv [] [] []:=⟨xiA,Nat.le_refl _,by simp,by simp,rfl,rfl,xhw,Nat.le_refl _,fun r a h=>by simp at h⟩
theorem xlb {e:En} (h:ckN e=0) (hr:1≤e.rn):laN e=e.id+e.rn - 1:=by
 unfold laN wdN
 rw[if_pos h,if_neg (by omega)]
theorem xft (r:List En) (e:En) (p:Int) (h:xb9 p r=0) (hck:ckN e=0) (hp:(r.foldl (fun _ e=>laN e) p)<e.id):xb9 p (r++[e])=0:=by
 rw[xbl p r [e] h,xb9,if_neg (by simpa using hck),if_neg (by omega)]
 rfl
theorem xgM (r:List En) (e:En) (p:Int) (h:xb9 p (r++[e])=0):xb9 p r=0∧ckN e=0∧(r.foldl (fun _ e=>laN e) p)<e.id:=by
 have h1:=xdE p r [e] h
 rw[xbl p r [e] h1] at h
 obtain⟨h2,h3,_⟩:=xby _ e [] h
 exact⟨h1,h2,h3⟩
theorem xoJ (r:List En) (a:En) (p:Int):(r++[a]).foldl (fun _ e=>laN e) p=laN a:=by simp
theorem xm5 {P:List It} {rows:List En} {ts:List ByteArray} (h:RInv P rows ts) (t:It) (hr:∀ u ∈ P,u.1<t.1) (hlow:t.1<6004799503160661) (h0:0<t.2.size) (h1:t.2.size≤65536) (hf:P.length<2048) :
  RInv (P++[t]) (xnY (rows,ts) t).1 (xnY (rows,ts) t).2:=by
 have hl:ts.length<2048:=Nat.lt_of_le_of_lt h.len hf
 obtain⟨hlen,hfind⟩:=xhV h0 h1 hl
 have hgood:=h.good.add t.2
 have hnl:=xqW ts t.2
 have hmem:∀ s,s ∈ xbK ts t.2↔∃ u ∈ P++[t],u.2=s:=by
  intro s
  rw[xqX ts t.2 s h0 h1 hl,h.mem]
  constructor
  ·rintro(⟨u,hu,he⟩|rfl)
   ·exact⟨u,by simp[hu],he⟩
   ·exact⟨t,by simp,rfl⟩
  ·rintro⟨u,hu,he⟩
   rcases List.mem_append.1 hu with hu|hu
   ·exact .inl ⟨u,hu,he⟩
   ·rw[List.mem_singleton.1 hu] at he
    exact .inr he.symm
 have hexp:xd7 rows (xbU (xbK ts t.2))=P:=by rw[xqp h.ok,h.exp]
 have hok:∀ e ∈ rows,OkE e (xbK ts t.2):=fun e he=>((h.ok e he).grow t.2).1
 have hle:=xe4 _ _ _ _ hfind
 have htot:=hgood.tot
 obtain⟨e1,he1⟩:∃ e1,xwh ts t=e1:=⟨_,rfl⟩
 have d1:e1.id=(t.1:Int):=by rw[← he1];rfl
 have d2:e1.off=(offA ts t.2:Int):=by rw[← he1];rfl
 have d3:e1.ln=(t.2.size:Int):=by rw[← he1];show ((lenA ts t.2:Nat):Int)=_;rw[hlen]
 have d4:e1.rn=1:=by rw[← he1];rfl
 have dck:ckN e1=0:=by
  unfold ckN cnN wdN
  rw[if_neg (by omega),if_neg (by rw[if_neg (by omega)];omega),if_neg (by omega)]
 have dla:laN e1=(t.1:Int):=by rw[xlb dck (by omega)];omega
 have dok:OkE e1 (xbK ts t.2):=⟨by unfold xaO;omega,dck,by omega,t.2,by rw[hfind,d2,Int.toNat_natCast],d3⟩
 have dtx:txN e1 (xbU (xbK ts t.2))=t.2:=xfC (by rw[hfind,d2,Int.toNat_natCast]) d3
 have drun:xeX e1 (xbU (xbK ts t.2))=[t]:=by
  unfold xeX
  rw[d4,dtx,d1]
  show (List.range 1).map _=_
  simp
 show RInv (P++[t]) (xrP rows (xwh ts t)) (xbK ts t.2)
 rw[he1]
 rcases List.eq_nil_or_concat rows with rfl|⟨r,a,rfl⟩
 ·have hP:P=[]:=by rw[← h.exp];rfl
  subst hP
  rw[xrv]
  refine⟨hgood,by have h2:=h.len;simp only[List.length_nil,List.nil_append,List.length_singleton] at h2 ⊢;omega,hmem,by simpa using dok,?_,?_,?_,by simp,?_⟩
  ·exact xft [] e1 (-1) rfl dck (by simp;omega)
  ·rw[xdS,drun];rfl
  ·exact xeb xhw (fun r a h=>by simp at h)
  ·intro r a h
   obtain⟨_,rfl⟩:=List.append_inj' (show []++[e1]=r++[a] by simpa using h) rfl |>.imp id (fun h=>by simpa using h)
   exact⟨[],t,rfl,dla⟩
 ·rw[List.concat_eq_append] at *
  obtain⟨P',t0,hP,hla⟩:=h.last r a rfl
  have ha:=h.ok a (by simp)
  obtain⟨hrow,hcka,hpa⟩:=xgM r a (-1) h.row
  have hlt:t0.1<t.1:=hr t0 (by rw[hP];simp)
  have hlaa:=xlb ha.ck ha.run
  have hrun:=ha.run
  have hmay:=ha.may
  have hrn:a.rn.toNat≤P.length:=by
   have:=congrArg List.length h.exp
   rw[xbM,xdS,List.length_append,xeS] at this
   omega
  rw[xdj]
  by_cases hone:xlY a e1=true
  ·rw[if_pos hone]
   have hone':=of_decide_eq_true hone
   obtain⟨o1,o2,o3⟩:=hone'
   obtain⟨a2,ha2⟩:∃ a2:En,a2={ a with rn:=a.rn+1 }:=⟨_,rfl⟩
   have b1:a2.id=a.id:=by rw[ha2]
   have b2:a2.off=a.off:=by rw[ha2]
   have b3:a2.ln=a.ln:=by rw[ha2]
   have b4:a2.rn=a.rn+1:=by rw[ha2]
   rw[← ha2]
   clear ha2
   have hck:=xgr a ha.ck
   have hck2:ckN a2=0:=by
    unfold ckN cnN wdN
    rw[if_neg (by omega),if_neg (by rw[if_neg (by omega)];omega),if_neg (by omega)]
   have hla2:laN a2=(t.1:Int):=by rw[xlb hck2 (by omega)];omega
   have haok:=hok a (by simp)
   have hok2:OkE a2 (xbK ts t.2):=by
    obtain⟨s,f1,f2⟩:=haok.txt
    unfold xaO at hmay
    exact⟨by unfold xaO;omega,hck2,by omega,s,by rw[b2];exact f1,by rw[b3];exact f2⟩
   have htx2:txN a (xbU (xbK ts t.2))=t.2:=by
    have hx:txN a (xbU (xbK ts t.2))=txN e1 (xbU (xbK ts t.2)):=by unfold txN;rw[o2,o3]
    rw[hx]
    exact dtx
   have hrun2:xeX a2 (xbU (xbK ts t.2))=xeX a (xbU (xbK ts t.2))++[t]:=by
    have hx:txN a2 (xbU (xbK ts t.2))=t.2:=by
     have hy:txN a2 (xbU (xbK ts t.2))=txN a (xbU (xbK ts t.2)):=by unfold txN;rw[b2,b3]
     rw[hy]
     exact htx2
    unfold xeX
    rw[hx,htx2,b4,b1,show (a.rn+1).toNat=a.rn.toNat+1 by omega,List.range_succ,List.map_append]
    congr 1
    simp only[List.map_cons,List.map_nil]
    congr 1
    refine Prod.ext ?_ rfl
    show a.id.toNat+a.rn.toNat=t.1
    unfold xaO at hmay
    omega
   refine⟨hgood,?_,hmem,?_,?_,?_,?_,?_,?_⟩
   ·rw[List.length_append,List.length_singleton];have:=h.len;omega
   ·intro e he
    rcases List.mem_append.1 he with he|he
    ·exact hok e (by simp[he])
    ·rw[List.mem_singleton.1 he];exact hok2
   ·exact xft r a2 (-1) hrow hck2 (by rw[b1];exact hpa)
   ·rw[xbM,xdS] at hexp ⊢
    rw[hrun2,← List.append_assoc,hexp]
   ·exact xlW h.one ⟨b1,b2,b3⟩
   ·have:=h.few
    simp at this ⊢
    omega
   ·intro r' x hx
    obtain⟨_,hx2⟩:=List.append_inj' hx rfl
    simp at hx2
    subst hx2
    exact⟨P,t,rfl,hla2⟩
  ·have hone':xlY a e1=false:=by simpa using hone
   rw[if_neg hone]
   refine⟨hgood,?_,hmem,?_,?_,?_,?_,?_,?_⟩
   ·rw[List.length_append,List.length_singleton];have:=h.len;omega
   ·intro e he
    rcases List.mem_append.1 he with he|he
    ·exact hok e he
    ·rw[List.mem_singleton.1 he];exact dok
   ·exact xft (r++[a]) e1 (-1) h.row dck (by rw[xoJ];omega)
   ·rw[xbM,hexp,xdS,drun]
   ·refine xeb h.one (fun r' x hx=>?_)
    obtain⟨_,hx2⟩:=List.append_inj' hx rfl
    simp at hx2
    subst hx2
    exact hone'
   ·have:=h.few
    simp at this ⊢
    omega
   ·intro r' x hx
    obtain⟨_,hx2⟩:=List.append_inj' hx rfl
    simp at hx2
    subst hx2
    exact⟨P,t,rfl,dla⟩
theorem xcW {L:List It} (hg:GoodC L):∀ k,k≤L.length→RInv (L.take k) (xad (L.take k)).1 (xad (L.take k)).2:=by
 intro k
 induction k with
 | zero=>intro _;exact xq9
 | succ k ih =>
  intro hk
  obtain⟨t,ht⟩:∃ t,L[k]?=some t:=⟨_,List.getElem?_eq_getElem (by omega)⟩
  have hm:=List.mem_of_getElem? ht
  rw[xda L k t ht,xbY L k t ht]
  refine xm5 (ih (by omega)) t (fun u hu=>?_) (hg.low t hm) (hg.pos t hm) (hg.short t hm) (by rw[List.length_take];have:=hg.few;omega)
  obtain⟨j,hj⟩:=List.mem_iff_getElem?.1 hu
  rw[List.getElem?_take] at hj
  split at hj
  ·rename_i hjk
   obtain⟨h1,rfl⟩:=List.getElem?_eq_some_iff.1 hj
   obtain⟨h2,rfl⟩:=List.getElem?_eq_some_iff.1 ht
   exact List.pairwise_iff_getElem.1 hg.rise j k h1 h2 hjk
  ·cases hj
theorem xgU {L:List It} (hg:GoodC L):RInv L (xad L).1 (xad L).2:=by
 have h:=xcW hg L.length (Nat.le_refl _)
 rwa[List.take_length] at h
def xcE:List En→ByteArray→List It→Int→List It × Int
 | [],_,out,_=>(out,0)
 | e :: l,d,out,m =>
  if e.rn=0 then ([],14) else if (d.size:Int)<e.off+e.ln then ([],8) else if 2048<m+e.rn then ([],21) else if 65536<e.ln then ([],5)
  else xcE l d (out++xeX e d) (m+e.rn)
def xeO (l:List En) (d:ByteArray):List It × Int:=if xaC l≠0 then ([],xaC l) else xcE l d [] 0
structure TellE (e:En) (d:ByteArray):Prop where
 run:e.rn≠0
 inn:e.off+e.ln≤(d.size:Int)
 short:e.ln≤65536
theorem xj3:∀ (l:List En) (d:ByteArray) (out:List It) (m:Int),(∀ e ∈ l,TellE e d)→(∀ e ∈ l,0≤e.rn)→m+((l.map (·.rn)).sum)≤2048→xcE l d out m=(out++xd7 l d,0)
 | [],d,out,m,_,_,_=>by simp[xcE,xd7]
 | e :: l,d,out,m,h,hr,hs=>by
  have he:=h e (by simp)
  have hsum:0≤(l.map (·.rn)).sum:=by
   have key:∀ l:List En,(∀ e ∈ l,0≤e.rn)→0≤(l.map (·.rn)).sum:=by
    intro l
    induction l with
    | nil=>intro _;simp
    | cons x l ih=>intro hx;rw[List.map_cons,List.sum_cons];have:=ih (fun e he=>hx e (by simp[he]));have:=hx x (by simp);omega
   exact key l (fun x hx=>hr x (by simp[hx]))
  rw[List.map_cons,List.sum_cons] at hs
  rw[xcE,if_neg he.run,if_neg (by have:=he.inn;omega),if_neg (by omega),if_neg (by have:=he.short;omega),xj3 l d _ _ (fun x hx=>h x (by simp[hx])) (fun x hx=>hr x (by simp[hx])) (by omega)]
  rw[List.append_assoc]
  rfl
theorem xhT:∀ (l:List En) (d:ByteArray) (out:List It) (m:Int) (C:List It),xcE l d out m=(C,0)→(∀ e ∈ l,TellE e d)∧C=out++xd7 l d∧(l=[]∨m+((l.map (·.rn)).sum)≤2048)
 | [],d,out,m,C,h=>by
  rw[xcE] at h
  cases h
  exact⟨by simp,by simp[xd7],.inl rfl⟩
 | e :: l,d,out,m,C,h=>by
  rw[xcE] at h
  by_cases h1:e.rn=0
  ·rw[if_pos h1] at h;cases h
  rw[if_neg h1] at h
  by_cases h2:(d.size:Int)<e.off+e.ln
  ·rw[if_pos h2] at h;cases h
  rw[if_neg h2] at h
  by_cases h3:2048<m+e.rn
  ·rw[if_pos h3] at h;cases h
  rw[if_neg h3] at h
  by_cases h4:65536<e.ln
  ·rw[if_pos h4] at h;cases h
  rw[if_neg h4] at h
  obtain⟨g1,g2,g3⟩:=xhT l d _ _ C h
  refine⟨fun x hx=>?_,?_,.inr ?_⟩
  ·rcases List.mem_cons.1 hx with rfl|hx
   ·exact⟨h1,by omega,by omega⟩
   ·exact g1 x hx
  ·rw[g2,List.append_assoc];rfl
  ·rw[List.map_cons,List.sum_cons]
   rcases g3 with rfl|g3
   ·simp;omega
   ·omega
theorem xnp (l:List En) (d:ByteArray) (h:∀ e ∈ l,0≤e.rn):((xd7 l d).length:Int)=(l.map (·.rn)).sum:=by
 induction l with
 | nil=>rfl
 | cons e l ih =>
  have h1:=ih (fun x hx=>h x (by simp[hx]))
  have h2:=h e (by simp)
  unfold xd7 at h1 ⊢
  rw[List.flatMap_cons,List.length_append,List.map_cons,List.sum_cons,xeS]
  omega
theorem xsp (l:List En) (h:∀ e ∈ l,ckN e=0):xwA l=(l.map (·.rn)).sum:=by
 unfold xwA
 congr 1
 refine List.map_congr_left (fun e he=>?_)
 rw[if_pos (h e he)]
theorem xeh {L:List It} (hg:GoodC L):xeO (xad L).1 (xbU (xad L).2)=(L,0)∧xaC (xad L).1=0∧xg3 (xad L).1∧xwA (xad L).1=(L.length:Int)∧(xad L).1.length≤L.length∧(∀ e ∈ (xad L).1,OkE e (xad L).2)∧GoodP (xad L).2:=by
 have h:=xgU hg
 have hr:∀ e ∈ (xad L).1,0≤e.rn:=fun e he=>by have:=(h.ok e he).run;omega
 have hs:=xnp (xad L).1 (xbU (xad L).2) hr
 rw[h.exp] at hs
 have hf:=hg.few
 have hrow:xaC (xad L).1=0:=by
  unfold xaC
  rw[if_neg (by have:=h.few;omega)]
  exact h.row
 refine⟨?_,hrow,h.one,?_,h.few,h.ok,h.good⟩
 ·unfold xeO
  rw[if_neg (by simp[hrow]),xj3 _ _ _ _ (fun e he=>?_) hr (by omega),h.exp]
  ·rfl
  ·have ho:=h.ok e he
   obtain⟨s,f1,f2⟩:=ho.txt
   have h1:=xe4 _ _ _ _ f1
   have h2:=h.good.short s ((xcS s _ 0).1 (by rw[f1];rfl))
   have h3:=ho.may
   have h4:=ho.run
   unfold xaO at h3
   exact⟨by omega,by rw[xdJ];omega,by omega⟩
 ·rw[xsp _ (fun e he=>(h.ok e he).ck),hs]
end Go.Proofs.YtjinnigjfopbcaaGreatDoor
namespace Go.Proofs.YtjinnigjfopbcaaGreatDoor
set_option linter.unusedVariables false
set_option linter.unusedSimpArgs false
open Go.RowKit
set_option maxRecDepth 20000
theorem xav {k:IntKind} {a b:Int} (h:a=b):Ending.returned (.int k a)=.returned (.int k b):=by rw[h]
theorem xa3 {w:World} {a:Addr} {v:Value} (h:w.cell? a=some v):a.block<w.heap.size:=by
 rcases Nat.lt_or_ge a.block w.heap.size with h'|h'
 ·exact h'
 ·simp[World.cell?,Array.getElem?_eq_none h'] at h
theorem xal {w w':World} {a:Addr} {v:Value} (hb:Below w.heap.size w w') (h:w.cell? a=some v):w'.cell? a=some v:=(hb.cell (p:=a) (xa3 h)).trans h
def xb0 (w:World) (v:Value) (xs:List Value):Prop:=∃ a cap,v=.slice a xs.length cap∧xs.length≤cap∧cap≤maxLen∧∀ k t,xs[k]?=some t→∃ g off,a=some ⟨g,off,none⟩∧g<w.heap.size∧w.cell? ⟨g,off+k,none⟩=some t
theorem xf5 (w:World):xb0 w (.slice none 0 0) []:=⟨none,0,rfl,Nat.le_refl _,by simp,fun k t h=>by simp at h⟩
theorem xb0.below {w w':World} {v:Value} {xs:List Value} (h:xb0 w v xs) (hb:Below w.heap.size w w'):xb0 w' v xs:=by
 obtain⟨a,cap,rfl,h1,h2,hc⟩:=h
 refine⟨a,cap,rfl,h1,h2,fun k t ht=>?_⟩
 obtain⟨g,off,ha,hg,c⟩:=hc k t ht
 exact⟨g,off,ha,Nat.lt_of_lt_of_le hg hb.size,xal hb c⟩
theorem xb0.keep {w w':World} {v:Value} {xs:List Value} (h:xb0 w v xs) (hs:w.heap.size≤w'.heap.size) (hk:∀ a n c,v=.slice (some a) n c→a.block<w.heap.size→w'.heap[a.block]?=w.heap[a.block]?):xb0 w' v xs:=by
 obtain⟨a,cap,rfl,h1,h2,hc⟩:=h
 refine⟨a,cap,rfl,h1,h2,fun k t ht=>?_⟩
 obtain⟨g,off,rfl,hg,c⟩:=hc k t ht
 have hb:=hk ⟨g,off,none⟩ _ _ rfl hg
 exact⟨g,off,rfl,Nat.lt_of_lt_of_le hg hs,(World.cell?_of_block (a:=⟨g,off+k,none⟩) hb).trans c⟩
def xd8 (w:World) (B:Nat) (E:TypeId) (v:Value) (xs:List Value):Prop:=w.ownsRow B E 1 v xs.length xs
theorem xqT (w:World) (B:Nat) (E:TypeId):xd8 w B E (.slice none 0 0) []:=World.ownsRow_nil _ _ _ _
theorem xd8.lt {w:World} {B:Nat} {E:TypeId} {v:Value} {xs:List Value} (h:xd8 w B E v xs):∀ k,v.ownBlock=some k→B≤k∧k<w.heap.size:=World.ownsRow.lt h
theorem xd8.keep {w w':World} {B:Nat} {E:TypeId} {v:Value} {xs:List Value} (h:xd8 w B E v xs) (hk:∀ k,v.ownBlock=some k→w'.heap[k]?=w.heap[k]?):xd8 w' B E v xs:=by
 obtain⟨h1,h2⟩:=h
 refine⟨h1,?_⟩
 rcases h2 with h2|⟨g,cap,cur,hv,hg,hh,r⟩
 ·exact .inl h2
 ·refine .inr ⟨g,cap,cur,hv,hg,?_,r⟩
  rw[hk g (by rw[hv];rfl)];exact hh
theorem xd8.below {w w':World} {B:Nat} {E:TypeId} {v:Value} {xs:List Value} (h:xd8 w B E v xs) (hb:Below w.heap.size w w'):xd8 w' B E v xs :=
 h.keep (fun k hk=>hb.block k (h.lt k hk).2)
theorem xd8.mono {w:World} {B B':Nat} {E:TypeId} {v:Value} {xs:List Value} (h:xd8 w B E v xs) (hb:B'≤B):xd8 w B' E v xs:=by
 obtain⟨h1,h2⟩:=h
 refine⟨h1,?_⟩
 rcases h2 with h2|⟨g,cap,cur,hv,hg,r⟩
 ·exact .inl h2
 ·exact .inr ⟨g,cap,cur,hv,Nat.le_trans hb hg,r⟩
theorem xd8.form {w:World} {B:Nat} {E:TypeId} {v:Value} {xs:List Value} (h:xd8 w B E v xs) :
  (v=.slice none 0 0∧xs=[])∨∃ g cap,v=.slice (some ⟨g,0,none⟩) xs.length cap∧B≤g∧g<w.heap.size∧xs.length≤cap∧cap≤maxLen∧(∀ j,j<xs.length→w.cell? ⟨g,j,none⟩=xs[j]?)∧∀ j,w.frozen? ⟨g,j,none⟩=false:=by
 have hlt:=h.lt
 have h':=h
 obtain⟨h1,h2⟩:=h
 rcases h2 with ⟨rfl,hn⟩|⟨g,cap,cur,rfl,hg,hh,hle,hm,_⟩
 ·exact .inl ⟨rfl,List.eq_nil_of_length_eq_zero hn⟩
 ·exact .inr ⟨g,cap,rfl,hg,(hlt g rfl).2,hle,hm,fun j hj=>World.ownsRow.cellAt h' j (by omega),fun j=>World.ownsRow.frozenAt h' j⟩
theorem xd8.valsAt {w:World} {B:Nat} {E:TypeId} {v:Value} {xs:List Value} (h:xd8 w B E v xs):xb0 w v xs:=by
 rcases h.form with ⟨rfl,rfl⟩|⟨g,cap,rfl,hg,hl,h1,h2,hc,_⟩
 ·exact xf5 w
 ·refine⟨_,cap,rfl,h1,h2,fun k t ht=>⟨g,0,rfl,hl,?_⟩⟩
  have hk:=(List.getElem?_eq_some_iff.1 ht).1
  rw[Nat.zero_add,hc k hk];exact ht
theorem xn9 {w:World} {B:Nat} {E:TypeId} {v:Value} {n:Nat} {xs ys:List Value} (h:w.ownsRow B E 1 v n ys) (hn:n=xs.length) (he:ys=xs):xd8 w B E v xs:=by
 subst hn;subst he;exact h
def xuL (l:List ByteArray):List Value:=l.map Value.string
theorem xg6 (l:List ByteArray):(xuL l).length=l.length:=by simp[xuL]
theorem xnK (l:List ByteArray) (k:Nat):(xuL l)[k]?=l[k]?.map Value.string:=by simp[xuL]
def xbV (w:World) (v:Value) (l:List ByteArray):Prop:=∃ a cap,v=.slice a l.length cap∧l.length≤cap∧cap≤maxLen∧∀ k t,l[k]?=some t→∃ g off,a=some ⟨g,off,none⟩∧g<w.heap.size∧w.cell? ⟨g,off+k,none⟩=some (.string t)
theorem xbV.vals {w:World} {v:Value} {l:List ByteArray} (h:xbV w v l):xb0 w v (xuL l):=by
 obtain⟨a,cap,rfl,h1,h2,hc⟩:=h
 refine⟨a,cap,by rw[xg6],by rw[xg6];exact h1,h2,fun k t ht=>?_⟩
 rw[xnK] at ht
 obtain⟨s,hs,rfl⟩:=Option.map_eq_some_iff.1 ht
 exact hc k s hs
theorem xb0.strs {w:World} {v:Value} {l:List ByteArray} (h:xb0 w v (xuL l)):xbV w v l:=by
 obtain⟨a,cap,hv,h1,h2,hc⟩:=h
 rw[xg6] at hv h1
 exact⟨a,cap,hv,h1,h2,fun k t ht=>hc k (.string t) (by rw[xnK,ht];rfl)⟩
theorem xbV.below {w w':World} {v:Value} {l:List ByteArray} (h:xbV w v l) (hb:Below w.heap.size w w'):xbV w' v l:=(h.vals.below hb).strs
theorem xiZ {a b:ByteArray} (h:a=b):(a.toList == b.toList)=true:=by rw[h];simp
theorem xj5 {a b:ByteArray} (h:¬ a=b):(a.toList == b.toList)=false:=by
 rw[ByteArray.toList_eq,ByteArray.toList_eq,beq_eq_false_iff_ne]
 intro e
 exact h (ByteArray.ext (Array.toList_inj.1 e))
theorem xcn (w:World) (o:Obj):(w.alloc o).heap[w.heap.size]?=some o:=by
 show (w.heap.push o)[w.heap.size]?=_
 simp
theorem xb3:(Tryz.prog.info? 227).map (·.size)=some 2:=by kernel_rfl
theorem xeU (w:World) (g:Nat) (ty:TypeId) (x y:Value) (d:TypeDesc) (c0:w.cell? ⟨g,0,none⟩=some x) (c1:w.cell? ⟨g,1,none⟩=some y)
  (hu:Tryz.prog.underlying ty=some d) (hd:(match d with|.struct _|.array _ _=>true|_=>false)=true) (hi:(Tryz.prog.info? ty).map (·.size)=some 2) :
  (loadVar ty ⟨g,0,none⟩).run Tryz.prog w=.ok (.agg #[x,y]) w:=by
 have hl:(loadCells ⟨g,0,none⟩ 2).run Tryz.prog w=.ok #[x,y] w :=
  run_loadCells_list (P:=Tryz.prog) w ⟨g,0,none⟩ [x,y] (fun j v hv=>by
   have hadd:(⟨g,0,none⟩:Addr).add j=⟨g,j,none⟩:=by unfold Addr.add;split <;> simp_all
   rw[hadd]
   match j,hv with
   | 0,hv=>simp at hv;rw[c0,hv]
   | 1,hv=>simp at hv;rw[c1,hv]
   | j+2,hv=>simp at hv)
 cases hq:Tryz.prog.info? ty with
 | none=>simp[hq] at hi
 | some i =>
  have hs:i.size=2:=by simpa[hq] using hi
  have hagg:(isAgg ty).run Tryz.prog w=.ok true w:=by
   unfold isAgg
   rw[Sem.run_bind,run_underlying hu w]
   cases d <;> simp_all
  simp[loadVar,Sem.run_bind,hagg,sizeOf,typeInfo,hq,hs,hl]
theorem xgc {fn:Func} {p q:Tmp} {ty:TypeId} (h:fn.results=#[.cell p ty,.tmp q]) (tmps:Array Value) (w:World) (g:Nat) (x y v:Value) (d:TypeDesc) (hp:tmps.getD p undef=.pointer (some ⟨g,0,none⟩)) (hq:tmps.getD q undef=v) (c0:w.cell? ⟨g,0,none⟩=some x) (c1:w.cell? ⟨g,1,none⟩=some y)
  (hu:Tryz.prog.underlying ty=some d) (hd:(match d with|.struct _|.array _ _=>true|_=>false)=true) (hi:(Tryz.prog.info? ty).map (·.size)=some 2) :
  (results fn tmps).run Tryz.prog w=.ok (.tuple #[.agg #[x,y],v]) w:=by
 have hl:=xeU w g ty x y d c0 c1 hu hd hi
 have hp':tmps[p]?.getD undef=.pointer (some ⟨g,0,none⟩):=by simpa using hp
 have hq':tmps[q]?.getD undef=v:=by simpa using hq
 simp[results,h,hp',hq',asAddr,hl]
theorem xbL {fn:Func} {p q r:Tmp} {ty:TypeId} (h:fn.results=#[.cell p ty,.tmp q,.tmp r]) (tmps:Array Value) (w:World) (g:Nat) (x y v u:Value) (d:TypeDesc) (hp:tmps.getD p undef=.pointer (some ⟨g,0,none⟩)) (hq:tmps.getD q undef=v) (hr:tmps.getD r undef=u) (c0:w.cell? ⟨g,0,none⟩=some x) (c1:w.cell? ⟨g,1,none⟩=some y)
  (hu:Tryz.prog.underlying ty=some d) (hd:(match d with|.struct _|.array _ _=>true|_=>false)=true) (hi:(Tryz.prog.info? ty).map (·.size)=some 2) :
  (results fn tmps).run Tryz.prog w=.ok (.tuple #[.agg #[x,y],v,u]) w:=by
 have hl:=xeU w g ty x y d c0 c1 hu hd hi
 have hp':tmps[p]?.getD undef=.pointer (some ⟨g,0,none⟩):=by simpa using hp
 have hq':tmps[q]?.getD undef=v:=by simpa using hq
 have hr':tmps[r]?.getD undef=u:=by simpa using hr
 simp[results,h,hp',hq',hr',asAddr,hl]
def Two (w:World) (g:Nat) (x y:Value):Prop:=w.cell? ⟨g,0,none⟩=some x∧w.cell? ⟨g,1,none⟩=some y∧w.frozen? ⟨g,0,none⟩=false∧w.frozen? ⟨g,1,none⟩=false
theorem Two.lt {w:World} {g:Nat} {x y:Value} (h:Two w g x y):g<w.heap.size:=xa3 h.1
theorem Two.below {w w':World} {g:Nat} {x y:Value} (h:Two w g x y) (hb:Below w.heap.size w w'):Two w' g x y :=
 ⟨xal hb h.1,xal hb h.2.1,(hb.frozen (p:=⟨g,0,none⟩) h.lt).trans h.2.2.1,(hb.frozen (p:=⟨g,1,none⟩) h.lt).trans h.2.2.2⟩
theorem Two.alloc {w:World} {g:Nat} {x y:Value} (h:Two w g x y) (o:Obj):Two (w.alloc o) g x y:=h.below (Below.alloc (Below.refl _ _) (Nat.le_refl _) _)
theorem xem (w:World) (x y:Value) (T:TypeId):Two (w.alloc (.cells #[x,y] T)) w.heap.size x y:=⟨by simp[go_sem],by simp[go_sem],by simp[go_sem],by simp[go_sem]⟩
theorem Two.set {w:World} {g:Nat} {x y:Value} (h:Two w g x y) (x' y':Value):Two ((w.setCell ⟨g,0,none⟩ x').setCell ⟨g,1,none⟩ y') g x' y':=by
 obtain⟨h0,h1,h2,h3⟩:=h
 have e1:(w.setCell ⟨g,0,none⟩ x').cell? ⟨g,1,none⟩=some y:=by rw[World.cell?_setCell_other (h:=by simp),h1]
 refine⟨?_,World.cell?_setCell_same _ _ _ e1,by simpa using h2,by simpa using h3⟩
 rw[World.cell?_setCell_other (h:=by simp)]
 exact World.cell?_setCell_same _ _ _ h0
theorem Two.lower {w w':World} {B g:Nat} {x y:Value} (h:Two w g x y) (hb:Below B w w') (hg:g<B):Two w' g x y :=
 ⟨(hb.cell (p:=⟨g,0,none⟩) hg).trans h.1,(hb.cell (p:=⟨g,1,none⟩) hg).trans h.2.1,(hb.frozen (p:=⟨g,0,none⟩) hg).trans h.2.2.1,(hb.frozen (p:=⟨g,1,none⟩) hg).trans h.2.2.2⟩
theorem xd8.slice {w:World} {B:Nat} {E:TypeId} {v:Value} {xs:List Value} (h:xd8 w B E v xs):∃ a cap,v=.slice a xs.length cap:=by
 rcases h.form with ⟨rfl,rfl⟩|⟨g,cap,rfl,_⟩
 ·exact⟨none,0,rfl⟩
 ·exact⟨_,cap,rfl⟩
theorem xd8.two {w:World} {B g:Nat} {E:TypeId} {v:Value} {xs:List Value} (h:xd8 w B E v xs) (hg:g<B) (x y:Value):xd8 ((w.setCell ⟨g,0,none⟩ x).setCell ⟨g,1,none⟩ y) B E v xs:=by
 refine h.keep (fun k hk=>?_)
 have:=(h.lt k hk).1
 rw[Below.heap_setCell _ _ _ _ (by simp;omega),Below.heap_setCell _ _ _ _ (by simp;omega)]
structure Kept (S S':Nat→Prop) (W W':World):Prop where
 os:W'.os=W.os
 tape:W'.tape=W.tape
 output:W'.output=W.output
 size:W.heap.size≤W'.heap.size
 same:∀ b,b<W.heap.size→¬ S b→W'.heap[b]?=W.heap[b]?
 own:∀ b,S' b→S b∨W.heap.size≤b
theorem Kept.refl (S:Nat→Prop) (W:World):Kept S S W W:=⟨rfl,rfl,rfl,Nat.le_refl _,fun _ _ _=>rfl,fun _ h=>.inl h⟩
theorem Kept.trans {S S' S'':Nat→Prop} {X Y Z:World} (h:Kept S S' X Y) (h':Kept S' S'' Y Z):Kept S S'' X Z:=by
 refine⟨h'.os.trans h.os,h'.tape.trans h.tape,h'.output.trans h.output,Nat.le_trans h.size h'.size,fun b hb hs=>?_,fun b hb=>?_⟩
 ·rw[h'.same b (Nat.lt_of_lt_of_le hb h.size) (fun hs'=>?_),h.same b hb hs]
  rcases h.own b hs' with h1|h1
  ·exact hs h1
  ·omega
 ·rcases h'.own b hb with h1|h1
  ·exact h.own b h1
  ·exact .inr (Nat.le_trans h.size h1)
theorem Kept.below (S:Nat→Prop) {W W':World} (hb:Below W.heap.size W W'):Kept S S W W':=⟨hb.os,hb.tape,hb.output,hb.size,fun b hl _=>hb.block b hl,fun _ h=>.inl h⟩
theorem Below.kept {S S':Nat→Prop} {B:Nat} {w W W':World} (h:Below B w W) (hk:Kept S S' W W') (hS:∀ b,S b→B≤b) (hB:B≤W.heap.size):Below B w W' :=
 ⟨hk.os.trans h.os,hk.tape.trans h.tape,hk.output.trans h.output,Nat.le_trans h.size hk.size,fun b hb=>(hk.same b (Nat.lt_of_lt_of_le hb hB) (fun hs=>absurd (hS b hs) (by omega))).trans (h.block b hb)⟩
theorem Kept.cell {S S':Nat→Prop} {W W':World} (h:Kept S S' W W') {p:Addr} (hl:p.block<W.heap.size) (hp:¬ S p.block):W'.cell? p=W.cell? p:=World.cell?_of_block (h.same _ hl hp)
theorem Kept.vals {S S':Nat→Prop} {W W':World} (h:Kept S S' W W') {v:Value} {xs:List Value} (hv:xb0 W v xs) (hn:∀ a n c,v=.slice (some a) n c→¬ S a.block):xb0 W' v xs :=
 hv.keep h.size (fun a n c e hl=>h.same _ hl (hn a n c e))
def xpn (S:Nat→Prop) (W:World) (g:Nat) (x y:Value):Prop:=Two W g x y∧¬ S g
theorem xpn.kept {S S':Nat→Prop} {W W':World} {g:Nat} {x y:Value} (h:xpn S W g x y) (hk:Kept S S' W W'):xpn S' W' g x y:=by
 obtain⟨⟨h0,h1,h2,h3⟩,hn⟩:=h
 have hl:=xa3 h0
 have hs:=hk.same g hl hn
 refine⟨⟨(World.cell?_of_block (a:=⟨g,0,none⟩) hs).trans h0,(World.cell?_of_block (a:=⟨g,1,none⟩) hs).trans h1,(World.frozen?_of_block (a:=⟨g,0,none⟩) hs).trans h2,(World.frozen?_of_block (a:=⟨g,1,none⟩) hs).trans h3⟩,fun hg=>?_⟩
 rcases hk.own g hg with h|h
 ·exact hn h
 ·exact absurd h (Nat.not_le.2 hl)
theorem xpn.below {S:Nat→Prop} {W W':World} {g:Nat} {x y:Value} (h:xpn S W g x y) (hb:Below W.heap.size W W'):xpn S W' g x y:=⟨h.1.below hb,h.2⟩
theorem xpn.alloc {S:Nat→Prop} {W:World} {g:Nat} {x y:Value} (h:xpn S W g x y) (o:Obj):xpn S (W.alloc o) g x y:=⟨h.1.alloc o,h.2⟩
def Off (S:Nat→Prop) (W:World) (v:Value):Prop:=∀ a n c,v=.slice (some a) n c→a.block<W.heap.size∧¬ S a.block
theorem Off.kept {S S':Nat→Prop} {W W':World} {v:Value} (h:Off S W v) (hk:Kept S S' W W'):Off S' W' v:=fun a n c e=>by
 obtain⟨h1,h2⟩:=h a n c e
 refine⟨Nat.lt_of_lt_of_le h1 hk.size,fun hs=>?_⟩
 rcases hk.own _ hs with h|h
 ·exact h2 h
 ·omega
theorem Off.below {S:Nat→Prop} {W W':World} {v:Value} (h:Off S W v) (hs:W.heap.size≤W'.heap.size):Off S W' v:=fun a n c e=>⟨Nat.lt_of_lt_of_le (h a n c e).1 hs,(h a n c e).2⟩
theorem xbV.kept {S S':Nat→Prop} {W W':World} {v:Value} {l:List ByteArray} (h:xbV W v l) (ho:Off S W v) (hk:Kept S S' W W'):xbV W' v l :=
 (hk.vals h.vals (fun a n c e=>(ho a n c e).2)).strs
theorem xao {P:Program} {t:TypeId} {z:Option Value} {s b:Nat} (h:(P.info? t).map (fun i=>(i.zero,i.size,i.bytes))=some (z,s,b)):∃ i,P.info? t=some i∧i.zero=z∧i.size=s∧i.bytes=b:=by
 cases hi:P.info? t with
 | none=>rw[hi] at h;cases h
 | some i =>
  rw[hi] at h
  simp only[Option.map_some,Option.some.injEq,Prod.mk.injEq] at h
  exact⟨i,rfl,h.1,h.2.1,h.2.2⟩
def xvG:List (Nat × Nat)→List Value
 | []=>[]
 | t :: l=>.int .u64 t.1 :: .int .u32 t.2 :: xvG l
def xfM (w:World) (B:Nat) (E:TypeId) (v:Value) (l:List (Nat × Nat)):Prop:=w.ownsRow B E 2 v l.length (xvG l)
theorem xfM.lt {w:World} {B:Nat} {E:TypeId} {v:Value} {l:List (Nat × Nat)} (h:xfM w B E v l):∀ k,v.ownBlock=some k→B≤k∧k<w.heap.size:=World.ownsRow.lt h
theorem xfM.keep {w w':World} {B:Nat} {E:TypeId} {v:Value} {l:List (Nat × Nat)} (h:xfM w B E v l) (hk:∀ k,v.ownBlock=some k→w'.heap[k]?=w.heap[k]?):xfM w' B E v l:=by
 obtain⟨h1,h2⟩:=h
 refine⟨h1,?_⟩
 rcases h2 with h2|⟨g,cap,cur,hv,hg,hh,r⟩
 ·exact .inl h2
 ·refine .inr ⟨g,cap,cur,hv,hg,?_,r⟩
  rw[hk g (by rw[hv];rfl)];exact hh
theorem xfM.below {w w':World} {B:Nat} {E:TypeId} {v:Value} {l:List (Nat × Nat)} (h:xfM w B E v l) (hb:Below w.heap.size w w'):xfM w' B E v l :=
 h.keep (fun k hk=>hb.block k (h.lt k hk).2)
theorem xfM.kept {S S':Nat→Prop} {w w':World} {B:Nat} {E:TypeId} {v:Value} {l:List (Nat × Nat)} (h:xfM w B E v l) (ho:Off S w v) (hk:Kept S S' w w'):xfM w' B E v l:=by
 refine h.keep (fun k hb=>?_)
 cases v with
 | slice a n c =>
  cases a with
  | none=>cases hb
  | some a=>cases hb;exact hk.same _ (ho a n c rfl).1 (ho a n c rfl).2
 | _=>cases hb
theorem xe9 (sz bytes:Nat) (W:World) (B:Nat) (TS E ty:TypeId) (z:Value) (ht:Tryz.prog.underlying TS=some (.slice E)) (hI:(Tryz.prog.info? E).map (fun i=>(i.zero,i.size,i.bytes))=some (some z,sz,bytes)) (hzs:z.cells.size=sz) (hsz:0<sz) (hby:bytes≤64)
  (v:Value) (n:Nat) (L:List Value) (hown:W.ownsRow B E sz v n L) (ad:Addr) (m c:Nat) (xs:List Value) (hxs:xs.length=m*sz) (hnews:∀ j u,xs[j]?=some u→W.cell? (ad.add j)=some u) (hone:∀ u ∈ xs,u.oneCell'=true) (hm:0<m) (hl:n+m≤1000000000) (hb:B≤W.heap.size) :
  ∃ v' w',(Builtin.append_ #[TS,TS] ty #[v,.slice (some ad) m c]).run Tryz.prog W=.ok v' w'∧w'.ownsRow B E sz v' (n+m) (L++xs)∧W.grownBy w' v.ownBlock∧(v'.ownBlock=v.ownBlock∨∃ g,v'.ownBlock=some g∧W.heap.size≤g):=by
 obtain⟨i0,hi,hz0,hz1,hz2⟩:=xao hI
 have hbb:(n+m)*bytes≤1000000000*64:=Nat.mul_le_mul hl hby
 obtain⟨v',w',hr,h2,h3,h4⟩:=run_append_own (P:=Tryz.prog) W B TS ty E i0 _ sz bytes ht hi hz0 hz1 hz2 hzs hsz v n L hown ad m c xs hxs hnews hone (by unfold maxLen;omega) (by omega) hb
 refine⟨v',w',hr,h2,h3,?_⟩
 rcases hown.2 with ⟨rfl,hn⟩|⟨g,cap,cur,rfl,hbg,hg,hnc,hcm,hcs,htake⟩
 ·obtain⟨_,_,hr2,h22,_,_⟩:=run_append_own (P:=Tryz.prog) W W.heap.size TS ty E i0 _ sz bytes ht hi hz0 hz1 hz2 hzs hsz (.slice none 0 0) n L ⟨hown.1,.inl ⟨rfl,hn⟩⟩ ad m c xs hxs hnews hone (by unfold maxLen;omega) (by omega) (Nat.le_refl _)
  rw[hr] at hr2
  injection hr2 with e1 e2
  subst e1 e2
  rcases h22.2 with ⟨rfl,_⟩|⟨g,cap,cur,rfl,hg,_⟩
  ·exact .inl rfl
  ·exact .inr ⟨g,rfl,hg⟩
 ·have hL:L.length=n*i0.size:=by rw[hz1];exact hown.1
  by_cases hroom:n+m≤cap
  ·have hmul:(n+m)*sz≤cap*sz:=Nat.mul_le_mul_right _ hroom
   have hr2:=run_append_room (P:=Tryz.prog) W TS ty E i0 ht hi g n cap cur hg ad m c xs (by rw[hz1];exact hxs) hnews hone hroom (by rw[hz1,hxs,hcs,← Nat.add_mul];exact hmul)
   rw[hr] at hr2
   injection hr2 with e1 e2
   rw[e1]
   exact .inl rfl
  ·have hr2:=run_append_grow (P:=Tryz.prog) W TS ty E i0 _ ht hi hz0 ⟨g,0,none⟩ n cap L hL (World.ownsRow.cells hown rfl) ad m c xs (by rw[hz1];exact hxs) hnews (by omega) (by omega) (growslice_fits (by omega) (by rw[hz2];omega))
   rw[hr] at hr2
   injection hr2 with e1 e2
   rw[e1]
   exact .inr ⟨_,rfl,Nat.le_refl _⟩
theorem Kept.grown {S:Nat→Prop} {W W':World} {v:Value} (hg:W.grownBy W' v.ownBlock) (T:Nat→Prop) (hT:∀ k,v.ownBlock=some k→T k):Kept T T W W' :=
 ⟨hg.os,hg.tape,hg.output,hg.size,fun b hb hs=>hg.block b hb (fun e=>hs (hT b e.symm)),fun _ h=>.inl h⟩
end Go.Proofs.YtjinnigjfopbcaaGreatDoor
