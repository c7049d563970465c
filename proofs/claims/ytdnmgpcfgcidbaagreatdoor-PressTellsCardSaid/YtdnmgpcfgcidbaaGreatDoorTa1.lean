/- aKk aM aEp aEr aLa aEa aEc. -/
import Derived.Lib.Hide
import Derived.WalkSpells
import Derived.WalkLawsBesides
import Derived.Laws.AppendOwnNone
import Derived.Lib.AppendZeros
import Derived.BigQuiet
import Derived.Test.YtdnmgpcfgcidbaaGreatDoorRows
import Derived.Handy
import Derived.Deep.RegionHeld3
import Derived.Deep.DeepCutAuto
import Derived.Test.YtdnmgpcfgcidbaaGreatDoorTs
namespace Go.Proofs.YtdnmgpcfgcidbaaGreatDoor
set_option linter.unusedVariables false
set_option linter.unusedSimpArgs false
open Go.RowKit
set_option maxRecDepth 20000
structure Kept (S S':Nat→Prop) (W W':World):Prop where
 os:W'.os=W.os
 tape:W'.tape=W.tape
 output:W'.output=W.output
 size:W.heap.size≤W'.heap.size
 same:∀ b,b<W.heap.size→¬ S b→W'.heap[b]?=W.heap[b]?
 own:∀ b,S' b→S b∨W.heap.size≤b
theorem Kept.trans {S S' S'':Nat→Prop} {X Y Z:World} (h:Kept S S' X Y) (h':Kept S' S'' Y Z):Kept S S'' X Z:=by
 refine⟨h'.os.trans h.os,h'.tape.trans h.tape,h'.output.trans h.output,Nat.le_trans h.size h'.size,fun b hb hs=>?_,fun b hb=>?_⟩
 ·rw[h'.same b (Nat.lt_of_lt_of_le hb h.size) (fun hs'=>?_),h.same b hb hs]
  rcases h.own b hs' with h1|h1
  ·exact hs h1
  ·omega
 ·rcases h'.own b hb with h1|h1
  ·exact h.own b h1
  ·exact .inr (Nat.le_trans h.size h1)
theorem Kept.below (S:Nat→Prop) {W W':World} (hb:Below W.heap.size W W'):Kept S S W W':=⟨hb.os,hb.tape,hb.output,hb.size,fun b hl _=>hb.block b hl,fun _ h=>.inl h⟩
theorem Below.kept {S S':Nat→Prop} {B:Nat} {w W W':World} (h:Below B w W) (hk:Kept S S' W W') (hS:∀ b,S b→B≤b) (hB:B≤W.heap.size):Below B w W' :=
 ⟨hk.os.trans h.os,hk.tape.trans h.tape,hk.output.trans h.output,Nat.le_trans h.size hk.size,fun b hb=>(hk.same b (Nat.lt_of_lt_of_le hb hB) (fun hs=>absurd (hS b hs) (by omega))).trans (h.block b hb)⟩
end Go.Proofs.YtdnmgpcfgcidbaaGreatDoor
namespace Go.Proofs.YtdnmgpcfgcidbaaGreatDoor
set_option linter.unusedVariables false
set_option linter.unusedSimpArgs false
def p2:Nat→Int
 | 0=>1
 | k+1=>2*p2 k
def p4:Nat→Int
 | 0=>1
 | k+1=>4*p4 k
theorem p4_pos (k:Nat):1≤p4 k:=by
 induction k with
 | zero=>simp[p4]
 | succ k ih=>simp only[p4];omega
def hpl:Nat→Int→Int→Int
 | 0,_,_=>0
 | k+1,x,y=>if x<p2 k then (if y<p2 k then hpl k y x else p4 k+hpl k x (y - p2 k)) else if p2 k≤y then 2*p4 k+hpl k (x - p2 k) (y - p2 k) else 3*p4 k+hpl k (p2 k - 1 - y) (p2 k - 1 - (x - p2 k))
def hptX:Nat→Int→Int × Int
 | 0,_=>(0,0)
 | k+1,d=>if d<p4 k then ((hptX k d).2,(hptX k d).1) else if d<2*p4 k then ((hptX k (d - p4 k)).1,(hptX k (d - p4 k)).2+p2 k) else if d<3*p4 k then ((hptX k (d - 2*p4 k)).1+p2 k,(hptX k (d - 2*p4 k)).2+p2 k) else (2*p2 k - 1 - (hptX k (d - 3*p4 k)).2,p2 k - 1 - (hptX k (d - 3*p4 k)).1)
section
variable {α:Type} [DecidableEq α]
def ded:List α→List α
 | []=>[]
 | p :: r=>if p ∈ r then ded r else p :: ded r
theorem mem_ded (x:α) (l:List α):x ∈ ded l↔x ∈ l:=by
 induction l with
 | nil=>exact Iff.rfl
 | cons p r ih =>
  unfold ded
  split
  ·rename_i hp
   rw[ih,List.mem_cons]
   exact⟨.inr,fun h=>h.elim (fun h=>h ▸ hp) id⟩
  ·rw[List.mem_cons,List.mem_cons,ih]
theorem nodup_ded (l:List α):(ded l).Nodup:=by
 induction l with
 | nil=>exact List.nodup_nil
 | cons p r ih =>
  unfold ded
  split
  ·exact ih
  ·rename_i hp
   exact List.nodup_cons.2 ⟨fun h=>hp ((mem_ded p r).1 h),ih⟩
theorem nodup_len {a b:List α} (ha:a.Nodup) (hs:∀ x ∈ a,x ∈ b):a.length≤b.length:=by
 induction a generalizing b with
 | nil=>simp
 | cons p r ih =>
  obtain⟨h1,h2⟩:=List.nodup_cons.1 ha
  have hp:p ∈ b:=hs p (List.mem_cons_self ..)
  have:=ih (b:=b.erase p) h2 (fun x hx=>(List.mem_erase_of_ne (fun(e:x=p)=>h1 (e ▸ hx))).2 (hs x (List.mem_cons_of_mem _ hx)))
  rw[List.length_erase_of_mem hp] at this
  have h0:0<b.length:=List.length_pos_of_mem hp
  rw[List.length_cons]
  omega
def unl (l:List α):Nat:=(ded l).length
theorem unl_le {a b:List α} (h:∀ x ∈ a,x ∈ b):unl a≤unl b:=nodup_len (nodup_ded a) (fun x hx=>(mem_ded x b).2 (h x ((mem_ded x a).1 hx)))
theorem unl_eq {a b:List α} (h:∀ x,x ∈ a↔x ∈ b):unl a=unl b:=Nat.le_antisymm (unl_le fun x hx=>(h x).1 hx) (unl_le fun x hx=>(h x).2 hx)
theorem unl_nil:unl ([]:List α)=0:=rfl
theorem unl_cons (p:α) (r:List α):unl (p :: r)=if p ∈ r then unl r else unl r+1:=by
 unfold unl
 rw[ded]
 split <;> simp
theorem unl_snoc (l:List α) (p:α):unl (l++[p])=if p ∈ l then unl l else unl l+1:=by
 rw[← unl_cons]
 exact unl_eq (fun x=>by simp only[List.mem_append,List.mem_cons,List.not_mem_nil,or_false];exact or_comm)
theorem unl_nodup {l:List α} (h:l.Nodup):unl l=l.length:=by
 refine Nat.le_antisymm (nodup_len (nodup_ded l) fun x hx=>(mem_ded x l).1 hx) (nodup_len h fun x hx=>(mem_ded x l).2 hx)
theorem unl_append_le (a b:List α):unl (a++b)≤unl a+unl b:=by
 induction a with
 | nil=>simp[unl_nil]
 | cons p r ih =>
  rw[List.cons_append,unl_cons,unl_cons]
  by_cases h:p ∈ r
  ·rw[if_pos (List.mem_append_left _ h),if_pos h];exact ih
  ·rw[if_neg h]
   split <;> omega
theorem unl_parts (a b:List α):unl (a++b)≤unl a+unl b∧unl a≤unl (a++b)∧unl b≤unl (a++b)∧unl (a++b++a)=unl (a++b) :=
 ⟨unl_append_le a b,unl_le fun x hx=>List.mem_append_left _ hx,unl_le fun x hx=>List.mem_append_right _ hx,unl_eq fun x=>by
  simp only[List.mem_append]
  exact⟨fun h=>h.elim id .inl,.inl⟩⟩
theorem unl_len (l:List α):unl l≤l.length:=nodup_len (nodup_ded l) fun x hx=>(mem_ded x l).1 hx
end
structure En where
 id:Int
 off:Int
 ln:Int
 rn:Int
deriving DecidableEq
def zeroE:En:=⟨0,0,0,0⟩
def MayN (e:En):Prop:=(0≤e.id∧e.id≤18446744073709551615)∧(0≤e.off∧e.off≤18446744073709551615)∧(0≤e.ln∧e.ln≤4294967295)∧(0≤e.rn∧e.rn≤4294967295)
def cnN:Int:=6004799503160661
def wdN (e:En):Int:=if e.rn=0 then 1 else e.rn
def ckN (e:En):Int :=
 if e.ln=0 then 2 else
 if cnN≤e.id∨cnN<e.id+wdN e then 8 else
 if 1099511627776<e.off∨1099511627776<e.off+e.ln then 8 else 0
def laN (e:En):Int:=if ckN e=0 then e.id+wdN e - 1 else 0
theorem wd_pos (e:En) (h:0≤e.rn):1≤wdN e:=by unfold wdN;split <;> omega
theorem ck_ok (e:En) (h:ckN e=0):e.ln≠0∧e.id+wdN e≤6004799503160661∧e.id<6004799503160661∧e.off+e.ln≤1099511627776∧e.off≤1099511627776:=by
 unfold ckN cnN at h
 split at h
 ·omega
 split at h
 ·omega
 split at h
 ·omega
 omega
theorem la_ge (e:En) (hm:MayN e) (h:ckN e=0):e.id≤laN e∧laN e≤6004799503160660:=by
 have:=wd_pos e hm.2.2.2.1
 have:=ck_ok e h
 unfold laN
 rw[if_pos h]
 omega
def rowG:Int→List En→Int
 | _,[]=>0
 | p,e :: l=>if ckN e≠0 then ckN e else if e.id≤p then 10 else rowG (laN e) l
def rowN (l:List En):Int:=if 4096<l.length then 21 else rowG (-1) l
theorem rowG_append (p:Int) (a b:List En) (h:rowG p a=0):rowG p (a++b)=rowG (a.foldl (fun _ e=>laN e) p) b:=by
 induction a generalizing p with
 | nil=>rfl
 | cons e l ih =>
  rw[rowG] at h
  rw[List.cons_append,rowG]
  split at h
  ·contradiction
  ·rename_i hc
   rw[if_neg hc]
   split at h
   ·omega
   ·rename_i ho
    rw[if_neg ho]
    exact ih (laN e) h
theorem rowG_left (p:Int) (a b:List En) (h:rowG p (a++b)=0):rowG p a=0:=by
 induction a generalizing p with
 | nil=>rfl
 | cons e l ih =>
  rw[List.cons_append,rowG] at h
  rw[rowG]
  split at h
  ·contradiction
  ·rename_i hc
   rw[if_neg hc]
   split at h
   ·omega
   ·rename_i ho
    rw[if_neg ho]
    exact ih (laN e) h
theorem rowG_from (p q:Int) (l:List En) (h:rowG p l=0) (hq:q≤p):rowG q l=0:=by
 cases l with
 | nil=>rfl
 | cons e l =>
  rw[rowG] at h ⊢
  split at h
  ·contradiction
  ·rename_i hc
   rw[if_neg hc]
   split at h
   ·omega
   ·rename_i ho
    rw[if_neg (by omega)]
    exact h
theorem rowG_cons (p:Int) (e:En) (l:List En) (h:rowG p (e :: l)=0):ckN e=0∧p<e.id∧rowG (laN e) l=0:=by
 rw[rowG] at h
 split at h
 ·contradiction
 ·rename_i hc
  split at h
  ·omega
  ·rename_i ho
   exact⟨Classical.not_not.1 hc,by omega,h⟩
def cntN (l:List En):Int:=(l.map fun e=>if ckN e=0 then e.rn else 0).sum
def pairN (l:List En):List (Int × Int):=(l.filter fun e=>decide (ckN e=0) && decide (0<e.rn)).map fun e=>(e.off,e.ln)
def conN (l:List En):Nat:=unl (pairN l)
theorem pairN_append (a b:List En):pairN (a++b)=pairN a++pairN b:=by simp[pairN]
theorem pairN_snoc (l:List En) (e:En):pairN (l++[e])=pairN l++(if ckN e=0∧0<e.rn then [(e.off,e.ln)] else []):=by
 rw[pairN_append]
 congr 1
 by_cases h:ckN e=0∧0<e.rn
 ·rw[if_pos h];simp[pairN,h.1,h.2]
 ·rw[if_neg h]
  simp only[pairN,List.filter_cons,List.filter_nil]
  rw[if_neg (by simpa using h)]
  rfl
theorem conN_snoc (l:List En) (e:En):conN (l++[e])=if ckN e=0∧0<e.rn∧(e.off,e.ln) ∉ pairN l then conN l+1 else conN l:=by
 unfold conN
 rw[pairN_snoc]
 by_cases h:ckN e=0∧0<e.rn
 ·rw[if_pos h,unl_snoc]
  by_cases h2:(e.off,e.ln) ∈ pairN l
  ·rw[if_pos h2,if_neg (fun h3=>h3.2.2 h2)]
  ·rw[if_neg h2,if_pos ⟨h.1,h.2,h2⟩]
 ·rw[if_neg h,if_neg (fun h3=>h ⟨h3.1,h3.2.1⟩),List.append_nil]
theorem mem_pairN (l:List En) (q:Int × Int):q ∈ pairN l↔∃ e ∈ l,ckN e=0∧0<e.rn∧e.off=q.1∧e.ln=q.2:=by
 simp only[pairN,List.mem_map,List.mem_filter,Bool.and_eq_true,decide_eq_true_eq]
 constructor
 ·rintro⟨e,⟨h1,h2,h3⟩,rfl⟩
  exact⟨e,h1,h2,h3,rfl,rfl⟩
 ·rintro⟨e,h1,h2,h3,h4,h5⟩
  exact⟨e,⟨h1,h2,h3⟩,Prod.ext h4 h5⟩
end Go.Proofs.YtdnmgpcfgcidbaaGreatDoor
namespace Go.Proofs.YtdnmgpcfgcidbaaGreatDoor
set_option linter.unusedVariables false
set_option linter.unusedSimpArgs false
open Go.RowKit
set_option maxRecDepth 20000
theorem ecell_lt {w:World} {a:Addr} {v:Value} (h:w.cell? a=some v):a.block<w.heap.size:=by
 rcases Nat.lt_or_ge a.block w.heap.size with h'|h'
 ·exact h'
 ·simp[World.cell?,Array.getElem?_eq_none h'] at h
theorem ecell_later {w w':World} {a:Addr} {v:Value} (hb:Below w.heap.size w w') (h:w.cell? a=some v):w'.cell? a=some v:=(hb.cell (p:=a) (ecell_lt h)).trans h
def cE (e:En):List Value:=[.int .u64 e.id,.int .u64 e.off,.int .u32 e.ln,.int .u32 e.rn]
def flat4:List En→List Value
 | []=>[]
 | t :: l=>.int .u64 t.id :: .int .u64 t.off :: .int .u32 t.ln :: .int .u32 t.rn :: flat4 l
theorem flat4_len (l:List En):(flat4 l).length=l.length*4:=by
 induction l with
 | nil=>rfl
 | cons t l ih=>simp only[flat4,List.length_cons,ih];omega
theorem flat4_append (l m:List En):flat4 (l++m)=flat4 l++flat4 m:=by
 induction l with
 | nil=>rfl
 | cons t l ih=>simp only[List.cons_append,flat4,ih]
theorem flat4_one1 (e:En):flat4 [e]=cE e:=rfl
theorem flat4_at (l:List En) (n:Nat) (t:En) (h:l[n]?=some t):(flat4 l)[n*4]?=some (.int .u64 t.id)∧(flat4 l)[n*4+1]?=some (.int .u64 t.off)∧(flat4 l)[n*4+2]?=some (.int .u32 t.ln)∧(flat4 l)[n*4+3]?=some (.int .u32 t.rn):=by
 induction l generalizing n with
 | nil=>simp at h
 | cons u l ih =>
  cases n with
  | zero=>simp only[List.getElem?_cons_zero,Option.some.injEq] at h;subst h;exact⟨rfl,rfl,rfl,rfl⟩
  | succ n =>
   have:=ih n (by simpa using h)
   rw[show (n+1)*4=n*4+1+1+1+1 from by omega]
   simpa[flat4] using this
theorem flat4_cells (l:List En):∀ u ∈ flat4 l,u.oneCell'=true:=by
 induction l with
 | nil=>intro u hu;simp[flat4] at hu
 | cons t l ih =>
  intro u hu
  simp only[flat4,List.mem_cons] at hu
  rcases hu with rfl|rfl|rfl|rfl|hu
  ·rfl
  ·rfl
  ·rfl
  ·rfl
  ·exact ih u hu
def EnsAt (w:World) (v:Value) (l:List En):Prop :=
 ∃ a cap,v=.slice a l.length cap∧l.length≤cap∧cap≤maxLen∧∀ (k:Nat) (t:En),l[k]?=some t→∃ g off,a=some ⟨g,off,none⟩∧g<w.heap.size∧w.cell? ⟨g,off+k*4,none⟩=some (.int .u64 t.id)∧w.cell? ⟨g,off+k*4+1,none⟩=some (.int .u64 t.off)∧w.cell? ⟨g,off+k*4+2,none⟩=some (.int .u32 t.ln)∧w.cell? ⟨g,off+k*4+3,none⟩=some (.int .u32 t.rn)
theorem EnsAt.below {w w':World} {v:Value} {l:List En} (h:EnsAt w v l) (hb:Below w.heap.size w w'):EnsAt w' v l:=by
 obtain⟨a,cap,hv,h1,h2,hc⟩:=h
 refine⟨a,cap,hv,h1,h2,fun k t ht=>?_⟩
 obtain⟨g,off,ha,hg,c0,c1,c2,c3⟩:=hc k t ht
 exact⟨g,off,ha,Nat.lt_of_lt_of_le hg hb.size,ecell_later hb c0,ecell_later hb c1,ecell_later hb c2,ecell_later hb c3⟩
theorem ens_nil (w:World):EnsAt w (.slice none 0 0) []:=⟨none,0,rfl,Nat.le_refl _,by unfold maxLen;omega,fun k t h=>by simp at h⟩
def OwnE (w:World) (B:Nat) (E:TypeId) (v:Value) (l:List En):Prop:=w.ownsRow B E 4 v l.length (flat4 l)
theorem ownE_nil (w:World) (B:Nat) (E:TypeId):OwnE w B E (.slice none 0 0) []:=World.ownsRow_nil _ _ _ _
theorem OwnE.lt {w:World} {B:Nat} {E:TypeId} {v:Value} {l:List En} (h:OwnE w B E v l):∀ k,v.ownBlock=some k→B≤k∧k<w.heap.size:=World.ownsRow.lt h
theorem OwnE.below {w w':World} {B:Nat} {E:TypeId} {v:Value} {l:List En} (h:OwnE w B E v l) (hb:Below w.heap.size w w'):OwnE w' B E v l:=by
 have hlt:=h.lt
 obtain⟨h1,h2⟩:=h
 refine⟨h1,?_⟩
 rcases h2 with h2|⟨g,cap,cur,hv,hg,hh,r⟩
 ·exact .inl h2
 ·refine .inr ⟨g,cap,cur,hv,hg,?_,r⟩
  rw[hb.block g (hlt g (by rw[hv];rfl)).2];exact hh
theorem OwnE.form {w:World} {B:Nat} {E:TypeId} {v:Value} {l:List En} (h:OwnE w B E v l) :
  (v=.slice none 0 0∧l=[])∨∃ g cap,v=.slice (some ⟨g,0,none⟩) l.length cap∧B≤g∧g<w.heap.size∧l.length≤cap∧cap≤maxLen∧(∀ j,j<l.length*4→w.cell? ⟨g,j,none⟩=(flat4 l)[j]?)∧∀ j,w.frozen? ⟨g,j,none⟩=false:=by
 have hlt:=h.lt
 have h':=h
 obtain⟨h1,h2⟩:=h
 rcases h2 with ⟨rfl,hn⟩|⟨g,cap,cur,rfl,hg,hh,hle,hm,_⟩
 ·exact .inl ⟨rfl,List.eq_nil_of_length_eq_zero hn⟩
 ·exact .inr ⟨g,cap,rfl,hg,(hlt g rfl).2,hle,hm,fun j hj=>World.ownsRow.cellAt h' j hj,fun j=>World.ownsRow.frozenAt h' j⟩
theorem OwnE.ensAt {w:World} {B:Nat} {E:TypeId} {v:Value} {l:List En} (h:OwnE w B E v l):EnsAt w v l:=by
 rcases h.form with ⟨rfl,rfl⟩|⟨g,cap,rfl,hB,hg,hle,hm,hc,_⟩
 ·exact ens_nil w
 ·refine⟨_,cap,rfl,hle,hm,fun k t ht=>⟨g,0,rfl,hg,?_⟩⟩
  have hk:k<l.length:=(List.getElem?_eq_some_iff.1 ht).1
  obtain⟨f0,f1,f2,f3⟩:=flat4_at l k t ht
  exact⟨by rw[Nat.zero_add,hc _ (by omega)];exact f0,by rw[Nat.zero_add,hc _ (by omega)];exact f1,by rw[Nat.zero_add,hc _ (by omega)];exact f2,by rw[Nat.zero_add,hc _ (by omega)];exact f3⟩
theorem owne_conv {w:World} {B n:Nat} {E:TypeId} {v:Value} {xs:List Value} {l:List En} (h:w.ownsRow B E 4 v n xs) (hn:n=l.length) (hx:xs=flat4 l):OwnE w B E v l:=by
 subst hn;subst hx;exact h
end Go.Proofs.YtdnmgpcfgcidbaaGreatDoor
namespace Go.Proofs.YtdnmgpcfgcidbaaGreatDoor
set_option linter.unusedVariables false
set_option linter.unusedSimpArgs false
abbrev It:=Nat × ByteArray
def getI (id:Nat):List It→Option ByteArray
 | []=>none
 | t :: l=>if t.1=id then some t.2 else getI id l
def delI (id:Nat) (l:List It):List It:=l.filter (fun t=>decide (t.1≠id))
def lowI (id:Nat) (l:List It):List It:=l.takeWhile (fun t=>decide (t.1<id))
def highI (id:Nat) (l:List It):List It:=l.dropWhile (fun t=>decide (t.1<id))
def putI (id:Nat) (s:ByteArray) (l:List It):List It:=lowI id (delI id l)++(id,s) :: highI id (delI id l)
def putE (l:List It) (id:Nat) (s:ByteArray):Nat:=if 6004799503160661≤id then 8 else if s.size=0 then 2 else if 65536<s.size then 5 else if (getI id l).isNone && decide (2048≤l.length) then 7 else 0
def putL (l:List It) (id:Nat) (s:ByteArray):List It:=if putE l id s=0 then putI id s l else l
def bytesI:List It→Nat
 | []=>0
 | t :: l=>t.2.size+bytesI l
def ofR:List It→List It→List It→List It × Nat
 | _,acc,[]=>(acc,0)
 | seen,acc,t :: r=>if (getI t.1 seen).isSome then ([],22) else if putE acc t.1 t.2≠0 then ([],putE acc t.1 t.2) else ofR (seen++[t]) (putI t.1 t.2 acc) r
def ofI (l:List It):List It × Nat:=ofR [] [] l
def Rise (l:List It):Prop:=l.Pairwise (fun a b=>a.1<b.1)
structure GoodC (l:List It):Prop where
 rise:Rise l
 low:∀ t ∈ l,t.1<6004799503160661
 pos:∀ t ∈ l,0<t.2.size
 short:∀ t ∈ l,t.2.size≤65536
 few:l.length≤2048
theorem goodC_nil:GoodC []:=⟨List.Pairwise.nil,by simp,by simp,by simp,by simp⟩
theorem bytesI_append (a b:List It):bytesI (a++b)=bytesI a+bytesI b:=by
 induction a with
 | nil=>simp[bytesI]
 | cons t l ih=>rw[List.cons_append,bytesI,bytesI,ih];omega
theorem bytesI_take (l:List It) (k:Nat):bytesI (l.take k)≤bytesI l:=by
 have h:=bytesI_append (l.take k) (l.drop k)
 rw[List.take_append_drop] at h
 omega
theorem bytesI_step (l:List It) (k:Nat) (t:It) (h:l[k]?=some t):bytesI (l.take (k+1))=bytesI (l.take k)+t.2.size:=by
 rw[List.take_add_one,h,bytesI_append]
 simp[bytesI]
theorem idrop_at {α:Type} (l:List α) (k:Nat) (t:α) (h:l[k]?=some t):l.drop k=t :: l.drop (k+1):=by
 obtain⟨hk,rfl⟩:=List.getElem?_eq_some_iff.1 h
 exact List.drop_eq_getElem_cons hk
theorem itake_at {α:Type} (l:List α) (k:Nat) (t:α) (h:l[k]?=some t):l.take (k+1)=l.take k++[t]:=by
 rw[List.take_add_one,h];rfl
theorem getI_none (id:Nat) (l:List It):getI id l=none↔∀ t ∈ l,t.1≠id:=by
 induction l with
 | nil=>simp[getI]
 | cons t l ih =>
  rw[getI]
  by_cases h:t.1=id
  ·rw[if_pos h];simp[h]
  ·rw[if_neg h,ih];simp[h]
theorem delI_step (id:Nat) (l:List It) (k:Nat) (t:It) (h:l[k]?=some t):delI id (l.take (k+1))=if t.1=id then delI id (l.take k) else delI id (l.take k)++[t]:=by
 unfold delI
 rw[itake_at l k t h,List.filter_append]
 by_cases e:t.1=id
 ·rw[if_pos e];simp[e]
 ·rw[if_neg e];simp[e]
theorem delI_len (id:Nat) (l:List It):(delI id l).length≤l.length:=List.length_filter_le _ _
theorem delI_bytes (id:Nat) (l:List It):bytesI (delI id l)≤bytesI l:=by
 unfold delI
 induction l with
 | nil=>simp[bytesI]
 | cons t l ih =>
  rw[List.filter_cons]
  split
  ·rw[bytesI,bytesI];omega
  ·rw[bytesI];omega
theorem low_high (id:Nat) (l:List It):lowI id l++highI id l=l:=List.takeWhile_append_dropWhile
end Go.Proofs.YtdnmgpcfgcidbaaGreatDoor
namespace Go.Proofs.YtdnmgpcfgcidbaaGreatDoor
set_option linter.unusedVariables false
set_option linter.unusedSimpArgs false
open Go.RowKit
set_option maxRecDepth 20000
theorem takeH {P:Program} {ops:Array Oper} {Q:Exit→Act→World→Prop} {md:Region.Mode} {S:World→Prop} {i d:Nat} {oi:Oper} {v:Value} {fuel:Nat} {listed:Array Bool} {a:Act} {w:World} (hi:ops[i]?=some oi) (hd:oi.dst=some d)
  (hy:YieldsIf P ops S oi v a) (hS:S w) (h:wpAnyH P md ops Q S fuel (listed.setIfInBounds i true) (a.put (some d) v) w)
  (hs:Region.noSelect ops=true:=by kernel_rfl) (hf:Region.free md ops listed i=true:=by kernel_rfl) (hr:(Region.ready md ops listed).contains i=true:=by kernel_rfl) (hQ:∀ c a w,Q (.panic c) (a.put (some d) v) w→Q (.panic c) a w:=by exact fun _ _ _ h=>h):wpAnyH P md ops Q S (fuel+1) listed a w :=
 wpAnyH_take hi hs hf hr (by rw[hd];exact hQ) hy hS (by rw[hd];exact h)
theorem tK {P:Program} {ops:Array Oper} {Q:Exit→Act→World→Prop} {md:Region.Mode} {S:World→Prop} {oi:Oper} {v:Value} {fuel:Nat} {listed:Array Bool} {a:Act} {w:World} (i d:Nat) (hS:S w)
  (h:wpAnyH P md ops Q S fuel (listed.setIfInBounds i true) (a.put (some d) v) w) (hi:ops[i]?=some oi:=by rfl) (hd:oi.dst=some d:=by rfl) (hs:Region.noSelect ops=true:=by kernel_rfl) (hf:Region.free md ops listed i=true:=by kernel_rfl) (hr:(Region.ready md ops listed).contains i=true:=by kernel_rfl)
  (hQ:∀ c a w,Q (.panic c) (a.put (some d) v) w→Q (.panic c) a w:=by exact fun _ _ _ h=>h) (hw:Region.wanted oi (yielded ops a.tmps)=true:=by rfl) (hy:∀ w,S w→(execOp a.eval oi).run P w=.ok (.value v) w:=by intro w hSw;go_simp;try with_reducible rfl):wpAnyH P md ops Q S (fuel+1) listed a w :=
 takeH hi hd (Or.inl ⟨hw,hy⟩) hS h hs hf hr hQ
theorem tU {P:Program} {ops:Array Oper} {Q:Exit→Act→World→Prop} {md:Region.Mode} {S:World→Prop} {oi:Oper} {fuel:Nat} {listed:Array Bool} {a:Act} {w:World} (i d:Nat) (hS:S w)
  (h:wpAnyH P md ops Q S fuel (listed.setIfInBounds i true) (a.put (some d) undef) w) (hi:ops[i]?=some oi:=by rfl) (hd:oi.dst=some d:=by rfl) (hs:Region.noSelect ops=true:=by kernel_rfl) (hf:Region.free md ops listed i=true:=by kernel_rfl) (hr:(Region.ready md ops listed).contains i=true:=by kernel_rfl)
  (hQ:∀ c a w,Q (.panic c) (a.put (some d) undef) w→Q (.panic c) a w:=by exact fun _ _ _ h=>h) (hw:Region.wanted oi (yielded ops a.tmps)=false:=by rfl):wpAnyH P md ops Q S (fuel+1) listed a w :=
 takeH hi hd (Or.inr ⟨hw,rfl⟩) hS h hs hf hr hQ
def eC (e:En):Array Value:=#[.int .u64 e.id,.int .u64 e.off,.int .u32 e.ln,.int .u32 e.rn]
def EAt (w:World) (b:Nat) (e:En):Prop:=w.cell? ⟨b,0,none⟩=some (.int .u64 e.id)∧w.cell? ⟨b,1,none⟩=some (.int .u64 e.off)∧w.cell? ⟨b,2,none⟩=some (.int .u32 e.ln)∧w.cell? ⟨b,3,none⟩=some (.int .u32 e.rn)
theorem EAt.later {w w':World} {b:Nat} {e:En} (h:EAt w b e) (hb:Below w.heap.size w w'):EAt w' b e:=⟨ecell_later hb h.1,ecell_later hb h.2.1,ecell_later hb h.2.2.1,ecell_later hb h.2.2.2⟩
theorem EAt.made (w:World) (e:En) (T:TypeId):EAt (w.alloc (.cells (eC e) T)) w.heap.size e:=by
 unfold EAt eC
 refine⟨?_,?_,?_,?_⟩ <;> rw[World.cell?_alloc_mark] <;> rfl
theorem keepE {w w' w1:World} {b:Nat} {e:En} (hb:Below w'.heap.size w' w1) (H:(w'.cell? ⟨b,0,none⟩=some (.int .u64 e.id)∧w'.cell? ⟨b,1,none⟩=some (.int .u64 e.off)∧w'.cell? ⟨b,2,none⟩=some (.int .u32 e.ln)∧w'.cell? ⟨b,3,none⟩=some (.int .u32 e.rn))∧Below w.heap.size w w'):(w1.cell? ⟨b,0,none⟩=some (.int .u64 e.id)∧w1.cell? ⟨b,1,none⟩=some (.int .u64 e.off)∧w1.cell? ⟨b,2,none⟩=some (.int .u32 e.ln)∧w1.cell? ⟨b,3,none⟩=some (.int .u32 e.rn))∧Below w.heap.size w w1:=⟨EAt.later H.1 hb,H.2.trans (hb.mono H.2.size)⟩
theorem ret_i64 {a b:Int} (h:a=b):Ending.returned (.int .i64 a)=.returned (.int .i64 b):=by rw[h]
theorem ret_u64 {a b:Int} (h:a=b):Ending.returned (.int .u64 a)=.returned (.int .u64 b):=by rw[h]
theorem ret_b {a b:Bool} (h:a=b):Ending.returned (.bool a)=.returned (.bool b):=by rw[h]
theorem rwide_any (e:En) (w:World) (hm:MayN e):Calls Tryz.prog 176 #[.agg (eC e)] w fun x w'=>x=.returned (.int .u64 (wdN e))∧Below w.heap.size w w':=by
 obtain⟨i,o,l,r⟩:=e
 obtain⟨m0,m1,m2,m3⟩:=hm
 dsimp only at m0 m1 m2 m3
 unfold eC wdN
 dsimp only
 by_cases h:r=0
 ·subst h
  go_enter Tryz.func176,Tryz.ntmps176
  go_wp2_with fail
  go_ret
  exact⟨rfl,by go_grown⟩
 ·have hd:(r == 0)=false:=by simpa using h
  have hw:IntKind.u64.wrap r=r:=by rw[IntKind.wrap_u64] <;> omega
  rw[if_neg h]
  clear h
  go_enter Tryz.func176,Tryz.ntmps176
  go_wp2_with fail
  go_ret
  exact⟨rfl,by go_grown⟩
set_option maxRecDepth 20000 in
set_option maxHeartbeats 1000000 in
theorem rcheckN_any (e:En) (w:World) (hm:MayN e):Calls Tryz.prog 106 #[.agg (eC e)] w fun x w'=>x=.returned (.int .i64 (ckN e))∧Below w.heap.size w w':=by
 have HW:=Lib.hid (fun W=>rwide_any e W hm)
 obtain⟨m0,m1,m2,m3⟩:=hm
 have H0:=EAt.made w e 185
 have HB:Below w.heap.size w (w.alloc (.cells (eC e) 185)):=(Below.refl _ _).alloc (Nat.le_refl _) _
 have HS0:=keepE (Below.drew (Below.refl _ _)) ⟨H0,HB⟩
 have hck:Hid (ckN e=if e.ln=0 then 2 else if cnN≤e.id∨cnN<e.id+wdN e then 8 else if 1099511627776<e.off∨1099511627776<e.off+e.ln then 8 else 0):=Lib.hid rfl
 have hwd:=wd_pos e m3.1
 have hwu:wdN e≤4294967295:=by unfold wdN;split <;> omega
 obtain⟨R,hR⟩:∃ R,ckN e=R:=⟨_,rfl⟩
 rw[hR] at hck ⊢
 clear hR
 obtain⟨d,hd⟩:∃ d,wdN e=d:=⟨_,rfl⟩
 rw[hd] at HW hck hwd hwu
 clear hd
 unfold cnN at hck
 by_cases h1:e.ln=0
 ·have hR:R=2:=by rw[hck.out,if_pos h1]
  subst hR
  have hl:(e.ln == 0)=true:=by simpa using h1
  clear HW HS0 hck
  unfold eC at HB ⊢
  go_enter Tryz.func106,Tryz.ntmps106
  go_wp2_with fail
  go_ret
  exact⟨rfl,by go_grown⟩
 have hl:(e.ln == 0)=false:=by simpa using h1
 rw[if_neg h1] at hck
 by_cases h2:6004799503160661≤e.id
 ·have hR:R=8:=by rw[hck.out,if_pos (.inl h2)]
  subst hR
  have hi:decide (6004799503160661≤e.id)=true:=by simpa using h2
  clear hck HW
  unfold eC at HB HS0 ⊢
  go_enter Tryz.func106,Tryz.ntmps106
  go_upto_region 3 with fail
  refine wp_region_held_drew (S:=fun w'=>(w'.cell? ⟨w.heap.size,0,none⟩=some (.int .u64 e.id)∧w'.cell? ⟨w.heap.size,1,none⟩=some (.int .u64 e.off)∧w'.cell? ⟨w.heap.size,2,none⟩=some (.int .u32 e.ln)∧w'.cell? ⟨w.heap.size,3,none⟩=some (.int .u32 e.rn))∧Below w.heap.size w w') (by kernel_rfl) HS0 (fun hH0=>?_)
  refine tK 0 6 hH0 ?_
  try simp only[Act.put,zsA,zsB,zsC]
  refine tK 1 7 hH0 ?_
  try simp only[Act.put,zsA,zsB,zsC]
  refine tK 2 8 hH0 ?_
  try simp only[Act.put,zsA,zsB,zsC]
  refine tK 3 9 hH0 ?_
  try simp only[Act.put,zsA,zsB,zsC]
  refine tU 4 10 hH0 ?_
  try simp only[Act.put,zsA,zsB,zsC]
  refine tU 5 11 hH0 ?_
  try simp only[Act.put,zsA,zsB,zsC]
  refine tU 6 12 hH0 ?_
  try simp only[Act.put,zsA,zsB,zsC]
  refine tU 7 13 hH0 ?_
  try simp only[Act.put,zsA,zsB,zsC]
  refine tU 8 14 hH0 ?_
  try simp only[Act.put,zsA,zsB,zsC]
  refine tU 9 15 hH0 ?_
  try simp only[Act.put,zsA,zsB,zsC]
  refine tK 10 16 hH0 ?_
  try simp only[Act.put,zsA,zsB,zsC]
  refine wpAnyH_done (by kernel_rfl) ?_ _
  go_wp2_with fail
  go_ret
  exact⟨rfl,hH0.2⟩
 have hi:decide (6004799503160661≤e.id)=false:=by simpa using h2
 have hw:IntKind.u64.wrap (e.id+d)=e.id+d:=by rw[IntKind.wrap_u64] <;> omega
 by_cases h3:6004799503160661<e.id+d
 ·have hR:R=8:=by rw[hck.out,if_pos (.inr h3)]
  subst hR
  have hj:decide (6004799503160661<e.id+d)=true:=by simpa using h3
  clear hck
  unfold eC at HB HS0 HW ⊢
  go_enter Tryz.func106,Tryz.ntmps106
  go_upto_region 3 with fail
  refine wp_region_held_drew (S:=fun w'=>(w'.cell? ⟨w.heap.size,0,none⟩=some (.int .u64 e.id)∧w'.cell? ⟨w.heap.size,1,none⟩=some (.int .u64 e.off)∧w'.cell? ⟨w.heap.size,2,none⟩=some (.int .u32 e.ln)∧w'.cell? ⟨w.heap.size,3,none⟩=some (.int .u32 e.rn))∧Below w.heap.size w w') (by kernel_rfl) HS0 (fun hH0=>?_)
  refine tK 0 6 hH0 ?_
  try simp only[Act.put,zsA,zsB,zsC]
  refine tK 1 7 hH0 ?_
  try simp only[Act.put,zsA,zsB,zsC]
  refine tK 2 8 hH0 ?_
  try simp only[Act.put,zsA,zsB,zsC]
  refine tK 3 9 hH0 ?_
  try simp only[Act.put,zsA,zsB,zsC]
  refine tK 4 10 hH0 ?_
  try simp only[Act.put,zsA,zsB,zsC]
  refine tK 5 11 hH0 ?_
  try simp only[Act.put,zsA,zsB,zsC]
  refine tK 6 12 hH0 ?_
  try simp only[Act.put,zsA,zsB,zsC]
  refine wpAnyH_ready (rs:=[7]) (by kernel_rfl) (by simp) ?_
  refine AllReadyH.cons rfl (fun K hK=>?_) AllReadyH.nil
  go_simp
  refine(HW.out _).mono ?_
  rintro e w' ⟨rfl,hb⟩
  go_wp2_with fail
  refine hK.out _ _ (keepE hb hH0) (fun hH1=>?_)
  clear hK K hb hH0
  try simp only[Act.put,zsA,zsB,zsC]
  refine tK 8 14 hH1 ?_
  try simp only[Act.put,zsA,zsB,zsC]
  refine tK 9 15 hH1 ?_
  try simp only[Act.put,zsA,zsB,zsC]
  refine tK 10 16 hH1 ?_
  try simp only[Act.put,zsA,zsB,zsC]
  refine wpAnyH_done (by kernel_rfl) ?_ _
  go_wp2_with fail
  go_ret
  exact⟨rfl,hH1.2⟩
 have hj:decide (6004799503160661<e.id+d)=false:=by simpa using h3
 have hwl:IntKind.u64.wrap e.ln=e.ln:=by rw[IntKind.wrap_u64] <;> omega
 rw[if_neg (fun h=>h.elim h2 h3)] at hck
 by_cases h4:1099511627776<e.off
 ·have hR:R=8:=by rw[hck.out,if_pos (.inl h4)]
  subst hR
  have hk:decide (1099511627776<e.off)=true:=by simpa using h4
  clear hck
  unfold eC at HB HS0 HW ⊢
  go_enter Tryz.func106,Tryz.ntmps106
  go_upto_region 3 with fail
  refine wp_region_held_drew (S:=fun w'=>(w'.cell? ⟨w.heap.size,0,none⟩=some (.int .u64 e.id)∧w'.cell? ⟨w.heap.size,1,none⟩=some (.int .u64 e.off)∧w'.cell? ⟨w.heap.size,2,none⟩=some (.int .u32 e.ln)∧w'.cell? ⟨w.heap.size,3,none⟩=some (.int .u32 e.rn))∧Below w.heap.size w w') (by kernel_rfl) HS0 (fun hH0=>?_)
  refine tK 0 6 hH0 ?_
  try simp only[Act.put,zsA,zsB,zsC]
  refine tK 1 7 hH0 ?_
  try simp only[Act.put,zsA,zsB,zsC]
  refine tK 2 8 hH0 ?_
  try simp only[Act.put,zsA,zsB,zsC]
  refine tK 3 9 hH0 ?_
  try simp only[Act.put,zsA,zsB,zsC]
  refine tK 4 10 hH0 ?_
  try simp only[Act.put,zsA,zsB,zsC]
  refine tK 5 11 hH0 ?_
  try simp only[Act.put,zsA,zsB,zsC]
  refine tK 6 12 hH0 ?_
  try simp only[Act.put,zsA,zsB,zsC]
  refine wpAnyH_ready (rs:=[7]) (by kernel_rfl) (by simp) ?_
  refine AllReadyH.cons rfl (fun K hK=>?_) AllReadyH.nil
  go_simp
  refine(HW.out _).mono ?_
  rintro e w' ⟨rfl,hb⟩
  go_wp2_with fail
  refine hK.out _ _ (keepE hb hH0) (fun hH1=>?_)
  clear hK K hb hH0
  try simp only[Act.put,zsA,zsB,zsC]
  refine tK 8 14 hH1 ?_
  try simp only[Act.put,zsA,zsB,zsC]
  refine tK 9 15 hH1 ?_
  try simp only[Act.put,zsA,zsB,zsC]
  refine tK 10 16 hH1 ?_
  try simp only[Act.put,zsA,zsB,zsC]
  refine wpAnyH_done (by kernel_rfl) ?_ _
  obtain⟨⟨c0,c1,c2,c3⟩,hU⟩:=hH1
  have HU:=Lib.hid hU
  clear hU
  go_wp2_with fail
  go_ret
  exact⟨rfl,HU.out⟩
 have hk:decide (1099511627776<e.off)=false:=by simpa using h4
 have hwo:IntKind.u64.wrap (e.off+e.ln)=e.off+e.ln:=by rw[IntKind.wrap_u64] <;> omega
 by_cases h5:1099511627776<e.off+e.ln
 ·have hR:R=8:=by rw[hck.out,if_pos (.inr h5)]
  subst hR
  have hk2:decide (1099511627776<e.off+e.ln)=true:=by simpa using h5
  clear hck
  unfold eC at HB HS0 HW ⊢
  go_enter Tryz.func106,Tryz.ntmps106
  go_upto_region 3 with fail
  refine wp_region_held_drew (S:=fun w'=>(w'.cell? ⟨w.heap.size,0,none⟩=some (.int .u64 e.id)∧w'.cell? ⟨w.heap.size,1,none⟩=some (.int .u64 e.off)∧w'.cell? ⟨w.heap.size,2,none⟩=some (.int .u32 e.ln)∧w'.cell? ⟨w.heap.size,3,none⟩=some (.int .u32 e.rn))∧Below w.heap.size w w') (by kernel_rfl) HS0 (fun hH0=>?_)
  refine tK 0 6 hH0 ?_
  try simp only[Act.put,zsA,zsB,zsC]
  refine tK 1 7 hH0 ?_
  try simp only[Act.put,zsA,zsB,zsC]
  refine tK 2 8 hH0 ?_
  try simp only[Act.put,zsA,zsB,zsC]
  refine tK 3 9 hH0 ?_
  try simp only[Act.put,zsA,zsB,zsC]
  refine tK 4 10 hH0 ?_
  try simp only[Act.put,zsA,zsB,zsC]
  refine tK 5 11 hH0 ?_
  try simp only[Act.put,zsA,zsB,zsC]
  refine tK 6 12 hH0 ?_
  try simp only[Act.put,zsA,zsB,zsC]
  refine wpAnyH_ready (rs:=[7]) (by kernel_rfl) (by simp) ?_
  refine AllReadyH.cons rfl (fun K hK=>?_) AllReadyH.nil
  go_simp
  refine(HW.out _).mono ?_
  rintro e w' ⟨rfl,hb⟩
  go_wp2_with fail
  refine hK.out _ _ (keepE hb hH0) (fun hH1=>?_)
  clear hK K hb hH0
  try simp only[Act.put,zsA,zsB,zsC]
  refine tK 8 14 hH1 ?_
  try simp only[Act.put,zsA,zsB,zsC]
  refine tK 9 15 hH1 ?_
  try simp only[Act.put,zsA,zsB,zsC]
  refine tK 10 16 hH1 ?_
  try simp only[Act.put,zsA,zsB,zsC]
  refine wpAnyH_done (by kernel_rfl) ?_ _
  obtain⟨⟨c0,c1,c2,c3⟩,hU⟩:=hH1
  have HU:=Lib.hid hU
  clear hU
  go_wp2_with fail
  go_ret
  exact⟨rfl,HU.out⟩
 ·have hR:R=0:=by rw[hck.out,if_neg (fun h=>h.elim h4 h5)]
  subst hR
  have hk2:decide (1099511627776<e.off+e.ln)=false:=by simpa using h5
  clear hck
  unfold eC at HB HS0 HW ⊢
  go_enter Tryz.func106,Tryz.ntmps106
  go_upto_region 3 with fail
  refine wp_region_held_drew (S:=fun w'=>(w'.cell? ⟨w.heap.size,0,none⟩=some (.int .u64 e.id)∧w'.cell? ⟨w.heap.size,1,none⟩=some (.int .u64 e.off)∧w'.cell? ⟨w.heap.size,2,none⟩=some (.int .u32 e.ln)∧w'.cell? ⟨w.heap.size,3,none⟩=some (.int .u32 e.rn))∧Below w.heap.size w w') (by kernel_rfl) HS0 (fun hH0=>?_)
  refine tK 0 6 hH0 ?_
  try simp only[Act.put,zsA,zsB,zsC]
  refine tK 1 7 hH0 ?_
  try simp only[Act.put,zsA,zsB,zsC]
  refine tK 2 8 hH0 ?_
  try simp only[Act.put,zsA,zsB,zsC]
  refine tK 3 9 hH0 ?_
  try simp only[Act.put,zsA,zsB,zsC]
  refine tK 4 10 hH0 ?_
  try simp only[Act.put,zsA,zsB,zsC]
  refine tK 5 11 hH0 ?_
  try simp only[Act.put,zsA,zsB,zsC]
  refine tK 6 12 hH0 ?_
  try simp only[Act.put,zsA,zsB,zsC]
  refine wpAnyH_ready (rs:=[7]) (by kernel_rfl) (by simp) ?_
  refine AllReadyH.cons rfl (fun K hK=>?_) AllReadyH.nil
  go_simp
  refine(HW.out _).mono ?_
  rintro e w' ⟨rfl,hb⟩
  go_wp2_with fail
  refine hK.out _ _ (keepE hb hH0) (fun hH1=>?_)
  clear hK K hb hH0
  try simp only[Act.put,zsA,zsB,zsC]
  refine tK 8 14 hH1 ?_
  try simp only[Act.put,zsA,zsB,zsC]
  refine tK 9 15 hH1 ?_
  try simp only[Act.put,zsA,zsB,zsC]
  refine tK 10 16 hH1 ?_
  try simp only[Act.put,zsA,zsB,zsC]
  refine wpAnyH_done (by kernel_rfl) ?_ _
  obtain⟨⟨c0,c1,c2,c3⟩,hU⟩:=hH1
  have HU:=Lib.hid hU
  clear hU
  go_wp2_with fail
  go_ret
  exact⟨rfl,HU.out⟩
def MaysN (l:List En):Prop:=∀ e ∈ l,MayN e
theorem cells4 {w w':World} {g o1 o2 o3 o4:Nat} {v1 v2 v3 v4:Value} (hb:Below w.heap.size w w') (h:w.cell? ⟨g,o1,none⟩=some v1∧w.cell? ⟨g,o2,none⟩=some v2∧w.cell? ⟨g,o3,none⟩=some v3∧w.cell? ⟨g,o4,none⟩=some v4):w'.cell? ⟨g,o1,none⟩=some v1∧w'.cell? ⟨g,o2,none⟩=some v2∧w'.cell? ⟨g,o3,none⟩=some v3∧w'.cell? ⟨g,o4,none⟩=some v4:=⟨ecell_later hb h.1,ecell_later hb h.2.1,ecell_later hb h.2.2.1,ecell_later hb h.2.2.2⟩
theorem keep1E {w w' w1:World} {g o1 o2 o3 o4:Nat} {v1 v2 v3 v4:Value} (hb:Below w'.heap.size w' w1) (h:(w'.cell? ⟨g,o1,none⟩=some v1∧w'.cell? ⟨g,o2,none⟩=some v2∧w'.cell? ⟨g,o3,none⟩=some v3∧w'.cell? ⟨g,o4,none⟩=some v4)∧Below w.heap.size w w'):(w1.cell? ⟨g,o1,none⟩=some v1∧w1.cell? ⟨g,o2,none⟩=some v2∧w1.cell? ⟨g,o3,none⟩=some v3∧w1.cell? ⟨g,o4,none⟩=some v4)∧Below w.heap.size w w1:=⟨cells4 hb h.1,h.2.trans (hb.mono h.2.size)⟩
theorem keep2E {w w' w1:World} {g o1 o2 o3 o4 g' p1 p2 p3 p4:Nat} {v1 v2 v3 v4 u1 u2 u3 u4:Value} (hb:Below w'.heap.size w' w1) (h:(w'.cell? ⟨g,o1,none⟩=some v1∧w'.cell? ⟨g,o2,none⟩=some v2∧w'.cell? ⟨g,o3,none⟩=some v3∧w'.cell? ⟨g,o4,none⟩=some v4)∧(w'.cell? ⟨g',p1,none⟩=some u1∧w'.cell? ⟨g',p2,none⟩=some u2∧w'.cell? ⟨g',p3,none⟩=some u3∧w'.cell? ⟨g',p4,none⟩=some u4)∧Below w.heap.size w w'):(w1.cell? ⟨g,o1,none⟩=some v1∧w1.cell? ⟨g,o2,none⟩=some v2∧w1.cell? ⟨g,o3,none⟩=some v3∧w1.cell? ⟨g,o4,none⟩=some v4)∧(w1.cell? ⟨g',p1,none⟩=some u1∧w1.cell? ⟨g',p2,none⟩=some u2∧w1.cell? ⟨g',p3,none⟩=some u3∧w1.cell? ⟨g',p4,none⟩=some u4)∧Below w.heap.size w w1:=⟨cells4 hb h.1,cells4 hb h.2.1,h.2.2.trans (hb.mono h.2.2.size)⟩
def prvN (l:List En) (i:Nat):Int:=if i=0 then -1 else laN (l.getD (i - 1) zeroE)
theorem take_one (l:List En) (i:Nat) (e:En) (h:l[i]?=some e):l.take (i+1)=l.take i++[e]:=by
 rw[List.take_add_one,h];rfl
theorem fold_prv (l:List En) (i:Nat) (hi:i≤l.length):(l.take i).foldl (fun _ e=>laN e) (-1)=prvN l i:=by
 cases i with
 | zero=>rfl
 | succ j =>
  have h:l[j]?=some (l.getD j zeroE):=by rw[List.getD_eq_getElem?_getD,List.getElem?_eq_getElem (by omega)];rfl
  rw[take_one l j _ h,List.foldl_append]
  unfold prvN
  rw[if_neg (by omega),Nat.add_sub_cancel]
  rfl
theorem rowG_at (l:List En) (i:Nat) (e:En) (h:l[i]?=some e) (h0:rowG (-1) (l.take i)=0):rowG (-1) l=(if ckN e≠0 then ckN e else if e.id≤prvN l i then 10 else rowG (laN e) (l.drop (i+1)))∧(ckN e=0→¬ e.id≤prvN l i→rowG (-1) (l.take (i+1))=0):=by
 have hi:i<l.length:=(List.getElem?_eq_some_iff.1 h).1
 have hd:l.drop i=e :: l.drop (i+1):=by
  rw[List.drop_eq_getElem_cons hi]
  rw[List.getElem?_eq_getElem hi] at h
  rw[Option.some.inj h]
 refine⟨?_,fun hc ho=>?_⟩
 ·conv=>lhs;rw[← List.take_append_drop i l]
  rw[rowG_append _ _ _ h0,fold_prv l i (by omega),hd,rowG]
 ·rw[take_one l i e h,rowG_append _ _ _ h0,fold_prv l i (by omega),rowG,if_neg (fun f=>f hc),if_neg ho]
  rfl
theorem ens_at {w:World} {v:Value} {l:List En} (h:EnsAt w v l) (i:Nat) (hi:i<l.length):∃ g off cap,v=.slice (some ⟨g,off,none⟩) l.length cap∧l.length≤cap∧g<w.heap.size∧∀ k e,l[k]?=some e→(w.cell? ⟨g,off+k*4,none⟩=some (.int .u64 e.id)∧w.cell? ⟨g,off+k*4+1,none⟩=some (.int .u64 e.off)∧w.cell? ⟨g,off+k*4+2,none⟩=some (.int .u32 e.ln)∧w.cell? ⟨g,off+k*4+3,none⟩=some (.int .u32 e.rn)):=by
 obtain⟨a,cap,hv,h1,h2,hc⟩:=h
 obtain⟨e,he⟩:∃ e,l[i]?=some e:=⟨_,List.getElem?_eq_getElem hi⟩
 obtain⟨g,off,rfl,hg,_⟩:=hc i e he
 refine⟨g,off,cap,hv,h1,hg,fun k f hf=>?_⟩
 obtain⟨g',off',ha,hg',r⟩:=hc k f hf
 obtain⟨rfl,rfl⟩:g=g'∧off=off':=by simpa using ha
 exact r
end Go.Proofs.YtdnmgpcfgcidbaaGreatDoor
