/- aKb aKk aEg aLb aLe aLq aHa aHb aHd aKr aHc aHi aHe aHf aLf. -/
import Derived.Test.YtjkgkmmkehnggaaGreatDoorVa1
import Derived.Deep.RegionLawGrows
import Derived.Test.YtjkgkmmkehnggaaGreatDoorRc
import Derived.Lib.AppendZerosOnto
import Derived.Lib.Overlaps
import Derived.Laws.CopyOwn
namespace Go.Proofs.YtjkgkmmkehnggaaGreatDoor
set_option linter.unusedVariables false
set_option linter.unusedSimpArgs false
open Go.RowKit
set_option maxRecDepth 20000
theorem ret_int {k:IntKind} {a b:Int} (h:a=b):Ending.returned (.int k a)=.returned (.int k b):=by rw[h]
theorem vcell_lt {w:World} {a:Addr} {v:Value} (h:w.cell? a=some v):a.block<w.heap.size:=by
 rcases Nat.lt_or_ge a.block w.heap.size with h'|h'
 ·exact h'
 ·simp[World.cell?,Array.getElem?_eq_none h'] at h
theorem vcell_later {w w':World} {a:Addr} {v:Value} (hb:Below w.heap.size w w') (h:w.cell? a=some v):w'.cell? a=some v:=(hb.cell (p:=a) (vcell_lt h)).trans h
def ValsAt (w:World) (v:Value) (xs:List Value):Prop:=∃ a cap,v=.slice a xs.length cap∧xs.length≤cap∧cap≤maxLen∧∀ k t,xs[k]?=some t→∃ g off,a=some ⟨g,off,none⟩∧g<w.heap.size∧w.cell? ⟨g,off+k,none⟩=some t
theorem valsAt_nil (w:World):ValsAt w (.slice none 0 0) []:=⟨none,0,rfl,Nat.le_refl _,by simp,fun k t h=>by simp at h⟩
def OwnV (w:World) (B:Nat) (E:TypeId) (v:Value) (xs:List Value):Prop:=w.ownsRow B E 1 v xs.length xs
theorem ownV_nil (w:World) (B:Nat) (E:TypeId):OwnV w B E (.slice none 0 0) []:=World.ownsRow_nil _ _ _ _
theorem OwnV.lt {w:World} {B:Nat} {E:TypeId} {v:Value} {xs:List Value} (h:OwnV w B E v xs):∀ k,v.ownBlock=some k→B≤k∧k<w.heap.size:=World.ownsRow.lt h
theorem OwnV.keep {w w':World} {B:Nat} {E:TypeId} {v:Value} {xs:List Value} (h:OwnV w B E v xs) (hk:∀ k,v.ownBlock=some k→w'.heap[k]?=w.heap[k]?):OwnV w' B E v xs:=by
 obtain⟨h1,h2⟩:=h
 refine⟨h1,?_⟩
 rcases h2 with h2|⟨g,cap,cur,hv,hg,hh,r⟩
 ·exact .inl h2
 ·refine .inr ⟨g,cap,cur,hv,hg,?_,r⟩
  rw[hk g (by rw[hv];rfl)];exact hh
theorem OwnV.below {w w':World} {B:Nat} {E:TypeId} {v:Value} {xs:List Value} (h:OwnV w B E v xs) (hb:Below w.heap.size w w'):OwnV w' B E v xs :=
 h.keep (fun k hk=>hb.block k (h.lt k hk).2)
theorem OwnV.form {w:World} {B:Nat} {E:TypeId} {v:Value} {xs:List Value} (h:OwnV w B E v xs) :
  (v=.slice none 0 0∧xs=[])∨∃ g cap,v=.slice (some ⟨g,0,none⟩) xs.length cap∧B≤g∧g<w.heap.size∧xs.length≤cap∧cap≤maxLen∧(∀ j,j<xs.length→w.cell? ⟨g,j,none⟩=xs[j]?)∧∀ j,w.frozen? ⟨g,j,none⟩=false:=by
 have hlt:=h.lt
 have h':=h
 obtain⟨h1,h2⟩:=h
 rcases h2 with ⟨rfl,hn⟩|⟨g,cap,cur,rfl,hg,hh,hle,hm,_⟩
 ·exact .inl ⟨rfl,List.eq_nil_of_length_eq_zero hn⟩
 ·exact .inr ⟨g,cap,rfl,hg,(hlt g rfl).2,hle,hm,fun j hj=>World.ownsRow.cellAt h' j (by omega),fun j=>World.ownsRow.frozenAt h' j⟩
theorem OwnV.valsAt {w:World} {B:Nat} {E:TypeId} {v:Value} {xs:List Value} (h:OwnV w B E v xs):ValsAt w v xs:=by
 rcases h.form with ⟨rfl,rfl⟩|⟨g,cap,rfl,hg,hl,h1,h2,hc,_⟩
 ·exact valsAt_nil w
 ·refine⟨_,cap,rfl,h1,h2,fun k t ht=>⟨g,0,rfl,hl,?_⟩⟩
  have hk:=(List.getElem?_eq_some_iff.1 ht).1
  rw[Nat.zero_add,hc k hk];exact ht
theorem vals_conv {w:World} {B:Nat} {E:TypeId} {v:Value} {n:Nat} {xs ys:List Value} (h:w.ownsRow B E 1 v n ys) (hn:n=xs.length) (he:ys=xs):OwnV w B E v xs:=by
 subst hn;subst he;exact h
theorem str_yes {a b:ByteArray} (h:a=b):(a.toList == b.toList)=true:=by rw[h];simp
theorem str_no {a b:ByteArray} (h:¬ a=b):(a.toList == b.toList)=false:=by
 rw[ByteArray.toList_eq,ByteArray.toList_eq,beq_eq_false_iff_ne]
 intro e
 exact h (ByteArray.ext (Array.toList_inj.1 e))
theorem heap_new (w:World) (o:Obj):(w.alloc o).heap[w.heap.size]?=some o:=by
 show (w.heap.push o)[w.heap.size]?=_
 simp
theorem pct_size:(Tryz.prog.info? 144).map (·.size)=some 2:=by kernel_rfl
theorem two_load (w:World) (g:Nat) (ty:TypeId) (x y:Value) (d:TypeDesc) (c0:w.cell? ⟨g,0,none⟩=some x) (c1:w.cell? ⟨g,1,none⟩=some y)
  (hu:Tryz.prog.underlying ty=some d) (hd:(match d with|.struct _|.array _ _=>true|_=>false)=true) (hi:(Tryz.prog.info? ty).map (·.size)=some 2) :
  (loadVar ty ⟨g,0,none⟩).run Tryz.prog w=.ok (.agg #[x,y]) w:=by
 have hl:(loadCells ⟨g,0,none⟩ 2).run Tryz.prog w=.ok #[x,y] w :=
  run_loadCells_list (P:=Tryz.prog) w ⟨g,0,none⟩ [x,y] (fun j v hv=>by
   have hadd:(⟨g,0,none⟩:Addr).add j=⟨g,j,none⟩:=by unfold Addr.add;split <;> simp_all
   rw[hadd]
   match j,hv with
   | 0,hv=>simp at hv;rw[c0,hv]
   | 1,hv=>simp at hv;rw[c1,hv]
   | j+2,hv=>simp at hv)
 cases hq:Tryz.prog.info? ty with
 | none=>simp[hq] at hi
 | some i =>
  have hs:i.size=2:=by simpa[hq] using hi
  have hagg:(isAgg ty).run Tryz.prog w=.ok true w:=by
   unfold isAgg
   rw[Sem.run_bind,run_underlying hu w]
   cases d <;> simp_all
  simp[loadVar,Sem.run_bind,hagg,sizeOf,typeInfo,hq,hs,hl]
theorem results_ct {fn:Func} {p q:Tmp} {ty:TypeId} (h:fn.results=#[.cell p ty,.tmp q]) (tmps:Array Value) (w:World) (g:Nat) (x y v:Value) (d:TypeDesc) (hp:tmps.getD p undef=.pointer (some ⟨g,0,none⟩)) (hq:tmps.getD q undef=v) (c0:w.cell? ⟨g,0,none⟩=some x) (c1:w.cell? ⟨g,1,none⟩=some y)
  (hu:Tryz.prog.underlying ty=some d) (hd:(match d with|.struct _|.array _ _=>true|_=>false)=true) (hi:(Tryz.prog.info? ty).map (·.size)=some 2) :
  (results fn tmps).run Tryz.prog w=.ok (.tuple #[.agg #[x,y],v]) w:=by
 have hl:=two_load w g ty x y d c0 c1 hu hd hi
 have hp':tmps[p]?.getD undef=.pointer (some ⟨g,0,none⟩):=by simpa using hp
 have hq':tmps[q]?.getD undef=v:=by simpa using hq
 simp[results,h,hp',hq',asAddr,hl]
theorem results_ct3 {fn:Func} {p q r:Tmp} {ty:TypeId} (h:fn.results=#[.cell p ty,.tmp q,.tmp r]) (tmps:Array Value) (w:World) (g:Nat) (x y v u:Value) (d:TypeDesc) (hp:tmps.getD p undef=.pointer (some ⟨g,0,none⟩)) (hq:tmps.getD q undef=v) (hr:tmps.getD r undef=u) (c0:w.cell? ⟨g,0,none⟩=some x) (c1:w.cell? ⟨g,1,none⟩=some y)
  (hu:Tryz.prog.underlying ty=some d) (hd:(match d with|.struct _|.array _ _=>true|_=>false)=true) (hi:(Tryz.prog.info? ty).map (·.size)=some 2) :
  (results fn tmps).run Tryz.prog w=.ok (.tuple #[.agg #[x,y],v,u]) w:=by
 have hl:=two_load w g ty x y d c0 c1 hu hd hi
 have hp':tmps[p]?.getD undef=.pointer (some ⟨g,0,none⟩):=by simpa using hp
 have hq':tmps[q]?.getD undef=v:=by simpa using hq
 have hr':tmps[r]?.getD undef=u:=by simpa using hr
 simp[results,h,hp',hq',hr',asAddr,hl]
def Two (w:World) (g:Nat) (x y:Value):Prop:=w.cell? ⟨g,0,none⟩=some x∧w.cell? ⟨g,1,none⟩=some y∧w.frozen? ⟨g,0,none⟩=false∧w.frozen? ⟨g,1,none⟩=false
theorem Two.lt {w:World} {g:Nat} {x y:Value} (h:Two w g x y):g<w.heap.size:=vcell_lt h.1
theorem Two.below {w w':World} {g:Nat} {x y:Value} (h:Two w g x y) (hb:Below w.heap.size w w'):Two w' g x y :=
 ⟨vcell_later hb h.1,vcell_later hb h.2.1,(hb.frozen (p:=⟨g,0,none⟩) h.lt).trans h.2.2.1,(hb.frozen (p:=⟨g,1,none⟩) h.lt).trans h.2.2.2⟩
theorem Two.alloc {w:World} {g:Nat} {x y:Value} (h:Two w g x y) (o:Obj):Two (w.alloc o) g x y:=h.below (Below.alloc (Below.refl _ _) (Nat.le_refl _) _)
theorem two_new (w:World) (x y:Value) (T:TypeId):Two (w.alloc (.cells #[x,y] T)) w.heap.size x y:=⟨by simp[go_sem],by simp[go_sem],by simp[go_sem],by simp[go_sem]⟩
theorem Two.set {w:World} {g:Nat} {x y:Value} (h:Two w g x y) (x' y':Value):Two ((w.setCell ⟨g,0,none⟩ x').setCell ⟨g,1,none⟩ y') g x' y':=by
 obtain⟨h0,h1,h2,h3⟩:=h
 have e1:(w.setCell ⟨g,0,none⟩ x').cell? ⟨g,1,none⟩=some y:=by rw[World.cell?_setCell_other (h:=by simp),h1]
 refine⟨?_,World.cell?_setCell_same _ _ _ e1,by simpa using h2,by simpa using h3⟩
 rw[World.cell?_setCell_other (h:=by simp)]
 exact World.cell?_setCell_same _ _ _ h0
theorem Two.lower {w w':World} {B g:Nat} {x y:Value} (h:Two w g x y) (hb:Below B w w') (hg:g<B):Two w' g x y :=
 ⟨(hb.cell (p:=⟨g,0,none⟩) hg).trans h.1,(hb.cell (p:=⟨g,1,none⟩) hg).trans h.2.1,(hb.frozen (p:=⟨g,0,none⟩) hg).trans h.2.2.1,(hb.frozen (p:=⟨g,1,none⟩) hg).trans h.2.2.2⟩
theorem OwnV.slice {w:World} {B:Nat} {E:TypeId} {v:Value} {xs:List Value} (h:OwnV w B E v xs):∃ a cap,v=.slice a xs.length cap:=by
 rcases h.form with ⟨rfl,rfl⟩|⟨g,cap,rfl,_⟩
 ·exact⟨none,0,rfl⟩
 ·exact⟨_,cap,rfl⟩
structure Kept (S S':Nat→Prop) (W W':World):Prop where
 os:W'.os=W.os
 tape:W'.tape=W.tape
 output:W'.output=W.output
 size:W.heap.size≤W'.heap.size
 same:∀ b,b<W.heap.size→¬ S b→W'.heap[b]?=W.heap[b]?
 own:∀ b,S' b→S b∨W.heap.size≤b
theorem Kept.trans {S S' S'':Nat→Prop} {X Y Z:World} (h:Kept S S' X Y) (h':Kept S' S'' Y Z):Kept S S'' X Z:=by
 refine⟨h'.os.trans h.os,h'.tape.trans h.tape,h'.output.trans h.output,Nat.le_trans h.size h'.size,fun b hb hs=>?_,fun b hb=>?_⟩
 ·rw[h'.same b (Nat.lt_of_lt_of_le hb h.size) (fun hs'=>?_),h.same b hb hs]
  rcases h.own b hs' with h1|h1
  ·exact hs h1
  ·omega
 ·rcases h'.own b hb with h1|h1
  ·exact h.own b h1
  ·exact .inr (Nat.le_trans h.size h1)
theorem Kept.below (S:Nat→Prop) {W W':World} (hb:Below W.heap.size W W'):Kept S S W W':=⟨hb.os,hb.tape,hb.output,hb.size,fun b hl _=>hb.block b hl,fun _ h=>.inl h⟩
theorem Below.kept {S S':Nat→Prop} {B:Nat} {w W W':World} (h:Below B w W) (hk:Kept S S' W W') (hS:∀ b,S b→B≤b) (hB:B≤W.heap.size):Below B w W' :=
 ⟨hk.os.trans h.os,hk.tape.trans h.tape,hk.output.trans h.output,Nat.le_trans h.size hk.size,fun b hb=>(hk.same b (Nat.lt_of_lt_of_le hb hB) (fun hs=>absurd (hS b hs) (by omega))).trans (h.block b hb)⟩
theorem info_parts {P:Program} {t:TypeId} {z:Option Value} {s b:Nat} (h:(P.info? t).map (fun i=>(i.zero,i.size,i.bytes))=some (z,s,b)):∃ i,P.info? t=some i∧i.zero=z∧i.size=s∧i.bytes=b:=by
 cases hi:P.info? t with
 | none=>rw[hi] at h;cases h
 | some i =>
  rw[hi] at h
  simp only[Option.map_some,Option.some.injEq,Prod.mk.injEq] at h
  exact⟨i,rfl,h.1,h.2.1,h.2.2⟩
def flatI:List It→List Value
 | []=>[]
 | t :: l=>.int .u64 t.1 :: .string t.2 :: flatI l
theorem flatI_len (l:List It):(flatI l).length=l.length*2:=by
 induction l with
 | nil=>rfl
 | cons t l ih=>simp[flatI,ih];omega
theorem flatI_append (a b:List It):flatI (a++b)=flatI a++flatI b:=by
 induction a with
 | nil=>rfl
 | cons t l ih=>simp[flatI,ih]
theorem flatI_at (l:List It):∀ (k:Nat) (t:It),l[k]?=some t→(flatI l)[k*2]?=some (.int .u64 t.1)∧(flatI l)[k*2+1]?=some (.string t.2):=by
 induction l with
 | nil=>intro k t h;simp at h
 | cons s l ih =>
  intro k t h
  cases k with
  | zero=>simp at h;subst h;simp[flatI]
  | succ k =>
   have:=ih k t (by simpa using h)
   rw[show (k+1)*2=k*2+1+1 by omega]
   simpa[flatI] using this
theorem flatI_one (l:List It):∀ u ∈ flatI l,u.oneCell'=true:=by
 induction l with
 | nil=>intro u h;simp[flatI] at h
 | cons t l ih =>
  intro u h
  simp only[flatI,List.mem_cons] at h
  rcases h with rfl|rfl|h
  ·rfl
  ·rfl
  ·exact ih u h
def ItsAt (w:World) (v:Value) (l:List It):Prop:=∃ a cap,v=.slice a l.length cap∧l.length≤cap∧cap≤maxLen∧∀ k t,l[k]?=some t→∃ g off,a=some ⟨g,off,none⟩∧g<w.heap.size∧w.cell? ⟨g,off+k*2,none⟩=some (.int .u64 t.1)∧w.cell? ⟨g,off+k*2+1,none⟩=some (.string t.2)
theorem its_nil (w:World):ItsAt w (.slice none 0 0) []:=⟨none,0,rfl,Nat.le_refl _,by simp,fun k t h=>by simp at h⟩
theorem ItsAt.below {w w':World} {v:Value} {l:List It} (h:ItsAt w v l) (hb:Below w.heap.size w w'):ItsAt w' v l:=by
 obtain⟨a,cap,rfl,h1,h2,hc⟩:=h
 refine⟨a,cap,rfl,h1,h2,fun k t ht=>?_⟩
 obtain⟨g,off,ha,hg,c0,c1⟩:=hc k t ht
 exact⟨g,off,ha,Nat.lt_of_lt_of_le hg hb.size,vcell_later hb c0,vcell_later hb c1⟩
def OwnIt (w:World) (B:Nat) (E:TypeId) (v:Value) (l:List It):Prop:=w.ownsRow B E 2 v l.length (flatI l)
theorem ownIt_nil (w:World) (B:Nat) (E:TypeId):OwnIt w B E (.slice none 0 0) []:=World.ownsRow_nil _ _ _ _
theorem OwnIt.lt {w:World} {B:Nat} {E:TypeId} {v:Value} {l:List It} (h:OwnIt w B E v l):∀ k,v.ownBlock=some k→B≤k∧k<w.heap.size:=World.ownsRow.lt h
theorem OwnIt.below {w w':World} {B:Nat} {E:TypeId} {v:Value} {l:List It} (h:OwnIt w B E v l) (hb:Below w.heap.size w w'):OwnIt w' B E v l:=by
 have hlt:=h.lt
 obtain⟨h1,h2⟩:=h
 refine⟨h1,?_⟩
 rcases h2 with h2|⟨g,cap,cur,hv,hg,hh,r⟩
 ·exact .inl h2
 ·refine .inr ⟨g,cap,cur,hv,hg,?_,r⟩
  rw[hb.block g (hlt g (by rw[hv];rfl)).2];exact hh
theorem OwnIt.itsAt {w:World} {B:Nat} {E:TypeId} {v:Value} {l:List It} (h:OwnIt w B E v l):ItsAt w v l:=by
 have hlt:=h.lt
 have h':=h
 obtain⟨h1,h2⟩:=h
 rcases h2 with ⟨rfl,hn⟩|⟨g,cap,cur,rfl,hg,hh,hle,hm,_⟩
 ·obtain rfl:l=[]:=List.eq_nil_of_length_eq_zero hn
  exact its_nil w
 ·refine⟨_,cap,rfl,hle,hm,fun k t ht=>⟨g,0,rfl,(hlt g rfl).2,?_⟩⟩
  have hk:=(List.getElem?_eq_some_iff.1 ht).1
  obtain⟨f0,f1⟩:=flatI_at l k t ht
  rw[Nat.zero_add]
  exact⟨(World.ownsRow.cellAt h' (k*2) (by omega)).trans f0,(World.ownsRow.cellAt h' (k*2+1) (by omega)).trans f1⟩
theorem pit_size:(Tryz.prog.info? 46).map (·.size)=some 2:=by kernel_rfl
theorem infoPit:(Tryz.prog.info? 46).map (fun i=>(i.zero,i.size,i.bytes))=some (some (.agg #[.int .u64 0,.string { data:=#[] }]),2,24):=by kernel_rfl
theorem itappend_run (W:World) (B:Nat) (TS E ty:TypeId) (z:Value) (ht:Tryz.prog.underlying TS=some (.slice E)) (hI:(Tryz.prog.info? E).map (fun i=>(i.zero,i.size,i.bytes))=some (some z,2,24)) (hzs:z.cells.size=2)
  (v x:Value) (L m:List It) (hown:OwnIt W B E v L) (hx:ItsAt W x m) (hl:L.length+m.length≤1000000) (hb:B≤W.heap.size) :
  ∃ v' w',(Builtin.append_ #[TS,TS] ty #[v,x]).run Tryz.prog W=.ok v' w'∧OwnIt w' B E v' (L++m)∧W.grownBy w' v.ownBlock:=by
 obtain⟨a,cap,rfl,h1,h2,hc⟩:=hx
 have fin:∀ {w':World} {v':Value},w'.ownsRow B E 2 v' (L.length+m.length) (flatI L++flatI m)→OwnIt w' B E v' (L++m):=by
  intro w' v' h
  unfold OwnIt
  rw[flatI_append,List.length_append]
  exact h
 cases a with
 | none =>
  have hl0:m=[]:=by
   cases m with
   | nil=>rfl
   | cons t l=>obtain⟨g,off,ha,_⟩:=hc 0 t rfl;cases ha
  subst hl0
  refine⟨v,W,?_,by rw[List.append_nil];exact hown,World.grownBy.refl _ _⟩
  obtain⟨i0,hi,hz0,hz1,hz2⟩:=info_parts hI
  rcases hown.2 with ⟨rfl,hn⟩|⟨g,cap2,cur,rfl,hbg,hg,hnc,hcm,hcs,htake⟩
  ·simp[Builtin.append_,run_underlying ht,sizeOf,typeInfo,hi,Builtin.lenOf,Builtin.firstCells,loadCells,loadCellsFrom]
  ·simp[Builtin.append_,run_underlying ht,sizeOf,typeInfo,hi,Builtin.lenOf,Builtin.firstCells,loadCells,loadCellsFrom,hnc,storeCells]
 | some ad =>
  have hnews:∀ j u,(flatI m)[j]?=some u→W.cell? (ad.add j)=some u:=by
   intro j u hu
   have hj:j<m.length*2:=by rw[← flatI_len];exact(List.getElem?_eq_some_iff.1 hu).1
   obtain⟨t,ht⟩:∃ t,m[j / 2]?=some t:=⟨_,List.getElem?_eq_getElem (by omega)⟩
   obtain⟨g,off,ha,_,c0,c1⟩:=hc (j / 2) t ht
   obtain⟨f0,f1⟩:=flatI_at m (j / 2) t ht
   injection ha with ha
   subst ha
   have hadd:(⟨g,off,none⟩:Addr).add j=⟨g,off+j,none⟩:=by simp[Addr.add]
   rw[hadd]
   rcases(by omega:j=j / 2*2∨j=j / 2*2+1) with e|e
   ·rw[e,f0] at hu;rw[← hu];rw[show off+j=off+j / 2*2 from by omega];exact c0
   ·rw[e,f1] at hu;rw[← hu];rw[show off+j=off+j / 2*2+1 from by omega];exact c1
  obtain⟨i0,hi,hz0,hz1,hz2⟩:=info_parts hI
  obtain⟨v',w',hr,h2,h3,h4⟩:=run_append_own (P:=Tryz.prog) W B TS ty E i0 _ 2 24 ht hi hz0 hz1 hz2 hzs (by omega) v L.length (flatI L) hown ad m.length cap (flatI m) (flatI_len m) hnews (flatI_one m) (by unfold maxLen;omega) (by omega) hb
  exact⟨v',w',hr,fin h2,h3⟩
theorem low_take (id:Nat) (r:List It):r.take (lowI id r).length=lowI id r:=by
 conv=>lhs;arg 2;rw[← low_high id r]
 exact List.take_left
theorem low_drop (id:Nat) (r:List It):r.drop (lowI id r).length=highI id r:=by
 conv=>lhs;arg 2;rw[← low_high id r]
 exact List.drop_left
theorem low_le (id:Nat) (r:List It):(lowI id r).length≤r.length:=by
 have:=congrArg List.length (low_high id r)
 rw[List.length_append] at this
 omega
theorem low_at (id:Nat) (r:List It):∀ k,k<(lowI id r).length→∃ t,r[k]?=some t∧t.1<id:=by
 induction r with
 | nil=>intro k h;simp[lowI] at h
 | cons x r ih =>
  intro k h
  unfold lowI at h
  rw[List.takeWhile_cons] at h
  by_cases hx:x.1<id
  ·rw[if_pos (by simpa using hx)] at h
   cases k with
   | zero=>exact⟨x,rfl,hx⟩
   | succ k=>exact ih k (by simpa[lowI] using h)
  ·rw[if_neg (by simpa using hx)] at h
   simp at h
theorem low_end (id:Nat) (r:List It):∀ t,r[(lowI id r).length]?=some t→¬ t.1<id:=by
 induction r with
 | nil=>intro t h;simp at h
 | cons x r ih =>
  intro t h
  unfold lowI at h
  rw[List.takeWhile_cons] at h
  by_cases hx:x.1<id
  ·rw[if_pos (by simpa using hx)] at h
   exact ih t (by simpa[lowI] using h)
  ·rw[if_neg (by simpa using hx)] at h
   simp at h
   subst h
   exact hx
theorem OwnIt.form {w:World} {B:Nat} {E:TypeId} {v:Value} {l:List It} (h:OwnIt w B E v l) :
  (v=.slice none 0 0∧l=[])∨∃ g cap,v=.slice (some ⟨g,0,none⟩) l.length cap∧B≤g∧g<w.heap.size∧l.length≤cap∧cap≤maxLen∧(∀ k t,l[k]?=some t→w.cell? ⟨g,k*2,none⟩=some (.int .u64 t.1)∧w.cell? ⟨g,k*2+1,none⟩=some (.string t.2)):=by
 have hlt:=h.lt
 have h':=h
 obtain⟨h1,h2⟩:=h
 rcases h2 with ⟨rfl,hn⟩|⟨g,cap,cur,rfl,hg,hh,hle,hm,_⟩
 ·exact .inl ⟨rfl,List.eq_nil_of_length_eq_zero hn⟩
 ·refine .inr ⟨g,cap,rfl,hg,(hlt g rfl).2,hle,hm,fun k t ht=>?_⟩
  have hk:=(List.getElem?_eq_some_iff.1 ht).1
  obtain⟨f0,f1⟩:=flatI_at l k t ht
  exact⟨(World.ownsRow.cellAt h' (k*2) (by omega)).trans f0,(World.ownsRow.cellAt h' (k*2+1) (by omega)).trans f1⟩
theorem OwnIt.slice {w:World} {B:Nat} {E:TypeId} {v:Value} {l:List It} (h:OwnIt w B E v l):∃ a cap,v=.slice a l.length cap:=by
 rcases h.form with ⟨rfl,rfl⟩|⟨g,cap,rfl,_⟩
 ·exact⟨none,0,rfl⟩
 ·exact⟨_,cap,rfl⟩
end Go.Proofs.YtjkgkmmkehnggaaGreatDoor
namespace Go.Proofs.YtjkgkmmkehnggaaGreatDoor
set_option linter.unusedVariables false
set_option linter.unusedSimpArgs false
theorem mem_low {id:Nat} {l:List It} {t:It} (h:t ∈ lowI id l):t.1<id:=by
 unfold lowI at h
 induction l with
 | nil=>simp at h
 | cons x l ih =>
  rw[List.takeWhile_cons] at h
  split at h
  ·rename_i hx
   rcases List.mem_cons.1 h with rfl|h
   ·simpa using hx
   ·exact ih h
  ·simp at h
theorem mem_lh (id:Nat) (l:List It) (t:It):t ∈ l↔t ∈ lowI id l∨t ∈ highI id l:=by
 conv=>lhs;rw[← low_high id l]
 exact List.mem_append
theorem high_ge {id:Nat} {l:List It} (hr:Rise l):∀ t ∈ highI id l,id≤t.1:=by
 unfold highI
 induction l with
 | nil=>intro t h;simp at h
 | cons x l ih =>
  intro t h
  rw[List.dropWhile_cons] at h
  split at h
  ·exact ih (List.pairwise_cons.1 hr).2 t h
  ·rename_i hx
   rcases List.mem_cons.1 h with rfl|h
   ·simpa using hx
   ·have:=(List.pairwise_cons.1 hr).1 t h
    have hx':¬ x.1<id:=by simpa using hx
    omega
theorem del_rise {id:Nat} {l:List It} (hr:Rise l):Rise (delI id l):=List.Pairwise.sublist List.filter_sublist hr
theorem mem_del (id:Nat) (l:List It) (t:It):t ∈ delI id l↔t ∈ l∧t.1≠id:=by
 unfold delI
 rw[List.mem_filter]
 simp
theorem mem_put (id:Nat) (s:ByteArray) (l:List It) (t:It):t ∈ putI id s l↔t=(id,s)∨(t ∈ l∧t.1≠id):=by
 unfold putI
 rw[List.mem_append,List.mem_cons,← mem_del,mem_lh id (delI id l) t]
 constructor
 ·rintro(h|h|h)
  ·exact .inr (.inl h)
  ·exact .inl h
  ·exact .inr (.inr h)
 ·rintro(h|h|h)
  ·exact .inr (.inl h)
  ·exact .inl h
  ·exact .inr (.inr h)
theorem put_rise (id:Nat) (s:ByteArray) {l:List It} (hr:Rise l):Rise (putI id s l):=by
 have hd:=del_rise (id:=id) hr
 have hsplit:=low_high id (delI id l)
 have hp:Rise (lowI id (delI id l)++highI id (delI id l)):=by rw[hsplit];exact hd
 unfold Rise at hp
 rw[List.pairwise_append] at hp
 unfold Rise putI
 rw[List.pairwise_append,List.pairwise_cons]
 refine⟨hp.1,⟨fun t ht=>?_,hp.2.1⟩,fun a ha b hb=>?_⟩
 ·have h1:=high_ge hd t ht
  have h2:t ∈ delI id l:=(mem_lh id _ t).2 (.inr ht)
  have h3:=(mem_del id l t).1 h2
  show id<t.1
  omega
 ·rcases List.mem_cons.1 hb with rfl|hb
  ·exact mem_low ha
  ·exact hp.2.2 a ha b hb
theorem del_len_lt {id:Nat} {l:List It} {t:It} (h:t ∈ l) (ht:t.1=id):(delI id l).length+1≤l.length:=by
 induction l with
 | nil=>simp at h
 | cons x l ih =>
  have hle:=delI_len id l
  unfold delI at hle ih ⊢
  by_cases hx:x.1=id
  ·rw[List.filter_cons_of_neg (by simpa using hx),List.length_cons]
   omega
  ·rw[List.filter_cons_of_pos (by simpa using hx),List.length_cons,List.length_cons]
   rcases List.mem_cons.1 h with rfl|h
   ·exact absurd ht hx
   ·have:=ih h;omega
theorem put_len (id:Nat) (s:ByteArray) (l:List It):(putI id s l).length=(delI id l).length+1:=by
 have h1:=congrArg List.length (low_high id (delI id l))
 rw[List.length_append] at h1
 unfold putI
 rw[List.length_append,List.length_cons]
 omega
theorem getI_some (id:Nat) (l:List It):(getI id l).isSome=true↔∃ t ∈ l,t.1=id:=by
 have h:=getI_none id l
 cases hg:getI id l with
 | none =>
  rw[hg] at h
  constructor
  ·intro hh;cases hh
  ·rintro⟨t,ht,e⟩
   exact absurd e ((h.1 rfl) t ht)
 | some s =>
  refine⟨fun _=>?_,fun _=>rfl⟩
  rcases Classical.em (∃ t ∈ l,t.1=id) with h2|h2
  ·exact h2
  ·exfalso
   have:getI id l=none:=(getI_none id l).2 (fun t ht e=>h2 ⟨t,ht,e⟩)
   rw[this] at hg
   cases hg
theorem good_put {id:Nat} {s:ByteArray} {l:List It} (h:GoodC l):GoodC (putL l id s):=by
 unfold putL
 split
 ·rename_i he
  unfold putE at he
  by_cases h1:6004799503160661≤id
  ·rw[if_pos h1] at he;cases he
  rw[if_neg h1] at he
  by_cases h2:s.size=0
  ·rw[if_pos h2] at he;cases he
  rw[if_neg h2] at he
  by_cases h3:65536<s.size
  ·rw[if_pos h3] at he;cases he
  rw[if_neg h3] at he
  refine⟨put_rise id s h.rise,fun t ht=>?_,fun t ht=>?_,fun t ht=>?_,?_⟩
  ·rcases(mem_put id s l t).1 ht with rfl|h4
   ·show id<_;omega
   ·exact h.low t h4.1
  ·rcases(mem_put id s l t).1 ht with rfl|h4
   ·show 0<s.size;omega
   ·exact h.pos t h4.1
  ·rcases(mem_put id s l t).1 ht with rfl|h4
   ·show s.size≤_;omega
   ·exact h.short t h4.1
  ·rw[put_len]
   have hf:=h.few
   cases hg:getI id l with
   | none =>
    rw[hg] at he
    have h5:¬ 2048≤l.length:=by
     intro h6
     rw[if_pos (by simp[h6])] at he
     cases he
    have:=delI_len id l
    omega
   | some x =>
    obtain⟨t,ht,e⟩:=(getI_some id l).1 (by rw[hg];rfl)
    have:=del_len_lt ht e
    omega
 ·exact h
end Go.Proofs.YtjkgkmmkehnggaaGreatDoor
namespace Go.Proofs.YtjkgkmmkehnggaaGreatDoor
set_option linter.unusedVariables false
set_option linter.unusedSimpArgs false
open Go.RowKit
set_option maxRecDepth 20000
theorem nan_anyC (x:Int) (w:World):Calls Tryz.prog 218 #[.int .u64 x] w fun e w'=>e=.returned (.bool false)∧w'=w:=by
 go_enter Tryz.func218,Tryz.ntmps218
 go_wp2
 go_ret
 exact⟨rfl,rfl⟩
def cmpIC (x y:Int):Int:=if x<y then -1 else if x > y then 1 else 0
set_option maxHeartbeats 1000000 in
theorem compare_anyC (x y:Int) (w:World):Calls Tryz.prog 162 #[.int .u64 x,.int .u64 y] w fun e w'=>e=.returned (.int .i64 (cmpIC x y))∧w'=w:=by
 have HN:=Lib.hid (fun a W=>nan_anyC a W)
 unfold cmpIC
 by_cases h:x<y
 ·rw[if_pos h]
  go_enter Tryz.func162,Tryz.ntmps162
  go_wp2_with fail
  refine(HN.out _ _).mono ?_
  rintro e w1 ⟨rfl,rfl⟩
  go_wp2_with fail
  refine(HN.out _ _).mono ?_
  rintro e w1 ⟨rfl,rfl⟩
  go_wp2_with fail
  go_ret
  exact⟨rfl,rfl⟩
 ·rw[if_neg h]
  by_cases h2:x > y
  ·rw[if_pos h2]
   go_enter Tryz.func162,Tryz.ntmps162
   go_wp2_with fail
   refine(HN.out _ _).mono ?_
   rintro e w1 ⟨rfl,rfl⟩
   go_wp2_with fail
   refine(HN.out _ _).mono ?_
   rintro e w1 ⟨rfl,rfl⟩
   go_wp2_with fail
   go_ret
   exact⟨rfl,rfl⟩
  ·rw[if_neg h2]
   go_enter Tryz.func162,Tryz.ntmps162
   go_wp2_with fail
   refine(HN.out _ _).mono ?_
   rintro e w1 ⟨rfl,rfl⟩
   go_wp2_with fail
   refine(HN.out _ _).mono ?_
   rintro e w1 ⟨rfl,rfl⟩
   go_wp2_with fail
   go_ret
   exact⟨rfl,rfl⟩
theorem cmpI_ltC (x y:Int):decide (cmpIC x y<0)=decide (x<y):=by
 unfold cmpIC
 by_cases h:x<y
 ·simp[h]
 ·by_cases h2:x > y <;> simp[h,h2]
theorem cmpI_eqC (x y:Int):decide (cmpIC x y=0)=decide (x=y):=by
 unfold cmpIC
 by_cases h:x<y
 ·simp[h];omega
 ·by_cases h2:x > y
  ·simp[h,h2];omega
  ·simp[h,h2];omega
theorem against_anyC (t:It) (y:Nat) (w:World):Calls Tryz.prog 92 #[.agg #[.int .u64 t.1,.string t.2],.int .u64 y] w fun e w'=>e=.returned (.int .i64 (cmpIC t.1 y))∧Below w.heap.size w w':=by
 have HC:=Lib.hid (fun W=>compare_anyC t.1 y W)
 go_enter Tryz.func92,Tryz.ntmps92
 go_wp2_with fail
 refine(HC.out _).mono ?_
 rintro e w1 ⟨rfl,rfl⟩
 go_wp2_with fail
 go_ret
 exact⟨rfl,by go_grown⟩
def loC (id:Nat) (l:List It):Nat:=(lowI id l).length
theorem loC_le (id:Nat) (l:List It):loC id l≤l.length:=low_le id l
theorem high_at {id:Nat} {l:List It} (hr:Rise l) (d:Nat) (t:It) (h:l[d]?=some t):t.1<id↔d<loC id l:=by
 constructor
 ·intro ht
  rcases Nat.lt_or_ge d (loC id l) with h1|h1
  ·exact h1
  ·exfalso
   have h2:(highI id l)[d - loC id l]?=some t:=by
    rw[← low_drop id l,List.getElem?_drop]
    show l[loC id l+(d - loC id l)]?=some t
    rw[Nat.add_sub_cancel' h1]
    exact h
   have:=high_ge hr t (List.mem_of_getElem? h2)
   omega
 ·intro hd
  obtain⟨u,hu,hlt⟩:=low_at id l d hd
  rw[h] at hu
  cases hu
  exact hlt
theorem isC {id:Nat} {l:List It} (hr:Rise l):(getI id l).isSome=decide (∃ t,l[loC id l]?=some t∧t.1=id):=by
 rw[Bool.eq_iff_iff,getI_some,decide_eq_true_iff]
 constructor
 ·rintro⟨t,ht,he⟩
  obtain⟨d,hd⟩:=List.mem_iff_getElem?.1 ht
  have h1:=(high_at (id:=id) hr d t hd)
  have h2:¬ d<loC id l:=fun h=>by have:=h1.2 h;omega
  rcases Nat.lt_or_ge (loC id l) d with h3|h3
  ·exfalso
   obtain⟨u,hu⟩:∃ u,l[loC id l]?=some u:=⟨_,List.getElem?_eq_getElem (by have:=(List.getElem?_eq_some_iff.1 hd).1;omega)⟩
   have h4:=low_end id l u hu
   have h5:u.1<t.1:=by
    obtain⟨a1,rfl⟩:=List.getElem?_eq_some_iff.1 hu
    obtain⟨a2,rfl⟩:=List.getElem?_eq_some_iff.1 hd
    exact List.pairwise_iff_getElem.1 hr _ _ a1 a2 h3
   omega
  ·have:d=loC id l:=by omega
   subst this
   exact⟨t,hd,he⟩
 ·rintro⟨t,ht,he⟩
  exact⟨t,List.mem_of_getElem? ht,he⟩
theorem del_no {id:Nat} {l:List It} (h:(getI id l).isSome=false):delI id l=l:=by
 unfold delI
 rw[List.filter_eq_self]
 intro u hu
 have hn:getI id l=none:=by cases hg:getI id l with|none=>rfl|some x=>rw[hg] at h;cases h
 have:=(getI_none id l).1 hn u hu
 simpa using this
theorem put_no {id:Nat} {s:ByteArray} {l:List It} (h:(getI id l).isSome=false):putI id s l=l.take (loC id l)++(id,s) :: l.drop (loC id l):=by
 unfold putI
 rw[del_no h]
 unfold loC
 rw[low_take,low_drop]
set_option maxHeartbeats 1000000 in
theorem bin_anyC (v:Value) (l:List It) (id:Nat) (w:World) (hr:Rise l) (hv:ItsAt w v l) (hl:l.length≤100000):Calls Tryz.prog 91 #[v,.int .u64 id,.func (.func 92) #[] #[]] w fun x w'=>x=.returned (.tuple #[.int .i64 (loC id l:Nat),.bool (getI id l).isSome])∧Below w.heap.size w w':=by
 have HF:=Lib.hid (fun t W=>against_anyC t id W)
 have hle:=loC_le id l
 obtain⟨al,cap,rfl,hcap,hmx,hc⟩:=hv
 have HC:=Lib.hid hc
 have HP:=Lib.hid (fun d t h=>high_at (id:=id) hr d t h)
 have HL:Hid ((getI id l).isSome=decide (∃ t,l[loC id l]?=some t∧t.1=id)):=Lib.hid (isC hr)
 generalize (getI id l).isSome=il at *
 obtain⟨r,hr⟩:∃ r,loC id l=r:=⟨_,rfl⟩
 rw[hr] at HP HL hle ⊢
 clear hc hr
 go_enter Tryz.func91,Tryz.ntmps91
 go_wp2_with fail
 go_loopw [9,10] (fun x y wr=>∃ a b:Nat,a≤r∧r≤b∧b≤l.length∧x=.int .i64 a∧y=.int .i64 b∧Below w.heap.size w wr) (fun x y _=>(intOf y).toNat - (intOf x).toNat)
 case atStart=>exact⟨0,l.length,Nat.zero_le _,by omega,Nat.le_refl _,rfl,rfl,Below.refl _ _⟩
 case round =>
  obtain⟨a,b,h1,h2,h3,rfl,rfl,hbw⟩:=hrel
  by_cases hlt:a<b
  ·obtain⟨d,hd0⟩:∃ d:Nat,d=(a+b) / 2:=⟨_,rfl⟩
   have hm1:a≤d:=by omega
   have hm2:d<b:=by omega
   obtain⟨e,he⟩:∃ t,l[d]?=some t:=⟨_,List.getElem?_eq_getElem (by omega)⟩
   obtain⟨g,off,rfl,hg,l0,l1⟩:=HC.out d e he
   have k0:=(hbw.cell (p:=⟨g,off+d*2,none⟩) hg).trans l0
   have k1:=(hbw.cell (p:=⟨g,off+d*2+1,none⟩) hg).trans l1
   have hi0:(a:Int)<(b:Int):=by omega
   have hi2:(d:Int)<(l.length:Int):=by omega
   have hw1:IntKind.i64.wrap ((a:Int)+(b:Int))=((a+b:Nat):Int):=by rw[IntKind.wrap_i64] <;> omega
   have hw2:IntKind.u64.wrap ((a:Int)+(b:Int))=((a+b:Nat):Int):=by rw[IntKind.wrap_u64];omega
   have hP:=HP.out d e he
   have HE:=Lib.hid (HF.out e)
   have HLT:=Lib.hid (cmpI_ltC (e.1:Nat) (id:Int))
   clear he l0 l1
   subst hd0
   have hi2':((a:Int)+(b:Int)) / 2<(l.length:Int):=by omega
   by_cases hq:e.1<id
   ·have hd:decide (cmpIC (e.1:Int) (id:Int)<0)=true:=by rw[HLT.out];simpa using hq
    have hq':(a+b) / 2+1≤r:=by have:=hP.1 hq;omega
    clear hq hP
    go_wp2_with fail
    refine(HE.out _).mono ?_
    rintro x w1 ⟨rfl,hb⟩
    have HB:=Lib.hid (hbw.trans (hb.mono hbw.size))
    clear hb hbw k0 k1
    go_wp2_with fail
    go_roundw
    case rel=>exact⟨(a+b) / 2+1,b,hq',h2,h3,by go_num,rfl,HB.out⟩
    case measure=>simp[intOf];omega
   ·have hd:decide (cmpIC (e.1:Int) (id:Int)<0)=false:=by rw[HLT.out];simpa using hq
    have hq':r≤(a+b) / 2:=by
     rcases Nat.lt_or_ge ((a+b) / 2) r with h|h
     ·exact absurd (hP.2 h) hq
     ·exact h
    clear hq hP
    go_wp2_with fail
    refine(HE.out _).mono ?_
    rintro x w1 ⟨rfl,hb⟩
    have HB:=Lib.hid (hbw.trans (hb.mono hbw.size))
    clear hb hbw k0 k1
    go_wp2_with fail
    go_roundw
    case rel=>exact⟨a,(a+b) / 2,h1,hq',by omega,rfl,by go_num,HB.out⟩
    case measure=>simp[intOf];omega
  ·obtain rfl:a=r:=by omega
   have hlt':¬ (a:Int)<(b:Int):=by omega
   have HBW:=Lib.hid hbw
   by_cases hal:a<l.length
   ·obtain⟨e,he⟩:∃ t,l[a]?=some t:=⟨_,List.getElem?_eq_getElem hal⟩
    obtain⟨g,off,rfl,hg,l0,l1⟩:=HC.out a e he
    have k0:=(hbw.cell (p:=⟨g,off+a*2,none⟩) hg).trans l0
    have k1:=(hbw.cell (p:=⟨g,off+a*2+1,none⟩) hg).trans l1
    have hi2:(a:Int)<(l.length:Int):=by omega
    have HE:=Lib.hid (HF.out e)
    have hil:il=decide ((e.1:Int)=(id:Int)):=by
     rw[HL.out]
     apply decide_eq_decide.2
     constructor
     ·rintro⟨t,ht,h⟩
      rw[he] at ht
      cases ht
      omega
     ·intro h
      exact⟨e,he,by omega⟩
    have HIL:=Lib.hid (hil.trans (cmpI_eqC _ _).symm)
    clear he l0 l1 hil hbw
    go_wp2_with fail
    refine(HE.out _).mono ?_
    rintro x w1 ⟨rfl,hb⟩
    have HB:=Lib.hid (HBW.out.trans (hb.mono HBW.out.size))
    clear hb k0 k1
    go_wp2_with fail
    go_ret2
    refine⟨?_,HB.out⟩
    rw[HIL.out]
    first|rfl|simp
   ·have hil:il=false:=by
     rw[HL.out,decide_eq_false_iff_not]
     rintro⟨t,ht,_⟩
     exact hal (List.getElem?_eq_some_iff.1 ht).1
    obtain rfl:a=l.length:=by omega
    subst hil
    have hi2:¬ (l.length:Int)<(l.length:Int):=by omega
    clear hbw
    go_wp2_with fail
    go_ret2
    exact⟨rfl,HBW.out⟩
structure ChS (w:World) (s:Value) (l:List It):Prop where
 its:ItsAt w s l
 good:GoodC l
theorem ChS.below {w w':World} {s:Value} {l:List It} (h:ChS w s l) (hb:Below w.heap.size w w'):ChS w' s l:=⟨h.its.below hb,h.good⟩
theorem ChS.form {w:World} {s:Value} {l:List It} (h:ChS w s l):∃ a n c,s=.slice a n c:=by
 obtain⟨a,c,e,_⟩:=h.its
 exact⟨_,_,_,e⟩
theorem chS_nil (w:World):ChS w (.slice none 0 0) []:=⟨its_nil w,goodC_nil⟩
theorem place_any (s:Value) (l:List It) (id:Nat) (w:World) (h:ChS w s l):Calls Tryz.prog 34 #[.agg #[s],.int .u64 id] w fun e w'=>e=.returned (.tuple #[.int .i64 (loC id l:Nat),.bool (getI id l).isSome])∧Below w.heap.size w w':=by
 have HB:=Lib.hid (fun W (hb:Below w.heap.size w W)=>bin_anyC s l id W h.good.rise (h.its.below hb) (by have:=h.good.few;omega))
 obtain⟨a,n,c,rfl⟩:=h.form
 clear h
 go_enter Tryz.func34,Tryz.ntmps34
 go_wp2_with fail
 refine(HB.out _ (by go_grown)).mono ?_
 rintro e w1 ⟨rfl,hb⟩
 have H1:=Lib.hid (((Below.refl w.heap.size w).alloc (Nat.le_refl _) _).trans (hb.mono (by simp)))
 clear hb
 go_wp2_with fail
 go_ret2
 exact⟨rfl,H1.out⟩
theorem below_oneC (w:World) (o:Obj):Below w.heap.size w (w.alloc o):=(Below.refl _ _).alloc (Nat.le_refl _) o
def One (w:World) (g:Nat) (x:Value):Prop:=∃ T,w.heap[g]?=some (.cells #[x] T (0,0))
theorem One.cell {w:World} {g:Nat} {x:Value} (h:One w g x):w.cell? ⟨g,0,none⟩=some x:=by
 obtain⟨T,h⟩:=h
 simp[World.cell?,h]
theorem One.frz {w:World} {g:Nat} {x:Value} (h:One w g x):w.frozen? ⟨g,0,none⟩=false:=by
 obtain⟨T,h⟩:=h
 simp[World.frozen?,h]
theorem One.lt {w:World} {g:Nat} {x:Value} (h:One w g x):g<w.heap.size:=vcell_lt h.cell
theorem One.below {w w':World} {g:Nat} {x:Value} (h:One w g x) (hb:Below w.heap.size w w'):One w' g x:=by
 have hl:=h.lt
 obtain⟨T,h⟩:=h
 exact⟨T,(hb.block g hl).trans h⟩
theorem One.alloc {w:World} {g:Nat} {x:Value} (h:One w g x) (o:Obj):One (w.alloc o) g x:=h.below (below_oneC w o)
theorem one_new (w:World) (x:Value) (T:TypeId):One (w.alloc (.cells #[x] T)) w.heap.size x:=⟨T,heap_new w _⟩
theorem One.set {w:World} {g:Nat} {x:Value} (h:One w g x) (x':Value):One (w.setCell ⟨g,0,none⟩ x') g x':=by
 obtain⟨T,h⟩:=h
 exact⟨T,by simp[World.setCell,Array.getElem?_modify,h]⟩
theorem One.set_other {w:World} {g g':Nat} {x:Value} (h:One w g x) (hn:g≠g') (x':Value):One (w.setCell ⟨g',0,none⟩ x') g x:=by
 obtain⟨T,h⟩:=h
 exact⟨T,(Below.heap_setCell _ _ _ _ (by simpa using hn)).trans h⟩
theorem ItsAt.set {w:World} {g:Nat} {x v:Value} {l:List It} (h:ItsAt w v l) (ho:One w g x) (x':Value):ItsAt (w.setCell ⟨g,0,none⟩ x') v l:=by
 obtain⟨T,hh⟩:=ho
 obtain⟨a,cap,rfl,h1,h2,hc⟩:=h
 refine⟨a,cap,rfl,h1,h2,fun k t ht=>?_⟩
 obtain⟨g',off,ha,hg,c0,c1⟩:=hc k t ht
 have hn:g'≠g:=by
  rintro rfl
  simp[World.cell?,hh] at c1
 have hb:(w.setCell ⟨g,0,none⟩ x').heap[g']?=w.heap[g']?:=Below.heap_setCell _ _ _ _ (by simpa using hn)
 exact⟨g',off,ha,by simpa using hg,(World.cell?_of_block (a:=⟨g',off+k*2,none⟩) hb).trans c0,(World.cell?_of_block (a:=⟨g',off+k*2+1,none⟩) hb).trans c1⟩
theorem ChS.set {w:World} {g:Nat} {x s:Value} {l:List It} (h:ChS w s l) (ho:One w g x) (x':Value):ChS (w.setCell ⟨g,0,none⟩ x') s l:=⟨h.its.set ho x',h.good⟩
theorem chart_size:(Tryz.prog.info? 32).map (·.size)=some 1:=by kernel_rfl
theorem one_load (w:World) (g:Nat) (ty:TypeId) (x:Value) (d:TypeDesc) (c0:w.cell? ⟨g,0,none⟩=some x)
  (hu:Tryz.prog.underlying ty=some d) (hd:(match d with|.struct _|.array _ _=>true|_=>false)=true) (hi:(Tryz.prog.info? ty).map (·.size)=some 1) :
  (loadVar ty ⟨g,0,none⟩).run Tryz.prog w=.ok (.agg #[x]) w:=by
 have hl:(loadCells ⟨g,0,none⟩ 1).run Tryz.prog w=.ok #[x] w :=
  run_loadCells_list (P:=Tryz.prog) w ⟨g,0,none⟩ [x] (fun j v hv=>by
   have hadd:(⟨g,0,none⟩:Addr).add j=⟨g,j,none⟩:=by unfold Addr.add;split <;> simp_all
   rw[hadd]
   match j,hv with
   | 0,hv=>simp at hv;rw[c0,hv]
   | j+1,hv=>simp at hv)
 cases hq:Tryz.prog.info? ty with
 | none=>simp[hq] at hi
 | some i =>
  have hs:i.size=1:=by simpa[hq] using hi
  have hagg:(isAgg ty).run Tryz.prog w=.ok true w:=by
   unfold isAgg
   rw[Sem.run_bind,run_underlying hu w]
   cases d <;> simp_all
  simp[loadVar,Sem.run_bind,hagg,sizeOf,typeInfo,hq,hs,hl]
theorem results_o2 {fn:Func} {p q:Tmp} {ty:TypeId} (h:fn.results=#[.cell p ty,.tmp q]) (tmps:Array Value) (w:World) (g:Nat) (x v:Value) (d:TypeDesc) (hp:tmps.getD p undef=.pointer (some ⟨g,0,none⟩)) (hq:tmps.getD q undef=v) (c0:w.cell? ⟨g,0,none⟩=some x)
  (hu:Tryz.prog.underlying ty=some d) (hd:(match d with|.struct _|.array _ _=>true|_=>false)=true) (hi:(Tryz.prog.info? ty).map (·.size)=some 1) :
  (results fn tmps).run Tryz.prog w=.ok (.tuple #[.agg #[x],v]) w:=by
 have hl:=one_load w g ty x d c0 hu hd hi
 have hp':tmps[p]?.getD undef=.pointer (some ⟨g,0,none⟩):=by simpa using hp
 have hq':tmps[q]?.getD undef=v:=by simpa using hq
 simp[results,h,hp',hq',asAddr,hl]
theorem results_ct1C {fn:Func} {p:Tmp} {ty:TypeId} (h:fn.results=#[.cell p ty]) (tmps:Array Value) (w:World) (g:Nat) (x y:Value) (d:TypeDesc) (hp:tmps.getD p undef=.pointer (some ⟨g,0,none⟩)) (c0:w.cell? ⟨g,0,none⟩=some x) (c1:w.cell? ⟨g,1,none⟩=some y)
  (hu:Tryz.prog.underlying ty=some d) (hd:(match d with|.struct _|.array _ _=>true|_=>false)=true) (hi:(Tryz.prog.info? ty).map (·.size)=some 2) :
  (results fn tmps).run Tryz.prog w=.ok (.agg #[x,y]) w:=by
 have hl:=two_load w g ty x y d c0 c1 hu hd hi
 have hp':tmps[p]?.getD undef=.pointer (some ⟨g,0,none⟩):=by simpa using hp
 simp[results,h,hp',asAddr,hl]
theorem sclone_anyC (s:ByteArray) (w:World) (hs:s.size≤281474976710656):Calls Tryz.prog 95 #[.string s] w fun e w'=>e=.returned (.string s)∧Below w.heap.size w w':=by
 have HC:=Lib.hid (fun W=>clo_any s W hs)
 go_enter Tryz.func95,Tryz.ntmps95
 go_wp2_with fail
 refine(HC.out _).mono ?_
 rintro e w1 ⟨rfl,hb⟩
 have HB:=Lib.hid hb
 clear hb
 go_wp2_with fail
 go_ret
 exact⟨rfl,HB.out⟩
set_option maxHeartbeats 1000000 in
theorem kept_any (id:Nat) (t:ByteArray) (w:World) (hs:t.size≤281474976710656):Calls Tryz.prog 37 #[.agg #[.int .u64 id,.string t]] w fun e w'=>e=.returned (.agg #[.int .u64 id,.string t])∧Below w.heap.size w w':=by
 have HC:=Lib.hid (fun W=>sclone_anyC t W hs)
 go_enter Tryz.func37,Tryz.ntmps37
 go_wp2_with fail
 go_region_with (refine(HC.out _).mono ?_;rintro e w1 ⟨rfl,hb⟩;have b0:w1.cell? ⟨w.heap.size,0,none⟩=some (.int .u64 id):=(hb.cell (p:=⟨w.heap.size,0,none⟩) (by simp;omega)).trans (by simp[go_sem]);have b1:w1.cell? ⟨w.heap.size,1,none⟩=some (.string t):=(hb.cell (p:=⟨w.heap.size,1,none⟩) (by simp;omega)).trans (by simp[go_sem]);have z0:w1.cell? ⟨w.heap.size+1,0,none⟩=some (.int .u64 0):=(hb.cell (p:=⟨w.heap.size+1,0,none⟩) (by simp)).trans (by simp[go_sem]);have z1:w1.cell? ⟨w.heap.size+1,1,none⟩=some (.string { data:=#[] }):=(hb.cell (p:=⟨w.heap.size+1,1,none⟩) (by simp)).trans (by simp[go_sem]);have f0:w1.frozen? ⟨w.heap.size+1,0,none⟩=false:=(hb.frozen (p:=⟨w.heap.size+1,0,none⟩) (by simp)).trans (by simp[go_sem]);have f1:w1.frozen? ⟨w.heap.size+1,1,none⟩=false:=(hb.frozen (p:=⟨w.heap.size+1,1,none⟩) (by simp)).trans (by simp[go_sem]);have hB:Below w.heap.size w w1:=(by go_grown:Below w.heap.size w _).trans (hb.mono (by simp;omega));have hl:w.heap.size+1<w1.heap.size:=vcell_lt z0)
 all_goals
  go_wp2_with fail
  refine bodyPost_ret (results_ct1C rfl _ _ (w.heap.size+1) (.int .u64 id) (.string t) _ rfl (by simp[go_sem,z0,z1]) (by simp[go_sem,z0,z1]) Tryz.underlying46 rfl pit_size) rfl ⟨rfl,(hB.setCell (p:=⟨w.heap.size+1,0,none⟩) (by simp) _).setCell (p:=⟨w.heap.size+1,1,none⟩) (by simp) _⟩
theorem rappend_run (sz bytes:Nat) (W:World) (B:Nat) (TS E ty:TypeId) (z:Value) (ht:Tryz.prog.underlying TS=some (.slice E)) (hI:(Tryz.prog.info? E).map (fun i=>(i.zero,i.size,i.bytes))=some (some z,sz,bytes)) (hzs:z.cells.size=sz) (hsz:0<sz) (hby:bytes≤64)
  (v:Value) (n:Nat) (L:List Value) (hown:W.ownsRow B E sz v n L) (ad:Addr) (m c:Nat) (xs:List Value) (hxs:xs.length=m*sz) (hnews:∀ j u,xs[j]?=some u→W.cell? (ad.add j)=some u) (hone:∀ u ∈ xs,u.oneCell'=true) (hm:0<m) (hl:n+m≤1000000000) (hb:B≤W.heap.size) :
  ∃ v' w',(Builtin.append_ #[TS,TS] ty #[v,.slice (some ad) m c]).run Tryz.prog W=.ok v' w'∧w'.ownsRow B E sz v' (n+m) (L++xs)∧W.grownBy w' v.ownBlock∧(v'.ownBlock=v.ownBlock∨∃ g,v'.ownBlock=some g∧W.heap.size≤g):=by
 obtain⟨i0,hi,hz0,hz1,hz2⟩:=info_parts hI
 have hbb:(n+m)*bytes≤1000000000*64:=Nat.mul_le_mul hl hby
 obtain⟨v',w',hr,h2,h3,h4⟩:=run_append_own (P:=Tryz.prog) W B TS ty E i0 _ sz bytes ht hi hz0 hz1 hz2 hzs hsz v n L hown ad m c xs hxs hnews hone (by unfold maxLen;omega) (by omega) hb
 refine⟨v',w',hr,h2,h3,?_⟩
 rcases hown.2 with ⟨rfl,hn⟩|⟨g,cap,cur,rfl,hbg,hg,hnc,hcm,hcs,htake⟩
 ·obtain⟨_,_,hr2,h22,_,_⟩:=run_append_own (P:=Tryz.prog) W W.heap.size TS ty E i0 _ sz bytes ht hi hz0 hz1 hz2 hzs hsz (.slice none 0 0) n L ⟨hown.1,.inl ⟨rfl,hn⟩⟩ ad m c xs hxs hnews hone (by unfold maxLen;omega) (by omega) (Nat.le_refl _)
  rw[hr] at hr2
  injection hr2 with e1 e2
  subst e1 e2
  rcases h22.2 with ⟨rfl,_⟩|⟨g,cap,cur,rfl,hg,_⟩
  ·exact .inl rfl
  ·exact .inr ⟨g,rfl,hg⟩
 ·have hL:L.length=n*i0.size:=by rw[hz1];exact hown.1
  by_cases hroom:n+m≤cap
  ·have hmul:(n+m)*sz≤cap*sz:=Nat.mul_le_mul_right _ hroom
   have hr2:=run_append_room (P:=Tryz.prog) W TS ty E i0 ht hi g n cap cur hg ad m c xs (by rw[hz1];exact hxs) hnews hone hroom (by rw[hz1,hxs,hcs,← Nat.add_mul];exact hmul)
   rw[hr] at hr2
   injection hr2 with e1 e2
   rw[e1]
   exact .inl rfl
  ·have hr2:=run_append_grow (P:=Tryz.prog) W TS ty E i0 _ ht hi hz0 ⟨g,0,none⟩ n cap L hL (World.ownsRow.cells hown rfl) ad m c xs (by rw[hz1];exact hxs) hnews (by omega) (by omega) (growslice_fits (by omega) (by rw[hz2];omega))
   rw[hr] at hr2
   injection hr2 with e1 e2
   rw[e1]
   exact .inr ⟨_,rfl,Nat.le_refl _⟩
set_option maxHeartbeats 1000000 in
theorem check_any (s:Value) (l:List It) (id:Nat) (t:ByteArray) (w:World) (h:ChS w s l) (ht:t.size≤maxLen) :
  Calls Tryz.prog 35 #[.agg #[s],.agg #[.int .u64 id,.string t],.bool (getI id l).isSome] w fun e w'=>e=.returned (.int .i64 (putE l id t:Nat))∧Below w.heap.size w w':=by
 obtain⟨al,cap,rfl,hcap,hmx,hc⟩:=h.its
 have hfew:=h.good.few
 clear hc h
 unfold maxLen at hmx ht
 unfold putE
 obtain⟨b,hb⟩:∃ b,(getI id l).isSome=b:=⟨_,rfl⟩
 have hb':(getI id l).isNone=!b:=by rw[← hb];cases getI id l <;> rfl
 rw[hb,hb']
 clear hb hb'
 by_cases h1:6004799503160661≤id
 ·have h1':(6004799503160661:Int)≤(id:Int):=by omega
  rw[if_pos h1]
  go_enter Tryz.func35,Tryz.ntmps35
  go_wp2_with fail
  go_ret
  exact⟨rfl,by go_grown⟩
 have h1':¬ (6004799503160661:Int)≤(id:Int):=by omega
 rw[if_neg h1]
 by_cases h2:t.size=0
 ·rw[if_pos h2]
  have h2':(t.toList == [])=true:=by
   have:t={ data:=#[] }:=ByteArray.ext (Array.eq_empty_of_size_eq_zero h2)
   rw[this,ByteArray.toList_eq];rfl
  go_enter Tryz.func35,Tryz.ntmps35
  go_wp2_with fail
  go_ret
  exact⟨rfl,by go_grown⟩
 rw[if_neg h2]
 have h2':(t.toList == [])=false:=by
  rw[ByteArray.toList_eq,beq_eq_false_iff_ne]
  intro e
  exact h2 (by have:=congrArg List.length e;simpa using this)
 by_cases h3:65536<t.size
 ·have h3':(65536:Int)<(t.size:Int):=by omega
  rw[if_pos h3]
  go_enter Tryz.func35,Tryz.ntmps35
  go_wp2_with fail
  go_ret
  exact⟨rfl,by go_grown⟩
 have h3':¬ (65536:Int)<(t.size:Int):=by omega
 rw[if_neg h3]
 by_cases h4:2048≤l.length
 ·have h4':(2048:Int)≤(l.length:Int):=by omega
  cases b with
  | true =>
   rw[if_neg (by simp)]
   go_enter Tryz.func35,Tryz.ntmps35
   go_wp2_with fail
   go_ret
   exact⟨rfl,by go_grown⟩
  | false =>
   rw[if_pos (by simpa using h4)]
   go_enter Tryz.func35,Tryz.ntmps35
   go_wp2_with fail
   go_ret
   exact⟨rfl,by go_grown⟩
 ·have h4':¬ (2048:Int)≤(l.length:Int):=by omega
  rw[if_neg (by simp;intro _;omega)]
  go_enter Tryz.func35,Tryz.ntmps35
  go_wp2_with fail
  go_ret
  exact⟨rfl,by go_grown⟩
theorem len_anyC (s:Value) (l:List It) (w:World) (h:ChS w s l) :
  Calls Tryz.prog 89 #[.agg #[s]] w fun e w'=>e=.returned (.int .i64 l.length)∧Below w.heap.size w w':=by
 obtain⟨al,cap,rfl,hcap,hmx,hc⟩:=h.its
 clear h hc
 unfold maxLen at hmx
 go_enter Tryz.func89,Tryz.ntmps89
 go_wp2_with fail
 go_ret
 exact⟨rfl,by go_grown⟩
theorem copy_run2 (W:World) (g o dLen dCap:Nat) (a:Addr) (sLen sCap:Nat) (cur:List Value) (T:TypeId) (cs:List Value) (hg:W.heap[g]?=some (.cells cur.toArray T (0,0))) (hn:cs.length=Nat.min sLen dLen*2)
  (hsrc:∀ j v,cs[j]?=some v→W.cell? (a.add j)=some v) (hfit:o+cs.length≤cur.length) (h1:∀ v ∈ cs,v.oneCell'=true) :
  ∃ W',(∀ ty,(Builtin.copy_ #[30,30] ty #[.slice (some ⟨g,o,none⟩) dLen dCap,.slice (some a) sLen sCap]).run Tryz.prog W=.ok (goInt (Nat.min sLen dLen)) W')∧W'.heap[g]?=some (.cells (splice cur o cs).toArray T (0,0))∧W.grownBy W' (some g):=by
 have hl:=run_loadCells_list (P:=Tryz.prog) W a cs hsrc
 have hst:=run_storeCells_at Tryz.prog g o T cs 0 cur.toArray W hg (by simpa using hfit) h1
 obtain⟨i0,hi,hz0,hz1,hz2⟩:=info_parts infoPit
 have hu:=Tryz.underlying30
 refine⟨W.setRow g (cur.take o++(cs++cur.drop (o+cs.length))).toArray,fun ty=>?_,?_,?_⟩
 ·have hn':Nat.min sLen dLen*2=cs.length:=hn.symm
  simp only[Nat.add_zero] at hst
  rw[show cur.take o++(cs++cur.drop (o+cs.length))=cur.toArray.toList.take o++cs++cur.toArray.toList.drop (o+cs.length) by simp]
  simp[Builtin.copy_,run_underlying hu,Builtin.lenOf,Builtin.firstCells,sizeOf,typeInfo,hi,hz1,hn',hl,hst]
 ·exact setRow_heap W g _ _ T _ hg
 ·exact⟨rfl,rfl,rfl,by simp[World.setRow],fun k hk hne=>setRow_other W g k _ (fun e=>hne (by rw[e]))⟩
theorem size_item (w:World):(sizeOf 46).run Tryz.prog w=.ok 2 w:=by
 obtain⟨i0,hi,hz0,hz1,hz2⟩:=info_parts infoPit
 simp[sizeOf,typeInfo,hi,hz1]
theorem over_run (w:World) (vb b oB lb cb:Nat) (hvb:vb≠b) (x y:Value) (tA tB:TypeId) (cur:Array Value) (hA:w.heap[vb]?=some (.cells #[x,y] tA (0,0))) (hB:w.heap[b]?=some (.cells cur tB (0,0))) (hc:cur.size≠0) :
  (callFunc 93 #[.slice (some ⟨vb,0,none⟩) 1 1,.slice (some ⟨b,oB,none⟩) lb cb]).run Tryz.prog w=.ok (.value (.bool false)) w:=by
 rw[run_callFunc_extern Tryz.func93 (by kernel_rfl) (by kernel_rfl) (by kernel_rfl) (e:=Extern.SlicesOverlaps.overlaps #[30,30] #[4]) (by kernel_rfl),
  Lib.run_overlaps_apart w 30 4 46 Tryz.underlying30 2 size_item ⟨vb,0,none⟩ ⟨b,oB,none⟩ 1 1 lb cb hvb tA tB 2 cur.size (by simp[World.shape?,hA]) (by simp[World.shape?,hB]) hc (by simp[World.frozen?,hA]) (by simp[World.frozen?,hA])]
 rfl
theorem wpList_copy_known {w:World} {ops:Array Oper} {rest:List Oper} {o:Oper} {a:Act} {Q:Exit→Act→World→Prop} (hgd:o.guard=none) (d s:Operand) (t t':TypeId)
  (ho:o.op=.call { callee:=.builtin .copy,args:=#[d,s],argTypes:=#[t,t'] }) (v u:Value) (hd:a.eval d=v) (hs:a.eval s=u) {v':Value} {w':World}
  (hr:(Builtin.copy_ #[t,t'] o.type #[v,u]).run Tryz.prog w=.ok v' w') (h:wpList Tryz.prog ops Q rest (a.put o.dst v') w'):wpList Tryz.prog ops Q (o :: rest) a w:=by
 refine wpList_plain hgd fun K hK=>?_
 unfold Oper.wp execOp
 simp only[ho,resolve,invoke,builtin,Sem.run_bind,Sem.run_pure,Result.andThen_ok,List.map_toArray,List.map_cons,List.map_nil,hd,hs,hr]
 exact hK _ _ h
theorem step_copy_known {ops:Array Oper} {o:Oper} {a:Act} {w:World} {K:Act→World→Prop} {Q:Exit→Act→World→Prop} {E:Prop}
  (hg:o.guard=none) (d x:Operand) (dT sT:TypeId) (hop:o.op=Op.call { callee:=Callee.builtin Builtin.copy,args:=#[d,x],argTypes:=#[dT,sT] })
  (v u:Value) (hd:a.eval d=v) (hx:a.eval x=u) {v':Value} {w':World} (hr:(Builtin.copy_ #[dT,sT] o.type #[v,u]).run Tryz.prog w=.ok v' w') (hK:K (a.put o.dst v') w') :
  if Region.wanted o (yielded ops a.tmps)=true then Oper.wp Tryz.prog o a w K Q else E:=by
 have hw:Region.wanted o (yielded ops a.tmps)=true:=by simp[Region.wanted,hg]
 rw[if_pos hw]
 unfold Oper.wp
 simp[execOp,hop,resolve,invoke,builtin,hd,hx,hr,Result.andThen]
 exact hK
def insI (l:List It) (i:Nat) (t:It):List It:=l.take i++t :: l.drop i
def InsEnd (l:List It) (i:Nat) (t:It) (B:Nat) (s:Value) (w:World) (e:Ending) (w':World):Prop:=∃ v',e=.returned v'∧OwnIt w' B 46 v' (insI l i t)∧w.grownBy w' s.ownBlock
set_option maxHeartbeats 1000000 in
theorem ins_end (s:Value) (l:List It) (t:It) (B vb:Nat) (w:World) (ho:OwnIt w B 46 s l) (hx:ItsAt w (.slice (some ⟨vb,0,none⟩) 1 1) [t]) (hl:l.length≤5000) (hB:B≤w.heap.size) :
  Calls Tryz.prog 36 #[s,.int .i64 l.length,.slice (some ⟨vb,0,none⟩) 1 1] w (InsEnd l l.length t B s w):=by
 obtain⟨v5,w5,hr5,ho5,hg5⟩:=itappend_run w B 30 46 30 _ Tryz.underlying30 infoPit rfl s (.slice (some ⟨vb,0,none⟩) 1 1) l [t] ho hx (by simp;omega) hB
 have HE:Hid (∀ e,e=Ending.returned v5→InsEnd l l.length t B s w e w5):=Lib.hid (fun e he=>⟨v5,he,by unfold insI;rw[List.take_length,List.drop_length];exact ho5,hg5⟩)
 have hee:((l.length:Int) == (l.length:Int))=true:=by simp
 rcases ho.form with ⟨rfl,rfl⟩|⟨g,cap,rfl,_,_,hle,hm,_⟩
 ·clear ho hx ho5 hg5
  go_enter Tryz.func36,Tryz.ntmps36
  go_wp2_with (first|(at_builtin;refine Lib.wpList_append_run _ rfl _ _ _ _ rfl _ _ rfl rfl _ _ hr5 ?_)|fail)
  go_ret
  exact HE.out _ rfl
 ·unfold maxLen at hm
  generalize l.length=n at *
  have hn:(n:Int)≤(cap:Int):=by omega
  clear ho hx ho5 hg5
  by_cases hc:cap=n
  ·subst hc
   go_enter Tryz.func36,Tryz.ntmps36
   go_wp2_with (first|(at_builtin;refine Lib.wpList_append_run _ rfl _ _ _ _ rfl _ _ rfl rfl _ _ hr5 ?_)|fail)
   go_ret
   exact HE.out _ rfl
  ·go_enter Tryz.func36,Tryz.ntmps36
   go_wp2_with (first|(at_builtin;refine Lib.wpList_append_run _ rfl _ _ _ _ rfl _ _ rfl rfl _ _ hr5 ?_)|fail)
   go_ret
   exact HE.out _ rfl
theorem its_cells {W:World} {ad:Addr} {n cap:Nat} {l:List It} (h:ItsAt W (.slice (some ad) n cap) l):∀ j u,(flatI l)[j]?=some u→W.cell? (ad.add j)=some u:=by
 obtain⟨a,cap',he,h1,h2,hc⟩:=h
 cases he
 intro j u hu
 have hj:j<l.length*2:=by rw[← flatI_len];exact(List.getElem?_eq_some_iff.1 hu).1
 obtain⟨t,ht⟩:∃ t,l[j / 2]?=some t:=⟨_,List.getElem?_eq_getElem (by omega)⟩
 obtain⟨g,off,ha,_,c0,c1⟩:=hc (j / 2) t ht
 obtain⟨f0,f1⟩:=flatI_at l (j / 2) t ht
 injection ha with ha
 subst ha
 have hadd:(⟨g,off,none⟩:Addr).add j=⟨g,off+j,none⟩:=by simp[Addr.add]
 rw[hadd]
 rcases(by omega:j=j / 2*2∨j=j / 2*2+1) with e|e
 ·rw[e,f0] at hu;rw[← hu];rw[show off+j=off+j / 2*2 from by omega];exact c0
 ·rw[e,f1] at hu;rw[← hu];rw[show off+j=off+j / 2*2+1 from by omega];exact c1
theorem its_first {W:World} {a:Option Addr} {n cap:Nat} {l:List It} (h:ItsAt W (.slice a n cap) l) (W':World) (hW:∀ p,W'.cell? p=W.cell? p):(Builtin.firstCells 2 n (.slice a n cap)).run Tryz.prog W'=.ok (flatI l).toArray W':=by
 have h':=h
 obtain⟨a',cap',he,h1,h2,hc⟩:=h'
 cases he
 cases a with
 | none =>
  have hl0:l=[]:=by
   cases l with
   | nil=>rfl
   | cons t l=>obtain⟨g,off,ha,_⟩:=hc 0 t rfl;cases ha
  subst hl0
  exact run_firstCells_none W' 2 0 0 cap
 | some ad=>exact run_firstCells_some W' 2 l.length ad l.length cap (flatI l) (flatI_len l) (fun j u hu=>(hW _).trans (its_cells h j u hu))
theorem ItsAt.post {w:World} {g off n cap:Nat} {l:List It} (h:ItsAt w (.slice (some ⟨g,off,none⟩) n cap) l) (k:Nat) (hk:k≤l.length):ItsAt w (.slice (some ⟨g,off+k*2,none⟩) (l.length - k) (cap - k)) (l.drop k):=by
 obtain⟨a,cap',e,h1,h2,hc⟩:=h
 cases e
 refine⟨_,cap - k,by rw[List.length_drop],by rw[List.length_drop];omega,by omega,fun j t ht=>?_⟩
 rw[List.getElem?_drop] at ht
 obtain⟨g',off',e,hg,c0,c1⟩:=hc (k+j) t ht
 cases e
 refine⟨g,off+k*2,rfl,hg,?_,?_⟩
 ·rw[show off+k*2+j*2=off+(k+j)*2 by omega];exact c0
 ·rw[show off+k*2+j*2+1=off+(k+j)*2+1 by omega];exact c1
theorem ItsAt.pre {w:World} {a:Option Addr} {n cap:Nat} {l:List It} (h:ItsAt w (.slice a n cap) l) (k:Nat) (hk:k≤l.length):ItsAt w (.slice a k cap) (l.take k):=by
 obtain⟨a',cap',e,h1,h2,hc⟩:=h
 cases e
 have hl:(l.take k).length=k:=by rw[List.length_take];omega
 refine⟨_,cap,by rw[hl],by omega,h2,fun j t ht=>?_⟩
 have hj:j<k:=by have:=(List.getElem?_eq_some_iff.1 ht).1;omega
 rw[List.getElem?_take,if_pos hj] at ht
 exact hc j t ht
theorem ofR_step (all acc:List It) (k:Nat) (t:It) (h:all[k]?=some t):ofR (all.take k) acc (all.drop k)=if (getI t.1 (all.take k)).isSome then ([],22) else if putE acc t.1 t.2≠0 then ([],putE acc t.1 t.2) else ofR (all.take (k+1)) (putI t.1 t.2 acc) (all.drop (k+1)):=by
 rw[idrop_at all k t h,ofR,itake_at all k t h]
end Go.Proofs.YtjkgkmmkehnggaaGreatDoor
