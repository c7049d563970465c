/- bMI bMR bMJ bUd bNa bUa bUc. -/
import Derived.Test.YtjkgkmmkehnggaaGreatDoorYb4
import Derived.Test.YtjkgkmmkehnggaaGreatDoorYb3
import Derived.Test.YtjkgkmmkehnggaaGreatDoorYs
set_option maxHeartbeats 16000000
namespace Go.Proofs.YtjkgkmmkehnggaaGreatDoor
set_option linter.unusedVariables false
set_option linter.unusedSimpArgs false
open Go.RowKit
set_option maxRecDepth 20000
theorem xhY:∀ (l:List En) (k:Nat) (e:En) (x:Int),l[k]?=some e→(xaw l).set (k*4) (.int .u64 x)=xaw (l.set k { e with id:=x })
 | [],k,e,x,h=>by simp at h
 | a :: l,0,e,x,h=>by
  obtain rfl:a=e:=by simpa using h
  rfl
 | a :: l,k+1,e,x,h=>by
  have ih:=xhY l k e x (by simpa using h)
  show (cE a++xaw l).set _ _=cE a++xaw (l.set k { e with id:=x })
  rw[← ih,show (k+1)*4=(k*4)+1+1+1+1 from by omega]
  rfl
theorem xhR:∀ (l:List En) (k:Nat) (e:En) (x:Int),l[k]?=some e→(xaw l).set (k*4+1) (.int .u64 x)=xaw (l.set k { e with off:=x })
 | [],k,e,x,h=>by simp at h
 | a :: l,0,e,x,h=>by
  obtain rfl:a=e:=by simpa using h
  rfl
 | a :: l,k+1,e,x,h=>by
  have ih:=xhR l k e x (by simpa using h)
  show (cE a++xaw l).set _ _=cE a++xaw (l.set k { e with off:=x })
  rw[← ih,show (k+1)*4+1=(k*4+1)+1+1+1+1 from by omega]
  rfl
theorem xhJ:∀ (l:List En) (k:Nat) (e:En) (x:Int),l[k]?=some e→(xaw l).set (k*4+2) (.int .u32 x)=xaw (l.set k { e with ln:=x })
 | [],k,e,x,h=>by simp at h
 | a :: l,0,e,x,h=>by
  obtain rfl:a=e:=by simpa using h
  rfl
 | a :: l,k+1,e,x,h=>by
  have ih:=xhJ l k e x (by simpa using h)
  show (cE a++xaw l).set _ _=cE a++xaw (l.set k { e with ln:=x })
  rw[← ih,show (k+1)*4+2=(k*4+2)+1+1+1+1 from by omega]
  rfl
theorem xhG:∀ (l:List En) (k:Nat) (e:En) (x:Int),l[k]?=some e→(xaw l).set (k*4+3) (.int .u32 x)=xaw (l.set k { e with rn:=x })
 | [],k,e,x,h=>by simp at h
 | a :: l,0,e,x,h=>by
  obtain rfl:a=e:=by simpa using h
  rfl
 | a :: l,k+1,e,x,h=>by
  have ih:=xhG l k e x (by simpa using h)
  show (cE a++xaw l).set _ _=cE a++xaw (l.set k { e with rn:=x })
  rw[← ih,show (k+1)*4+3=(k*4+3)+1+1+1+1 from by omega]
  rfl
theorem xkF (x:Int):IntKind.u32.wrap x=x % 4294967296:=by simp[IntKind.wrap,IntKind.signed,IntKind.bits]
theorem xl3 (t:ByteArray) (a:Nat):rst t (a:Int)=t.data.toList.drop a:=by unfold rst;rw[Int.toNat_natCast]
theorem xAU (t:ByteArray) (a:Nat) (ha:a≤t.size) (hr:xbI (t.data.toList.drop a)=0):a+(xaO 10 (t.data.toList.drop a)+1)≤t.size:=by
 have h:=(xdx _ hr).2.1
 rw[List.length_drop] at h
 have:t.data.toList.length=t.size:=by simp
 omega
theorem xfA {n:Nat} {l:List En} (hl:l.length=n):xaT l↔∀ j,j<n→xa1 (gE l j):=by
 constructor
 ·exact fun h j hj=>h _ (xfP l j (by omega))
 ·intro h e he
  obtain⟨j,hj,rfl⟩:=List.getElem_of_mem he
  have:=h j (by omega)
  unfold gE at this
  rwa[List.getD_eq_getElem?_getD,List.getElem?_eq_getElem hj] at this
def xpM (wx:World) (h:Nat) (t:ByteArray) (p q:Int):Prop :=
 wx.cell? ⟨h,0,none⟩=some (.string t)∧wx.cell? ⟨h,1,none⟩=some (.int .i64 p)∧wx.cell? ⟨h,2,none⟩=some (.int .i64 q)∧∀ o,wx.frozen? ⟨h,o,none⟩=false
theorem xcz {w w':World} {h o:Nat} (hb:Below w.heap.size w w') (hl:h<w.heap.size):w'.frozen? ⟨h,o,none⟩=w.frozen? ⟨h,o,none⟩:=by simp[World.frozen?,hb.block h hl]
theorem xpM.later {w w':World} {h:Nat} {t:ByteArray} {p q:Int} (s:xpM w h t p q) (hb:Below w.heap.size w w'):xpM w' h t p q :=
 ⟨xaa hb s.1,xaa hb s.2.1,xaa hb s.2.2.1,fun o=>(xcz hb (xbS (a:=⟨h,0,none⟩) s.1)).trans (s.2.2.2 o)⟩
theorem xqA {w:World} {h:Nat} {t t':ByteArray} {p p' q q':Int} (s:xpM w h t p q):xpM (((w.setCell ⟨h,0,none⟩ (.string t')).setCell ⟨h,1,none⟩ (.int .i64 p')).setCell ⟨h,2,none⟩ (.int .i64 q')) h t' p' q':=by
 obtain⟨c0,c1,c2,f0⟩:=s
 exact⟨by simp[go_sem,c0],by simp[go_sem,c1],by simp[go_sem,c2],fun o=>by simp[go_sem,f0]⟩
theorem xa5.setCell {w:World} {B:Nat} {E:TypeId} {v:Value} {l:List En} (h:xa5 w B E v l) (a:Addr) (u:Value) (ha:a.block<B):xa5 (w.setCell a u) B E v l:=by
 obtain⟨h1,h2⟩:=h
 refine⟨h1,?_⟩
 rcases h2 with h2|⟨g,cap,cur,hv,hg,hh,r⟩
 ·exact .inl h2
 ·refine .inr ⟨g,cap,cur,hv,hg,?_,r⟩
  rw[Below.heap_setCell w a u g (by omega)];exact hh
theorem xo1 (n:Nat):xaw (xaG n)=(madeCells (eC xdW) (n*4)).toList:=by
 apply List.ext_getElem?
 intro i
 have hl:(xaw (xaG n)).length=n*4:=by rw[xbt];simp[xaG]
 by_cases h:i<n*4
 ·have hj:(xaG n)[i / 4]?=some xdW:=by unfold xaG;rw[List.getElem?_replicate,if_pos (by omega)]
  obtain⟨a0,a1,a2,a3⟩:=xeY _ _ _ hj
  have hr:(madeCells (eC xdW) (n*4)).toList[i]?=some ((eC xdW)[i % 4]!):=by
   unfold madeCells
   simp[h,eC]
  rw[hr]
  rcases(show i % 4=0∨i % 4=1∨i % 4=2∨i % 4=3 by omega) with e|e|e|e
  ·rw[e,show i=i / 4*4 from by omega,a0];rfl
  ·rw[e,show i=i / 4*4+1 from by omega,a1];rfl
  ·rw[e,show i=i / 4*4+2 from by omega,a2];rfl
  ·rw[e,show i=i / 4*4+3 from by omega,a3];rfl
 ·rw[List.getElem?_eq_none (by omega),List.getElem?_eq_none (by rw[Array.length_toList,size_madeCells];omega)]
def xkN (D:List En × Nat × Int) (E:TypeId) (w:World) (x:Ending) (w':World):Prop:=∃ v',x=.returned (.tuple #[v',.int .i64 (D.2.1:Int),.int .i64 D.2.2])∧xa5 w' w.heap.size E v' D.1∧Below w.heap.size w w'
def xzh (G:List En × Nat × Int) (n:Nat):List En × Nat × Int:=if G.2.2≠0 then G else if G.2.1<n then ([],G.2.1,4) else if xa2 G.1≠0 then ([],n,xa2 G.1) else (G.1,n,0)
end Go.Proofs.YtjkgkmmkehnggaaGreatDoor
namespace Go.Proofs.YtjkgkmmkehnggaaGreatDoor
set_option linter.unusedVariables false
set_option linter.unusedSimpArgs false
open Go.RowKit Go.Shelf
set_option maxRecDepth 20000
open Go.RowKit Go.Shelf
set_option maxRecDepth 20000
open Go.RowKit
set_option maxRecDepth 20000
def xiL (ops:Array Oper):Bool:=ops.all fun o=>match o.op with|.defer _=>false|_=>true
theorem xkn {ops:Array Oper} (h:xiL ops=true) {i:Nat} {o:Oper} (ho:ops[i]?=some o):∀ c,o.op≠.defer c:=by
 intro c hc
 unfold xiL at h
 rw[Array.all_eq_true] at h
 obtain⟨hi,rfl⟩:=Array.getElem?_eq_some_iff.1 ho
 have:=h i hi
 rw[hc] at this
 simp at this
theorem xpt {P:Program} {o:Oper} {a:Act} {K K':Act→World→Prop} {Q:Exit→Act→World→Prop} {l n:Nat} (hK:∀ a w,K a w→K' a w):∀ r:Result Next,o.upon P a K Q r→o.uponIn (Fence.wide.inRound l) n P a K' Q r
 | .ok (.value v) w',h=>hK _ _ h
 | .ok .skip w',h=>hK _ _ h
 | .ok (.defer d) w',h=>hK _ _ h
 | .ok (.enter f args) w',h=>⟨fun e=>by simp[Fence.wide,Fence.inRound] at e,(CallsIn.inRound l (callsIn_wide.2 h)).mono fun e w'' he=>by
   cases e with
   | returned v=>exact hK _ _ he
   | panicked chain=>exact he
   | outgrown=>exact he⟩
 | .ok (.row row args) w',h=>⟨fun e=>by simp[Fence.wide,Fence.inRound] at e,fun c cs _=>by
   obtain⟨v,w'',r,s⟩:=h c cs
   exact⟨v,w'',hK _ _ r,stepsIn_wide.2 s⟩⟩
 | .halt (.panic v) w',h=>h
theorem xeO {P:Program} {ops:Array Oper} {Q:Exit→Act→World→Prop} {l n:Nat} (hQ:¬ LetsOut Q) (hops:xiL ops=true):∀ (L:List Nat) (a:Act) (w:World),wpOps P ops Q L a w→wpOpsIn (Fence.wide.inRound l) n P ops Q L a w
 | [],a,w,h=>h
 | i :: rest,a,w,h=>by
  unfold wpOps at h
  unfold wpOpsIn
  cases ho:ops[i]? with
  | none =>
   rw[ho] at h
   exact xeO hQ hops rest a w h
  | some o =>
   rw[ho] at h
   simp only at h ⊢
   by_cases hw:Region.wanted o (yielded ops a.tmps)=true
   ·rw[if_pos hw] at h ⊢
    rcases h with h|h
    ·refine⟨fun _ _=>trivial,?_⟩
     rw[Oper.semAt_plain (Fence.wide.inRound l) a.eval o (xkn hops ho)]
     exact xpt (fun a w=>xeO hQ hops rest a w) _ h
    ·exact absurd h.2 hQ
   ·rw[if_neg hw] at h ⊢
    exact⟨fun _ _=>trivial,xeO hQ hops rest _ w h⟩
end Go.Proofs.YtjkgkmmkehnggaaGreatDoor
namespace Go.Proofs.YtjkgkmmkehnggaaGreatDoor
set_option linter.unusedVariables false
set_option linter.unusedSimpArgs false
open Go.RowKit Go.Shelf
set_option maxRecDepth 20000
theorem xyl:(Tryz.prog.info? 44).map (fun i=>(i.zero,i.size,i.bytes))=some (some (.int .u64 0),1,8):=by kernel_rfl
def xlY (w:World) (B:Nat) (v:Value) (l:List Int):Prop:=w.ownsRow B 44 1 v l.length (l.map (Value.int .u64))
theorem xlY.snoc {w':World} {B:Nat} {v':Value} {l:List Int} {c:Int} (hs:w'.ownsRow B 44 1 v' (l.length+1) (l.map (Value.int .u64)++[.int .u64 c])):xlY w' B v' (l++[c]):=by
 unfold xlY
 rw[List.length_append,List.map_append]
 exact hs
theorem xlY.mono {w:World} {B B':Nat} {v:Value} {l:List Int} (h:xlY w B v l) (hb:B'≤B):xlY w B' v l:=by
 obtain⟨h1,h2⟩:=h
 refine⟨h1,?_⟩
 rcases h2 with h2|⟨g,cap,cur,hv,hg,r⟩
 ·exact .inl h2
 ·exact .inr ⟨g,cap,cur,hv,Nat.le_trans hb hg,r⟩
theorem xlY.wordsAt {w:World} {B:Nat} {v:Value} {l:List Int} (h:xlY w B v l):xsu w v l:=by
 have hlt:=World.ownsRow.lt h
 have h':=h
 obtain⟨hx,hv⟩:=h'
 rcases hv with ⟨rfl,hn⟩|⟨g,cap,cur,rfl,hB,hh,hle,hm,hcs,htk⟩
 ·obtain rfl:l=[]:=List.eq_nil_of_length_eq_zero hn
  exact⟨none,0,rfl,fun k hk=>by simp at hk⟩
 ·refine⟨_,cap,rfl,fun k hk=>⟨g,0,rfl,(hlt g rfl).2,?_⟩⟩
  have:=World.ownsRow.cellAt h k (by omega)
  rw[Nat.zero_add]
  simpa[hk] using this
theorem xmV (v:Value) (l:List Int) (w:World) (hw:xsu w v l) (hl:l.length≤100000) (hx:xDi l):Calls Tryz.prog 78 #[v] w (xm7 w (encs l)):=by
 obtain⟨a,cap,rfl,hc⟩:=hw
 have HC:=lH hc;clear hc
 have HX:=lH hx;clear hx
 go_enter Tryz.func78,Tryz.ntmps78
 go_wp2_with fail
 go_loop [3,11] (fun s i=>∃ k:Nat,k≤l.length∧i=.int .i64 k∧∃ n:Nat,s=.int .i64 n∧Hid (n=(encs (l.take k)).length)∧n≤10*k) (fun _ i=>l.length - (intOf i).toNat)
 case atStart=>exact⟨0,Nat.zero_le _,rfl,0,rfl,by simp[encs,Hid],by omega⟩
 case round =>
  obtain⟨k,hk,rfl,n,rfl,HN,hn⟩:=hrel
  by_cases hlt:k<l.length
  ·obtain⟨b,off,rfl,hb,hcell⟩:=HC.out k hlt
   have bx:=HX.out k hlt
   have ht:=xjY l k hlt
   generalize l.getD k 0=x at *
   obtain⟨x0,x1⟩:=bx
   have HT:=lH ht;clear ht
   have hel:=xeb x
   obtain⟨m,hm⟩:∃ m,(enc x).length=m:=⟨_,rfl⟩
   rw[hm] at hel
   have HM:=lH hm;clear hm
   go_wp2_with (go_at_call 142;refine(xja x _ x0 x1).mono ?_;rw[HM.out];rintro e w' ⟨rfl,rfl⟩)
   refine⟨⟨k+1,by omega,by go_num,n+m,by go_num,?_,by omega⟩,?_⟩
   ·apply lH;rw[HT.out,List.length_append,HM.out,← HN.out]
   ·simp[intOf];omega
  ·obtain rfl:k=l.length:=by omega
   have hmk:=fun W=>xlt n W (by omega)
   have hO:=xt2 w n (by omega)
   have HO:=lH hO;clear hO
   clear HN hlt hk
   go_wp2_with fail
   go_loopw [6,24] (fun v i wr=>∃ k:Nat,k≤l.length∧i=.int .i64 k∧Own wr w.heap.size v (encs (l.take k))∧Below w.heap.size w wr) (fun _ i _=>l.length - (intOf i).toNat)
   case atStart=>exact⟨0,Nat.zero_le _,rfl,by simpa[encs] using HO.out,(Below.refl _ _).alloc (Nat.le_refl _) _⟩
   case round =>
    clear HO
    obtain⟨k,hk,rfl,hown,hbw⟩:=hrel
    have hel:=xm5 (l.take k)
    rw[List.length_take] at hel
    have HO:=lH hown;clear hown
    have hsz:=hbw.size
    by_cases hlt:k<l.length
    ·obtain⟨b,off,rfl,hb,hcell⟩:=HC.out k hlt
     have hcell:=(hbw.cell (p:=⟨b,off+k,none⟩) hb).trans hcell
     have bx:=HX.out k hlt
     have ht:=xjY l k hlt
     generalize l.getD k 0=x at *
     obtain⟨x0,x1⟩:=bx
     have HT:=lH ht;clear ht
     have hq:(encs (l.take k)).length≤1000000:=by omega
     clear hel
     go_wp2_with fail
     refine(xse w.heap.size _ _ x _ HO.out hsz hq x0 x1).mono ?_
     rintro e w2 ⟨v2,rfl,ho2,hb2⟩
     rw[← HT.out] at ho2
     have hb:=hbw.trans hb2
     clear hb2 hbw HO
     go_wp2_with fail
     go_roundw
     case rel=>exact⟨k+1,by omega,by go_num,ho2,hb⟩
     case measure=>simp[intOf];omega
    ·obtain rfl:k=l.length:=by omega
     clear hel
     go_wp2_with fail
     go_ret
     refine⟨_,rfl,?_,hbw⟩
     have:=HO.out
     rwa[List.take_length] at this
def xCJ (w:World) (v v':Value):Prop:=v'.ownBlock=v.ownBlock∨∃ g,v'.ownBlock=some g∧w.heap.size≤g
theorem xlj (W:World) (B:Nat) (v:Value) (L:List Int) (x:Int) (hown:xlY W B v L) (hl:L.length≤100000) (ad:Addr) (c:Nat) (h0:W.cell? ad=some (.int .u64 x)) (hb:B≤W.heap.size) (ty:TypeId) :
  ∃ v' w',(Builtin.append_ #[160,160] ty #[v,.slice (some ad) 1 c]).run Tryz.prog W=.ok v' w'∧xlY w' B v' (L++[x])∧W.grownBy w' v.ownBlock∧xCJ W v v':=by
 obtain⟨i0,hi,hz0,hz1,hz2⟩:=xao xyl
 have hnews:∀ j u,([.int .u64 x]:List Value)[j]?=some u→W.cell? (ad.add j)=some u:=by
  intro j u hu
  match j,hu with
  | 0,hu=>simp only[List.getElem?_cons_zero,Option.some.injEq] at hu;rw[← hu,← h0];congr 1
  | j+1,hu=>simp at hu
 have hone:∀ u ∈ ([.int .u64 x]:List Value),u.oneCell'=true:=by
  intro u hu
  simp only[List.mem_cons,List.not_mem_nil,or_false] at hu
  subst hu
  rfl
 obtain⟨v',w',hr,h2,h3,h4⟩:=run_append_own (P:=Tryz.prog) W B 160 ty 44 i0 _ 1 8 Tryz.underlying160 hi hz0 hz1 hz2 rfl (by omega) v L.length (L.map (Value.int .u64)) hown ad 1 c _ rfl hnews hone (by unfold maxLen;omega) (by omega) hb
 refine⟨v',w',hr,xlY.snoc h2,h3,?_⟩
 rcases hown.2 with ⟨rfl,hn⟩|⟨g,cap,cur,rfl,hbg,hg,hnc,hcm,hcs,htake⟩
 ·obtain⟨_,_,hr2,h22,_,_⟩:=run_append_own (P:=Tryz.prog) W W.heap.size 160 ty 44 i0 _ 1 8 Tryz.underlying160 hi hz0 hz1 hz2 rfl (by omega) (.slice none 0 0) L.length (L.map (Value.int .u64)) ⟨hown.1,.inl ⟨rfl,hn⟩⟩ ad 1 c _ rfl hnews hone (by unfold maxLen;omega) (by omega) (Nat.le_refl _)
  rw[hr] at hr2
  injection hr2 with e1 e2
  subst e1 e2
  rcases h22.2 with ⟨rfl,_⟩|⟨g,cap,cur,rfl,hg,_⟩
  ·exact .inl rfl
  ·exact .inr ⟨g,rfl,hg⟩
 ·by_cases hroom:L.length+1≤cap
  ·have hr2:=run_append_room (P:=Tryz.prog) W 160 ty 44 i0 Tryz.underlying160 hi g L.length cap cur hg ad 1 c [.int .u64 x] (by rw[hz1];rfl) hnews hone hroom (by rw[hz1];simp only[List.length_cons,List.length_nil];omega)
   rw[hr] at hr2
   injection hr2 with e1 e2
   rw[e1]
   exact .inl rfl
  ·have hr2:=run_append_grow (P:=Tryz.prog) W 160 ty 44 i0 _ Tryz.underlying160 hi hz0 ⟨g,0,none⟩ L.length cap (L.map (Value.int .u64)) (by rw[hz1];exact hown.1) (World.ownsRow.cells hown rfl) ad 1 c [.int .u64 x] (by rw[hz1];rfl) hnews (by omega) (by omega) (growslice_fits (by omega) (by rw[hz2];omega))
   rw[hr] at hr2
   injection hr2 with e1 e2
   rw[e1]
   exact .inr ⟨_,rfl,Nat.le_refl _⟩
def upW (val:Nat→Int) (k:Nat):List Int:=(List.range k).map val
theorem xnO (val:Nat→Int) (k:Nat):upW val (k+1)=upW val k++[val k]:=by simp[upW,List.range_succ]
theorem xfi (val:Nat→Int) (k:Nat):(upW val k).length=k:=by simp[upW]
theorem KeepsS.grown {S:Nat→Prop} {W W':World} {row:Option Nat} (h:W.grownBy W' row) (hr:∀ r,row=some r→S r):KeepsS S S W W' :=
 ⟨h.size,fun b o hb ho=>(h.block b (xat ho) (fun e=>hb (hr b e.symm))).trans ho,fun _ h=>.inl h⟩
theorem xjW {β:Type} {J:β→World→Prop} (h:Go.Own J) (B:Nat):xaE (fun _=>False) B J:=fun s X Y row hs hg hr =>
 h s X Y row hs hg (fun r e=>by rcases hr r e with h|h;exact h.elim;exact h.2)
def xCB (val:Nat→Int) (n0:Nat) (w:World) (k:Nat) (S:Nat→Prop) (W:World):Prop :=
 (∃ v,Boxed W n0 160 v∧W.ownsRow (n0+1) 44 1 v (upW val k).length ((upW val k).map (Value.int .u64))∧∀ b,S b↔(b=n0∨v.ownBlock=some b))∧Below n0 w W
theorem xsX (val:Nat→Int) (w:World) (B:Nat) (hB:w.heap.size≤B):xbR (fun _=>False) B (xCB val w.heap.size w) :=
 xaE.and (xjW (holdsRow_own (β:=Nat × (Nat→Prop)) (w.heap.size+1) w.heap.size 160 44 1 (fun s=>(upW val s.1).length) (fun s=>(upW val s.1).map (Value.int .u64)) (fun s v=>∀ b,s.2 b↔(b=w.heap.size∨v.ownBlock=some b))) B) (xbf (Nat.le_refl _) hB (fun _ h=>h.elim))
theorem xA1 {val:Nat→Int} {n0 k:Nat} {w:World} {S:Nat→Prop} {W:World} (h:xCB val n0 w k S W):∀ b,S b→b<W.heap.size:=by
 obtain⟨⟨v,hv,ho,hS⟩,hb⟩:=h
 intro b hs
 rcases(hS b).1 hs with rfl|h
 ·exact hv.lt
 ·exact(World.ownsRow.lt ho b h).2
theorem xxr {F:Fence} {n:Nat} {P:Program} (w:World) {ops:Array Oper} {rest:List Oper} {o:Oper} {a:Act} {Q:Exit→Act→World→Prop} (hg:o.guard=none) (s x:Operand) (t:TypeId)
  (hop:o.op=Op.call { callee:=Callee.builtin Builtin.append,args:=#[s,x],argTypes:=#[t,t] }) (v:Value) (ad:Addr) (m c:Nat) (hs:a.eval s=v) (hx:a.eval x=.slice (some ad) m c) (v':Value) (w':World)
  (hrun:(Builtin.append_ #[t,t] o.type #[v,.slice (some ad) m c]).run P w=.ok v' w') (hK:wpListIn F n P ops Q rest (a.put o.dst v') w'):wpListIn F n P ops Q (o :: rest) a w:=by
 refine wpListIn_plain hg fun K hK'=>⟨?_,?_⟩
 ·simp[Oper.about,hop,resolve,Target.leads,Sem.run_pure]
 ·rw[Oper.semAt_plain F _ _ (by rw[hop];intro c hc';cases hc')]
  simp[execOp,hop,resolve,invoke,builtin,hs,hx,hrun,Result.andThen]
  exact hK' _ _ hK
attribute [local go_sem] Oper.semAt_some
set_option maxRecDepth 100000 in
theorem xlB {gf:Nat} {lb:Array Value} (val:Nat→Int) (N:Nat) (V:Nat→Prop) (w:World) (hN:N≤90000) (eg:∀ args w,(callFunc gf args).run Tryz.prog w=.ok (.enter gf args) w)
  (hseq:xfM Tryz.prog gf lb (fun k=>#[.int .u64 (val k)]) N (fun _=>False) V (fun _ _=>True) (fun _=>True) w) (hV:∀ b,V b→b<w.heap.size) :
  Calls Tryz.prog 146 #[.slice none 0 0,.func (.func gf) #[] lb] w fun x w'=>∃ v,x=.returned v∧xlY w' w.heap.size v (upW val N)∧Below w.heap.size w w':=by
 have HS:=lH hseq
 have HVV:=lH hV
 clear hseq hV
 refine(callsIn_wide (n:=3)).1 ?_
 refine callsIn_of_wp_marks Tryz.func146 rfl trivial ?_ rfl
 simp only[Tryz.ntmps146,List.size_toArray,List.length_cons,List.length_nil,Nat.reduceAdd,Nat.reduceSub,Array.replicate_succ,Array.replicate_zero,List.push_toArray,List.append_toArray,List.nil_append,List.cons_append]
 gi_wp2
 refine xdK (n:=3) (val:=fun k=>.int .u64 (val k)) (p:=7) (r:=5) rfl eg HS.out ((Below.refl _ w).alloc (Nat.le_refl _) _) (fun _ h=>h.elim) ?hV
  (xCB val w.heap.size w) (fun _ _ _=>False) ?hI (fun _ _ _ _ _ h _ _=>h) (fun k S W h=>⟨trivial,xA1 h⟩) (fun b=>b=w.heap.size) ?hS0 ?h0 (fun _ _ _ _ _ _ _ _=>trivial) ?assign ?body ?done (fun _ _ _ _ _ _ h _=>h.elim)
 case hV=>intro r hr;have:=HVV.out r hr;simp;omega
 case hI=>exact xsX val w _ (by simp)
 case hS0=>rintro b rfl;exact⟨by simp,fun h=>by have:=HVV.out _ h;omega⟩
 case h0 =>
  refine⟨⟨.slice none 0 0,Boxed.new w _ _,World.ownsRow_nil _ _ _ _,fun b=>?_⟩,(Below.refl _ w).alloc (Nat.le_refl _) _⟩
  simp[Value.ownBlock]
 case assign =>
  intro lq k W' K hK
  simp only[List.setIfInBounds_toArray,List.set_cons_zero,List.set_cons_succ] at hK ⊢
  gi_wp2
  exact hK
 case body =>
  rintro lq k S W hlq hI hk
  have HI:=lH hI
  obtain⟨⟨v,hv,ho,hSS⟩,hB⟩:=hI
  have hvc:=hv.cell
  obtain⟨v',w1,hr,h1,h2,h3⟩:=xlj (W.alloc (.cells #[.int .u64 (val k)] 44)) (w.heap.size+1) v (upW val k) (val k) (World.ownsRow.alloc ho _) (by rw[xfi];omega) ⟨W.heap.size,0,none⟩ 1 (by rw[World.cell?_alloc_mark];rfl) (by have:=hB.size;have:=hv.lt;simp;omega) 160
  have hv1:Boxed w1 w.heap.size 160 v:=(hv.alloc _).kept h2 (hv.not_row (by decide) ho)
  have hf1:=hv1.frozen
  have hv1c:=hv1.cell
  have HH:=lH (And.intro h1 (And.intro h2 (And.intro h3 (And.intro hv (And.intro ho (And.intro hSS (And.intro hB hv1)))))))
  have hsz:∃ g cap,v'=.slice (some ⟨g,0,none⟩) ((upW val k).length+1) cap:=by
   have h1':=h1
   unfold xlY at h1'
   rw[List.length_append] at h1'
   exact ownsRow_succ h1'
  obtain⟨g,cap,rfl⟩:=hsz
  clear h1 h2 h3 hv ho hSS hB hv1
  simp only[List.setIfInBounds_toArray,List.set_cons_zero,List.set_cons_succ]
  gi_wp2_with (first|(gi_at_builtin;refine xxr _ rfl _ _ _ rfl _ _ _ _ rfl rfl _ _ hr ?_)|fail)
  obtain⟨h1,h2,h3,hv,ho,hSS,hB,hv1⟩:=HH.out
  have hsz:=h2.size
  have hlv:=hv.lt
  simp only[World.size_alloc] at hsz
  have ho1:=World.ownsRow.lt h1
  refine⟨fun b=>b=w.heap.size∨(Value.slice (some ⟨g,0,none⟩) ((upW val k).length+1) cap).ownBlock=some b,⟨⟨_,hv1.set _,?_,fun b=>Iff.rfl⟩,?_⟩,?_⟩
  ·rw[xnO]
   exact World.ownsRow.kept h1 (grownBy_setCell' w1 w.heap.size _) (.inr (hv1.not_row (by decide) h1).symm)
  ·have hb1:Below w.heap.size w (W.alloc (.cells #[.int .u64 (val k)] 44)):=hB.alloc (by have:=hB.size;omega) _
   exact(hb1.grown h2 hb1.size (fun r e=>by have:=(World.ownsRow.lt ho r e).1;omega)).setCell (p:=⟨w.heap.size,0,none⟩) (Nat.le_refl _) _
  ·have hk2:=((KeepsS.alloc S W (.cells #[.int .u64 (val k)] 44)).trans (KeepsS.grown h2 (fun r e=>(hSS r).2 (.inr e)))).trans (KeepsS.setCell S w1 ⟨w.heap.size,0,none⟩ (.slice (some ⟨g,0,none⟩) ((upW val k).length+1) cap) ((hSS _).2 (.inl rfl)))
   refine⟨hk2.size,hk2.same,fun b hb=>?_⟩
   rcases hb with rfl|hb
   ·exact .inl ((hSS _).2 (.inl rfl))
   ·rcases h3 with h3|⟨g',h3,h3'⟩
    ·exact .inl ((hSS _).2 (.inr (h3.symm.trans hb)))
    ·rw[h3] at hb
     cases hb
     simp only[World.size_alloc] at h3'
     exact .inr (by omega)
 case done =>
  rintro D S W hD hSD hI _ hDW
  have HI:=lH hI
  obtain⟨⟨v,hv,ho,hSS⟩,hB⟩:=hI
  have hvc:=hv.cell
  have HH:=lH (And.intro hD (And.intro hDW (And.intro ho hB)))
  clear hv ho hSS hB
  gi_wp2
  obtain⟨h1,h2,h3,h4⟩:=HH.out
  refine⟨by simp,.inl ⟨_,_,rfl,run_takeDeferred h2,?_⟩⟩
  refine⟨_,results_tmp rfl _ _ _,v,rfl,?_,?_⟩
  ·exact xlY.mono (ownsRow_putObj h3 _ h2 rfl) (by omega)
  ·simp only[World.size_alloc] at h1
   exact(xbf (β:=Unit) (T:=fun _=>False) (Nat.le_refl _) (B:=w.heap.size) (Nat.le_refl _) (fun _ h=>h.elim)).put (s:=()) h4 _ (by omega) h2 rfl
theorem xlu (a b:List Int):encs (a++b)=encs a++encs b:=by
 induction a with
 | nil=>rfl
 | cons x a ih=>simp[encs,ih]
theorem xrU (l:List En) (c m:Nat):encs ((List.range m).map (fun j=>xdV l c j))=xho l c m:=by
 induction m with
 | zero=>rfl
 | succ m ih=>rw[List.range_succ,List.map_append,List.map_singleton,xgI,ih,xho]
theorem xzg (val:Nat→Int) (a b:Nat):upW val (a+b)=upW val a++(List.range b).map (fun j=>val (a+j)):=by
 unfold upW
 rw[List.range_add,List.map_append,List.map_map]
 rfl
theorem xgf (l:List En) (c:Nat):encs (upW (xfO l) (1+(c+1)*l.length))=encs (upW (xfO l) (1+c*l.length))++xho l c l.length:=by
 rw[show 1+(c+1)*l.length=(1+c*l.length)+l.length from by rw[Nat.succ_mul];omega,xzg,xlu,← xrU]
 congr 2
 apply List.map_congr_left
 intro j hj
 exact xmU l c j (List.mem_range.1 hj)
theorem xic (l:List En):encs (upW (xfO l) (1+4*l.length))=xau l:=by
 rw[show 4=3+1 from rfl,xgf,show 3=2+1 from rfl,xgf,show 2=1+1 from rfl,xgf,show (1:Nat)+1*l.length=1+(0+1)*l.length from rfl,xgf]
 rw[Nat.zero_mul]
 have h1:encs (upW (xfO l) (1+0))=enc l.length:=by
  show encs [xfO l 0]=_
  rw[xjs]
  simp[encs]
 rw[h1]
 simp only[xau,List.append_assoc]
theorem xi0 (l:List En) (hm:xaT l) (hl:l.length≤5000):xDi (upW (xfO l) (1+4*l.length)):=by
 intro k hk
 rw[xfi] at hk
 have e:(upW (xfO l) (1+4*l.length)).getD k 0=xfO l k:=by
  unfold upW
  rw[List.getD_eq_getElem?_getD,List.getElem?_map,List.getElem?_range hk]
  rfl
 rw[e]
 unfold xfO
 by_cases h0:k=0
 ·rw[if_pos h0];omega
 ·rw[if_neg h0]
  exact xxt (by omega) (fun j hj=>hm _ (xfP l j hj))
theorem xjK {gf:Nat} {lb:Array Value} (val:Nat→Int) (N:Nat) (V:Nat→Prop) (w:World) (hN:N≤90000) (eg:∀ args w,(callFunc gf args).run Tryz.prog w=.ok (.enter gf args) w)
  (hseq:xfM Tryz.prog gf lb (fun k=>#[.int .u64 (val k)]) N (fun _=>False) V (fun _ _=>True) (fun _=>True) w) (hV:∀ b,V b→b<w.heap.size) :
  Calls Tryz.prog 79 #[.func (.func gf) #[] lb] w fun x w'=>∃ v,x=.returned v∧xlY w' w.heap.size v (upW val N)∧Below w.heap.size w w':=by
 have HA:=lH (xlB val N V w hN eg hseq hV)
 clear hseq hV
 go_enter Tryz.func79,Tryz.ntmps79
 go_wp2_with fail
 refine HA.out.mono ?_
 rintro x w1 ⟨v,rfl,h⟩
 go_wp2_with fail
 go_ret
 exact⟨v,rfl,h⟩
set_option maxRecDepth 20000 in
theorem xki (v:Value) (l:List En) (w:World) (hv:xam w v l) (hm:xaT l) (hl:l.length≤5000):Calls Tryz.prog 31 #[v] w fun x w'=>x=.returned (.tuple #[.string (xpX l),.int .i64 (xmr l)])∧Below w.heap.size w w':=by
 have HR:=lH (xf1 v l w hv hm)
 have HV:=lH hv
 have HM:=lH hm
 obtain⟨al,cap,rfl,hcap,hmx,_⟩:=hv
 by_cases h0:xa2 l=0
 ·have HE:=lH (show xmr l=(if 65536<(xau l).length then 5 else 0) from by unfold xmr;rw[if_pos h0])
  have HT:=lH (show xpX l=if xmr l=0 then str (xau l) else ByteArray.mk #[] from rfl)
  rw[h0] at HR
  have hlen:(xau l).length≤200010:=by rw[xdq];have:=xgw l;omega
  by_cases h5:65536<(xau l).length
  ·have hd:decide (65536<((xau l).length:Int))=true:=by simp;omega
   have he:xmr l=5:=by rw[HE.out,if_pos h5]
   have ht:xpX l=ByteArray.mk #[]:=by rw[HT.out,if_neg (by rw[he];decide)]
   rw[he,ht]
   clear h5 he ht h0 hcap hmx hm
   go_enter Tryz.func31,Tryz.ntmps31
   go_wp2_with fail
   refine HR.out.mono ?_
   rintro x w1 ⟨rfl,hb⟩
   have HB:=lH hb
   clear hb
   go_wp2_with fail
   refine(xiu al l.length cap w1).mono ?_
   rintro x w2 ⟨rfl,hw2⟩
   have hb2:Below w1.heap.size w1 w2:=by rw[hw2];exact(Below.refl _ _).alloc (Nat.le_refl _) _
   have hs2:w2.heap.size=w1.heap.size+1:=by rw[hw2];simp
   have hq2:w2.cell? ⟨w1.heap.size,0,none⟩=some (.slice al l.length cap):=by rw[hw2];simp
   have HV2:=HV.out.below (HB.out.trans (hb2.mono HB.out.size))
   have HB2:=lH (HB.out.trans (hb2.mono HB.out.size))
   have HC:=lH (xjK (xfO l) (1+4*l.length) (VN l (.slice al l.length cap) w1.heap.size) w2 (by omega) (enters_of Tryz.func147 (by kernel_rfl) rfl) (xgs _ l w1.heap.size w2 HM.out HV2 hq2) (by
    rintro b (rfl|⟨hl,a,n,c,hv,rfl⟩)
    ·omega
    ·exact xgC HV2 hl hv))
   clear hw2 hb2 hs2 hq2 HV2 HB
   go_wp2_with fail
   refine HC.out.mono ?_
   rintro x w3 ⟨v3,rfl,ho,hb3⟩
   have HB3:=lH (HB2.out.trans (hb3.mono HB2.out.size))
   have HA:=lH (xmV v3 _ w3 ho.wordsAt (by rw[xfi];omega) (xi0 l HM.out hl))
   rw[xic] at HA
   clear HC HB2 ho hb3
   go_wp2_with fail
   refine HA.out.mono ?_
   rintro x w4 ⟨v4,rfl,ho,hb4⟩
   have HB4:=lH (HB3.out.trans (hb4.mono HB3.out.size))
   have hba:=ho.bytesAt
   have hrs:=xib w4 v4 (xau l) hba
   obtain⟨a4,cap4,rfl,_⟩:=hba
   clear HA HB3 ho hb4
   clear hrs
   go_wp2_with fail
   go_ret2
   exact⟨rfl,HB4.out⟩
  ·have hd:decide (65536<((xau l).length:Int))=false:=by simp;omega
   have he:xmr l=0:=by rw[HE.out,if_neg h5]
   have ht:xpX l=str (xau l):=by rw[HT.out,if_pos he]
   rw[he,ht]
   clear h5 he ht h0 hcap hmx hm
   go_enter Tryz.func31,Tryz.ntmps31
   go_wp2_with fail
   refine HR.out.mono ?_
   rintro x w1 ⟨rfl,hb⟩
   have HB:=lH hb
   clear hb
   go_wp2_with fail
   refine(xiu al l.length cap w1).mono ?_
   rintro x w2 ⟨rfl,hw2⟩
   have hb2:Below w1.heap.size w1 w2:=by rw[hw2];exact(Below.refl _ _).alloc (Nat.le_refl _) _
   have hs2:w2.heap.size=w1.heap.size+1:=by rw[hw2];simp
   have hq2:w2.cell? ⟨w1.heap.size,0,none⟩=some (.slice al l.length cap):=by rw[hw2];simp
   have HV2:=HV.out.below (HB.out.trans (hb2.mono HB.out.size))
   have HB2:=lH (HB.out.trans (hb2.mono HB.out.size))
   have HC:=lH (xjK (xfO l) (1+4*l.length) (VN l (.slice al l.length cap) w1.heap.size) w2 (by omega) (enters_of Tryz.func147 (by kernel_rfl) rfl) (xgs _ l w1.heap.size w2 HM.out HV2 hq2) (by
    rintro b (rfl|⟨hl,a,n,c,hv,rfl⟩)
    ·omega
    ·exact xgC HV2 hl hv))
   clear hw2 hb2 hs2 hq2 HV2 HB
   go_wp2_with fail
   refine HC.out.mono ?_
   rintro x w3 ⟨v3,rfl,ho,hb3⟩
   have HB3:=lH (HB2.out.trans (hb3.mono HB2.out.size))
   have HA:=lH (xmV v3 _ w3 ho.wordsAt (by rw[xfi];omega) (xi0 l HM.out hl))
   rw[xic] at HA
   clear HC HB2 ho hb3
   go_wp2_with fail
   refine HA.out.mono ?_
   rintro x w4 ⟨v4,rfl,ho,hb4⟩
   have HB4:=lH (HB3.out.trans (hb4.mono HB3.out.size))
   have hba:=ho.bytesAt
   have hrs:=xib w4 v4 (xau l) hba
   obtain⟨a4,cap4,rfl,_⟩:=hba
   clear HA HB3 ho hb4
   go_wp2_with fail
   go_ret2
   exact⟨rfl,HB4.out⟩
 ·have he:xmr l=xa2 l:=by unfold xmr;rw[if_neg h0]
  have ht:xpX l=ByteArray.mk #[]:=by unfold xpX;rw[if_neg (by rw[he];exact h0)]
  rw[he,ht]
  have hne:(xa2 l == 0)=false:=by simpa using h0
  generalize xa2 l=r at *
  clear h0 he ht hcap hmx hm
  go_enter Tryz.func31,Tryz.ntmps31
  go_wp2_with fail
  refine HR.out.mono ?_
  rintro x w1 ⟨rfl,hb⟩
  go_wp2_with fail
  go_ret2
  exact⟨rfl,hb⟩
theorem xju {P:Program} {ops:Array Oper} {Q:Exit→Act→World→Prop} {l n id:Nat} {a:Act} {w:World} (hm:P.follows .mixedOrders=true) (hops:xiL ops=true) (hQ:¬ LetsOut Q)
  (h:wpAny P .any ops Q ops.size (Array.replicate ops.size false) a w.drew):(Code.region id ops true).wpIn (Fence.wide.inRound l) n P Q a w :=
 wpIn_region_draw fun t=>by
  simp only[Region.schedule,hm,Bool.true_or,if_true]
  exact xeO hQ hops _ _ _ (wpAny_sound ops.size t _ a _ h)
def xC2 (val:Nat→Int) (n0:Nat) (w:World) (k:Nat) (S:Nat→Prop) (W:World):Prop :=
 (Boxed W n0 3 (.int .i64 ((encs (upW val k)).length:Int))∧∀ b,S b↔b=n0)∧Below w.heap.size w W
theorem xqy (val:Nat→Int) (n0:Nat) (w:World) (B:Nat) (hB:w.heap.size≤B):xbR (fun _=>False) B (xC2 val n0 w) :=
 xaE.and (xjW (β:=Nat × (Nat→Prop)) (J:=fun s W=>Boxed W n0 3 (.int .i64 ((encs (upW val s.1)).length:Int))∧∀ b,s.2 b↔b=n0) (fun s X Y row hs hg hr=>⟨hs.1.kept hg (fun e'=>by
  obtain⟨o,ho,hc⟩:=hr n0 e'.symm
  rw[show X.heap[n0]?=_ from hs.1] at ho;cases ho;cases hc),hs.2⟩) B) (xbf (Nat.le_refl _) hB (fun _ h=>h.elim))
set_option maxRecDepth 100000 in
theorem xjR (v:Value) (l:List En) (w:World) (hv:xam w v l) (hm:xaT l) (hl:l.length≤5000):Calls Tryz.prog 74 #[v] w fun x w'=>x=.returned (.int .i64 (xfR l))∧Below w.heap.size w w':=by
 have HR:=lH (xf1 v l w hv hm)
 have HV:=lH hv
 have HM:=lH hm
 obtain⟨al,cap,rfl,hcap,hmx,_⟩:=hv
 by_cases h0:xa2 l=0
 ·have HE:=lH (show xfR l=((xau l).length:Int) from by unfold xfR;rw[if_pos h0])
  have hlen:(xau l).length≤200010:=by rw[xdq];have:=xgw l;omega
  rw[h0] at HR
  clear h0 hcap hmx hm
  refine(callsIn_wide (n:=3)).1 ?_
  refine callsIn_of_wp_marks Tryz.func74 rfl trivial ?_ rfl
  simp only[Tryz.ntmps74,List.size_toArray,List.length_cons,List.length_nil,Nat.reduceAdd,Nat.reduceSub,Array.replicate_succ,Array.replicate_zero,List.push_toArray,List.append_toArray,List.nil_append,List.cons_append]
  gi_wp2
  refine⟨trivial,(callsIn_wide.2 HR.out).mono ?_⟩
  rintro x w1 ⟨rfl,hb⟩
  have HB:=lH hb
  clear hb
  gi_wp2
  refine⟨trivial,(callsIn_wide.2 (xiu al l.length cap _)).mono ?_⟩
  rintro x w2 ⟨rfl,hw2⟩
  gi_wp2
  rw[← hw2]
  have hs2:w2.heap.size=w1.heap.size+2:=by rw[hw2];simp
  have hb2:Below w1.heap.size w1 w2:=by rw[hw2];exact((Below.refl _ _).alloc (Nat.le_refl _) _).alloc (by simp) _
  have hq2:w2.cell? ⟨w1.heap.size+1,0,none⟩=some (.slice al l.length cap):=by rw[hw2];simp
  have hx2:Boxed w2 w1.heap.size 3 (.int .i64 0):=by rw[hw2];exact(Boxed.new w1 _ _).alloc _
  have HV2:=HV.out.below (HB.out.trans (hb2.mono HB.out.size))
  have hBw:=HB.out.trans (hb2.mono HB.out.size)
  have hv1:∀ {a:Addr} {n c:Nat},l≠[]→Value.slice al l.length cap=.slice (some a) n c→a.block<w.heap.size:=fun hl hv=>xgC HV.out hl hv
  have hw1:=HB.out.size
  refine xdK (n:=3) (val:=fun k=>.int .u64 (xfO l k)) (p:=10) (r:=4) rfl (enters_of Tryz.func147 (by kernel_rfl) rfl) (xgs _ l (w1.heap.size+1) w2 HM.out HV2 hq2) (Below.refl _ _) (fun _ h=>h.elim) ?hV
   (xC2 (xfO l) w1.heap.size w) (fun _ _ _=>False) ?hI (fun _ _ _ _ _ h _ _=>h) ?hG (fun b=>b=w1.heap.size) ?hS0 ?h0 (fun _ _ _ _ _ _ _ _=>trivial) ?assign ?body ?done (fun _ _ _ _ _ _ h _=>h.elim)
  case hV =>
   rintro b (rfl|⟨hl,a,n,c,hv,rfl⟩)
   ·omega
   ·exact xgC HV2 hl hv
  case hI=>exact xqy _ _ w _ hBw.size
  case hG=>exact fun k S W h=>⟨trivial,fun b hb=>by rw[(h.1.2 b).1 hb];exact h.1.1.lt⟩
  case hS0 =>
   rintro b rfl
   refine⟨by omega,?_⟩
   rintro(h|⟨hl,a,n,c,hv,h⟩)
   ·omega
   ·have:=hv1 hl hv;omega
  case h0=>exact⟨⟨hx2,fun b=>Iff.rfl⟩,hBw⟩
  case assign =>
   intro lq k W' K hK
   simp only[List.setIfInBounds_toArray,List.set_cons_zero,List.set_cons_succ] at hK ⊢
   gi_wp2
   exact hK
  case body =>
   rintro lq k S W hlq hI hk
   have hwd:=xi0 l HM.out hl k (by rw[xfi];exact hk)
   have hnx:(upW (xfO l) (1+4*l.length)).getD k 0=xfO l k:=by
    unfold upW
    rw[List.getD_eq_getElem?_getD,List.getElem?_map,List.getElem?_range hk]
    rfl
   rw[hnx] at hwd
   have hlk:=xm5 (upW (xfO l) k)
   rw[xfi] at hlk
   have HI:=lH hI
   obtain⟨⟨hv,hSS⟩,hB⟩:=hI
   have hvc:=hv.cell
   have hvf:=hv.frozen
   have HSS:=lH hSS
   have hnext:Hid ((encs (upW (xfO l) (k+1))).length=(encs (upW (xfO l) k)).length+(enc (xfO l k)).length):=lH (by rw[xnO,xgI,List.length_append])
   have hel:=(xeb (xfO l k)).2
   clear hnx hv hSS hB
   generalize xfO l k=x at *
   obtain⟨m,hm⟩:∃ m,(encs (upW (xfO l) k)).length=m:=⟨_,rfl⟩
   rw[hm] at hvc hlk
   simp only[List.setIfInBounds_toArray,List.set_cons_zero,List.set_cons_succ]
   have hdc:W.drew.cell? ⟨w1.heap.size,0,none⟩=some (.int .i64 (m:Int)):=hvc
   have hdf:W.drew.frozen? ⟨w1.heap.size,0,none⟩=false:=hvf
   have hwm:IntKind.i64.wrap ((m:Int)+((enc x).length:Int))=(m:Int)+((enc x).length:Int):=by rw[IntKind.wrap_i64] <;> omega
   have HH:=lH (And.intro hm hlk)
   clear hlk hel hvc hvf
   gi_wp2
   refine xju (by kernel_rfl) (by kernel_rfl) (by rintro⟨a,w,h⟩;exact h) ?_
   change wpAny _ _ _ _ _ _ _ W.drew
   refine wpAny_take (i:=1) (v:=?_) rfl (by kernel_rfl) (by kernel_rfl) (by kernel_rfl) (fun _ _ _ h=>h) (Or.inl ⟨by rfl,?y1⟩) ?_
   case y1=>intro w;go_simp;try with_reducible rfl
   try simp only[Act.put,zsA,zsB,zsC]
   refine wpAny_ready (rs:=[0,2]) (by kernel_rfl) (by simp) ?_
   refine AllReady.cons rfl (fun K hK=>?_) (AllReady.cons rfl (fun K hK=>?_) AllReady.nil)
   ·go_simp
    refine hK _ _ ?_
    clear hK K
    try simp only[Act.put,zsA,zsB,zsC]
    refine wpAny_ready (rs:=[2]) (by kernel_rfl) (by simp) ?_
    refine AllReady.cons rfl (fun K hK=>?_) AllReady.nil
    go_simp
    refine(xja x _ hwd.1 hwd.2).mono ?_
    rintro e w' ⟨rfl,rfl⟩
    go_wp2_with fail
    try simp only[Act.put,zsA,zsB,zsC]
    refine wpAny_take (i:=3) (v:=?_) rfl (by kernel_rfl) (by kernel_rfl) (by kernel_rfl) (fun _ _ _ h=>h) (Or.inl ⟨by rfl,?y3⟩) ?_
    case y3=>intro w;go_simp;try with_reducible rfl
    try simp only[Act.put,zsA,zsB,zsC]
    refine wpAny_ready (rs:=[4]) (by kernel_rfl) (by simp) ?_
    refine AllReady.cons rfl (fun K hK=>?_) AllReady.nil
    go_simp
    refine hK _ _ ?_
    clear hK K
    try simp only[Act.put,zsA,zsB,zsC]
    refine wpAny_done (by kernel_rfl) ?_ _
    refine⟨S,⟨⟨?_,HSS.out⟩,?_⟩,?_⟩
    ·have:=(HI.out.1.1.set (W:=W) (.int .i64 ((m:Int)+((enc x).length:Int))))
     rw[hnext.out,hm]
     push_cast
     exact this
    ·exact HI.out.2.drew.setCell (p:=⟨w1.heap.size,0,none⟩) hw1 _
    ·exact(KeepsS.below S (Below.drew (Below.refl _ _))).trans (KeepsS.setCell S W.drew ⟨w1.heap.size,0,none⟩ _ ((HSS.out _).2 rfl))
   ·go_simp
    refine(xja x _ hwd.1 hwd.2).mono ?_
    rintro e w' ⟨rfl,rfl⟩
    go_wp2_with fail
    try simp only[Act.put,zsA,zsB,zsC]
    refine wpAny_ready (rs:=[0]) (by kernel_rfl) (by simp) ?_
    refine AllReady.cons rfl (fun K hK=>?_) AllReady.nil
    go_simp
    refine hK _ _ ?_
    clear hK K
    try simp only[Act.put,zsA,zsB,zsC]
    refine wpAny_take (i:=3) (v:=?_) rfl (by kernel_rfl) (by kernel_rfl) (by kernel_rfl) (fun _ _ _ h=>h) (Or.inl ⟨by rfl,?y3⟩) ?_
    case y3=>intro w;go_simp;try with_reducible rfl
    try simp only[Act.put,zsA,zsB,zsC]
    refine wpAny_ready (rs:=[4]) (by kernel_rfl) (by simp) ?_
    refine AllReady.cons rfl (fun K hK=>?_) AllReady.nil
    go_simp
    refine hK _ _ ?_
    clear hK K
    try simp only[Act.put,zsA,zsB,zsC]
    refine wpAny_done (by kernel_rfl) ?_ _
    refine⟨S,⟨⟨?_,HSS.out⟩,?_⟩,?_⟩
    ·have:=(HI.out.1.1.set (W:=W) (.int .i64 ((m:Int)+((enc x).length:Int))))
     rw[hnext.out,hm]
     push_cast
     exact this
    ·exact HI.out.2.drew.setCell (p:=⟨w1.heap.size,0,none⟩) hw1 _
    ·exact(KeepsS.below S (Below.drew (Below.refl _ _))).trans (KeepsS.setCell S W.drew ⟨w1.heap.size,0,none⟩ _ ((HSS.out _).2 rfl))
  case done =>
   rintro D S W hD hSD hI _ hDW
   obtain⟨⟨hv,_⟩,hB⟩:=hI
   have hvc:=hv.cell
   have HH:=lH (And.intro hD (And.intro hDW hB))
   clear hv hB hDW
   rw[xic] at hvc
   gi_wp2
   obtain⟨h1,h2,h3⟩:=HH.out
   refine⟨by simp,.inl ⟨_,_,rfl,run_takeDeferred h2,?_⟩⟩
   refine⟨_,results_tmp rfl _ _ _,by rw[HE.out];rfl,?_⟩
   exact(xbf (β:=Unit) (T:=fun _=>False) (Nat.le_refl _) (B:=w.heap.size) (Nat.le_refl _) (fun _ h=>h.elim)).put (s:=()) h3 _ (by omega) h2 rfl
 ·have he:xfR l=0:=by unfold xfR;rw[if_neg h0]
  rw[he]
  have hne:(xa2 l == 0)=false:=by simpa using h0
  generalize xa2 l=r at *
  clear h0 he hcap hmx hm
  go_enter Tryz.func74,Tryz.ntmps74
  go_wp2_with fail
  refine HR.out.mono ?_
  rintro x w1 ⟨rfl,hb⟩
  go_wp2_with fail
  go_ret
  exact⟨rfl,hb⟩
end Go.Proofs.YtjkgkmmkehnggaaGreatDoor
namespace Go.Proofs.YtjkgkmmkehnggaaGreatDoor
set_option linter.unusedVariables false
set_option linter.unusedSimpArgs false
open Go.RowKit
set_option maxRecDepth 20000
theorem xak {w:World} {v:Value} {l:List En} (h:xam w v l):∃ a cap,v=.slice a l.length cap:=by
 obtain⟨a,cap,e,_⟩:=h
 exact⟨a,cap,e⟩
theorem xwt (e:En) (w:World):Calls Tryz.prog 141 #[.agg (eC e)] w fun x w'=>x=.returned (.bool (decide (e.rn=0)))∧Below w.heap.size w w':=by
 obtain⟨i,o,l,r⟩:=e
 unfold eC
 dsimp only
 have hd:(r == 0)=decide (r=0):=by rw[Bool.eq_iff_iff];simp
 go_enter Tryz.func141,Tryz.ntmps141
 go_wp2_with fail
 go_ret
 exact⟨xkY (by first|exact hd|rfl|simp),by go_grown⟩
def xC5 (l:List En) (w:World) (x:Ending) (w':World):Prop:=∃ r:Int,x=.returned (.int .i64 r)∧decide (0≤r)=decide (xal l≠[])∧Below w.heap.size w w'
theorem xgX {l:List En} (i:Nat) (e:En) (h:l[i]?=some e):xal (l.take (i+1))=xal (l.take i)++xal [e]:=by
 unfold xal
 rw[List.take_add_one,h,List.filter_append]
 rfl
theorem xgZ {l:List En} (i:Nat) (e:En) (h:l[i]?=some e) (hr:e.rn=0):xal l≠[]:=by
 intro h0
 unfold xal at h0
 rw[List.filter_eq_nil_iff] at h0
 exact h0 e (List.mem_of_getElem? h) (by simpa using hr)
theorem xun (v:Value) (l:List En) (w:World) (hv:xam w v l) (hl:l.length≤100000):Calls Tryz.prog 184 #[v,.func (.func 141) #[] #[]] w (xC5 l w):=by
 obtain⟨a,cap,rfl,h1,h2,hc⟩:=hv
 have HC:=lH hc
 clear hc
 go_enter Tryz.func184,Tryz.ntmps184
 go_wp2_with fail
 go_loopw [8] (fun s wr=>∃ i:Nat,i≤l.length∧s=.int .i64 i∧Hid (xal (l.take i)=[])∧Below w.heap.size w wr) (fun s _=>l.length - (intOf s).toNat)
 case atStart=>exact⟨0,Nat.zero_le _,rfl,lH rfl,Below.refl _ _⟩
 case round =>
  obtain⟨i,hi,rfl,HM,hbw⟩:=hrel
  by_cases hlt:i<l.length
  ·obtain⟨t,ht⟩:∃ t,l[i]?=some t:=⟨_,List.getElem?_eq_getElem hlt⟩
   obtain⟨g,off,rfl,hg,hcs⟩:=HC.out i t ht
   obtain⟨l0,l1,l2,l3⟩:=xfI hbw hcs
   have hi2:(i:Int)<(l.length:Int):=by omega
   have HT:=lH ht
   have HE:=lH (xwt t wr)
   have HTK:=lH (xgX i t ht)
   have HSM:=lH (xgZ i t ht)
   clear ht hcs
   obtain⟨p1,p2,p3,p4⟩:=t
   unfold eC at HE
   dsimp only at l0 l1 l2 l3 HE HTK HSM
   by_cases hp:p4=0
   ·have HP:=lH (HSM.out hp)
    rw[decide_eq_true hp] at HE
    clear hp
    go_wp2_with fail
    refine HE.out.mono ?_
    rintro e w1 ⟨rfl,hb⟩
    have hbw1:=hbw.trans (hb.mono hbw.size)
    clear hb hbw l0 l1 l2 l3 HE
    go_wp2_with fail
    go_ret
    exact⟨i,rfl,by rw[decide_eq_true HP.out,decide_eq_true (by omega)],hbw1⟩
   ·have HP:Hid (xal (l.take (i+1))=[]):=lH (by rw[HTK.out,HM.out];unfold xal;simp[hp])
    rw[decide_eq_false hp] at HE
    clear hp
    go_wp2_with fail
    refine HE.out.mono ?_
    rintro e w1 ⟨rfl,hb⟩
    have hbw1:=hbw.trans (hb.mono hbw.size)
    clear hb hbw l0 l1 l2 l3 HE
    go_wp2_with fail
    go_roundw
    case rel=>exact⟨i+1,by omega,by go_num,HP,hbw1⟩
    case measure=>simp[intOf];omega
  ·obtain rfl:i=l.length:=by omega
   rw[List.take_length] at HM
   go_wp2_with fail
   go_ret
   exact⟨-1,rfl,by rw[HM.out];decide,hbw⟩
theorem xsA (v:Value) (l:List En) (w:World) (hv:xam w v l) (hl:l.length≤100000):Calls Tryz.prog 110 #[v,.func (.func 141) #[] #[]] w fun x w'=>x=.returned (.bool (decide (xal l≠[])))∧Below w.heap.size w w':=by
 have HI:=lH (xun v l w hv hl)
 obtain⟨av,cv,rfl⟩:=xak hv
 clear hv
 go_enter Tryz.func110,Tryz.ntmps110
 go_wp2_with fail
 refine HI.out.mono ?_
 rintro x w1 ⟨r,rfl,hr,hb⟩
 have HR:=lH hr
 clear hr
 go_wp2_with fail
 go_ret
 exact⟨xkY HR.out,hb⟩
def xtE (l:List En) (b:Int):Int:=if b<1∨16257<b then 2 else if xa2 l≠0 then xa2 l else if xal l≠[] then 14 else 0
theorem xpx (v:Value) (l:List En) (b:Int) (w:World) (hv:xam w v l) (hm:xaT l) (hl:l.length≤100000) (hb:-9223372036854775808≤b∧b≤9223372036854775807) :
  Calls Tryz.prog 73 #[v,.int .i64 b] w fun x w'=>x=.returned (.int .i64 (xtE l b))∧Below w.heap.size w w':=by
 unfold xtE
 have HR:=lH (xf1 v l w hv hm)
 have HL:=lH (fun X (hX:Below w.heap.size w X)=>xsA v l X (hv.below hX) hl)
 obtain⟨av,cv,rfl⟩:=xak hv
 clear hv
 by_cases h1:b<1
 ·rw[if_pos (Or.inl h1)]
  have d1:decide (b<1)=true:=decide_eq_true h1
  clear h1 HR HL
  go_enter Tryz.func73,Tryz.ntmps73
  go_wp2_with fail
  go_ret
  exact⟨rfl,Below.refl _ _⟩
 by_cases h2:16257<b
 ·rw[if_pos (Or.inr h2)]
  have d1:decide (b<1)=false:=decide_eq_false h1
  have d2:decide (16257<b)=true:=decide_eq_true h2
  clear HR HL
  go_enter Tryz.func73,Tryz.ntmps73
  go_wp2_with fail
  go_ret
  exact⟨rfl,Below.refl _ _⟩
 rw[if_neg (by omega)]
 have d1:decide (b<1)=false:=decide_eq_false h1
 have d2:decide (16257<b)=false:=decide_eq_false h2
 by_cases h3:xa2 l=0
 ·rw[if_neg (by simpa using h3)]
  rw[h3] at HR
  clear h3
  by_cases h4:xal l≠[]
  ·rw[if_pos h4]
   rw[decide_eq_true h4] at HL
   clear h4
   go_enter Tryz.func73,Tryz.ntmps73
   go_wp2_with fail
   refine HR.out.mono ?_
   rintro x w1 ⟨rfl,hb1⟩
   have HB1:=lH hb1
   clear hb1
   go_wp2_with fail
   refine(HL.out _ HB1.out).mono ?_
   rintro x w2 ⟨rfl,hb2⟩
   have HB2:=lH (HB1.out.trans (hb2.mono HB1.out.size))
   clear hb2
   go_wp2_with fail
   go_ret
   exact⟨rfl,HB2.out⟩
  ·rw[if_neg h4]
   rw[decide_eq_false h4] at HL
   clear h4
   go_enter Tryz.func73,Tryz.ntmps73
   go_wp2_with fail
   refine HR.out.mono ?_
   rintro x w1 ⟨rfl,hb1⟩
   have HB1:=lH hb1
   clear hb1
   go_wp2_with fail
   refine(HL.out _ HB1.out).mono ?_
   rintro x w2 ⟨rfl,hb2⟩
   have HB2:=lH (HB1.out.trans (hb2.mono HB1.out.size))
   clear hb2
   go_wp2_with fail
   go_ret
   exact⟨rfl,HB2.out⟩
 ·rw[if_pos h3]
  have hq:(xa2 l != 0)=true:=by simpa using h3
  generalize xa2 l=q at *
  clear h3
  go_enter Tryz.func73,Tryz.ntmps73
  go_wp2_with fail
  refine HR.out.mono ?_
  rintro x w1 ⟨rfl,hb1⟩
  have HB1:=lH hb1
  clear hb1
  go_wp2_with fail
  go_ret
  exact⟨rfl,HB1.out⟩
end Go.Proofs.YtjkgkmmkehnggaaGreatDoor
namespace Go.Proofs.YtjkgkmmkehnggaaGreatDoor
set_option linter.unusedVariables false
set_option linter.unusedSimpArgs false
set_option maxRecDepth 20000
def xqT (n:Nat):Nat→List En→List (List En)
 | 0,_=>[]
 | f+1,l=>if l=[] then [] else l.take n :: xqT n f (l.drop n)
def xbT (n:Nat) (l:List En):List (List En):=xqT n l.length l
theorem xy1 (n:Nat) (hn:1≤n) (d:Nat):∀ (g:Nat) (m:List En),m.length≤g→xqT n (g+d) m=xqT n g m:=by
 intro g
 induction g with
 | zero=>intro m hm;rw[List.eq_nil_of_length_eq_zero (Nat.le_zero.1 hm)];cases d <;> simp[xqT]
 | succ g ihg =>
  intro m hm
  cases m with
  | nil=>rw[show g+1+d=(g+d)+1 by omega];simp[xqT]
  | cons x m =>
   rw[show g+1+d=(g+d)+1 by omega,xqT,xqT,if_neg (by simp),if_neg (by simp),ihg]
   rw[List.length_cons] at hm
   rw[List.length_drop,List.length_cons]
   omega
theorem xr9 (n:Nat) (hn:1≤n) (f:Nat) (l:List En) (h:l.length≤f):xqT n f l=xqT n l.length l:=by
 have:=xy1 n hn (f - l.length) l.length l (Nat.le_refl _)
 rwa[show l.length+(f - l.length)=f by omega] at this
theorem xeQ (n:Nat):xbT n []=[]:=rfl
theorem xbW (n:Nat) (hn:1≤n) (l:List En) (h:l≠[]):xbT n l=l.take n :: xbT n (l.drop n):=by
 unfold xbT
 cases l with
 | nil=>exact absurd rfl h
 | cons e l =>
  rw[List.length_cons,xqT,if_neg h,xr9 n hn l.length ((e :: l).drop n) (by rw[List.length_drop,List.length_cons];omega)]
theorem xjk (n:Nat) (hn:1≤n) (l:List En) (h:l≠[]) (hl:l.length≤n):xbT n l=[l]:=by
 rw[xbW n hn l h,List.take_of_length_le hl,List.drop_of_length_le hl,xeQ]
theorem xmv {M:List En→Prop} (n:Nat) (hn:1≤n) (h0:M []) (hs:∀ l,l≠[]→M (l.drop n)→M l) (l:List En):M l:=by
 have key:∀ (k:Nat) (l:List En),l.length≤k→M l:=by
  intro k
  induction k with
  | zero=>intro l hl;rw[List.eq_nil_of_length_eq_zero (Nat.le_zero.1 hl)];exact h0
  | succ k ih =>
   intro l hl
   by_cases h:l=[]
   ·rw[h];exact h0
   ·have:0<l.length:=List.length_pos_iff.2 h
    exact hs l h (ih _ (by rw[List.length_drop];omega))
 exact key l.length l (Nat.le_refl _)
theorem xcx (n:Nat) (hn:1≤n) (l:List En):(xbT n l).flatten=l:=by
 refine xmv (M:=fun l=>(xbT n l).flatten=l) n hn rfl (fun l h ih=>?_) l
 rw[xbW n hn l h,List.flatten_cons,ih,List.take_append_drop]
theorem xjc (n:Nat) (hn:1≤n) (l:List En):∀ p ∈ xbT n l,p≠[]∧p.length≤n:=by
 refine xmv (M:=fun l=>∀ p ∈ xbT n l,p≠[]∧p.length≤n) n hn (by simp[xeQ]) (fun l h ih=>?_) l
 rw[xbW n hn l h]
 intro p hp
 rcases List.mem_cons.1 hp with rfl|hp
 ·refine⟨fun e=>h ?_,by rw[List.length_take];omega⟩
  have:=congrArg List.length e
  rw[List.length_take,List.length_nil] at this
  have:=List.length_pos_iff.2 h
  omega
 ·exact ih p hp
theorem xgk (n:Nat) (hn:1≤n) (l:List En):(xbT n l).length≤l.length:=by
 refine xmv (M:=fun l=>(xbT n l).length≤l.length) n hn (by simp[xeQ]) (fun l h ih=>?_) l
 rw[xbW n hn l h,List.length_cons]
 have:=List.length_pos_iff.2 h
 rw[List.length_drop] at ih
 omega
def xaI (ps:List (List En)):List Int:=ps.flatMap xau
def xaC:Nat→List (List En)→List En
 | _,[]=>[]
 | o,p :: ps=>⟨(gS p 0).id,o,(xau p).length,0⟩ :: xaC (o+(xau p).length) ps
theorem xbN (p:List En) (ps:List (List En)):xaI (p :: ps)=xau p++xaI ps:=rfl
theorem xeB (a b:List (List En)):xaI (a++b)=xaI a++xaI b:=by simp[xaI]
theorem xct (p:List En):1≤(xau p).length∧(xau p).length≤10+40*p.length:=by rw[xdq];exact xgw p
theorem xgG (ps:List (List En)):(xaI ps).length≤10*ps.length+40*ps.flatten.length:=by
 induction ps with
 | nil=>simp[xaI]
 | cons p ps ih =>
  have:=(xct p).2
  rw[xbN,List.length_append,List.flatten_cons,List.length_append,List.length_cons]
  omega
theorem xcd:∀ (o:Nat) (ps:List (List En)),(xaC o ps).length=ps.length
 | _,[]=>rfl
 | o,p :: ps=>by rw[xaC,List.length_cons,List.length_cons,xcd]
theorem xem:∀ (o:Nat) (a b:List (List En)),xaC o (a++b)=xaC o a++xaC (o+(xaI a).length) b
 | o,[],b=>by simp[xaC,xaI]
 | o,p :: a,b=>by rw[List.cons_append,xaC,xaC,xem,xbN,List.length_append,List.cons_append,Nat.add_assoc]
theorem xhv:∀ (o:Nat) (ps:List (List En)) (e:En),e ∈ xaC o ps→e.rn=0∧∃ p ∈ ps,e.id=(gS p 0).id∧e.ln=(xau p).length∧0≤e.off∧e.off+e.ln≤o+(xaI ps).length
 | o,p :: ps,e,h=>by
  rw[xaC] at h
  rcases List.mem_cons.1 h with rfl|h
  ·refine⟨rfl,p,by simp,rfl,rfl,by simp,?_⟩
   rw[xbN,List.length_append]
   simp only
   omega
  ·obtain⟨h1,q,hq,h2,h3,h4,h5⟩:=xhv _ ps e h
   refine⟨h1,q,by simp[hq],h2,h3,h4,?_⟩
   rw[xbN,List.length_append]
   omega
theorem xjN {o:Nat} {ps:List (List En)} (hm:∀ e ∈ ps.flatten,xa1 e) (hp:∀ p ∈ ps,p≠[]) (hb:∀ p ∈ ps,(xau p).length≤4294967295) (ht:o+(xaI ps).length≤1099511627776):∀ e ∈ xaC o ps,xa1 e:=by
 intro e he
 obtain⟨h1,p,hq,h2,h3,h4,h5⟩:=xhv o ps e he
 have hlen:0<p.length:=List.length_pos_iff.2 (hp p hq)
 have h6:=hm (gS p 0) (List.mem_flatten.2 ⟨p,hq,xcO p 0 hlen⟩)
 have h7:=hb p hq
 unfold xa1 at h6 ⊢
 rw[h1,h2,h3] at *
 omega
theorem xsZ:∀ (l:List En) (p:Int),(∀ e ∈ l,xa1 e)→xcX p l=0→p≤l.foldl (fun _ e=>laN e) p
 | [],p,_,_=>Int.le_refl _
 | e :: l,p,hm,h=>by
  obtain⟨c1,c2,c3⟩:=xbZ p e l h
  have h1:=xn5 e (hm e (by simp)) c1
  have h2:=xsZ l (laN e) (fun x hx=>hm x (by simp[hx])) c3
  rw[List.foldl_cons]
  omega
theorem xjP:∀ (ps:List (List En)) (o:Nat) (p:Int),(∀ e ∈ ps.flatten,xa1 e)→(∀ q ∈ ps,q≠[])→o+(xaI ps).length≤1099511627776→xcX p ps.flatten=0→xcX p (xaC o ps)=0
 | [],_,_,_,_,_,_=>rfl
 | q :: ps,o,p,hm,hp,ht,h=>by
  cases q with
  | nil=>exact absurd rfl (hp [] (by simp))
  | cons e q =>
   rw[List.flatten_cons,List.cons_append] at h hm
   obtain⟨c1,c2,c3⟩:=xbZ p e _ h
   have hme:=hm e (by simp)
   have hck:=xhl e c1
   have hwd:=xhL e hme.2.2.2.1
   have hla:=xn5 e hme c1
   have hln:=(xct (e :: q)).1
   rw[xbN,List.length_append] at ht
   have hid:(gS (e :: q) 0).id=e.id:=rfl
   have hr:ckN ⟨(gS (e :: q) 0).id,o,(xau (e :: q)).length,0⟩=0:=by
    unfold ckN cnN wdN
    simp only[hid]
    rw[if_neg (by omega),if_neg (by simp;omega),if_neg (by omega)]
   have hl:laN ⟨(gS (e :: q) 0).id,o,(xau (e :: q)).length,0⟩=e.id:=by
    unfold laN
    rw[if_pos hr]
    unfold wdN
    simp only[hid]
    simp
   rw[xaC,xcX,if_neg (by rw[hr];simp),if_neg (by simp only[hid];omega),hl]
   have c4:=xeu (laN e) q ps.flatten c3
   have c5:=xbO (laN e) q ps.flatten c4
   rw[c3] at c5
   have c6:=xsZ q (laN e) (fun x hx=>hm x (by simp[hx])) c4
   exact xjP ps _ e.id (fun x hx=>hm x (by simp[hx])) (fun x hx=>hp x (by simp[hx])) (by omega) (xjQ _ _ _ c5.symm (by omega))
theorem xhU {l:List En} (n:Nat) (hn:1≤n) (hm:∀ e ∈ l,xa1 e) (h:xa2 l=0) (hl:l.length≤5000):xa2 (xaC 0 (xbT n l))=0:=by
 obtain⟨h1,h2⟩:=xtt h
 have hf:=xcx n hn l
 have hc:=xgk n hn l
 have ht:=xgG (xbT n l)
 rw[hf] at ht
 unfold xa2
 rw[if_neg (by rw[xcd];omega)]
 exact xjP (xbT n l) 0 (-1) (by rw[hf];exact hm) (fun q hq=>(xjc n hn l q hq).1) (by omega) (by rw[hf];exact h1)
end Go.Proofs.YtjkgkmmkehnggaaGreatDoor
namespace Go.Proofs.YtjkgkmmkehnggaaGreatDoor
set_option linter.unusedVariables false
set_option linter.unusedSimpArgs false
open Go.RowKit
set_option maxRecDepth 20000
theorem xam.takeS {w:World} {l:List En} {g off cap:Nat} (h:xam w (.slice (some ⟨g,off,none⟩) l.length cap) l) (i:Nat) (hi:i≤l.length):xam w (.slice (some ⟨g,off,none⟩) i cap) (l.take i):=by
 obtain⟨a',c',e',h1,h2,hc⟩:=h
 cases e'
 refine⟨_,cap,by rw[List.length_take,Nat.min_eq_left hi],by rw[List.length_take];omega,h2,fun k t ht=>?_⟩
 refine hc k t ?_
 rw[List.getElem?_take] at ht
 split at ht
 ·exact ht
 ·cases ht
theorem xam.dropS {w:World} {l:List En} {g off cap:Nat} (h:xam w (.slice (some ⟨g,off,none⟩) l.length cap) l) (i:Nat) (hi:i≤l.length):xam w (.slice (some ⟨g,off+i*4,none⟩) (l.length - i) (cap - i)) (l.drop i):=by
 obtain⟨a',c',e',h1,h2,hc⟩:=h
 cases e'
 refine⟨_,cap - i,by rw[List.length_drop],by rw[List.length_drop];omega,by omega,fun k t ht=>?_⟩
 rw[List.getElem?_drop] at ht
 obtain⟨g',o',e,hg,c0,c1,c2,c3⟩:=hc (i+k) t ht
 cases e
 refine⟨g,off+i*4,rfl,hg,?_,?_,?_,?_⟩
 ·rw[show off+i*4+k*4=off+(i+k)*4 by omega];exact c0
 ·rw[show off+i*4+k*4+1=off+(i+k)*4+1 by omega];exact c1
 ·rw[show off+i*4+k*4+2=off+(i+k)*4+2 by omega];exact c2
 ·rw[show off+i*4+k*4+3=off+(i+k)*4+3 by omega];exact c3
def Pcs (w:World) (vs:List Value) (ps:List (List En)):Prop:=vs.length=ps.length∧∀ (k:Nat) (x:Value) (p:List En),vs[k]?=some x→ps[k]?=some p→xam w x p
theorem xsL (w:World):Pcs w [] []:=⟨rfl,fun k x p h=>by simp at h⟩
theorem Pcs.snoc {w:World} {vs:List Value} {ps:List (List En)} (h:Pcs w vs ps) {x:Value} {p:List En} (hx:xam w x p):Pcs w (vs++[x]) (ps++[p]):=by
 refine⟨by rw[List.length_append,List.length_append,h.1];rfl,fun k y q hy hq=>?_⟩
 rcases Nat.lt_or_ge k vs.length with hlt|hge
 ·rw[List.getElem?_append_left hlt] at hy
  rw[List.getElem?_append_left (by have:=h.1;omega)] at hq
  exact h.2 k y q hy hq
 ·rw[List.getElem?_append_right hge] at hy
  rw[List.getElem?_append_right (by have:=h.1;omega),← h.1] at hq
  have h0:k - vs.length=0:=by
   have:=(List.getElem?_eq_some_iff.1 hy).1
   simp at this
   omega
  rw[h0] at hy hq
  simp at hy hq
  rw[← hy,← hq]
  exact hx
def xqF (w:World) (v:Value) (ps:List (List En)):Prop:=∃ vs,xsN w v vs∧Pcs w vs ps
theorem xqF.at {w:World} {v:Value} {ps:List (List En)} (h:xqF w v ps) (k:Nat) (p:List En) (hp:ps[k]?=some p):∃ g off cap x,v=.slice (some ⟨g,off,none⟩) ps.length cap∧g<w.heap.size∧w.cell? ⟨g,off+k,none⟩=some x∧xam w x p:=by
 obtain⟨vs,⟨a,cap,rfl,h1,h2,hc⟩,hl,he⟩:=h
 have hk:=(List.getElem?_eq_some_iff.1 hp).1
 obtain⟨x,hx⟩:∃ x,vs[k]?=some x:=⟨_,List.getElem?_eq_getElem (by omega)⟩
 obtain⟨g,off,rfl,hg,c0⟩:=hc k x hx
 exact⟨g,off,cap,x,by rw[hl],hg,c0,he k x p hx hp⟩
theorem xqF.form {w:World} {v:Value} {ps:List (List En)} (h:xqF w v ps):∃ a cap,v=.slice a ps.length cap∧ps.length≤cap∧cap≤maxLen:=by
 obtain⟨vs,⟨a,cap,rfl,h1,h2,hc⟩,hl,he⟩:=h
 exact⟨a,cap,by rw[hl],by omega,h2⟩
theorem xjt (W:World) (B:Nat) (TS E ty:TypeId) (z:Value) (ht:Tryz.prog.underlying TS=some (.slice E)) (hI:(Tryz.prog.info? E).map (fun i=>(i.zero,i.size,i.bytes))=some (some z,4,24)) (hzs:z.cells.size=4)
  (v x:Value) (L m:List En) (hown:xa5 W B E v L) (hx:xam W x m) (hl:L.length+m.length≤40000000) (hb:B≤W.heap.size) :
  ∃ v' w',(Builtin.append_ #[TS,TS] ty #[v,x]).run Tryz.prog W=.ok v' w'∧xa5 w' B E v' (L++m)∧W.grownBy w' v.ownBlock:=by
 obtain⟨a,cap,rfl,h1,h2,hc⟩:=hx
 have fin:∀ {w':World} {v':Value},w'.ownsRow B E 4 v' (L.length+m.length) (xaw L++xaw m)→xa5 w' B E v' (L++m):=by
  intro w' v' h
  unfold xa5
  rw[xbX,List.length_append]
  exact h
 cases a with
 | none =>
  have hl0:m=[]:=by
   cases m with
   | nil=>rfl
   | cons t l=>obtain⟨g,off,ha,_⟩:=hc 0 t rfl;cases ha
  subst hl0
  refine⟨v,W,?_,by rw[List.append_nil];exact hown,World.grownBy.refl _ _⟩
  obtain⟨i0,hi,hz0,hz1,hz2⟩:=xao hI
  rcases hown.2 with ⟨rfl,hn⟩|⟨g,cap2,cur,rfl,hbg,hg,hnc,hcm,hcs,htake⟩
  ·simp[Builtin.append_,run_underlying ht,sizeOf,typeInfo,hi,Builtin.lenOf,Builtin.firstCells,loadCells,loadCellsFrom]
  ·simp[Builtin.append_,run_underlying ht,sizeOf,typeInfo,hi,Builtin.lenOf,Builtin.firstCells,loadCells,loadCellsFrom,hnc,storeCells]
 | some ad =>
  have hnews:∀ j u,(xaw m)[j]?=some u→W.cell? (ad.add j)=some u:=by
   intro j u hu
   have hj:j<m.length*4:=by rw[← xbt];exact(List.getElem?_eq_some_iff.1 hu).1
   obtain⟨t,ht⟩:∃ t,m[j / 4]?=some t:=⟨_,List.getElem?_eq_getElem (by omega)⟩
   obtain⟨g,off,ha,_,c0,c1,c2,c3⟩:=hc (j / 4) t ht
   obtain⟨f0,f1,f2,f3⟩:=xeY m (j / 4) t ht
   injection ha with ha
   subst ha
   have hadd:(⟨g,off,none⟩:Addr).add j=⟨g,off+j,none⟩:=by simp[Addr.add]
   rw[hadd]
   rcases(by omega:j=j / 4*4∨j=j / 4*4+1∨j=j / 4*4+2∨j=j / 4*4+3) with e|e|e|e
   ·rw[e,f0] at hu;rw[← hu];rw[show off+j=off+j / 4*4 from by omega];exact c0
   ·rw[e,f1] at hu;rw[← hu];rw[show off+j=off+j / 4*4+1 from by omega];exact c1
   ·rw[e,f2] at hu;rw[← hu];rw[show off+j=off+j / 4*4+2 from by omega];exact c2
   ·rw[e,f3] at hu;rw[← hu];rw[show off+j=off+j / 4*4+3 from by omega];exact c3
  obtain⟨i0,hi,hz0,hz1,hz2⟩:=xao hI
  obtain⟨v',w',hr,h2,h3,h4⟩:=run_append_own (P:=Tryz.prog) W B TS ty E i0 _ 4 24 ht hi hz0 hz1 hz2 hzs (by omega) v L.length (xaw L) hown ad m.length cap (xaw m) (xbt m) hnews (xc3 m) (by unfold maxLen;omega) (by omega) hb
  exact⟨v',w',hr,fin h2,h3⟩
def xyP (n:Int) (l:List En):List (List En):=if n<1 then [] else xbT n.toNat l
end Go.Proofs.YtjkgkmmkehnggaaGreatDoor
