/- bMI bMR bMJ bMT bUc bUd bNb bQd. -/
import Derived.Test.YtjinnigjfopbcaaGreatDoorJb3
import Derived.Test.YtjinnigjfopbcaaGreatDoorJb2
import Derived.Test.YtjinnigjfopbcaaGreatDoorJs
set_option maxHeartbeats 16000000
namespace Go.Proofs.YtjinnigjfopbcaaGreatDoor
set_option linter.unusedVariables false
set_option linter.unusedSimpArgs false
open Go.RowKit
set_option maxRecDepth 20000
theorem xf4:∀ (l:List En) (k:Nat) (e:En) (x:Int),l[k]?=some e→(xaB l).set (k*4) (.int .u64 x)=xaB (l.set k { e with id:=x })
 | [],k,e,x,h=>by simp at h
 | a :: l,0,e,x,h=>by
  obtain rfl:a=e:=by simpa using h
  rfl
 | a :: l,k+1,e,x,h=>by
  have ih:=xf4 l k e x (by simpa using h)
  show (cE a++xaB l).set _ _=cE a++xaB (l.set k { e with id:=x })
  rw[← ih,show (k+1)*4=(k*4)+1+1+1+1 from by omega]
  rfl
theorem xgo:∀ (l:List En) (k:Nat) (e:En) (x:Int),l[k]?=some e→(xaB l).set (k*4+1) (.int .u64 x)=xaB (l.set k { e with off:=x })
 | [],k,e,x,h=>by simp at h
 | a :: l,0,e,x,h=>by
  obtain rfl:a=e:=by simpa using h
  rfl
 | a :: l,k+1,e,x,h=>by
  have ih:=xgo l k e x (by simpa using h)
  show (cE a++xaB l).set _ _=cE a++xaB (l.set k { e with off:=x })
  rw[← ih,show (k+1)*4+1=(k*4+1)+1+1+1+1 from by omega]
  rfl
theorem xgf:∀ (l:List En) (k:Nat) (e:En) (x:Int),l[k]?=some e→(xaB l).set (k*4+2) (.int .u32 x)=xaB (l.set k { e with ln:=x })
 | [],k,e,x,h=>by simp at h
 | a :: l,0,e,x,h=>by
  obtain rfl:a=e:=by simpa using h
  rfl
 | a :: l,k+1,e,x,h=>by
  have ih:=xgf l k e x (by simpa using h)
  show (cE a++xaB l).set _ _=cE a++xaB (l.set k { e with ln:=x })
  rw[← ih,show (k+1)*4+2=(k*4+2)+1+1+1+1 from by omega]
  rfl
theorem xgk:∀ (l:List En) (k:Nat) (e:En) (x:Int),l[k]?=some e→(xaB l).set (k*4+3) (.int .u32 x)=xaB (l.set k { e with rn:=x })
 | [],k,e,x,h=>by simp at h
 | a :: l,0,e,x,h=>by
  obtain rfl:a=e:=by simpa using h
  rfl
 | a :: l,k+1,e,x,h=>by
  have ih:=xgk l k e x (by simpa using h)
  show (cE a++xaB l).set _ _=cE a++xaB (l.set k { e with rn:=x })
  rw[← ih,show (k+1)*4+3=(k*4+3)+1+1+1+1 from by omega]
  rfl
theorem xhC (x:Int):IntKind.u32.wrap x=x % 4294967296:=by simp[IntKind.wrap,IntKind.signed,IntKind.bits]
theorem xjl (t:ByteArray) (a:Nat):rst t (a:Int)=t.data.toList.drop a:=by unfold rst;rw[Int.toNat_natCast]
theorem xu8 (t:ByteArray) (a:Nat) (ha:a≤t.size) (hr:xbo (t.data.toList.drop a)=0):a+(xaG 10 (t.data.toList.drop a)+1)≤t.size:=by
 have h:=(xcM _ hr).2.1
 rw[List.length_drop] at h
 have:t.data.toList.length=t.size:=by simp
 omega
theorem xec {n:Nat} {l:List En} (hl:l.length=n):xay l↔∀ j,j<n→xaO (gE l j):=by
 constructor
 ·exact fun h j hj=>h _ (xev l j (by omega))
 ·intro h e he
  obtain⟨j,hj,rfl⟩:=List.getElem_of_mem he
  have:=h j (by omega)
  unfold gE at this
  rwa[List.getD_eq_getElem?_getD,List.getElem?_eq_getElem hj] at this
def xe6 (wx:World) (h:Nat) (t:ByteArray) (p q:Int):Prop :=
 wx.cell? ⟨h,0,none⟩=some (.string t)∧wx.cell? ⟨h,1,none⟩=some (.int .i64 p)∧wx.cell? ⟨h,2,none⟩=some (.int .i64 q)∧∀ o,wx.frozen? ⟨h,o,none⟩=false
theorem xbX {w w':World} {h o:Nat} (hb:Below w.heap.size w w') (hl:h<w.heap.size):w'.frozen? ⟨h,o,none⟩=w.frozen? ⟨h,o,none⟩:=by simp[World.frozen?,hb.block h hl]
theorem xe6.later {w w':World} {h:Nat} {t:ByteArray} {p q:Int} (s:xe6 w h t p q) (hb:Below w.heap.size w w'):xe6 w' h t p q :=
 ⟨xaa hb s.1,xaa hb s.2.1,xaa hb s.2.2.1,fun o=>(xbX hb (xba (a:=⟨h,0,none⟩) s.1)).trans (s.2.2.2 o)⟩
theorem xe6.grown {w w':World} {h:Nat} {r:Option Nat} {t:ByteArray} {p q:Int} (s:xe6 w h t p q) (hg:w.grownBy w' r) (hr:r≠some h):xe6 w' h t p q:=by
 have hl:=xba (a:=⟨h,0,none⟩) s.1
 have hb:=hg.block h hl (fun e=>hr e.symm)
 refine⟨?_,?_,?_,fun o=>?_⟩
 ·simpa[World.cell?,hb] using s.1
 ·simpa[World.cell?,hb] using s.2.1
 ·simpa[World.cell?,hb] using s.2.2.1
 ·simpa[World.frozen?,hb] using s.2.2.2 o
theorem xe6.made (w:World) (t:ByteArray) (p q:Int) (T:TypeId):xe6 (w.alloc (.cells #[.string t,.int .i64 p,.int .i64 q] T)) w.heap.size t p q:=by
 refine⟨?_,?_,?_,fun o=>?_⟩
 ·rw[World.cell?_alloc_mark];rfl
 ·rw[World.cell?_alloc_mark];rfl
 ·rw[World.cell?_alloc_mark];rfl
 ·simp only[World.frozen?]
  rw[heap_alloc_new]
  simp
theorem xnc {w:World} {h:Nat} {t t':ByteArray} {p p' q q':Int} (s:xe6 w h t p q):xe6 (((w.setCell ⟨h,0,none⟩ (.string t')).setCell ⟨h,1,none⟩ (.int .i64 p')).setCell ⟨h,2,none⟩ (.int .i64 q')) h t' p' q':=by
 obtain⟨c0,c1,c2,f0⟩:=s
 exact⟨by simp[go_sem,c0],by simp[go_sem,c1],by simp[go_sem,c2],fun o=>by simp[go_sem,f0]⟩
theorem xa1.setCell {w:World} {B:Nat} {E:TypeId} {v:Value} {l:List En} (h:xa1 w B E v l) (a:Addr) (u:Value) (ha:a.block<B):xa1 (w.setCell a u) B E v l:=by
 obtain⟨h1,h2⟩:=h
 refine⟨h1,?_⟩
 rcases h2 with h2|⟨g,cap,cur,hv,hg,hh,r⟩
 ·exact .inl h2
 ·refine .inr ⟨g,cap,cur,hv,hg,?_,r⟩
  rw[Below.heap_setCell w a u g (by omega)];exact hh
theorem xk9 (n:Nat):xaB (xax n)=(madeCells (eC xcT) (n*4)).toList:=by
 apply List.ext_getElem?
 intro i
 have hl:(xaB (xax n)).length=n*4:=by rw[xbv];simp[xax]
 by_cases h:i<n*4
 ·have hj:(xax n)[i / 4]?=some xcT:=by unfold xax;rw[List.getElem?_replicate,if_pos (by omega)]
  obtain⟨a0,a1,a2,a3⟩:=xe5 _ _ _ hj
  have hr:(madeCells (eC xcT) (n*4)).toList[i]?=some ((eC xcT)[i % 4]!):=by
   unfold madeCells
   simp[h,eC]
  rw[hr]
  rcases(show i % 4=0∨i % 4=1∨i % 4=2∨i % 4=3 by omega) with e|e|e|e
  ·rw[e,show i=i / 4*4 from by omega,a0];rfl
  ·rw[e,show i=i / 4*4+1 from by omega,a1];rfl
  ·rw[e,show i=i / 4*4+2 from by omega,a2];rfl
  ·rw[e,show i=i / 4*4+3 from by omega,a3];rfl
 ·rw[List.getElem?_eq_none (by omega),List.getElem?_eq_none (by rw[Array.length_toList,size_madeCells];omega)]
def xhx (D:List En × Nat × Int) (E:TypeId) (w:World) (x:Ending) (w':World):Prop:=∃ v',x=.returned (.tuple #[v',.int .i64 (D.2.1:Int),.int .i64 D.2.2])∧xa1 w' w.heap.size E v' D.1∧Below w.heap.size w w'
def xsD (G:List En × Nat × Int) (n:Nat):List En × Nat × Int:=if G.2.2≠0 then G else if G.2.1<n then ([],G.2.1,4) else if xaC G.1≠0 then ([],n,xaC G.1) else (G.1,n,0)
end Go.Proofs.YtjinnigjfopbcaaGreatDoor
namespace Go.Proofs.YtjinnigjfopbcaaGreatDoor
set_option linter.unusedVariables false
set_option linter.unusedSimpArgs false
open Go.RowKit Go.Shelf
set_option maxRecDepth 20000
def KC (B:Nat) (W W':World):Prop:=W.heap.size≤W'.heap.size∧∀ (k:Nat) (o:Obj),k≠B→W.heap[k]?=some o→(o.isCells=true∨o.isWalk=true)→W'.heap[k]?=some o
theorem KC.trans {B:Nat} {X Y Z:World} (h:KC B X Y) (h':KC B Y Z):KC B X Z:=⟨Nat.le_trans h.1 h'.1,fun k o hk ho hc=>h'.2 k o hk (h.2 k o hk ho hc) hc⟩
theorem KC.grown {B:Nat} {W W':World} (h:W.grownBy W' (some B)):KC B W W':=⟨h.size,fun k o hk ho _=>(h.block k (Array.getElem?_eq_some_iff.1 ho).1 (fun e=>hk (Option.some.inj e))).trans ho⟩
theorem KC.below {B:Nat} {W W':World} (h:Below W.heap.size W W'):KC B W W':=⟨h.size,fun k o hk ho _=>(h.block k (Array.getElem?_eq_some_iff.1 ho).1).trans ho⟩
theorem KC.setCell (B:Nat) (W:World) (u:Value):KC B W (W.setCell ⟨B,0,none⟩ u):=KC.grown (grownBy_setCell' W B u)
open Go.RowKit
def xgP (ops:Array Oper):Bool:=ops.all fun o=>match o.op with|.defer _=>false|_=>true
theorem xie {ops:Array Oper} (h:xgP ops=true) {i:Nat} {o:Oper} (ho:ops[i]?=some o):∀ c,o.op≠.defer c:=by
 intro c hc
 unfold xgP at h
 rw[Array.all_eq_true] at h
 obtain⟨hi,rfl⟩:=Array.getElem?_eq_some_iff.1 ho
 have:=h i hi
 rw[hc] at this
 simp at this
theorem xll {P:Program} {o:Oper} {a:Act} {K K':Act→World→Prop} {Q:Exit→Act→World→Prop} {l n:Nat} (hK:∀ a w,K a w→K' a w):∀ r:Result Next,o.upon P a K Q r→o.uponIn (Fence.wide.inRound l) n P a K' Q r
 | .ok (.value v) w',h=>hK _ _ h
 | .ok .skip w',h=>hK _ _ h
 | .ok (.defer d) w',h=>hK _ _ h
 | .ok (.enter f args) w',h=>⟨fun e=>by simp[Fence.wide,Fence.inRound] at e,(CallsIn.inRound l (callsIn_wide.2 h)).mono fun e w'' he=>by
   cases e with
   | returned v=>exact hK _ _ he
   | panicked chain=>exact he
   | outgrown=>exact he⟩
 | .ok (.row row args) w',h=>⟨fun e=>by simp[Fence.wide,Fence.inRound] at e,fun c cs _=>by
   obtain⟨v,w'',r,s⟩:=h c cs
   exact⟨v,w'',hK _ _ r,stepsIn_wide.2 s⟩⟩
 | .halt (.panic v) w',h=>h
theorem xdC {P:Program} {ops:Array Oper} {Q:Exit→Act→World→Prop} {l n:Nat} (hQ:¬ LetsOut Q) (hops:xgP ops=true):∀ (L:List Nat) (a:Act) (w:World),wpOps P ops Q L a w→wpOpsIn (Fence.wide.inRound l) n P ops Q L a w
 | [],a,w,h=>h
 | i :: rest,a,w,h=>by
  unfold wpOps at h
  unfold wpOpsIn
  cases ho:ops[i]? with
  | none =>
   rw[ho] at h
   exact xdC hQ hops rest a w h
  | some o =>
   rw[ho] at h
   simp only at h ⊢
   by_cases hw:Region.wanted o (yielded ops a.tmps)=true
   ·rw[if_pos hw] at h ⊢
    rcases h with h|h
    ·refine⟨fun _ _=>trivial,?_⟩
     rw[Oper.semAt_plain (Fence.wide.inRound l) a.eval o (xie hops ho)]
     exact xll (fun a w=>xdC hQ hops rest a w) _ h
    ·exact absurd h.2 hQ
   ·rw[if_neg hw] at h ⊢
    exact⟨fun _ _=>trivial,xdC hQ hops rest _ w h⟩
def KD (D:Option Nat) (W:World):Prop:=∀ d,D=some d→W.heap[d]?=some (.deferred (some []))
theorem KD.none (W:World):KD none W:=fun d h=>by cases h
theorem KD.below {D:Option Nat} {W W':World} (h:KD D W) (hb:Below W.heap.size W W'):KD D W':=fun d e=>(hb.block d (Array.getElem?_eq_some_iff.1 (h d e)).1).trans (h d e)
theorem KD.setCell {D:Option Nat} {W:World} (h:KD D W) (b:Nat) (u:Value) (hb:D≠some b):KD D (W.setCell ⟨b,0,Option.none⟩ u):=fun d e =>
 ((grownBy_setCell' W b u).block d (Array.getElem?_eq_some_iff.1 (h d e)).1 (fun e'=>hb (e.trans e'))).trans (h d e)
end Go.Proofs.YtjinnigjfopbcaaGreatDoor
namespace Go.Proofs.YtjinnigjfopbcaaGreatDoor
set_option linter.unusedVariables false
set_option linter.unusedSimpArgs false
open Go.RowKit Go.Shelf
set_option maxRecDepth 20000
theorem xs4:(Tryz.prog.info? 26).map (fun i=>(i.zero,i.size,i.bytes))=some (some (.int .u64 0),1,8):=by kernel_rfl
def xhd (w:World) (B:Nat) (v:Value) (l:List Int):Prop:=w.ownsRow B 26 1 v l.length (l.map (Value.int .u64))
theorem xhd.snoc {w':World} {B:Nat} {v':Value} {l:List Int} {c:Int} (hs:w'.ownsRow B 26 1 v' (l.length+1) (l.map (Value.int .u64)++[.int .u64 c])):xhd w' B v' (l++[c]):=by
 unfold xhd
 rw[List.length_append,List.map_append]
 exact hs
theorem xhd.below {w w':World} {B:Nat} {v:Value} {l:List Int} (h:xhd w B v l) (hb:Below w.heap.size w w'):xhd w' B v l:=by
 have hlt:=World.ownsRow.lt h
 obtain⟨h1,h2⟩:=h
 refine⟨h1,?_⟩
 rcases h2 with h2|⟨g,cap,cur,hv,hg,hh,r⟩
 ·exact .inl h2
 ·refine .inr ⟨g,cap,cur,hv,hg,?_,r⟩
  rw[hb.block g (hlt g (by rw[hv];rfl)).2];exact hh
theorem xhd.mono {w:World} {B B':Nat} {v:Value} {l:List Int} (h:xhd w B v l) (hb:B'≤B):xhd w B' v l:=by
 obtain⟨h1,h2⟩:=h
 refine⟨h1,?_⟩
 rcases h2 with h2|⟨g,cap,cur,hv,hg,r⟩
 ·exact .inl h2
 ·exact .inr ⟨g,cap,cur,hv,Nat.le_trans hb hg,r⟩
theorem xhd.wordsAt {w:World} {B:Nat} {v:Value} {l:List Int} (h:xhd w B v l):xe7 w v l:=by
 have hlt:=World.ownsRow.lt h
 have h':=h
 obtain⟨hx,hv⟩:=h'
 rcases hv with ⟨rfl,hn⟩|⟨g,cap,cur,rfl,hB,hh,hle,hm,hcs,htk⟩
 ·obtain rfl:l=[]:=List.eq_nil_of_length_eq_zero hn
  exact⟨none,0,rfl,fun k hk=>by simp at hk⟩
 ·refine⟨_,cap,rfl,fun k hk=>⟨g,0,rfl,(hlt g rfl).2,?_⟩⟩
  have:=World.ownsRow.cellAt h k (by omega)
  rw[Nat.zero_add]
  simpa[hk] using this
theorem xkc (v:Value) (l:List Int) (w:World) (hw:xe7 w v l) (hl:l.length≤100000) (hx:xw1 l):Calls Tryz.prog 138 #[v] w (xkC w (encs l)):=by
 obtain⟨a,cap,rfl,hc⟩:=hw
 have HC:=lH hc;clear hc
 have HX:=lH hx;clear hx
 go_enter Tryz.func138,Tryz.ntmps138
 go_wp2_with fail
 go_loop [3,11] (fun s i=>∃ k:Nat,k≤l.length∧i=.int .i64 k∧∃ n:Nat,s=.int .i64 n∧Hid (n=(encs (l.take k)).length)∧n≤10*k) (fun _ i=>l.length - (intOf i).toNat)
 case atStart=>exact⟨0,Nat.zero_le _,rfl,0,rfl,by simp[encs,Hid],by omega⟩
 case round =>
  obtain⟨k,hk,rfl,n,rfl,HN,hn⟩:=hrel
  by_cases hlt:k<l.length
  ·obtain⟨b,off,rfl,hb,hcell⟩:=HC.out k hlt
   have bx:=HX.out k hlt
   have ht:=xhZ l k hlt
   generalize l.getD k 0=x at *
   obtain⟨x0,x1⟩:=bx
   have HT:=lH ht;clear ht
   have hel:=xdo x
   obtain⟨m,hm⟩:∃ m,(enc x).length=m:=⟨_,rfl⟩
   rw[hm] at hel
   have HM:=lH hm;clear hm
   go_wp2_with (go_at_call 210;refine(xgz x _ x0 x1).mono ?_;rw[HM.out];rintro e w' ⟨rfl,rfl⟩)
   refine⟨⟨k+1,by omega,by go_num,n+m,by go_num,?_,by omega⟩,?_⟩
   ·apply lH;rw[HT.out,List.length_append,HM.out,← HN.out]
   ·simp[intOf];omega
  ·obtain rfl:k=l.length:=by omega
   have hmk:=fun W=>xjk n W (by omega)
   have hO:=xpE w n (by omega)
   have HO:=lH hO;clear hO
   clear HN hlt hk
   go_wp2_with fail
   go_loopw [6,24] (fun v i wr=>∃ k:Nat,k≤l.length∧i=.int .i64 k∧Own wr w.heap.size v (encs (l.take k))∧Below w.heap.size w wr) (fun _ i _=>l.length - (intOf i).toNat)
   case atStart=>exact⟨0,Nat.zero_le _,rfl,by simpa[encs] using HO.out,(Below.refl _ _).alloc (Nat.le_refl _) _⟩
   case round =>
    clear HO
    obtain⟨k,hk,rfl,hown,hbw⟩:=hrel
    have hel:=xks (l.take k)
    rw[List.length_take] at hel
    have HO:=lH hown;clear hown
    have hsz:=hbw.size
    by_cases hlt:k<l.length
    ·obtain⟨b,off,rfl,hb,hcell⟩:=HC.out k hlt
     have hcell:=(hbw.cell (p:=⟨b,off+k,none⟩) hb).trans hcell
     have bx:=HX.out k hlt
     have ht:=xhZ l k hlt
     generalize l.getD k 0=x at *
     obtain⟨x0,x1⟩:=bx
     have HT:=lH ht;clear ht
     have hq:(encs (l.take k)).length≤1000000:=by omega
     clear hel
     go_wp2_with fail
     refine(xow w.heap.size _ _ x _ HO.out hsz hq x0 x1).mono ?_
     rintro e w2 ⟨v2,rfl,ho2,hb2⟩
     rw[← HT.out] at ho2
     have hb:=hbw.trans hb2
     clear hb2 hbw HO
     go_wp2_with fail
     go_roundw
     case rel=>exact⟨k+1,by omega,by go_num,ho2,hb⟩
     case measure=>simp[intOf];omega
    ·obtain rfl:k=l.length:=by omega
     clear hel
     go_wp2_with fail
     go_ret
     refine⟨_,rfl,?_,hbw⟩
     have:=HO.out
     rwa[List.take_length] at this
def xwl (w:World) (v v':Value):Prop:=v'.ownBlock=v.ownBlock∨∃ g,v'.ownBlock=some g∧w.heap.size≤g
theorem xiN (W:World) (B:Nat) (v:Value) (L:List Int) (x:Int) (hown:xhd W B v L) (hl:L.length≤100000) (ad:Addr) (c:Nat) (h0:W.cell? ad=some (.int .u64 x)) (hb:B≤W.heap.size) (ty:TypeId) :
  ∃ v' w',(Builtin.append_ #[241,241] ty #[v,.slice (some ad) 1 c]).run Tryz.prog W=.ok v' w'∧xhd w' B v' (L++[x])∧W.grownBy w' v.ownBlock∧xwl W v v':=by
 obtain⟨i0,hi,hz0,hz1,hz2⟩:=xao xs4
 have hnews:∀ j u,([.int .u64 x]:List Value)[j]?=some u→W.cell? (ad.add j)=some u:=by
  intro j u hu
  match j,hu with
  | 0,hu=>simp only[List.getElem?_cons_zero,Option.some.injEq] at hu;rw[← hu,← h0];congr 1
  | j+1,hu=>simp at hu
 have hone:∀ u ∈ ([.int .u64 x]:List Value),u.oneCell'=true:=by
  intro u hu
  simp only[List.mem_cons,List.not_mem_nil,or_false] at hu
  subst hu
  rfl
 obtain⟨v',w',hr,h2,h3,h4⟩:=run_append_own (P:=Tryz.prog) W B 241 ty 26 i0 _ 1 8 Tryz.underlying241 hi hz0 hz1 hz2 rfl (by omega) v L.length (L.map (Value.int .u64)) hown ad 1 c _ rfl hnews hone (by unfold maxLen;omega) (by omega) hb
 refine⟨v',w',hr,xhd.snoc h2,h3,?_⟩
 rcases hown.2 with ⟨rfl,hn⟩|⟨g,cap,cur,rfl,hbg,hg,hnc,hcm,hcs,htake⟩
 ·obtain⟨_,_,hr2,h22,_,_⟩:=run_append_own (P:=Tryz.prog) W W.heap.size 241 ty 26 i0 _ 1 8 Tryz.underlying241 hi hz0 hz1 hz2 rfl (by omega) (.slice none 0 0) L.length (L.map (Value.int .u64)) ⟨hown.1,.inl ⟨rfl,hn⟩⟩ ad 1 c _ rfl hnews hone (by unfold maxLen;omega) (by omega) (Nat.le_refl _)
  rw[hr] at hr2
  injection hr2 with e1 e2
  subst e1 e2
  rcases h22.2 with ⟨rfl,_⟩|⟨g,cap,cur,rfl,hg,_⟩
  ·exact .inl rfl
  ·exact .inr ⟨g,rfl,hg⟩
 ·by_cases hroom:L.length+1≤cap
  ·have hr2:=run_append_room (P:=Tryz.prog) W 241 ty 26 i0 Tryz.underlying241 hi g L.length cap cur hg ad 1 c [.int .u64 x] (by rw[hz1];rfl) hnews hone hroom (by rw[hz1];simp only[List.length_cons,List.length_nil];omega)
   rw[hr] at hr2
   injection hr2 with e1 e2
   rw[e1]
   exact .inl rfl
  ·have hr2:=run_append_grow (P:=Tryz.prog) W 241 ty 26 i0 _ Tryz.underlying241 hi hz0 ⟨g,0,none⟩ L.length cap (L.map (Value.int .u64)) (by rw[hz1];exact hown.1) (World.ownsRow.cells hown rfl) ad 1 c [.int .u64 x] (by rw[hz1];rfl) hnews (by omega) (by omega) (growslice_fits (by omega) (by rw[hz2];omega))
   rw[hr] at hr2
   injection hr2 with e1 e2
   rw[e1]
   exact .inr ⟨_,rfl,Nat.le_refl _⟩
def upW (val:Nat→Int) (k:Nat):List Int:=(List.range k).map val
theorem xjX (val:Nat→Int) (k:Nat):upW val (k+1)=upW val k++[val k]:=by simp[upW,List.range_succ]
theorem xei (val:Nat→Int) (k:Nat):(upW val k).length=k:=by simp[upW]
theorem KeepsS.grown {S:Nat→Prop} {W W':World} {row:Option Nat} (h:W.grownBy W' row) (hr:∀ r,row=some r→S r):KeepsS S S W W' :=
 ⟨h.size,fun b o hb ho=>(h.block b (xaD ho) (fun e=>hb (hr b e.symm))).trans ho,fun _ h=>.inl h⟩
theorem xhj {β:Type} {J:β→World→Prop} (h:Go.Own J) (B:Nat):xbz (fun _=>False) B J:=fun s X Y row hs hg hr =>
 h s X Y row hs hg (fun r e=>by rcases hr r e with h|h;exact h.elim;obtain⟨_,o,h1,h2⟩:=h;exact⟨o,h1,by cases o <;> first|rfl|cases h2⟩)
def xwu (val:Nat→Int) (n0:Nat) (w:World) (k:Nat) (S:Nat→Prop) (W:World):Prop :=
 (∃ v,Boxed W n0 241 v∧W.ownsRow (n0+1) 26 1 v (upW val k).length ((upW val k).map (Value.int .u64))∧∀ b,S b↔(b=n0∨v.ownBlock=some b))∧Below n0 w W
theorem xou (val:Nat→Int) (w:World) (B:Nat) (hB:w.heap.size≤B):xcN (fun _=>False) B (xwu val w.heap.size w) :=
 xbz.and (xhj (holdsRow_own (β:=Nat × (Nat→Prop)) (w.heap.size+1) w.heap.size 241 26 1 (fun s=>(upW val s.1).length) (fun s=>(upW val s.1).map (Value.int .u64)) (fun s v=>∀ b,s.2 b↔(b=w.heap.size∨v.ownBlock=some b))) B) (xbm (Nat.le_refl _) hB (fun _ h=>h.elim))
theorem xvm {val:Nat→Int} {n0 k:Nat} {w:World} {S:Nat→Prop} {W:World} (h:xwu val n0 w k S W):∀ b,S b→b<W.heap.size:=by
 obtain⟨⟨v,hv,ho,hS⟩,hb⟩:=h
 intro b hs
 rcases(hS b).1 hs with rfl|h
 ·exact hv.lt
 ·exact(World.ownsRow.lt ho b h).2
theorem xvI {F:Fence} {n:Nat} {P:Program} (w:World) {ops:Array Oper} {rest:List Oper} {o:Oper} {a:Act} {Q:Exit→Act→World→Prop} (hg:o.guard=none) (s x:Operand) (t:TypeId)
  (hop:o.op=Op.call { callee:=Callee.builtin Builtin.append,args:=#[s,x],argTypes:=#[t,t] }) (v:Value) (ad:Addr) (m c:Nat) (hs:a.eval s=v) (hx:a.eval x=.slice (some ad) m c) (v':Value) (w':World)
  (hrun:(Builtin.append_ #[t,t] o.type #[v,.slice (some ad) m c]).run P w=.ok v' w') (hK:wpListIn F n P ops Q rest (a.put o.dst v') w'):wpListIn F n P ops Q (o :: rest) a w:=by
 refine wpListIn_plain hg fun K hK'=>⟨?_,?_⟩
 ·simp[Oper.about,hop,resolve,Target.leads,Sem.run_pure]
 ·rw[Oper.semAt_plain F _ _ (by rw[hop];intro c hc';cases hc')]
  simp[execOp,hop,resolve,invoke,builtin,hs,hx,hrun,Result.andThen]
  exact hK' _ _ hK
attribute [local go_sem] Oper.semAt_some
set_option maxRecDepth 100000 in
theorem xjB {gf:Nat} {lb:Array Value} (val:Nat→Int) (N:Nat) (V:Nat→Prop) (w:World) (hN:N≤90000) (eg:∀ args w,(callFunc gf args).run Tryz.prog w=.ok (.enter gf args) w)
  (hseq:xrx Tryz.prog gf lb (fun k=>#[.int .u64 (val k)]) N (fun _=>False) V (fun _ _=>True) (fun _=>True) w) (hV:∀ b,V b→b<w.heap.size) :
  Calls Tryz.prog 213 #[.slice none 0 0,.func (.func gf) #[] lb] w fun x w'=>∃ v,x=.returned v∧xhd w' w.heap.size v (upW val N)∧Below w.heap.size w w':=by
 have HS:=lH hseq
 have HVV:=lH hV
 clear hseq hV
 refine(callsIn_wide (n:=3)).1 ?_
 refine callsIn_of_wp_marks Tryz.func213 rfl trivial ?_ rfl
 simp only[Tryz.ntmps213,List.size_toArray,List.length_cons,List.length_nil,Nat.reduceAdd,Nat.reduceSub,Array.replicate_succ,Array.replicate_zero,List.push_toArray,List.append_toArray,List.nil_append,List.cons_append]
 gi_wp2
 refine xeW (n:=3) (val:=fun k=>.int .u64 (val k)) (p:=7) (r:=5) rfl eg HS.out ((Below.refl _ w).alloc (Nat.le_refl _) _) (fun _ h=>h.elim) ?hV
  (xwu val w.heap.size w) (fun _ _ _=>False) ?hI (fun _ _ _ _ _ h _ _=>h) (fun k S W h=>⟨trivial,xvm h⟩) (fun b=>b=w.heap.size) ?hS0 ?h0 (fun _ _ _ _ _ _ _ _=>trivial) ?assign ?body ?done (fun _ _ _ _ _ _ h _=>h.elim)
 case hV=>intro r hr;have:=HVV.out r hr;simp;omega
 case hI=>exact xou val w _ (by simp)
 case hS0=>rintro b rfl;exact⟨by simp,fun h=>by have:=HVV.out _ h;omega⟩
 case h0 =>
  refine⟨⟨.slice none 0 0,Boxed.new w _ _,World.ownsRow_nil _ _ _ _,fun b=>?_⟩,(Below.refl _ w).alloc (Nat.le_refl _) _⟩
  simp[Value.ownBlock]
 case assign =>
  intro lq k W' K hK
  simp only[List.setIfInBounds_toArray,List.set_cons_zero,List.set_cons_succ] at hK ⊢
  gi_wp2
  exact hK
 case body =>
  rintro lq k S W hlq hI hk
  have HI:=lH hI
  obtain⟨⟨v,hv,ho,hSS⟩,hB⟩:=hI
  have hvc:=hv.cell
  obtain⟨v',w1,hr,h1,h2,h3⟩:=xiN (W.alloc (.cells #[.int .u64 (val k)] 26)) (w.heap.size+1) v (upW val k) (val k) (World.ownsRow.alloc ho _) (by rw[xei];omega) ⟨W.heap.size,0,none⟩ 1 (by rw[World.cell?_alloc_mark];rfl) (by have:=hB.size;have:=hv.lt;simp;omega) 241
  have hv1:Boxed w1 w.heap.size 241 v:=(hv.alloc _).kept h2 (hv.not_row (by decide) ho)
  have hf1:=hv1.frozen
  have hv1c:=hv1.cell
  have HH:=lH (And.intro h1 (And.intro h2 (And.intro h3 (And.intro hv (And.intro ho (And.intro hSS (And.intro hB hv1)))))))
  have hsz:∃ g cap,v'=.slice (some ⟨g,0,none⟩) ((upW val k).length+1) cap:=by
   have h1':=h1
   unfold xhd at h1'
   rw[List.length_append] at h1'
   exact ownsRow_succ h1'
  obtain⟨g,cap,rfl⟩:=hsz
  clear h1 h2 h3 hv ho hSS hB hv1
  simp only[List.setIfInBounds_toArray,List.set_cons_zero,List.set_cons_succ]
  gi_wp2_with (first|(gi_at_builtin;refine xvI _ rfl _ _ _ rfl _ _ _ _ rfl rfl _ _ hr ?_)|fail)
  obtain⟨h1,h2,h3,hv,ho,hSS,hB,hv1⟩:=HH.out
  have hsz:=h2.size
  have hlv:=hv.lt
  simp only[World.size_alloc] at hsz
  have ho1:=World.ownsRow.lt h1
  refine⟨fun b=>b=w.heap.size∨(Value.slice (some ⟨g,0,none⟩) ((upW val k).length+1) cap).ownBlock=some b,⟨⟨_,hv1.set _,?_,fun b=>Iff.rfl⟩,?_⟩,?_⟩
  ·rw[xjX]
   exact World.ownsRow.kept h1 (grownBy_setCell' w1 w.heap.size _) (.inr (hv1.not_row (by decide) h1).symm)
  ·have hb1:Below w.heap.size w (W.alloc (.cells #[.int .u64 (val k)] 26)):=hB.alloc (by have:=hB.size;omega) _
   exact(hb1.grown h2 hb1.size (fun r e=>by have:=(World.ownsRow.lt ho r e).1;omega)).setCell (p:=⟨w.heap.size,0,none⟩) (Nat.le_refl _) _
  ·have hk2:=((KeepsS.alloc S W (.cells #[.int .u64 (val k)] 26)).trans (KeepsS.grown h2 (fun r e=>(hSS r).2 (.inr e)))).trans (KeepsS.setCell S w1 ⟨w.heap.size,0,none⟩ (.slice (some ⟨g,0,none⟩) ((upW val k).length+1) cap) ((hSS _).2 (.inl rfl)))
   refine⟨hk2.size,hk2.same,fun b hb=>?_⟩
   rcases hb with rfl|hb
   ·exact .inl ((hSS _).2 (.inl rfl))
   ·rcases h3 with h3|⟨g',h3,h3'⟩
    ·exact .inl ((hSS _).2 (.inr (h3.symm.trans hb)))
    ·rw[h3] at hb
     cases hb
     simp only[World.size_alloc] at h3'
     exact .inr (by omega)
 case done =>
  rintro D S W hD hSD hI _ hDW
  have HI:=lH hI
  obtain⟨⟨v,hv,ho,hSS⟩,hB⟩:=hI
  have hvc:=hv.cell
  have HH:=lH (And.intro hD (And.intro hDW (And.intro ho hB)))
  clear hv ho hSS hB
  gi_wp2
  obtain⟨h1,h2,h3,h4⟩:=HH.out
  refine⟨by simp,.inl ⟨_,_,rfl,run_takeDeferred h2,?_⟩⟩
  refine⟨_,results_tmp rfl _ _ _,v,rfl,?_,?_⟩
  ·exact xhd.mono (ownsRow_putObj h3 _ h2 rfl) (by omega)
  ·simp only[World.size_alloc] at h1
   exact(xbm (β:=Unit) (T:=fun _=>False) (Nat.le_refl _) (B:=w.heap.size) (Nat.le_refl _) (fun _ h=>h.elim)).put (s:=()) h4 _ (by omega) h2 rfl
theorem xjt (a b:List Int):encs (a++b)=encs a++encs b:=by
 induction a with
 | nil=>rfl
 | cons x a ih=>simp[encs,ih]
theorem xnG (l:List En) (c m:Nat):encs ((List.range m).map (fun j=>xdf l c j))=xfV l c m:=by
 induction m with
 | zero=>rfl
 | succ m ih=>rw[List.range_succ,List.map_append,List.map_singleton,xfv,ih,xfV]
theorem xsV (val:Nat→Int) (a b:Nat):upW val (a+b)=upW val a++(List.range b).map (fun j=>val (a+j)):=by
 unfold upW
 rw[List.range_add,List.map_append,List.map_map]
 rfl
theorem xe2 (l:List En) (c:Nat):encs (upW (xeC l) (1+(c+1)*l.length))=encs (upW (xeC l) (1+c*l.length))++xfV l c l.length:=by
 rw[show 1+(c+1)*l.length=(1+c*l.length)+l.length from by rw[Nat.succ_mul];omega,xsV,xjt,← xnG]
 congr 2
 apply List.map_congr_left
 intro j hj
 exact xjM l c j (List.mem_range.1 hj)
theorem xg9 (l:List En):encs (upW (xeC l) (1+4*l.length))=xaq l:=by
 rw[show 4=3+1 from rfl,xe2,show 3=2+1 from rfl,xe2,show 2=1+1 from rfl,xe2,show (1:Nat)+1*l.length=1+(0+1)*l.length from rfl,xe2]
 rw[Nat.zero_mul]
 have h1:encs (upW (xeC l) (1+0))=enc l.length:=by
  show encs [xeC l 0]=_
  rw[xiB]
  simp[encs]
 rw[h1]
 simp only[xaq,List.append_assoc]
theorem xgs (l:List En) (hm:xay l) (hl:l.length≤5000):xw1 (upW (xeC l) (1+4*l.length)):=by
 intro k hk
 rw[xei] at hk
 have e:(upW (xeC l) (1+4*l.length)).getD k 0=xeC l k:=by
  unfold upW
  rw[List.getD_eq_getElem?_getD,List.getElem?_map,List.getElem?_range hk]
  rfl
 rw[e]
 unfold xeC
 by_cases h0:k=0
 ·rw[if_pos h0];omega
 ·rw[if_neg h0]
  exact xr4 (by omega) (fun j hj=>hm _ (xev l j hj))
theorem xhB {gf:Nat} {lb:Array Value} (val:Nat→Int) (N:Nat) (V:Nat→Prop) (w:World) (hN:N≤90000) (eg:∀ args w,(callFunc gf args).run Tryz.prog w=.ok (.enter gf args) w)
  (hseq:xrx Tryz.prog gf lb (fun k=>#[.int .u64 (val k)]) N (fun _=>False) V (fun _ _=>True) (fun _=>True) w) (hV:∀ b,V b→b<w.heap.size) :
  Calls Tryz.prog 139 #[.func (.func gf) #[] lb] w fun x w'=>∃ v,x=.returned v∧xhd w' w.heap.size v (upW val N)∧Below w.heap.size w w':=by
 have HA:=lH (xjB val N V w hN eg hseq hV)
 clear hseq hV
 go_enter Tryz.func139,Tryz.ntmps139
 go_wp2_with fail
 refine HA.out.mono ?_
 rintro x w1 ⟨v,rfl,h⟩
 go_wp2_with fail
 go_ret
 exact⟨v,rfl,h⟩
set_option maxRecDepth 20000 in
theorem xit (v:Value) (l:List En) (w:World) (hv:xak w v l) (hm:xay l) (hl:l.length≤5000):Calls Tryz.prog 69 #[v] w fun x w'=>x=.returned (.tuple #[.string (xmm l),.int .i64 (xjC l)])∧Below w.heap.size w w':=by
 have HR:=lH (xcm v l w hv hm)
 have HV:=lH hv
 have HM:=lH hm
 obtain⟨al,cap,rfl,hcap,hmx,_⟩:=hv
 by_cases h0:xaC l=0
 ·have HE:=lH (show xjC l=(if 65536<(xaq l).length then 5 else 0) from by unfold xjC;rw[if_pos h0])
  have HT:=lH (show xmm l=if xjC l=0 then str (xaq l) else ByteArray.mk #[] from rfl)
  rw[h0] at HR
  have hlen:(xaq l).length≤200010:=by rw[xcL];have:=xfK l;omega
  by_cases h5:65536<(xaq l).length
  ·have hd:decide (65536<((xaq l).length:Int))=true:=by simp;omega
   have he:xjC l=5:=by rw[HE.out,if_pos h5]
   have ht:xmm l=ByteArray.mk #[]:=by rw[HT.out,if_neg (by rw[he];decide)]
   rw[he,ht]
   clear h5 he ht h0 hcap hmx hm
   go_enter Tryz.func69,Tryz.ntmps69
   go_wp2_with fail
   refine HR.out.mono ?_
   rintro x w1 ⟨rfl,hb⟩
   have HB:=lH hb
   clear hb
   go_wp2_with fail
   refine(xgO al l.length cap w1).mono ?_
   rintro x w2 ⟨rfl,hw2⟩
   have hb2:Below w1.heap.size w1 w2:=by rw[hw2];exact(Below.refl _ _).alloc (Nat.le_refl _) _
   have hs2:w2.heap.size=w1.heap.size+1:=by rw[hw2];simp
   have hq2:w2.cell? ⟨w1.heap.size,0,none⟩=some (.slice al l.length cap):=by rw[hw2];simp
   have HV2:=HV.out.below (HB.out.trans (hb2.mono HB.out.size))
   have HB2:=lH (HB.out.trans (hb2.mono HB.out.size))
   have HC:=lH (xhB (xeC l) (1+4*l.length) (VN l (.slice al l.length cap) w1.heap.size) w2 (by omega) (enters_of Tryz.func214 (by kernel_rfl) rfl) (xfi _ l w1.heap.size w2 HM.out HV2 hq2) (by
    rintro b (rfl|⟨hl,a,n,c,hv,rfl⟩)
    ·omega
    ·exact xfF HV2 hl hv))
   clear hw2 hb2 hs2 hq2 HV2 HB
   go_wp2_with fail
   refine HC.out.mono ?_
   rintro x w3 ⟨v3,rfl,ho,hb3⟩
   have HB3:=lH (HB2.out.trans (hb3.mono HB2.out.size))
   have HA:=lH (xkc v3 _ w3 ho.wordsAt (by rw[xei];omega) (xgs l HM.out hl))
   rw[xg9] at HA
   clear HC HB2 ho hb3
   go_wp2_with fail
   refine HA.out.mono ?_
   rintro x w4 ⟨v4,rfl,ho,hb4⟩
   have HB4:=lH (HB3.out.trans (hb4.mono HB3.out.size))
   have hba:=ho.bytesAt
   have hrs:=xgT w4 v4 (xaq l) hba
   obtain⟨a4,cap4,rfl,_⟩:=hba
   clear HA HB3 ho hb4
   clear hrs
   go_wp2_with fail
   go_ret2
   exact⟨rfl,HB4.out⟩
  ·have hd:decide (65536<((xaq l).length:Int))=false:=by simp;omega
   have he:xjC l=0:=by rw[HE.out,if_neg h5]
   have ht:xmm l=str (xaq l):=by rw[HT.out,if_pos he]
   rw[he,ht]
   clear h5 he ht h0 hcap hmx hm
   go_enter Tryz.func69,Tryz.ntmps69
   go_wp2_with fail
   refine HR.out.mono ?_
   rintro x w1 ⟨rfl,hb⟩
   have HB:=lH hb
   clear hb
   go_wp2_with fail
   refine(xgO al l.length cap w1).mono ?_
   rintro x w2 ⟨rfl,hw2⟩
   have hb2:Below w1.heap.size w1 w2:=by rw[hw2];exact(Below.refl _ _).alloc (Nat.le_refl _) _
   have hs2:w2.heap.size=w1.heap.size+1:=by rw[hw2];simp
   have hq2:w2.cell? ⟨w1.heap.size,0,none⟩=some (.slice al l.length cap):=by rw[hw2];simp
   have HV2:=HV.out.below (HB.out.trans (hb2.mono HB.out.size))
   have HB2:=lH (HB.out.trans (hb2.mono HB.out.size))
   have HC:=lH (xhB (xeC l) (1+4*l.length) (VN l (.slice al l.length cap) w1.heap.size) w2 (by omega) (enters_of Tryz.func214 (by kernel_rfl) rfl) (xfi _ l w1.heap.size w2 HM.out HV2 hq2) (by
    rintro b (rfl|⟨hl,a,n,c,hv,rfl⟩)
    ·omega
    ·exact xfF HV2 hl hv))
   clear hw2 hb2 hs2 hq2 HV2 HB
   go_wp2_with fail
   refine HC.out.mono ?_
   rintro x w3 ⟨v3,rfl,ho,hb3⟩
   have HB3:=lH (HB2.out.trans (hb3.mono HB2.out.size))
   have HA:=lH (xkc v3 _ w3 ho.wordsAt (by rw[xei];omega) (xgs l HM.out hl))
   rw[xg9] at HA
   clear HC HB2 ho hb3
   go_wp2_with fail
   refine HA.out.mono ?_
   rintro x w4 ⟨v4,rfl,ho,hb4⟩
   have HB4:=lH (HB3.out.trans (hb4.mono HB3.out.size))
   have hba:=ho.bytesAt
   have hrs:=xgT w4 v4 (xaq l) hba
   obtain⟨a4,cap4,rfl,_⟩:=hba
   clear HA HB3 ho hb4
   go_wp2_with fail
   go_ret2
   exact⟨rfl,HB4.out⟩
 ·have he:xjC l=xaC l:=by unfold xjC;rw[if_neg h0]
  have ht:xmm l=ByteArray.mk #[]:=by unfold xmm;rw[if_neg (by rw[he];exact h0)]
  rw[he,ht]
  have hne:(xaC l == 0)=false:=by simpa using h0
  generalize xaC l=r at *
  clear h0 he ht hcap hmx hm
  go_enter Tryz.func69,Tryz.ntmps69
  go_wp2_with fail
  refine HR.out.mono ?_
  rintro x w1 ⟨rfl,hb⟩
  go_wp2_with fail
  go_ret2
  exact⟨rfl,hb⟩
theorem xis {P:Program} {ops:Array Oper} {Q:Exit→Act→World→Prop} {l n id:Nat} {a:Act} {w:World} (hm:P.follows .mixedOrders=true) (hops:xgP ops=true) (hQ:¬ LetsOut Q)
  (h:wpAny P .any ops Q ops.size (Array.replicate ops.size false) a w.drew):(Code.region id ops true).wpIn (Fence.wide.inRound l) n P Q a w :=
 wpIn_region_draw fun t=>by
  simp only[Region.schedule,hm,Bool.true_or,if_true]
  exact xdC hQ hops _ _ _ (wpAny_sound ops.size t _ a _ h)
def xwK (val:Nat→Int) (n0:Nat) (w:World) (k:Nat) (S:Nat→Prop) (W:World):Prop :=
 (Boxed W n0 3 (.int .i64 ((encs (upW val k)).length:Int))∧∀ b,S b↔b=n0)∧Below w.heap.size w W
theorem xnz (val:Nat→Int) (n0:Nat) (w:World) (B:Nat) (hB:w.heap.size≤B):xcN (fun _=>False) B (xwK val n0 w) :=
 xbz.and (xhj (β:=Nat × (Nat→Prop)) (J:=fun s W=>Boxed W n0 3 (.int .i64 ((encs (upW val s.1)).length:Int))∧∀ b,s.2 b↔b=n0) (fun s X Y row hs hg hr=>⟨hs.1.kept hg (fun e'=>by
  obtain⟨o,ho,hc⟩:=hr n0 e'.symm
  rw[show X.heap[n0]?=_ from hs.1] at ho;cases ho;cases hc),hs.2⟩) B) (xbm (Nat.le_refl _) hB (fun _ h=>h.elim))
set_option maxRecDepth 100000 in
theorem xhY (v:Value) (l:List En) (w:World) (hv:xak w v l) (hm:xay l) (hl:l.length≤5000):Calls Tryz.prog 135 #[v] w fun x w'=>x=.returned (.int .i64 (xez l))∧Below w.heap.size w w':=by
 have HR:=lH (xcm v l w hv hm)
 have HV:=lH hv
 have HM:=lH hm
 obtain⟨al,cap,rfl,hcap,hmx,_⟩:=hv
 by_cases h0:xaC l=0
 ·have HE:=lH (show xez l=((xaq l).length:Int) from by unfold xez;rw[if_pos h0])
  have hlen:(xaq l).length≤200010:=by rw[xcL];have:=xfK l;omega
  rw[h0] at HR
  clear h0 hcap hmx hm
  refine(callsIn_wide (n:=3)).1 ?_
  refine callsIn_of_wp_marks Tryz.func135 rfl trivial ?_ rfl
  simp only[Tryz.ntmps135,List.size_toArray,List.length_cons,List.length_nil,Nat.reduceAdd,Nat.reduceSub,Array.replicate_succ,Array.replicate_zero,List.push_toArray,List.append_toArray,List.nil_append,List.cons_append]
  gi_wp2
  refine⟨trivial,(callsIn_wide.2 HR.out).mono ?_⟩
  rintro x w1 ⟨rfl,hb⟩
  have HB:=lH hb
  clear hb
  gi_wp2
  refine⟨trivial,(callsIn_wide.2 (xgO al l.length cap _)).mono ?_⟩
  rintro x w2 ⟨rfl,hw2⟩
  gi_wp2
  rw[← hw2]
  have hs2:w2.heap.size=w1.heap.size+2:=by rw[hw2];simp
  have hb2:Below w1.heap.size w1 w2:=by rw[hw2];exact((Below.refl _ _).alloc (Nat.le_refl _) _).alloc (by simp) _
  have hq2:w2.cell? ⟨w1.heap.size+1,0,none⟩=some (.slice al l.length cap):=by rw[hw2];simp
  have hx2:Boxed w2 w1.heap.size 3 (.int .i64 0):=by rw[hw2];exact(Boxed.new w1 _ _).alloc _
  have HV2:=HV.out.below (HB.out.trans (hb2.mono HB.out.size))
  have hBw:=HB.out.trans (hb2.mono HB.out.size)
  have hv1:∀ {a:Addr} {n c:Nat},l≠[]→Value.slice al l.length cap=.slice (some a) n c→a.block<w.heap.size:=fun hl hv=>xfF HV.out hl hv
  have hw1:=HB.out.size
  refine xeW (n:=3) (val:=fun k=>.int .u64 (xeC l k)) (p:=10) (r:=4) rfl (enters_of Tryz.func214 (by kernel_rfl) rfl) (xfi _ l (w1.heap.size+1) w2 HM.out HV2 hq2) (Below.refl _ _) (fun _ h=>h.elim) ?hV
   (xwK (xeC l) w1.heap.size w) (fun _ _ _=>False) ?hI (fun _ _ _ _ _ h _ _=>h) ?hG (fun b=>b=w1.heap.size) ?hS0 ?h0 (fun _ _ _ _ _ _ _ _=>trivial) ?assign ?body ?done (fun _ _ _ _ _ _ h _=>h.elim)
  case hV =>
   rintro b (rfl|⟨hl,a,n,c,hv,rfl⟩)
   ·omega
   ·exact xfF HV2 hl hv
  case hI=>exact xnz _ _ w _ hBw.size
  case hG=>exact fun k S W h=>⟨trivial,fun b hb=>by rw[(h.1.2 b).1 hb];exact h.1.1.lt⟩
  case hS0 =>
   rintro b rfl
   refine⟨by omega,?_⟩
   rintro(h|⟨hl,a,n,c,hv,h⟩)
   ·omega
   ·have:=hv1 hl hv;omega
  case h0=>exact⟨⟨hx2,fun b=>Iff.rfl⟩,hBw⟩
  case assign =>
   intro lq k W' K hK
   simp only[List.setIfInBounds_toArray,List.set_cons_zero,List.set_cons_succ] at hK ⊢
   gi_wp2
   exact hK
  case body =>
   rintro lq k S W hlq hI hk
   have hwd:=xgs l HM.out hl k (by rw[xei];exact hk)
   have hnx:(upW (xeC l) (1+4*l.length)).getD k 0=xeC l k:=by
    unfold upW
    rw[List.getD_eq_getElem?_getD,List.getElem?_map,List.getElem?_range hk]
    rfl
   rw[hnx] at hwd
   have hlk:=xks (upW (xeC l) k)
   rw[xei] at hlk
   have HI:=lH hI
   obtain⟨⟨hv,hSS⟩,hB⟩:=hI
   have hvc:=hv.cell
   have hvf:=hv.frozen
   have HSS:=lH hSS
   have hnext:Hid ((encs (upW (xeC l) (k+1))).length=(encs (upW (xeC l) k)).length+(enc (xeC l k)).length):=lH (by rw[xjX,xfv,List.length_append])
   have hel:=(xdo (xeC l k)).2
   clear hnx hv hSS hB
   generalize xeC l k=x at *
   obtain⟨m,hm⟩:∃ m,(encs (upW (xeC l) k)).length=m:=⟨_,rfl⟩
   rw[hm] at hvc hlk
   simp only[List.setIfInBounds_toArray,List.set_cons_zero,List.set_cons_succ]
   have hdc:W.drew.cell? ⟨w1.heap.size,0,none⟩=some (.int .i64 (m:Int)):=hvc
   have hdf:W.drew.frozen? ⟨w1.heap.size,0,none⟩=false:=hvf
   have hwm:IntKind.i64.wrap ((m:Int)+((enc x).length:Int))=(m:Int)+((enc x).length:Int):=by rw[IntKind.wrap_i64] <;> omega
   have HH:=lH (And.intro hm hlk)
   clear hlk hel hvc hvf
   gi_wp2
   refine xis (by kernel_rfl) (by kernel_rfl) (by rintro⟨a,w,h⟩;exact h) ?_
   change wpAny _ _ _ _ _ _ _ W.drew
   refine wpAny_take (i:=1) (v:=?_) rfl (by kernel_rfl) (by kernel_rfl) (by kernel_rfl) (fun _ _ _ h=>h) (Or.inl ⟨by rfl,?y1⟩) ?_
   case y1=>intro w;go_simp;try with_reducible rfl
   try simp only[Act.put,zsA,zsB,zsC]
   refine wpAny_ready (rs:=[0,2]) (by kernel_rfl) (by simp) ?_
   refine AllReady.cons rfl (fun K hK=>?_) (AllReady.cons rfl (fun K hK=>?_) AllReady.nil)
   ·go_simp
    refine hK _ _ ?_
    clear hK K
    try simp only[Act.put,zsA,zsB,zsC]
    refine wpAny_ready (rs:=[2]) (by kernel_rfl) (by simp) ?_
    refine AllReady.cons rfl (fun K hK=>?_) AllReady.nil
    go_simp
    refine(xgz x _ hwd.1 hwd.2).mono ?_
    rintro e w' ⟨rfl,rfl⟩
    go_wp2_with fail
    try simp only[Act.put,zsA,zsB,zsC]
    refine wpAny_take (i:=3) (v:=?_) rfl (by kernel_rfl) (by kernel_rfl) (by kernel_rfl) (fun _ _ _ h=>h) (Or.inl ⟨by rfl,?y3⟩) ?_
    case y3=>intro w;go_simp;try with_reducible rfl
    try simp only[Act.put,zsA,zsB,zsC]
    refine wpAny_ready (rs:=[4]) (by kernel_rfl) (by simp) ?_
    refine AllReady.cons rfl (fun K hK=>?_) AllReady.nil
    go_simp
    refine hK _ _ ?_
    clear hK K
    try simp only[Act.put,zsA,zsB,zsC]
    refine wpAny_done (by kernel_rfl) ?_ _
    refine⟨S,⟨⟨?_,HSS.out⟩,?_⟩,?_⟩
    ·have:=(HI.out.1.1.set (W:=W) (.int .i64 ((m:Int)+((enc x).length:Int))))
     rw[hnext.out,hm]
     push_cast
     exact this
    ·exact HI.out.2.drew.setCell (p:=⟨w1.heap.size,0,none⟩) hw1 _
    ·exact(KeepsS.below S (Below.drew (Below.refl _ _))).trans (KeepsS.setCell S W.drew ⟨w1.heap.size,0,none⟩ _ ((HSS.out _).2 rfl))
   ·go_simp
    refine(xgz x _ hwd.1 hwd.2).mono ?_
    rintro e w' ⟨rfl,rfl⟩
    go_wp2_with fail
    try simp only[Act.put,zsA,zsB,zsC]
    refine wpAny_ready (rs:=[0]) (by kernel_rfl) (by simp) ?_
    refine AllReady.cons rfl (fun K hK=>?_) AllReady.nil
    go_simp
    refine hK _ _ ?_
    clear hK K
    try simp only[Act.put,zsA,zsB,zsC]
    refine wpAny_take (i:=3) (v:=?_) rfl (by kernel_rfl) (by kernel_rfl) (by kernel_rfl) (fun _ _ _ h=>h) (Or.inl ⟨by rfl,?y3⟩) ?_
    case y3=>intro w;go_simp;try with_reducible rfl
    try simp only[Act.put,zsA,zsB,zsC]
    refine wpAny_ready (rs:=[4]) (by kernel_rfl) (by simp) ?_
    refine AllReady.cons rfl (fun K hK=>?_) AllReady.nil
    go_simp
    refine hK _ _ ?_
    clear hK K
    try simp only[Act.put,zsA,zsB,zsC]
    refine wpAny_done (by kernel_rfl) ?_ _
    refine⟨S,⟨⟨?_,HSS.out⟩,?_⟩,?_⟩
    ·have:=(HI.out.1.1.set (W:=W) (.int .i64 ((m:Int)+((enc x).length:Int))))
     rw[hnext.out,hm]
     push_cast
     exact this
    ·exact HI.out.2.drew.setCell (p:=⟨w1.heap.size,0,none⟩) hw1 _
    ·exact(KeepsS.below S (Below.drew (Below.refl _ _))).trans (KeepsS.setCell S W.drew ⟨w1.heap.size,0,none⟩ _ ((HSS.out _).2 rfl))
  case done =>
   rintro D S W hD hSD hI _ hDW
   obtain⟨⟨hv,_⟩,hB⟩:=hI
   have hvc:=hv.cell
   have HH:=lH (And.intro hD (And.intro hDW hB))
   clear hv hB hDW
   rw[xg9] at hvc
   gi_wp2
   obtain⟨h1,h2,h3⟩:=HH.out
   refine⟨by simp,.inl ⟨_,_,rfl,run_takeDeferred h2,?_⟩⟩
   refine⟨_,results_tmp rfl _ _ _,by rw[HE.out];rfl,?_⟩
   exact(xbm (β:=Unit) (T:=fun _=>False) (Nat.le_refl _) (B:=w.heap.size) (Nat.le_refl _) (fun _ h=>h.elim)).put (s:=()) h3 _ (by omega) h2 rfl
 ·have he:xez l=0:=by unfold xez;rw[if_neg h0]
  rw[he]
  have hne:(xaC l == 0)=false:=by simpa using h0
  generalize xaC l=r at *
  clear h0 he hcap hmx hm
  go_enter Tryz.func135,Tryz.ntmps135
  go_wp2_with fail
  refine HR.out.mono ?_
  rintro x w1 ⟨rfl,hb⟩
  go_wp2_with fail
  go_ret
  exact⟨rfl,hb⟩
end Go.Proofs.YtjinnigjfopbcaaGreatDoor
namespace Go.Proofs.YtjinnigjfopbcaaGreatDoor
set_option linter.unusedVariables false
set_option linter.unusedSimpArgs false
open Go.RowKit
set_option maxRecDepth 20000
open Go.RowKit
set_option maxRecDepth 20000
theorem xsG:(Tryz.prog.info? 74).map (fun i=>(i.zero,i.size,i.bytes))=some (some (.agg #[.int .u64 0,.int .u64 0,.int .u32 0,.int .u32 0]),4,24):=by kernel_rfl
def FSt (w:World) (B:Nat) (e:En) (W:World):Prop:=EAt W w.heap.size xcT∧EAt W B e∧(∀ o,W.frozen? ⟨w.heap.size,o,none⟩=false)∧Below w.heap.size w W∧w.heap.size<B
theorem FSt.later {w:World} {B:Nat} {e:En} {W W':World} (h:FSt w B e W) (hb:Below W.heap.size W W'):FSt w B e W' :=
 ⟨h.1.later hb,h.2.1.later hb,fun o=>by
  have hl:=xba (a:=⟨w.heap.size,0,none⟩) h.1.1
  have:=h.2.2.1 o
  simp only[World.frozen?] at this ⊢
  rw[hb.block _ hl]
  exact this,h.2.2.2.1.trans (hb.mono h.2.2.2.1.size),h.2.2.2.2⟩
end Go.Proofs.YtjinnigjfopbcaaGreatDoor
namespace Go.Proofs.YtjinnigjfopbcaaGreatDoor
set_option linter.unusedVariables false
set_option linter.unusedSimpArgs false
open Go.RowKit
set_option maxRecDepth 20000
theorem xak.takeS {w:World} {l:List En} {g off cap:Nat} (h:xak w (.slice (some ⟨g,off,none⟩) l.length cap) l) (i:Nat) (hi:i≤l.length):xak w (.slice (some ⟨g,off,none⟩) i cap) (l.take i):=by
 obtain⟨a',c',e',h1,h2,hc⟩:=h
 cases e'
 refine⟨_,cap,by rw[List.length_take,Nat.min_eq_left hi],by rw[List.length_take];omega,h2,fun k t ht=>?_⟩
 refine hc k t ?_
 rw[List.getElem?_take] at ht
 split at ht
 ·exact ht
 ·cases ht
theorem xak.dropS {w:World} {l:List En} {g off cap:Nat} (h:xak w (.slice (some ⟨g,off,none⟩) l.length cap) l) (i:Nat) (hi:i≤l.length):xak w (.slice (some ⟨g,off+i*4,none⟩) (l.length - i) (cap - i)) (l.drop i):=by
 obtain⟨a',c',e',h1,h2,hc⟩:=h
 cases e'
 refine⟨_,cap - i,by rw[List.length_drop],by rw[List.length_drop];omega,by omega,fun k t ht=>?_⟩
 rw[List.getElem?_drop] at ht
 obtain⟨g',o',e,hg,c0,c1,c2,c3⟩:=hc (i+k) t ht
 cases e
 refine⟨g,off+i*4,rfl,hg,?_,?_,?_,?_⟩
 ·rw[show off+i*4+k*4=off+(i+k)*4 by omega];exact c0
 ·rw[show off+i*4+k*4+1=off+(i+k)*4+1 by omega];exact c1
 ·rw[show off+i*4+k*4+2=off+(i+k)*4+2 by omega];exact c2
 ·rw[show off+i*4+k*4+3=off+(i+k)*4+3 by omega];exact c3
def Pcs (w:World) (vs:List Value) (ps:List (List En)):Prop:=vs.length=ps.length∧∀ (k:Nat) (x:Value) (p:List En),vs[k]?=some x→ps[k]?=some p→xak w x p
theorem xmx (w:World):Pcs w [] []:=⟨rfl,fun k x p h=>by simp at h⟩
theorem Pcs.below {w w':World} {vs:List Value} {ps:List (List En)} (h:Pcs w vs ps) (hb:Below w.heap.size w w'):Pcs w' vs ps:=⟨h.1,fun k x p hx hp=>(h.2 k x p hx hp).below hb⟩
theorem Pcs.snoc {w:World} {vs:List Value} {ps:List (List En)} (h:Pcs w vs ps) {x:Value} {p:List En} (hx:xak w x p):Pcs w (vs++[x]) (ps++[p]):=by
 refine⟨by rw[List.length_append,List.length_append,h.1];rfl,fun k y q hy hq=>?_⟩
 rcases Nat.lt_or_ge k vs.length with hlt|hge
 ·rw[List.getElem?_append_left hlt] at hy
  rw[List.getElem?_append_left (by have:=h.1;omega)] at hq
  exact h.2 k y q hy hq
 ·rw[List.getElem?_append_right hge] at hy
  rw[List.getElem?_append_right (by have:=h.1;omega),← h.1] at hq
  have h0:k - vs.length=0:=by
   have:=(List.getElem?_eq_some_iff.1 hy).1
   simp at this
   omega
  rw[h0] at hy hq
  simp at hy hq
  rw[← hy,← hq]
  exact hx
def xip (w:World) (v:Value) (ps:List (List En)):Prop:=∃ vs,xb0 w v vs∧Pcs w vs ps
theorem xip.below {w w':World} {v:Value} {ps:List (List En)} (h:xip w v ps) (hb:Below w.heap.size w w'):xip w' v ps:=by
 obtain⟨vs,h1,h2⟩:=h
 exact⟨vs,h1.below hb,h2.below hb⟩
theorem xip.at {w:World} {v:Value} {ps:List (List En)} (h:xip w v ps) (k:Nat) (p:List En) (hp:ps[k]?=some p):∃ g off cap x,v=.slice (some ⟨g,off,none⟩) ps.length cap∧g<w.heap.size∧w.cell? ⟨g,off+k,none⟩=some x∧xak w x p:=by
 obtain⟨vs,⟨a,cap,rfl,h1,h2,hc⟩,hl,he⟩:=h
 have hk:=(List.getElem?_eq_some_iff.1 hp).1
 obtain⟨x,hx⟩:∃ x,vs[k]?=some x:=⟨_,List.getElem?_eq_getElem (by omega)⟩
 obtain⟨g,off,rfl,hg,c0⟩:=hc k x hx
 exact⟨g,off,cap,x,by rw[hl],hg,c0,he k x p hx hp⟩
theorem xip.form {w:World} {v:Value} {ps:List (List En)} (h:xip w v ps):∃ a cap,v=.slice a ps.length cap∧ps.length≤cap∧cap≤maxLen:=by
 obtain⟨vs,⟨a,cap,rfl,h1,h2,hc⟩,hl,he⟩:=h
 exact⟨a,cap,by rw[hl],by omega,h2⟩
theorem xeA (W:World) (B:Nat) (TS E ty:TypeId) (z:Value) (ht:Tryz.prog.underlying TS=some (.slice E)) (hI:(Tryz.prog.info? E).map (fun i=>(i.zero,i.size,i.bytes))=some (some z,4,24)) (hzs:z.cells.size=4)
  (v x:Value) (L m:List En) (hown:xa1 W B E v L) (hx:xak W x m) (hl:L.length+m.length≤40000000) (hb:B≤W.heap.size) :
  ∃ v' w',(Builtin.append_ #[TS,TS] ty #[v,x]).run Tryz.prog W=.ok v' w'∧xa1 w' B E v' (L++m)∧W.grownBy w' v.ownBlock:=by
 obtain⟨a,cap,rfl,h1,h2,hc⟩:=hx
 have fin:∀ {w':World} {v':Value},w'.ownsRow B E 4 v' (L.length+m.length) (xaB L++xaB m)→xa1 w' B E v' (L++m):=by
  intro w' v' h
  unfold xa1
  rw[xb1,List.length_append]
  exact h
 cases a with
 | none =>
  have hl0:m=[]:=by
   cases m with
   | nil=>rfl
   | cons t l=>obtain⟨g,off,ha,_⟩:=hc 0 t rfl;cases ha
  subst hl0
  refine⟨v,W,?_,by rw[List.append_nil];exact hown,World.grownBy.refl _ _⟩
  obtain⟨i0,hi,hz0,hz1,hz2⟩:=xao hI
  rcases hown.2 with ⟨rfl,hn⟩|⟨g,cap2,cur,rfl,hbg,hg,hnc,hcm,hcs,htake⟩
  ·simp[Builtin.append_,run_underlying ht,sizeOf,typeInfo,hi,Builtin.lenOf,Builtin.firstCells,loadCells,loadCellsFrom]
  ·simp[Builtin.append_,run_underlying ht,sizeOf,typeInfo,hi,Builtin.lenOf,Builtin.firstCells,loadCells,loadCellsFrom,hnc,storeCells]
 | some ad =>
  have hnews:∀ j u,(xaB m)[j]?=some u→W.cell? (ad.add j)=some u:=by
   intro j u hu
   have hj:j<m.length*4:=by rw[← xbv];exact(List.getElem?_eq_some_iff.1 hu).1
   obtain⟨t,ht⟩:∃ t,m[j / 4]?=some t:=⟨_,List.getElem?_eq_getElem (by omega)⟩
   obtain⟨g,off,ha,_,c0,c1,c2,c3⟩:=hc (j / 4) t ht
   obtain⟨f0,f1,f2,f3⟩:=xe5 m (j / 4) t ht
   injection ha with ha
   subst ha
   have hadd:(⟨g,off,none⟩:Addr).add j=⟨g,off+j,none⟩:=by simp[Addr.add]
   rw[hadd]
   rcases(by omega:j=j / 4*4∨j=j / 4*4+1∨j=j / 4*4+2∨j=j / 4*4+3) with e|e|e|e
   ·rw[e,f0] at hu;rw[← hu];rw[show off+j=off+j / 4*4 from by omega];exact c0
   ·rw[e,f1] at hu;rw[← hu];rw[show off+j=off+j / 4*4+1 from by omega];exact c1
   ·rw[e,f2] at hu;rw[← hu];rw[show off+j=off+j / 4*4+2 from by omega];exact c2
   ·rw[e,f3] at hu;rw[← hu];rw[show off+j=off+j / 4*4+3 from by omega];exact c3
  obtain⟨i0,hi,hz0,hz1,hz2⟩:=xao hI
  obtain⟨v',w',hr,h2,h3,h4⟩:=run_append_own (P:=Tryz.prog) W B TS ty E i0 _ 4 24 ht hi hz0 hz1 hz2 hzs (by omega) v L.length (xaB L) hown ad m.length cap (xaB m) (xbv m) hnews (xds m) (by unfold maxLen;omega) (by omega) hb
  exact⟨v',w',hr,fin h2,h3⟩
def xsn (n:Int) (l:List En):List (List En):=if n<1 then [] else xbp n.toNat l
theorem xag {w:World} {v:Value} {l:List En} (h:xak w v l):∃ a cap,v=.slice a l.length cap:=by
 obtain⟨a,cap,e,_⟩:=h
 exact⟨a,cap,e⟩
end Go.Proofs.YtjinnigjfopbcaaGreatDoor
namespace Go.Proofs.YtjinnigjfopbcaaGreatDoor
set_option linter.unusedVariables false
set_option linter.unusedSimpArgs false
open Go.RowKit Go.Shelf
set_option maxRecDepth 20000
attribute [local go_sem] Oper.semAt_some
theorem xmy (n:Nat) (hn:1≤n):∀ (k:Nat) (l:List En),k<(xbp n l).length↔k*n<l.length
 | 0,l=>by
  cases l with
  | nil=>simp[xdK]
  | cons e l=>rw[xbr n hn _ (by simp)];simp
 | k+1,l=>by
  by_cases h:l=[]
  ·subst h;simp[xdK]
  ·rw[xbr n hn l h,List.length_cons,Nat.add_lt_add_iff_right,xmy n hn k (l.drop n),List.length_drop,Nat.succ_mul]
   omega
theorem xsa (n:Nat) (hn:1≤n):∀ (k:Nat) (l:List En),k*n<l.length→(xbp n l)[k]?=some ((l.drop (k*n)).take n)
 | 0,l,h=>by
  have h0:l≠[]:=by intro e;rw[e] at h;simp at h
  rw[xbr n hn l h0];simp
 | k+1,l,h=>by
  have h0:l≠[]:=by intro e;rw[e] at h;simp at h
  rw[xbr n hn l h0,List.getElem?_cons_succ,xsa n hn k (l.drop n) (by rw[List.length_drop];rw[Nat.succ_mul] at h;omega),List.drop_drop,Nat.succ_mul,Nat.add_comm n]
def chV (g off len n k:Nat):Value:=.slice (some ⟨g,off+k*n*4,none⟩) (min n (len - k*n)) (min n (len - k*n))
theorem xt3 {W:World} {l:List En} {g off cap:Nat} (h:xak W (.slice (some ⟨g,off,none⟩) l.length cap) l) (n k:Nat) (hk:k*n<l.length):xak W (chV g off l.length n k) ((l.drop (k*n)).take n):=by
 have h1:=h.dropS (k*n) (Nat.le_of_lt hk)
 rw[← List.length_drop] at h1
 have h2:=h1.takeS (min n (l.length - k*n)) (by rw[List.length_drop];omega)
 have hl:((l.drop (k*n)).take n).length=min n (l.length - k*n):=by rw[List.length_take,List.length_drop]
 have hm:(l.drop (k*n)).take (min n (l.length - k*n))=(l.drop (k*n)).take n:=by
  rw[List.take_eq_take_iff,List.length_drop];omega
 rw[hm] at h2
 unfold chV
 generalize min n (l.length - k*n)=m at *
 obtain⟨a,c,e,g1,g2,hc⟩:=h2
 injection e with e1 e2 e3
 subst e1
 exact⟨_,_,by rw[hl],by rw[hl];exact Nat.le_refl _,by rw[hl] at g1;omega,hc⟩
set_option maxRecDepth 100000 in
theorem xk5 (l:List En) (g off cap n B0 B1:Nat) (a:Option Addr) (w:World) (hn:1≤n∧n≤9223372036854775807) (ha:l≠[]→a=some ⟨g,off,none⟩) (hcap:l.length≤cap) (hmx:cap≤maxLen) (hll:l.length≤1000000)
  (h0:w.cell? ⟨B0,0,none⟩=some (.slice a l.length cap)) (h1:w.cell? ⟨B1,0,none⟩=some (.int .i64 n)) :
  xrx Tryz.prog 273 #[.pointer (some ⟨B0,0,none⟩),.pointer (some ⟨B1,0,none⟩)] (fun k=>#[chV g off l.length n k]) (xbp n l).length (fun _=>False) (fun b=>b=B0∨b=B1) (fun _ _=>True) (fun _=>True) w:=by
 intro n0 lp J Jx S0 W hW hJ hJx hG hS0 hY hj0
 have hn0:¬ S0 B0:=fun h=>(hS0 _ h).2 (.inl rfl)
 have hn1:¬ S0 B1:=fun h=>(hS0 _ h).2 (.inr rfl)
 have g0:=xaa hW h0
 have g1:=xaa hW h1
 unfold maxLen at hmx
 have HJ:=lH hJ
 have HG:=lH hG
 have HY:=lH hY
 have HN0:=lH hn0
 have HN1:=lH hn1
 have HA:=lH ha
 have HG0:=lH g0
 have HG1:=lH g1
 have HLT:=lH (fun k=>xmy n hn.1 k l)
 have HCL:Hid ((xbp n l).length=(xbp n l).length):=lH rfl
 clear hJ hY hS0 hJx hn0 hn1 hG ha h0 h1
 refine callsIn_of_wp Tryz.func273 rfl trivial ?_ rfl
 simp only[Tryz.ntmps273,List.size_toArray,List.length_cons,List.length_nil,Nat.reduceAdd,Nat.reduceSub,Array.replicate_succ,Array.replicate_zero,List.push_toArray,List.append_toArray,List.nil_append,List.cons_append]
 clear g0 g1
 gi_wp2
 gi_loopw [4] (fun i wr=>∃ k q:Nat,Hid (q=k*n)∧i=.int .i64 (q:Int)∧Hid (k≤(xbp n l).length)∧∃ S,Hid (J k S wr)∧Hid (KeepsS S0 S W wr)) (fun i _=>l.length - (intOf i).toNat)
 case atStart=>exact⟨0,0,lH (by rw[Nat.zero_mul]),rfl,lH (Nat.zero_le _),S0,lH hj0,lH (.refl _ _)⟩
 case round =>
  obtain⟨k,q,HQ,rfl,HKL,S,HJs,HK⟩:=hrel
  have c0:=HK.out.cell (p:=⟨B0,0,none⟩) HN0.out HG0.out
  have c1:=HK.out.cell (p:=⟨B1,0,none⟩) HN1.out HG1.out
  by_cases hlt:q<l.length
  ·have hne:l≠[]:=by rintro rfl;simp at hlt
   have ha:=HA.out hne
   subst ha
   have hkl:=(HLT.out k).2 (by rw[← HQ.out];exact hlt)
   have HKN:=lH hkl
   have hJd:J k S wr.drew:=HJ.out.grow (s:=(k,S)) HJs.out (Below.drew (Below.refl _ _))
   have HJD:=lH hJd
   have HKD:=lH (KeepsS.below S (Below.drew (Below.refl wr.heap.size wr)))
   have d0:=xaa (Below.drew (Below.refl wr.heap.size wr)) c0
   have d1:=xaa (Below.drew (Below.refl wr.heap.size wr)) c1
   have hq1:(q:Int)<(l.length:Int):=by omega
   have hq2:(q:Int)≤(l.length:Int):=by omega
   have hq3:¬ cap - q=0:=by omega
   obtain⟨m,hm⟩:∃ m:Nat,min n (l.length - q)=m:=⟨_,rfl⟩
   have hm2:(if l.length - q<n then ((l.length - q:Nat):Int) else (n:Int))=(m:Int):=by split <;> omega
   have hm3:m≤l.length - q:=by omega
   have hm4:1≤m:=by omega
   have hw1:IntKind.i64.wrap ((q:Int)+(m:Int))=((q+m:Nat):Int):=by rw[IntKind.wrap_i64] <;> omega
   have hw2:IntKind.i64.wrap ((q:Int)+(n:Int))=((q+n:Nat):Int):=by
    have:=HQ.out
    cases k with
    | zero=>rw[IntKind.wrap_i64] <;> omega
    | succ k=>rw[Nat.succ_mul] at this;rw[IntKind.wrap_i64] <;> omega
   have hv:chV g off l.length n k=.slice (some ⟨g,off+q*4,none⟩) m m:=by unfold chV;rw[← HQ.out,hm]
   obtain⟨fn,tmps,assign,body,hy,hR⟩:=HY.out _ S _ HJD.out hkl
   rw[hv] at hy
   have HR:=lH hR
   have HM:=lH hm
   have HM2:=lH (And.intro hm2 (show min (n:Int) ((l.length - q:Nat):Int)=(m:Int) by omega))
   clear hkl hJd hne hR hv hm hm2
   gi_wp2
   gi_region
   first|rw[HM2.out.1]|rw[HM2.out.2]
   gi_wp2
   refine⟨xbn,HR.out.mono ?_⟩
   rintro x W3 (⟨rfl,S3,hJ3,hk3⟩|⟨rfl,hJx3,_⟩)
   ·have HJ3:=lH hJ3
    have HK3:=lH ((HK.out.trans HKD.out).trans hk3)
    have e1:=HK3.out.cell (p:=⟨B1,0,none⟩) HN1.out HG1.out
    have HQ2:Hid (q+n=(k+1)*n):=lH (by rw[Nat.succ_mul,← HQ.out])
    have hme:l.length - (q+n)<l.length - q:=by omega
    clear hJ3 hk3 c0 c1 d0 d1 HK HKD HJD HJs hy HR HM HM2 HN0 HA
    gi_wp2
    go_roundw
    case rel=>exact⟨k+1,q+n,HQ2,by first|rfl|(push_cast;rfl),lH HKN.out,S3,HJ3,HK3⟩
    case measure=>simp[intOf];omega
   ·have HJ3:=lH hJx3
    clear hJx3 c0 c1 d0 d1 HK HKD HJD HJs hy HR HM HM2 HN0 HA
    gi_wp2
    refine bodyPost_ret (results_none rfl _ _ _) rfl ?_
    exact⟨⟨_,rfl⟩,.inr ⟨k+1,HKN.out,HJ3.out⟩⟩
  ·have hq1:¬ (q:Int)<(l.length:Int):=by omega
   have HKE:Hid (k=(xbp n l).length):=lH (by
    have h1:=HKL.out
    have h2:=mt (HLT.out k).1 (by rw[← HQ.out];exact hlt)
    omega)
   gi_wp2
   go_end0
   have hjz:J (xbp n l).length S wr:=by rw[← HKE.out];exact HJs.out
   first|exact⟨⟨_,rfl⟩,.inl ⟨S,hjz,trivial⟩⟩|exact⟨⟨_,rfl⟩,.inl ⟨S,hjz⟩⟩
theorem xmF (v:Value) (l:List En) (n:Nat) (w:World) (hv:xak w v l) (hn:1≤n∧n≤9223372036854775807) :
  Calls Tryz.prog 211 #[v,.int .i64 n] w fun e w'=>e=.returned (.func (.func 273) #[] #[.pointer (some ⟨w.heap.size,0,none⟩),.pointer (some ⟨w.heap.size+1,0,none⟩)])∧w'.cell? ⟨w.heap.size,0,none⟩=some v∧w'.cell? ⟨w.heap.size+1,0,none⟩=some (.int .i64 n)∧Below w.heap.size w w':=by
 obtain⟨av,cv,rfl⟩:=xag hv
 clear hv
 have hn1:¬ (n:Int)<1:=by omega
 have d1:decide ((n:Int)<1)=false:=decide_eq_false hn1
 go_enter Tryz.func211,Tryz.ntmps211
 go_wp2_with fail
 go_ret
 exact⟨rfl,by simp,by simp,by go_grown⟩
end Go.Proofs.YtjinnigjfopbcaaGreatDoor
namespace Go.Proofs.YtjinnigjfopbcaaGreatDoor
set_option linter.unusedVariables false
set_option linter.unusedSimpArgs false
open Go.RowKit
def xee (l:List En) (w:World) (x:Ending) (w':World):Prop:=∃ v',x=.returned v'∧xak w' v' l∧(∀ a n c,v'=.slice (some a) n c→w.heap.size≤a.block∧a.block<w'.heap.size)∧Below w.heap.size w w'
theorem xqh {W:World} {ad:Addr} {cap:Nat} {l:List En} (h:xak W (.slice (some ad) l.length cap) l):∀ j u,(xaB l)[j]?=some u→W.cell? (ad.add j)=some u:=by
 obtain⟨a,cap',he,h1,h2,hc⟩:=h
 cases he
 intro j u hu
 have hj:j<l.length*4:=by rw[← xbv];exact(List.getElem?_eq_some_iff.1 hu).1
 obtain⟨t,ht⟩:∃ t,l[j / 4]?=some t:=⟨_,List.getElem?_eq_getElem (by omega)⟩
 obtain⟨g,off,ha,_,c0,c1,c2,c3⟩:=hc (j / 4) t ht
 obtain⟨f0,f1,f2,f3⟩:=xe5 l (j / 4) t ht
 injection ha with ha
 subst ha
 have hadd:(⟨g,off,none⟩:Addr).add j=⟨g,off+j,none⟩:=by simp[Addr.add]
 rw[hadd]
 rcases(by omega:j=j / 4*4∨j=j / 4*4+1∨j=j / 4*4+2∨j=j / 4*4+3) with e|e|e|e
 ·rw[e,f0] at hu;rw[← hu];rw[show off+j=off+j / 4*4 from by omega];exact c0
 ·rw[e,f1] at hu;rw[← hu];rw[show off+j=off+j / 4*4+1 from by omega];exact c1
 ·rw[e,f2] at hu;rw[← hu];rw[show off+j=off+j / 4*4+2 from by omega];exact c2
 ·rw[e,f3] at hu;rw[← hu];rw[show off+j=off+j / 4*4+3 from by omega];exact c3
theorem xfe (ad:Addr) (n c:Nat) (w:World):(Op.equal 27 (.slice (some ad) n c) (.slice none 0 0)).run Tryz.prog w=.ok false w:=by
 rw[Op.equal,show Op.maxDepth=9999+1 from rfl]
 unfold Op.equalIn
 simp[go_sem]
theorem xeH (ad:Addr) (n c:Nat) (w:World):(binOp BinOp.eql 27 (.slice (some ad) n c) (.slice none 0 0)).run Tryz.prog w=.ok (.bool false) w:=by
 simp[binOp,go_sem,xfe]
theorem xfs (c:Nat) (w:World):(Op.equal 27 (.slice none 0 c) (.slice none 0 0)).run Tryz.prog w=.ok true w:=by
 rw[Op.equal,show Op.maxDepth=9999+1 from rfl]
 unfold Op.equalIn
 simp[go_sem]
theorem xeG (c:Nat) (w:World):(binOp BinOp.eql 27 (.slice none 0 c) (.slice none 0 0)).run Tryz.prog w=.ok (.bool true) w:=by
 simp[binOp,go_sem,xfs]
set_option maxRecDepth 20000 in
theorem xgq (v:Value) (l:List En) (w:World) (hv:xak w v l) (hl:l.length≤4096):Calls Tryz.prog 136 #[v] w (xee l w):=by
 obtain⟨i0,hi,hz0,hz1,hz2⟩:=xao xsG
 have HI0:=lH hi
 have HZ0:=lH hz0
 have HZ1:=lH hz1
 have HZ2:=lH hz2
 clear hi hz0 hz1 hz2
 have hv':=hv
 obtain⟨a,cap,rfl,h1,h2,hc⟩:=hv'
 cases a with
 | none =>
  have hl0:l=[]:=by
   cases l with
   | nil=>rfl
   | cons t l=>obtain⟨g,off,ha,_⟩:=hc 0 t rfl;cases ha
  subst hl0
  clear hc hv
  have hneq:=fun W=>xeG cap W
  go_enter Tryz.func136,Tryz.ntmps136
  go_wp2_with fail
  go_ret
  exact⟨_,rfl,xbb _,fun a n c h=>(by cases h),Below.refl _ _⟩
 | some ad =>
  have HV:=lH hv
  have hneq:=fun W=>xeH ad l.length cap W
  clear hc hv
  go_enter Tryz.func136,Tryz.ntmps136
  have HO:Hid ((w.alloc (.cells #[] 74)).ownsRow w.heap.size 74 4 (.slice (some ⟨w.heap.size,0,none⟩) 0 0) 0 (xaB [])):=lH ⟨rfl,.inr ⟨w.heap.size,0,#[],rfl,Nat.le_refl _,heap_alloc_new w _,Nat.le_refl _,Nat.zero_le _,rfl,rfl⟩⟩
  have HNW:=lH (xqh (HV.out.below ((Below.refl w.heap.size w).alloc (Nat.le_refl _) (.cells #[] 74))))
  go_wp2_with (first|(at_builtin;refine wpList_append_own _ rfl _ _ 27 rfl w.heap.size 74 i0 (.agg #[.int .u64 0,.int .u64 0,.int .u32 0,.int .u32 0]) 4 24 Tryz.underlying27 HI0.out HZ0.out HZ1.out HZ2.out rfl (by decide) _ _ _ rfl HO.out ad l.length cap (xaB l) rfl (xbv l) HNW.out (xds l) ?c4 ?c5 ?c6 ?_)|fail)
  case c4=>unfold maxLen;omega
  case c5=>omega
  case c6=>simp
  intro v' w5 hown' hgr _
  have hO:xa1 w5 w.heap.size 74 v' l:=xbQ hown' (by omega) (by simp[xaB])
  have hb5:Below w.heap.size w w5:=((Below.refl w.heap.size w).alloc (Nat.le_refl _) _).grown hgr (by simp) (fun g hg=>(World.ownsRow.lt HO.out g hg).1)
  have HO5:=lH hO
  have HB5:=lH hb5
  clear hown' hgr hO hb5
  go_wp2_with fail
  go_ret
  exact⟨_,rfl,HO5.out.ensAt,fun a n c h=>(HO5.out.lt a.block (by have h':v'=.slice (some a) n c:=h;rw[h'];rfl)),HB5.out⟩
end Go.Proofs.YtjinnigjfopbcaaGreatDoor
