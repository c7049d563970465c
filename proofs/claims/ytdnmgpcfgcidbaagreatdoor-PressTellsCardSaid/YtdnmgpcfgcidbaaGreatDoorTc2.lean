/- cYb cMA. -/
import Derived.Test.YtdnmgpcfgcidbaaGreatDoorTc1
import Derived.Test.YtdnmgpcfgcidbaaGreatDoorTa10
namespace Go.Proofs.YtdnmgpcfgcidbaaGreatDoor
set_option linter.unusedVariables false
set_option linter.unusedSimpArgs false
open Go.RowKit
set_option maxRecDepth 20000
theorem heap_new15 (w:World) (o:Obj):(w.alloc o).heap[w.heap.size]?=some o:=by
 show (w.heap.push o)[w.heap.size]?=_
 simp
def Box (w:World) (b:Nat) (arr:Array Value):Prop:=∃ T,w.heap[b]?=some (.cells arr T (0,0))
theorem box_new (w:World) (arr:Array Value) (T:TypeId):Box (w.alloc (.cells arr T)) w.heap.size arr:=⟨T,heap_new15 w _⟩
theorem Box.lt {w:World} {b:Nat} {arr:Array Value} (h:Box w b arr):b<w.heap.size:=by obtain⟨T,h⟩:=h;exact(Array.getElem?_eq_some_iff.1 h).1
theorem Box.below {w w':World} {b:Nat} {arr:Array Value} (h:Box w b arr) (hb:Below w.heap.size w w'):Box w' b arr:=by
 have hl:=h.lt
 obtain⟨T,h⟩:=h
 exact⟨T,(hb.block b hl).trans h⟩
theorem Box.cell {w:World} {b:Nat} {arr:Array Value} (h:Box w b arr) (j:Nat):w.cell? ⟨b,j,none⟩=arr[j]?:=by
 obtain⟨T,h⟩:=h
 simp[World.cell?,h]
theorem Box.frz {w:World} {b:Nat} {arr:Array Value} (h:Box w b arr) (j:Nat):w.frozen? ⟨b,j,none⟩=false:=by
 obtain⟨T,h⟩:=h
 simp[World.frozen?,h]
theorem hset {w:World} {b:Nat} {arr:Array Value} {T:TypeId} (H:w.heap[b]?=some (.cells arr T (0,0))) (j:Nat) (v:Value):(w.setCell ⟨b,j,none⟩ v).heap[b]?=some (.cells (arr.setIfInBounds j v) T (0,0)):=by
 simp[World.setCell,Array.getElem?_modify,H]
theorem hother {w:World} {b b':Nat} {o:Obj} (H:w.heap[b]?=some o) (hn:b≠b') (j:Nat) (v:Value):(w.setCell ⟨b',j,none⟩ v).heap[b]?=some o:=(Below.heap_setCell _ _ _ _ (by simpa using hn)).trans H
theorem hrow {w:World} {b:Nat} {arr cs:Array Value} {T:TypeId} (H:w.heap[b]?=some (.cells arr T (0,0))) (hs:arr.size=cs.size):(w.setRow b cs).heap[b]?=some (.cells cs T (0,0)):=by
 simp[World.setRow,Array.getElem?_modify,H]
def sArr (s:Sc):Array Value:=#[.int .u64 s.rf,.int .u64 s.rl,.int .u64 s.mf,.int .u64 s.ml,.int .u64 s.lf,.int .u64 s.ll,.int .u64 s.df,.int .u64 s.dl]
def SecEnd (P:Pl) (w:World) (e:Ending) (w':World):Prop:=e=.returned (.tuple #[.agg (sArr P.sec),.int .u64 P.all,.int .i64 P.err])∧Below w.heap.size w w'
set_option maxRecDepth 100000 in
set_option maxHeartbeats 4000000 in
theorem rsections_ok (a b c d:Int) (w:World) (ha:0≤a∧a≤1099511627776) (hb:0≤b∧b≤1099511627776) (hc:0≤c∧c≤1099511627776) (hd:0≤d∧d≤1099511627776) (hs:127+a+b+c+d≤1099511627776) :
  Calls Tryz.prog 98 #[.agg #[.int .u64 a,.int .u64 b,.int .u64 c,.int .u64 d]] w (SecEnd ⟨⟨127,a,127+a,b,127+a+b,c,127+a+b+c,d⟩,127+a+b+c+d,0⟩ w):=by
 unfold SecEnd sArr
 have h1:¬ (1099511627776:Int)<a:=by omega
 have h2:¬ (1099511627776:Int)<b:=by omega
 have h3:¬ (1099511627776:Int)<c:=by omega
 have h4:¬ (1099511627776:Int)<d:=by omega
 have h5:¬ (1099511627776:Int)<127+a+b+c+d:=by omega
 have w1:IntKind.u64.wrap (127+a)=127+a:=by rw[IntKind.wrap_u64];omega
 have w2:IntKind.u64.wrap (127+a+b)=127+a+b:=by rw[IntKind.wrap_u64];omega
 have w3:IntKind.u64.wrap (127+a+b+c)=127+a+b+c:=by rw[IntKind.wrap_u64];omega
 have w4:IntKind.u64.wrap (127+a+b+c+d)=127+a+b+c+d:=by rw[IntKind.wrap_u64];omega
 clear ha hb hc hd hs
 go_enter Tryz.func98,Tryz.ntmps98
 go_wp2_with fail
 refine wp_loop_rounds 5 ?_
 rw[rounds_succ]
 go_wp2_with fail
 rw[rounds_succ]
 go_wp2_with fail
 rw[rounds_succ]
 go_wp2_with fail
 rw[rounds_succ]
 go_wp2_with fail
 rw[rounds_succ]
 go_wp2_with fail
 refine bodyPost_ret (v:=.tuple #[.agg #[.int .u64 127,.int .u64 a,.int .u64 (127+a),.int .u64 b,.int .u64 (127+a+b),.int .u64 c,.int .u64 (127+a+b+c),.int .u64 d],.int .u64 (127+a+b+c+d),.int .i64 0]) (by simp[results,Tryz.results98,go_sem]) rfl ⟨rfl,by go_grown⟩
set_option maxRecDepth 100000 in
set_option maxHeartbeats 4000000 in
theorem rsections_bad0 (a b c d:Int) (w:World) (hx:1099511627776<a) :
  Calls Tryz.prog 98 #[.agg #[.int .u64 a,.int .u64 b,.int .u64 c,.int .u64 d]] w (SecEnd ⟨zeroSc,0,8⟩ w):=by
 unfold SecEnd sArr zeroSc
 go_enter Tryz.func98,Tryz.ntmps98
 go_wp2_with fail
 refine wp_loop_rounds 5 ?_
 rw[rounds_succ]
 go_wp2_with fail
 refine bodyPost_ret (v:=.tuple #[.agg #[.int .u64 0,.int .u64 0,.int .u64 0,.int .u64 0,.int .u64 0,.int .u64 0,.int .u64 0,.int .u64 0],.int .u64 0,.int .i64 8]) (by simp[results,Tryz.results98,go_sem]) rfl ⟨rfl,by go_grown⟩
set_option maxRecDepth 100000 in
set_option maxHeartbeats 4000000 in
theorem rsections_bad1 (a b c d:Int) (w:World) (ha:0≤a∧a≤1099511627776) (hx:1099511627776<b) :
  Calls Tryz.prog 98 #[.agg #[.int .u64 a,.int .u64 b,.int .u64 c,.int .u64 d]] w (SecEnd ⟨zeroSc,0,8⟩ w):=by
 unfold SecEnd sArr zeroSc
 have h1:¬ (1099511627776:Int)<a:=by omega
 have w1:IntKind.u64.wrap (127+a)=127+a:=by rw[IntKind.wrap_u64];omega
 clear ha
 go_enter Tryz.func98,Tryz.ntmps98
 go_wp2_with fail
 refine wp_loop_rounds 5 ?_
 rw[rounds_succ]
 go_wp2_with fail
 rw[rounds_succ]
 go_wp2_with fail
 refine bodyPost_ret (v:=.tuple #[.agg #[.int .u64 0,.int .u64 0,.int .u64 0,.int .u64 0,.int .u64 0,.int .u64 0,.int .u64 0,.int .u64 0],.int .u64 0,.int .i64 8]) (by simp[results,Tryz.results98,go_sem]) rfl ⟨rfl,by go_grown⟩
set_option maxRecDepth 100000 in
set_option maxHeartbeats 4000000 in
theorem rsections_bad2 (a b c d:Int) (w:World) (ha:0≤a∧a≤1099511627776) (hb:0≤b∧b≤1099511627776) (hx:1099511627776<c) :
  Calls Tryz.prog 98 #[.agg #[.int .u64 a,.int .u64 b,.int .u64 c,.int .u64 d]] w (SecEnd ⟨zeroSc,0,8⟩ w):=by
 unfold SecEnd sArr zeroSc
 have h1:¬ (1099511627776:Int)<a:=by omega
 have h2:¬ (1099511627776:Int)<b:=by omega
 have w1:IntKind.u64.wrap (127+a)=127+a:=by rw[IntKind.wrap_u64];omega
 have w2:IntKind.u64.wrap (127+a+b)=127+a+b:=by rw[IntKind.wrap_u64];omega
 clear ha hb
 go_enter Tryz.func98,Tryz.ntmps98
 go_wp2_with fail
 refine wp_loop_rounds 5 ?_
 rw[rounds_succ]
 go_wp2_with fail
 rw[rounds_succ]
 go_wp2_with fail
 rw[rounds_succ]
 go_wp2_with fail
 refine bodyPost_ret (v:=.tuple #[.agg #[.int .u64 0,.int .u64 0,.int .u64 0,.int .u64 0,.int .u64 0,.int .u64 0,.int .u64 0,.int .u64 0],.int .u64 0,.int .i64 8]) (by simp[results,Tryz.results98,go_sem]) rfl ⟨rfl,by go_grown⟩
set_option maxRecDepth 100000 in
set_option maxHeartbeats 4000000 in
theorem rsections_bad3 (a b c d:Int) (w:World) (ha:0≤a∧a≤1099511627776) (hb:0≤b∧b≤1099511627776) (hc:0≤c∧c≤1099511627776) (hx:1099511627776<d) :
  Calls Tryz.prog 98 #[.agg #[.int .u64 a,.int .u64 b,.int .u64 c,.int .u64 d]] w (SecEnd ⟨zeroSc,0,8⟩ w):=by
 unfold SecEnd sArr zeroSc
 have h1:¬ (1099511627776:Int)<a:=by omega
 have h2:¬ (1099511627776:Int)<b:=by omega
 have h3:¬ (1099511627776:Int)<c:=by omega
 have w1:IntKind.u64.wrap (127+a)=127+a:=by rw[IntKind.wrap_u64];omega
 have w2:IntKind.u64.wrap (127+a+b)=127+a+b:=by rw[IntKind.wrap_u64];omega
 have w3:IntKind.u64.wrap (127+a+b+c)=127+a+b+c:=by rw[IntKind.wrap_u64];omega
 clear ha hb hc
 go_enter Tryz.func98,Tryz.ntmps98
 go_wp2_with fail
 refine wp_loop_rounds 5 ?_
 rw[rounds_succ]
 go_wp2_with fail
 rw[rounds_succ]
 go_wp2_with fail
 rw[rounds_succ]
 go_wp2_with fail
 rw[rounds_succ]
 go_wp2_with fail
 refine bodyPost_ret (v:=.tuple #[.agg #[.int .u64 0,.int .u64 0,.int .u64 0,.int .u64 0,.int .u64 0,.int .u64 0,.int .u64 0,.int .u64 0],.int .u64 0,.int .i64 8]) (by simp[results,Tryz.results98,go_sem]) rfl ⟨rfl,by go_grown⟩
set_option maxRecDepth 100000 in
set_option maxHeartbeats 4000000 in
theorem rsections_bad4 (a b c d:Int) (w:World) (ha:0≤a∧a≤1099511627776) (hb:0≤b∧b≤1099511627776) (hc:0≤c∧c≤1099511627776) (hd:0≤d∧d≤1099511627776) (hx:1099511627776<127+a+b+c+d) :
  Calls Tryz.prog 98 #[.agg #[.int .u64 a,.int .u64 b,.int .u64 c,.int .u64 d]] w (SecEnd ⟨zeroSc,0,8⟩ w):=by
 unfold SecEnd sArr zeroSc
 have h1:¬ (1099511627776:Int)<a:=by omega
 have h2:¬ (1099511627776:Int)<b:=by omega
 have h3:¬ (1099511627776:Int)<c:=by omega
 have h4:¬ (1099511627776:Int)<d:=by omega
 have w1:IntKind.u64.wrap (127+a)=127+a:=by rw[IntKind.wrap_u64];omega
 have w2:IntKind.u64.wrap (127+a+b)=127+a+b:=by rw[IntKind.wrap_u64];omega
 have w3:IntKind.u64.wrap (127+a+b+c)=127+a+b+c:=by rw[IntKind.wrap_u64];omega
 have w4:IntKind.u64.wrap (127+a+b+c+d)=127+a+b+c+d:=by rw[IntKind.wrap_u64];omega
 clear ha hb hc hd
 go_enter Tryz.func98,Tryz.ntmps98
 go_wp2_with fail
 refine wp_loop_rounds 5 ?_
 rw[rounds_succ]
 go_wp2_with fail
 rw[rounds_succ]
 go_wp2_with fail
 rw[rounds_succ]
 go_wp2_with fail
 rw[rounds_succ]
 go_wp2_with fail
 rw[rounds_succ]
 go_wp2_with fail
 refine bodyPost_ret (v:=.tuple #[.agg #[.int .u64 0,.int .u64 0,.int .u64 0,.int .u64 0,.int .u64 0,.int .u64 0,.int .u64 0,.int .u64 0],.int .u64 0,.int .i64 8]) (by simp[results,Tryz.results98,go_sem]) rfl ⟨rfl,by go_grown⟩
theorem rsections_any (a b c d:Int) (w:World) (ha:0≤a) (hb:0≤b) (hc:0≤c) (hd:0≤d):Calls Tryz.prog 98 #[.agg #[.int .u64 a,.int .u64 b,.int .u64 c,.int .u64 d]] w (SecEnd (secsN a b c d) w):=by
 unfold secsN
 by_cases h:tooBig a b c d
 ·rw[if_pos h]
  unfold tooBig at h
  by_cases h1:1099511627776<a
  ·exact rsections_bad0 a b c d w h1
  by_cases h2:1099511627776<b
  ·exact rsections_bad1 a b c d w ⟨ha,by omega⟩ h2
  by_cases h3:1099511627776<c
  ·exact rsections_bad2 a b c d w ⟨ha,by omega⟩ ⟨hb,by omega⟩ h3
  by_cases h4:1099511627776<d
  ·exact rsections_bad3 a b c d w ⟨ha,by omega⟩ ⟨hb,by omega⟩ ⟨hc,by omega⟩ h4
  exact rsections_bad4 a b c d w ⟨ha,by omega⟩ ⟨hb,by omega⟩ ⟨hc,by omega⟩ ⟨hd,by omega⟩ (by omega)
 ·rw[if_neg h]
  unfold tooBig at h
  exact rsections_ok a b c d w ⟨ha,by omega⟩ ⟨hb,by omega⟩ ⟨hc,by omega⟩ ⟨hd,by omega⟩ (by omega)
end Go.Proofs.YtdnmgpcfgcidbaaGreatDoor
namespace Go.Proofs.YtdnmgpcfgcidbaaGreatDoor
set_option linter.unusedVariables false
set_option linter.unusedSimpArgs false
open Go.RowKit
set_option maxRecDepth 20000
open Go.RowKit
set_option maxRecDepth 20000
open Go.RowKit
set_option maxRecDepth 20000
theorem widths7 {n:Int} (h0:1≤n) (h1:n<8):n=1∨n=2∨n=3∨n=4∨n=5∨n=6∨n=7:=by omega
theorem runsigned_8 (v:Int) (w:World) (v0:-9223372036854775808≤v) (v1:v≤9223372036854775807):Calls Tryz.prog 207 #[.int .i64 v,.int .i64 8] w fun e w'=>e=.returned (.tuple #[.int .u64 (low v 8),.int .i64 0])∧w=w':=by
 have HF:Hid (IntKind.u64.wrap v=low v 8):=by
  apply Lib.hid
  rw[wrap_u64];unfold low
  simp only[Int.reduceMul,Int.reduceToNat,Int.reducePow]
 clear v0 v1
 go_enter Tryz.func207,Tryz.ntmps207
 go_wp2
 go_ret2
 exact⟨ret2 HF.out rfl,rfl⟩
set_option maxHeartbeats 2000000 in
theorem runsigned_lo (v n:Int) (w:World) (h0:1≤n) (h1:n<8) (h:inr v n=true):Calls Tryz.prog 207 #[.int .i64 v,.int .i64 n] w fun e w'=>e=.returned (.tuple #[.int .u64 (low v n),.int .i64 0])∧w=w':=by
 rw[inr_iff] at h
 obtain⟨ha,hb⟩:=h
 rcases widths7 h0 h1 with rfl|rfl|rfl|rfl|rfl|rfl|rfl
 all_goals
  simp only[Int.reduceMul,Int.reduceSub,Int.reduceToNat,Int.reducePow] at ha hb
  go_enter Tryz.func207,Tryz.ntmps207
  go_wp2
  all_goals
   go_ret2
   refine⟨ret2 ?_ rfl,rfl⟩
   unfold low
   simp only[Int.reduceMul,Int.reduceToNat,Int.reducePow]
   omega
theorem runsigned_yes (v n:Int) (w:World) (v0:-9223372036854775808≤v) (v1:v≤9223372036854775807) (h0:1≤n) (h1:n≤8) (h:inr v n=true):Calls Tryz.prog 207 #[.int .i64 v,.int .i64 n] w fun e w'=>e=.returned (.tuple #[.int .u64 (low v n),.int .i64 0])∧w=w':=by
 by_cases h8:n=8
 ·subst h8;exact runsigned_8 v w v0 v1
 ·exact runsigned_lo v n w h0 (by omega) h
def leB:Nat→Int→List Int
 | 0,_=>[]
 | k+1,x=>x % 256 :: leB k (x / 256)
def shr:Nat→Int→Int
 | 0,x=>x
 | k+1,x=>shr k (x / 256)
theorem leB_len (k:Nat) (x:Int):(leB k x).length=k:=by
 induction k generalizing x with
 | zero=>rfl
 | succ k ih=>simp[leB,ih]
theorem shr_succ (k:Nat) (x:Int):shr (k+1) x=shr k x / 256:=by
 induction k generalizing x with
 | zero=>rfl
 | succ k ih=>exact ih (x / 256)
theorem leB_succ (k:Nat) (x:Int):leB (k+1) x=leB k x++[shr k x % 256]:=by
 induction k generalizing x with
 | zero=>rfl
 | succ k ih =>
  show x % 256 :: leB (k+1) (x / 256)=x % 256 :: leB k (x / 256)++[shr k (x / 256) % 256]
  rw[ih];rfl
theorem put_anyCc (v:Value) (l:List Int) (n x:Int) (m:Nat) (w:World) (hb:BytesAt w v l) (hl:l.length≤1000000) (hn:n=m∧1≤m∧m≤8∨m=0∧(n<1∨8<n)) (x0:0≤x) (x1:x≤18446744073709551615) :
  Calls Tryz.prog 200 #[v,.int .i64 n,.int .u64 x] w (PutEndBb w (l++leB m x)):=by
 obtain⟨a,cap,rfl,hc1,hc2,hcell⟩:=hb
 obtain⟨i0,hi,hz0,hz1,hz2⟩:=info_parts infoU8
 have HM:∀ (L:Nat) (W:World),L≤1000000→(Instr.makeSlice 158 (.int .i64 (L:Int)) (.int .i64 ((L:Int)+(m:Int)))).run Tryz.prog W=.ok (.slice (some ⟨W.heap.size,0,none⟩) L (L+m)) (W.alloc (.cells (madeCells #[.int .u8 0] ((L+m)*1)) 5)):=by
  intro L W hL
  have:=run_make (P:=Tryz.prog) W 158 5 i0 (.int .u8 0) Tryz.underlying158 hi hz0 .i64 .i64 (L:Int) ((L:Int)+(m:Int)) (by omega) (by omega) (by rw[hz2];omega) (by omega)
  rw[this,hz1]
  simp only[Int.toNat_natCast]
  rw[show ((L:Int)+(m:Int)).toNat=L+m from by omega]
  rfl
 have hmk:=HM l.length
 clear HM
 have hG:(w.alloc (.cells (madeCells #[.int .u8 0] (l.length+m)) 5)).heap[w.heap.size]?=some (.cells (List.replicate (l.length+m) (Value.int .u8 0)).toArray 5 (0,0)):=by
  rw[heap_alloc_new]
  have:=toList_madeCells_one (.int .u8 0) (l.length+m)
  rw[← this]
 have hpos:0<(l.map (Value.int .u8)).length→∃ ad,a=some ad∧∀ j u,(l.map (Value.int .u8))[j]?=some u→(w.alloc (.cells (madeCells #[.int .u8 0] (l.length+m)) 5)).cell? (ad.add j)=some u:=by
  intro h
  obtain⟨y,hy,hyb,hyc⟩:=hcell (by simpa using h)
  refine⟨y,hy,fun j u hj=>?_⟩
  have hjl:j<l.length:=by
   have:=(List.getElem?_eq_some_iff.1 hj).1
   simpa using this
  have hu:u=.int .u8 (l.getD j 0):=by simpa[hjl] using hj.symm
  rw[hu,← hyc j hjl]
  exact((Below.refl w.heap.size w).alloc (Nat.le_refl _) _).cell (p:=y.add j) (by rw[add_block];exact hyb)
 have HG:=Lib.hid hG;clear hG
 have HP:=Lib.hid hpos;clear hpos
 clear hcell
 have hml:l.length+8≤maxLen:=by unfold maxLen;omega
 rcases hn with ⟨rfl,hm1,hm8⟩|⟨rfl,hn⟩
 ·go_enter Tryz.func200,Tryz.ntmps200
  go_wp2_with (first|(go_at_call 225;refine(isw_yes _ _ (by omega) (by omega)).mono ?_;rintro e w' ⟨rfl,rfl⟩)|(with_reducible refine wpList_copy_splice rfl (.tmp 18) (.tmp 19) 158 158 rfl 5 Tryz.underlying158 (by kernel_rfl) _ _ _ _ _ _ rfl rfl w.heap.size 0 (List.replicate (l.length+m) (Value.int .u8 0)) 5 HG.out (l.map (Value.int .u8)) (by simp) (fun h=>⟨rfl,HP.out h⟩) (by simp) (ints_oneCell _ _) w.heap.size w ((Below.refl _ _).alloc (Nat.le_refl _) _) (Nat.le_refl _) ?_;intro w2 HG2 HB2)|fail)
  have hO:=own_of_splice HG2.out (by omega)
  clear HG2 HG HP hmk
  go_loopw [7,2,22] (fun v x' i wr=>∃ (k:Nat) (y:Int),k≤m∧i=.int .i64 k∧x'=.int .u64 y∧0≤y∧y≤18446744073709551615∧Hid (shr k x=y)∧Own wr w.heap.size v (l++leB k x)∧Below w.heap.size w wr) (fun _ _ i _=>m - (intOf i).toNat)
  case atStart=>exact⟨0,x,Nat.zero_le _,rfl,rfl,x0,x1,rfl,by simpa[leB] using hO,HB2⟩
  case round =>
   obtain⟨k,y,hk,rfl,rfl,y0,y1,HY,hown,hbw⟩:=hrel
   have hlen:(l++leB k x).length=l.length+k:=by rw[List.length_append,leB_len]
   have HL:=Lib.hid hlen;clear hlen
   have hsz:=hbw.size
   by_cases hlt:k<m
   ·go_wp2_with (first|(at_builtin;refine wpList_append_own _ rfl _ _ 158 rfl w.heap.size 5 i0 (.int .u8 0) 1 1 Tryz.underlying158 hi hz0 hz1 hz2 rfl (by decide) _ _ _ rfl (World.ownsRow.alloc hown _) ⟨wr.heap.size,0,none⟩ 1 1 [.int .u8 (y % 256)] rfl rfl ?c1 ?c2 ?c3 ?c4 ?c5 ?_)|fail)
    case c1 =>
     intro j u hj
     match j,hj with
     | 0,hj=>simp at hj;subst hj;simp[Addr.add]
    case c2=>intro u hu;simp at hu;subst hu;rfl
    case c3=>rw[HL.out];unfold maxLen;omega
    case c4=>rw[HL.out];omega
    case c5=>rw[World.size_alloc];omega
    intro v' w1 hown' hgrow _
    have hbel:Below w.heap.size w w1:=(hbw.alloc (by omega) _).grown hgrow (by rw[World.size_alloc];omega) (fun g hg=>(World.ownsRow.lt hown g hg).1)
    have hO':Own w1 w.heap.size v' (l++leB (k+1) x):=by
     rw[leB_succ,HY.out,← List.append_assoc]
     exact Own.snoc (by simpa using hown')
    have HY':Hid (shr (k+1) x=y / 256):=by
     have:=shr_succ k x
     rw[HY.out] at this
     exact Lib.hid this
    clear hown' hgrow hown hbw HY
    go_wp2
    go_roundw
    case rel=>exact⟨k+1,y / 256,by omega,by go_num,rfl,by omega,by omega,HY',hO',hbel⟩
    case measure=>simp[intOf];omega
   ·obtain rfl:k=m:=by omega
    go_wp2
    go_ret
    exact⟨_,rfl,hown,hbw⟩
 ·simp only[Nat.add_zero] at HG HP
  have hmk0:∀ (W:World),(Instr.makeSlice 158 (.int .i64 (l.length:Int)) (.int .i64 (l.length:Int))).run Tryz.prog W=.ok (.slice (some ⟨W.heap.size,0,none⟩) l.length l.length) (W.alloc (.cells (madeCells #[.int .u8 0] l.length) 5)):=by
   intro W
   have:=hmk W hl
   simpa using this
  clear hmk
  go_enter Tryz.func200,Tryz.ntmps200
  go_wp2_with (first|(go_at_call 225;refine(isw_no _ _ (by omega)).mono ?_;rintro e w' ⟨rfl,rfl⟩)|(with_reducible refine wpList_copy_splice rfl (.tmp 18) (.tmp 19) 158 158 rfl 5 Tryz.underlying158 (by kernel_rfl) _ _ _ _ _ _ rfl rfl w.heap.size 0 (List.replicate l.length (Value.int .u8 0)) 5 HG.out (l.map (Value.int .u8)) (by simp) (fun h=>⟨rfl,HP.out h⟩) (by simp) (ints_oneCell _ _) w.heap.size w ((Below.refl _ _).alloc (Nat.le_refl _) _) (Nat.le_refl _) ?_;intro w2 HG2 HB2)|fail)
  have hO:=own_of_splice (m:=0) HG2.out (by omega)
  clear HG2 HG HP hmk0
  refine wp_loop_rounds 1 ?_
  rw[rounds_succ]
  go_wp2
  go_ret
  exact⟨_,rfl,by simpa[leB] using hO,HB2⟩
theorem own_nil (w:World) (B:Nat):Own w B (.slice none 0 0) []:=World.ownsRow_nil _ _ _ _
theorem own_step {w wr w1:World} {v v':Value} {l:List Int} {c:Int} {k:Nat} (hlen:l.length=k) (hsz:w.heap.size≤wr.heap.size) (hbw:Below w.heap.size w wr) (hown:Own wr w.heap.size v l)
  (hown':w1.ownsRow w.heap.size 5 1 v' (l.length+1) (l.map (Value.int .u8)++[.int .u8 c])) (hgrow:(wr.alloc (.cells #[.int .u8 c] 5)).grownBy w1 v.ownBlock) :
  Own w1 w.heap.size v' (l++[c])∧Below w.heap.size w w1 :=
 ⟨Own.snoc hown',(hbw.alloc (by omega) _).grown hgrow (by rw[World.size_alloc];omega) (fun g hg=>(World.ownsRow.lt hown g hg).1)⟩
theorem shr_hid (k:Nat) (x y:Int) (h:shr k x=y):shr (k+1) x=y / 256:=by rw[shr_succ,h]
set_option maxRecDepth 20000 in
theorem rput_anyCc (v:Value) (l:List Int) (n x:Int) (m:Nat) (w:World) (hb:BytesAt w v l) (hl:l.length≤1000000) (hn:n=m∧1≤m∧m≤8∨m=0∧(n<1∨8<n)) (x0:0≤x) (x1:x≤18446744073709551615) :
  Calls Tryz.prog 206 #[v,.int .i64 n,.int .u64 x] w (PutEndBb w (l++leB m x)):=by
 have hb0:=hb
 obtain⟨a,cap,rfl,hc1,hc2,hcell⟩:=hb
 have HC:∀ k,k<l.length→∃ b off,a=some ⟨b,off,none⟩∧b<w.heap.size∧w.cell? ⟨b,off+k,none⟩=some (.int .u8 (l.getD k 0)):=by
  intro k hk
  obtain⟨⟨b,off,s⟩,ha,hxb,hx⟩:=hcell (by omega)
  have h0:=hx k hk
  have hs:s=none:=by
   have:=World.cell?_spot (hx 0 (by omega))
   rwa[show (⟨b,off,s⟩:Addr).add 0=⟨b,off,s⟩ from rfl] at this
  subst hs
  refine⟨b,off,ha,hxb,?_⟩
  rw[← h0]
  unfold Addr.add
  split
  ·rename_i h;subst h;rfl
  ·rfl
 have H:=Lib.hid HC;clear HC hcell hb0
 obtain⟨i0,hi,hz0,hz1,hz2⟩:=info_parts infoU8
 rcases hn with ⟨rfl,hm1,hm8⟩|⟨rfl,hn⟩
 ·go_enter Tryz.func206,Tryz.ntmps206
  go_wp2_with fail
  go_loopw [7,8] (fun v i wr=>∃ k:Nat,k≤l.length∧i=.int .i64 k∧Own wr w.heap.size v (l.take k)∧Below w.heap.size w wr) (fun _ i _=>l.length - (intOf i).toNat)
  case atStart=>exact⟨0,Nat.zero_le _,rfl,own_nil _ _,Below.refl _ _⟩
  case round =>
   obtain⟨k,hk,rfl,hown,hbw⟩:=hrel
   have hsz:=hbw.size
   by_cases hlt:k<l.length
   ·obtain⟨b,off,rfl,hbl,hcx⟩:=H.out k hlt
    have hcy:=(hbw.cell (p:=⟨b,off+k,none⟩) hbl).trans hcx
    clear hcx
    obtain⟨c,hc⟩:∃ c,l.getD k 0=c:=⟨_,rfl⟩
    rw[hc] at hcy
    have hlen:(l.take k).length=k:=by simp;omega
    have HT:Hid (l.take (k+1)=l.take k++[c]):=Lib.hid (hc ▸ take_snocBb l k hlt)
    have HL:=Lib.hid hlen
    clear hc hlen
    generalize hL:l.take k=L at *
    have HLL:=Lib.hid hL;clear hL
    go_wp2_with (first|(at_builtin;refine wpList_append_own _ rfl _ _ 158 rfl w.heap.size 5 i0 (.int .u8 0) 1 1 Tryz.underlying158 hi hz0 hz1 hz2 rfl (by decide) _ _ _ rfl (World.ownsRow.alloc hown _) ⟨wr.heap.size,0,none⟩ 1 1 [.int .u8 c] rfl rfl ?c1 ?c2 ?c3 ?c4 ?c5 ?_)|fail)
    case c1 =>
     intro j u hj
     match j,hj with
     | 0,hj=>simp at hj;subst hj;simp[Addr.add]
    case c2=>intro u hu;simp at hu;subst hu;rfl
    case c3=>rw[HL.out];unfold maxLen;omega
    case c4=>rw[HL.out];omega
    case c5=>rw[World.size_alloc];omega
    intro v' w1 hown' hgrow _
    have hst:=own_step HL.out hsz hbw hown hown' hgrow
    rw[← HT.out] at hst
    clear hown' hgrow hown hbw hcy
    go_wp2_with fail
    go_roundw
    case rel=>exact⟨k+1,by omega,by go_num,hst.1,hst.2⟩
    case measure=>simp[intOf];omega
   ·obtain rfl:k=l.length:=by omega
    rw[List.take_length] at hown
    go_wp2_with fail
    clear H hlt hk
    go_loopw [7,2,9] (fun v x' i w2=>∃ (k:Nat) (y:Int),k≤m∧i=.int .i64 k∧x'=.int .u64 y∧0≤y∧y≤18446744073709551615∧Hid (shr k x=y)∧Own w2 w.heap.size v (l++leB k x)∧Below w.heap.size w w2) (fun _ _ i _=>m - (intOf i).toNat)
    case atStart=>exact⟨0,x,Nat.zero_le _,rfl,rfl,x0,x1,rfl,by simpa[leB] using hown,hbw⟩
    case round =>
     clear hown hbw hsz
     obtain⟨k,y,hk,rfl,rfl,y0,y1,HY,hown,hbw⟩:=hrel
     have hlen:(l++leB k x).length=l.length+k:=by rw[List.length_append,leB_len]
     have HL:=Lib.hid hlen;clear hlen
     have hsz:=hbw.size
     by_cases hlt:k<m
     ·obtain⟨L,hL⟩:∃ L,l++leB k x=L:=⟨_,rfl⟩
      have HLL:=Lib.hid hL
      rw[hL] at hown
      have HL2:=HL.out;rw[hL] at HL2
      have HT:Hid (l++leB (k+1) x=L++[y % 256]):=Lib.hid (by rw[leB_succ,HY.out,← List.append_assoc,hL])
      have HL3:=Lib.hid HL2
      clear hL HL2
      go_wp2_with (first|(at_builtin;refine wpList_append_own _ rfl _ _ 158 rfl w.heap.size 5 i0 (.int .u8 0) 1 1 Tryz.underlying158 hi hz0 hz1 hz2 rfl (by decide) _ _ _ rfl (World.ownsRow.alloc hown _) ⟨wr.heap.size,0,none⟩ 1 1 [.int .u8 (y % 256)] rfl rfl ?d1 ?d2 ?d3 ?d4 ?d5 ?_)|fail)
      case d1 =>
       intro j u hj
       match j,hj with
       | 0,hj=>simp at hj;subst hj;simp[Addr.add]
      case d2=>intro u hu;simp at hu;subst hu;rfl
      case d3=>rw[HL3.out];unfold maxLen;omega
      case d4=>rw[HL3.out];omega
      case d5=>rw[World.size_alloc];omega
      intro v' w1 hown' hgrow _
      have hst:=own_step HL3.out hsz hbw hown hown' hgrow
      rw[← HT.out] at hst
      have HY':Hid (shr (k+1) x=y / 256):=Lib.hid (shr_hid k x y HY.out)
      clear hown' hgrow hown hbw HY HL3 HT HLL
      go_wp2_with fail
      go_roundw
      case rel=>exact⟨k+1,y / 256,by omega,by go_num,rfl,by omega,by omega,HY',hst.1,hst.2⟩
      case measure=>simp[intOf];omega
     ·obtain rfl:k=m:=by omega
      go_wp2_with fail
      go_ret
      exact⟨_,rfl,hown,hbw⟩
 ·go_enter Tryz.func206,Tryz.ntmps206
  go_wp2_with fail
  go_loopw [7,8] (fun v i wr=>∃ k:Nat,k≤l.length∧i=.int .i64 k∧Own wr w.heap.size v (l.take k)∧Below w.heap.size w wr) (fun _ i _=>l.length - (intOf i).toNat)
  case atStart=>exact⟨0,Nat.zero_le _,rfl,own_nil _ _,Below.refl _ _⟩
  case round =>
   obtain⟨k,hk,rfl,hown,hbw⟩:=hrel
   have hsz:=hbw.size
   by_cases hlt:k<l.length
   ·obtain⟨b,off,rfl,hbl,hcx⟩:=H.out k hlt
    have hcy:=(hbw.cell (p:=⟨b,off+k,none⟩) hbl).trans hcx
    clear hcx
    obtain⟨c,hc⟩:∃ c,l.getD k 0=c:=⟨_,rfl⟩
    rw[hc] at hcy
    have hlen:(l.take k).length=k:=by simp;omega
    have HT:Hid (l.take (k+1)=l.take k++[c]):=Lib.hid (hc ▸ take_snocBb l k hlt)
    have HL:=Lib.hid hlen
    clear hc hlen
    generalize hL:l.take k=L at *
    have HLL:=Lib.hid hL;clear hL
    go_wp2_with (first|(at_builtin;refine wpList_append_own _ rfl _ _ 158 rfl w.heap.size 5 i0 (.int .u8 0) 1 1 Tryz.underlying158 hi hz0 hz1 hz2 rfl (by decide) _ _ _ rfl (World.ownsRow.alloc hown _) ⟨wr.heap.size,0,none⟩ 1 1 [.int .u8 c] rfl rfl ?e1 ?e2 ?e3 ?e4 ?e5 ?_)|fail)
    case e1 =>
     intro j u hj
     match j,hj with
     | 0,hj=>simp at hj;subst hj;simp[Addr.add]
    case e2=>intro u hu;simp at hu;subst hu;rfl
    case e3=>rw[HL.out];unfold maxLen;omega
    case e4=>rw[HL.out];omega
    case e5=>rw[World.size_alloc];omega
    intro v' w1 hown' hgrow _
    have hst:=own_step HL.out hsz hbw hown hown' hgrow
    rw[← HT.out] at hst
    clear hown' hgrow hown hbw hcy
    go_wp2_with fail
    go_roundw
    case rel=>exact⟨k+1,by omega,by go_num,hst.1,hst.2⟩
    case measure=>simp[intOf];omega
   ·obtain rfl:k=l.length:=by omega
    rw[List.take_length] at hown
    go_wp2_with fail
    clear H hlt hk
    have hfin:Own wr w.heap.size u7 (l++leB 0 x):=by simpa[leB] using hown
    rcases hn with hn|hn
    ·refine wp_loop_rounds 1 ?_
     rw[rounds_succ]
     go_wp2_with fail
     go_ret
     exact⟨_,rfl,hfin,hbw⟩
    ·refine wp_loop_rounds 1 ?_
     rw[rounds_succ]
     have hd:decide (n≤8)=false:=by simp;omega
     go_wp2_with fail
     go_ret
     exact⟨_,rfl,hfin,hbw⟩
end Go.Proofs.YtdnmgpcfgcidbaaGreatDoor
