/- Zm Zn Zx. -/
import Derived.Test.YtdnmgpcfgcidbaaGreatDoorTd1
namespace Go.Proofs.YtdnmgpcfgcidbaaGreatDoor
set_option linter.unusedVariables false
set_option linter.unusedSimpArgs false
open Go.RowKit
set_option maxRecDepth 20000
def hexC (j:Nat):Int:=if j<10 then 48+j else 87+j
def hexD (j:Nat):Int:=if j<10 then 48+j else 55+j
theorem no_hex {c:Int} (h:∀ j:Nat,j<16→hexC j≠c∧hexD j≠c):digP c=-1:=by
 unfold digP
 rw[if_neg,if_neg,if_neg]
 ·intro hc
  have:=(h (c - 55).toNat (by omega)).2
  unfold hexD at this
  rw[if_neg (by omega)] at this
  omega
 ·intro hc
  have:=(h (c - 87).toNat (by omega)).1
  unfold hexC at this
  rw[if_neg (by omega)] at this
  omega
 ·intro hc
  have:=(h (c - 48).toNat (by omega)).1
  unfold hexC at this
  rw[if_pos (by omega)] at this
  omega
set_option maxHeartbeats 4000000 in
theorem rdigit_any (c:Int) (w:World):Calls Tryz.prog 270 #[.int .u8 c] w fun e w'=>e=.returned (.int .i64 (digP c))∧w=w':=by
 go_enter Tryz.func270,Tryz.ntmps270
 go_wp2_with fail
 go_loop [5] (fun i=>∃ k:Nat,k≤16∧i=.int .i64 k∧Hid (∀ j:Nat,j<k→hexC j≠c∧hexD j≠c)) (fun i=>16 - (intOf i).toNat)
 case atStart=>exact⟨0,Nat.zero_le _,rfl,Lib.hid (fun j hj=>absurd hj (by omega))⟩
 case round =>
  obtain⟨k,hk,rfl,HN⟩:=hrel
  by_cases hlt:k<16
  ·rcases(show k=0∨k=1∨k=2∨k=3∨k=4∨k=5∨k=6∨k=7∨k=8∨k=9∨k=10∨k=11∨k=12∨k=13∨k=14∨k=15 by omega) with rfl|rfl|rfl|rfl|rfl|rfl|rfl|rfl|rfl|rfl|rfl|rfl|rfl|rfl|rfl|rfl
   ·clear hlt hk
    have a1:(({ data:=#[48,49,50,51,52,53,54,55,56,57,97,98,99,100,101,102] }:ByteArray)[0]'(by decide)).toNat=48:=rfl
    have a2:(({ data:=#[48,49,50,51,52,53,54,55,56,57,65,66,67,68,69,70] }:ByteArray)[0]'(by decide)).toNat=48:=rfl
    by_cases h1:c=48
    ·subst h1
     go_wp2_with fail
     go_ret
     exact⟨rfl,rfl⟩
    have e1:((48:Int) == c)=false:=beq_eq_false_iff_ne.2 (fun h=>h1 h.symm)
    go_wp2_with fail
    go_round
    case rel=>exact⟨1,by omega,by go_num,Lib.hid (fun j hj=>by
     rcases Nat.lt_succ_iff_lt_or_eq.1 hj with h|rfl
     ·exact HN.out j h
     ·exact⟨fun h=>h1 h.symm,fun h=>h1 h.symm⟩)⟩
    case measure=>simp[intOf]
   ·clear hlt hk
    have a1:(({ data:=#[48,49,50,51,52,53,54,55,56,57,97,98,99,100,101,102] }:ByteArray)[1]'(by decide)).toNat=49:=rfl
    have a2:(({ data:=#[48,49,50,51,52,53,54,55,56,57,65,66,67,68,69,70] }:ByteArray)[1]'(by decide)).toNat=49:=rfl
    by_cases h1:c=49
    ·subst h1
     go_wp2_with fail
     go_ret
     exact⟨rfl,rfl⟩
    have e1:((49:Int) == c)=false:=beq_eq_false_iff_ne.2 (fun h=>h1 h.symm)
    go_wp2_with fail
    go_round
    case rel=>exact⟨2,by omega,by go_num,Lib.hid (fun j hj=>by
     rcases Nat.lt_succ_iff_lt_or_eq.1 hj with h|rfl
     ·exact HN.out j h
     ·exact⟨fun h=>h1 h.symm,fun h=>h1 h.symm⟩)⟩
    case measure=>simp[intOf]
   ·clear hlt hk
    have a1:(({ data:=#[48,49,50,51,52,53,54,55,56,57,97,98,99,100,101,102] }:ByteArray)[2]'(by decide)).toNat=50:=rfl
    have a2:(({ data:=#[48,49,50,51,52,53,54,55,56,57,65,66,67,68,69,70] }:ByteArray)[2]'(by decide)).toNat=50:=rfl
    by_cases h1:c=50
    ·subst h1
     go_wp2_with fail
     go_ret
     exact⟨rfl,rfl⟩
    have e1:((50:Int) == c)=false:=beq_eq_false_iff_ne.2 (fun h=>h1 h.symm)
    go_wp2_with fail
    go_round
    case rel=>exact⟨3,by omega,by go_num,Lib.hid (fun j hj=>by
     rcases Nat.lt_succ_iff_lt_or_eq.1 hj with h|rfl
     ·exact HN.out j h
     ·exact⟨fun h=>h1 h.symm,fun h=>h1 h.symm⟩)⟩
    case measure=>simp[intOf]
   ·clear hlt hk
    have a1:(({ data:=#[48,49,50,51,52,53,54,55,56,57,97,98,99,100,101,102] }:ByteArray)[3]'(by decide)).toNat=51:=rfl
    have a2:(({ data:=#[48,49,50,51,52,53,54,55,56,57,65,66,67,68,69,70] }:ByteArray)[3]'(by decide)).toNat=51:=rfl
    by_cases h1:c=51
    ·subst h1
     go_wp2_with fail
     go_ret
     exact⟨rfl,rfl⟩
    have e1:((51:Int) == c)=false:=beq_eq_false_iff_ne.2 (fun h=>h1 h.symm)
    go_wp2_with fail
    go_round
    case rel=>exact⟨4,by omega,by go_num,Lib.hid (fun j hj=>by
     rcases Nat.lt_succ_iff_lt_or_eq.1 hj with h|rfl
     ·exact HN.out j h
     ·exact⟨fun h=>h1 h.symm,fun h=>h1 h.symm⟩)⟩
    case measure=>simp[intOf]
   ·clear hlt hk
    have a1:(({ data:=#[48,49,50,51,52,53,54,55,56,57,97,98,99,100,101,102] }:ByteArray)[4]'(by decide)).toNat=52:=rfl
    have a2:(({ data:=#[48,49,50,51,52,53,54,55,56,57,65,66,67,68,69,70] }:ByteArray)[4]'(by decide)).toNat=52:=rfl
    by_cases h1:c=52
    ·subst h1
     go_wp2_with fail
     go_ret
     exact⟨rfl,rfl⟩
    have e1:((52:Int) == c)=false:=beq_eq_false_iff_ne.2 (fun h=>h1 h.symm)
    go_wp2_with fail
    go_round
    case rel=>exact⟨5,by omega,by go_num,Lib.hid (fun j hj=>by
     rcases Nat.lt_succ_iff_lt_or_eq.1 hj with h|rfl
     ·exact HN.out j h
     ·exact⟨fun h=>h1 h.symm,fun h=>h1 h.symm⟩)⟩
    case measure=>simp[intOf]
   ·clear hlt hk
    have a1:(({ data:=#[48,49,50,51,52,53,54,55,56,57,97,98,99,100,101,102] }:ByteArray)[5]'(by decide)).toNat=53:=rfl
    have a2:(({ data:=#[48,49,50,51,52,53,54,55,56,57,65,66,67,68,69,70] }:ByteArray)[5]'(by decide)).toNat=53:=rfl
    by_cases h1:c=53
    ·subst h1
     go_wp2_with fail
     go_ret
     exact⟨rfl,rfl⟩
    have e1:((53:Int) == c)=false:=beq_eq_false_iff_ne.2 (fun h=>h1 h.symm)
    go_wp2_with fail
    go_round
    case rel=>exact⟨6,by omega,by go_num,Lib.hid (fun j hj=>by
     rcases Nat.lt_succ_iff_lt_or_eq.1 hj with h|rfl
     ·exact HN.out j h
     ·exact⟨fun h=>h1 h.symm,fun h=>h1 h.symm⟩)⟩
    case measure=>simp[intOf]
   ·clear hlt hk
    have a1:(({ data:=#[48,49,50,51,52,53,54,55,56,57,97,98,99,100,101,102] }:ByteArray)[6]'(by decide)).toNat=54:=rfl
    have a2:(({ data:=#[48,49,50,51,52,53,54,55,56,57,65,66,67,68,69,70] }:ByteArray)[6]'(by decide)).toNat=54:=rfl
    by_cases h1:c=54
    ·subst h1
     go_wp2_with fail
     go_ret
     exact⟨rfl,rfl⟩
    have e1:((54:Int) == c)=false:=beq_eq_false_iff_ne.2 (fun h=>h1 h.symm)
    go_wp2_with fail
    go_round
    case rel=>exact⟨7,by omega,by go_num,Lib.hid (fun j hj=>by
     rcases Nat.lt_succ_iff_lt_or_eq.1 hj with h|rfl
     ·exact HN.out j h
     ·exact⟨fun h=>h1 h.symm,fun h=>h1 h.symm⟩)⟩
    case measure=>simp[intOf]
   ·clear hlt hk
    have a1:(({ data:=#[48,49,50,51,52,53,54,55,56,57,97,98,99,100,101,102] }:ByteArray)[7]'(by decide)).toNat=55:=rfl
    have a2:(({ data:=#[48,49,50,51,52,53,54,55,56,57,65,66,67,68,69,70] }:ByteArray)[7]'(by decide)).toNat=55:=rfl
    by_cases h1:c=55
    ·subst h1
     go_wp2_with fail
     go_ret
     exact⟨rfl,rfl⟩
    have e1:((55:Int) == c)=false:=beq_eq_false_iff_ne.2 (fun h=>h1 h.symm)
    go_wp2_with fail
    go_round
    case rel=>exact⟨8,by omega,by go_num,Lib.hid (fun j hj=>by
     rcases Nat.lt_succ_iff_lt_or_eq.1 hj with h|rfl
     ·exact HN.out j h
     ·exact⟨fun h=>h1 h.symm,fun h=>h1 h.symm⟩)⟩
    case measure=>simp[intOf]
   ·clear hlt hk
    have a1:(({ data:=#[48,49,50,51,52,53,54,55,56,57,97,98,99,100,101,102] }:ByteArray)[8]'(by decide)).toNat=56:=rfl
    have a2:(({ data:=#[48,49,50,51,52,53,54,55,56,57,65,66,67,68,69,70] }:ByteArray)[8]'(by decide)).toNat=56:=rfl
    by_cases h1:c=56
    ·subst h1
     go_wp2_with fail
     go_ret
     exact⟨rfl,rfl⟩
    have e1:((56:Int) == c)=false:=beq_eq_false_iff_ne.2 (fun h=>h1 h.symm)
    go_wp2_with fail
    go_round
    case rel=>exact⟨9,by omega,by go_num,Lib.hid (fun j hj=>by
     rcases Nat.lt_succ_iff_lt_or_eq.1 hj with h|rfl
     ·exact HN.out j h
     ·exact⟨fun h=>h1 h.symm,fun h=>h1 h.symm⟩)⟩
    case measure=>simp[intOf]
   ·clear hlt hk
    have a1:(({ data:=#[48,49,50,51,52,53,54,55,56,57,97,98,99,100,101,102] }:ByteArray)[9]'(by decide)).toNat=57:=rfl
    have a2:(({ data:=#[48,49,50,51,52,53,54,55,56,57,65,66,67,68,69,70] }:ByteArray)[9]'(by decide)).toNat=57:=rfl
    by_cases h1:c=57
    ·subst h1
     go_wp2_with fail
     go_ret
     exact⟨rfl,rfl⟩
    have e1:((57:Int) == c)=false:=beq_eq_false_iff_ne.2 (fun h=>h1 h.symm)
    go_wp2_with fail
    go_round
    case rel=>exact⟨10,by omega,by go_num,Lib.hid (fun j hj=>by
     rcases Nat.lt_succ_iff_lt_or_eq.1 hj with h|rfl
     ·exact HN.out j h
     ·exact⟨fun h=>h1 h.symm,fun h=>h1 h.symm⟩)⟩
    case measure=>simp[intOf]
   ·clear hlt hk
    have a1:(({ data:=#[48,49,50,51,52,53,54,55,56,57,97,98,99,100,101,102] }:ByteArray)[10]'(by decide)).toNat=97:=rfl
    have a2:(({ data:=#[48,49,50,51,52,53,54,55,56,57,65,66,67,68,69,70] }:ByteArray)[10]'(by decide)).toNat=65:=rfl
    by_cases h1:c=97
    ·subst h1
     go_wp2_with fail
     go_ret
     exact⟨rfl,rfl⟩
    have e1:((97:Int) == c)=false:=beq_eq_false_iff_ne.2 (fun h=>h1 h.symm)
    by_cases h2:c=65
    ·subst h2
     go_wp2_with fail
     go_ret
     exact⟨rfl,rfl⟩
    have e2:((65:Int) == c)=false:=beq_eq_false_iff_ne.2 (fun h=>h2 h.symm)
    go_wp2_with fail
    go_round
    case rel=>exact⟨11,by omega,by go_num,Lib.hid (fun j hj=>by
     rcases Nat.lt_succ_iff_lt_or_eq.1 hj with h|rfl
     ·exact HN.out j h
     ·exact⟨fun h=>h1 h.symm,fun h=>h2 h.symm⟩)⟩
    case measure=>simp[intOf]
   ·clear hlt hk
    have a1:(({ data:=#[48,49,50,51,52,53,54,55,56,57,97,98,99,100,101,102] }:ByteArray)[11]'(by decide)).toNat=98:=rfl
    have a2:(({ data:=#[48,49,50,51,52,53,54,55,56,57,65,66,67,68,69,70] }:ByteArray)[11]'(by decide)).toNat=66:=rfl
    by_cases h1:c=98
    ·subst h1
     go_wp2_with fail
     go_ret
     exact⟨rfl,rfl⟩
    have e1:((98:Int) == c)=false:=beq_eq_false_iff_ne.2 (fun h=>h1 h.symm)
    by_cases h2:c=66
    ·subst h2
     go_wp2_with fail
     go_ret
     exact⟨rfl,rfl⟩
    have e2:((66:Int) == c)=false:=beq_eq_false_iff_ne.2 (fun h=>h2 h.symm)
    go_wp2_with fail
    go_round
    case rel=>exact⟨12,by omega,by go_num,Lib.hid (fun j hj=>by
     rcases Nat.lt_succ_iff_lt_or_eq.1 hj with h|rfl
     ·exact HN.out j h
     ·exact⟨fun h=>h1 h.symm,fun h=>h2 h.symm⟩)⟩
    case measure=>simp[intOf]
   ·clear hlt hk
    have a1:(({ data:=#[48,49,50,51,52,53,54,55,56,57,97,98,99,100,101,102] }:ByteArray)[12]'(by decide)).toNat=99:=rfl
    have a2:(({ data:=#[48,49,50,51,52,53,54,55,56,57,65,66,67,68,69,70] }:ByteArray)[12]'(by decide)).toNat=67:=rfl
    by_cases h1:c=99
    ·subst h1
     go_wp2_with fail
     go_ret
     exact⟨rfl,rfl⟩
    have e1:((99:Int) == c)=false:=beq_eq_false_iff_ne.2 (fun h=>h1 h.symm)
    by_cases h2:c=67
    ·subst h2
     go_wp2_with fail
     go_ret
     exact⟨rfl,rfl⟩
    have e2:((67:Int) == c)=false:=beq_eq_false_iff_ne.2 (fun h=>h2 h.symm)
    go_wp2_with fail
    go_round
    case rel=>exact⟨13,by omega,by go_num,Lib.hid (fun j hj=>by
     rcases Nat.lt_succ_iff_lt_or_eq.1 hj with h|rfl
     ·exact HN.out j h
     ·exact⟨fun h=>h1 h.symm,fun h=>h2 h.symm⟩)⟩
    case measure=>simp[intOf]
   ·clear hlt hk
    have a1:(({ data:=#[48,49,50,51,52,53,54,55,56,57,97,98,99,100,101,102] }:ByteArray)[13]'(by decide)).toNat=100:=rfl
    have a2:(({ data:=#[48,49,50,51,52,53,54,55,56,57,65,66,67,68,69,70] }:ByteArray)[13]'(by decide)).toNat=68:=rfl
    by_cases h1:c=100
    ·subst h1
     go_wp2_with fail
     go_ret
     exact⟨rfl,rfl⟩
    have e1:((100:Int) == c)=false:=beq_eq_false_iff_ne.2 (fun h=>h1 h.symm)
    by_cases h2:c=68
    ·subst h2
     go_wp2_with fail
     go_ret
     exact⟨rfl,rfl⟩
    have e2:((68:Int) == c)=false:=beq_eq_false_iff_ne.2 (fun h=>h2 h.symm)
    go_wp2_with fail
    go_round
    case rel=>exact⟨14,by omega,by go_num,Lib.hid (fun j hj=>by
     rcases Nat.lt_succ_iff_lt_or_eq.1 hj with h|rfl
     ·exact HN.out j h
     ·exact⟨fun h=>h1 h.symm,fun h=>h2 h.symm⟩)⟩
    case measure=>simp[intOf]
   ·clear hlt hk
    have a1:(({ data:=#[48,49,50,51,52,53,54,55,56,57,97,98,99,100,101,102] }:ByteArray)[14]'(by decide)).toNat=101:=rfl
    have a2:(({ data:=#[48,49,50,51,52,53,54,55,56,57,65,66,67,68,69,70] }:ByteArray)[14]'(by decide)).toNat=69:=rfl
    by_cases h1:c=101
    ·subst h1
     go_wp2_with fail
     go_ret
     exact⟨rfl,rfl⟩
    have e1:((101:Int) == c)=false:=beq_eq_false_iff_ne.2 (fun h=>h1 h.symm)
    by_cases h2:c=69
    ·subst h2
     go_wp2_with fail
     go_ret
     exact⟨rfl,rfl⟩
    have e2:((69:Int) == c)=false:=beq_eq_false_iff_ne.2 (fun h=>h2 h.symm)
    go_wp2_with fail
    go_round
    case rel=>exact⟨15,by omega,by go_num,Lib.hid (fun j hj=>by
     rcases Nat.lt_succ_iff_lt_or_eq.1 hj with h|rfl
     ·exact HN.out j h
     ·exact⟨fun h=>h1 h.symm,fun h=>h2 h.symm⟩)⟩
    case measure=>simp[intOf]
   ·clear hlt hk
    have a1:(({ data:=#[48,49,50,51,52,53,54,55,56,57,97,98,99,100,101,102] }:ByteArray)[15]'(by decide)).toNat=102:=rfl
    have a2:(({ data:=#[48,49,50,51,52,53,54,55,56,57,65,66,67,68,69,70] }:ByteArray)[15]'(by decide)).toNat=70:=rfl
    by_cases h1:c=102
    ·subst h1
     go_wp2_with fail
     go_ret
     exact⟨rfl,rfl⟩
    have e1:((102:Int) == c)=false:=beq_eq_false_iff_ne.2 (fun h=>h1 h.symm)
    by_cases h2:c=70
    ·subst h2
     go_wp2_with fail
     go_ret
     exact⟨rfl,rfl⟩
    have e2:((70:Int) == c)=false:=beq_eq_false_iff_ne.2 (fun h=>h2 h.symm)
    go_wp2_with fail
    go_round
    case rel=>exact⟨16,by omega,by go_num,Lib.hid (fun j hj=>by
     rcases Nat.lt_succ_iff_lt_or_eq.1 hj with h|rfl
     ·exact HN.out j h
     ·exact⟨fun h=>h1 h.symm,fun h=>h2 h.symm⟩)⟩
    case measure=>simp[intOf]
  ·obtain rfl:k=16:=by omega
   have HD:=Lib.hid (no_hex HN.out)
   clear HN
   go_wp2_with fail
   go_ret
   exact⟨by rw[HD.out];rfl,rfl⟩
theorem fourG_end (f k:Nat) (c:Int) (l:List Int) (h:l.drop k=[]):fourG (f+1) k c (l.drop k)=(0,3):=by rw[h];rfl
theorem fourG_bad (f k:Nat) (c b:Int) (l t:List Int) (h:l.drop k=b :: t) (hb:badF k b):fourG (f+1) k c (l.drop k)=(0,4):=by rw[h,fourG,if_pos hb]
theorem fourG_yes (f k:Nat) (c b:Int) (l t:List Int) (h:l.drop k=b :: t) (hb:¬ badF k b):fourG (f+1) k c (l.drop k)=fourG f (k+1) (if 1<k then 16*c+digP b else c) (l.drop (k+1)):=by
 rw[h,fourG,if_neg hb]
 congr 1
 have:=congrArg (List.drop 1) h
 rw[List.drop_drop,List.drop_succ_cons,List.drop_zero] at this
 exact this.symm
theorem drop_bI (s:ByteArray) (p k:Nat) (h:p+k<s.size):((bI s).drop p).drop k=((s[p+k]'h).toNat:Int) :: (bI s).drop (p+k+1):=by
 rw[List.drop_drop,bI_split s (p+k) h]
theorem drop_bI_end (s:ByteArray) (p k:Nat) (h:s.size≤p+k):((bI s).drop p).drop k=[]:=by
 rw[List.drop_drop]
 exact List.drop_eq_nil_of_le (by rw[bI_len];exact h)
set_option maxHeartbeats 8000000 in
theorem rfour_any (s:ByteArray) (p:Nat) (w:World) (hs:s.size≤1000000) (hp:p≤2000000):Calls Tryz.prog 246 #[.string s,.int .i64 p] w fun e w'=>e=.returned (.tuple #[.int .i64 (fourP ((bI s).drop p)).1,.int .i64 (fourP ((bI s).drop p)).2])∧w=w':=by
 unfold fourP
 obtain⟨l,hl⟩:∃ l,(bI s).drop p=l:=⟨_,rfl⟩
 have HL:=Lib.hid hl
 rw[hl]
 obtain⟨R,hR⟩:∃ R,fourG 6 0 0 l=R:=⟨_,rfl⟩
 rw[hR]
 have HR:=Lib.hid hR
 clear hl hR
 go_enter Tryz.func246,Tryz.ntmps246
 go_wp2_with fail
 go_loop [6,7,8] (fun c i b=>∃ (k:Nat) (x:Int),k≤6∧i=.int .i64 k∧c=.int .i64 x∧Hid (R=fourG (6 - k) k x (l.drop k))∧0≤x∧x<16 ^ k) (fun _ i _=>6 - (intOf i).toNat)
 case atStart=>exact⟨0,0,Nat.zero_le _,rfl,rfl,Lib.hid HR.out.symm,Int.le_refl _,by decide⟩
 case round =>
  obtain⟨k,x,hk,rfl,rfl,HG,x0,x1⟩:=hrel
  by_cases hlt:k<6
  ·rcases(show k=0∨k=1∨k=2∨k=3∨k=4∨k=5 by omega) with rfl|rfl|rfl|rfl|rfl|rfl
   ·clear hlt hk
    simp only[Int.reducePow] at x1
    obtain⟨j,hj⟩:∃ j:Nat,j=p+0:=⟨_,rfl⟩
    have hw:IntKind.i64.wrap ((p:Int))=(j:Int):=by rw[IntKind.wrap_i64] <;> omega
    by_cases hge:s.size≤p+0
    ·have HE:=Lib.hid (HG.out.trans (fourG_end 5 0 x l (by rw[← HL.out];exact drop_bI_end s p 0 hge)))
     have hge2:(s.size:Int)≤(j:Int):=by omega
     clear hge hj HG
     go_wp2_with fail
     refine bodyPost_ret (results_tmp2 rfl _ _ _) rfl ⟨by rw[HE.out];rfl,rfl⟩
    have hjl:j<s.size:=by omega
    have hge2:¬ (s.size:Int)≤(j:Int):=by omega
    have hj0:(0:Int)≤(j:Int):=by omega
    have hj1:(j:Int)<(s.size:Int):=by omega
    have hpl:p+0<s.size:=by omega
    obtain⟨b,hb0⟩:∃ b,((s[p+0]'hpl).toNat:Int)=b:=⟨_,rfl⟩
    have hb:((s[j]'hjl).toNat:Int)=b:=(show ∀ (q:Nat) (hq:q<s.size),q=p+0→((s[q]'hq).toNat:Int)=b by intro q hq e;subst e;exact hb0) j hjl hj
    have hbr:0≤b∧b<256:=by have:=(s[p+0]'hpl).toNat_lt;omega
    have HT:Hid (l.drop 0=b :: (bI s).drop (p+0+1)):=Lib.hid (by rw[← HL.out,drop_bI s p 0 hpl,hb0])
    clear hb0 hpl
    clear hge hj
    by_cases hbad:b=92
    ·have HE:=Lib.hid (HG.out.trans (fourG_yes 5 0 x b l _ HT.out (by unfold badF;omega)))
     rw[if_neg (by omega)] at HE
     have hb2:(b == 92)=true:=beq_iff_eq.2 hbad
     have hb3:(b != 92)=false:=by simp[hbad]
     clear hbad HG
     go_wp2_with fail
     go_round
     case rel=>exact⟨1,x,by omega,by go_num,rfl,HE,x0,by simp only[Int.reducePow];omega⟩
     case measure=>simp[intOf]
    ·have HE:=Lib.hid (HG.out.trans (fourG_bad 5 0 x b l _ HT.out (by unfold badF;omega)))
     have hb2:(b == 92)=false:=beq_eq_false_iff_ne.2 hbad
     have hb3:(b != 92)=true:=bne_iff_ne.2 hbad
     clear hbad HG
     go_wp2_with fail
     refine bodyPost_ret (results_tmp2 rfl _ _ _) rfl ⟨by rw[HE.out];rfl,rfl⟩
   ·clear hlt hk
    simp only[Int.reducePow] at x1
    obtain⟨j,hj⟩:∃ j:Nat,j=p+1:=⟨_,rfl⟩
    have hw:IntKind.i64.wrap ((p:Int)+1)=(j:Int):=by rw[IntKind.wrap_i64] <;> omega
    by_cases hge:s.size≤p+1
    ·have HE:=Lib.hid (HG.out.trans (fourG_end 4 1 x l (by rw[← HL.out];exact drop_bI_end s p 1 hge)))
     have hge2:(s.size:Int)≤(j:Int):=by omega
     clear hge hj HG
     go_wp2_with fail
     refine bodyPost_ret (results_tmp2 rfl _ _ _) rfl ⟨by rw[HE.out];rfl,rfl⟩
    have hjl:j<s.size:=by omega
    have hge2:¬ (s.size:Int)≤(j:Int):=by omega
    have hj0:(0:Int)≤(j:Int):=by omega
    have hj1:(j:Int)<(s.size:Int):=by omega
    have hpl:p+1<s.size:=by omega
    obtain⟨b,hb0⟩:∃ b,((s[p+1]'hpl).toNat:Int)=b:=⟨_,rfl⟩
    have hb:((s[j]'hjl).toNat:Int)=b:=(show ∀ (q:Nat) (hq:q<s.size),q=p+1→((s[q]'hq).toNat:Int)=b by intro q hq e;subst e;exact hb0) j hjl hj
    have hbr:0≤b∧b<256:=by have:=(s[p+1]'hpl).toNat_lt;omega
    have HT:Hid (l.drop 1=b :: (bI s).drop (p+1+1)):=Lib.hid (by rw[← HL.out,drop_bI s p 1 hpl,hb0])
    clear hb0 hpl
    clear hge hj
    by_cases hbad:b=117
    ·have HE:=Lib.hid (HG.out.trans (fourG_yes 4 1 x b l _ HT.out (by unfold badF;omega)))
     rw[if_neg (by omega)] at HE
     have hb2:(b == 117)=true:=beq_iff_eq.2 hbad
     have hb3:(b != 117)=false:=by simp[hbad]
     clear hbad HG
     go_wp2_with fail
     go_round
     case rel=>exact⟨2,x,by omega,by go_num,rfl,HE,x0,by simp only[Int.reducePow];omega⟩
     case measure=>simp[intOf]
    ·have HE:=Lib.hid (HG.out.trans (fourG_bad 4 1 x b l _ HT.out (by unfold badF;omega)))
     have hb2:(b == 117)=false:=beq_eq_false_iff_ne.2 hbad
     have hb3:(b != 117)=true:=bne_iff_ne.2 hbad
     clear hbad HG
     go_wp2_with fail
     refine bodyPost_ret (results_tmp2 rfl _ _ _) rfl ⟨by rw[HE.out];rfl,rfl⟩
   ·clear hlt hk
    simp only[Int.reducePow] at x1
    obtain⟨j,hj⟩:∃ j:Nat,j=p+2:=⟨_,rfl⟩
    have hw:IntKind.i64.wrap ((p:Int)+2)=(j:Int):=by rw[IntKind.wrap_i64] <;> omega
    by_cases hge:s.size≤p+2
    ·have HE:=Lib.hid (HG.out.trans (fourG_end 3 2 x l (by rw[← HL.out];exact drop_bI_end s p 2 hge)))
     have hge2:(s.size:Int)≤(j:Int):=by omega
     clear hge hj HG
     go_wp2_with fail
     refine bodyPost_ret (results_tmp2 rfl _ _ _) rfl ⟨by rw[HE.out];rfl,rfl⟩
    have hjl:j<s.size:=by omega
    have hge2:¬ (s.size:Int)≤(j:Int):=by omega
    have hj0:(0:Int)≤(j:Int):=by omega
    have hj1:(j:Int)<(s.size:Int):=by omega
    have hpl:p+2<s.size:=by omega
    obtain⟨b,hb0⟩:∃ b,((s[p+2]'hpl).toNat:Int)=b:=⟨_,rfl⟩
    have hb:((s[j]'hjl).toNat:Int)=b:=(show ∀ (q:Nat) (hq:q<s.size),q=p+2→((s[q]'hq).toNat:Int)=b by intro q hq e;subst e;exact hb0) j hjl hj
    have hbr:0≤b∧b<256:=by have:=(s[p+2]'hpl).toNat_lt;omega
    have HT:Hid (l.drop 2=b :: (bI s).drop (p+2+1)):=Lib.hid (by rw[← HL.out,drop_bI s p 2 hpl,hb0])
    clear hb0 hpl
    clear hge hj
    have HD:=Lib.hid (fun W=>rdigit_any b W)
    have hdl:=dig_lt b
    by_cases hbad:digP b<0
    ·have HE:=Lib.hid (HG.out.trans (fourG_bad 3 2 x b l _ HT.out (by unfold badF;omega)))
     generalize digP b=d at *
     clear HG
     go_wp2_with fail
     refine(HD.out _).mono ?_
     rintro e w1 ⟨rfl,rfl⟩
     go_wp2_with fail
     refine bodyPost_ret (results_tmp2 rfl _ _ _) rfl ⟨by rw[HE.out];rfl,rfl⟩
    ·have HE:=Lib.hid (HG.out.trans (fourG_yes 3 2 x b l _ HT.out (by unfold badF;omega)))
     rw[if_pos (by omega)] at HE
     generalize digP b=d at *
     have hw2:IntKind.i64.wrap (16*x)=16*x:=by rw[IntKind.wrap_i64] <;> omega
     have hw3:IntKind.i64.wrap (16*x+d)=16*x+d:=by rw[IntKind.wrap_i64] <;> omega
     clear HG
     go_wp2_with fail
     refine(HD.out _).mono ?_
     rintro e w1 ⟨rfl,rfl⟩
     go_wp2_with fail
     refine(HD.out _).mono ?_
     rintro e w1 ⟨rfl,rfl⟩
     go_wp2_with fail
     go_round
     case rel=>exact⟨3,16*x+d,by omega,by go_num,rfl,HE,by omega,by simp only[Int.reducePow];omega⟩
     case measure=>simp[intOf]
   ·clear hlt hk
    simp only[Int.reducePow] at x1
    obtain⟨j,hj⟩:∃ j:Nat,j=p+3:=⟨_,rfl⟩
    have hw:IntKind.i64.wrap ((p:Int)+3)=(j:Int):=by rw[IntKind.wrap_i64] <;> omega
    by_cases hge:s.size≤p+3
    ·have HE:=Lib.hid (HG.out.trans (fourG_end 2 3 x l (by rw[← HL.out];exact drop_bI_end s p 3 hge)))
     have hge2:(s.size:Int)≤(j:Int):=by omega
     clear hge hj HG
     go_wp2_with fail
     refine bodyPost_ret (results_tmp2 rfl _ _ _) rfl ⟨by rw[HE.out];rfl,rfl⟩
    have hjl:j<s.size:=by omega
    have hge2:¬ (s.size:Int)≤(j:Int):=by omega
    have hj0:(0:Int)≤(j:Int):=by omega
    have hj1:(j:Int)<(s.size:Int):=by omega
    have hpl:p+3<s.size:=by omega
    obtain⟨b,hb0⟩:∃ b,((s[p+3]'hpl).toNat:Int)=b:=⟨_,rfl⟩
    have hb:((s[j]'hjl).toNat:Int)=b:=(show ∀ (q:Nat) (hq:q<s.size),q=p+3→((s[q]'hq).toNat:Int)=b by intro q hq e;subst e;exact hb0) j hjl hj
    have hbr:0≤b∧b<256:=by have:=(s[p+3]'hpl).toNat_lt;omega
    have HT:Hid (l.drop 3=b :: (bI s).drop (p+3+1)):=Lib.hid (by rw[← HL.out,drop_bI s p 3 hpl,hb0])
    clear hb0 hpl
    clear hge hj
    have HD:=Lib.hid (fun W=>rdigit_any b W)
    have hdl:=dig_lt b
    by_cases hbad:digP b<0
    ·have HE:=Lib.hid (HG.out.trans (fourG_bad 2 3 x b l _ HT.out (by unfold badF;omega)))
     generalize digP b=d at *
     clear HG
     go_wp2_with fail
     refine(HD.out _).mono ?_
     rintro e w1 ⟨rfl,rfl⟩
     go_wp2_with fail
     refine bodyPost_ret (results_tmp2 rfl _ _ _) rfl ⟨by rw[HE.out];rfl,rfl⟩
    ·have HE:=Lib.hid (HG.out.trans (fourG_yes 2 3 x b l _ HT.out (by unfold badF;omega)))
     rw[if_pos (by omega)] at HE
     generalize digP b=d at *
     have hw2:IntKind.i64.wrap (16*x)=16*x:=by rw[IntKind.wrap_i64] <;> omega
     have hw3:IntKind.i64.wrap (16*x+d)=16*x+d:=by rw[IntKind.wrap_i64] <;> omega
     clear HG
     go_wp2_with fail
     refine(HD.out _).mono ?_
     rintro e w1 ⟨rfl,rfl⟩
     go_wp2_with fail
     refine(HD.out _).mono ?_
     rintro e w1 ⟨rfl,rfl⟩
     go_wp2_with fail
     go_round
     case rel=>exact⟨4,16*x+d,by omega,by go_num,rfl,HE,by omega,by simp only[Int.reducePow];omega⟩
     case measure=>simp[intOf]
   ·clear hlt hk
    simp only[Int.reducePow] at x1
    obtain⟨j,hj⟩:∃ j:Nat,j=p+4:=⟨_,rfl⟩
    have hw:IntKind.i64.wrap ((p:Int)+4)=(j:Int):=by rw[IntKind.wrap_i64] <;> omega
    by_cases hge:s.size≤p+4
    ·have HE:=Lib.hid (HG.out.trans (fourG_end 1 4 x l (by rw[← HL.out];exact drop_bI_end s p 4 hge)))
     have hge2:(s.size:Int)≤(j:Int):=by omega
     clear hge hj HG
     go_wp2_with fail
     refine bodyPost_ret (results_tmp2 rfl _ _ _) rfl ⟨by rw[HE.out];rfl,rfl⟩
    have hjl:j<s.size:=by omega
    have hge2:¬ (s.size:Int)≤(j:Int):=by omega
    have hj0:(0:Int)≤(j:Int):=by omega
    have hj1:(j:Int)<(s.size:Int):=by omega
    have hpl:p+4<s.size:=by omega
    obtain⟨b,hb0⟩:∃ b,((s[p+4]'hpl).toNat:Int)=b:=⟨_,rfl⟩
    have hb:((s[j]'hjl).toNat:Int)=b:=(show ∀ (q:Nat) (hq:q<s.size),q=p+4→((s[q]'hq).toNat:Int)=b by intro q hq e;subst e;exact hb0) j hjl hj
    have hbr:0≤b∧b<256:=by have:=(s[p+4]'hpl).toNat_lt;omega
    have HT:Hid (l.drop 4=b :: (bI s).drop (p+4+1)):=Lib.hid (by rw[← HL.out,drop_bI s p 4 hpl,hb0])
    clear hb0 hpl
    clear hge hj
    have HD:=Lib.hid (fun W=>rdigit_any b W)
    have hdl:=dig_lt b
    by_cases hbad:digP b<0
    ·have HE:=Lib.hid (HG.out.trans (fourG_bad 1 4 x b l _ HT.out (by unfold badF;omega)))
     generalize digP b=d at *
     clear HG
     go_wp2_with fail
     refine(HD.out _).mono ?_
     rintro e w1 ⟨rfl,rfl⟩
     go_wp2_with fail
     refine bodyPost_ret (results_tmp2 rfl _ _ _) rfl ⟨by rw[HE.out];rfl,rfl⟩
    ·have HE:=Lib.hid (HG.out.trans (fourG_yes 1 4 x b l _ HT.out (by unfold badF;omega)))
     rw[if_pos (by omega)] at HE
     generalize digP b=d at *
     have hw2:IntKind.i64.wrap (16*x)=16*x:=by rw[IntKind.wrap_i64] <;> omega
     have hw3:IntKind.i64.wrap (16*x+d)=16*x+d:=by rw[IntKind.wrap_i64] <;> omega
     clear HG
     go_wp2_with fail
     refine(HD.out _).mono ?_
     rintro e w1 ⟨rfl,rfl⟩
     go_wp2_with fail
     refine(HD.out _).mono ?_
     rintro e w1 ⟨rfl,rfl⟩
     go_wp2_with fail
     go_round
     case rel=>exact⟨5,16*x+d,by omega,by go_num,rfl,HE,by omega,by simp only[Int.reducePow];omega⟩
     case measure=>simp[intOf]
   ·clear hlt hk
    simp only[Int.reducePow] at x1
    obtain⟨j,hj⟩:∃ j:Nat,j=p+5:=⟨_,rfl⟩
    have hw:IntKind.i64.wrap ((p:Int)+5)=(j:Int):=by rw[IntKind.wrap_i64] <;> omega
    by_cases hge:s.size≤p+5
    ·have HE:=Lib.hid (HG.out.trans (fourG_end 0 5 x l (by rw[← HL.out];exact drop_bI_end s p 5 hge)))
     have hge2:(s.size:Int)≤(j:Int):=by omega
     clear hge hj HG
     go_wp2_with fail
     refine bodyPost_ret (results_tmp2 rfl _ _ _) rfl ⟨by rw[HE.out];rfl,rfl⟩
    have hjl:j<s.size:=by omega
    have hge2:¬ (s.size:Int)≤(j:Int):=by omega
    have hj0:(0:Int)≤(j:Int):=by omega
    have hj1:(j:Int)<(s.size:Int):=by omega
    have hpl:p+5<s.size:=by omega
    obtain⟨b,hb0⟩:∃ b,((s[p+5]'hpl).toNat:Int)=b:=⟨_,rfl⟩
    have hb:((s[j]'hjl).toNat:Int)=b:=(show ∀ (q:Nat) (hq:q<s.size),q=p+5→((s[q]'hq).toNat:Int)=b by intro q hq e;subst e;exact hb0) j hjl hj
    have hbr:0≤b∧b<256:=by have:=(s[p+5]'hpl).toNat_lt;omega
    have HT:Hid (l.drop 5=b :: (bI s).drop (p+5+1)):=Lib.hid (by rw[← HL.out,drop_bI s p 5 hpl,hb0])
    clear hb0 hpl
    clear hge hj
    have HD:=Lib.hid (fun W=>rdigit_any b W)
    have hdl:=dig_lt b
    by_cases hbad:digP b<0
    ·have HE:=Lib.hid (HG.out.trans (fourG_bad 0 5 x b l _ HT.out (by unfold badF;omega)))
     generalize digP b=d at *
     clear HG
     go_wp2_with fail
     refine(HD.out _).mono ?_
     rintro e w1 ⟨rfl,rfl⟩
     go_wp2_with fail
     refine bodyPost_ret (results_tmp2 rfl _ _ _) rfl ⟨by rw[HE.out];rfl,rfl⟩
    ·have HE:=Lib.hid (HG.out.trans (fourG_yes 0 5 x b l _ HT.out (by unfold badF;omega)))
     rw[if_pos (by omega)] at HE
     generalize digP b=d at *
     have hw2:IntKind.i64.wrap (16*x)=16*x:=by rw[IntKind.wrap_i64] <;> omega
     have hw3:IntKind.i64.wrap (16*x+d)=16*x+d:=by rw[IntKind.wrap_i64] <;> omega
     clear HG
     go_wp2_with fail
     refine(HD.out _).mono ?_
     rintro e w1 ⟨rfl,rfl⟩
     go_wp2_with fail
     refine(HD.out _).mono ?_
     rintro e w1 ⟨rfl,rfl⟩
     go_wp2_with fail
     go_round
     case rel=>exact⟨6,16*x+d,by omega,by go_num,rfl,HE,by omega,by simp only[Int.reducePow];omega⟩
     case measure=>simp[intOf]
  ·obtain rfl:k=6:=by omega
   have HE:Hid (R=(x,0)):=Lib.hid (by rw[HG.out];rfl)
   clear HG
   go_wp2_with fail
   refine bodyPost_ret (results_tmp2 rfl _ _ _) rfl ⟨by rw[HE.out];rfl,rfl⟩
theorem keep_be {w w' w1:World} (hb:Below w'.heap.size w' w1) (h:Below w.heap.size w w'):Below w.heap.size w w1:=h.trans (hb.mono h.size)
theorem str_is {a:List Int} {s:ByteArray} {n:Nat} (ha:∀ x ∈ a,0≤x∧x<256):str a=s.extract 0 n↔a=(bI s).take n:=by
 have e:bI (s.extract 0 n)=(bI s).take n:=by rw[bI_extract _ _ _ (Nat.zero_le _),List.drop_zero,Nat.sub_zero]
 constructor
 ·intro h;rw[← e,← h,bI_str a ha]
 ·intro h;apply bI_inj;rw[bI_str a ha,e];exact h
theorem test_yes {c:Int} {s:ByteArray} {n:Nat} (h:encC c=(bI s).take n):((str (encC c)).toList == (s.extract 0 n).toList)=true:=str_yes ((str_is (encC_byte c)).2 h)
theorem test_no {c:Int} {s:ByteArray} {n:Nat} (h:¬ encC c=(bI s).take n):((str (encC c)).toList == (s.extract 0 n).toList)=false:=str_no (fun e=>h ((str_is (encC_byte c)).1 e))
theorem ext_is {c:Int} {s:ByteArray} {n:Nat} (h:encC c=(bI s).take n):s.extract 0 n=str (encC c):=((str_is (encC_byte c)).2 h).symm
set_option maxHeartbeats 2000000 in
theorem rrune_yes1 (s:ByteArray) (w:World) (hs:s.size≤1000000) (hl:1≤s.size) (b0:Int) (e0:((s[0]'(by omega)).toNat:Int)=b0) (h0:0≤b0∧b0<256) (t1:((str (encC b0)).toList == (s.extract 0 1).toList)=true) :
  Calls Tryz.prog 223 #[.string s] w fun e w'=>e=.returned (.string (s.extract 0 1))∧Below w.heap.size w w':=by
 have HBY:=Lib.hid (fun c w h=>rbytes_anyDd c w h)
 have HB:Hid (Below w.heap.size w w):=Lib.hid (Below.refl _ _)
 go_enter Tryz.func223,Tryz.ntmps223
 go_wp2_with fail
 refine wp_loop_rounds 5 ?_
 rw[rounds_succ]
 go_wp2_with fail
 refine wp_loop_rounds 1 ?_
 rw[rounds_succ]
 go_wp2_with fail
 have hk0:=Below.drew HB.out
 go_region_held3 (fun w'=>Below w.heap.size w w') (first|exact hk0|exact keep_be hk (by assumption)) (first|(go_at_call 247;refine(HBY.out b0 _ (by omega)).mono ?_;rintro e w' ⟨rfl,hk⟩))
 rename_i hHeld
 clear hk0 HB
 have HB:=Lib.hid hHeld
 clear hHeld
 generalize w'=v1 at *
 go_wp2_with fail
 go_ret
 exact⟨rfl,HB.out⟩
set_option maxHeartbeats 2000000 in
theorem rrune_yes2 (s:ByteArray) (w:World) (hs:s.size≤1000000) (hl:2≤s.size) (b0:Int) (e0:((s[0]'(by omega)).toNat:Int)=b0) (h0:0≤b0∧b0<256) (b1:Int) (e1:((s[1]'(by omega)).toNat:Int)=b1) (h1:0≤b1∧b1<256) (t1:((str (encC b0)).toList == (s.extract 0 1).toList)=false) (t2:((str (encC (64*(b0 % 32)+b1 % 64))).toList == (s.extract 0 2).toList)=true) :
  Calls Tryz.prog 223 #[.string s] w fun e w'=>e=.returned (.string (s.extract 0 2))∧Below w.heap.size w w':=by
 have HBY:=Lib.hid (fun c w h=>rbytes_anyDd c w h)
 have HB:Hid (Below w.heap.size w w):=Lib.hid (Below.refl _ _)
 go_enter Tryz.func223,Tryz.ntmps223
 go_wp2_with fail
 refine wp_loop_rounds 5 ?_
 rw[rounds_succ]
 go_wp2_with fail
 refine wp_loop_rounds 1 ?_
 rw[rounds_succ]
 go_wp2_with fail
 have hk0:=Below.drew HB.out
 go_region_held3 (fun w'=>Below w.heap.size w w') (first|exact hk0|exact keep_be hk (by assumption)) (first|(go_at_call 247;refine(HBY.out b0 _ (by omega)).mono ?_;rintro e w' ⟨rfl,hk⟩))
 rename_i hHeld
 clear hk0 HB
 have HB:=Lib.hid hHeld
 clear hHeld
 generalize w'=v1 at *
 go_wp2_with fail
 rw[rounds_succ]
 go_wp2_with fail
 refine wp_loop_rounds 2 ?_
 rw[rounds_succ]
 go_wp2_with fail
 rw[rounds_succ]
 go_wp2_with fail
 have hk0:=Below.drew HB.out
 go_region_held3 (fun w'=>Below w.heap.size w w') (first|exact hk0|exact keep_be hk (by assumption)) (first|(go_at_call 247;refine(HBY.out (64*(b0 % 32)+b1 % 64) _ (by omega)).mono ?_;rintro e w' ⟨rfl,hk⟩))
 rename_i hHeld
 clear hk0 HB
 have HB:=Lib.hid hHeld
 clear hHeld
 generalize w'=v2 at *
 go_wp2_with fail
 go_ret
 exact⟨rfl,HB.out⟩
set_option maxHeartbeats 2000000 in
theorem rrune_yes3 (s:ByteArray) (w:World) (hs:s.size≤1000000) (hl:3≤s.size) (b0:Int) (e0:((s[0]'(by omega)).toNat:Int)=b0) (h0:0≤b0∧b0<256) (b1:Int) (e1:((s[1]'(by omega)).toNat:Int)=b1) (h1:0≤b1∧b1<256) (b2:Int) (e2:((s[2]'(by omega)).toNat:Int)=b2) (h2:0≤b2∧b2<256) (t1:((str (encC b0)).toList == (s.extract 0 1).toList)=false) (t2:((str (encC (64*(b0 % 32)+b1 % 64))).toList == (s.extract 0 2).toList)=false) (t3:((str (encC (64*(64*(b0 % 16)+b1 % 64)+b2 % 64))).toList == (s.extract 0 3).toList)=true) :
  Calls Tryz.prog 223 #[.string s] w fun e w'=>e=.returned (.string (s.extract 0 3))∧Below w.heap.size w w':=by
 have HBY:=Lib.hid (fun c w h=>rbytes_anyDd c w h)
 have HB:Hid (Below w.heap.size w w):=Lib.hid (Below.refl _ _)
 go_enter Tryz.func223,Tryz.ntmps223
 go_wp2_with fail
 refine wp_loop_rounds 5 ?_
 rw[rounds_succ]
 go_wp2_with fail
 refine wp_loop_rounds 1 ?_
 rw[rounds_succ]
 go_wp2_with fail
 have hk0:=Below.drew HB.out
 go_region_held3 (fun w'=>Below w.heap.size w w') (first|exact hk0|exact keep_be hk (by assumption)) (first|(go_at_call 247;refine(HBY.out b0 _ (by omega)).mono ?_;rintro e w' ⟨rfl,hk⟩))
 rename_i hHeld
 clear hk0 HB
 have HB:=Lib.hid hHeld
 clear hHeld
 generalize w'=v1 at *
 go_wp2_with fail
 rw[rounds_succ]
 go_wp2_with fail
 refine wp_loop_rounds 2 ?_
 rw[rounds_succ]
 go_wp2_with fail
 rw[rounds_succ]
 go_wp2_with fail
 have hk0:=Below.drew HB.out
 go_region_held3 (fun w'=>Below w.heap.size w w') (first|exact hk0|exact keep_be hk (by assumption)) (first|(go_at_call 247;refine(HBY.out (64*(b0 % 32)+b1 % 64) _ (by omega)).mono ?_;rintro e w' ⟨rfl,hk⟩))
 rename_i hHeld
 clear hk0 HB
 have HB:=Lib.hid hHeld
 clear hHeld
 generalize w'=v2 at *
 go_wp2_with fail
 rw[rounds_succ]
 go_wp2_with fail
 refine wp_loop_rounds 3 ?_
 rw[rounds_succ]
 go_wp2_with fail
 rw[rounds_succ]
 go_wp2_with fail
 rw[rounds_succ]
 go_wp2_with fail
 have hk0:=Below.drew HB.out
 go_region_held3 (fun w'=>Below w.heap.size w w') (first|exact hk0|exact keep_be hk (by assumption)) (first|(go_at_call 247;refine(HBY.out (64*(64*(b0 % 16)+b1 % 64)+b2 % 64) _ (by omega)).mono ?_;rintro e w' ⟨rfl,hk⟩))
 rename_i hHeld
 clear hk0 HB
 have HB:=Lib.hid hHeld
 clear hHeld
 generalize w'=v3 at *
 go_wp2_with fail
 go_ret
 exact⟨rfl,HB.out⟩
set_option maxHeartbeats 2000000 in
theorem rrune_yes4 (s:ByteArray) (w:World) (hs:s.size≤1000000) (hl:4≤s.size) (b0:Int) (e0:((s[0]'(by omega)).toNat:Int)=b0) (h0:0≤b0∧b0<256) (b1:Int) (e1:((s[1]'(by omega)).toNat:Int)=b1) (h1:0≤b1∧b1<256) (b2:Int) (e2:((s[2]'(by omega)).toNat:Int)=b2) (h2:0≤b2∧b2<256) (b3:Int) (e3:((s[3]'(by omega)).toNat:Int)=b3) (h3:0≤b3∧b3<256) (t1:((str (encC b0)).toList == (s.extract 0 1).toList)=false) (t2:((str (encC (64*(b0 % 32)+b1 % 64))).toList == (s.extract 0 2).toList)=false) (t3:((str (encC (64*(64*(b0 % 16)+b1 % 64)+b2 % 64))).toList == (s.extract 0 3).toList)=false) (t4:((str (encC (64*(64*(64*(b0 % 8)+b1 % 64)+b2 % 64)+b3 % 64))).toList == (s.extract 0 4).toList)=true) :
  Calls Tryz.prog 223 #[.string s] w fun e w'=>e=.returned (.string (s.extract 0 4))∧Below w.heap.size w w':=by
 have HBY:=Lib.hid (fun c w h=>rbytes_anyDd c w h)
 have HB:Hid (Below w.heap.size w w):=Lib.hid (Below.refl _ _)
 go_enter Tryz.func223,Tryz.ntmps223
 go_wp2_with fail
 refine wp_loop_rounds 5 ?_
 rw[rounds_succ]
 go_wp2_with fail
 refine wp_loop_rounds 1 ?_
 rw[rounds_succ]
 go_wp2_with fail
 have hk0:=Below.drew HB.out
 go_region_held3 (fun w'=>Below w.heap.size w w') (first|exact hk0|exact keep_be hk (by assumption)) (first|(go_at_call 247;refine(HBY.out b0 _ (by omega)).mono ?_;rintro e w' ⟨rfl,hk⟩))
 rename_i hHeld
 clear hk0 HB
 have HB:=Lib.hid hHeld
 clear hHeld
 generalize w'=v1 at *
 go_wp2_with fail
 rw[rounds_succ]
 go_wp2_with fail
 refine wp_loop_rounds 2 ?_
 rw[rounds_succ]
 go_wp2_with fail
 rw[rounds_succ]
 go_wp2_with fail
 have hk0:=Below.drew HB.out
 go_region_held3 (fun w'=>Below w.heap.size w w') (first|exact hk0|exact keep_be hk (by assumption)) (first|(go_at_call 247;refine(HBY.out (64*(b0 % 32)+b1 % 64) _ (by omega)).mono ?_;rintro e w' ⟨rfl,hk⟩))
 rename_i hHeld
 clear hk0 HB
 have HB:=Lib.hid hHeld
 clear hHeld
 generalize w'=v2 at *
 go_wp2_with fail
 rw[rounds_succ]
 go_wp2_with fail
 refine wp_loop_rounds 3 ?_
 rw[rounds_succ]
 go_wp2_with fail
 rw[rounds_succ]
 go_wp2_with fail
 rw[rounds_succ]
 go_wp2_with fail
 have hk0:=Below.drew HB.out
 go_region_held3 (fun w'=>Below w.heap.size w w') (first|exact hk0|exact keep_be hk (by assumption)) (first|(go_at_call 247;refine(HBY.out (64*(64*(b0 % 16)+b1 % 64)+b2 % 64) _ (by omega)).mono ?_;rintro e w' ⟨rfl,hk⟩))
 rename_i hHeld
 clear hk0 HB
 have HB:=Lib.hid hHeld
 clear hHeld
 generalize w'=v3 at *
 go_wp2_with fail
 rw[rounds_succ]
 go_wp2_with fail
 refine wp_loop_rounds 4 ?_
 rw[rounds_succ]
 go_wp2_with fail
 rw[rounds_succ]
 go_wp2_with fail
 rw[rounds_succ]
 go_wp2_with fail
 rw[rounds_succ]
 go_wp2_with fail
 have hk0:=Below.drew HB.out
 go_region_held3 (fun w'=>Below w.heap.size w w') (first|exact hk0|exact keep_be hk (by assumption)) (first|(go_at_call 247;refine(HBY.out (64*(64*(64*(b0 % 8)+b1 % 64)+b2 % 64)+b3 % 64) _ (by omega)).mono ?_;rintro e w' ⟨rfl,hk⟩))
 rename_i hHeld
 clear hk0 HB
 have HB:=Lib.hid hHeld
 clear hHeld
 generalize w'=v4 at *
 go_wp2_with fail
 go_ret
 exact⟨rfl,HB.out⟩
set_option maxHeartbeats 2000000 in
theorem rrune_end0 (s:ByteArray) (w:World) (hs:s.size≤1000000) (hl:s.size=0) :
  Calls Tryz.prog 223 #[.string s] w fun e w'=>e=.returned (.string { data:=#[] })∧Below w.heap.size w w':=by
 have HBY:=Lib.hid (fun c w h=>rbytes_anyDd c w h)
 have HB:Hid (Below w.heap.size w w):=Lib.hid (Below.refl _ _)
 go_enter Tryz.func223,Tryz.ntmps223
 go_wp2_with fail
 refine wp_loop_rounds 5 ?_
 rw[rounds_succ]
 go_wp2_with fail
 go_ret
 exact⟨rfl,HB.out⟩
set_option maxHeartbeats 2000000 in
theorem rrune_end1 (s:ByteArray) (w:World) (hs:s.size≤1000000) (hl:s.size=1) (b0:Int) (e0:((s[0]'(by omega)).toNat:Int)=b0) (h0:0≤b0∧b0<256) (t1:((str (encC b0)).toList == (s.extract 0 1).toList)=false) :
  Calls Tryz.prog 223 #[.string s] w fun e w'=>e=.returned (.string { data:=#[] })∧Below w.heap.size w w':=by
 have HBY:=Lib.hid (fun c w h=>rbytes_anyDd c w h)
 have HB:Hid (Below w.heap.size w w):=Lib.hid (Below.refl _ _)
 go_enter Tryz.func223,Tryz.ntmps223
 go_wp2_with fail
 refine wp_loop_rounds 5 ?_
 rw[rounds_succ]
 go_wp2_with fail
 refine wp_loop_rounds 1 ?_
 rw[rounds_succ]
 go_wp2_with fail
 have hk0:=Below.drew HB.out
 go_region_held3 (fun w'=>Below w.heap.size w w') (first|exact hk0|exact keep_be hk (by assumption)) (first|(go_at_call 247;refine(HBY.out b0 _ (by omega)).mono ?_;rintro e w' ⟨rfl,hk⟩))
 rename_i hHeld
 clear hk0 HB
 have HB:=Lib.hid hHeld
 clear hHeld
 generalize w'=v1 at *
 go_wp2_with fail
 rw[rounds_succ]
 go_wp2_with fail
 go_ret
 exact⟨rfl,HB.out⟩
set_option maxHeartbeats 2000000 in
theorem rrune_end2 (s:ByteArray) (w:World) (hs:s.size≤1000000) (hl:s.size=2) (b0:Int) (e0:((s[0]'(by omega)).toNat:Int)=b0) (h0:0≤b0∧b0<256) (b1:Int) (e1:((s[1]'(by omega)).toNat:Int)=b1) (h1:0≤b1∧b1<256) (t1:((str (encC b0)).toList == (s.extract 0 1).toList)=false) (t2:((str (encC (64*(b0 % 32)+b1 % 64))).toList == (s.extract 0 2).toList)=false) :
  Calls Tryz.prog 223 #[.string s] w fun e w'=>e=.returned (.string { data:=#[] })∧Below w.heap.size w w':=by
 have HBY:=Lib.hid (fun c w h=>rbytes_anyDd c w h)
 have HB:Hid (Below w.heap.size w w):=Lib.hid (Below.refl _ _)
 go_enter Tryz.func223,Tryz.ntmps223
 go_wp2_with fail
 refine wp_loop_rounds 5 ?_
 rw[rounds_succ]
 go_wp2_with fail
 refine wp_loop_rounds 1 ?_
 rw[rounds_succ]
 go_wp2_with fail
 have hk0:=Below.drew HB.out
 go_region_held3 (fun w'=>Below w.heap.size w w') (first|exact hk0|exact keep_be hk (by assumption)) (first|(go_at_call 247;refine(HBY.out b0 _ (by omega)).mono ?_;rintro e w' ⟨rfl,hk⟩))
 rename_i hHeld
 clear hk0 HB
 have HB:=Lib.hid hHeld
 clear hHeld
 generalize w'=v1 at *
 go_wp2_with fail
 rw[rounds_succ]
 go_wp2_with fail
 refine wp_loop_rounds 2 ?_
 rw[rounds_succ]
 go_wp2_with fail
 rw[rounds_succ]
 go_wp2_with fail
 have hk0:=Below.drew HB.out
 go_region_held3 (fun w'=>Below w.heap.size w w') (first|exact hk0|exact keep_be hk (by assumption)) (first|(go_at_call 247;refine(HBY.out (64*(b0 % 32)+b1 % 64) _ (by omega)).mono ?_;rintro e w' ⟨rfl,hk⟩))
 rename_i hHeld
 clear hk0 HB
 have HB:=Lib.hid hHeld
 clear hHeld
 generalize w'=v2 at *
 go_wp2_with fail
 rw[rounds_succ]
 go_wp2_with fail
 go_ret
 exact⟨rfl,HB.out⟩
set_option maxHeartbeats 2000000 in
theorem rrune_end3 (s:ByteArray) (w:World) (hs:s.size≤1000000) (hl:s.size=3) (b0:Int) (e0:((s[0]'(by omega)).toNat:Int)=b0) (h0:0≤b0∧b0<256) (b1:Int) (e1:((s[1]'(by omega)).toNat:Int)=b1) (h1:0≤b1∧b1<256) (b2:Int) (e2:((s[2]'(by omega)).toNat:Int)=b2) (h2:0≤b2∧b2<256) (t1:((str (encC b0)).toList == (s.extract 0 1).toList)=false) (t2:((str (encC (64*(b0 % 32)+b1 % 64))).toList == (s.extract 0 2).toList)=false) (t3:((str (encC (64*(64*(b0 % 16)+b1 % 64)+b2 % 64))).toList == (s.extract 0 3).toList)=false) :
  Calls Tryz.prog 223 #[.string s] w fun e w'=>e=.returned (.string { data:=#[] })∧Below w.heap.size w w':=by
 have HBY:=Lib.hid (fun c w h=>rbytes_anyDd c w h)
 have HB:Hid (Below w.heap.size w w):=Lib.hid (Below.refl _ _)
 go_enter Tryz.func223,Tryz.ntmps223
 go_wp2_with fail
 refine wp_loop_rounds 5 ?_
 rw[rounds_succ]
 go_wp2_with fail
 refine wp_loop_rounds 1 ?_
 rw[rounds_succ]
 go_wp2_with fail
 have hk0:=Below.drew HB.out
 go_region_held3 (fun w'=>Below w.heap.size w w') (first|exact hk0|exact keep_be hk (by assumption)) (first|(go_at_call 247;refine(HBY.out b0 _ (by omega)).mono ?_;rintro e w' ⟨rfl,hk⟩))
 rename_i hHeld
 clear hk0 HB
 have HB:=Lib.hid hHeld
 clear hHeld
 generalize w'=v1 at *
 go_wp2_with fail
 rw[rounds_succ]
 go_wp2_with fail
 refine wp_loop_rounds 2 ?_
 rw[rounds_succ]
 go_wp2_with fail
 rw[rounds_succ]
 go_wp2_with fail
 have hk0:=Below.drew HB.out
 go_region_held3 (fun w'=>Below w.heap.size w w') (first|exact hk0|exact keep_be hk (by assumption)) (first|(go_at_call 247;refine(HBY.out (64*(b0 % 32)+b1 % 64) _ (by omega)).mono ?_;rintro e w' ⟨rfl,hk⟩))
 rename_i hHeld
 clear hk0 HB
 have HB:=Lib.hid hHeld
 clear hHeld
 generalize w'=v2 at *
 go_wp2_with fail
 rw[rounds_succ]
 go_wp2_with fail
 refine wp_loop_rounds 3 ?_
 rw[rounds_succ]
 go_wp2_with fail
 rw[rounds_succ]
 go_wp2_with fail
 rw[rounds_succ]
 go_wp2_with fail
 have hk0:=Below.drew HB.out
 go_region_held3 (fun w'=>Below w.heap.size w w') (first|exact hk0|exact keep_be hk (by assumption)) (first|(go_at_call 247;refine(HBY.out (64*(64*(b0 % 16)+b1 % 64)+b2 % 64) _ (by omega)).mono ?_;rintro e w' ⟨rfl,hk⟩))
 rename_i hHeld
 clear hk0 HB
 have HB:=Lib.hid hHeld
 clear hHeld
 generalize w'=v3 at *
 go_wp2_with fail
 rw[rounds_succ]
 go_wp2_with fail
 go_ret
 exact⟨rfl,HB.out⟩
set_option maxHeartbeats 2000000 in
theorem rrune_none (s:ByteArray) (w:World) (hs:s.size≤1000000) (hl:4≤s.size) (b0:Int) (e0:((s[0]'(by omega)).toNat:Int)=b0) (h0:0≤b0∧b0<256) (b1:Int) (e1:((s[1]'(by omega)).toNat:Int)=b1) (h1:0≤b1∧b1<256) (b2:Int) (e2:((s[2]'(by omega)).toNat:Int)=b2) (h2:0≤b2∧b2<256) (b3:Int) (e3:((s[3]'(by omega)).toNat:Int)=b3) (h3:0≤b3∧b3<256) (t1:((str (encC b0)).toList == (s.extract 0 1).toList)=false) (t2:((str (encC (64*(b0 % 32)+b1 % 64))).toList == (s.extract 0 2).toList)=false) (t3:((str (encC (64*(64*(b0 % 16)+b1 % 64)+b2 % 64))).toList == (s.extract 0 3).toList)=false) (t4:((str (encC (64*(64*(64*(b0 % 8)+b1 % 64)+b2 % 64)+b3 % 64))).toList == (s.extract 0 4).toList)=false) :
  Calls Tryz.prog 223 #[.string s] w fun e w'=>e=.returned (.string { data:=#[] })∧Below w.heap.size w w':=by
 have HBY:=Lib.hid (fun c w h=>rbytes_anyDd c w h)
 have HB:Hid (Below w.heap.size w w):=Lib.hid (Below.refl _ _)
 go_enter Tryz.func223,Tryz.ntmps223
 go_wp2_with fail
 refine wp_loop_rounds 5 ?_
 rw[rounds_succ]
 go_wp2_with fail
 refine wp_loop_rounds 1 ?_
 rw[rounds_succ]
 go_wp2_with fail
 have hk0:=Below.drew HB.out
 go_region_held3 (fun w'=>Below w.heap.size w w') (first|exact hk0|exact keep_be hk (by assumption)) (first|(go_at_call 247;refine(HBY.out b0 _ (by omega)).mono ?_;rintro e w' ⟨rfl,hk⟩))
 rename_i hHeld
 clear hk0 HB
 have HB:=Lib.hid hHeld
 clear hHeld
 generalize w'=v1 at *
 go_wp2_with fail
 rw[rounds_succ]
 go_wp2_with fail
 refine wp_loop_rounds 2 ?_
 rw[rounds_succ]
 go_wp2_with fail
 rw[rounds_succ]
 go_wp2_with fail
 have hk0:=Below.drew HB.out
 go_region_held3 (fun w'=>Below w.heap.size w w') (first|exact hk0|exact keep_be hk (by assumption)) (first|(go_at_call 247;refine(HBY.out (64*(b0 % 32)+b1 % 64) _ (by omega)).mono ?_;rintro e w' ⟨rfl,hk⟩))
 rename_i hHeld
 clear hk0 HB
 have HB:=Lib.hid hHeld
 clear hHeld
 generalize w'=v2 at *
 go_wp2_with fail
 rw[rounds_succ]
 go_wp2_with fail
 refine wp_loop_rounds 3 ?_
 rw[rounds_succ]
 go_wp2_with fail
 rw[rounds_succ]
 go_wp2_with fail
 rw[rounds_succ]
 go_wp2_with fail
 have hk0:=Below.drew HB.out
 go_region_held3 (fun w'=>Below w.heap.size w w') (first|exact hk0|exact keep_be hk (by assumption)) (first|(go_at_call 247;refine(HBY.out (64*(64*(b0 % 16)+b1 % 64)+b2 % 64) _ (by omega)).mono ?_;rintro e w' ⟨rfl,hk⟩))
 rename_i hHeld
 clear hk0 HB
 have HB:=Lib.hid hHeld
 clear hHeld
 generalize w'=v3 at *
 go_wp2_with fail
 rw[rounds_succ]
 go_wp2_with fail
 refine wp_loop_rounds 4 ?_
 rw[rounds_succ]
 go_wp2_with fail
 rw[rounds_succ]
 go_wp2_with fail
 rw[rounds_succ]
 go_wp2_with fail
 rw[rounds_succ]
 go_wp2_with fail
 have hk0:=Below.drew HB.out
 go_region_held3 (fun w'=>Below w.heap.size w w') (first|exact hk0|exact keep_be hk (by assumption)) (first|(go_at_call 247;refine(HBY.out (64*(64*(64*(b0 % 8)+b1 % 64)+b2 % 64)+b3 % 64) _ (by omega)).mono ?_;rintro e w' ⟨rfl,hk⟩))
 rename_i hHeld
 clear hk0 HB
 have HB:=Lib.hid hHeld
 clear hHeld
 generalize w'=v4 at *
 go_wp2_with fail
 rw[rounds_succ]
 go_wp2_with fail
 go_ret
 exact⟨rfl,HB.out⟩
theorem rrune_any (s:ByteArray) (w:World) (hs:s.size≤1000000):Calls Tryz.prog 223 #[.string s] w fun e w'=>e=.returned (.string (str (runeP (bI s))))∧Below w.heap.size w w':=by
 have hlen:=bI_len s
 have hsp:=bI_split s
 by_cases z0:s.size=0
 ·have e0:bI s=[]:=List.eq_nil_of_length_eq_zero (by omega)
  rw[e0]
  exact rrune_end0 s w hs z0
 obtain⟨b0,e0⟩:∃ b0,((s[0]'(by omega)).toNat:Int)=b0:=⟨_,rfl⟩
 have h0:0≤b0∧b0<256:=by have:=(s[0]'(by omega)).toNat_lt;omega
 have l0:=hsp 0 (by omega)
 rw[List.drop_zero,e0] at l0
 by_cases t1:encC b0=(bI s).take 1
 ·rw[show runeP (bI s)=encC b0 from ?_]
  ·rw[← ext_is t1]
   exact rrune_yes1 s w hs (by omega) b0 e0 h0 (test_yes t1)
  ·rw[l0] at t1 ⊢
   rw[List.take_succ_cons,List.take_zero] at t1
   rw[runeP,if_pos t1,t1]
 have f1:=test_no t1
 rw[l0,List.take_succ_cons,List.take_zero] at t1
 by_cases z1:s.size=1
 ·have hd:(bI s).drop 1=[]:=List.eq_nil_of_length_eq_zero (by rw[List.length_drop];omega)
  rw[l0,hd,runeP,if_neg t1,runeP2]
  exact rrune_end1 s w hs z1 b0 e0 h0 f1
 obtain⟨b1,e1⟩:∃ b1,((s[1]'(by omega)).toNat:Int)=b1:=⟨_,rfl⟩
 have h1:0≤b1∧b1<256:=by have:=(s[1]'(by omega)).toNat_lt;omega
 have l1:=hsp 1 (by omega)
 rw[e1] at l1
 by_cases t2:encC (64*(b0 % 32)+b1 % 64)=(bI s).take 2
 ·rw[show runeP (bI s)=encC (64*(b0 % 32)+b1 % 64) from ?_]
  ·rw[← ext_is t2]
   exact rrune_yes2 s w hs (by omega) b0 e0 h0 b1 e1 h1 f1 (test_yes t2)
  ·rw[l0,l1] at t2 ⊢
   rw[List.take_succ_cons,List.take_succ_cons,List.take_zero] at t2
   rw[runeP,if_neg t1,runeP2,if_pos t2,t2]
 have f2:=test_no t2
 rw[l0,l1,List.take_succ_cons,List.take_succ_cons,List.take_zero] at t2
 by_cases z2:s.size=2
 ·have hd:(bI s).drop (1+1)=[]:=List.eq_nil_of_length_eq_zero (by rw[List.length_drop];omega)
  rw[l0,l1,hd,runeP,if_neg t1,runeP2,if_neg t2,runeP3]
  exact rrune_end2 s w hs z2 b0 e0 h0 b1 e1 h1 f1 f2
 obtain⟨b2,e2⟩:∃ b2,((s[2]'(by omega)).toNat:Int)=b2:=⟨_,rfl⟩
 have h2:0≤b2∧b2<256:=by have:=(s[2]'(by omega)).toNat_lt;omega
 have l2:=hsp 2 (by omega)
 rw[e2] at l2
 by_cases t3:encC (64*(64*(b0 % 16)+b1 % 64)+b2 % 64)=(bI s).take 3
 ·rw[show runeP (bI s)=encC (64*(64*(b0 % 16)+b1 % 64)+b2 % 64) from ?_]
  ·rw[← ext_is t3]
   exact rrune_yes3 s w hs (by omega) b0 e0 h0 b1 e1 h1 b2 e2 h2 f1 f2 (test_yes t3)
  ·rw[l0,l1,l2] at t3 ⊢
   rw[List.take_succ_cons,List.take_succ_cons,List.take_succ_cons,List.take_zero] at t3
   rw[runeP,if_neg t1,runeP2,if_neg t2,runeP3,if_pos t3,t3]
 have f3:=test_no t3
 rw[l0,l1,l2,List.take_succ_cons,List.take_succ_cons,List.take_succ_cons,List.take_zero] at t3
 by_cases z3:s.size=3
 ·have hd:(bI s).drop (2+1)=[]:=List.eq_nil_of_length_eq_zero (by rw[List.length_drop];omega)
  rw[l0,l1,l2,hd,runeP,if_neg t1,runeP2,if_neg t2,runeP3,if_neg t3,runeP4]
  exact rrune_end3 s w hs z3 b0 e0 h0 b1 e1 h1 b2 e2 h2 f1 f2 f3
 obtain⟨b3,e3⟩:∃ b3,((s[3]'(by omega)).toNat:Int)=b3:=⟨_,rfl⟩
 have h3:0≤b3∧b3<256:=by have:=(s[3]'(by omega)).toNat_lt;omega
 have l3:=hsp 3 (by omega)
 rw[e3] at l3
 by_cases t4:encC (64*(64*(64*(b0 % 8)+b1 % 64)+b2 % 64)+b3 % 64)=(bI s).take 4
 ·rw[show runeP (bI s)=encC (64*(64*(64*(b0 % 8)+b1 % 64)+b2 % 64)+b3 % 64) from ?_]
  ·rw[← ext_is t4]
   exact rrune_yes4 s w hs (by omega) b0 e0 h0 b1 e1 h1 b2 e2 h2 b3 e3 h3 f1 f2 f3 (test_yes t4)
  ·rw[l0,l1,l2,l3] at t4 ⊢
   rw[List.take_succ_cons,List.take_succ_cons,List.take_succ_cons,List.take_succ_cons,List.take_zero] at t4
   rw[runeP,if_neg t1,runeP2,if_neg t2,runeP3,if_neg t3,runeP4,if_pos t4,t4]
 have f4:=test_no t4
 rw[l0,l1,l2,l3,List.take_succ_cons,List.take_succ_cons,List.take_succ_cons,List.take_succ_cons,List.take_zero] at t4
 rw[l0,l1,l2,l3,runeP,if_neg t1,runeP2,if_neg t2,runeP3,if_neg t3,runeP4,if_neg t4]
 exact rrune_none s w hs (by omega) b0 e0 h0 b1 e1 h1 b2 e2 h2 b3 e3 h3 f1 f2 f3 f4
end Go.Proofs.YtdnmgpcfgcidbaaGreatDoor
