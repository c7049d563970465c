/- The contract of the document's Back. -/
import Derived.Test.YtleicghfcffblaaNd
import Derived.Deep.RegionLaw
namespace Go.Proofs.Ytleicghfcffblaa
open Go.RowKit
set_option maxRecDepth 20000
set_option linter.unusedVariables false
set_option linter.unusedSimpArgs false
def RBackEnd (l : List En) (d : ByteArray) (w : World) (x : Ending) (w' : World) : Prop := ∃ v', x = .returned (.tuple #[v', .int .i64 (backN l d).2]) ∧ ItsAt w' v' (backN l d).1 ∧ Below w.heap.size w w'
theorem backG_step (l : List En) (i : Nat) (e : En) (d : ByteArray) (acc : List It) (m : Int) (h : l[i]? = some e) : backG (l.drop i) d acc m = if e.rn = 0 then ([], 14) else if (d.size : Int) < e.off + e.ln then ([], 8) else if 2048 < m + e.rn then ([], 21) else if 65536 < e.ln then ([], 5) else backG (l.drop (i + 1)) d (acc ++ runN e d) (m + e.rn) := by
  rw [idrop_at l i e h, backG]
theorem run_at (e : En) (d : ByteArray) (j : Nat) (h : (j : Int) < e.rn) : (runN e d)[j]? = some (e.id.toNat + j, txN e d) := by
  unfold runN
  rw [List.getElem?_map, List.getElem?_range (by omega)]
  rfl
theorem it_lit2 (w : World) (z : Int) (n : Nat) (hz : z = n) (s : ByteArray) (T : TypeId) : ItsAt (w.alloc (.cells #[.int .u64 z, .string s] T)) (.slice (some ⟨w.heap.size, 0, none⟩) 1 1) [(n, s)] := by
  subst hz
  exact it_lit w n s T
/-- An append of one item of the document's, as one step of a region that draws. -/
theorem step_append_run13 {ops : Array Oper} {o : Oper} {a : Act} {w : World} {K : Act → World → Prop} {Q : Exit → Act → World → Prop} {E : Prop}
    (hg : o.guard = none) (s x : Operand) (tA tB : TypeId) (hop : o.op = Op.call { callee := Callee.builtin Builtin.append, args := #[s, x], argTypes := #[tA, tB] })
    (v u : Value) (hs : a.eval s = v) (hx : a.eval x = u) {v' : Value} {w' : World} (hr : (Builtin.append_ #[tA, tB] o.type #[v, u]).run Try.prog w = .ok v' w') (hK : K (a.put o.dst v') w') :
    if Region.wanted o (yielded ops a.tmps) = true then Oper.wp Try.prog o a w K Q else E := by
  have hw : Region.wanted o (yielded ops a.tmps) = true := by simp [Region.wanted, hg]
  rw [if_pos hw]
  unfold Oper.wp
  simp [execOp, hop, resolve, invoke, builtin, hs, hx, hr, Result.andThen]
  exact hK
set_option maxHeartbeats 8000000 in
theorem rback13_any (v : Value) (l : List En) (d : ByteArray) (w : World) (hv : EnsAt w v l) (hm : MaysN l) (hd : d.size ≤ 1000000) : Calls Try.prog 16 #[v, .string d] w (RBackEnd l d w) := by
  have HRO := Lib.hid (rrowN_any v l w hv hm)
  have HV := Lib.hid hv
  have HM := Lib.hid hm
  obtain ⟨a0, c0, rfl, hcap, hmx, -⟩ := hv
  have hml : l.length ≤ 9223372036854775807 := by unfold maxLen at hmx; omega
  obtain ⟨R, hR⟩ : ∃ R, backN l d = R := ⟨_, rfl⟩
  unfold RBackEnd
  rw [hR]
  obtain ⟨q, hq⟩ : ∃ q, rowN l = q := ⟨_, rfl⟩
  rw [hq] at HRO
  clear hm
  by_cases h0 : q = 0
  · have e0 : (q != 0) = false := by simpa using h0
    have HB0 : Hid (R = backG (l.drop 0) d [] 0) := Lib.hid (by rw [← hR]; unfold backN; rw [hq, if_neg (by simpa using h0), List.drop_zero])
    have HCK : Hid (∀ e ∈ l, ckN e = 0) := Lib.hid (fun e he => by
      have hrow := hq.trans h0
      unfold rowN at hrow
      split at hrow
      · omega
      · exact (rowG_above (-1) l HM.out hrow e he).2)
    clear h0 hq hR
    go_enter Try.func16, Try.ntmps16
    go_wp2_with fail
    refine HRO.out.mono ?_
    rintro x w1 ⟨rfl, hb1⟩
    have HB1 := Lib.hid hb1
    clear hb1
    go_wp2_with fail
    go_loopw [7, 8, 9] (fun o y x wr => ∃ (i : Nat) (m : Nat) (acc : List It), i ≤ l.length ∧ x = .int .i64 i ∧ y = .int .u64 m ∧ m ≤ 2048 ∧ acc.length = m ∧ Hid (OwnIt wr w.heap.size 67 o acc) ∧ Hid (R = backG (l.drop i) d acc m) ∧ Below w.heap.size w wr) (fun _ _ x _ => l.length - (intOf x).toNat)
    case atStart => exact ⟨0, 0, [], Nat.zero_le _, rfl, rfl, by omega, rfl, Lib.hid (ownIt_nil _ _ _), HB0, HB1.out⟩
    case round =>
      obtain ⟨i, m, acc, hi, rfl, rfl, hm, hal, HO, HR, hbw⟩ := hrel
      by_cases hlt : i < l.length
      · obtain ⟨e, he⟩ : ∃ e, l[i]? = some e := ⟨_, List.getElem?_eq_getElem hlt⟩
        have hme := HM.out e (List.mem_of_getElem? he)
        have hck := ck_ok e (HCK.out e (List.mem_of_getElem? he))
        unfold MayN at hme
        have HR2 := Lib.hid (HR.out.trans (backG_step l i e d acc m he))
        obtain ⟨g, off, cap, hv2, hle, hg, hc⟩ := ens_at HV.out i hlt
        cases hv2
        have HC := Lib.hid (fun X (hX : Below w.heap.size w X) => cells4 hX (hc i e he))
        obtain ⟨k0, k1, k2, k3⟩ := HC.out wr hbw
        have hii : (i : Int) < (l.length : Int) := by omega
        have hw1 : IntKind.u64.wrap e.rn = e.rn := by rw [IntKind.wrap_u64]; omega
        have hw2 : IntKind.u64.wrap ((m : Int) + e.rn) = (m : Int) + e.rn := by rw [IntKind.wrap_u64]; omega
        have hw3 : IntKind.u64.wrap e.ln = e.ln := by rw [IntKind.wrap_u64]; omega
        have hw4 : IntKind.u64.wrap (e.off + e.ln) = e.off + e.ln := by rw [IntKind.wrap_u64]; omega
        have hw5 : IntKind.u64.wrap (d.size : Int) = (d.size : Int) := by rw [IntKind.wrap_u64]; omega
        have HB := Lib.hid (fun n => hbw.trans (show Below w.heap.size wr (wr.drewN n) from ⟨rfl, rfl, rfl, Nat.le_refl _, fun _ _ => rfl⟩))
        have HBW := Lib.hid hbw
        clear hc he HR hbw HB0
        by_cases h1 : e.rn = 0
        · have HRR := Lib.hid (HR2.out.trans (if_pos h1))
          have d1 : (e.rn == 0) = true := by simpa using h1
          clear h1 HR2
          go_wp2_with fail
          refine bodyPost_ret (results_tmp2 rfl _ _ _) rfl ⟨_, by rw [HRR.out]; rfl, by rw [HRR.out]; exact its_nil _, HBW.out⟩
        have HR3 := Lib.hid (HR2.out.trans (if_neg h1))
        have d1 : (e.rn == 0) = false := by simpa using h1
        clear HR2
        by_cases h2 : (d.size : Int) < e.off + e.ln
        · have HRR := Lib.hid (HR3.out.trans (if_pos h2))
          clear HR3 h1
          go_wp2_with fail
          go_quiet (fail)
          go_wp2_with fail
          refine bodyPost_ret (results_tmp2 rfl _ _ _) rfl ⟨_, by rw [HRR.out]; rfl, by rw [HRR.out]; exact its_nil _, HB.out _⟩
        have HR4 := Lib.hid (HR3.out.trans (if_neg h2))
        clear HR3
        by_cases h3 : 2048 < (m : Int) + e.rn
        · have HRR := Lib.hid (HR4.out.trans (if_pos h3))
          clear HR4 h1
          go_wp2_with fail
          go_quiet (fail)
          go_wp2_with fail
          refine bodyPost_ret (results_tmp2 rfl _ _ _) rfl ⟨_, by rw [HRR.out]; rfl, by rw [HRR.out]; exact its_nil _, HB.out _⟩
        have HR5 := Lib.hid (HR4.out.trans (if_neg h3))
        clear HR4
        by_cases h4 : 65536 < e.ln
        · have HRR := Lib.hid (HR5.out.trans (if_pos h4))
          clear HR5 h1
          go_wp2_with fail
          go_quiet (fail)
          go_wp2_with fail
          refine bodyPost_ret (results_tmp2 rfl _ _ _) rfl ⟨_, by rw [HRR.out]; rfl, by rw [HRR.out]; exact its_nil _, HB.out _⟩
        have HR6 := Lib.hid (HR5.out.trans (if_neg h4))
        clear HR5
        go_wp2_with fail
        go_quiet (fail)
        go_wp2_with fail
        have HTX : Hid (d.extract e.off.toNat (e.off + e.ln).toNat = txN e d) := Lib.hid (by unfold txN; rw [show (e.off + e.ln).toNat = e.off.toNat + e.ln.toNat by omega])
        have HRL := Lib.hid (runN_len e d)
        have HRT := Lib.hid (run_at e d)
        generalize txN e d = tx at *
        generalize runN e d = rl at *
        go_loopw [7, 10] (fun o x wy => ∃ j : Nat, (j : Int) ≤ e.rn ∧ x = .int .u64 j ∧ Hid (OwnIt wy w.heap.size 67 o (acc ++ rl.take j)) ∧ Below w.heap.size w wy) (fun _ x _ => e.rn.toNat - (intOf x).toNat)
        case atStart => exact ⟨0, by omega, rfl, Lib.hid (by rw [List.take_zero, List.append_nil]; exact HO.out.below ⟨rfl, rfl, rfl, Nat.le_refl _, fun _ _ => rfl⟩), HB.out _⟩
        case round =>
          obtain ⟨j, hj, rfl, HOJ, hbj⟩ := hrel
          obtain ⟨k0, k1, k2, k3⟩ := HC.out wr hbj
          by_cases hjl : (j : Int) < e.rn
          · have htake := itake_at rl j _ (HRT.out j hjl)
            have hid : e.id + (j : Int) = ((e.id.toNat + j : Nat) : Int) := by omega
            have hw6 : IntKind.u64.wrap (e.id + (j : Int)) = e.id + (j : Int) := by rw [IntKind.wrap_u64]; omega
            have hw7 : IntKind.u64.wrap ((j : Int) + 1) = (j : Int) + 1 := by rw [IntKind.wrap_u64]; omega
            have hx := it_lit2 wr (e.id + (j : Int)) _ hid tx 67
            have hba : Below wr.heap.size wr (wr.alloc (.cells #[.int .u64 (e.id + (j : Int)), .string tx] 67)).drew := ((Below.refl _ _).alloc (Nat.le_refl _) _).drew
            obtain ⟨v5, w5, hr5, ho5, hg5⟩ := itappend_run (wr.alloc (.cells #[.int .u64 (e.id + (j : Int)), .string tx] 67)).drew w.heap.size 22 67 22 _ Try.underlying22 infoIt rfl u7 (.slice (some ⟨wr.heap.size, 0, none⟩) 1 1) (acc ++ rl.take j) [(e.id.toNat + j, tx)] (HOJ.out.below hba) (hx.below (Below.drew (Below.refl _ _))) (by rw [List.length_append, List.length_take]; simp; omega) (Nat.le_trans hbj.size hba.size)
            rw [List.append_assoc, ← htake] at ho5
            have HO5 := Lib.hid ho5
            have HB5 := Lib.hid ((hbj.trans (hba.mono hbj.size)).grown hg5 (Nat.le_trans hbj.size hba.size) (fun q hq => (HOJ.out.lt q hq).1))
            have htx := HTX.out
            have hs1 : (0 : Int) ≤ e.off := by omega
            have hs2 : e.off ≤ e.off + e.ln := by omega
            have hs3 : e.off + e.ln ≤ (d.size : Int) := by omega
            clear ho5 hg5 hx hba hid htake
            go_wp2_with fail
            go_region_law (refine step_append_run13 rfl (.tmp 70) (.tmp 98) 22 22 rfl u7 (.slice (some ⟨wr.heap.size, 0, none⟩) 1 1) (by simp [Act.eval, Act.put]) (by simp [Act.eval, Act.put]) hr5 ?_)
            all_goals
              go_wp2_with fail
              go_roundw
              case rel => exact ⟨j + 1, by omega, by go_num, HO5, HB5.out⟩
              case measure => simp [intOf]; omega
          · have hje : (j : Int) = e.rn := by omega
            have hjn : j = e.rn.toNat := by omega
            have hfull : rl.take j = rl := List.take_of_length_le (by rw [HRL.out]; omega)
            have HOF := HOJ.out
            rw [hfull] at HOF
            have HOF := Lib.hid HOF
            have HRR : Hid (R = backG (l.drop (i + 1)) d (acc ++ rl) ((m + e.rn.toNat : Nat) : Int)) := Lib.hid (by rw [show ((m + e.rn.toNat : Nat) : Int) = (m : Int) + e.rn by omega]; exact HR6.out)
            have hmn : (m : Int) + e.rn = ((m + e.rn.toNat : Nat) : Int) := by omega
            have HMN := Lib.hid hmn
            clear hmn hfull hje hjn
            go_wp2_with fail
            go_roundw
            case rel => exact ⟨i + 1, m + e.rn.toNat, acc ++ rl, by omega, by go_num, by rw [HMN.out], by have := HMN.out; omega, by rw [List.length_append, HRL.out, hal], HOF, HRR, hbj⟩
            case measure => simp [intOf]; omega
      · obtain rfl : i = l.length := by omega
        have HRR := HR.out
        rw [List.drop_length, backG] at HRR
        have HRR := Lib.hid HRR
        go_wp2_with fail
        refine bodyPost_ret (results_tmp2 rfl _ _ _) rfl ⟨_, by rw [HRR.out]; rfl, by rw [HRR.out]; exact HO.out.itsAt, hbw⟩
  · have e0 : (q != 0) = true := by simpa using h0
    have HRR : Hid (R = ([], q)) := Lib.hid (by rw [← hR]; unfold backN; rw [hq, if_pos h0])
    clear h0 hq hR
    go_enter Try.func16, Try.ntmps16
    go_wp2_with fail
    refine HRO.out.mono ?_
    rintro x w1 ⟨rfl, hb1⟩
    have HB1 := Lib.hid hb1
    clear hb1
    go_wp2_with fail
    refine bodyPost_ret (results_tmp2 rfl _ _ _) rfl ⟨_, by rw [HRR.out]; rfl, by rw [HRR.out]; exact its_nil _, HB1.out⟩
end Go.Proofs.Ytleicghfcffblaa
