/- The contract of the document's Get. -/
import Derived.Test.YtegboojhebhlnaaKd
namespace Go.Proofs.Ytegboojhebhlnaa
open Go.RowKit
set_option linter.unusedVariables false
set_option linter.unusedSimpArgs false
def getS (o : Option ByteArray) : ByteArray := o.getD { data := #[] }
theorem getG_step (a b : Int) (l : List ByteArray) (k : Nat) (t : ByteArray) (h : l[k]? = some t) :
    getG a b (l.drop k) (totF (l.take k)) = if ((totF (l.take k) : Nat) : Int) = a ∧ (t.size : Int) = b then some t else getG a b (l.drop (k + 1)) (totF (l.take (k + 1))) := by
  rw [drop_at l k t h, getG, totF_step l k t h]
set_option maxHeartbeats 2000000 in
theorem rget_any (v : Value) (l : List ByteArray) (a b : Int) (w : World) (hv : StrsAt w v l) (hn : l.Nodup) (ht : totF l ≤ 1000000000) :
    Calls Try.prog 17 #[v, .agg #[.int .u64 a, .int .u32 b]] w fun e w' => e = .returned (.tuple #[.string (getS (getG a b l 0)), .bool (getG a b l 0).isSome]) ∧ Below w.heap.size w w' := by
  have HF := Lib.hid (fun s hs => rfind_later v l s w hv ht hs)
  obtain ⟨al, cap, rfl, hcap, hmx, hc⟩ := hv
  have HC := Lib.hid hc
  have hmx' : l.length ≤ maxLen := by omega
  unfold maxLen at hmx'
  clear hc
  go_enter Try.func17, Try.ntmps17
  go_wp2_with fail
  go_loopw [6] (fun i wr => ∃ k : Nat, k ≤ l.length ∧ i = .int .i64 k ∧ getG a b l 0 = getG a b (l.drop k) (totF (l.take k)) ∧ Two wr w.heap.size (.int .u64 a) (.int .u32 b) ∧ Below w.heap.size w wr) (fun i _ => l.length - (intOf i).toNat)
  case atStart => exact ⟨0, Nat.zero_le _, rfl, by simp [totF], two_new _ _ _ _, Below.alloc (Below.refl _ _) (Nat.le_refl _) _⟩
  case round =>
    obtain ⟨k, hk, rfl, hg, hT, hbw⟩ := hrel
    by_cases hlt : k < l.length
    · obtain ⟨t, htk⟩ : ∃ t, l[k]? = some t := ⟨_, List.getElem?_eq_getElem hlt⟩
      obtain ⟨g, off, rfl, hgw, hcell⟩ := HC.out k t htk
      have hcell' : wr.cell? ⟨g, off + k, none⟩ = some (.string t) := (hbw.cell (p := ⟨g, off + k, none⟩) hgw).trans hcell
      have hts := mem_tot l t (List.mem_of_getElem? htk)
      have hq1 := totF_take l k
      have HX := HF.out t (by omega) wr hbw
      rw [findF_at l k t htk hn 0, Nat.zero_add] at HX
      rw [getG_step a b l k t htk] at hg
      have HG := Lib.hid hg
      generalize totF (l.take k) = q at *
      rw [show offV (some q) = q from rfl, show lenV (some q) t = t.size from rfl, show (some q).isSome = true from rfl] at HX
      have HX := Lib.hid HX
      have HT := Lib.hid hT
      have HB := Lib.hid hbw
      have hTl := hT.lt
      clear hg hT hbw
      go_wp2_with fail
      refine HX.out.mono ?_
      rintro y w1 ⟨rfl, hb⟩
      have HT1 := Lib.hid (HT.out.below hb)
      obtain ⟨c0, c1, f0, f1⟩ := id HT1.out
      have HB1 := Lib.hid (HB.out.trans (hb.mono HB.out.size))
      have hcell1 : w1.cell? ⟨g, off + k, none⟩ = some (.string t) := (hb.cell (p := ⟨g, off + k, none⟩) (vcell_lt hcell')).trans hcell'
      have hg1 := vcell_lt hcell1
      have hT1 := HT1.out.lt
      clear hb hcell hcell' hgw hTl HX HT HB
      by_cases ha : (q : Int) = a
      · by_cases hb : (t.size : Int) = b
        · have hG := HG.out
          rw [if_pos ⟨ha, hb⟩] at hG
          have HG2 := Lib.hid hG
          clear hG
          go_wp2_with fail
          refine bodyPost_ret (results_tmp2 rfl _ _ _) rfl ?_
          exact ⟨by rw [HG2.out]; rfl, HB1.out.alloc (by omega) _⟩
        · have hG := HG.out
          rw [if_neg (fun h => hb h.2)] at hG
          go_wp2_with fail
          go_roundw
          case rel => exact ⟨k + 1, by omega, by go_num, hG, HT1.out.alloc _, HB1.out.alloc (by omega) _⟩
          case measure => simp [intOf]; omega
      · have hG := HG.out
        rw [if_neg (fun h => ha h.1)] at hG
        go_wp2_with fail
        go_roundw
        case rel => exact ⟨k + 1, by omega, by go_num, hG, HT1.out.alloc _, HB1.out.alloc (by omega) _⟩
        case measure => simp [intOf]; omega
    · obtain rfl : k = l.length := by omega
      rw [List.drop_length, getG] at hg
      have HG := Lib.hid hg
      clear hg
      go_wp2_with fail
      refine bodyPost_ret (results_tmp2 rfl _ _ _) rfl ?_
      exact ⟨by rw [HG.out]; rfl, hbw⟩
end Go.Proofs.Ytegboojhebhlnaa
