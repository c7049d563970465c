/- The program's Tiles: what it hands on. -/
import Derived.Test.YthaembnfdkcheaaQd
import Derived.Test.YthaembnfdkcheaaTd
namespace Go.Proofs.Ythaembnfdkcheaa
open Go.RowKit Go.Shelf
set_option linter.unusedVariables false
set_option linter.unusedSimpArgs false
attribute [local go_sem] Oper.semAt_some
/-- The tiles of a row, whatever the row is. -/
def flT (l : List En) : List (Int × En) := l.flatMap oneT
/-- How many tiles stand ahead of the i-th entry. -/
def ahT (l : List En) (i : Nat) : Nat := (flT (l.take i)).length
theorem ahT_zero (l : List En) : ahT l 0 = 0 := rfl
theorem ahT_all (l : List En) : ahT l l.length = (flT l).length := by unfold ahT; rw [List.take_length]
theorem ahT_step (l : List En) (i : Nat) (e : En) (h : l[i]? = some e) : ahT l (i + 1) = ahT l i + e.rn.toNat := by
  unfold ahT flT
  rw [take_one l i e h, List.flatMap_append, List.length_append, List.flatMap_cons, List.flatMap_nil, List.append_nil, oneT_len]
theorem ahT_le (l : List En) (i : Nat) : ahT l i ≤ (flT l).length := by
  unfold ahT flT
  conv => rhs; rw [← List.take_append_drop i l]
  rw [List.flatMap_append, List.length_append]
  omega
theorem flT_at (l : List En) (i j : Nat) (e : En) (h : l[i]? = some e) (hj : j < e.rn.toNat) : (flT l).getD (ahT l i + j) (0, zeroE) = (e.id + (j : Int), e) := by
  have hi : i < l.length := (List.getElem?_eq_some_iff.1 h).1
  have e1 : flT l = flT (l.take i) ++ (oneT e ++ flT (l.drop (i + 1))) := by
    unfold flT
    conv => lhs; rw [← List.take_append_drop i l]
    rw [List.flatMap_append, List.drop_eq_getElem_cons hi, List.flatMap_cons]
    rw [List.getElem?_eq_getElem hi] at h
    cases h
    rfl
  rw [e1, List.getD_eq_getElem?_getD, List.getElem?_append_right (by unfold ahT; omega)]
  unfold ahT
  rw [Nat.add_sub_cancel_left, List.getElem?_append_left (by rw [oneT_len]; exact hj)]
  unfold oneT
  rw [List.getElem?_map, List.getElem?_range hj]
  rfl
/-- The blocks that a going through reads: the box of the row, the row. -/
def VT (B0 : Nat) (v : Value) (b : Nat) : Prop := b = B0 ∨ ∃ a n c, v = .slice (some a) n c ∧ b = a.block
set_option maxRecDepth 100000 in
set_option maxHeartbeats 4000000 in
theorem ptiles1_seq (v : Value) (l : List En) (B0 : Nat) (w : World) (hm : MaysN l) (hid : ∀ e ∈ l, e.id + e.rn ≤ 18446744073709551616) (hv : EnsAt w v l) (h1 : w.cell? ⟨B0, 0, none⟩ = some v) :
    SeqD Try.prog 30 #[.pointer (some ⟨B0, 0, none⟩)] (fun k => #[.int .u64 (idT (flT l) k), .agg (eC (enT (flT l) k))]) (flT l).length (fun _ => False) (VT B0 v) (fun _ _ => True) (fun _ => True) w := by
  intro n lp J Jx S0 W hW hJ hJx hG hS0 hY h0
  have hoff : Off S0 l v := fun hl a n c hv hs => (hS0 _ hs).2 (.inr ⟨a, n, c, hv, rfl⟩)
  have hvW := hv.below hW
  have hn1 : ¬ S0 B0 := fun h => (hS0 _ h).2 (.inl rfl)
  have g1 := ecell_later hW h1
  obtain ⟨al, cap, rfl, hcap, hmx, _⟩ := hv
  have hml : l.length ≤ 9223372036854775807 := by unfold maxLen at hmx; omega
  have HM := Lib.hid hm
  have HID := Lib.hid hid
  have HJ := Lib.hid hJ
  have HG := Lib.hid hG
  have HY := Lib.hid hY
  have HO := Lib.hid hoff
  have HVW := Lib.hid hvW
  have HN := Lib.hid hn1
  clear hJ hY hS0 hJx hoff hvW h1 hn1 hcap hmx hm hid hG
  refine callsIn_of_wp Try.func30 rfl trivial ?_ rfl
  simp only [Try.ntmps30, List.size_toArray, List.length_cons, List.length_nil, Nat.reduceAdd, Nat.reduceSub, Array.replicate_succ, Array.replicate_zero, List.push_toArray, List.append_toArray, List.nil_append, List.cons_append]
  gi_wp2
  gi_loopw [8] (fun i wr => ∃ k : Nat, k ≤ l.length ∧ i = .int .i64 k ∧ ∃ S, Hid (J (ahT l k) S wr) ∧ Hid (KeepsS S0 S W wr)) (fun i _ => l.length - (intOf i).toNat)
  case atStart => exact ⟨0, Nat.zero_le _, rfl, S0, Lib.hid h0, Lib.hid (.refl _ _)⟩
  case round =>
    obtain ⟨k, hk, rfl, S, HJs, HK⟩ := hrel
    by_cases hlt : k < l.length
    · obtain ⟨e, he⟩ : ∃ t, l[k]? = some t := ⟨_, List.getElem?_eq_getElem hlt⟩
      have hi2 : (k : Int) < (l.length : Int) := by omega
      have HB0 := Lib.hid (HK.out.cell (p := ⟨B0, 0, none⟩) HN.out g1)
      have hV := HK.out.ens HO.out HVW.out
      obtain ⟨al', cap', hav, _, _, hc⟩ := hV
      obtain ⟨g, off, rfl, hg, l0, l1, l2, l3⟩ := hc k e he
      have hme := HM.out e (List.mem_of_getElem? he)
      have hie := HID.out e (List.mem_of_getElem? he)
      have HE := Lib.hid he
      have HX := Lib.hid (EAt.made wr e 29)
      have HKX := Lib.hid (KeepsS.alloc S wr (.cells (eC e) 29))
      have HJX := Lib.hid (HJ.out.alloc (s := (ahT l k, S)) HJs.out (.cells (eC e) 29))
      have hnb : ¬ S wr.heap.size := fun h => by have := (HG.out _ _ _ HJs.out).2 _ h; omega
      cases hav
      unfold MayN at hme
      have hwr : IntKind.u64.wrap e.rn = e.rn := by rw [IntKind.wrap_u64] <;> omega
      obtain ⟨N, hN⟩ : ∃ N : Nat, e.rn = (N : Int) := ⟨e.rn.toNat, by omega⟩
      have hNt : e.rn.toNat = N := by omega
      have hahs := ahT_step l k e he
      have hahl := ahT_le l (k + 1)
      rw [hNt] at hahs
      have HAH := Lib.hid hahs
      have HAL := Lib.hid hahl
      have hfl : ∀ j, j < N → idT (flT l) (ahT l k + j) = e.id + (j : Int) ∧ enT (flT l) (ahT l k + j) = e := fun j hj => by
        unfold idT enT
        rw [flT_at l k j e he (by omega)]
        exact ⟨rfl, rfl⟩
      have HFL := Lib.hid hfl
      have HNN := Lib.hid hN
      unfold eC at HX HKX HJX
      clear hahs hahl he hc hfl hN hNt g1
      gi_wp2
      generalize hXw : wr.alloc (.cells #[.int .u64 e.id, .int .u64 e.off, .int .u32 e.ln, .int .u32 e.rn] 29) = X at *
      generalize hBx : wr.heap.size = Bx at *
      clear l0 l1 l2 l3 HJs hg hXw
      gi_loopw [15] (fun x wz => ∃ j : Nat, j ≤ N ∧ x = .int .u64 j ∧ ∃ S', Hid (J (ahT l k + j) S' wz) ∧ Hid (KeepsS S S' X wz)) (fun x _ => N - (intOf x).toNat)
      case atStart => exact ⟨0, Nat.zero_le _, rfl, S, HJX, Lib.hid (.refl _ _)⟩
      case round =>
        obtain ⟨j, hj, rfl, S1, HJ1, HK1⟩ := hrel
        by_cases hjl : j < N
        · obtain ⟨k0, k1, k2, k3⟩ := HX.out
          replace k0 := HK1.out.cell (p := ⟨Bx, 0, none⟩) hnb k0
          replace k1 := HK1.out.cell (p := ⟨Bx, 1, none⟩) hnb k1
          replace k2 := HK1.out.cell (p := ⟨Bx, 2, none⟩) hnb k2
          replace k3 := HK1.out.cell (p := ⟨Bx, 3, none⟩) hnb k3
          have hj2 : (j : Int) < e.rn := by have := HNN.out; omega
          have hwi : IntKind.u64.wrap (e.id + (j : Int)) = e.id + (j : Int) := by rw [IntKind.wrap_u64] <;> omega
          have hwj : IntKind.u64.wrap ((j : Int) + 1) = (j : Int) + 1 := by rw [IntKind.wrap_u64] <;> omega
          obtain ⟨fn, tmps, assign, body, hy, hR⟩ := HY.out _ S1 _ HJ1.out (by have := HAH.out; have := HAL.out; omega)
          rw [(HFL.out j hjl).1, (HFL.out j hjl).2] at hy
          unfold eC at hy
          have HR := Lib.hid hR
          clear hR
          gi_wp2
          refine ⟨noDepth, HR.out.mono ?_⟩
          rintro x W3 (⟨rfl, S3, hJ3, hk3⟩ | ⟨rfl, hJx3, _⟩)
          · have HJ3 := Lib.hid hJ3
            have HK3 := Lib.hid (HK1.out.trans hk3)
            clear hJ3 hk3 k0 k1 k2 k3 HJ1 HK1 hy HR
            gi_wp2
            go_roundw
            case rel => exact ⟨j + 1, by omega, by go_num, S3, HJ3, HK3⟩
            case measure => simp [intOf]; omega
          · have HJ3 := Lib.hid hJx3
            clear hJx3 k0 k1 k2 k3 HJ1 HK1 hy HR
            gi_wp2
            refine bodyPost_ret (results_none rfl _ _ _) rfl ?_
            exact ⟨⟨_, rfl⟩, .inr ⟨ahT l k + j + 1, by have := HAH.out; have := HAL.out; omega, HJ3.out⟩⟩
        · obtain rfl : j = N := by omega
          have hj2 : ¬ (j : Int) < e.rn := by have := HNN.out; omega
          have hdj : decide ((j : Int) < e.rn) = false := by simpa using hj2
          gi_wp2
          go_roundw
          case rel => exact ⟨k + 1, by omega, by go_num, S1, Lib.hid (by rw [HAH.out]; exact HJ1.out), Lib.hid ((HK.out.trans HKX.out).trans HK1.out)⟩
          case measure => simp [intOf]; omega
    · obtain rfl : k = l.length := by omega
      have HAA := Lib.hid (ahT_all l)
      clear g1
      gi_wp2
      go_end0
      exact ⟨⟨_, rfl⟩, .inl ⟨S, by rw [← HAA.out]; exact HJs.out, trivial⟩⟩
end Go.Proofs.Ythaembnfdkcheaa
