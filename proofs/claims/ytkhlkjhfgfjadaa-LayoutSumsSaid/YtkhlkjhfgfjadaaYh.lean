/- Plain: what was glued is cut again, with anything behind it; with a byte less it is not. -/
import Derived.Test.YtkhlkjhfgfjadaaYf
namespace Go.Proofs.Ytkhlkjhfgfjadaa
open Go.RowKit
set_option maxRecDepth 20000
set_option linter.unusedVariables false
set_option linter.unusedSimpArgs false
theorem mid_of (a b c : ByteArray) (f l : Int) (hf : f = a.size) (hl : l = b.size) : bitN (a ++ b ++ c) f l = b := by
  unfold bitN
  have h1 : f.toNat = a.size := by omega
  have h2 : l.toNat = b.size := by omega
  rw [h1, h2]
  apply ByteArray.ext
  apply Array.toList_inj.1
  rw [ByteArray.data_extract, Array.toList_extract, ByteArray.data_append, ByteArray.data_append, Array.toList_append, Array.toList_append]
  have ha : a.data.toList.length = a.size := rfl
  have hb : b.data.toList.length = b.size := rfl
  rw [List.extract_eq_take_drop, List.append_assoc, ← ha, List.drop_left, show a.data.toList.length + b.size - a.data.toList.length = b.data.toList.length by omega, List.take_left]
theorem bl_extract (t : ByteArray) (n : Nat) : bl (t.extract 0 n) = (bl t).take n := by
  unfold bl
  rw [ByteArray.data_extract, Array.toList_extract, List.extract_eq_take_drop, List.drop_zero, List.map_take]
  simp
theorem glue_bad {h : Hd} {p : Pt} (e : (glueN h p).2 ≠ 0) : (glueN h p).1 = noB := by
  unfold glueN at e ⊢
  split
  · rfl
  rename_i h1
  rw [if_neg h1] at e
  split
  · rfl
  rename_i h2
  rw [if_neg h2] at e
  exact absurd rfl e
/-- The header that stands ahead of parts. -/
def hdOf (h : Hd) (p : Pt) : Hd := withN h (secOf p).sec
def sumP (p : Pt) : Nat := p.p0.size + p.p1.size + p.p2.size + p.p3.size
theorem glue_ok {h : Hd} {p : Pt} (e : (glueN h p).2 = 0) : ckH (hdOf h p) = 0 ∧ (glueN h p).1 = str (bytsH (hdOf h p)) ++ p.p0 ++ p.p1 ++ p.p2 ++ p.p3 := by
  unfold glueN at e ⊢
  split at e
  · rename_i h1; exact absurd e h1
  split at e
  · rename_i h2; exact absurd e h2
  rename_i h1 h2
  rw [if_neg h1, if_neg h2]
  have h3 := Classical.not_not.1 h2
  have hc : ckH (withN h (secOf p).sec) = 0 := by
    unfold encH at h3
    split at h3
    · assumption
    · exact h3
  refine ⟨hc, ?_⟩
  unfold encH hdOf
  rw [if_pos hc]
theorem hd_may {h : Hd} {p : Pt} (hm : MayH h) (hp : Few p 300) : MayH (hdOf h p) := with_may hm (mayS_few hp)
theorem glue_size {h : Hd} {p : Pt} (hm : MayH h) (hp : Few p 300) (e : (glueN h p).2 = 0) : (glueN h p).1.size = 127 + sumP p := by
  obtain ⟨hc, hs⟩ := glue_ok e
  rw [hs]
  simp only [ByteArray.size_append, str_size, bytsH_len _ (hd_may hm hp) hc, sumP]
  omega
theorem hd_secs {h : Hd} {p : Pt} (hp : Few p 300) : (hdOf h p).rf = 127 ∧ (hdOf h p).rl = p.p0.size ∧ (hdOf h p).mf = 127 + p.p0.size ∧ (hdOf h p).ml = p.p1.size ∧ (hdOf h p).lf = 127 + p.p0.size + p.p1.size ∧ (hdOf h p).ll = p.p2.size ∧
    (hdOf h p).df = 127 + p.p0.size + p.p1.size + p.p2.size ∧ (hdOf h p).dl = p.p3.size := by
  unfold hdOf
  rw [sec_few hp]
  exact ⟨rfl, rfl, rfl, rfl, rfl, rfl, rfl, rfl⟩
theorem dec_glue {h : Hd} {p : Pt} (hm : MayH h) (hc : ckH (hdOf h p) = 0) (hp : Few p 300) (r : List Int) : decH (bytsH (hdOf h p) ++ r) = (hdOf h p, 0) := dec_enc _ r (hd_may hm hp) hc
theorem cut_glue {h : Hd} {p : Pt} (hm : MayH h) (hp : Few p 300) (e : (glueN h p).2 = 0) (b : ByteArray) : cutN ((glueN h p).1 ++ b) = ⟨hdOf h p, p, 0⟩ := by
  have hz := glue_size hm hp e
  obtain ⟨hc, hs⟩ := glue_ok e
  obtain ⟨s0, s1, s2, s3, s4, s5, s6, s7⟩ := hd_secs (h := h) hp
  have hB : (str (bytsH (hdOf h p))).size = 127 := by rw [str_size, bytsH_len _ (hd_may hm hp) hc]
  have hd : decH (bl ((glueN h p).1 ++ b)) = (hdOf h p, 0) := by
    rw [hs]
    simp only [bl_append, bl_str _ (bytsH_byts _), List.append_assoc]
    exact dec_glue hm hc hp _
  have ho : ¬ outOf (hdOf h p) ((glueN h p).1 ++ b).size := by
    rw [ByteArray.size_append, hz]
    unfold outOf sumP
    omega
  rw [cut_ok hd ho]
  obtain ⟨p0, p1, p2, p3⟩ := p
  dsimp only at s0 s1 s2 s3 s4 s5 s6 s7
  generalize hX : hdOf h ⟨p0, p1, p2, p3⟩ = X at *
  have b0 : bitK ((glueN h ⟨p0, p1, p2, p3⟩).1 ++ b) X 0 = p0 := by
    rw [hs, show str (bytsH X) ++ p0 ++ p1 ++ p2 ++ p3 ++ b = str (bytsH X) ++ p0 ++ (p1 ++ p2 ++ p3 ++ b) by simp only [ByteArray.append_assoc]]
    exact mid_of _ _ _ _ _ (by rw [hB]; exact s0) s1
  have b1 : bitK ((glueN h ⟨p0, p1, p2, p3⟩).1 ++ b) X 1 = p1 := by
    rw [hs, show str (bytsH X) ++ p0 ++ p1 ++ p2 ++ p3 ++ b = (str (bytsH X) ++ p0) ++ p1 ++ (p2 ++ p3 ++ b) by simp only [ByteArray.append_assoc]]
    exact mid_of _ _ _ _ _ (by rw [ByteArray.size_append, hB]; show X.mf = _; omega) s3
  have b2 : bitK ((glueN h ⟨p0, p1, p2, p3⟩).1 ++ b) X 2 = p2 := by
    rw [hs, show str (bytsH X) ++ p0 ++ p1 ++ p2 ++ p3 ++ b = (str (bytsH X) ++ p0 ++ p1) ++ p2 ++ (p3 ++ b) by simp only [ByteArray.append_assoc]]
    exact mid_of _ _ _ _ _ (by simp only [ByteArray.size_append, hB]; show X.lf = _; omega) s5
  have b3 : bitK ((glueN h ⟨p0, p1, p2, p3⟩).1 ++ b) X 3 = p3 := by
    rw [hs]
    exact mid_of _ _ _ _ _ (by simp only [ByteArray.size_append, hB]; show X.df = _; omega) s7
  rw [b0, b1, b2, b3]
theorem laid_glue {h : Hd} {p : Pt} (hm : MayH h) (hp : Few p 300) (e : (glueN h p).2 = 0) : laidB (hdOf h p) (glueN h p).1.size = 0 := by
  have hz := glue_size hm hp e
  obtain ⟨hc, hs⟩ := glue_ok e
  obtain ⟨s0, s1, s2, s3, s4, s5, s6, s7⟩ := hd_secs (h := h) hp
  rw [hz]
  unfold laidB sumP
  rw [if_neg (fun f => f hc), if_neg (by omega), if_neg (by omega), if_neg (by omega), if_neg (by omega), if_neg (by omega)]
theorem end_glue {h : Hd} {p : Pt} (hm : MayH h) (hp : Few p 300) (e : (glueN h p).2 = 0) : (hdOf h p).df + (hdOf h p).dl = (glueN h p).1.size := by
  obtain ⟨s0, s1, s2, s3, s4, s5, s6, s7⟩ := hd_secs (h := h) hp
  rw [glue_size hm hp e]
  unfold sumP
  omega
/-- With a byte less there is no archive. -/
theorem cut_less {h : Hd} {p : Pt} (hm : MayH h) (hp : Few p 300) (e : (glueN h p).2 = 0) : (cutN ((glueN h p).1.extract 0 ((glueN h p).1.size - 1))).p = zeroPt ∧ (cutN ((glueN h p).1.extract 0 ((glueN h p).1.size - 1))).err ≠ 0 := by
  have hz := glue_size hm hp e
  obtain ⟨hc, hs⟩ := glue_ok e
  have he := end_glue hm hp e
  have hsz : ((glueN h p).1.extract 0 ((glueN h p).1.size - 1)).size = 126 + sumP p := by rw [ByteArray.size_extract]; omega
  by_cases hk : sumP p = 0
  · have hd := decB_short ((glueN h p).1.extract 0 ((glueN h p).1.size - 1)) (by omega)
    rw [cut_bad (by rw [hd]; decide), hd]
    exact ⟨rfl, by decide⟩
  · have hbl : bl (glueN h p).1 = bytsH (hdOf h p) ++ (bl p.p0 ++ (bl p.p1 ++ (bl p.p2 ++ bl p.p3))) := by
      rw [hs]
      simp only [bl_append, bl_str _ (bytsH_byts _), List.append_assoc]
    have hl := bytsH_len _ (hd_may hm hp) hc
    have hd : decH (bl ((glueN h p).1.extract 0 ((glueN h p).1.size - 1))) = (hdOf h p, 0) := by
      rw [bl_extract, hbl, List.take_append, List.take_of_length_le (by omega)]
      exact dec_glue hm hc hp _
    have ho : outOf (hdOf h p) ((glueN h p).1.extract 0 ((glueN h p).1.size - 1)).size := by
      rw [hsz]
      unfold outOf
      omega
    rw [cut_out hd ho]
    exact ⟨rfl, by decide⟩
end Go.Proofs.Ytkhlkjhfgfjadaa
