/- Plain words of merge, no Go: which entries tell of a chart's tiles; what entries tell. -/
import Derived.Test.YtleicghfcffblaaME
import Derived.Test.YtleicghfcffblaaMA
import Derived.Test.YtleicghfcffblaaLq
namespace Go.Proofs.Ytleicghfcffblaa
set_option maxRecDepth 20000
set_option linter.unusedVariables false
set_option linter.unusedSimpArgs false
theorem snoc_ind {α : Type} {M : List α → Prop} (h0 : M []) (hs : ∀ l a, M l → M (l ++ [a])) (l : List α) : M l := by
  rw [← List.reverse_reverse l]
  induction l.reverse with
  | nil => exact h0
  | cons a r ih => rw [List.reverse_cons]; exact hs _ _ ih
/-- Might two entries be one? -/
def oneE (a b : En) : Bool := decide (b.id = laN a + 1 ∧ a.off = b.off ∧ a.ln = b.ln)
def addE (rows : List En) (e : En) : List En := match rows.getLast? with
  | some a => if oneE a e then rows.dropLast ++ [{ a with rn := a.rn + 1 }] else rows ++ [e]
  | none => rows ++ [e]
theorem addE_nil (e : En) : addE [] e = [e] := rfl
theorem addE_concat (r : List En) (a e : En) : addE (r ++ [a]) e = if oneE a e then r ++ [{ a with rn := a.rn + 1 }] else r ++ [a] ++ [e] := by
  unfold addE
  rw [List.getLast?_concat]
  simp only [List.dropLast_concat]
def newE (ts : List ByteArray) (t : It) : En := ⟨t.1, offA ts t.2, lenA ts t.2, 1⟩
def stepR (p : List En × List ByteArray) (t : It) : List En × List ByteArray := (addE p.1 (newE p.2 t), newL p.2 t.2)
def rowsS (L : List It) : List En × List ByteArray := L.foldl stepR ([], [])
theorem rowsS_snoc (L : List It) (t : It) : rowsS (L ++ [t]) = stepR (rowsS L) t := by unfold rowsS; rw [List.foldl_append]; rfl
theorem rowsS_step (L : List It) (k : Nat) (t : It) (h : L[k]? = some t) : rowsS (L.take (k + 1)) = stepR (rowsS (L.take k)) t := by rw [itake_at L k t h, rowsS_snoc]
theorem rowsS_ts (L : List It) : (rowsS L).2 = addsF [] (L.map (·.2)) := by
  have key : ∀ (L : List It) (p : List En × List ByteArray), (L.foldl stepR p).2 = addsF p.2 (L.map (·.2)) := by
    intro L
    induction L with
    | nil => intro p; rfl
    | cons t L ih => intro p; rw [List.foldl_cons, ih]; rfl
  exact key L ([], [])
/-- The bytes that an entry tells of. -/
def txN (e : En) (d : ByteArray) : ByteArray := d.extract e.off.toNat (e.off.toNat + e.ln.toNat)
def runN (e : En) (d : ByteArray) : List It := (List.range e.rn.toNat).map (fun k => (e.id.toNat + k, txN e d))
def expN (l : List En) (d : ByteArray) : List It := l.flatMap (fun e => runN e d)
theorem expN_append (a b : List En) (d : ByteArray) : expN (a ++ b) d = expN a d ++ expN b d := by simp [expN]
theorem expN_one (e : En) (d : ByteArray) : expN [e] d = runN e d := by simp [expN]
theorem runN_len (e : En) (d : ByteArray) : (runN e d).length = e.rn.toNat := by simp [runN]
theorem mem_runN (e : En) (d : ByteArray) (t : It) : t ∈ runN e d ↔ ∃ k, k < e.rn.toNat ∧ t = (e.id.toNat + k, txN e d) := by
  unfold runN
  rw [List.mem_map]
  constructor
  · rintro ⟨k, hk, rfl⟩; exact ⟨k, List.mem_range.1 hk, rfl⟩
  · rintro ⟨k, hk, rfl⟩; exact ⟨k, List.mem_range.2 hk, rfl⟩
/-- No entry might be one with the next. -/
def NoOne (l : List En) : Prop := ∀ i a b, l[i]? = some a → l[i + 1]? = some b → oneE a b = false
theorem noOne_nil : NoOne [] := fun i a b h => by simp at h
theorem noOne_snoc {l : List En} {e : En} (h : NoOne l) (hl : ∀ r a, l = r ++ [a] → oneE a e = false) : NoOne (l ++ [e]) := by
  intro i a b ha hb
  have hi : i + 1 < (l ++ [e]).length := (List.getElem?_eq_some_iff.1 hb).1
  rw [List.length_append, List.length_singleton] at hi
  rw [List.getElem?_append_left (by omega)] at ha
  rcases Nat.lt_or_ge (i + 1) l.length with h1 | h1
  · rw [List.getElem?_append_left h1] at hb
    exact h i a b ha hb
  · have hb' : b = e := by
      rw [List.getElem?_append_right h1, show i + 1 - l.length = 0 by omega] at hb
      simpa using hb.symm
    subst hb'
    rcases List.eq_nil_or_concat l with rfl | ⟨r, x, rfl⟩
    · simp at ha
    · rw [List.concat_eq_append] at *
      refine hl r a ?_
      have : i = r.length := by simp at hi h1; omega
      subst this
      simp at ha
      rw [ha]
theorem noOne_left {l : List En} {e : En} (h : NoOne (l ++ [e])) : NoOne l := by
  intro i a b ha hb
  have h1 := (List.getElem?_eq_some_iff.1 ha).1
  have h2 := (List.getElem?_eq_some_iff.1 hb).1
  exact h i a b (by rw [List.getElem?_append_left h1]; exact ha) (by rw [List.getElem?_append_left h2]; exact hb)
theorem noOne_last {r : List En} {a b : En} (h : NoOne (r ++ [a])) (hb : b.id = a.id ∧ b.off = a.off ∧ b.ln = a.ln) : NoOne (r ++ [b]) := by
  refine noOne_snoc (noOne_left h) (fun r' x hx => ?_)
  have h1 := h r'.length x a (by rw [hx]; simp) (by rw [hx]; simp)
  unfold oneE at h1 ⊢
  rw [hb.1, hb.2.1, hb.2.2]
  exact h1
/-- An entry that tells of a text of a pool. -/
structure OkE (e : En) (ts : List ByteArray) : Prop where
  may : MayN e
  ck : ckN e = 0
  run : 1 ≤ e.rn
  txt : ∃ s, findF s ts 0 = some e.off.toNat ∧ e.ln = (s.size : Int)
theorem ok_text {e : En} {ts : List ByteArray} {s : ByteArray} (h : findF s ts 0 = some e.off.toNat) (hl : e.ln = (s.size : Int)) : txN e (catF ts) = s := by
  have h1 := cat_found ts s 0 _ h
  unfold txN
  rw [hl, Int.toNat_natCast]
  exact h1
theorem find_grow (ts : List ByteArray) (s t : ByteArray) (k : Nat) (h : findF s ts 0 = some k) : findF s (newL ts t) 0 = some k := by
  unfold newL
  split
  · rw [findF_append, h]
  · exact h
theorem OkE.grow {e : En} {ts : List ByteArray} (h : OkE e ts) (t : ByteArray) : OkE e (newL ts t) ∧ txN e (catF (newL ts t)) = txN e (catF ts) := by
  obtain ⟨s, h1, h2⟩ := h.txt
  have h3 := find_grow ts s t _ h1
  exact ⟨⟨h.may, h.ck, h.run, s, h3, h2⟩, by rw [ok_text h3 h2, ok_text h1 h2]⟩
theorem run_grow {e : En} {ts : List ByteArray} (h : OkE e ts) (t : ByteArray) : runN e (catF (newL ts t)) = runN e (catF ts) := by
  unfold runN
  rw [(h.grow t).2]
theorem exp_grow {l : List En} {ts : List ByteArray} (h : ∀ e ∈ l, OkE e ts) (t : ByteArray) : expN l (catF (newL ts t)) = expN l (catF ts) := by
  unfold expN
  induction l with
  | nil => rfl
  | cons e l ih => rw [List.flatMap_cons, List.flatMap_cons, run_grow (h e (by simp)) t, ih (fun x hx => h x (by simp [hx]))]
/-- What a text that is put into a pool gets. -/
theorem new_place {ts : List ByteArray} {s : ByteArray} (h0 : 0 < s.size) (h1 : s.size ≤ 65536) (hl : ts.length < 2048) : lenA ts s = s.size ∧ findF s (newL ts s) 0 = some (offA ts s) := by
  have he : eV ts s = 0 := (eV_iff ts s).2 ⟨h0, h1, .inr hl⟩
  refine ⟨by unfold lenA; rw [if_pos he], ?_⟩
  by_cases hm : s ∈ ts
  · have hn : isNew ts s = false := by
      cases hh : isNew ts s with
      | false => rfl
      | true => exact absurd hm ((isNew_iff ts s).1 hh).2.2.1
    unfold newL offA
    rw [hn, if_neg (by simp), if_neg (by simp), if_pos he]
    obtain ⟨k, hk⟩ := Option.isSome_iff_exists.1 ((findF_mem s ts 0).2 hm)
    rw [hk]
    rfl
  · have hn : isNew ts s = true := (isNew_iff ts s).2 ⟨h0, h1, hm, hl⟩
    unfold newL offA
    rw [hn, if_pos rfl, if_pos rfl, findF_append, (findF_none s ts 0).2 hm]
    simp [findF]
theorem mem_newL (ts : List ByteArray) (s x : ByteArray) (h0 : 0 < s.size) (h1 : s.size ≤ 65536) (hl : ts.length < 2048) : x ∈ newL ts s ↔ x ∈ ts ∨ x = s := by
  unfold newL
  split
  · simp
  · rename_i hn
    constructor
    · exact .inl
    · rintro (h | rfl)
      · exact h
      · have : x ∈ ts := Classical.byContradiction fun hm => hn ((isNew_iff ts x).2 ⟨h0, h1, hm, hl⟩)
        exact this
end Go.Proofs.Ytleicghfcffblaa
