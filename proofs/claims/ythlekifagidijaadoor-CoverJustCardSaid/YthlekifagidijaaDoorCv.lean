/- Plain facts of lists of intervals: what a list has (Mem), when it is plain (Pl), that a plain list is told by what it has, and what becomes of a plain list with one interval more (putL), as the document puts it. No Go in sight. -/
import Derived.IntWalk
namespace Go.Proofs.YthlekifagidijaaDoor
set_option linter.unusedVariables false
/-- What a list of intervals has. -/
def Mem (l : List (Int × Int)) (d : Int) : Prop := ∃ s ∈ l, s.1 ≤ d ∧ d ≤ s.2
/-- Plain: each has one, and begins two or more above the end of the one ahead. -/
def Pl (l : List (Int × Int)) : Prop := (∀ s ∈ l, s.1 ≤ s.2) ∧ l.Pairwise (fun a b => a.2 + 2 ≤ b.1)
theorem mem_nil (d : Int) : ¬ Mem [] d := fun ⟨s, h, _⟩ => by simp at h
theorem mem_cons (s : Int × Int) (l : List (Int × Int)) (d : Int) : Mem (s :: l) d ↔ (s.1 ≤ d ∧ d ≤ s.2) ∨ Mem l d := by
  unfold Mem
  constructor
  · rintro ⟨t, ht, h⟩
    rcases List.mem_cons.1 ht with rfl | ht
    · exact .inl h
    · exact .inr ⟨t, ht, h⟩
  · rintro (h | ⟨t, ht, h⟩)
    · exact ⟨s, List.mem_cons_self, h⟩
    · exact ⟨t, List.mem_cons_of_mem _ ht, h⟩
theorem mem_append (l m : List (Int × Int)) (d : Int) : Mem (l ++ m) d ↔ Mem l d ∨ Mem m d := by
  induction l with
  | nil => simp [mem_nil]
  | cons s l ih => rw [List.cons_append, mem_cons, mem_cons, ih, or_assoc]
theorem pl_nil : Pl [] := ⟨fun s h => by simp at h, List.Pairwise.nil⟩
theorem pl_tail {s : Int × Int} {l : List (Int × Int)} (h : Pl (s :: l)) : Pl l := ⟨fun t ht => h.1 t (List.mem_cons_of_mem _ ht), (List.pairwise_cons.1 h.2).2⟩
theorem pl_head {s : Int × Int} {l : List (Int × Int)} (h : Pl (s :: l)) : s.1 ≤ s.2 ∧ ∀ d, Mem l d → s.2 + 2 ≤ d := by
  refine ⟨h.1 s List.mem_cons_self, ?_⟩
  rintro d ⟨t, ht, h1, h2⟩
  have := (List.pairwise_cons.1 h.2).1 t ht
  omega
/-- A plain list is told by what it has. -/
theorem pl_unique (a b : List (Int × Int)) (ha : Pl a) (hb : Pl b) (h : ∀ d, Mem a d ↔ Mem b d) : a = b := by
  induction a generalizing b with
  | nil =>
    cases b with
    | nil => rfl
    | cons t b =>
      have := (h t.1).2 ((mem_cons t b t.1).2 (.inl ⟨Int.le_refl _, (pl_head hb).1⟩))
      exact absurd this (mem_nil _)
  | cons s a ih =>
    cases b with
    | nil =>
      have := (h s.1).1 ((mem_cons s a s.1).2 (.inl ⟨Int.le_refl _, (pl_head ha).1⟩))
      exact absurd this (mem_nil _)
    | cons t b =>
      obtain ⟨s0, s1⟩ := pl_head ha
      obtain ⟨t0, t1⟩ := pl_head hb
      have e1 : s.1 = t.1 := by
        have h1 := (mem_cons t b s.1).1 ((h s.1).1 ((mem_cons s a s.1).2 (.inl ⟨Int.le_refl _, s0⟩)))
        have h2 := (mem_cons s a t.1).1 ((h t.1).2 ((mem_cons t b t.1).2 (.inl ⟨Int.le_refl _, t0⟩)))
        rcases h1 with h1 | h1
        · rcases h2 with h2 | h2
          · omega
          · have := s1 _ h2; omega
        · have := t1 _ h1
          rcases h2 with h2 | h2
          · omega
          · have := s1 _ h2; omega
      have e2 : s.2 = t.2 := by
        rcases Int.lt_trichotomy s.2 t.2 with g | g | g
        · exfalso
          have h1 := (mem_cons s a (s.2 + 1)).1 ((h (s.2 + 1)).2 ((mem_cons t b (s.2 + 1)).2 (.inl ⟨by omega, by omega⟩)))
          rcases h1 with h1 | h1
          · omega
          · have := s1 _ h1; omega
        · exact g
        · exfalso
          have h1 := (mem_cons t b (t.2 + 1)).1 ((h (t.2 + 1)).1 ((mem_cons s a (t.2 + 1)).2 (.inl ⟨by omega, by omega⟩)))
          rcases h1 with h1 | h1
          · omega
          · have := t1 _ h1; omega
      have e : s = t := Prod.ext e1 e2
      subst e
      congr 1
      refine ih b (pl_tail ha) (pl_tail hb) (fun d => ?_)
      have hd := h d
      rw [mem_cons, mem_cons] at hd
      constructor
      · intro hm
        rcases hd.1 (.inr hm) with g | g
        · have := s1 _ hm; omega
        · exact g
      · intro hm
        rcases hd.2 (.inr hm) with g | g
        · have := t1 _ hm; omega
        · exact g
/-- Do two intervals meet, or stand side by side? -/
def touchB (a b : Int × Int) : Bool := decide (b.1 ≤ a.2 + 1) && decide (a.1 ≤ b.2 + 1)
/-- What a list makes of one interval: all that touch are put together with it. -/
def grow : List (Int × Int) → Int × Int → Int × Int
  | [], s => s
  | t :: l, s => grow l (if touchB t s then (min t.1 s.1, max t.2 s.2) else s)
/-- What is left of the list: those that did not touch what had come of the interval by then. -/
def rest : List (Int × Int) → Int × Int → List (Int × Int)
  | [], _ => []
  | t :: l, s => if touchB t s then rest l (min t.1 s.1, max t.2 s.2) else t :: rest l s
/-- In the list, ahead of the first that begins no sooner. -/
def ins (s : Int × Int) : List (Int × Int) → List (Int × Int)
  | [] => [s]
  | t :: l => if t.1 < s.1 then t :: ins s l else s :: t :: l
def putL (l : List (Int × Int)) (s : Int × Int) : List (Int × Int) := if s.2 < s.1 then l else ins (grow l s) (rest l s)
theorem ins_mem (s : Int × Int) (l : List (Int × Int)) (d : Int) : Mem (ins s l) d ↔ (s.1 ≤ d ∧ d ≤ s.2) ∨ Mem l d := by
  induction l with
  | nil => rw [ins, mem_cons]
  | cons t l ih =>
    rw [ins]
    split
    · rw [mem_cons, ih, mem_cons, or_left_comm]
    · rw [mem_cons]
/-- What is had is had by what has come of the interval, or by what is left. -/
theorem grow_mem (l : List (Int × Int)) (s : Int × Int) (hs : s.1 ≤ s.2) (hl : ∀ t ∈ l, t.1 ≤ t.2) (d : Int) : ((grow l s).1 ≤ d ∧ d ≤ (grow l s).2 ∨ Mem (rest l s) d) ↔ ((s.1 ≤ d ∧ d ≤ s.2) ∨ Mem l d) := by
  induction l generalizing s with
  | nil => simp [grow, rest, mem_nil]
  | cons t l ih =>
    have ht := hl t List.mem_cons_self
    have hl' : ∀ u ∈ l, u.1 ≤ u.2 := fun u hu => hl u (List.mem_cons_of_mem _ hu)
    rw [grow, rest, mem_cons]
    by_cases h : touchB t s = true
    · rw [if_pos h, if_pos h, ih _ (by show min t.1 s.1 ≤ max t.2 s.2; omega) hl']
      simp only [touchB, Bool.and_eq_true, decide_eq_true_eq] at h
      have : (min t.1 s.1 ≤ d ∧ d ≤ max t.2 s.2) ↔ ((s.1 ≤ d ∧ d ≤ s.2) ∨ (t.1 ≤ d ∧ d ≤ t.2)) := by omega
      show (min t.1 s.1 ≤ d ∧ d ≤ max t.2 s.2) ∨ Mem l d ↔ _
      rw [this, or_assoc]
    · rw [if_neg h, if_neg h, mem_cons, or_left_comm, ih s hs hl', or_left_comm]
theorem grow_ok (l : List (Int × Int)) (s : Int × Int) (hs : s.1 ≤ s.2) : (grow l s).1 ≤ (grow l s).2 ∧ (grow l s).1 ≤ s.1 ∧ s.2 ≤ (grow l s).2 := by
  induction l generalizing s with
  | nil => exact ⟨hs, Int.le_refl _, Int.le_refl _⟩
  | cons t l ih =>
    rw [grow]
    split
    · obtain ⟨a, b, c⟩ := ih (min t.1 s.1, max t.2 s.2) (by show min t.1 s.1 ≤ max t.2 s.2; omega)
      simp only at b c
      exact ⟨a, by omega, by omega⟩
    · exact ih s hs
theorem rest_sub (l : List (Int × Int)) (s : Int × Int) : (rest l s).Sublist l := by
  induction l generalizing s with
  | nil => exact List.Sublist.slnil
  | cons t l ih =>
    rw [rest]
    split
    · exact (ih _).cons _
    · exact (ih s).cons_cons _
theorem grow_lo (l : List (Int × Int)) (s : Int × Int) (b : Int) (hs : b ≤ s.1) (hl : ∀ t ∈ l, b ≤ t.1) : b ≤ (grow l s).1 := by
  induction l generalizing s with
  | nil => exact hs
  | cons t l ih =>
    have ht := hl t List.mem_cons_self
    rw [grow]
    split
    · exact ih _ (by show b ≤ min t.1 s.1; omega) (fun u hu => hl u (List.mem_cons_of_mem _ hu))
    · exact ih s hs (fun u hu => hl u (List.mem_cons_of_mem _ hu))
theorem grow_far (l : List (Int × Int)) (s : Int × Int) (hl : ∀ t ∈ l, s.2 + 2 ≤ t.1) : grow l s = s := by
  induction l with
  | nil => rfl
  | cons t l ih =>
    have ht := hl t List.mem_cons_self
    rw [grow, if_neg, ih (fun u hu => hl u (List.mem_cons_of_mem _ hu))]
    simp only [touchB, Bool.and_eq_true, decide_eq_true_eq]
    omega
theorem rest_apart (l : List (Int × Int)) (s : Int × Int) (hs : s.1 ≤ s.2) (hl : Pl l) : ∀ t ∈ rest l s, t.2 + 2 ≤ (grow l s).1 ∨ (grow l s).2 + 2 ≤ t.1 := by
  induction l generalizing s with
  | nil => intro t ht; simp [rest] at ht
  | cons t l ih =>
    have hp := List.pairwise_cons.1 hl.2
    rw [grow, rest]
    by_cases h : touchB t s = true
    · rw [if_pos h, if_pos h]
      exact ih _ (by show min t.1 s.1 ≤ max t.2 s.2; omega) (pl_tail hl)
    · rw [if_neg h, if_neg h]
      intro u hu
      rcases List.mem_cons.1 hu with rfl | hu
      · have h' : u.2 + 2 ≤ s.1 ∨ s.2 + 2 ≤ u.1 := by
          simp only [touchB, Bool.and_eq_true, decide_eq_true_eq] at h
          omega
        rcases h' with h' | h'
        · exact .inl (grow_lo l s _ h' (fun v hv => hp.1 v hv))
        · right
          rw [grow_far l s (fun v hv => by have := hp.1 v hv; have := hl.1 u List.mem_cons_self; omega)]
          exact h'
      · exact ih s hs (pl_tail hl) u hu
theorem ins_all (s : Int × Int) (l : List (Int × Int)) (t : Int × Int) : t ∈ ins s l ↔ t = s ∨ t ∈ l := by
  induction l with
  | nil => simp [ins]
  | cons u l ih =>
    rw [ins]
    split
    · rw [List.mem_cons, ih, List.mem_cons, or_left_comm]
    · rw [List.mem_cons]
theorem ins_pl (s : Int × Int) (l : List (Int × Int)) (hs : s.1 ≤ s.2) (hl : Pl l) (hap : ∀ t ∈ l, t.2 + 2 ≤ s.1 ∨ s.2 + 2 ≤ t.1) : Pl (ins s l) := by
  refine ⟨fun t ht => ?_, ?_⟩
  · rcases (ins_all s l t).1 ht with rfl | ht
    · exact hs
    · exact hl.1 t ht
  · induction l with
    | nil => simp [ins]
    | cons u l ih =>
      have hp := List.pairwise_cons.1 hl.2
      have hu := hl.1 u List.mem_cons_self
      have ha := hap u List.mem_cons_self
      rw [ins]
      split
      · rename_i hlt
        rw [List.pairwise_cons]
        refine ⟨fun t ht => ?_, ih (pl_tail hl) (fun t ht => hap t (List.mem_cons_of_mem _ ht))⟩
        rcases (ins_all s l t).1 ht with rfl | ht
        · rcases ha with ha | ha
          · exact ha
          · omega
        · exact hp.1 t ht
      · rename_i hlt
        rw [List.pairwise_cons]
        refine ⟨fun t ht => ?_, hl.2⟩
        have hus : s.2 + 2 ≤ u.1 := by
          rcases ha with ha | ha
          · omega
          · exact ha
        rcases List.mem_cons.1 ht with rfl | ht
        · exact hus
        · have := hp.1 t ht; omega
theorem rest_pl (l : List (Int × Int)) (s : Int × Int) (hl : Pl l) : Pl (rest l s) := ⟨fun t ht => hl.1 t ((rest_sub l s).subset ht), hl.2.sublist (rest_sub l s)⟩
/-- A plain list with one interval more is plain, and has what both have. -/
theorem put_pl (l : List (Int × Int)) (s : Int × Int) (hl : Pl l) : Pl (putL l s) := by
  unfold putL
  split
  · exact hl
  · exact ins_pl _ _ (grow_ok l s (by omega)).1 (rest_pl l s hl) (rest_apart l s (by omega) hl)
theorem put_mem (l : List (Int × Int)) (s : Int × Int) (hl : Pl l) (d : Int) : Mem (putL l s) d ↔ (s.1 ≤ d ∧ d ≤ s.2) ∨ Mem l d := by
  unfold putL
  split
  · constructor
    · exact .inr
    · rintro (h | h)
      · omega
      · exact h
  · rw [ins_mem]
    exact grow_mem l s (by omega) hl.1 d
/-- Some intervals put, one by one. -/
def puts : List (Int × Int) → List (Int × Int) → List (Int × Int)
  | l, [] => l
  | l, s :: m => puts (putL l s) m
theorem puts_pl (l m : List (Int × Int)) (hl : Pl l) : Pl (puts l m) := by
  induction m generalizing l with
  | nil => exact hl
  | cons s m ih => exact ih _ (put_pl l s hl)
theorem puts_mem (l m : List (Int × Int)) (hl : Pl l) (d : Int) : Mem (puts l m) d ↔ Mem l d ∨ Mem m d := by
  induction m generalizing l with
  | nil => simp [puts, mem_nil]
  | cons s m ih =>
    rw [puts, ih _ (put_pl l s hl), put_mem l s hl, mem_cons]
    constructor
    · rintro ((h | h) | h)
      · exact .inr (.inl h)
      · exact .inl h
      · exact .inr (.inr h)
    · rintro (h | h | h)
      · exact .inl (.inr h)
      · exact .inl (.inl h)
      · exact .inr h
/-- The document's Union: plain, and just what both have. -/
theorem union_pl (a b : List (Int × Int)) : Pl (puts (puts [] a) b) := puts_pl _ _ (puts_pl _ _ pl_nil)
theorem union_mem (a b : List (Int × Int)) (d : Int) : Mem (puts (puts [] a) b) d ↔ Mem a d ∨ Mem b d := by
  rw [puts_mem _ _ (puts_pl _ _ pl_nil), puts_mem _ _ pl_nil]
  constructor
  · rintro ((h | h) | h)
    · exact absurd h (mem_nil d)
    · exact .inl h
    · exact .inr h
  · rintro (h | h)
    · exact .inl (.inr h)
    · exact .inr h
end Go.Proofs.YthlekifagidijaaDoor
