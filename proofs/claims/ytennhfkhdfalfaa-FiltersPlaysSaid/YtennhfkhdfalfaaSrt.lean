/- Lists in an order, each key once: plain matters, for whatever elements. No program in it. -/
import Derived.Test.YtennhfkhdfalfaaMeta
namespace Go.Proofs.Ytennhfkhdfalfaa.Srt
variable {α κ : Type} {key : α → κ} {lt : α → α → Bool}
/-- An order that parts all that differ in their keys. -/
structure Ord (key : α → κ) (lt : α → α → Bool) : Prop where
  irr : ∀ a, lt a a = false
  trans : ∀ a b c, lt a b = true → lt b c = true → lt a c = true
  tot : ∀ a b, lt a b = false → key a ≠ key b → lt b a = true
theorem Ord.asym (O : Ord key lt) {a b : α} (h : lt a b = true) : lt b a = false := by
  cases h' : lt b a with
  | false => rfl
  | true => have := O.trans a b a h h'; rw [O.irr] at this; cases this
def In (key : α → κ) (lt : α → α → Bool) (l : List α) : Prop := l.Pairwise fun a b => lt a b = true ∧ key a ≠ key b
theorem In.head {p : α} {l : List α} (h : In key lt (p :: l)) : ∀ q ∈ l, lt p q = true ∧ key p ≠ key q := (List.pairwise_cons.1 h).1
theorem In.tail {p : α} {l : List α} (h : In key lt (p :: l)) : In key lt l := (List.pairwise_cons.1 h).2
theorem In.nil : In key lt ([] : List α) := List.Pairwise.nil
def ins (lt : α → α → Bool) (x : α) : List α → List α
  | [] => [x]
  | p :: t => if lt x p = true then x :: p :: t else p :: ins lt x t
theorem mem_ins {x : α} : ∀ {l : List α} {p : α}, p ∈ ins lt x l ↔ p = x ∨ p ∈ l
  | [], p => by simp [ins]
  | q :: t, p => by
    unfold ins
    split
    · simp
    · simp only [List.mem_cons, mem_ins (l := t)]
      constructor
      · rintro (h | h | h)
        · exact .inr (.inl h)
        · exact .inl h
        · exact .inr (.inr h)
      · rintro (h | h | h)
        · exact .inr (.inl h)
        · exact .inl h
        · exact .inr (.inr h)
theorem ins_len (x : α) : ∀ l : List α, (ins lt x l).length = l.length + 1
  | [] => rfl
  | p :: t => by unfold ins; split; rfl; simp [ins_len x t]
theorem In.ins (O : Ord key lt) {l : List α} (h : In key lt l) {x : α} (hx : ∀ p ∈ l, key p ≠ key x) : In key lt (ins lt x l) := by
  induction l with
  | nil => exact List.pairwise_cons.2 ⟨fun q hq => (by cases hq), List.Pairwise.nil⟩
  | cons p t ih =>
    unfold Srt.ins
    split
    · rename_i hlt
      refine List.pairwise_cons.2 ⟨fun q hq => ?_, h⟩
      rcases List.mem_cons.1 hq with rfl | hq
      · exact ⟨hlt, fun e => hx q (by simp) e.symm⟩
      · exact ⟨O.trans _ _ _ hlt (h.head q hq).1, fun e => hx q (by simp [hq]) e.symm⟩
    · rename_i hlt
      refine List.pairwise_cons.2 ⟨fun q hq => ?_, ih h.tail fun q hq => hx q (by simp [hq])⟩
      rcases mem_ins.1 hq with rfl | hq
      · exact ⟨O.tot _ _ (by simpa using hlt) (fun e => hx p (by simp) e.symm), hx p (by simp)⟩
      · exact h.head q hq
/-- One list of what two have. -/
theorem In.ext (O : Ord key lt) : ∀ {l m : List α}, In key lt l → In key lt m → (∀ x, x ∈ l ↔ x ∈ m) → l = m
  | [], [], _, _, _ => rfl
  | [], q :: t, _, _, h => absurd ((h q).2 List.mem_cons_self) (by simp)
  | p :: l, [], _, _, h => absurd ((h p).1 List.mem_cons_self) (by simp)
  | p :: l, q :: m, hl, hm, h => by
    have hpq : p = q := by
      rcases List.mem_cons.1 ((h p).1 List.mem_cons_self) with e | e
      · exact e
      · rcases List.mem_cons.1 ((h q).2 List.mem_cons_self) with e2 | e2
        · exact e2.symm
        · have a := (hm.head p e).1
          have b := O.asym (hl.head q e2).1
          rw [a] at b; cases b
    subst hpq
    rw [In.ext O hl.tail hm.tail fun x => ?_]
    constructor
    · intro hx
      rcases List.mem_cons.1 ((h x).1 (List.mem_cons_of_mem _ hx)) with e | e
      · subst e; exact absurd rfl (hl.head x hx).2
      · exact e
    · intro hx
      rcases List.mem_cons.1 ((h x).2 (List.mem_cons_of_mem _ hx)) with e | e
      · subst e; exact absurd rfl (hm.head x hx).2
      · exact e
variable [DecidableEq κ]
def fnd (key : α → κ) (l : List α) (k : κ) : Option α := l.find? fun a => decide (key a = k)
def del (key : α → κ) (l : List α) (k : κ) : List α := l.filter fun a => decide (key a ≠ k)
def put (key : α → κ) (lt : α → α → Bool) (l : List α) (x : α) : List α := ins lt x (del key l (key x))
theorem fnd_cons (p : α) (l : List α) (k : κ) : fnd key (p :: l) k = if key p = k then some p else fnd key l k := by
  unfold fnd
  rw [List.find?_cons]
  by_cases h : key p = k
  · rw [if_pos h]; simp [h]
  · rw [if_neg h]; simp [h]
theorem fnd_none {l : List α} {k : κ} : fnd key l k = none ↔ ∀ p ∈ l, key p ≠ k := by
  unfold fnd; rw [List.find?_eq_none]; simp
theorem fnd_mem {l : List α} {k : κ} {x : α} (h : fnd key l k = some x) : x ∈ l ∧ key x = k := by
  unfold fnd at h
  exact ⟨List.mem_of_find?_eq_some h, by have := List.find?_some h; simpa using this⟩
theorem In.fnd {l : List α} (h : In key lt l) {p : α} (hp : p ∈ l) : fnd key l (key p) = some p := by
  induction l with
  | nil => cases hp
  | cons q t ih =>
    rw [fnd_cons]
    rcases List.mem_cons.1 hp with rfl | hp
    · rw [if_pos rfl]
    · rw [if_neg fun e => (h.head p hp).2 e]; exact ih h.tail hp
theorem mem_del {l : List α} {k : κ} {p : α} : p ∈ del key l k ↔ p ∈ l ∧ key p ≠ k := by unfold del; simp
theorem In.del {l : List α} (h : In key lt l) (k : κ) : In key lt (del key l k) := h.filter _
theorem fnd_del (l : List α) (k k' : κ) : fnd key (del key l k) k' = if k' = k then none else fnd key l k' := by
  by_cases h : k' = k
  · rw [if_pos h, fnd_none]; intro p hp; rw [h]; exact (mem_del.1 hp).2
  · rw [if_neg h]
    induction l with
    | nil => rfl
    | cons p t ih =>
      unfold Srt.del at *
      by_cases hp : key p = k
      · rw [List.filter_cons, if_neg (by simpa using hp), ih, fnd_cons, if_neg fun e => h (by rw [← e, hp])]
      · rw [List.filter_cons, if_pos (by simpa using hp), fnd_cons, fnd_cons, ih]
theorem fnd_ins {l : List α} {x : α} (hx : ∀ p ∈ l, key p ≠ key x) (k : κ) : fnd key (ins lt x l) k = if key x = k then some x else fnd key l k := by
  induction l with
  | nil => unfold ins; rw [fnd_cons]
  | cons p t ih =>
    unfold ins
    split
    · rw [fnd_cons]
    · rw [fnd_cons, ih fun q hq => hx q (by simp [hq]), fnd_cons]
      by_cases h1 : key p = k
      · rw [if_pos h1, if_neg fun e => hx p (by simp) (by rw [h1, e]), if_pos h1]
      · rw [if_neg h1, if_neg h1]
theorem del_same {l : List α} {k : κ} (h : fnd key l k = none) : del key l k = l := List.filter_eq_self.2 fun p hp => by simpa using fnd_none.1 h p hp
theorem del_len {l : List α} (h : In key lt l) {k : κ} {x : α} (hk : fnd key l k = some x) : (del key l k).length + 1 = l.length := by
  induction l with
  | nil => simp [Srt.fnd] at hk
  | cons p r ih =>
    unfold Srt.del
    by_cases e : key p = k
    · have : Srt.fnd key r k = none := fnd_none.2 fun q hq e2 => (h.head q hq).2 (by rw [e, e2])
      rw [List.filter_cons, if_neg (by simpa using e)]
      show (Srt.del key r k).length + 1 = _
      rw [del_same this]; rfl
    · rw [fnd_cons, if_neg e] at hk
      rw [List.filter_cons, if_pos (by simpa using e)]
      have := ih h.tail hk
      unfold Srt.del at this
      simp only [List.length_cons]; omega
theorem In.put (O : Ord key lt) {l : List α} (h : In key lt l) (x : α) : In key lt (put key lt l x) := (h.del (key x)).ins O fun _ hp => (mem_del.1 hp).2
theorem fnd_put (l : List α) (x : α) (k : κ) : fnd key (put key lt l x) k = if key x = k then some x else fnd key l k := by
  unfold put
  rw [fnd_ins fun _ hp => (mem_del.1 hp).2, fnd_del]
  by_cases h : key x = k
  · rw [if_pos h, if_pos h]
  · rw [if_neg h, if_neg h, if_neg fun e => h e.symm]
theorem put_len_old {l : List α} (h : In key lt l) {x y : α} (hk : fnd key l (key x) = some y) : (put key lt l x).length = l.length := by
  unfold put; rw [ins_len, del_len h hk]
theorem put_len_new {l : List α} {x : α} (hk : fnd key l (key x) = none) : (put key lt l x).length = l.length + 1 := by
  unfold put; rw [ins_len, del_same hk]
theorem put_le (l : List α) (x : α) : (put key lt l x).length ≤ l.length + 1 := by
  unfold put; rw [ins_len]
  have := List.length_filter_le (fun a => decide (key a ≠ key x)) l
  unfold del; omega
theorem mem_put {l : List α} {x p : α} : p ∈ put key lt l x ↔ p = x ∨ (p ∈ l ∧ key p ≠ key x) := by
  unfold put; rw [mem_ins, mem_del]
theorem In.ext_fnd (O : Ord key lt) {l m : List α} (hl : In key lt l) (hm : In key lt m) (h : ∀ k, Srt.fnd key l k = Srt.fnd key m k) : l = m :=
  In.ext O hl hm fun x => ⟨fun hx => by have := hl.fnd hx; rw [h] at this; exact (fnd_mem this).1, fun hx => by have := hm.fnd hx; rw [← h] at this; exact (fnd_mem this).1⟩
/-- What the document's putting in does, element by element. -/
theorem ins_app {x p : α} : ∀ {L : List α}, (∃ q ∈ L, lt x q = true) → ins lt x (L ++ [p]) = ins lt x L ++ [p]
  | [], h => by simp at h
  | q :: t, h => by
    rw [List.cons_append, ins, ins]
    by_cases hq : lt x q = true
    · rw [if_pos hq, if_pos hq]; rfl
    · rw [if_neg hq, if_neg hq, ins_app]; rfl
      obtain ⟨r, hr, hl⟩ := h
      rcases List.mem_cons.1 hr with rfl | hr
      · exact absurd hl hq
      · exact ⟨r, hr, hl⟩
theorem ins_end {x : α} : ∀ {L : List α}, (∀ q ∈ L, lt x q = false) → ins lt x L = L ++ [x]
  | [], _ => rfl
  | q :: t, h => by rw [ins, if_neg (by rw [h q (by simp)]; simp), ins_end fun r hr => h r (by simp [hr])]; rfl
theorem ins_here {x p : α} : ∀ {L : List α}, (∀ q ∈ L, lt x q = false) → lt x p = true → ins lt x (L ++ [p]) = L ++ [x] ++ [p]
  | [], _, hp => by rw [List.nil_append, ins, if_pos hp]; rfl
  | q :: t, h, hp => by rw [List.cons_append, ins, if_neg (by rw [h q (by simp)]; simp), ins_here (fun r hr => h r (by simp [hr])) hp]; rfl
/-- Where putting in stands. -/
def PS (lt : α → α → Bool) (x : α) (R : List α) (t : Nat) (d : Bool) (o : List α) : Prop :=
  (d = false ∧ o = R.take t ∧ ∀ q ∈ R.take t, lt x q = false) ∨ (d = true ∧ o = ins lt x (R.take t) ∧ ∃ q ∈ R.take t, lt x q = true)
theorem PS.len {x : α} {R : List α} {t : Nat} {d : Bool} {o : List α} (h : PS lt x R t d o) : o.length ≤ t + 1 := by
  have := List.length_take_le t R
  rcases h with ⟨_, rfl, _⟩ | ⟨_, rfl, _⟩
  · omega
  · rw [ins_len]; omega
theorem del_snoc (l : List α) (x : α) (k : κ) : del key (l ++ [x]) k = del key l k ++ (if key x = k then [] else [x]) := by
  unfold del
  rw [List.filter_append]
  by_cases h : key x = k
  · rw [if_pos h, List.filter_cons, if_neg (by simpa using h)]; rfl
  · rw [if_neg h, List.filter_cons, if_pos (by simpa using h)]; rfl
/-- Where a key stands, or -1. -/
def pl (key : α → κ) : List α → κ → Int
  | [], _ => -1
  | p :: t, k => if key p = k then 0 else if pl key t k = -1 then -1 else pl key t k + 1
theorem pl_ge : ∀ (l : List α) (k : κ), -1 ≤ pl key l k
  | [], _ => by simp [pl]
  | p :: t, k => by have := pl_ge t k; unfold pl; split <;> (try split) <;> omega
theorem pl_some {l m : List α} {x : α} {k : κ} (he : key x = k) (hn : ∀ p ∈ l, key p ≠ k) : pl key (l ++ x :: m) k = l.length := by
  induction l with
  | nil => simp [pl, he]
  | cons p t ih =>
    have := ih fun q hq => hn q (by simp [hq])
    rw [List.cons_append, pl, if_neg (hn p (by simp)), this, if_neg (by omega)]; simp
theorem pl_none {l : List α} {k : κ} (hn : ∀ p ∈ l, key p ≠ k) : pl key l k = -1 := by
  induction l with
  | nil => rfl
  | cons p t ih => rw [pl, if_neg (hn p (by simp)), ih fun q hq => hn q (by simp [hq]), if_pos rfl]
theorem pl_fnd (l : List α) (k : κ) : decide (0 ≤ pl key l k) = (fnd key l k).isSome := by
  induction l with
  | nil => rfl
  | cons p t ih =>
    rw [fnd_cons, pl]
    by_cases h : key p = k
    · rw [if_pos h, if_pos h]; rfl
    · rw [if_neg h, if_neg h, ← ih]
      have := pl_ge (key := key) t k
      split
      · rename_i e; rw [e]
      · rw [decide_eq_decide]; omega
theorem pl_at {l : List α} {k : κ} {x : α} (h : fnd key l k = some x) : ∃ i : Nat, pl key l k = i ∧ l[i]? = some x := by
  induction l with
  | nil => simp [fnd] at h
  | cons p r ih =>
    rw [fnd_cons] at h
    by_cases he : key p = k
    · rw [if_pos he] at h
      refine ⟨0, by rw [pl, if_pos he]; rfl, ?_⟩
      simpa using h
    · rw [if_neg he] at h
      obtain ⟨i, h1, h2⟩ := ih h
      exact ⟨i + 1, by rw [pl, if_neg he, h1, if_neg (by omega)]; rfl, by simpa using h2⟩
end Go.Proofs.Ytennhfkhdfalfaa.Srt
