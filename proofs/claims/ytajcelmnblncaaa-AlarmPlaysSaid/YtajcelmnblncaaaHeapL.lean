/- Keys in order of time, as lists. No program in it. -/
import Derived.Test.YtajcelmnblncaaaHeapM
namespace Go.Proofs.Ytajcelmnblncaaa
def Ah (p q : It) : Prop := lt2 p q ∧ p.1 ≠ q.1
/-- In order, each key once. -/
def SL (l : List It) : Prop := l.Pairwise Ah
/-- The times that a list tells. -/
def Lof (l : List It) : Int → Option Int := fun k => l.lookup k
def ldel (l : List It) (k : Int) : List It := l.filter fun p => decide (p.1 ≠ k)
def lins (x : It) : List It → List It
  | [] => [x]
  | p :: t => if lt2 x p then x :: p :: t else p :: lins x t
theorem lof_cons (p : It) (l : List It) (k : Int) : Lof (p :: l) k = if k = p.1 then some p.2 else Lof l k := by
  unfold Lof
  rw [List.lookup_cons]
  by_cases h : k = p.1
  · rw [if_pos h, show (k == p.1) = true by simpa using h]
  · rw [if_neg h, show (k == p.1) = false by simpa using h]
theorem lof_none {l : List It} {k : Int} : Lof l k = none ↔ ∀ p ∈ l, p.1 ≠ k := by
  induction l with
  | nil => simp [Lof]
  | cons p t ih =>
    rw [lof_cons]
    by_cases h : k = p.1
    · rw [if_pos h]; simp [h]
    · rw [if_neg h, ih]; simp; exact fun _ e => h e.symm
theorem lof_mem {l : List It} {k t : Int} (h : Lof l k = some t) : (k, t) ∈ l := by
  induction l with
  | nil => simp [Lof] at h
  | cons p r ih =>
    rw [lof_cons] at h
    split at h
    · rename_i e; cases h; subst e; exact List.mem_cons_self
    · exact List.mem_cons_of_mem _ (ih h)
theorem SL.head {p : It} {l : List It} (h : SL (p :: l)) : ∀ q ∈ l, Ah p q := (List.pairwise_cons.1 h).1
theorem SL.tail {p : It} {l : List It} (h : SL (p :: l)) : SL l := (List.pairwise_cons.1 h).2
theorem SL.lof {l : List It} (h : SL l) {p : It} (hp : p ∈ l) : Lof l p.1 = some p.2 := by
  induction l with
  | nil => cases hp
  | cons q t ih =>
    rw [lof_cons]
    rcases List.mem_cons.1 hp with rfl | hp
    · rw [if_pos rfl]
    · rw [if_neg fun e => (h.head p hp).2 e.symm]; exact ih h.tail hp
theorem SL.del {l : List It} (h : SL l) (k : Int) : SL (ldel l k) := h.filter _
theorem mem_ldel {l : List It} {k : Int} {p : It} : p ∈ ldel l k ↔ p ∈ l ∧ p.1 ≠ k := by
  unfold ldel; simp
theorem lof_del (l : List It) (k k' : Int) : Lof (ldel l k) k' = if k' = k then none else Lof l k' := by
  by_cases h : k' = k
  · rw [if_pos h, lof_none]; intro p hp; rw [h]; exact (mem_ldel.1 hp).2
  · rw [if_neg h]
    induction l with
    | nil => rfl
    | cons p t ih =>
      unfold ldel at *
      by_cases hp : p.1 = k
      · rw [List.filter_cons, if_neg (by simpa using hp), ih, lof_cons, if_neg fun e => h (by rw [e, hp])]
      · rw [List.filter_cons, if_pos (by simpa using hp), lof_cons, lof_cons, ih]
theorem mem_lins {x : It} : ∀ {l : List It} {p : It}, p ∈ lins x l ↔ p = x ∨ p ∈ l
  | [], p => by simp [lins]
  | q :: t, p => by
    unfold lins
    split
    · simp
    · simp only [List.mem_cons, mem_lins (l := t)]
      constructor
      · rintro (h | h | h)
        · exact .inr (.inl h)
        · exact .inl h
        · exact .inr (.inr h)
      · rintro (h | h | h)
        · exact .inr (.inl h)
        · exact .inl h
        · exact .inr (.inr h)
theorem lins_len (x : It) : ∀ l : List It, (lins x l).length = l.length + 1
  | [] => rfl
  | p :: t => by unfold lins; split; rfl; simp [lins_len x t]
theorem SL.ins {l : List It} (h : SL l) {x : It} (hx : ∀ p ∈ l, p.1 ≠ x.1) : SL (lins x l) := by
  induction l with
  | nil => exact List.pairwise_cons.2 ⟨fun q hq => (by cases hq), List.Pairwise.nil⟩
  | cons p t ih =>
    unfold lins
    split
    · rename_i hlt
      refine List.pairwise_cons.2 ⟨fun q hq => ?_, h⟩
      rcases List.mem_cons.1 hq with rfl | hq
      · exact ⟨hlt, fun e => hx q (by simp) e.symm⟩
      · have := (h.head q hq).1
        exact ⟨by unfold lt2 at *; omega, fun e => hx q (by simp [hq]) e.symm⟩
    · rename_i hlt
      refine List.pairwise_cons.2 ⟨fun q hq => ?_, ih h.tail fun q hq => hx q (by simp [hq])⟩
      rcases mem_lins.1 hq with rfl | hq
      · exact ⟨lt2_of_le (not_lt2.1 hlt) (hx p (by simp)), hx p (by simp)⟩
      · exact h.head q hq
theorem lof_ins {l : List It} {x : It} (hx : ∀ p ∈ l, p.1 ≠ x.1) (k : Int) : Lof (lins x l) k = if k = x.1 then some x.2 else Lof l k := by
  induction l with
  | nil => unfold lins; rw [lof_cons]
  | cons p t ih =>
    unfold lins
    split
    · rw [lof_cons]
    · rw [lof_cons, ih fun q hq => hx q (by simp [hq]), lof_cons]
      by_cases h1 : k = p.1
      · rw [if_pos h1, if_neg fun e => hx p (by simp) (by rw [← h1, e]), if_pos h1]
      · rw [if_neg h1, if_neg h1]
theorem ldel_same {l : List It} {k : Int} (h : Lof l k = none) : ldel l k = l := List.filter_eq_self.2 fun p hp => by simpa using lof_none.1 h p hp
theorem ldel_len {l : List It} (h : SL l) {k t : Int} (hk : Lof l k = some t) : (ldel l k).length + 1 = l.length := by
  induction l with
  | nil => simp [Lof] at hk
  | cons p r ih =>
    unfold ldel
    by_cases e : p.1 = k
    · have : Lof r k = none := lof_none.2 fun q hq e2 => (h.head q hq).2 (by rw [e, e2])
      rw [List.filter_cons, if_neg (by simpa using e)]
      show (ldel r k).length + 1 = _
      rw [ldel_same this]; rfl
    · rw [lof_cons, if_neg fun e2 => e e2.symm] at hk
      rw [List.filter_cons, if_pos (by simpa using e)]
      have := ih h.tail hk
      unfold ldel at this
      simp only [List.length_cons]; omega
/-- A new time, or a new key. -/
def lput (l : List It) (x : It) : List It := lins x (ldel l x.1)
theorem SL.put {l : List It} (h : SL l) (x : It) : SL (lput l x) := (h.del x.1).ins fun _ hp => (mem_ldel.1 hp).2
theorem lof_put (l : List It) (x : It) (k : Int) : Lof (lput l x) k = if k = x.1 then some x.2 else Lof l k := by
  unfold lput
  rw [lof_ins fun _ hp => (mem_ldel.1 hp).2, lof_del]
  split <;> rfl
theorem lput_len_old {l : List It} (h : SL l) {x : It} {t : Int} (hk : Lof l x.1 = some t) : (lput l x).length = l.length := by
  unfold lput; rw [lins_len, ldel_len h hk]
theorem lput_len_new {l : List It} {x : It} (hk : Lof l x.1 = none) : (lput l x).length = l.length + 1 := by
  unfold lput; rw [lins_len, ldel_same hk]
/-- Up to a time; after it. -/
def lupto (l : List It) (t : Int) : List It := l.filter fun p => decide (p.2 ≤ t)
def lfrom (l : List It) (t : Int) : List It := l.filter fun p => decide (¬ p.2 ≤ t)
theorem SL.late {p : It} {l : List It} (h : SL (p :: l)) {t : Int} (hp : ¬ p.2 ≤ t) : lupto (p :: l) t = [] ∧ lfrom (p :: l) t = p :: l := by
  have : ∀ q ∈ p :: l, ¬ q.2 ≤ t := fun q hq => by
    rcases List.mem_cons.1 hq with rfl | hq
    · exact hp
    · have := (h.head q hq).1; unfold lt2 at this; omega
  exact ⟨List.filter_eq_nil_iff.2 fun q hq => by simpa using this q hq, List.filter_eq_self.2 fun q hq => by simpa using this q hq⟩
theorem lup_cons {p : It} {l : List It} {t : Int} (hp : p.2 ≤ t) : lupto (p :: l) t = p :: lupto l t ∧ lfrom (p :: l) t = lfrom l t := by
  unfold lupto lfrom
  exact ⟨by rw [List.filter_cons, if_pos (by simpa using hp)], by rw [List.filter_cons, if_neg (by simpa using hp)]⟩
end Go.Proofs.Ytajcelmnblncaaa
