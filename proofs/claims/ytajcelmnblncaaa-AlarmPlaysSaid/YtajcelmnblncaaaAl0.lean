/- Alarms, a plain matter: records of a key, its number and its time, in the order of times. No program in it. -/
import Derived.Test.YtajcelmnblncaaaSrt
namespace Go.Proofs.Ytajcelmnblncaaa
/-- What, A, B. -/
abbrev Ky := Int × Int × Int
structure Rc where
  key : Ky
  num : Int
  at_ : Int
def ltK (a b : Ky) : Bool := decide (a.1 < b.1 ∨ (a.1 = b.1 ∧ (a.2.1 < b.2.1 ∨ (a.2.1 = b.2.1 ∧ a.2.2 < b.2.2))))
def ltR (a b : Rc) : Bool := decide (a.at_ < b.at_) || (decide (a.at_ = b.at_) && ltK a.key b.key)
theorem ltK_iff (a b : Ky) : ltK a b = true ↔ (a.1 < b.1 ∨ (a.1 = b.1 ∧ (a.2.1 < b.2.1 ∨ (a.2.1 = b.2.1 ∧ a.2.2 < b.2.2)))) := by unfold ltK; simp
theorem ltR_iff (a b : Rc) : ltR a b = true ↔ (a.at_ < b.at_ ∨ (a.at_ = b.at_ ∧ (a.key.1 < b.key.1 ∨ (a.key.1 = b.key.1 ∧ (a.key.2.1 < b.key.2.1 ∨ (a.key.2.1 = b.key.2.1 ∧ a.key.2.2 < b.key.2.2)))))) := by
  unfold ltR; rw [Bool.or_eq_true, Bool.and_eq_true, ltK_iff]; simp
theorem ky_ext {a b : Ky} (h1 : a.1 = b.1) (h2 : a.2.1 = b.2.1) (h3 : a.2.2 = b.2.2) : a = b := Prod.ext h1 (Prod.ext h2 h3)
theorem ordR : Srt.Ord Rc.key ltR where
  irr := fun a => by
    cases h : ltR a a with
    | false => rfl
    | true => rw [ltR_iff] at h; omega
  trans := fun a b c h k => by
    rw [ltR_iff] at h k ⊢; omega
  tot := fun a b h k => by
    rw [ltR_iff]
    have h' : ¬ (ltR a b = true) := by rw [h]; simp
    rw [ltR_iff] at h'
    have h2 : ¬ (a.key.1 = b.key.1 ∧ a.key.2.1 = b.key.2.1 ∧ a.key.2.2 = b.key.2.2) := fun e => k (ky_ext e.1 e.2.1 e.2.2)
    omega
abbrev SR (R : List Rc) : Prop := Srt.In Rc.key ltR R
/-- In order, each key once, each number once. -/
structure RI (R : List Rc) : Prop where
  srt : SR R
  num : R.Pairwise fun a b => a.num ≠ b.num
abbrev fK (R : List Rc) (k : Ky) : Option Rc := Srt.fnd Rc.key R k
abbrev fN (R : List Rc) (n : Int) : Option Rc := Srt.fnd Rc.num R n
abbrev dK (R : List Rc) (k : Ky) : List Rc := Srt.del Rc.key R k
abbrev dN (R : List Rc) (n : Int) : List Rc := Srt.del Rc.num R n
abbrev pR (R : List Rc) (x : Rc) : List Rc := Srt.put Rc.key ltR R x
theorem pw_eq {R : List Rc} (h : R.Pairwise fun a b => a.num ≠ b.num) {x y : Rc} (hx : x ∈ R) (hy : y ∈ R) (e : x.num = y.num) : x = y := by
  induction R with
  | nil => cases hx
  | cons p t ih =>
    rw [List.pairwise_cons] at h
    rcases List.mem_cons.1 hx with rfl | hx'
    · rcases List.mem_cons.1 hy with rfl | hy'
      · rfl
      · exact absurd e (h.1 y hy')
    · rcases List.mem_cons.1 hy with rfl | hy'
      · exact absurd e.symm (h.1 x hx')
      · exact ih h.2 hx' hy'
theorem RI.fnum {R : List Rc} (h : RI R) {x : Rc} (hx : x ∈ R) : fN R x.num = some x := by
  cases hf : fN R x.num with
  | none => exact absurd rfl (Srt.fnd_none.1 hf x hx)
  | some y =>
    obtain ⟨a, b⟩ := Srt.fnd_mem hf
    rw [pw_eq h.num a hx b]
theorem RI.fkey {R : List Rc} (h : RI R) {x : Rc} (hx : x ∈ R) : fK R x.key = some x := h.srt.fnd hx
theorem RI.nil : RI [] := ⟨Srt.In.nil, List.Pairwise.nil⟩
theorem RI.del {R : List Rc} (h : RI R) (k : Ky) : RI (dK R k) := ⟨h.srt.del k, h.num.filter _⟩
/-- To take out by the key and by the number is one. -/
theorem RI.dkn {R : List Rc} (h : RI R) {k : Ky} {y : Rc} (hk : fK R k = some y) : dK R k = dN R y.num := by
  obtain ⟨hy, he⟩ := Srt.fnd_mem hk
  refine List.filter_congr fun p hp => ?_
  rw [decide_eq_decide]
  constructor
  · intro h1 e
    rw [pw_eq h.num hp hy e] at h1; exact h1 he
  · intro h1 e
    have h2 := h.fkey hp
    rw [e, hk] at h2
    injection h2 with h2
    rw [h2] at h1; exact h1 rfl
theorem RI.new {R : List Rc} (h : RI R) {x : Rc} (hk : fK R x.key = none) (hn : fN R x.num = none) : RI (pR R x) := by
  refine ⟨h.srt.put ordR x, ?_⟩
  have hp : (pR R x).Perm (x :: R) := by
    have : (pR R x).Perm (x :: Srt.del Rc.key R x.key) := by
      have : ∀ l : List Rc, (Srt.ins ltR x l).Perm (x :: l) := fun l => by
        induction l with
        | nil => exact .refl _
        | cons p t ih =>
          unfold Srt.ins
          split
          · exact .refl _
          · exact (ih.cons p).trans (.swap x p t)
      exact this _
    rw [Srt.del_same hk] at this; exact this
  refine (hp.pairwise_iff fun {a b} h e => h e.symm).2 ?_
  rw [List.pairwise_cons]
  exact ⟨fun p hp e => Srt.fnd_none.1 hn p hp e.symm, h.num⟩
theorem RI.over {R : List Rc} (h : RI R) {x y : Rc} (hk : fK R x.key = some y) (hn : x.num = y.num) : RI (pR R x) := by
  have hd := h.del x.key
  have e : pR R x = pR (dK R x.key) x := by
    show Srt.ins ltR x (Srt.del Rc.key R x.key) = Srt.ins ltR x (Srt.del Rc.key (Srt.del Rc.key R x.key) x.key)
    rw [Srt.del_same (l := Srt.del Rc.key R x.key) (Srt.fnd_none.2 fun p hp => (Srt.mem_del.1 hp).2)]
  rw [e]
  refine hd.new (Srt.fnd_none.2 fun p hp => (Srt.mem_del.1 hp).2) ?_
  rw [h.dkn hk]
  exact Srt.fnd_none.2 fun p hp => by rw [hn]; exact (Srt.mem_del.1 hp).2
/-- What is found by a number, behind a putting in. -/
theorem RI.fn_new {R : List Rc} {x : Rc} (hk : fK R x.key = none) (hn : fN R x.num = none) (n : Int) : fN (pR R x) n = if x.num = n then some x else fN R n := by
  show Srt.fnd Rc.num (Srt.ins ltR x (Srt.del Rc.key R x.key)) n = _
  rw [Srt.del_same hk]
  exact Srt.fnd_ins (key := Rc.num) (lt := ltR) (fun p hp => Srt.fnd_none.1 hn p hp) n
theorem RI.fn_over {R : List Rc} (h : RI R) {x y : Rc} (hk : fK R x.key = some y) (hn : x.num = y.num) (n : Int) : fN (pR R x) n = if x.num = n then some x else fN R n := by
  show Srt.fnd Rc.num (Srt.ins ltR x (Srt.del Rc.key R x.key)) n = _
  rw [show Srt.del Rc.key R x.key = Srt.del Rc.num R y.num from h.dkn hk, ← hn]
  refine (Srt.fnd_ins (key := Rc.num) (lt := ltR) (fun p hp => (Srt.mem_del.1 hp).2) n).trans ?_
  by_cases e : x.num = n
  · rw [if_pos e, if_pos e]
  · rw [if_neg e, if_neg e, Srt.fnd_del, if_neg fun e' => e e'.symm]
theorem RI.fn_del {R : List Rc} (h : RI R) {k : Ky} {y : Rc} (hk : fK R k = some y) (n : Int) : fN (dK R k) n = if n = y.num then none else fN R n := by
  show Srt.fnd Rc.num (Srt.del Rc.key R k) n = _
  rw [show Srt.del Rc.key R k = Srt.del Rc.num R y.num from h.dkn hk, Srt.fnd_del]
end Go.Proofs.Ytajcelmnblncaaa
