/- Tables of frameworks, a plain matter: lists by rising numbers, what acts make of them, how many a role has. No program in it. -/
import Derived.Test.YtajcelmnblncaaaSrt
namespace Go.Proofs.Ytajcelmnblncaaa
structure Fr where
  id : Int
  role : Int
  weight : Int
  up : Bool
  quiet : Bool
  time : Int
  til : Int
namespace Srt
variable {α κ : Type} [DecidableEq κ] {key : α → κ} {lt : α → α → Bool}
theorem perm_ins (x : α) (l : List α) : (ins lt x l).Perm (x :: l) := by
  induction l with
  | nil => exact .refl _
  | cons p t ih =>
    unfold ins
    split
    · exact .refl _
    · exact (ih.cons p).trans (.swap x p t)
theorem perm_put (l : List α) (x : α) : (put key lt l x).Perm (x :: del key l (key x)) := perm_ins _ _
theorem perm_del {l : List α} (h : In key lt l) {k : κ} {x : α} (hk : fnd key l k = some x) : l.Perm (x :: del key l k) := by
  induction l with
  | nil => simp [fnd] at hk
  | cons p t ih =>
    rw [fnd_cons] at hk
    by_cases he : key p = k
    · rw [if_pos he] at hk
      injection hk with hk; subst hk
      have : del key (p :: t) k = del key t k := by unfold del; rw [List.filter_cons, if_neg (by simpa using he)]
      rw [this, del_same (fnd_none.2 fun q hq e => (h.head q hq).2 (by rw [he, e]))]
    · rw [if_neg he] at hk
      have : del key (p :: t) k = p :: del key t k := by unfold del; rw [List.filter_cons, if_pos (by simpa using he)]
      rw [this]
      exact ((ih h.tail hk).cons p).trans (.swap _ _ _)
/-- One more at the end, behind what is put in. -/
theorem put_after {l : List α} {x p : α} (hl : lt x p = true) (hk : key p ≠ key x) : put key lt (l ++ [p]) x = put key lt l x ++ [p] := by
  unfold put
  rw [del_snoc, if_neg hk]
  by_cases h : ∃ q ∈ del key l (key x), lt x q = true
  · exact ins_app h
  · have h' : ∀ q ∈ del key l (key x), lt x q = false := fun q hq => by
      cases hq' : lt x q with
      | false => rfl
      | true => exact absurd ⟨q, hq, hq'⟩ h
    rw [ins_here h' hl, ins_end h']
theorem put_end {l : List α} {x : α} (h : ∀ q ∈ l, lt x q = false ∧ key q ≠ key x) : put key lt l x = l ++ [x] := by
  unfold put
  rw [del_same (fnd_none.2 fun q hq => (h q hq).2)]
  exact ins_end fun q hq => (h q hq).1
theorem put_over {l : List α} {x p : α} (h : ∀ q ∈ l, lt x q = false ∧ key q ≠ key x) (hk : key p = key x) : put key lt (l ++ [p]) x = l ++ [x] := by
  unfold put
  rw [del_snoc, if_pos hk, del_same (fnd_none.2 fun q hq => (h q hq).2), List.append_nil]
  exact ins_end fun q hq => (h q hq).1
end Srt
def ltF (a b : Fr) : Bool := decide (a.id < b.id)
theorem ordF : Srt.Ord Fr.id ltF where
  irr := fun a => by simp [ltF]
  trans := fun a b c h k => by simp only [ltF, decide_eq_true_eq] at *; omega
  tot := fun a b h k => by simp only [ltF, decide_eq_true_eq, decide_eq_false_iff_not] at *; omega
/-- Lists by rising numbers. -/
abbrev SF (S : List Fr) : Prop := Srt.In Fr.id ltF S
abbrev fndF (S : List Fr) (k : Int) : Option Fr := Srt.fnd Fr.id S k
abbrev delF (S : List Fr) (k : Int) : List Fr := Srt.del Fr.id S k
abbrev putF (S : List Fr) (f : Fr) : List Fr := Srt.put Fr.id ltF S f
def topT : Int := 9007199254740992
/-- A framework as the calls leave it. -/
structure FOk (f : Fr) : Prop where
  id0 : 1 ≤ f.id
  id1 : f.id ≤ 9223372036854775807
  r0 : 1 ≤ f.role
  r1 : f.role ≤ 32
  w0 : 1 ≤ f.weight
  w1 : f.weight ≤ 1000
  t0 : 0 ≤ f.time
  t1 : f.time ≤ 9007199254740992
  u0 : 0 ≤ f.til
  u1 : f.til ≤ 18014398509481984
  up : f.up = true → f.til = 0
/-- How many a role has. -/
def cnt (S : List Fr) (r : Int) : Nat := S.countP fun f => decide (f.role = r)
/-- The weight of a role; 0: it is not there. -/
def wtF (S : List Fr) (r : Int) : Int := match S.find? (fun f => decide (f.role = r)) with | some f => f.weight | none => 0
theorem cnt_perm {S T : List Fr} (h : S.Perm T) (r : Int) : cnt S r = cnt T r := h.countP_eq _
theorem cnt_cons (f : Fr) (S : List Fr) (r : Int) : cnt (f :: S) r = cnt S r + if f.role = r then 1 else 0 := by
  unfold cnt; rw [List.countP_cons]; simp
theorem cnt_le (S : List Fr) (r : Int) : cnt S r ≤ S.length := List.countP_le_length
theorem cnt_pos {S : List Fr} {f : Fr} (h : f ∈ S) : 0 < cnt S f.role := by
  unfold cnt; exact List.countP_pos_iff.2 ⟨f, h, by simp⟩
theorem cnt_zero {S : List Fr} {r : Int} (h : cnt S r = 0) : ∀ f ∈ S, f.role ≠ r := fun f hf e => by
  have := cnt_pos hf; rw [e] at this; omega
/-- The list, and what the table of roles has: how many of each, of what weight. -/
structure RO (S : List Fr) (lo wt : Nat → Int) : Prop where
  sf : SF S
  ok : ∀ f ∈ S, FOk f
  flo : ∀ r : Nat, r ≤ 32 → lo r = cnt S r
  fwt : ∀ f ∈ S, ∀ r : Nat, f.role = r → wt r = f.weight
  w64 : ∀ r : Nat, -9223372036854775808 ≤ wt r ∧ wt r ≤ 9223372036854775807
theorem RO.wtF {S : List Fr} {lo wt : Nat → Int} (h : RO S lo wt) {r : Nat} (hr : r ≤ 32) : wtF S r = if 0 < lo r then wt r else 0 := by
  unfold Go.Proofs.Ytajcelmnblncaaa.wtF
  cases hf : S.find? (fun f => decide (f.role = (r : Int))) with
  | some f =>
    have h1 := List.mem_of_find?_eq_some hf
    have h2 := List.find?_some hf
    simp only [decide_eq_true_eq] at h2
    have := cnt_pos h1
    rw [h2] at this
    rw [if_pos (by rw [h.flo r hr]; omega), h.fwt f h1 r h2]
  | none =>
    rw [List.find?_eq_none] at hf
    have : cnt S r = 0 := by
      unfold cnt; rw [List.countP_eq_zero]; exact hf
    rw [if_neg (by rw [h.flo r hr, this]; omega)]
def up1 (g : Nat → Int) (i : Nat) (x : Int) : Nat → Int := fun k => if k = i then x else g k
/-- A framework that is there is put in another way, in its role. -/
theorem RO.over {S : List Fr} {lo wt : Nat → Int} (h : RO S lo wt) {g f : Fr} (hg : fndF S f.id = some g) (hr : f.role = g.role) (hw : f.weight = g.weight) (hf : FOk f) : RO (putF S f) lo wt := by
  have hgm := Srt.fnd_mem hg
  have p1 : S.Perm (g :: delF S _) := Srt.perm_del h.sf hg
  have p2 := Srt.perm_put (key := Fr.id) (lt := ltF) S f
  refine ⟨h.sf.put ordF f, fun x hx => ?_, fun r hr' => ?_, fun x hx r hr' => ?_, h.w64⟩
  · rcases Srt.mem_put.1 hx with rfl | ⟨hx, _⟩
    · exact hf
    · exact h.ok x hx
  · rw [h.flo r hr', cnt_perm p1, cnt_perm p2, cnt_cons, cnt_cons, hr]
  · rcases Srt.mem_put.1 hx with rfl | ⟨hx, _⟩
    · rw [hw]; exact h.fwt g hgm.1 r (by rw [← hr, hr'])
    · exact h.fwt x hx r hr'
/-- A new one is put in. -/
theorem RO.new {S : List Fr} {lo wt : Nat → Int} (h : RO S lo wt) {f : Fr} {r : Nat} (hg : fndF S f.id = none) (hr : f.role = r) (hf : FOk f) (hw : 0 < lo r → wt r = f.weight) : RO (putF S f) (up1 lo r (lo r + 1)) (up1 wt r f.weight) := by
  have p2 := Srt.perm_put (key := Fr.id) (lt := ltF) S f
  rw [Srt.del_same hg] at p2
  refine ⟨h.sf.put ordF f, fun x hx => ?_, fun r' hr' => ?_, fun x hx r' hr' => ?_, fun r' => ?_⟩
  · rcases Srt.mem_put.1 hx with rfl | ⟨hx, _⟩
    · exact hf
    · exact h.ok x hx
  · rw [cnt_perm p2, cnt_cons]
    unfold up1
    by_cases e : r' = r
    · subst e; rw [if_pos rfl, if_pos hr, h.flo _ hr']; simp
    · rw [if_neg e, if_neg (by rw [hr]; omega), h.flo r' hr']; simp
  · unfold up1
    rcases Srt.mem_put.1 hx with rfl | ⟨hx, _⟩
    · rw [if_pos (by omega)]
    · by_cases e : r' = r
      · subst e
        rw [if_pos rfl]
        have := cnt_pos hx
        rw [hr'] at this
        have hb := h.ok x hx
        rw [← hw (by rw [h.flo r' (by have := hb.r1; omega)]; omega)]
        exact h.fwt x hx r' hr'
      · rw [if_neg e]; exact h.fwt x hx r' hr'
  · unfold up1; split
    · exact ⟨by have := hf.w0; omega, by have := hf.w1; omega⟩
    · exact h.w64 r'
/-- One is taken out. -/
theorem RO.less {S : List Fr} {lo wt : Nat → Int} (h : RO S lo wt) {g : Fr} {r : Nat} {k : Int} (hg : fndF S k = some g) (hr : g.role = r) : RO (delF S k) (up1 lo r (lo r - 1)) wt := by
  have p1 : S.Perm (g :: delF S _) := Srt.perm_del h.sf hg
  refine ⟨h.sf.del k, fun x hx => h.ok x (Srt.mem_del.1 hx).1, fun r' hr' => ?_, fun x hx r' hr' => h.fwt x (Srt.mem_del.1 hx).1 r' hr', h.w64⟩
  have := h.flo r' hr'
  rw [cnt_perm p1, cnt_cons] at this
  unfold up1
  by_cases e : r' = r
  · subst e; rw [if_pos hr] at this; rw [if_pos rfl]; omega
  · rw [if_neg (by rw [hr]; omega)] at this; rw [if_neg e]; omega
theorem RO.none_ : RO [] (fun _ => 0) (fun _ => 0) := ⟨Srt.In.nil, (fun f h => by cases h), fun _ _ => rfl, (fun f h => by cases h), fun _ => by omega⟩
/-- An act: kind, number, role, weight, time. -/
structure FAct where
  kind : Int
  id : Int
  role : Int
  weight : Int
  time : Int
def subBad (a : FAct) : Prop := a.id < 1 ∨ a.role < 1 ∨ 32 < a.role ∨ a.weight < 1 ∨ 1000 < a.weight ∨ a.time < 0 ∨ 9007199254740992 < a.time
instance (a : FAct) : Decidable (subBad a) := by unfold subBad; infer_instance
def fresh (a : FAct) (q : Bool) : Fr := ⟨a.id, a.role, a.weight, true, q, a.time, 0⟩
/-- P23.1. -/
def fsub (cap : Int) (S : List Fr) (a : FAct) : List Fr × Bool × Int :=
  if subBad a then (S, false, 41) else
  match fndF S a.id with
  | some g => if g.role ≠ a.role then (S, false, 21) else if g.weight ≠ a.weight then (S, false, 22) else (putF S (fresh a g.quiet), false, 0)
  | none => if 0 < wtF S a.role ∧ wtF S a.role ≠ a.weight then (S, false, 22) else if cap ≤ (S.length : Int) then (S, false, 32) else (putF S (fresh a false), true, 0)
def fdis (S : List Fr) (a : FAct) : List Fr × Int :=
  match fndF S a.id with
  | none => (S, 43)
  | some g => if g.up = false then (S, 23) else if a.time < 0 ∨ 9007199254740992 < a.time then (S, 41) else (putF S { g with up := false, til := a.time + g.time }, 0)
def fqui (S : List Fr) (k : Int) (q : Bool) : List Fr × Int :=
  match fndF S k with
  | none => (S, 43)
  | some g => (putF S { g with quiet := q }, 0)
/-- What an act does. -/
def fstep (cap : Int) (S : List Fr) (a : FAct) : List Fr × Bool × Int :=
  if a.kind = 0 then fsub cap S a else if a.kind = 1 then ((fdis S a).1, false, (fdis S a).2) else
  if a.kind = 2 then (delF S a.id, (fndF S a.id).isSome, 0) else ((fqui S a.id (decide (a.kind = 3))).1, false, (fqui S a.id (decide (a.kind = 3))).2)
end Go.Proofs.Ytajcelmnblncaaa
