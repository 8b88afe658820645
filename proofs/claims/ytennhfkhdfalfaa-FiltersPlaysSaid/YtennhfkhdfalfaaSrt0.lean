/- Lists in order: putting in, told place by place. append in a region that draws its order. No program in it. -/
import Derived.Test.YtennhfkhdfalfaaSrt
import Derived.Test.YtennhfkhdfalfaaChg
namespace Go.Proofs.Ytennhfkhdfalfaa
open Go.RowKit
namespace Srt
variable {α κ : Type} [DecidableEq κ] {key : α → κ} {lt : α → α → Bool}
theorem perm_ins (x : α) (l : List α) : (ins lt x l).Perm (x :: l) := by
  induction l with
  | nil => exact .refl _
  | cons p t ih =>
    unfold ins
    split
    · exact .refl _
    · exact (ih.cons p).trans (.swap x p t)
theorem perm_put (l : List α) (x : α) : (put key lt l x).Perm (x :: del key l (key x)) := perm_ins _ _
theorem perm_del {l : List α} (h : In key lt l) {k : κ} {x : α} (hk : fnd key l k = some x) : l.Perm (x :: del key l k) := by
  induction l with
  | nil => simp [fnd] at hk
  | cons p t ih =>
    rw [fnd_cons] at hk
    by_cases he : key p = k
    · rw [if_pos he] at hk
      injection hk with hk; subst hk
      have : del key (p :: t) k = del key t k := by unfold del; rw [List.filter_cons, if_neg (by simpa using he)]
      rw [this, del_same (fnd_none.2 fun q hq e => (h.head q hq).2 (by rw [he, e]))]
    · rw [if_neg he] at hk
      have : del key (p :: t) k = p :: del key t k := by unfold del; rw [List.filter_cons, if_pos (by simpa using he)]
      rw [this]
      exact ((ih h.tail hk).cons p).trans (.swap _ _ _)
/-- One more at the end, behind what is put in. -/
theorem put_after {l : List α} {x p : α} (hl : lt x p = true) (hk : key p ≠ key x) : put key lt (l ++ [p]) x = put key lt l x ++ [p] := by
  unfold put
  rw [del_snoc, if_neg hk]
  by_cases h : ∃ q ∈ del key l (key x), lt x q = true
  · exact ins_app h
  · have h' : ∀ q ∈ del key l (key x), lt x q = false := fun q hq => by
      cases hq' : lt x q with
      | false => rfl
      | true => exact absurd ⟨q, hq, hq'⟩ h
    rw [ins_here h' hl, ins_end h']
theorem put_end {l : List α} {x : α} (h : ∀ q ∈ l, lt x q = false ∧ key q ≠ key x) : put key lt l x = l ++ [x] := by
  unfold put
  rw [del_same (fnd_none.2 fun q hq => (h q hq).2)]
  exact ins_end fun q hq => (h q hq).1
theorem put_over {l : List α} {x p : α} (h : ∀ q ∈ l, lt x q = false ∧ key q ≠ key x) (hk : key p = key x) : put key lt (l ++ [p]) x = l ++ [x] := by
  unfold put
  rw [del_snoc, if_pos hk, del_same (fnd_none.2 fun q hq => (h q hq).2), List.append_nil]
  exact ins_end fun q hq => (h q hq).1
end Srt
/-- 'append' within a region that draws its order, by what its run is known to be. -/
theorem Mix.opApp {P : Program} {ops : Array Oper} {i : Nat} {o : Oper} {K : Act → World → Prop} {a : Act} {w : World} (hi : ops[i]? = some o) (hwt : Region.wanted o (yielded ops a.tmps) = true) (s x : Operand) (t : TypeId)
    (ho : o.op = .call { callee := .builtin .append, args := #[s, x], argTypes := #[t, t] }) {vs vx : Value} (hs : a.eval s = vs) (hx : a.eval x = vx) {v' : Value} {w' : World} (hr : (Builtin.append_ #[t, t] o.type #[vs, vx]).run P w = .ok v' w')
    (h : K (a.put o.dst v') w') : Mix.mOp P ops i K a w := by
  refine Mix.op hi hwt ?_
  unfold execOp
  simp only [ho, resolve, invoke, builtin, Sem.run_bind, Sem.run_pure, Result.andThen_ok, List.map_toArray, List.map_cons, List.map_nil, hs, hx, hr, Mix.mUpon]
  exact h
end Go.Proofs.Ytennhfkhdfalfaa
