/- Ranging over a map: how many entries are left, by the world alone. No program in it. -/
import Derived.Test.YtennhfkhdfalfaaMapI
namespace Go.Proofs.Ytennhfkhdfalfaa
open Go.RowKit Go.MapKept Go.Maps
/-- How many entries are still to come. -/
def leftN (w : World) (M it : Nat) : Nat :=
  match w.heap[M]?, w.heap[it]? with
  | some (.map es _), some (.mapIter _ _ seen _) => (es.toList.filter fun e => !seen.contains e.born).length
  | _, _ => 0
theorem MapI.left {P : Program} {k : TypeId} {κ : Type} {E : KEnc P k κ} {w : World} {M it : Nat} {L todo : List (κ × Value)} (h : MapI E w M it L todo) : leftN w M it = todo.length := by
  obtain ⟨es, clock, since, c0, seen, hb, _, _, heq, hr, _, _, htd⟩ := h
  have e1 : (es.toList.zip L).map Prod.fst = es.toList := by
    rw [List.map_fst_zip]; rw [zip_len heq]; exact Nat.le_refl _
  have e2 : (es.toList.filter fun e => !seen.contains e.born) = ((es.toList.zip L).filter fun z => !seen.contains z.1.born).map Prod.fst := by
    conv => lhs; rw [← e1]
    rw [List.filter_map]; rfl
  unfold leftN
  rw [hb, hr, htd]
  show (es.toList.filter fun e => !seen.contains e.born).length = _
  rw [e2, List.length_map, List.length_map]
theorem erase_perm' {α : Type} : ∀ {l : List α} {j : Nat} {x : α}, l[j]? = some x → (x :: l.eraseIdx j).Perm l
  | [], j, x, h => by simp at h
  | a :: t, 0, x, h => by
    simp at h; subst h; exact .refl _
  | a :: t, j + 1, x, h => by
    rw [List.eraseIdx_cons_succ]
    exact (List.Perm.swap a x _).trans ((erase_perm' (by simpa using h)).cons a)
/-- Entries told by a function of some list: so is what is left when one is taken. -/
theorem map_at {α β : Type} {f : α → β} {l : List α} {j : Nat} {p : β} (h : (l.map f)[j]? = some p) : ∃ x, l[j]? = some x ∧ p = f x := by
  rw [List.getElem?_map] at h
  cases hx : l[j]? with
  | none => rw [hx] at h; cases h
  | some x => rw [hx] at h; exact ⟨x, rfl, (Option.some.inj h).symm⟩
end Go.Proofs.Ytennhfkhdfalfaa
