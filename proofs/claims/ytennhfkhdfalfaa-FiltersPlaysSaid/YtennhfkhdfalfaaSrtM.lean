/- Lists in order, seen through a function that keeps keys. No program in it. -/
import Derived.Test.YtennhfkhdfalfaaSrt
namespace Go.Proofs.Ytennhfkhdfalfaa.Srt
section
variable {α β κ : Type} {key : α → κ} {lt : α → α → Bool} {key' : β → κ} {lt' : β → β → Bool} {f : α → β}
theorem map_ins (hlt : ∀ a b, lt' (f a) (f b) = lt a b) (x : α) (l : List α) : (ins lt x l).map f = ins lt' (f x) (l.map f) := by
  induction l with
  | nil => rfl
  | cons p t ih =>
    show (if lt x p = true then x :: p :: t else p :: ins lt x t).map f = if lt' (f x) (f p) = true then f x :: f p :: t.map f else f p :: ins lt' (f x) (t.map f)
    rw [hlt]
    by_cases h : lt x p = true
    · rw [if_pos h, if_pos h]; rfl
    · rw [if_neg h, if_neg h, ← ih]; rfl
theorem map_in (hk : ∀ a, key' (f a) = key a) (hlt : ∀ a b, lt' (f a) (f b) = lt a b) {l : List α} (h : In key lt l) : In key' lt' (l.map f) := by
  unfold In at *
  rw [List.pairwise_map]
  exact h.imp fun h => ⟨by rw [hlt]; exact h.1, by rw [hk, hk]; exact h.2⟩
variable [DecidableEq κ]
theorem map_del (hk : ∀ a, key' (f a) = key a) (l : List α) (k : κ) : (del key l k).map f = del key' (l.map f) k := by
  induction l with
  | nil => rfl
  | cons p t ih =>
    unfold del at *
    by_cases h : key p = k
    · rw [List.filter_cons, if_neg (by simpa using h), List.map_cons, List.filter_cons, if_neg (by rw [hk]; simpa using h), ih]
    · rw [List.filter_cons, if_pos (by simpa using h), List.map_cons, List.map_cons, List.filter_cons, if_pos (by rw [hk]; simpa using h), ih]
theorem map_put (hk : ∀ a, key' (f a) = key a) (hlt : ∀ a b, lt' (f a) (f b) = lt a b) (l : List α) (x : α) : (put key lt l x).map f = put key' lt' (l.map f) (f x) := by
  unfold put
  rw [map_ins hlt, map_del hk, hk]
theorem map_fnd (hk : ∀ a, key' (f a) = key a) (l : List α) (k : κ) : fnd key' (l.map f) k = (fnd key l k).map f := by
  induction l with
  | nil => rfl
  | cons p t ih =>
    rw [List.map_cons, fnd_cons, fnd_cons, hk, ih]
    by_cases h : key p = k
    · rw [if_pos h, if_pos h]; rfl
    · rw [if_neg h, if_neg h]
end
end Go.Proofs.Ytennhfkhdfalfaa.Srt
