/- One queue, plainly: what it keeps of what came. -/
import Derived.Test.YtnckjacbkhoppaaQ2
namespace Go.Proofs.Ytnckjacbkhoppaa
def ownF (f : Int) (l : List Pe) : List Pe := l.filter fun e => decide (e.2.1 = f)
theorem ownF_snoc (f : Int) (l : List Pe) (e : Pe) : ownF f (l ++ [e]) = if e.2.1 = f then ownF f l ++ [e] else ownF f l := by
  unfold ownF
  rw [List.filter_append]
  by_cases h : e.2.1 = f
  · rw [if_pos h]; simp [h]
  · rw [if_neg h]; simp [h]
theorem put_one (x y : Pq) (h : y.frame = x.frame) : putP [x] y = [y] := by
  unfold putP Srt.put Srt.del
  rw [List.filter_cons, if_neg (by simp [h])]
  rfl
theorem fnd_one (x : Pq) (k : Int) : fndP [x] k = if x.frame = k then some x else none := by
  unfold fndP; rw [Srt.fnd_cons]; rfl
/-- The queue of one framework, that was opened at first. -/
def kept (most : Int) (f : Int) (o : List Pe) : Pq := ⟨f, o.drop (o.length - most.toNat), max 0 ((o.length : Int) - most)⟩
theorem keepM {most : Int} (hm : 1 ≤ most) (f : Int) (l : List Pe) : ∀ t, t ≤ l.length → putM most (openM [] f) (l.take t) = [kept most f (ownF f (l.take t))]
  | 0, _ => by
    rw [List.take_zero]
    show openM [] f = _
    have e : (max 0 (((0 : Nat) : Int) - most)) = 0 := by omega
    show putP [] ⟨f, [], 0⟩ = [⟨f, _, max 0 (((0 : Nat) : Int) - most)⟩]
    rw [e]
    show [(⟨f, [], 0⟩ : Pq)] = [⟨f, List.drop ((ownF f []).length - most.toNat) [], 0⟩]
    rw [List.drop_nil]
  | t + 1, h => by
    obtain ⟨x, hx⟩ : ∃ x, l[t]? = some x := ⟨_, List.getElem?_eq_getElem (show t < l.length by omega)⟩
    rw [show l.take (t + 1) = l.take t ++ [x] by rw [List.take_add_one, hx]; rfl, putM_snoc, keepM hm f l t (by omega), ownF_snoc]
    unfold put1
    rw [fnd_one]
    generalize ownF f (l.take t) = o
    by_cases he : x.2.1 = f
    · rw [if_pos he, if_pos (show (kept most f o).frame = x.2.1 from he.symm)]
      simp only
      rw [he]
      obtain ⟨m, rfl⟩ : ∃ m : Nat, most = m := ⟨most.toNat, by omega⟩
      have hm1 : 1 ≤ m := by omega
      have hlen : (kept m f o).evs.length = o.length - (o.length - m) := by unfold kept; simp
      by_cases hf : (((kept m f o).evs.length : Nat) : Int) = m
      · rw [if_pos hf, put_one (kept m f o) ⟨f, (kept m f o).evs.drop 1 ++ [x], _⟩ rfl]
        unfold kept
        simp only [Int.toNat_natCast, List.length_append, List.length_singleton]
        have hg : m ≤ o.length := by omega
        congr 2
        · rw [List.drop_drop, show o.length + 1 - m = o.length - m + 1 by omega, List.drop_append_of_le_length (by omega)]
        · omega
      · rw [if_neg hf, put_one (kept m f o) ⟨f, (kept m f o).evs ++ [x], _⟩ rfl]
        unfold kept
        simp only [Int.toNat_natCast, List.length_append, List.length_singleton]
        have hg : o.length < m := by omega
        congr 2
        · rw [show o.length - m = 0 by omega, show o.length + 1 - m = 0 by omega]; rfl
        · omega
    · rw [if_neg he, if_neg (show ¬ (kept most f o).frame = x.2.1 from fun e => he e.symm)]
end Go.Proofs.Ytnckjacbkhoppaa
