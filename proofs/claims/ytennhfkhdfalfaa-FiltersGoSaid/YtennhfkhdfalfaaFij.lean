/- filters: what the law's works makes. -/
import Derived.Test.YtennhfkhdfalfaaFii
namespace Go.Proofs.Ytennhfkhdfalfaa
open Go.RowKit Go.Maps
attribute [local go_sem] ext_cell ext_frozen extC_cell extC_frozen Mix.calmUpon Mix.mUpon
abbrev wv : List Pt := [(0, 0, 2), (1, 0, 4)]
abbrev wf : Pf := (1, 5, 9, wv)
theorem two_parts {w : World} {q : Nat} {k r a k' r' a' : Int} (h : w.heap[q]? = some (.cells #[.int .i64 k, .int .i64 r, .int .i64 a, .int .i64 k', .int .i64 r', .int .i64 a'] 57 (0, 0))) : Vc w (.slice (some ⟨q, 0, none⟩) 2 2) [(k, r, a), (k', r', a')] := by
  refine .inr ⟨q, 0, 2, rfl, Nat.le_refl _, by decide, (Array.getElem?_eq_some_iff.1 h).1, fun i hi => ?_⟩
  have : i = 0 ∨ i = 1 := by simp at hi; omega
  rcases this with rfl | rfl <;> simp [World.cell?, h, kk, rr, aa]
theorem one_part26 {w : World} {q : Nat} {k r a : Int} (h : w.heap[q]? = some (.cells #[.int .i64 k, .int .i64 r, .int .i64 a] 57 (0, 0))) : Vc w (.slice (some ⟨q, 0, none⟩) 1 1) [(k, r, a)] := by
  refine .inr ⟨q, 0, 1, rfl, Nat.le_refl _, by decide, (Array.getElem?_eq_some_iff.1 h).1, fun i hi => ?_⟩
  obtain rfl : i = 0 := by simpa using hi
  simp [World.cell?, h, kk, rr, aa]
theorem w_arg : PArg wf := ⟨by decide, by decide, by decide, by simp, by decide⟩
theorem w_put1 : putE 2 [] wf = 0 ∧ putP 2 [] wf = [wf] := by
  unfold putE putP
  rw [if_pos w_arg, if_pos w_arg, if_neg (by simp), if_neg (by simp), if_neg (by simp), if_neg (by simp)]
  exact ⟨rfl, rfl⟩
theorem w_put2 : putE 2 [wf] wf = 0 ∧ putP 2 [wf] wf = [wf] := by
  unfold putE putP
  rw [if_pos w_arg, if_pos w_arg, if_pos (by simp), if_pos (by simp)]
  exact ⟨rfl, rfl⟩
theorem w_blk1 : blk [wf] 1 5 [(0, 0, 2), (1, 0, 3)] = true := by decide
theorem w_blk2 : blk [wf] 1 5 [(0, 0, 3)] = false := by decide
theorem w_exp8 : ([wf].filter fun f => !(decide (f.2.2.1 ≤ 8))) = [wf] := rfl
theorem w_exp9 : ([wf].filter fun f => !(decide (f.2.2.1 ≤ 9))) = [] := rfl
end Go.Proofs.Ytennhfkhdfalfaa
