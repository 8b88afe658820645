/- Contracts of mancipleref04.Cmp and Names; the walk of SlotOrders. -/
import Derived.Test.YtfnfolpdbbnnlaaDoorSlot3
namespace Go.Proofs.YtfnfolpdbbnnlaaDoor
open Go.RowKit
attribute [local go_sem] ext_cell ext_frozen Mix.calmUpon Mix.mUpon
theorem refslotcmp_any (k r k' r' : Int) : Pure Tryd.prog 33 #[L2 k r, L2 k' r'] (.int .i64 (lcmp k r k' r')) := by
  intro W
  by_cases h1 : k < k'
  · have hr : lcmp k r k' r' = -1 := by unfold lcmp cmpI; rw [if_neg (by omega), if_pos h1]
    rw [hr]
    go_enter Tryd.func33, Tryd.ntmps33
    go_wp2
    go_ret
    refine ⟨rfl, ?_⟩
    (repeat (first | assumption | exact Below.refl _ _ | refine ba ?_ _ | refine bd ?_ | refine bdn ?_ _ | refine bs ?_ (by first | omega | (simp; done) | (simp; omega)) _ | refine bt ?_ (by assumption)))
  · by_cases h2 : k = k'
    · subst h2
      by_cases h3 : r < r'
      · have hr : lcmp k r k r' = -1 := by unfold lcmp cmpI; rw [if_pos rfl, if_pos h3]
        rw [hr]
        go_enter Tryd.func33, Tryd.ntmps33
        go_wp2
        go_ret
        refine ⟨rfl, ?_⟩
        (repeat (first | assumption | exact Below.refl _ _ | refine ba ?_ _ | refine bd ?_ | refine bdn ?_ _ | refine bs ?_ (by first | omega | (simp; done) | (simp; omega)) _ | refine bt ?_ (by assumption)))
      · by_cases h4 : r = r'
        · subst h4
          have hr : lcmp k r k r = 0 := by unfold lcmp cmpI; rw [if_pos rfl, if_neg h3, if_neg h3]
          rw [hr]
          go_enter Tryd.func33, Tryd.ntmps33
          go_wp2
          go_ret
          refine ⟨rfl, ?_⟩
          (repeat (first | assumption | exact Below.refl _ _ | refine ba ?_ _ | refine bd ?_ | refine bdn ?_ _ | refine bs ?_ (by first | omega | (simp; done) | (simp; omega)) _ | refine bt ?_ (by assumption)))
        · have hr : lcmp k r k r' = 1 := by unfold lcmp cmpI; rw [if_pos rfl, if_neg h3, if_pos (by omega)]
          rw [hr]
          have e1 : (r == r') = false := by simpa using h4
          have e2 : r' < r := by omega
          clear h3 h4 hr h1
          go_enter Tryd.func33, Tryd.ntmps33
          go_wp2
          go_ret
          refine ⟨rfl, ?_⟩
          (repeat (first | assumption | exact Below.refl _ _ | refine ba ?_ _ | refine bd ?_ | refine bdn ?_ _ | refine bs ?_ (by first | omega | (simp; done) | (simp; omega)) _ | refine bt ?_ (by assumption)))
    · have hr : lcmp k r k' r' = 1 := by unfold lcmp cmpI; rw [if_neg h2, if_neg h1, if_pos (by omega)]
      rw [hr]
      have e1 : (k == k') = false := by simpa using h2
      have e2 : k' < k := by omega
      clear h1 h2 hr
      go_enter Tryd.func33, Tryd.ntmps33
      go_wp2
      go_ret
      refine ⟨rfl, ?_⟩
      (repeat (first | assumption | exact Below.refl _ _ | refine ba ?_ _ | refine bd ?_ | refine bdn ?_ _ | refine bs ?_ (by first | omega | (simp; done) | (simp; omega)) _ | refine bt ?_ (by assumption)))
theorem refnames_any (W : World) : Calls Tryd.prog 31 #[] W fun e w' => ∃ B, e = .returned (.slice (some ⟨B, 0, none⟩) 4 4) ∧ W.heap.size ≤ B ∧ B < w'.heap.size ∧ Hid (∀ i, i < 4 → w'.cell? ⟨B, i, none⟩ = some (.string (nmS i))) ∧ Below W.heap.size W w' := by
  go_enter Tryd.func31, Tryd.ntmps31
  go_wp2
  go_ret
  refine ⟨W.heap.size, rfl, Nat.le_refl _, by simp, Lib.hid fun i hi => ?_, ?_⟩
  · have : i = 0 ∨ i = 1 ∨ i = 2 ∨ i = 3 := by omega
    rcases this with rfl | rfl | rfl | rfl <;> simp [go_sem, nmS]
  · (repeat (first | assumption | exact Below.refl _ _ | refine ba ?_ _ | refine bd ?_ | refine bdn ?_ _ | refine bs ?_ (by first | omega | (simp; done) | (simp; omega)) _ | refine bt ?_ (by assumption)))
end Go.Proofs.YtfnfolpdbbnnlaaDoor
