/- filters: vec.Least, in new memory. -/
import Derived.Test.YtennhfkhdfalfaaFih
import Derived.Test.YtennhfkhdfalfaaFig
namespace Go.Proofs.Ytennhfkhdfalfaa
open Go.RowKit Go.Maps
attribute [local go_sem] ext_cell ext_frozen extC_cell extC_frozen Mix.calmUpon Mix.mUpon
theorem minc_any (x y : Int) : Pure Try.prog 88 #[.int .i64 x, .int .i64 y] (.tuple #[.int .i64 (if x ≤ y then x else y), .bool true]) := by
  intro W
  rw [show (if x ≤ y then x else y) = min x y from (Int.min_def x y).symm]
  go_enter Try.func88, Try.ntmps88
  go_wp2
  go_ret2
  refine ⟨rfl, ?_⟩
  (repeat (first | assumption | exact Below.refl _ _ | refine ba ?_ _ | refine bd ?_ | refine bdn ?_ _ | refine bs ?_ (by first | omega | (simp; done) | (simp; omega)) _ | refine bt ?_ (by assumption)))
theorem mfMin : MF 88 gMin where
  z := gMin0
  b := gMinB
  cf := fun x y w => by go_simp
  yes := fun x y z x0 x1 y0 y1 h => by
    unfold gMin at h; cases h; exact minc_any x y
  no := fun x y x0 x1 y0 y1 h => by unfold gMin at h; cases h
section
variable (va vb : Value) (la lb : List Pt) (hl : la.length < 1000000000) (hl' : lb.length < 1000000000) (W : World) (hA : Vc W va la) (hB : Vc W vb lb)
include hl hl' hA hB
theorem vleast_w : Calls Try.prog 43 #[va, vb] W fun e w' => ∃ v, e = .returned v ∧ OwnP w' W.heap.size v ((mrg gMin la lb).getD []) ∧ Below W.heap.size W w' := by
  have HM := Lib.hid fun w (h : Below W.heap.size W w) => merge_w _ _ mfMin va vb la lb hl hl' w (hA.on h) (hB.on h)
  generalize mrg gMin la lb = o at *
  clear hA hB hl hl'
  go_enter Try.func43, Try.ntmps43
  go_wp2_with fail
  refine (HM.out _ (by (repeat (first | assumption | exact Below.refl _ _ | refine ba ?_ _ | refine bd ?_ | refine bdn ?_ _ | refine bs ?_ (by first | omega | (simp; done) | (simp; omega)) _ | refine bt ?_ (by assumption))))).mono ?_
  rintro e w1 ⟨v, rfl, hv, hb1⟩
  have HV := Lib.hid hv
  clear hv
  go_wp2
  go_ret
  exact ⟨v, rfl, HV.out, by (repeat (first | assumption | exact Below.refl _ _ | refine ba ?_ _ | refine bd ?_ | refine bdn ?_ _ | refine bs ?_ (by first | omega | (simp; done) | (simp; omega)) _ | refine bt ?_ (by assumption)))⟩
end
end Go.Proofs.Ytennhfkhdfalfaa
