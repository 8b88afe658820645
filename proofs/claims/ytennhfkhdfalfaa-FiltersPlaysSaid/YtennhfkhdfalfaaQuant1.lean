/- Contracts of quant.Right, Add, Sub. Condition: numbers of int64. -/
import Derived.Test.YtennhfkhdfalfaaVecR
import Derived.Test.YtennhfkhdfalfaaOn
namespace Go.Proofs.Ytennhfkhdfalfaa
open Go.RowKit
attribute [local go_sem] ext_cell ext_frozen Mix.calmUpon Mix.mUpon
/-- A sum that is told. -/
def QA (a b m : Int) : Prop := 0 ≤ a ∧ 0 ≤ b ∧ a + b ≤ m
instance (a b m : Int) : Decidable (QA a b m) := by unfold QA; infer_instance
theorem qadd_yes (a b m : Int) (h : QA a b m) (im : I64 m) : Pure Try.prog 113 #[.int .i64 a, .int .i64 b, .int .i64 m] (.tuple #[.int .i64 (a + b), .bool true]) := by
  intro W
  obtain ⟨h1, h2, h3⟩ := h
  have i1 := im.1; have i2 := im.2
  have w1 : IntKind.i64.wrap (m - b) = m - b := IntWalk.i64_in _ (by omega)
  have w2 : IntKind.i64.wrap (a + b) = a + b := IntWalk.i64_in _ (by omega)
  go_enter Try.func113, Try.ntmps113
  go_wp2
  go_ret2
  refine ⟨rfl, ?_⟩
  (repeat (first | assumption | exact Below.refl _ _ | refine ba ?_ _ | refine bd ?_ | refine bdn ?_ _ | refine bs ?_ (by first | omega | (simp; done) | (simp; omega)) _ | refine bt ?_ (by assumption)))
theorem qadd_no (a b m : Int) (h : ¬ QA a b m) (im : I64 m) : Pure Try.prog 113 #[.int .i64 a, .int .i64 b, .int .i64 m] (.tuple #[.int .i64 0, .bool false]) := by
  intro W
  have i1 := im.1; have i2 := im.2
  by_cases h1 : a < 0
  · clear h
    go_enter Try.func113, Try.ntmps113
    go_wp2
    go_ret2
    refine ⟨rfl, ?_⟩
    (repeat (first | assumption | exact Below.refl _ _ | refine ba ?_ _ | refine bd ?_ | refine bdn ?_ _ | refine bs ?_ (by first | omega | (simp; done) | (simp; omega)) _ | refine bt ?_ (by assumption)))
  · by_cases h2 : b < 0
    · clear h
      go_enter Try.func113, Try.ntmps113
      go_wp2
      go_ret2
      refine ⟨rfl, ?_⟩
      (repeat (first | assumption | exact Below.refl _ _ | refine ba ?_ _ | refine bd ?_ | refine bdn ?_ _ | refine bs ?_ (by first | omega | (simp; done) | (simp; omega)) _ | refine bt ?_ (by assumption)))
    · by_cases h3 : m < b
      · clear h
        go_enter Try.func113, Try.ntmps113
        go_wp2
        go_ret2
        refine ⟨rfl, ?_⟩
        (repeat (first | assumption | exact Below.refl _ _ | refine ba ?_ _ | refine bd ?_ | refine bdn ?_ _ | refine bs ?_ (by first | omega | (simp; done) | (simp; omega)) _ | refine bt ?_ (by assumption)))
      · have h4 : m - b < a := by
          by_cases h5 : m - b < a
          · exact h5
          · exact absurd ⟨by omega, by omega, by omega⟩ h
        have w1 : IntKind.i64.wrap (m - b) = m - b := IntWalk.i64_in _ (by omega)
        clear h
        go_enter Try.func113, Try.ntmps113
        go_wp2
        go_ret2
        refine ⟨rfl, ?_⟩
        (repeat (first | assumption | exact Below.refl _ _ | refine ba ?_ _ | refine bd ?_ | refine bdn ?_ _ | refine bs ?_ (by first | omega | (simp; done) | (simp; omega)) _ | refine bt ?_ (by assumption)))
theorem qsub_yes (a b : Int) (h1 : 0 ≤ b) (h2 : b ≤ a) (ia : I64 a) : Pure Try.prog 111 #[.int .i64 a, .int .i64 b] (.tuple #[.int .i64 (a - b), .bool true]) := by
  intro W
  have i1 := ia.1; have i2 := ia.2
  have w1 : IntKind.i64.wrap (a - b) = a - b := IntWalk.i64_in _ (by omega)
  go_enter Try.func111, Try.ntmps111
  go_wp2
  go_ret2
  refine ⟨rfl, ?_⟩
  (repeat (first | assumption | exact Below.refl _ _ | refine ba ?_ _ | refine bd ?_ | refine bdn ?_ _ | refine bs ?_ (by first | omega | (simp; done) | (simp; omega)) _ | refine bt ?_ (by assumption)))
theorem qsub_no (a b : Int) (h : ¬ (0 ≤ b ∧ b ≤ a)) : Pure Try.prog 111 #[.int .i64 a, .int .i64 b] (.tuple #[.int .i64 0, .bool false]) := by
  intro W
  by_cases h1 : b < 0
  · clear h
    go_enter Try.func111, Try.ntmps111
    go_wp2
    go_ret2
    refine ⟨rfl, ?_⟩
    (repeat (first | assumption | exact Below.refl _ _ | refine ba ?_ _ | refine bd ?_ | refine bdn ?_ _ | refine bs ?_ (by first | omega | (simp; done) | (simp; omega)) _ | refine bt ?_ (by assumption)))
  · have h2 : a < b := by omega
    clear h
    go_enter Try.func111, Try.ntmps111
    go_wp2
    go_ret2
    refine ⟨rfl, ?_⟩
    (repeat (first | assumption | exact Below.refl _ _ | refine ba ?_ _ | refine bd ?_ | refine bdn ?_ _ | refine bs ?_ (by first | omega | (simp; done) | (simp; omega)) _ | refine bt ?_ (by assumption)))
end Go.Proofs.Ytennhfkhdfalfaa
