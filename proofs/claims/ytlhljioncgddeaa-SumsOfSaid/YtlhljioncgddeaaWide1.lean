/- Contracts of the functions of the package wide that only reckon: Of, Mul, Add, Sub, Times, Cmp. -/
import Derived.Test.YtlhljioncgddeaaRows
import Derived.Test.YtlhljioncgddeaaShelf
import Derived.Test.YtlhljioncgddeaaMeta
import Derived.WalkKit
import Derived.WalkSpells
import Derived.StillTactics
import Derived.BigQuiet
import Derived.Deep.QuietTactic
import Derived.Deep.RegionHeld3
import Derived.Deep.DeepFit
import Derived.Outline
import Derived.Below
import Derived.Lib.Hide
import Derived.ProofKit
namespace Go.Proofs.Ytlhljioncgddeaa
open Go.RowKit

/-- A word of 64 bits. -/
def Word (x : Int) : Prop := 0 ≤ x ∧ x < 18446744073709551616
theorem word_mod (x : Int) : Word (x % 18446744073709551616) := ⟨by omega, by omega⟩
theorem word_0 : Word 0 := ⟨by omega, by omega⟩
theorem mul_bd {x y : Int} (hx : Word x) (hy : Word y) : 0 ≤ x * y ∧ x * y ≤ 340282366920938463426481119284349108225 := by
  obtain ⟨a, b⟩ := hx; obtain ⟨c, d⟩ := hy
  refine ⟨Int.mul_nonneg a c, ?_⟩
  have := Int.mul_le_mul (show x ≤ 18446744073709551615 by omega) (show y ≤ 18446744073709551615 by omega) c (by omega)
  omega
theorem word_mulhi {x y : Int} (hx : Word x) (hy : Word y) : Word (x * y / 18446744073709551616) := by
  obtain ⟨a, b⟩ := mul_bd hx hy
  exact ⟨by omega, by omega⟩

abbrev u (x : Int) : Value := .int .u64 x
/-- A wide number as a value. -/
abbrev W2 (h l : Int) : Value := .agg #[.int .u64 h, .int .u64 l]

theorem mul_any (x y : Int) (hx : Word x) (hy : Word y) : Pure Try.prog 25 #[u x, u y] (W2 (x * y / 18446744073709551616) (x * y % 18446744073709551616)) := by
  obtain ⟨a, b⟩ := hx; obtain ⟨c, d⟩ := hy
  intro w
  go_enter Try.func25, Try.ntmps25
  go_wp2_with (go_at_call 27; refine (Try.bits_Mul64I _ _ a b c d _).mono ?_; rintro e w' ⟨rfl, rfl⟩)
  refine bodyPost_ret (v := W2 (x * y / 18446744073709551616) (x * y % 18446744073709551616)) (by simp [results, Try.results25, go_sem]) rfl ⟨rfl, ?_⟩
  exact (Below.refl _ _).alloc (Nat.le_refl _) _

theorem cmp_lt (ah al bh bl : Int) (h : ah < bh ∨ ah = bh ∧ al < bl) : Pure Try.prog 26 #[W2 ah al, W2 bh bl] (.int .i64 (-1)) := by
  intro w
  rcases h with h | ⟨rfl, h⟩
  · have e : (ah == bh) = false := by simp; omega
    go_enter Try.func26, Try.ntmps26
    go_wp2
    go_ret
    exact ⟨rfl, ba (ba (Below.refl _ _) _) _⟩
  · have e : (al == bl) = false := by simp; omega
    go_enter Try.func26, Try.ntmps26
    go_wp2
    go_ret
    exact ⟨rfl, ba (ba (Below.refl _ _) _) _⟩
theorem cmp_eq (ah al : Int) : Pure Try.prog 26 #[W2 ah al, W2 ah al] (.int .i64 0) := by
  intro w
  go_enter Try.func26, Try.ntmps26
  go_wp2
  go_ret
  exact ⟨rfl, ba (ba (Below.refl _ _) _) _⟩
theorem cmp_gt (ah al bh bl : Int) (h : bh < ah ∨ ah = bh ∧ bl < al) : Pure Try.prog 26 #[W2 ah al, W2 bh bl] (.int .i64 1) := by
  intro w
  rcases h with h | ⟨rfl, h⟩
  · have e : (ah == bh) = false := by simp; omega
    have e1 : ¬ ah < bh := by omega
    go_enter Try.func26, Try.ntmps26
    go_wp2
    go_ret
    exact ⟨rfl, ba (ba (Below.refl _ _) _) _⟩
  · have e : (al == bl) = false := by simp; omega
    have e1 : ¬ al < bl := by omega
    go_enter Try.func26, Try.ntmps26
    go_wp2
    go_ret
    exact ⟨rfl, ba (ba (Below.refl _ _) _) _⟩
end Go.Proofs.Ytlhljioncgddeaa
