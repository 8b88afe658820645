/- Contracts of the functions of the package wide that only reckon: Of, Mul, Add, Sub, Times, Cmp. -/
import Derived.Test.YtojfkpmdnhkanaaRows
import Derived.Test.YtojfkpmdnhkanaaShelf
import Derived.Test.YtojfkpmdnhkanaaMeta
import Derived.WalkKit
import Derived.WalkSpells
import Derived.StillTactics
import Derived.BigQuiet
import Derived.Deep.QuietTactic
import Derived.Deep.RegionHeld3
import Derived.Deep.DeepFit
import Derived.Outline
import Derived.Below
import Derived.Lib.Hide
import Derived.ProofKit
namespace Go.Proofs.Ytojfkpmdnhkanaa
open Go.RowKit

/-- A word of 64 bits. -/
def Word (x : Int) : Prop := 0 ≤ x ∧ x < 18446744073709551616
theorem word_mod (x : Int) : Word (x % 18446744073709551616) := ⟨by omega, by omega⟩
theorem word_0 : Word 0 := ⟨by omega, by omega⟩
theorem mul_bd {x y : Int} (hx : Word x) (hy : Word y) : 0 ≤ x * y ∧ x * y ≤ 340282366920938463426481119284349108225 := by
  obtain ⟨a, b⟩ := hx; obtain ⟨c, d⟩ := hy
  refine ⟨Int.mul_nonneg a c, ?_⟩
  have := Int.mul_le_mul (show x ≤ 18446744073709551615 by omega) (show y ≤ 18446744073709551615 by omega) c (by omega)
  omega
theorem word_mulhi {x y : Int} (hx : Word x) (hy : Word y) : Word (x * y / 18446744073709551616) := by
  obtain ⟨a, b⟩ := mul_bd hx hy
  exact ⟨by omega, by omega⟩

abbrev u (x : Int) : Value := .int .u64 x
/-- A wide number as a value. -/
abbrev W2 (h l : Int) : Value := .agg #[.int .u64 h, .int .u64 l]

theorem of_any (n : Int) : Pure Try.prog 25 #[u n] (W2 0 n) := by
  intro w
  go_enter Try.func25, Try.ntmps25
  go_wp2
  refine bodyPost_ret (v := W2 0 n) (by simp [results, Try.results25, go_sem]) rfl ⟨rfl, ?_⟩
  exact (Below.refl _ _).alloc (Nat.le_refl _) _

theorem mul_any (x y : Int) (hx : Word x) (hy : Word y) : Pure Try.prog 22 #[u x, u y] (W2 (x * y / 18446744073709551616) (x * y % 18446744073709551616)) := by
  obtain ⟨a, b⟩ := hx; obtain ⟨c, d⟩ := hy
  intro w
  go_enter Try.func22, Try.ntmps22
  go_wp2_with (go_at_call 45; refine (Try.bits_Mul64I _ _ a b c d _).mono ?_; rintro e w' ⟨rfl, rfl⟩)
  refine bodyPost_ret (v := W2 (x * y / 18446744073709551616) (x * y % 18446744073709551616)) (by simp [results, Try.results22, go_sem]) rfl ⟨rfl, ?_⟩
  exact (Below.refl _ _).alloc (Nat.le_refl _) _

theorem add_any (ah al bh bl : Int) (h1 : Word ah) (h2 : Word al) (h3 : Word bh) (h4 : Word bl) :
    Pure Try.prog 11 #[W2 ah al, W2 bh bl] (.tuple #[W2 ((ah + bh + (al + bl) / 18446744073709551616) % 18446744073709551616) ((al + bl) % 18446744073709551616), .bool ((ah + bh + (al + bl) / 18446744073709551616) / 18446744073709551616 == 0)]) := by
  intro w
  obtain ⟨a1, a2⟩ := h1; obtain ⟨b1, b2⟩ := h2; obtain ⟨c1, c2⟩ := h3; obtain ⟨d1, d2⟩ := h4
  have k0 : 0 ≤ (al + bl) / 18446744073709551616 := by omega
  have k1 : (al + bl) / 18446744073709551616 ≤ 1 := by omega
  go_enter Try.func11, Try.ntmps11
  go_wp2_with (first | simp only [Try.bits_Add64_0 al bl b1 d1] | simp only [Try.bits_Add64 ah bh _ a1 c1 k0 k1])
  refine bodyPost_ret (v := .tuple #[W2 ((ah + bh + (al + bl) / 18446744073709551616) % 18446744073709551616) ((al + bl) % 18446744073709551616), .bool ((ah + bh + (al + bl) / 18446744073709551616) / 18446744073709551616 == 0)]) (by simp [results, Try.results11, go_sem]) rfl ⟨rfl, ?_⟩
  exact (((Below.refl _ _).alloc (Nat.le_refl _) _).alloc (by simp) _).alloc (by simp; omega) _

theorem sub_any (ah al bh bl : Int) (h1 : Word ah) (h2 : Word al) (h3 : Word bh) (h4 : Word bl) :
    Pure Try.prog 12 #[W2 ah al, W2 bh bl] (.tuple #[W2 ((ah - bh - bor al bl) % 18446744073709551616) ((al - bl) % 18446744073709551616), .bool (bor ah (bh + bor al bl) == 0)]) := by
  intro w
  obtain ⟨a1, a2⟩ := h1; obtain ⟨b1, b2⟩ := h2; obtain ⟨c1, c2⟩ := h3; obtain ⟨d1, d2⟩ := h4
  obtain ⟨k0, k1⟩ := bor_01 al bl
  go_enter Try.func12, Try.ntmps12
  go_wp2_with (first | simp only [Try.bits_Sub64_0 al bl b1 d1 d2] | simp only [Try.bits_Sub64 ah bh _ a1 c1 c2 k0 k1])
  refine bodyPost_ret (v := .tuple #[W2 ((ah - bh - bor al bl) % 18446744073709551616) ((al - bl) % 18446744073709551616), .bool (bor ah (bh + bor al bl) == 0)]) (by simp [results, Try.results12, go_sem]) rfl ⟨rfl, ?_⟩
  exact (((Below.refl _ _).alloc (Nat.le_refl _) _).alloc (by simp) _).alloc (by simp; omega) _

theorem cmp_lt (ah al bh bl : Int) (h : ah < bh ∨ ah = bh ∧ al < bl) : Pure Try.prog 19 #[W2 ah al, W2 bh bl] (.int .i64 (-1)) := by
  intro w
  rcases h with h | ⟨rfl, h⟩
  · have e : (ah == bh) = false := by simp; omega
    go_enter Try.func19, Try.ntmps19
    go_wp2
    go_ret
    exact ⟨rfl, ba (ba (Below.refl _ _) _) _⟩
  · have e : (al == bl) = false := by simp; omega
    go_enter Try.func19, Try.ntmps19
    go_wp2
    go_ret
    exact ⟨rfl, ba (ba (Below.refl _ _) _) _⟩
theorem cmp_eq (ah al : Int) : Pure Try.prog 19 #[W2 ah al, W2 ah al] (.int .i64 0) := by
  intro w
  go_enter Try.func19, Try.ntmps19
  go_wp2
  go_ret
  exact ⟨rfl, ba (ba (Below.refl _ _) _) _⟩
theorem cmp_gt (ah al bh bl : Int) (h : bh < ah ∨ ah = bh ∧ bl < al) : Pure Try.prog 19 #[W2 ah al, W2 bh bl] (.int .i64 1) := by
  intro w
  rcases h with h | ⟨rfl, h⟩
  · have e : (ah == bh) = false := by simp; omega
    have e1 : ¬ ah < bh := by omega
    go_enter Try.func19, Try.ntmps19
    go_wp2
    go_ret
    exact ⟨rfl, ba (ba (Below.refl _ _) _) _⟩
  · have e : (al == bl) = false := by simp; omega
    have e1 : ¬ al < bl := by omega
    go_enter Try.func19, Try.ntmps19
    go_wp2
    go_ret
    exact ⟨rfl, ba (ba (Below.refl _ _) _) _⟩
end Go.Proofs.Ytojfkpmdnhkanaa
