/- Contracts of the package wide by one number: WV v is the wide number v. Conditions: the numbers are in range. -/
import Derived.Test.YtfnfolpdbbnnlaaDoorTimes
import Derived.Test.YtfnfolpdbbnnlaaDoorRat1
namespace Go.Proofs.YtfnfolpdbbnnlaaDoor
open Go.RowKit
attribute [local go_sem] ext_cell ext_frozen

/-- 2^128, behind a name. -/
def B128 : Int := 340282366920938463463374607431768211456
theorem B128_eq : B128 = 340282366920938463463374607431768211456 := rfl
structure Wd (v : Int) : Prop where
  lo : 0 ≤ v
  hi : v < B128
/-- A wide number's value. -/
def WV (v : Int) : Value := W2 (v / 18446744073709551616) (v % 18446744073709551616)
theorem Wd.word_hi {v : Int} (h : Wd v) : Word (v / 18446744073709551616) := by
  obtain ⟨a, b⟩ := h; rw [B128_eq] at b; exact ⟨by omega, by omega⟩
theorem WV_of (h l : Int) (hl : Word l) : WV (h * 18446744073709551616 + l) = W2 h l := by
  obtain ⟨a, b⟩ := hl
  unfold WV
  have e1 : (h * 18446744073709551616 + l) / 18446744073709551616 = h := by omega
  have e2 : (h * 18446744073709551616 + l) % 18446744073709551616 = l := by omega
  rw [e1, e2]
theorem Wd_of {h l : Int} (hh : Word h) (hl : Word l) : Wd (h * 18446744073709551616 + l) := by
  obtain ⟨a, b⟩ := hh; obtain ⟨c, d⟩ := hl
  exact ⟨by omega, by rw [B128_eq]; omega⟩
theorem WV_inj {v v' : Int} (h : WV v = WV v') : v = v' := by
  unfold WV at h
  simp at h
  omega

theorem mul_V (x y : Int) (hx : Word x) (hy : Word y) : Pure Tryd.prog 76 #[u x, u y] (WV (x * y)) := mul_any x y hx hy
theorem times_V (a b : Int) (ha : Wd a) (hb : Word b) : Pure Tryd.prog 90 #[WV a, u b] (.tuple #[WV (a * b % B128), .bool (decide (a * b < B128))]) := by
  have m1 := mul_any (a % 18446744073709551616) b (word_mod a) hb
  have m2 := mul_any (a / 18446744073709551616) b ha.word_hi hb
  have b1 := mul_bd (word_mod a) hb
  have b2 := mul_bd ha.word_hi hb
  have h := times_core (a / 18446744073709551616) (a % 18446744073709551616) b _ _ _ _ m1 m2 (by omega) (by omega)
  unfold WV
  rw [B128_eq]
  have e : a * b = (a / 18446744073709551616 * b) * 18446744073709551616 + a % 18446744073709551616 * b := by
    rw [Int.mul_right_comm, ← Int.add_mul]; congr 1; omega
  rw [e]
  generalize a % 18446744073709551616 * b = x at *
  generalize a / 18446744073709551616 * b = y at *
  have e1 : (x / 18446744073709551616 + y % 18446744073709551616) % 18446744073709551616 = (y * 18446744073709551616 + x) % 340282366920938463463374607431768211456 / 18446744073709551616 := by omega
  have e2 : x % 18446744073709551616 = (y * 18446744073709551616 + x) % 340282366920938463463374607431768211456 % 18446744073709551616 := by omega
  have e3 : (y / 18446744073709551616 == 0 && (x / 18446744073709551616 + y % 18446744073709551616) / 18446744073709551616 == 0) = decide (y * 18446744073709551616 + x < 340282366920938463463374607431768211456) := by
    rw [Bool.eq_iff_iff]; simp only [Bool.and_eq_true, beq_iff_eq, decide_eq_true_eq]; omega
  rw [e3, e1] at h
  rw [← e2]
  exact h

theorem cmp_V (a b : Int) : Pure Tryd.prog 70 #[WV a, WV b] (.int .i64 (cmpI a b)) := wcmp_any a b

end Go.Proofs.YtfnfolpdbbnnlaaDoor
