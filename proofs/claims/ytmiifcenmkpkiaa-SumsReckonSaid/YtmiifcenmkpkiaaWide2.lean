/- Contracts of the package wide by one number: WV v is the wide number v. Conditions: the numbers are in range. -/
import Derived.Test.YtmiifcenmkpkiaaMix
import Derived.Test.YtmiifcenmkpkiaaRat1
namespace Go.Proofs.Ytmiifcenmkpkiaa
open Go.RowKit
attribute [local go_sem] ext_cell ext_frozen

/-- 2^128, behind a name. -/
def B128 : Int := 340282366920938463463374607431768211456
theorem B128_eq : B128 = 340282366920938463463374607431768211456 := rfl
structure Wd (v : Int) : Prop where
  lo : 0 ≤ v
  hi : v < B128
/-- A wide number's value. -/
def WV (v : Int) : Value := W2 (v / 18446744073709551616) (v % 18446744073709551616)
theorem Wd.word_hi {v : Int} (h : Wd v) : Word (v / 18446744073709551616) := by
  obtain ⟨a, b⟩ := h; rw [B128_eq] at b; exact ⟨by omega, by omega⟩
theorem WV_of (h l : Int) (hl : Word l) : WV (h * 18446744073709551616 + l) = W2 h l := by
  obtain ⟨a, b⟩ := hl
  unfold WV
  have e1 : (h * 18446744073709551616 + l) / 18446744073709551616 = h := by omega
  have e2 : (h * 18446744073709551616 + l) % 18446744073709551616 = l := by omega
  rw [e1, e2]
theorem Wd_of {h l : Int} (hh : Word h) (hl : Word l) : Wd (h * 18446744073709551616 + l) := by
  obtain ⟨a, b⟩ := hh; obtain ⟨c, d⟩ := hl
  exact ⟨by omega, by rw [B128_eq]; omega⟩
theorem WV_inj {v v' : Int} (h : WV v = WV v') : v = v' := by
  unfold WV at h
  simp at h
  omega

theorem mul_V (x y : Int) (hx : Word x) (hy : Word y) : Pure Try.prog 31 #[u x, u y] (WV (x * y)) := mul_any x y hx hy
theorem cmp_V (a b : Int) : Pure Try.prog 32 #[WV a, WV b] (.int .i64 (cmpI a b)) := wcmp_any a b

end Go.Proofs.Ytmiifcenmkpkiaa
