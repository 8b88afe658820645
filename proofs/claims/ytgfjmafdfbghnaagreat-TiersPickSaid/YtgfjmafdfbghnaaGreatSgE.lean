/- Texts laid together: Shelf,Wide1,DivM,Div,Times,Rat1,Wide2. -/
import Derived.Test.YtgfjmafdfbghnaaGreatProg
import Derived.Test.YtgfjmafdfbghnaaGreatRows
import Derived.Test.YtgfjmafdfbghnaaGreatSgA
import Derived.Below
import Derived.BigQuiet
import Derived.Deep.CutBlock
import Derived.Deep.DeepCutAuto
import Derived.Deep.DeepFit
import Derived.Deep.QuietTactic
import Derived.Deep.RegionHeld3
import Derived.IntWalk
import Derived.Laws.Bits64b
import Derived.Lib.BitFns
import Derived.Lib.Hide
import Derived.Outline
import Derived.ProofKit
import Derived.Shelf.Bits.Mul64
import Derived.Shelf.Small.Bits
import Derived.Shelf.Spec.BitsCarry
import Derived.Shelf.Strconv.Itoa0
import Derived.StillTactics
import Derived.WalkKit
import Derived.WalkSpells
namespace Go.Proofs.YtgfjmafdfbghnaaGreat
section
open Go.Proofs
open Go.Shelf
def Tryz.lays264_ren : Go.Shelf.Ren := ⟨fun | 264 => 100 | n => n, fun | 53 => 92 | 46 => 126 | n => n, fun | n => n⟩
theorem Tryz.lays264 : Go.Proofs.Lays.n264 Tryz.prog Tryz.lays264_ren := {
  mixed := by kernel_rfl
  f264 := Tryz.func100.trans (congrArg some (by kernel_rfl))
  t46 := Tryz.underlying126
  a46 := Tryz.isAgg126
  z46 := Tryz.sizeOf126
  v46 := Tryz.zeroValue126
  t53 := Tryz.underlying92
  a53 := Tryz.isAgg92
  z53 := Tryz.sizeOf92
  v53 := Tryz.zeroValue92 }
open Go.RowKit Go.Lib in
theorem Tryz.bits_Mul64 (x y : Nat) (hx : x < 18446744073709551616) (hy : y < 18446744073709551616) (w : World) :
    Calls Tryz.prog 100 #[.int .u64 x, .int .u64 y] w fun e w' => e = .returned (.tuple #[.int .u64 ((x * y / 18446744073709551616 : Nat) : Int), .int .u64 ((x * y % 18446744073709551616 : Nat) : Int)]) ∧ w' = w := Any.bits_Mul64 Tryz.lays264 x y hx hy w

def Tryz.lays25_ren : Go.Shelf.Ren := ⟨fun | 25 => 101 | n => n, fun | 22 => 92 | n => n, fun | n => n⟩
theorem Tryz.lays25 : Go.Proofs.Lays7.n25 Tryz.prog Tryz.lays25_ren := {
  mixed := by kernel_rfl
  f25 := Tryz.func101.trans (congrArg some (by kernel_rfl))
  t22 := Tryz.underlying92
  a22 := Tryz.isAgg92
  z22 := Tryz.sizeOf92
  v22 := Tryz.zeroValue92
  i22 := by kernel_rfl }
/-- math/bits.Add64, over Int. -/
theorem Tryz.bits_Add64 (x y c : Int) (hx : 0 ≤ x) (hy : 0 ≤ y) (hc0 : 0 ≤ c) (hc : c ≤ 1) (w : World) : (callFunc 101 #[.int .u64 x, .int .u64 y, .int .u64 c]).run Tryz.prog w =
    .ok (.value (.tuple #[.int .u64 ((x + y + c) % 18446744073709551616), .int .u64 ((x + y + c) / 18446744073709551616)])) w := by
  obtain ⟨x, rfl⟩ := Int.eq_ofNat_of_zero_le hx
  obtain ⟨y, rfl⟩ := Int.eq_ofNat_of_zero_le hy
  obtain ⟨c, rfl⟩ := Int.eq_ofNat_of_zero_le hc0
  have e1 : (((x + y + c) % 18446744073709551616 : Nat) : Int) = ((x : Int) + y + c) % 18446744073709551616 := by omega
  have e2 : (((x + y + c) / 18446744073709551616 : Nat) : Int) = ((x : Int) + y + c) / 18446744073709551616 := by omega
  rw [← e1, ← e2]
  exact Any7.bits_Add64 Tryz.lays25 x y c (by omega) w
/-- The borrow, under a name. -/
def bor (x y : Int) : Int := if x < y then 1 else 0
theorem bor_01 (x y : Int) : 0 ≤ bor x y ∧ bor x y ≤ 1 := by unfold bor; split <;> omega
theorem Tryz.bits_Add64_0 (x y : Int) (hx : 0 ≤ x) (hy : 0 ≤ y) (w : World) : (callFunc 101 #[.int .u64 x, .int .u64 y, .int .u64 0]).run Tryz.prog w =
    .ok (.value (.tuple #[.int .u64 ((x + y) % 18446744073709551616), .int .u64 ((x + y) / 18446744073709551616)])) w := by
  simpa using Tryz.bits_Add64 x y 0 hx hy (Int.le_refl 0) (by decide) w
/-- math/bits.Mul64, over Int. -/
theorem Tryz.bits_Mul64I (x y : Int) (hx : 0 ≤ x) (hx' : x < 18446744073709551616) (hy : 0 ≤ y) (hy' : y < 18446744073709551616) (w : World) :
    Calls Tryz.prog 100 #[.int .u64 x, .int .u64 y] w fun e w' => e = .returned (.tuple #[.int .u64 (x * y / 18446744073709551616), .int .u64 (x * y % 18446744073709551616)]) ∧ w = w' := by
  obtain ⟨x, rfl⟩ := Int.eq_ofNat_of_zero_le hx
  obtain ⟨y, rfl⟩ := Int.eq_ofNat_of_zero_le hy
  refine (Tryz.bits_Mul64 x y (by omega) (by omega) w).mono ?_
  rintro e w' ⟨rfl, rfl⟩
  refine ⟨?_, rfl⟩
  simp
end
section
open Go.RowKit

/-- A word of 64 bits. -/
def Word (x : Int) : Prop := 0 ≤ x ∧ x < 18446744073709551616
theorem word_mod (x : Int) : Word (x % 18446744073709551616) := ⟨by omega, by omega⟩
theorem word_0 : Word 0 := ⟨by omega, by omega⟩
theorem mul_bd {x y : Int} (hx : Word x) (hy : Word y) : 0 ≤ x * y ∧ x * y ≤ 340282366920938463426481119284349108225 := by
  obtain ⟨a, b⟩ := hx; obtain ⟨c, d⟩ := hy
  refine ⟨Int.mul_nonneg a c, ?_⟩
  have := Int.mul_le_mul (show x ≤ 18446744073709551615 by omega) (show y ≤ 18446744073709551615 by omega) c (by omega)
  omega
theorem word_mulhi {x y : Int} (hx : Word x) (hy : Word y) : Word (x * y / 18446744073709551616) := by
  obtain ⟨a, b⟩ := mul_bd hx hy
  exact ⟨by omega, by omega⟩

abbrev u (x : Int) : Value := .int .u64 x
/-- A wide number as a value. -/
abbrev W2 (h l : Int) : Value := .agg #[.int .u64 h, .int .u64 l]

theorem mul_any (x y : Int) (hx : Word x) (hy : Word y) : Pure Tryz.prog 69 #[u x, u y] (W2 (x * y / 18446744073709551616) (x * y % 18446744073709551616)) := by
  obtain ⟨a, b⟩ := hx; obtain ⟨c, d⟩ := hy
  intro w
  go_enter Tryz.func69, Tryz.ntmps69
  go_wp2_with (go_at_call 100; refine (Tryz.bits_Mul64I _ _ a b c d _).mono ?_; rintro e w' ⟨rfl, rfl⟩)
  refine bodyPost_ret (v := W2 (x * y / 18446744073709551616) (x * y % 18446744073709551616)) (by simp [results, Tryz.results69, go_sem]) rfl ⟨rfl, ?_⟩
  exact (Below.refl _ _).alloc (Nat.le_refl _) _

theorem cmp_lt (ah al bh bl : Int) (h : ah < bh ∨ ah = bh ∧ al < bl) : Pure Tryz.prog 45 #[W2 ah al, W2 bh bl] (.int .i64 (-1)) := by
  intro w
  rcases h with h | ⟨rfl, h⟩
  · have e : (ah == bh) = false := by simp; omega
    go_enter Tryz.func45, Tryz.ntmps45
    go_wp2
    go_ret
    exact ⟨rfl, ba (ba (Below.refl _ _) _) _⟩
  · have e : (al == bl) = false := by simp; omega
    go_enter Tryz.func45, Tryz.ntmps45
    go_wp2
    go_ret
    exact ⟨rfl, ba (ba (Below.refl _ _) _) _⟩
theorem cmp_eq (ah al : Int) : Pure Tryz.prog 45 #[W2 ah al, W2 ah al] (.int .i64 0) := by
  intro w
  go_enter Tryz.func45, Tryz.ntmps45
  go_wp2
  go_ret
  exact ⟨rfl, ba (ba (Below.refl _ _) _) _⟩
theorem cmp_gt (ah al bh bl : Int) (h : bh < ah ∨ ah = bh ∧ bl < al) : Pure Tryz.prog 45 #[W2 ah al, W2 bh bl] (.int .i64 1) := by
  intro w
  rcases h with h | ⟨rfl, h⟩
  · have e : (ah == bh) = false := by simp; omega
    have e1 : ¬ ah < bh := by omega
    go_enter Tryz.func45, Tryz.ntmps45
    go_wp2
    go_ret
    exact ⟨rfl, ba (ba (Below.refl _ _) _) _⟩
  · have e : (al == bl) = false := by simp; omega
    have e1 : ¬ al < bl := by omega
    go_enter Tryz.func45, Tryz.ntmps45
    go_wp2
    go_ret
    exact ⟨rfl, ba (ba (Below.refl _ _) _) _⟩
end
end Go.Proofs.YtgfjmafdfbghnaaGreat
namespace Go.Proofs.YtgfjmafdfbghnaaGreat.DivM

/-- What a step of the long division seeks: the quotient Q of u * 2^32 + d by Y = y1 * 2^32 + y0. -/
structure Step (u d y1 y0 Q : Int) : Prop where
  u0 : 0 ≤ u
  uY : u < y1 * 4294967296 + y0
  d0 : 0 ≤ d
  d1 : d < 4294967296
  y1l : 2147483648 ≤ y1
  y1h : y1 < 4294967296
  y0l : 0 ≤ y0
  y0h : y0 < 4294967296
  lo : Q * (y1 * 4294967296 + y0) ≤ u * 4294967296 + d
  hi : u * 4294967296 + d < Q * (y1 * 4294967296 + y0) + (y1 * 4294967296 + y0)

theorem Step.mk' (u d y1 y0 : Int) (u0 : 0 ≤ u) (uY : u < y1 * 4294967296 + y0) (d0 : 0 ≤ d) (d1 : d < 4294967296) (y1l : 2147483648 ≤ y1) (y1h : y1 < 4294967296) (y0l : 0 ≤ y0) (y0h : y0 < 4294967296) :
    Step u d y1 y0 ((u * 4294967296 + d) / (y1 * 4294967296 + y0)) := by
  have hY : 0 < y1 * 4294967296 + y0 := by omega
  have e := Int.mul_ediv_add_emod (u * 4294967296 + d) (y1 * 4294967296 + y0)
  have m0 := Int.emod_nonneg (u * 4294967296 + d) (show y1 * 4294967296 + y0 ≠ 0 by omega)
  have m1 := Int.emod_lt_of_pos (u * 4294967296 + d) hY
  rw [Int.mul_comm] at e
  exact ⟨u0, uY, d0, d1, y1l, y1h, y0l, y0h, by omega, by omega⟩

theorem Step.Qb {u d y1 y0 Q : Int} (h : Step u d y1 y0 Q) : 0 ≤ Q ∧ Q < 4294967296 := by
  obtain ⟨u0, uY, d0, d1, y1l, y1h, y0l, y0h, lo, hi⟩ := h
  generalize hY : y1 * 4294967296 + y0 = Y at *
  constructor
  · rcases Int.lt_or_le Q 0 with h' | h'
    · have := Int.mul_le_mul_of_nonneg_right (show Q ≤ -1 by omega) (show 0 ≤ Y by omega)
      omega
    · exact h'
  · rcases Int.lt_or_le Q 4294967296 with h' | h'
    · exact h'
    · have := Int.mul_le_mul_of_nonneg_right h' (show 0 ≤ Y by omega)
      omega

/-- The loop's state: a guess that is not too small. -/
structure Guess (u y1 Q q r : Int) : Prop where
  sum : q * y1 + r = u
  ge : Q ≤ q
  le : q ≤ 4294967297
  r0 : 0 ≤ r
  r1 : r < 4294967296

theorem Guess.prod {u y1 y0 q r : Int} (g : q * y1 + r = u) : q * (y1 * 4294967296 + y0) = (u - r) * 4294967296 + q * y0 := by
  rw [Int.mul_add, ← Int.mul_assoc]
  have : q * y1 = u - r := by omega
  rw [this]

theorem Guess.first {u d y1 y0 Q : Int} (h : Step u d y1 y0 Q) : Guess u y1 Q (u / y1) (u - u / y1 * y1) ∧ u - u / y1 * y1 = u % y1 ∧ 0 ≤ u / y1 * y1 ∧ u / y1 * y1 ≤ u := by
  have hQ := h.Qb
  obtain ⟨u0, uY, d0, d1, y1l, y1h, y0l, y0h, lo, hi⟩ := h
  have e := Int.mul_ediv_add_emod u y1
  rw [Int.mul_comm] at e
  have m0 := Int.emod_nonneg u (show y1 ≠ 0 by omega)
  have m1 := Int.emod_lt_of_pos u (show 0 < y1 by omega)
  have q0 := Int.ediv_nonneg u0 (show 0 ≤ y1 by omega)
  have qle : u / y1 ≤ 4294967297 := by
    have : u / y1 < 4294967298 := by
      apply Int.ediv_lt_of_lt_mul (by omega)
      omega
    omega
  generalize u / y1 = q at *
  generalize hr : u % y1 = r at *
  have hp := Guess.prod (y0 := y0) e
  generalize ht : q * y1 = t at *
  refine ⟨⟨by omega, ?_, qle, by omega, by omega⟩, by omega, ?_, by omega⟩
  · rcases Int.lt_or_le q Q with h' | h'
    · have h2 := Int.mul_le_mul_of_nonneg_right (show q + 1 ≤ Q by omega) (show 0 ≤ y1 * 4294967296 + y0 by omega)
      have h3 := Int.mul_nonneg q0 y0l
      rw [Int.add_mul, hp] at h2
      omega
    · exact h'
  · rw [← ht]; exact Int.mul_nonneg q0 (by omega)

/-- The guess is right. -/
theorem Guess.done {u d y1 y0 Q q r : Int} (h : Step u d y1 y0 Q) (g : Guess u y1 Q q r) (hc : q * y0 ≤ 4294967296 * r + d) : q = Q := by
  obtain ⟨u0, uY, d0, d1, y1l, y1h, y0l, y0h, lo, hi⟩ := h
  have hp := Guess.prod (y0 := y0) g.sum
  have := g.ge
  rcases Int.lt_or_le Q q with h' | h'
  · have h2 := Int.mul_le_mul_of_nonneg_right (show Q + 1 ≤ q by omega) (show 0 ≤ y1 * 4294967296 + y0 by omega)
    rw [Int.add_mul, hp] at h2
    omega
  · omega

theorem Guess.next {u d y1 y0 Q q r : Int} (h : Step u d y1 y0 Q) (g : Guess u y1 Q q r) (hc : 4294967296 ≤ q ∨ 4294967296 * r + d < q * y0) :
    Q ≤ q - 1 ∧ 1 ≤ q ∧ (q - 1) * y1 + (r + y1) = u ∧ (r + y1 < 4294967296 → Guess u y1 Q (q - 1) (r + y1)) ∧ (4294967296 ≤ r + y1 → q - 1 = Q) := by
  have hQ := h.Qb
  have h0 := h
  obtain ⟨u0, uY, d0, d1, y1l, y1h, y0l, y0h, lo, hi⟩ := h
  have hp := Guess.prod (y0 := y0) g.sum
  have gg := g.ge
  have gl := g.le
  have gr := g.r0
  have gs := g.sum
  have hlt : Q < q := by
    rcases hc with hc | hc
    · omega
    · rcases Int.lt_or_le Q q with h' | h'
      · exact h'
      · have h2 := Int.mul_le_mul_of_nonneg_right h' (show 0 ≤ y1 * 4294967296 + y0 by omega)
        rw [hp] at h2
        omega
  have e : (q - 1) * y1 + (r + y1) = u := by rw [Int.sub_mul]; omega
  refine ⟨by omega, by omega, e, fun h' => ⟨e, by omega, by omega, by omega, h'⟩, fun h' => ?_⟩
  have hp1 := Guess.prod (y0 := y0) e
  have h3 : (q - 1) * y0 ≤ 4294967296 * 4294967295 := by
    have := Int.mul_le_mul_of_nonneg_right (show q - 1 ≤ 4294967296 by omega) y0l
    omega
  rcases Int.lt_or_le Q (q - 1) with h' | h'
  · have h2 := Int.mul_le_mul_of_nonneg_right (show Q + 1 ≤ q - 1 by omega) (show 0 ≤ y1 * 4294967296 + y0 by omega)
    rw [Int.add_mul, hp1] at h2
    omega
  · omega

theorem bitLen_pos (f : Nat) : ∀ x : Nat, 0 < x → x < 2 ^ f → 1 ≤ Lib.bitLenAux f x ∧ 2 ^ (Lib.bitLenAux f x - 1) ≤ x ∧ x < 2 ^ Lib.bitLenAux f x := by
  induction f with
  | zero => intro x h1 h2; simp at h2; omega
  | succ f ih =>
    intro x h1 h2
    simp only [Lib.bitLenAux]
    rw [if_neg (by omega)]
    by_cases hx : x / 2 = 0
    · have : x = 1 := by omega
      subst this
      have e : Lib.bitLenAux f (1 / 2) = 0 := by cases f <;> simp [Lib.bitLenAux]
      rw [e]; simp
    · obtain ⟨a, b, c⟩ := ih (x / 2) (by omega) (by rw [Nat.pow_succ] at h2; omega)
      generalize Lib.bitLenAux f (x / 2) = k at *
      obtain ⟨j, rfl⟩ : ∃ j, k = j + 1 := ⟨k - 1, by omega⟩
      simp only [Nat.add_sub_cancel] at b
      have e1 : 1 + (j + 1) - 1 = j + 1 := by omega
      have e2 : 1 + (j + 1) = j + 1 + 1 := by omega
      rw [e1, e2, Nat.pow_succ, Nat.pow_succ]
      rw [Nat.pow_succ] at c
      omega

/-- How far a divisor is moved up. -/
theorem lead (y : Int) (h0 : 0 < y) (h1 : y < 18446744073709551616) : ∃ s : Nat, s ≤ 63 ∧ (64 - (Lib.bitLen y.toNat : Int)) = (s : Int) ∧ 9223372036854775808 ≤ y * 2 ^ s ∧ y * 2 ^ s < 18446744073709551616 := by
  obtain ⟨y, rfl⟩ := Int.eq_ofNat_of_zero_le (Int.le_of_lt h0)
  rw [Int.toNat_natCast]
  obtain ⟨a, b, c⟩ := bitLen_pos 64 y (by omega) (by omega)
  have d : Lib.bitLenAux 64 y ≤ 64 := Lib.bitLenAux_le 64 y 64 (by omega)
  unfold Lib.bitLen
  generalize Lib.bitLenAux 64 y = k at *
  refine ⟨64 - k, by omega, by omega, ?_, ?_⟩
  · have h := Nat.mul_le_mul_right (2 ^ (64 - k)) b
    rw [← Nat.pow_add] at h
    have e : k - 1 + (64 - k) = 63 := by omega
    rw [e] at h
    have h' : ((2 ^ 63 : Nat) : Int) ≤ ((y * 2 ^ (64 - k) : Nat) : Int) := by exact_mod_cast h
    simpa using h'
  · have h := Nat.mul_lt_mul_of_pos_right c (Nat.two_pow_pos (64 - k))
    rw [← Nat.pow_add] at h
    have e : k + (64 - k) = 64 := by omega
    rw [e] at h
    have h' : ((y * 2 ^ (64 - k) : Nat) : Int) < ((2 ^ 64 : Nat) : Int) := by exact_mod_cast h
    simpa using h'

theorem pow_split (s : Nat) (hs : s ≤ 63) : (2 : Int) ^ (64 - s) * 2 ^ s = 18446744073709551616 ∧ 1 ≤ (2 : Int) ^ s ∧ 1 ≤ (2 : Int) ^ (64 - s) := by
  have p1 : (0 : Int) < 2 ^ s := Int.pow_pos (by decide)
  have p2 : (0 : Int) < 2 ^ (64 - s) := Int.pow_pos (by decide)
  refine ⟨?_, by omega, by omega⟩
  rw [← Int.pow_add]
  have e : 64 - s + s = 64 := by omega
  rw [e]; rfl

/-- An 'or' of what does not overlap is a sum. -/
theorem or_sum (a b : Int) (s : Nat) (ha : 0 ≤ a) (hb : 0 ≤ b) (hb' : b < 2 ^ s) (hab : a * 2 ^ s + b < 18446744073709551616) : bits .or .u64 (a * 2 ^ s) b = a * 2 ^ s + b := by
  obtain ⟨a, rfl⟩ := Int.eq_ofNat_of_zero_le ha
  obtain ⟨b, rfl⟩ := Int.eq_ofNat_of_zero_le hb
  have e : ((a : Int) * 2 ^ s) = ((2 ^ s * a : Nat) : Int) := by
    rw [Nat.mul_comm, Int.natCast_mul, Int.natCast_pow]; rfl
  have hlt : b < 2 ^ s := by
    have : (b : Int) < ((2 ^ s : Nat) : Int) := by rw [Int.natCast_pow]; exact hb'
    exact_mod_cast this
  rw [e] at hab ⊢
  rw [bits_or_u64_nat _ _ (by omega) (by omega), ← Nat.two_pow_add_eq_or_of_lt hlt, Int.natCast_add]
end Go.Proofs.YtgfjmafdfbghnaaGreat.DivM
namespace Go.Proofs.YtgfjmafdfbghnaaGreat
section
open Go.RowKit DivM

set_option linter.unusedVariables false
theorem wrap_mod (x : Int) : IntKind.u64.wrap x = x % 18446744073709551616 := by rw [IntKind.wrap_u64]
theorem mask32 (x : Int) (h0 : 0 ≤ x) (h1 : x < 18446744073709551616) : bits .and .u64 x 4294967295 = x % 4294967296 := by
  obtain ⟨x, rfl⟩ := Int.eq_ofNat_of_zero_le h0
  rw [Mul64.maskN x (by omega)]; omega

end
section
open Go.RowKit
attribute [local go_sem] ext_cell ext_frozen Mix.calmUpon Mix.mUpon
set_option maxRecDepth 100000 in
set_option maxHeartbeats 4000000 in
theorem times_core (ah al b p1 p0 q1 q0 : Int) (hm1 : Pure Tryz.prog 69 #[u al, u b] (W2 p1 p0)) (hm2 : Pure Tryz.prog 69 #[u ah, u b] (W2 q1 q0)) (k1 : 0 ≤ p1) (k2 : 0 ≤ q0) :
    Pure Tryz.prog 70 #[W2 ah al, u b] (.tuple #[W2 ((p1 + q0) % 18446744073709551616) p0, .bool ((q1 == 0) && ((p1 + q0) / 18446744073709551616 == 0))]) := by
  intro w
  have M1 := Lib.hid hm1; have M2 := Lib.hid hm2
  clear hm1 hm2
  by_cases hq : q1 = 0
  · subst hq
    go_enter Tryz.func70, Tryz.ntmps70
    go_wp2_with fail
    refine Mix.region0 (by kernel_rfl) ?_
    intro w1 hb1
    have hs1 : w.heap.size + 2 ≤ w1.heap.size := (by have h := hb1.size; first | omega | (simp at h; omega))
    have hz1_0 : w.heap.size < w1.heap.size := (by omega)
    have hz1_1 : w.heap.size + 1 < w1.heap.size := (by omega)
    obtain ⟨hc1, hf1, hl1⟩ := bcell hb1
    clear hl1
    refine Mix.take_ex (_) 0 rfl (by kernel_rfl) (by kernel_rfl) (by kernel_rfl) (by kernel_rfl) (fun K hK => ?_)
    go_simp
    first | (refine hK _ ?_; clear hK K) | (apply Exists.intro; refine ⟨fun x => ?_, hK _ ?_⟩; ((first | (go_at_call 69; with_reducible exact M1.out _) | (go_at_call 69; with_reducible exact M2.out _))); clear hK K)
    refine Mix.take_ex (_) 1 rfl (by kernel_rfl) (by kernel_rfl) (by kernel_rfl) (by kernel_rfl) (fun K hK => ?_)
    go_simp
    first | (refine hK _ ?_; clear hK K) | (apply Exists.intro; refine ⟨fun x => ?_, hK _ ?_⟩; ((first | (go_at_call 69; with_reducible exact M1.out _) | (go_at_call 69; with_reducible exact M2.out _))); clear hK K)
    refine Mix.take_ex (_) 2 rfl (by kernel_rfl) (by kernel_rfl) (by kernel_rfl) (by kernel_rfl) (fun K hK => ?_)
    go_simp
    first | (refine hK _ ?_; clear hK K) | (apply Exists.intro; refine ⟨fun x => ?_, hK _ ?_⟩; ((first | (go_at_call 69; with_reducible exact M1.out _) | (go_at_call 69; with_reducible exact M2.out _))); clear hK K)
    refine Mix.take_ex (_) 3 rfl (by kernel_rfl) (by kernel_rfl) (by kernel_rfl) (by kernel_rfl) (fun K hK => ?_)
    go_simp
    first | (refine hK _ ?_; clear hK K) | (apply Exists.intro; refine ⟨fun x => ?_, hK _ ?_⟩; ((first | (go_at_call 69; with_reducible exact M1.out _) | (go_at_call 69; with_reducible exact M2.out _))); clear hK K)
    refine Mix.take_ex (_) 4 rfl (by kernel_rfl) (by kernel_rfl) (by kernel_rfl) (by kernel_rfl) (fun K hK => ?_)
    go_simp
    first | (refine hK _ ?_; clear hK K) | (apply Exists.intro; refine ⟨fun x => ?_, hK _ ?_⟩; ((first | (go_at_call 69; with_reducible exact M1.out _) | (go_at_call 69; with_reducible exact M2.out _))); clear hK K)
    refine Mix.take_ex (_) 5 rfl (by kernel_rfl) (by kernel_rfl) (by kernel_rfl) (by kernel_rfl) (fun K hK => ?_)
    go_simp
    first | (refine hK _ ?_; clear hK K) | (apply Exists.intro; refine ⟨fun x => ?_, hK _ ?_⟩; ((first | (go_at_call 69; with_reducible exact M1.out _) | (go_at_call 69; with_reducible exact M2.out _))); clear hK K)
    refine Mix.take_ex (_) 6 rfl (by kernel_rfl) (by kernel_rfl) (by kernel_rfl) (by kernel_rfl) (fun K hK => ?_)
    go_simp
    first | (refine hK _ ?_; clear hK K) | (apply Exists.intro; refine ⟨fun x => ?_, hK _ ?_⟩; ((first | (go_at_call 69; with_reducible exact M1.out _) | (go_at_call 69; with_reducible exact M2.out _))); clear hK K)
    refine Mix.take_ex (_) 7 rfl (by kernel_rfl) (by kernel_rfl) (by kernel_rfl) (by kernel_rfl) (fun K hK => ?_)
    go_simp
    first | (refine hK _ ?_; clear hK K) | (apply Exists.intro; refine ⟨fun x => ?_, hK _ ?_⟩; ((first | (go_at_call 69; with_reducible exact M1.out _) | (go_at_call 69; with_reducible exact M2.out _))); clear hK K)
    refine Mix.all (rs := [8, 9]) (by kernel_rfl) (by simp) (Mix.over_of hb1) ?_
    intro i hi w2 hb2 hC2
    have hs2 : w1.heap.size + 0 ≤ w2.heap.size := (by have h := hb2.size; first | omega | (simp at h; omega))
    have hb1_2 := bel hb1 hb2 (by (repeat (first | assumption | exact Below.refl _ _ | refine ba ?_ _ | refine bd ?_ | refine bdn ?_ _ | refine bs ?_ (by first | omega | (simp; done) | (simp; omega)) _ | refine bt ?_ (by assumption))))
    clear hz1_0 hz1_1 hc1 hf1
    obtain ⟨hc1_2, hf1_2, hl1_2⟩ := bcell hb1_2
    clear hl1_2
    have hz2_0 : w.heap.size < w2.heap.size := (by omega)
    have hz2_1 : w.heap.size + 1 < w2.heap.size := (by omega)
    obtain ⟨hc2, hf2, hl2⟩ := bcell hb2
    clear hl2
    simp only [List.mem_cons, List.not_mem_nil, or_false] at hi
    rcases hi with rfl | rfl
    · refine Mix.op rfl (by kernel_rfl) ?_
      go_simp
      refine Mix.all (rs := [9]) (by kernel_rfl) (by simp) (Mix.over_of (by (repeat (first | assumption | exact Below.refl _ _ | refine ba ?_ _ | refine bd ?_ | refine bdn ?_ _ | refine bs ?_ (by first | omega | (simp; done) | (simp; omega)) _ | refine bt ?_ (by assumption))))) ?_
      intro i3 hi3 w3 hb3 hC3
      clear hC3
      have hs3 : w2.heap.size + 1 ≤ w3.heap.size := (by have h := hb3.size; first | omega | (simp at h; omega))
      have hb1_3 := bel hb1_2 hb3 (by (repeat (first | assumption | exact Below.refl _ _ | refine ba ?_ _ | refine bd ?_ | refine bdn ?_ _ | refine bs ?_ (by first | omega | (simp; done) | (simp; omega)) _ | refine bt ?_ (by assumption))))
      have hb2_3 := bel hb2 hb3 (by (repeat (first | assumption | exact Below.refl _ _ | refine ba ?_ _ | refine bd ?_ | refine bdn ?_ _ | refine bs ?_ (by first | omega | (simp; done) | (simp; omega)) _ | refine bt ?_ (by assumption))))
      clear hc1_2 hf1_2 hz2_0 hz2_1 hc2 hf2
      obtain ⟨hc1_3, hf1_3, hl1_3⟩ := bcell hb1_3
      clear hl1_3
      have hz3_0 : w.heap.size < w3.heap.size := (by omega)
      have hz3_1 : w.heap.size + 1 < w3.heap.size := (by omega)
      have hz3_2 : w2.heap.size < w3.heap.size := (by omega)
      obtain ⟨hc3, hf3, hl3⟩ := bcell hb3
      clear hl3
      simp only [List.mem_cons, List.not_mem_nil, or_false] at hi3
      subst hi3
      refine Mix.op rfl (by kernel_rfl) ?_
      go_simp
      refine Mix.all (rs := [10]) (by kernel_rfl) (by simp) (Mix.over_of (by (repeat (first | assumption | exact Below.refl _ _ | refine ba ?_ _ | refine bd ?_ | refine bdn ?_ _ | refine bs ?_ (by first | omega | (simp; done) | (simp; omega)) _ | refine bt ?_ (by assumption))))) ?_
      intro i4 hi4 w4 hb4 hC4
      clear hC4
      have hs4 : w3.heap.size + 1 ≤ w4.heap.size := (by have h := hb4.size; first | omega | (simp at h; omega))
      have hb1_4 := bel hb1_3 hb4 (by (repeat (first | assumption | exact Below.refl _ _ | refine ba ?_ _ | refine bd ?_ | refine bdn ?_ _ | refine bs ?_ (by first | omega | (simp; done) | (simp; omega)) _ | refine bt ?_ (by assumption))))
      have hb2_4 := bel hb2_3 hb4 (by (repeat (first | assumption | exact Below.refl _ _ | refine ba ?_ _ | refine bd ?_ | refine bdn ?_ _ | refine bs ?_ (by first | omega | (simp; done) | (simp; omega)) _ | refine bt ?_ (by assumption))))
      have hb3_4 := bel hb3 hb4 (by (repeat (first | assumption | exact Below.refl _ _ | refine ba ?_ _ | refine bd ?_ | refine bdn ?_ _ | refine bs ?_ (by first | omega | (simp; done) | (simp; omega)) _ | refine bt ?_ (by assumption))))
      clear hc1_3 hf1_3 hz3_0 hz3_1 hz3_2 hc3 hf3
      obtain ⟨hc1_4, hf1_4, hl1_4⟩ := bcell hb1_4
      clear hl1_4
      obtain ⟨hc3_4, hf3_4, hl3_4⟩ := bcell hb3_4
      clear hl3_4
      have hz4_0 : w.heap.size < w4.heap.size := (by omega)
      have hz4_1 : w.heap.size + 1 < w4.heap.size := (by omega)
      have hz4_2 : w2.heap.size < w4.heap.size := (by omega)
      have hz4_3 : w3.heap.size < w4.heap.size := (by omega)
      obtain ⟨hc4, hf4, hl4⟩ := bcell hb4
      clear hl4
      simp only [List.mem_cons, List.not_mem_nil, or_false] at hi4
      subst hi4
      refine Mix.op rfl (by kernel_rfl) ?_
      go_simp
      refine Mix.all (rs := [11]) (by kernel_rfl) (by simp) (Mix.over_of (by (repeat (first | assumption | exact Below.refl _ _ | refine ba ?_ _ | refine bd ?_ | refine bdn ?_ _ | refine bs ?_ (by first | omega | (simp; done) | (simp; omega)) _ | refine bt ?_ (by assumption))))) ?_
      intro i5 hi5 w5 hb5 hC5
      clear hC5
      have hs5 : w4.heap.size + 0 ≤ w5.heap.size := (by have h := hb5.size; first | omega | (simp at h; omega))
      have hz5_0 : w.heap.size < w5.heap.size := (by omega)
      have hz5_1 : w.heap.size + 1 < w5.heap.size := (by omega)
      have hz5_2 : w2.heap.size < w5.heap.size := (by omega)
      have hz5_3 : w3.heap.size < w5.heap.size := (by omega)
      have hy5_0_0 : w.heap.size ≤ w4.heap.size := (by omega)
      have hy5_1_0 : w.heap.size + 1 ≤ w4.heap.size := (by omega)
      have hy5_2_0 : w2.heap.size ≤ w4.heap.size := (by omega)
      have hy5_3_0 : w3.heap.size ≤ w4.heap.size := (by omega)
      obtain ⟨hc5, hf5, hl5⟩ := bcell hb5
      clear hl5
      simp only [List.mem_cons, List.not_mem_nil, or_false] at hi5
      subst hi5
      refine Mix.op rfl (by kernel_rfl) ?_
      go_simp
      refine Mix.done (by kernel_rfl) (Mix.over_of (by (repeat (first | assumption | exact Below.refl _ _ | refine ba ?_ _ | refine bd ?_ | refine bdn ?_ _ | refine bs ?_ (by first | omega | (simp; done) | (simp; omega)) _ | refine bt ?_ (by assumption))))) ?_
      intro w6 hb6
      have hs6 : w5.heap.size + 0 ≤ w6.heap.size := (by have h := hb6.size; first | omega | (simp at h; omega))
      have hz6_0 : w.heap.size < w6.heap.size := (by omega)
      have hz6_1 : w.heap.size + 1 < w6.heap.size := (by omega)
      have hz6_2 : w2.heap.size < w6.heap.size := (by omega)
      have hz6_3 : w3.heap.size < w6.heap.size := (by omega)
      have hy6_0_0 : w.heap.size ≤ w5.heap.size := (by omega)
      have hy6_1_0 : w.heap.size + 1 ≤ w5.heap.size := (by omega)
      have hy6_2_0 : w2.heap.size ≤ w5.heap.size := (by omega)
      have hy6_3_0 : w3.heap.size ≤ w5.heap.size := (by omega)
      obtain ⟨hc6, hf6, hl6⟩ := bcell hb6
      clear hl6
      go_wp2_with (first | simp only [Tryz.bits_Add64_0 _ _ k1 k2])
      refine bodyPost_ret (v := .tuple #[W2 ((p1 + q0) % 18446744073709551616) p0, .bool ((p1 + q0) / 18446744073709551616 == 0)]) (by simp [results, Tryz.results70, go_sem, *]) rfl ⟨by simp [*], ?_⟩
      (repeat (first | assumption | exact Below.refl _ _ | refine ba ?_ _ | refine bd ?_ | refine bdn ?_ _ | refine bs ?_ (by first | omega | (simp; done) | (simp; omega)) _ | refine bt ?_ (by assumption)))
    · refine Mix.op rfl (by kernel_rfl) ?_
      go_simp
      refine Mix.all (rs := [8]) (by kernel_rfl) (by simp) (Mix.over_of (by (repeat (first | assumption | exact Below.refl _ _ | refine ba ?_ _ | refine bd ?_ | refine bdn ?_ _ | refine bs ?_ (by first | omega | (simp; done) | (simp; omega)) _ | refine bt ?_ (by assumption))))) ?_
      intro i3 hi3 w3 hb3 hC3
      clear hC3
      have hs3 : w2.heap.size + 1 ≤ w3.heap.size := (by have h := hb3.size; first | omega | (simp at h; omega))
      have hb1_3 := bel hb1_2 hb3 (by (repeat (first | assumption | exact Below.refl _ _ | refine ba ?_ _ | refine bd ?_ | refine bdn ?_ _ | refine bs ?_ (by first | omega | (simp; done) | (simp; omega)) _ | refine bt ?_ (by assumption))))
      have hb2_3 := bel hb2 hb3 (by (repeat (first | assumption | exact Below.refl _ _ | refine ba ?_ _ | refine bd ?_ | refine bdn ?_ _ | refine bs ?_ (by first | omega | (simp; done) | (simp; omega)) _ | refine bt ?_ (by assumption))))
      clear hc1_2 hf1_2 hz2_0 hz2_1 hc2 hf2
      obtain ⟨hc1_3, hf1_3, hl1_3⟩ := bcell hb1_3
      clear hl1_3
      have hz3_0 : w.heap.size < w3.heap.size := (by omega)
      have hz3_1 : w.heap.size + 1 < w3.heap.size := (by omega)
      have hz3_2 : w2.heap.size < w3.heap.size := (by omega)
      obtain ⟨hc3, hf3, hl3⟩ := bcell hb3
      clear hl3
      simp only [List.mem_cons, List.not_mem_nil, or_false] at hi3
      subst hi3
      refine Mix.op rfl (by kernel_rfl) ?_
      go_simp
      refine Mix.all (rs := [10]) (by kernel_rfl) (by simp) (Mix.over_of (by (repeat (first | assumption | exact Below.refl _ _ | refine ba ?_ _ | refine bd ?_ | refine bdn ?_ _ | refine bs ?_ (by first | omega | (simp; done) | (simp; omega)) _ | refine bt ?_ (by assumption))))) ?_
      intro i4 hi4 w4 hb4 hC4
      clear hC4
      have hs4 : w3.heap.size + 1 ≤ w4.heap.size := (by have h := hb4.size; first | omega | (simp at h; omega))
      have hb1_4 := bel hb1_3 hb4 (by (repeat (first | assumption | exact Below.refl _ _ | refine ba ?_ _ | refine bd ?_ | refine bdn ?_ _ | refine bs ?_ (by first | omega | (simp; done) | (simp; omega)) _ | refine bt ?_ (by assumption))))
      have hb2_4 := bel hb2_3 hb4 (by (repeat (first | assumption | exact Below.refl _ _ | refine ba ?_ _ | refine bd ?_ | refine bdn ?_ _ | refine bs ?_ (by first | omega | (simp; done) | (simp; omega)) _ | refine bt ?_ (by assumption))))
      have hb3_4 := bel hb3 hb4 (by (repeat (first | assumption | exact Below.refl _ _ | refine ba ?_ _ | refine bd ?_ | refine bdn ?_ _ | refine bs ?_ (by first | omega | (simp; done) | (simp; omega)) _ | refine bt ?_ (by assumption))))
      clear hc1_3 hf1_3 hz3_0 hz3_1 hz3_2 hc3 hf3
      obtain ⟨hc1_4, hf1_4, hl1_4⟩ := bcell hb1_4
      clear hl1_4
      obtain ⟨hc3_4, hf3_4, hl3_4⟩ := bcell hb3_4
      clear hl3_4
      have hz4_0 : w.heap.size < w4.heap.size := (by omega)
      have hz4_1 : w.heap.size + 1 < w4.heap.size := (by omega)
      have hz4_2 : w2.heap.size < w4.heap.size := (by omega)
      have hz4_3 : w3.heap.size < w4.heap.size := (by omega)
      obtain ⟨hc4, hf4, hl4⟩ := bcell hb4
      clear hl4
      simp only [List.mem_cons, List.not_mem_nil, or_false] at hi4
      subst hi4
      refine Mix.op rfl (by kernel_rfl) ?_
      go_simp
      refine Mix.all (rs := [11]) (by kernel_rfl) (by simp) (Mix.over_of (by (repeat (first | assumption | exact Below.refl _ _ | refine ba ?_ _ | refine bd ?_ | refine bdn ?_ _ | refine bs ?_ (by first | omega | (simp; done) | (simp; omega)) _ | refine bt ?_ (by assumption))))) ?_
      intro i5 hi5 w5 hb5 hC5
      clear hC5
      have hs5 : w4.heap.size + 0 ≤ w5.heap.size := (by have h := hb5.size; first | omega | (simp at h; omega))
      have hz5_0 : w.heap.size < w5.heap.size := (by omega)
      have hz5_1 : w.heap.size + 1 < w5.heap.size := (by omega)
      have hz5_2 : w2.heap.size < w5.heap.size := (by omega)
      have hz5_3 : w3.heap.size < w5.heap.size := (by omega)
      have hy5_0_0 : w.heap.size ≤ w4.heap.size := (by omega)
      have hy5_1_0 : w.heap.size + 1 ≤ w4.heap.size := (by omega)
      have hy5_2_0 : w2.heap.size ≤ w4.heap.size := (by omega)
      have hy5_3_0 : w3.heap.size ≤ w4.heap.size := (by omega)
      obtain ⟨hc5, hf5, hl5⟩ := bcell hb5
      clear hl5
      simp only [List.mem_cons, List.not_mem_nil, or_false] at hi5
      subst hi5
      refine Mix.op rfl (by kernel_rfl) ?_
      go_simp
      refine Mix.done (by kernel_rfl) (Mix.over_of (by (repeat (first | assumption | exact Below.refl _ _ | refine ba ?_ _ | refine bd ?_ | refine bdn ?_ _ | refine bs ?_ (by first | omega | (simp; done) | (simp; omega)) _ | refine bt ?_ (by assumption))))) ?_
      intro w6 hb6
      have hs6 : w5.heap.size + 0 ≤ w6.heap.size := (by have h := hb6.size; first | omega | (simp at h; omega))
      have hz6_0 : w.heap.size < w6.heap.size := (by omega)
      have hz6_1 : w.heap.size + 1 < w6.heap.size := (by omega)
      have hz6_2 : w2.heap.size < w6.heap.size := (by omega)
      have hz6_3 : w3.heap.size < w6.heap.size := (by omega)
      have hy6_0_0 : w.heap.size ≤ w5.heap.size := (by omega)
      have hy6_1_0 : w.heap.size + 1 ≤ w5.heap.size := (by omega)
      have hy6_2_0 : w2.heap.size ≤ w5.heap.size := (by omega)
      have hy6_3_0 : w3.heap.size ≤ w5.heap.size := (by omega)
      obtain ⟨hc6, hf6, hl6⟩ := bcell hb6
      clear hl6
      go_wp2_with (first | simp only [Tryz.bits_Add64_0 _ _ k1 k2])
      refine bodyPost_ret (v := .tuple #[W2 ((p1 + q0) % 18446744073709551616) p0, .bool ((p1 + q0) / 18446744073709551616 == 0)]) (by simp [results, Tryz.results70, go_sem, *]) rfl ⟨by simp [*], ?_⟩
      (repeat (first | assumption | exact Below.refl _ _ | refine ba ?_ _ | refine bd ?_ | refine bdn ?_ _ | refine bs ?_ (by first | omega | (simp; done) | (simp; omega)) _ | refine bt ?_ (by assumption)))
  · have hq' : (q1 == 0) = false := by simpa using hq
    clear hq
    go_enter Tryz.func70, Tryz.ntmps70
    go_wp2_with fail
    refine Mix.region0 (by kernel_rfl) ?_
    intro w1 hb1
    have hs1 : w.heap.size + 2 ≤ w1.heap.size := (by have h := hb1.size; first | omega | (simp at h; omega))
    have hz1_0 : w.heap.size < w1.heap.size := (by omega)
    have hz1_1 : w.heap.size + 1 < w1.heap.size := (by omega)
    obtain ⟨hc1, hf1, hl1⟩ := bcell hb1
    clear hl1
    refine Mix.take_ex (_) 0 rfl (by kernel_rfl) (by kernel_rfl) (by kernel_rfl) (by kernel_rfl) (fun K hK => ?_)
    go_simp
    first | (refine hK _ ?_; clear hK K) | (apply Exists.intro; refine ⟨fun x => ?_, hK _ ?_⟩; ((first | (go_at_call 69; with_reducible exact M1.out _) | (go_at_call 69; with_reducible exact M2.out _))); clear hK K)
    refine Mix.take_ex (_) 1 rfl (by kernel_rfl) (by kernel_rfl) (by kernel_rfl) (by kernel_rfl) (fun K hK => ?_)
    go_simp
    first | (refine hK _ ?_; clear hK K) | (apply Exists.intro; refine ⟨fun x => ?_, hK _ ?_⟩; ((first | (go_at_call 69; with_reducible exact M1.out _) | (go_at_call 69; with_reducible exact M2.out _))); clear hK K)
    refine Mix.take_ex (_) 2 rfl (by kernel_rfl) (by kernel_rfl) (by kernel_rfl) (by kernel_rfl) (fun K hK => ?_)
    go_simp
    first | (refine hK _ ?_; clear hK K) | (apply Exists.intro; refine ⟨fun x => ?_, hK _ ?_⟩; ((first | (go_at_call 69; with_reducible exact M1.out _) | (go_at_call 69; with_reducible exact M2.out _))); clear hK K)
    refine Mix.take_ex (_) 3 rfl (by kernel_rfl) (by kernel_rfl) (by kernel_rfl) (by kernel_rfl) (fun K hK => ?_)
    go_simp
    first | (refine hK _ ?_; clear hK K) | (apply Exists.intro; refine ⟨fun x => ?_, hK _ ?_⟩; ((first | (go_at_call 69; with_reducible exact M1.out _) | (go_at_call 69; with_reducible exact M2.out _))); clear hK K)
    refine Mix.take_ex (_) 4 rfl (by kernel_rfl) (by kernel_rfl) (by kernel_rfl) (by kernel_rfl) (fun K hK => ?_)
    go_simp
    first | (refine hK _ ?_; clear hK K) | (apply Exists.intro; refine ⟨fun x => ?_, hK _ ?_⟩; ((first | (go_at_call 69; with_reducible exact M1.out _) | (go_at_call 69; with_reducible exact M2.out _))); clear hK K)
    refine Mix.take_ex (_) 5 rfl (by kernel_rfl) (by kernel_rfl) (by kernel_rfl) (by kernel_rfl) (fun K hK => ?_)
    go_simp
    first | (refine hK _ ?_; clear hK K) | (apply Exists.intro; refine ⟨fun x => ?_, hK _ ?_⟩; ((first | (go_at_call 69; with_reducible exact M1.out _) | (go_at_call 69; with_reducible exact M2.out _))); clear hK K)
    refine Mix.take_ex (_) 6 rfl (by kernel_rfl) (by kernel_rfl) (by kernel_rfl) (by kernel_rfl) (fun K hK => ?_)
    go_simp
    first | (refine hK _ ?_; clear hK K) | (apply Exists.intro; refine ⟨fun x => ?_, hK _ ?_⟩; ((first | (go_at_call 69; with_reducible exact M1.out _) | (go_at_call 69; with_reducible exact M2.out _))); clear hK K)
    refine Mix.take_ex (_) 7 rfl (by kernel_rfl) (by kernel_rfl) (by kernel_rfl) (by kernel_rfl) (fun K hK => ?_)
    go_simp
    first | (refine hK _ ?_; clear hK K) | (apply Exists.intro; refine ⟨fun x => ?_, hK _ ?_⟩; ((first | (go_at_call 69; with_reducible exact M1.out _) | (go_at_call 69; with_reducible exact M2.out _))); clear hK K)
    refine Mix.all (rs := [8, 9]) (by kernel_rfl) (by simp) (Mix.over_of hb1) ?_
    intro i hi w2 hb2 hC2
    have hs2 : w1.heap.size + 0 ≤ w2.heap.size := (by have h := hb2.size; first | omega | (simp at h; omega))
    have hb1_2 := bel hb1 hb2 (by (repeat (first | assumption | exact Below.refl _ _ | refine ba ?_ _ | refine bd ?_ | refine bdn ?_ _ | refine bs ?_ (by first | omega | (simp; done) | (simp; omega)) _ | refine bt ?_ (by assumption))))
    clear hz1_0 hz1_1 hc1 hf1
    obtain ⟨hc1_2, hf1_2, hl1_2⟩ := bcell hb1_2
    clear hl1_2
    have hz2_0 : w.heap.size < w2.heap.size := (by omega)
    have hz2_1 : w.heap.size + 1 < w2.heap.size := (by omega)
    obtain ⟨hc2, hf2, hl2⟩ := bcell hb2
    clear hl2
    simp only [List.mem_cons, List.not_mem_nil, or_false] at hi
    rcases hi with rfl | rfl
    · refine Mix.op rfl (by kernel_rfl) ?_
      go_simp
      refine Mix.all (rs := [9]) (by kernel_rfl) (by simp) (Mix.over_of (by (repeat (first | assumption | exact Below.refl _ _ | refine ba ?_ _ | refine bd ?_ | refine bdn ?_ _ | refine bs ?_ (by first | omega | (simp; done) | (simp; omega)) _ | refine bt ?_ (by assumption))))) ?_
      intro i3 hi3 w3 hb3 hC3
      clear hC3
      have hs3 : w2.heap.size + 1 ≤ w3.heap.size := (by have h := hb3.size; first | omega | (simp at h; omega))
      have hb1_3 := bel hb1_2 hb3 (by (repeat (first | assumption | exact Below.refl _ _ | refine ba ?_ _ | refine bd ?_ | refine bdn ?_ _ | refine bs ?_ (by first | omega | (simp; done) | (simp; omega)) _ | refine bt ?_ (by assumption))))
      have hb2_3 := bel hb2 hb3 (by (repeat (first | assumption | exact Below.refl _ _ | refine ba ?_ _ | refine bd ?_ | refine bdn ?_ _ | refine bs ?_ (by first | omega | (simp; done) | (simp; omega)) _ | refine bt ?_ (by assumption))))
      clear hc1_2 hf1_2 hz2_0 hz2_1 hc2 hf2
      obtain ⟨hc1_3, hf1_3, hl1_3⟩ := bcell hb1_3
      clear hl1_3
      have hz3_0 : w.heap.size < w3.heap.size := (by omega)
      have hz3_1 : w.heap.size + 1 < w3.heap.size := (by omega)
      have hz3_2 : w2.heap.size < w3.heap.size := (by omega)
      obtain ⟨hc3, hf3, hl3⟩ := bcell hb3
      clear hl3
      simp only [List.mem_cons, List.not_mem_nil, or_false] at hi3
      subst hi3
      refine Mix.op rfl (by kernel_rfl) ?_
      go_simp
      refine Mix.all (rs := [10]) (by kernel_rfl) (by simp) (Mix.over_of (by (repeat (first | assumption | exact Below.refl _ _ | refine ba ?_ _ | refine bd ?_ | refine bdn ?_ _ | refine bs ?_ (by first | omega | (simp; done) | (simp; omega)) _ | refine bt ?_ (by assumption))))) ?_
      intro i4 hi4 w4 hb4 hC4
      clear hC4
      have hs4 : w3.heap.size + 1 ≤ w4.heap.size := (by have h := hb4.size; first | omega | (simp at h; omega))
      have hb1_4 := bel hb1_3 hb4 (by (repeat (first | assumption | exact Below.refl _ _ | refine ba ?_ _ | refine bd ?_ | refine bdn ?_ _ | refine bs ?_ (by first | omega | (simp; done) | (simp; omega)) _ | refine bt ?_ (by assumption))))
      have hb2_4 := bel hb2_3 hb4 (by (repeat (first | assumption | exact Below.refl _ _ | refine ba ?_ _ | refine bd ?_ | refine bdn ?_ _ | refine bs ?_ (by first | omega | (simp; done) | (simp; omega)) _ | refine bt ?_ (by assumption))))
      have hb3_4 := bel hb3 hb4 (by (repeat (first | assumption | exact Below.refl _ _ | refine ba ?_ _ | refine bd ?_ | refine bdn ?_ _ | refine bs ?_ (by first | omega | (simp; done) | (simp; omega)) _ | refine bt ?_ (by assumption))))
      clear hc1_3 hf1_3 hz3_0 hz3_1 hz3_2 hc3 hf3
      obtain ⟨hc1_4, hf1_4, hl1_4⟩ := bcell hb1_4
      clear hl1_4
      obtain ⟨hc3_4, hf3_4, hl3_4⟩ := bcell hb3_4
      clear hl3_4
      have hz4_0 : w.heap.size < w4.heap.size := (by omega)
      have hz4_1 : w.heap.size + 1 < w4.heap.size := (by omega)
      have hz4_2 : w2.heap.size < w4.heap.size := (by omega)
      have hz4_3 : w3.heap.size < w4.heap.size := (by omega)
      obtain ⟨hc4, hf4, hl4⟩ := bcell hb4
      clear hl4
      simp only [List.mem_cons, List.not_mem_nil, or_false] at hi4
      subst hi4
      refine Mix.op rfl (by kernel_rfl) ?_
      go_simp
      refine Mix.all (rs := [11]) (by kernel_rfl) (by simp) (Mix.over_of (by (repeat (first | assumption | exact Below.refl _ _ | refine ba ?_ _ | refine bd ?_ | refine bdn ?_ _ | refine bs ?_ (by first | omega | (simp; done) | (simp; omega)) _ | refine bt ?_ (by assumption))))) ?_
      intro i5 hi5 w5 hb5 hC5
      clear hC5
      have hs5 : w4.heap.size + 0 ≤ w5.heap.size := (by have h := hb5.size; first | omega | (simp at h; omega))
      have hz5_0 : w.heap.size < w5.heap.size := (by omega)
      have hz5_1 : w.heap.size + 1 < w5.heap.size := (by omega)
      have hz5_2 : w2.heap.size < w5.heap.size := (by omega)
      have hz5_3 : w3.heap.size < w5.heap.size := (by omega)
      have hy5_0_0 : w.heap.size ≤ w4.heap.size := (by omega)
      have hy5_1_0 : w.heap.size + 1 ≤ w4.heap.size := (by omega)
      have hy5_2_0 : w2.heap.size ≤ w4.heap.size := (by omega)
      have hy5_3_0 : w3.heap.size ≤ w4.heap.size := (by omega)
      obtain ⟨hc5, hf5, hl5⟩ := bcell hb5
      clear hl5
      simp only [List.mem_cons, List.not_mem_nil, or_false] at hi5
      subst hi5
      refine Mix.op rfl (by kernel_rfl) ?_
      go_simp
      refine Mix.done (by kernel_rfl) (Mix.over_of (by (repeat (first | assumption | exact Below.refl _ _ | refine ba ?_ _ | refine bd ?_ | refine bdn ?_ _ | refine bs ?_ (by first | omega | (simp; done) | (simp; omega)) _ | refine bt ?_ (by assumption))))) ?_
      intro w6 hb6
      have hs6 : w5.heap.size + 0 ≤ w6.heap.size := (by have h := hb6.size; first | omega | (simp at h; omega))
      have hz6_0 : w.heap.size < w6.heap.size := (by omega)
      have hz6_1 : w.heap.size + 1 < w6.heap.size := (by omega)
      have hz6_2 : w2.heap.size < w6.heap.size := (by omega)
      have hz6_3 : w3.heap.size < w6.heap.size := (by omega)
      have hy6_0_0 : w.heap.size ≤ w5.heap.size := (by omega)
      have hy6_1_0 : w.heap.size + 1 ≤ w5.heap.size := (by omega)
      have hy6_2_0 : w2.heap.size ≤ w5.heap.size := (by omega)
      have hy6_3_0 : w3.heap.size ≤ w5.heap.size := (by omega)
      obtain ⟨hc6, hf6, hl6⟩ := bcell hb6
      clear hl6
      go_wp2_with (first | simp only [Tryz.bits_Add64_0 _ _ k1 k2])
      refine bodyPost_ret (v := .tuple #[W2 ((p1 + q0) % 18446744073709551616) p0, .bool false]) (by simp [results, Tryz.results70, go_sem, *]) rfl ⟨by simp [*], ?_⟩
      (repeat (first | assumption | exact Below.refl _ _ | refine ba ?_ _ | refine bd ?_ | refine bdn ?_ _ | refine bs ?_ (by first | omega | (simp; done) | (simp; omega)) _ | refine bt ?_ (by assumption)))
    · refine Mix.op rfl (by kernel_rfl) ?_
      go_simp
      refine Mix.all (rs := [8]) (by kernel_rfl) (by simp) (Mix.over_of (by (repeat (first | assumption | exact Below.refl _ _ | refine ba ?_ _ | refine bd ?_ | refine bdn ?_ _ | refine bs ?_ (by first | omega | (simp; done) | (simp; omega)) _ | refine bt ?_ (by assumption))))) ?_
      intro i3 hi3 w3 hb3 hC3
      clear hC3
      have hs3 : w2.heap.size + 1 ≤ w3.heap.size := (by have h := hb3.size; first | omega | (simp at h; omega))
      have hb1_3 := bel hb1_2 hb3 (by (repeat (first | assumption | exact Below.refl _ _ | refine ba ?_ _ | refine bd ?_ | refine bdn ?_ _ | refine bs ?_ (by first | omega | (simp; done) | (simp; omega)) _ | refine bt ?_ (by assumption))))
      have hb2_3 := bel hb2 hb3 (by (repeat (first | assumption | exact Below.refl _ _ | refine ba ?_ _ | refine bd ?_ | refine bdn ?_ _ | refine bs ?_ (by first | omega | (simp; done) | (simp; omega)) _ | refine bt ?_ (by assumption))))
      clear hc1_2 hf1_2 hz2_0 hz2_1 hc2 hf2
      obtain ⟨hc1_3, hf1_3, hl1_3⟩ := bcell hb1_3
      clear hl1_3
      have hz3_0 : w.heap.size < w3.heap.size := (by omega)
      have hz3_1 : w.heap.size + 1 < w3.heap.size := (by omega)
      have hz3_2 : w2.heap.size < w3.heap.size := (by omega)
      obtain ⟨hc3, hf3, hl3⟩ := bcell hb3
      clear hl3
      simp only [List.mem_cons, List.not_mem_nil, or_false] at hi3
      subst hi3
      refine Mix.op rfl (by kernel_rfl) ?_
      go_simp
      refine Mix.all (rs := [10]) (by kernel_rfl) (by simp) (Mix.over_of (by (repeat (first | assumption | exact Below.refl _ _ | refine ba ?_ _ | refine bd ?_ | refine bdn ?_ _ | refine bs ?_ (by first | omega | (simp; done) | (simp; omega)) _ | refine bt ?_ (by assumption))))) ?_
      intro i4 hi4 w4 hb4 hC4
      clear hC4
      have hs4 : w3.heap.size + 1 ≤ w4.heap.size := (by have h := hb4.size; first | omega | (simp at h; omega))
      have hb1_4 := bel hb1_3 hb4 (by (repeat (first | assumption | exact Below.refl _ _ | refine ba ?_ _ | refine bd ?_ | refine bdn ?_ _ | refine bs ?_ (by first | omega | (simp; done) | (simp; omega)) _ | refine bt ?_ (by assumption))))
      have hb2_4 := bel hb2_3 hb4 (by (repeat (first | assumption | exact Below.refl _ _ | refine ba ?_ _ | refine bd ?_ | refine bdn ?_ _ | refine bs ?_ (by first | omega | (simp; done) | (simp; omega)) _ | refine bt ?_ (by assumption))))
      have hb3_4 := bel hb3 hb4 (by (repeat (first | assumption | exact Below.refl _ _ | refine ba ?_ _ | refine bd ?_ | refine bdn ?_ _ | refine bs ?_ (by first | omega | (simp; done) | (simp; omega)) _ | refine bt ?_ (by assumption))))
      clear hc1_3 hf1_3 hz3_0 hz3_1 hz3_2 hc3 hf3
      obtain ⟨hc1_4, hf1_4, hl1_4⟩ := bcell hb1_4
      clear hl1_4
      obtain ⟨hc3_4, hf3_4, hl3_4⟩ := bcell hb3_4
      clear hl3_4
      have hz4_0 : w.heap.size < w4.heap.size := (by omega)
      have hz4_1 : w.heap.size + 1 < w4.heap.size := (by omega)
      have hz4_2 : w2.heap.size < w4.heap.size := (by omega)
      have hz4_3 : w3.heap.size < w4.heap.size := (by omega)
      obtain ⟨hc4, hf4, hl4⟩ := bcell hb4
      clear hl4
      simp only [List.mem_cons, List.not_mem_nil, or_false] at hi4
      subst hi4
      refine Mix.op rfl (by kernel_rfl) ?_
      go_simp
      refine Mix.all (rs := [11]) (by kernel_rfl) (by simp) (Mix.over_of (by (repeat (first | assumption | exact Below.refl _ _ | refine ba ?_ _ | refine bd ?_ | refine bdn ?_ _ | refine bs ?_ (by first | omega | (simp; done) | (simp; omega)) _ | refine bt ?_ (by assumption))))) ?_
      intro i5 hi5 w5 hb5 hC5
      clear hC5
      have hs5 : w4.heap.size + 0 ≤ w5.heap.size := (by have h := hb5.size; first | omega | (simp at h; omega))
      have hz5_0 : w.heap.size < w5.heap.size := (by omega)
      have hz5_1 : w.heap.size + 1 < w5.heap.size := (by omega)
      have hz5_2 : w2.heap.size < w5.heap.size := (by omega)
      have hz5_3 : w3.heap.size < w5.heap.size := (by omega)
      have hy5_0_0 : w.heap.size ≤ w4.heap.size := (by omega)
      have hy5_1_0 : w.heap.size + 1 ≤ w4.heap.size := (by omega)
      have hy5_2_0 : w2.heap.size ≤ w4.heap.size := (by omega)
      have hy5_3_0 : w3.heap.size ≤ w4.heap.size := (by omega)
      obtain ⟨hc5, hf5, hl5⟩ := bcell hb5
      clear hl5
      simp only [List.mem_cons, List.not_mem_nil, or_false] at hi5
      subst hi5
      refine Mix.op rfl (by kernel_rfl) ?_
      go_simp
      refine Mix.done (by kernel_rfl) (Mix.over_of (by (repeat (first | assumption | exact Below.refl _ _ | refine ba ?_ _ | refine bd ?_ | refine bdn ?_ _ | refine bs ?_ (by first | omega | (simp; done) | (simp; omega)) _ | refine bt ?_ (by assumption))))) ?_
      intro w6 hb6
      have hs6 : w5.heap.size + 0 ≤ w6.heap.size := (by have h := hb6.size; first | omega | (simp at h; omega))
      have hz6_0 : w.heap.size < w6.heap.size := (by omega)
      have hz6_1 : w.heap.size + 1 < w6.heap.size := (by omega)
      have hz6_2 : w2.heap.size < w6.heap.size := (by omega)
      have hz6_3 : w3.heap.size < w6.heap.size := (by omega)
      have hy6_0_0 : w.heap.size ≤ w5.heap.size := (by omega)
      have hy6_1_0 : w.heap.size + 1 ≤ w5.heap.size := (by omega)
      have hy6_2_0 : w2.heap.size ≤ w5.heap.size := (by omega)
      have hy6_3_0 : w3.heap.size ≤ w5.heap.size := (by omega)
      obtain ⟨hc6, hf6, hl6⟩ := bcell hb6
      clear hl6
      go_wp2_with (first | simp only [Tryz.bits_Add64_0 _ _ k1 k2])
      refine bodyPost_ret (v := .tuple #[W2 ((p1 + q0) % 18446744073709551616) p0, .bool false]) (by simp [results, Tryz.results70, go_sem, *]) rfl ⟨by simp [*], ?_⟩
      (repeat (first | assumption | exact Below.refl _ _ | refine ba ?_ _ | refine bd ?_ | refine bdn ?_ _ | refine bs ?_ (by first | omega | (simp; done) | (simp; omega)) _ | refine bt ?_ (by assumption)))
end
section
open Go.RowKit

abbrev F2 (n d : Int) : Value := .agg #[.int .i64 n, .int .i64 d]
def I64 (n : Int) : Prop := -9223372036854775808 ≤ n ∧ n ≤ 9223372036854775807
structure Rt (n d : Int) : Prop where
  num : 0 ≤ n
  den : 1 ≤ d

theorem right_yes (n d : Int) (hn : 0 ≤ n) (hd : 1 ≤ d) : Pure Tryz.prog 68 #[F2 n d] (.bool true) := by
  intro w
  go_enter Tryz.func68, Tryz.ntmps68
  go_wp2
  go_ret
  exact ⟨rfl, ba (Below.refl _ _) _⟩
theorem right_no (n d : Int) (h : ¬ Rt n d) : Pure Tryz.prog 68 #[F2 n d] (.bool false) := by
  intro w
  by_cases hn : 0 ≤ n
  · have hd : ¬ 1 ≤ d := fun h' => h ⟨hn, h'⟩
    clear h
    go_enter Tryz.func68, Tryz.ntmps68
    go_wp2
    go_ret
    exact ⟨rfl, ba (Below.refl _ _) _⟩
  · clear h
    go_enter Tryz.func68, Tryz.ntmps68
    go_wp2
    go_ret
    exact ⟨rfl, ba (Below.refl _ _) _⟩

/-- The comparison of two numbers. -/
def cmpI (p q : Int) : Int := if p < q then -1 else if q < p then 1 else 0
/-- The comparison of two valid fractions, by cross products. -/
def rcmp (an ad bn bd : Int) : Int := cmpI (an * bd) (bn * ad)

theorem wcmp_any (p q : Int) : Pure Tryz.prog 45 #[W2 (p / 18446744073709551616) (p % 18446744073709551616), W2 (q / 18446744073709551616) (q % 18446744073709551616)] (.int .i64 (cmpI p q)) := by
  unfold cmpI
  by_cases h : p < q
  · rw [if_pos h]; exact cmp_lt _ _ _ _ (by omega)
  · rw [if_neg h]
    by_cases h' : q < p
    · rw [if_pos h']; exact cmp_gt _ _ _ _ (by omega)
    · rw [if_neg h']
      obtain rfl : p = q := by omega
      exact cmp_eq _ _

theorem rcmp_no1 (an ad bn bd : Int) (h : ¬ Rt an ad) : Pure Tryz.prog 124 #[F2 an ad, F2 bn bd] (.int .i64 0) := by
  intro w
  go_enter Tryz.func124, Tryz.ntmps124
  go_wp2_with (go_at_call 68; refine (right_no _ _ h _).mono ?_; rintro e w1 ⟨rfl, hb1⟩)
  go_ret
  exact ⟨rfl, bt (ba (ba (Below.refl _ _) _) _) hb1⟩
theorem rcmp_no2 (an ad bn bd : Int) (h1 : Rt an ad) (h : ¬ Rt bn bd) : Pure Tryz.prog 124 #[F2 an ad, F2 bn bd] (.int .i64 0) := by
  intro w
  go_enter Tryz.func124, Tryz.ntmps124
  go_wp2_with fail
  refine (right_yes _ _ h1.num h1.den _).mono ?_; rintro e w1 ⟨rfl, hb1⟩; obtain ⟨hc1, hf1⟩ := bcell hb1
  go_wp2_with fail
  refine (right_no _ _ h _).mono ?_; rintro e w2 ⟨rfl, hb2⟩
  go_wp2
  go_ret
  exact ⟨rfl, bt (bt (ba (ba (Below.refl _ _) _) _) hb1) hb2⟩
theorem word_of_i64 {n : Int} (h : I64 n) (h0 : 0 ≤ n) : Word n := ⟨h0, by have := h.2; omega⟩
set_option maxHeartbeats 800000 in
theorem rcmp_yes (an ad bn bd : Int) (i1 : I64 an) (i2 : I64 ad) (i3 : I64 bn) (i4 : I64 bd) (h1 : Rt an ad) (h2 : Rt bn bd) : Pure Tryz.prog 124 #[F2 an ad, F2 bn bd] (.int .i64 (rcmp an ad bn bd)) := by
  intro w
  have u1 : IntKind.u64.wrap an = an := by rw [IntKind.wrap_u64]; have := i1.2; have := h1.num; omega
  have u2 : IntKind.u64.wrap ad = ad := by rw [IntKind.wrap_u64]; have := i2.2; have := h1.den; omega
  have u3 : IntKind.u64.wrap bn = bn := by rw [IntKind.wrap_u64]; have := i3.2; have := h2.num; omega
  have u4 : IntKind.u64.wrap bd = bd := by rw [IntKind.wrap_u64]; have := i4.2; have := h2.den; omega
  have U1 := Lib.hid u1; have U2 := Lib.hid u2; have U3 := Lib.hid u3; have U4 := Lib.hid u4
  clear u1 u2 u3 u4
  have wd1 := word_of_i64 i1 h1.num
  have wd2 := word_of_i64 i2 (by have := h1.den; omega)
  have wd3 := word_of_i64 i3 h2.num
  have wd4 := word_of_i64 i4 (by have := h2.den; omega)
  go_enter Tryz.func124, Tryz.ntmps124
  go_wp2_with fail
  (with_reducible refine (right_yes _ _ h1.num h1.den _).mono ?_)
  rintro e w1 ⟨rfl, hb1⟩
  have hs1 : w.heap.size + 2 ≤ w1.heap.size := (by have h := hb1.size; first | omega | (simp at h; omega))
  have hz1_0 : w.heap.size < w1.heap.size := (by omega)
  have hz1_1 : w.heap.size + 1 < w1.heap.size := (by omega)
  obtain ⟨hc1, hf1, hl1⟩ := bcell hb1
  clear hl1
  go_wp2_with fail
  (with_reducible refine (right_yes _ _ h2.num h2.den _).mono ?_)
  rintro e w2 ⟨rfl, hb2⟩
  have hs2 : w1.heap.size + 0 ≤ w2.heap.size := (by have h := hb2.size; first | omega | (simp at h; omega))
  have hb1_2 := bel hb1 hb2 (by (repeat (first | assumption | exact Below.refl _ _ | refine ba ?_ _ | refine bd ?_ | refine bdn ?_ _ | refine bs ?_ (by first | omega | (simp; done) | (simp; omega)) _ | refine bt ?_ (by assumption))))
  clear hz1_0 hz1_1 hc1 hf1
  obtain ⟨hc1_2, hf1_2, hl1_2⟩ := bcell hb1_2
  clear hl1_2
  have hz2_0 : w.heap.size < w2.heap.size := (by omega)
  have hz2_1 : w.heap.size + 1 < w2.heap.size := (by omega)
  obtain ⟨hc2, hf2, hl2⟩ := bcell hb2
  clear hl2
  go_wp2_with fail
  rw [U1.out, U4.out]
  (with_reducible refine (mul_any _ _ wd1 wd4 _).mono ?_)
  rintro e w3 ⟨rfl, hb3⟩
  have hs3 : w2.heap.size + 0 ≤ w3.heap.size := (by have h := hb3.size; first | omega | (simp at h; omega))
  have hb1_3 := bel hb1_2 hb3 (by (repeat (first | assumption | exact Below.refl _ _ | refine ba ?_ _ | refine bd ?_ | refine bdn ?_ _ | refine bs ?_ (by first | omega | (simp; done) | (simp; omega)) _ | refine bt ?_ (by assumption))))
  have hb2_3 := bel hb2 hb3 (by (repeat (first | assumption | exact Below.refl _ _ | refine ba ?_ _ | refine bd ?_ | refine bdn ?_ _ | refine bs ?_ (by first | omega | (simp; done) | (simp; omega)) _ | refine bt ?_ (by assumption))))
  clear hc1_2 hf1_2 hz2_0 hz2_1 hc2 hf2
  obtain ⟨hc1_3, hf1_3, hl1_3⟩ := bcell hb1_3
  clear hl1_3
  have hz3_0 : w.heap.size < w3.heap.size := (by omega)
  have hz3_1 : w.heap.size + 1 < w3.heap.size := (by omega)
  obtain ⟨hc3, hf3, hl3⟩ := bcell hb3
  clear hl3
  go_wp2_with fail
  rw [U3.out, U2.out]
  (with_reducible refine (mul_any _ _ wd3 wd2 _).mono ?_)
  rintro e w4 ⟨rfl, hb4⟩
  have hs4 : w3.heap.size + 1 ≤ w4.heap.size := (by have h := hb4.size; first | omega | (simp at h; omega))
  have hb1_4 := bel hb1_3 hb4 (by (repeat (first | assumption | exact Below.refl _ _ | refine ba ?_ _ | refine bd ?_ | refine bdn ?_ _ | refine bs ?_ (by first | omega | (simp; done) | (simp; omega)) _ | refine bt ?_ (by assumption))))
  have hb2_4 := bel hb2_3 hb4 (by (repeat (first | assumption | exact Below.refl _ _ | refine ba ?_ _ | refine bd ?_ | refine bdn ?_ _ | refine bs ?_ (by first | omega | (simp; done) | (simp; omega)) _ | refine bt ?_ (by assumption))))
  have hb3_4 := bel hb3 hb4 (by (repeat (first | assumption | exact Below.refl _ _ | refine ba ?_ _ | refine bd ?_ | refine bdn ?_ _ | refine bs ?_ (by first | omega | (simp; done) | (simp; omega)) _ | refine bt ?_ (by assumption))))
  clear hc1_3 hf1_3 hz3_0 hz3_1 hc3 hf3
  obtain ⟨hc1_4, hf1_4, hl1_4⟩ := bcell hb1_4
  clear hl1_4
  have hz4_0 : w.heap.size < w4.heap.size := (by omega)
  have hz4_1 : w.heap.size + 1 < w4.heap.size := (by omega)
  have hz4_2 : w3.heap.size < w4.heap.size := (by omega)
  obtain ⟨hc4, hf4, hl4⟩ := bcell hb4
  clear hl4
  go_wp2_with fail
  (with_reducible refine (wcmp_any _ _ _).mono ?_)
  rintro e w5 ⟨rfl, hb5⟩
  have hs5 : w4.heap.size + 1 ≤ w5.heap.size := (by have h := hb5.size; first | omega | (simp at h; omega))
  have hb1_5 := bel hb1_4 hb5 (by (repeat (first | assumption | exact Below.refl _ _ | refine ba ?_ _ | refine bd ?_ | refine bdn ?_ _ | refine bs ?_ (by first | omega | (simp; done) | (simp; omega)) _ | refine bt ?_ (by assumption))))
  have hb2_5 := bel hb2_4 hb5 (by (repeat (first | assumption | exact Below.refl _ _ | refine ba ?_ _ | refine bd ?_ | refine bdn ?_ _ | refine bs ?_ (by first | omega | (simp; done) | (simp; omega)) _ | refine bt ?_ (by assumption))))
  have hb3_5 := bel hb3_4 hb5 (by (repeat (first | assumption | exact Below.refl _ _ | refine ba ?_ _ | refine bd ?_ | refine bdn ?_ _ | refine bs ?_ (by first | omega | (simp; done) | (simp; omega)) _ | refine bt ?_ (by assumption))))
  have hb4_5 := bel hb4 hb5 (by (repeat (first | assumption | exact Below.refl _ _ | refine ba ?_ _ | refine bd ?_ | refine bdn ?_ _ | refine bs ?_ (by first | omega | (simp; done) | (simp; omega)) _ | refine bt ?_ (by assumption))))
  clear hc1_4 hf1_4 hz4_0 hz4_1 hz4_2 hc4 hf4
  obtain ⟨hc1_5, hf1_5, hl1_5⟩ := bcell hb1_5
  clear hl1_5
  obtain ⟨hc4_5, hf4_5, hl4_5⟩ := bcell hb4_5
  clear hl4_5
  have hz5_0 : w.heap.size < w5.heap.size := (by omega)
  have hz5_1 : w.heap.size + 1 < w5.heap.size := (by omega)
  have hz5_2 : w3.heap.size < w5.heap.size := (by omega)
  have hz5_3 : w4.heap.size < w5.heap.size := (by omega)
  obtain ⟨hc5, hf5, hl5⟩ := bcell hb5
  clear hl5
  go_wp2
  go_ret
  refine ⟨rfl, ?_⟩
  (repeat (first | assumption | exact Below.refl _ _ | refine ba ?_ _ | refine bd ?_ | refine bdn ?_ _ | refine bs ?_ (by first | omega | (simp; done) | (simp; omega)) _ | refine bt ?_ (by assumption)))

theorem gcd_step (x y : Int) (hx : 0 ≤ x) (hy : 0 < y) : Int.gcd y (x % y) = Int.gcd x y := by
  obtain ⟨m, rfl⟩ := Int.eq_ofNat_of_zero_le hx
  obtain ⟨n, rfl⟩ := Int.eq_ofNat_of_zero_le (Int.le_of_lt hy)
  show Nat.gcd n ((m : Int) % (n : Int)).natAbs = Nat.gcd m n
  rw [← Int.natCast_emod, Int.natAbs_natCast, Nat.gcd_comm m n, Nat.gcd_rec n m, Nat.gcd_comm]
end
section
open Go.RowKit
attribute [local go_sem] ext_cell ext_frozen

/-- 2^128, behind a name. -/
def B128 : Int := 340282366920938463463374607431768211456
theorem B128_eq : B128 = 340282366920938463463374607431768211456 := rfl
structure Wd (v : Int) : Prop where
  lo : 0 ≤ v
  hi : v < B128
/-- A wide number's value. -/
def WV (v : Int) : Value := W2 (v / 18446744073709551616) (v % 18446744073709551616)
theorem Wd.word_hi {v : Int} (h : Wd v) : Word (v / 18446744073709551616) := by
  obtain ⟨a, b⟩ := h; rw [B128_eq] at b; exact ⟨by omega, by omega⟩
theorem WV_of (h l : Int) (hl : Word l) : WV (h * 18446744073709551616 + l) = W2 h l := by
  obtain ⟨a, b⟩ := hl
  unfold WV
  have e1 : (h * 18446744073709551616 + l) / 18446744073709551616 = h := by omega
  have e2 : (h * 18446744073709551616 + l) % 18446744073709551616 = l := by omega
  rw [e1, e2]
theorem Wd_of {h l : Int} (hh : Word h) (hl : Word l) : Wd (h * 18446744073709551616 + l) := by
  obtain ⟨a, b⟩ := hh; obtain ⟨c, d⟩ := hl
  exact ⟨by omega, by rw [B128_eq]; omega⟩
theorem WV_inj {v v' : Int} (h : WV v = WV v') : v = v' := by
  unfold WV at h
  simp at h
  omega

theorem mul_V (x y : Int) (hx : Word x) (hy : Word y) : Pure Tryz.prog 69 #[u x, u y] (WV (x * y)) := mul_any x y hx hy
theorem times_V (a b : Int) (ha : Wd a) (hb : Word b) : Pure Tryz.prog 70 #[WV a, u b] (.tuple #[WV (a * b % B128), .bool (decide (a * b < B128))]) := by
  have m1 := mul_any (a % 18446744073709551616) b (word_mod a) hb
  have m2 := mul_any (a / 18446744073709551616) b ha.word_hi hb
  have b1 := mul_bd (word_mod a) hb
  have b2 := mul_bd ha.word_hi hb
  have h := times_core (a / 18446744073709551616) (a % 18446744073709551616) b _ _ _ _ m1 m2 (by omega) (by omega)
  unfold WV
  rw [B128_eq]
  have e : a * b = (a / 18446744073709551616 * b) * 18446744073709551616 + a % 18446744073709551616 * b := by
    rw [Int.mul_right_comm, ← Int.add_mul]; congr 1; omega
  rw [e]
  generalize a % 18446744073709551616 * b = x at *
  generalize a / 18446744073709551616 * b = y at *
  have e1 : (x / 18446744073709551616 + y % 18446744073709551616) % 18446744073709551616 = (y * 18446744073709551616 + x) % 340282366920938463463374607431768211456 / 18446744073709551616 := by omega
  have e2 : x % 18446744073709551616 = (y * 18446744073709551616 + x) % 340282366920938463463374607431768211456 % 18446744073709551616 := by omega
  have e3 : (y / 18446744073709551616 == 0 && (x / 18446744073709551616 + y % 18446744073709551616) / 18446744073709551616 == 0) = decide (y * 18446744073709551616 + x < 340282366920938463463374607431768211456) := by
    rw [Bool.eq_iff_iff]; simp only [Bool.and_eq_true, beq_iff_eq, decide_eq_true_eq]; omega
  rw [e3, e1] at h
  rw [← e2]
  exact h

theorem cmp_V (a b : Int) : Pure Tryz.prog 45 #[WV a, WV b] (.int .i64 (cmpI a b)) := wcmp_any a b
end
end Go.Proofs.YtgfjmafdfbghnaaGreat
