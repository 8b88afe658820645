/- The plain arithmetic of a division of 128 bits by 64, by 32-bit parts. Conditions: as each lemma says. -/
import Derived.WalkKit
import Derived.Laws.Bits64b
import Derived.Lib.BitFns
namespace Go.Proofs.Ytojfkpmdnhkanaa.DivM

/-- What a step of the long division seeks: the quotient Q of u * 2^32 + d by Y = y1 * 2^32 + y0. -/
structure Step (u d y1 y0 Q : Int) : Prop where
  u0 : 0 ≤ u
  uY : u < y1 * 4294967296 + y0
  d0 : 0 ≤ d
  d1 : d < 4294967296
  y1l : 2147483648 ≤ y1
  y1h : y1 < 4294967296
  y0l : 0 ≤ y0
  y0h : y0 < 4294967296
  lo : Q * (y1 * 4294967296 + y0) ≤ u * 4294967296 + d
  hi : u * 4294967296 + d < Q * (y1 * 4294967296 + y0) + (y1 * 4294967296 + y0)

theorem Step.mk' (u d y1 y0 : Int) (u0 : 0 ≤ u) (uY : u < y1 * 4294967296 + y0) (d0 : 0 ≤ d) (d1 : d < 4294967296) (y1l : 2147483648 ≤ y1) (y1h : y1 < 4294967296) (y0l : 0 ≤ y0) (y0h : y0 < 4294967296) :
    Step u d y1 y0 ((u * 4294967296 + d) / (y1 * 4294967296 + y0)) := by
  have hY : 0 < y1 * 4294967296 + y0 := by omega
  have e := Int.mul_ediv_add_emod (u * 4294967296 + d) (y1 * 4294967296 + y0)
  have m0 := Int.emod_nonneg (u * 4294967296 + d) (show y1 * 4294967296 + y0 ≠ 0 by omega)
  have m1 := Int.emod_lt_of_pos (u * 4294967296 + d) hY
  rw [Int.mul_comm] at e
  exact ⟨u0, uY, d0, d1, y1l, y1h, y0l, y0h, by omega, by omega⟩

theorem Step.Qb {u d y1 y0 Q : Int} (h : Step u d y1 y0 Q) : 0 ≤ Q ∧ Q < 4294967296 := by
  obtain ⟨u0, uY, d0, d1, y1l, y1h, y0l, y0h, lo, hi⟩ := h
  generalize hY : y1 * 4294967296 + y0 = Y at *
  constructor
  · rcases Int.lt_or_le Q 0 with h' | h'
    · have := Int.mul_le_mul_of_nonneg_right (show Q ≤ -1 by omega) (show 0 ≤ Y by omega)
      omega
    · exact h'
  · rcases Int.lt_or_le Q 4294967296 with h' | h'
    · exact h'
    · have := Int.mul_le_mul_of_nonneg_right h' (show 0 ≤ Y by omega)
      omega

/-- The loop's state: a guess that is not too small. -/
structure Guess (u y1 Q q r : Int) : Prop where
  sum : q * y1 + r = u
  ge : Q ≤ q
  le : q ≤ 4294967297
  r0 : 0 ≤ r
  r1 : r < 4294967296

theorem Guess.prod {u y1 y0 q r : Int} (g : q * y1 + r = u) : q * (y1 * 4294967296 + y0) = (u - r) * 4294967296 + q * y0 := by
  rw [Int.mul_add, ← Int.mul_assoc]
  have : q * y1 = u - r := by omega
  rw [this]

theorem Guess.first {u d y1 y0 Q : Int} (h : Step u d y1 y0 Q) : Guess u y1 Q (u / y1) (u - u / y1 * y1) ∧ u - u / y1 * y1 = u % y1 ∧ 0 ≤ u / y1 * y1 ∧ u / y1 * y1 ≤ u := by
  have hQ := h.Qb
  obtain ⟨u0, uY, d0, d1, y1l, y1h, y0l, y0h, lo, hi⟩ := h
  have e := Int.mul_ediv_add_emod u y1
  rw [Int.mul_comm] at e
  have m0 := Int.emod_nonneg u (show y1 ≠ 0 by omega)
  have m1 := Int.emod_lt_of_pos u (show 0 < y1 by omega)
  have q0 := Int.ediv_nonneg u0 (show 0 ≤ y1 by omega)
  have qle : u / y1 ≤ 4294967297 := by
    have : u / y1 < 4294967298 := by
      apply Int.ediv_lt_of_lt_mul (by omega)
      omega
    omega
  generalize u / y1 = q at *
  generalize hr : u % y1 = r at *
  have hp := Guess.prod (y0 := y0) e
  generalize ht : q * y1 = t at *
  refine ⟨⟨by omega, ?_, qle, by omega, by omega⟩, by omega, ?_, by omega⟩
  · rcases Int.lt_or_le q Q with h' | h'
    · have h2 := Int.mul_le_mul_of_nonneg_right (show q + 1 ≤ Q by omega) (show 0 ≤ y1 * 4294967296 + y0 by omega)
      have h3 := Int.mul_nonneg q0 y0l
      rw [Int.add_mul, hp] at h2
      omega
    · exact h'
  · rw [← ht]; exact Int.mul_nonneg q0 (by omega)

/-- The guess is right. -/
theorem Guess.done {u d y1 y0 Q q r : Int} (h : Step u d y1 y0 Q) (g : Guess u y1 Q q r) (hc : q * y0 ≤ 4294967296 * r + d) : q = Q := by
  obtain ⟨u0, uY, d0, d1, y1l, y1h, y0l, y0h, lo, hi⟩ := h
  have hp := Guess.prod (y0 := y0) g.sum
  have := g.ge
  rcases Int.lt_or_le Q q with h' | h'
  · have h2 := Int.mul_le_mul_of_nonneg_right (show Q + 1 ≤ q by omega) (show 0 ≤ y1 * 4294967296 + y0 by omega)
    rw [Int.add_mul, hp] at h2
    omega
  · omega

theorem Guess.next {u d y1 y0 Q q r : Int} (h : Step u d y1 y0 Q) (g : Guess u y1 Q q r) (hc : 4294967296 ≤ q ∨ 4294967296 * r + d < q * y0) :
    Q ≤ q - 1 ∧ 1 ≤ q ∧ (q - 1) * y1 + (r + y1) = u ∧ (r + y1 < 4294967296 → Guess u y1 Q (q - 1) (r + y1)) ∧ (4294967296 ≤ r + y1 → q - 1 = Q) := by
  have hQ := h.Qb
  have h0 := h
  obtain ⟨u0, uY, d0, d1, y1l, y1h, y0l, y0h, lo, hi⟩ := h
  have hp := Guess.prod (y0 := y0) g.sum
  have gg := g.ge
  have gl := g.le
  have gr := g.r0
  have gs := g.sum
  have hlt : Q < q := by
    rcases hc with hc | hc
    · omega
    · rcases Int.lt_or_le Q q with h' | h'
      · exact h'
      · have h2 := Int.mul_le_mul_of_nonneg_right h' (show 0 ≤ y1 * 4294967296 + y0 by omega)
        rw [hp] at h2
        omega
  have e : (q - 1) * y1 + (r + y1) = u := by rw [Int.sub_mul]; omega
  refine ⟨by omega, by omega, e, fun h' => ⟨e, by omega, by omega, by omega, h'⟩, fun h' => ?_⟩
  have hp1 := Guess.prod (y0 := y0) e
  have h3 : (q - 1) * y0 ≤ 4294967296 * 4294967295 := by
    have := Int.mul_le_mul_of_nonneg_right (show q - 1 ≤ 4294967296 by omega) y0l
    omega
  rcases Int.lt_or_le Q (q - 1) with h' | h'
  · have h2 := Int.mul_le_mul_of_nonneg_right (show Q + 1 ≤ q - 1 by omega) (show 0 ≤ y1 * 4294967296 + y0 by omega)
    rw [Int.add_mul, hp1] at h2
    omega
  · omega

theorem bitLen_pos (f : Nat) : ∀ x : Nat, 0 < x → x < 2 ^ f → 1 ≤ Lib.bitLenAux f x ∧ 2 ^ (Lib.bitLenAux f x - 1) ≤ x ∧ x < 2 ^ Lib.bitLenAux f x := by
  induction f with
  | zero => intro x h1 h2; simp at h2; omega
  | succ f ih =>
    intro x h1 h2
    simp only [Lib.bitLenAux]
    rw [if_neg (by omega)]
    by_cases hx : x / 2 = 0
    · have : x = 1 := by omega
      subst this
      have e : Lib.bitLenAux f (1 / 2) = 0 := by cases f <;> simp [Lib.bitLenAux]
      rw [e]; simp
    · obtain ⟨a, b, c⟩ := ih (x / 2) (by omega) (by rw [Nat.pow_succ] at h2; omega)
      generalize Lib.bitLenAux f (x / 2) = k at *
      obtain ⟨j, rfl⟩ : ∃ j, k = j + 1 := ⟨k - 1, by omega⟩
      simp only [Nat.add_sub_cancel] at b
      have e1 : 1 + (j + 1) - 1 = j + 1 := by omega
      have e2 : 1 + (j + 1) = j + 1 + 1 := by omega
      rw [e1, e2, Nat.pow_succ, Nat.pow_succ]
      rw [Nat.pow_succ] at c
      omega

/-- How far a divisor is moved up. -/
theorem lead (y : Int) (h0 : 0 < y) (h1 : y < 18446744073709551616) : ∃ s : Nat, s ≤ 63 ∧ (64 - (Lib.bitLen y.toNat : Int)) = (s : Int) ∧ 9223372036854775808 ≤ y * 2 ^ s ∧ y * 2 ^ s < 18446744073709551616 := by
  obtain ⟨y, rfl⟩ := Int.eq_ofNat_of_zero_le (Int.le_of_lt h0)
  rw [Int.toNat_natCast]
  obtain ⟨a, b, c⟩ := bitLen_pos 64 y (by omega) (by omega)
  have d : Lib.bitLenAux 64 y ≤ 64 := Lib.bitLenAux_le 64 y 64 (by omega)
  unfold Lib.bitLen
  generalize Lib.bitLenAux 64 y = k at *
  refine ⟨64 - k, by omega, by omega, ?_, ?_⟩
  · have h := Nat.mul_le_mul_right (2 ^ (64 - k)) b
    rw [← Nat.pow_add] at h
    have e : k - 1 + (64 - k) = 63 := by omega
    rw [e] at h
    have h' : ((2 ^ 63 : Nat) : Int) ≤ ((y * 2 ^ (64 - k) : Nat) : Int) := by exact_mod_cast h
    simpa using h'
  · have h := Nat.mul_lt_mul_of_pos_right c (Nat.two_pow_pos (64 - k))
    rw [← Nat.pow_add] at h
    have e : k + (64 - k) = 64 := by omega
    rw [e] at h
    have h' : ((y * 2 ^ (64 - k) : Nat) : Int) < ((2 ^ 64 : Nat) : Int) := by exact_mod_cast h
    simpa using h'

theorem pow_split (s : Nat) (hs : s ≤ 63) : (2 : Int) ^ (64 - s) * 2 ^ s = 18446744073709551616 ∧ 1 ≤ (2 : Int) ^ s ∧ 1 ≤ (2 : Int) ^ (64 - s) := by
  have p1 : (0 : Int) < 2 ^ s := Int.pow_pos (by decide)
  have p2 : (0 : Int) < 2 ^ (64 - s) := Int.pow_pos (by decide)
  refine ⟨?_, by omega, by omega⟩
  rw [← Int.pow_add]
  have e : 64 - s + s = 64 := by omega
  rw [e]; rfl

/-- An 'or' of what does not overlap is a sum. -/
theorem or_sum (a b : Int) (s : Nat) (ha : 0 ≤ a) (hb : 0 ≤ b) (hb' : b < 2 ^ s) (hab : a * 2 ^ s + b < 18446744073709551616) : bits .or .u64 (a * 2 ^ s) b = a * 2 ^ s + b := by
  obtain ⟨a, rfl⟩ := Int.eq_ofNat_of_zero_le ha
  obtain ⟨b, rfl⟩ := Int.eq_ofNat_of_zero_le hb
  have e : ((a : Int) * 2 ^ s) = ((2 ^ s * a : Nat) : Int) := by
    rw [Nat.mul_comm, Int.natCast_mul, Int.natCast_pow]; rfl
  have hlt : b < 2 ^ s := by
    have : (b : Int) < ((2 ^ s : Nat) : Int) := by rw [Int.natCast_pow]; exact hb'
    exact_mod_cast this
  rw [e] at hab ⊢
  rw [bits_or_u64_nat _ _ (by omega) (by omega), ← Nat.two_pow_add_eq_or_of_lt hlt, Int.natCast_add]
end Go.Proofs.Ytojfkpmdnhkanaa.DivM
