/- Contracts of mancipleref01.Halves and of own, is, after in the statements of layer 1. Conditions: as each says. -/
import Derived.Test.YtfnfolpdbbnnlaaDoorSum
namespace Go.Proofs.YtfnfolpdbbnnlaaDoor
open Go.RowKit
attribute [local go_sem] ext_cell ext_frozen

theorem emod_step (a q : Int) (hq : 0 < q) : a % (q * 65536) = (a / 65536 % q) * 65536 + a % 65536 := by
  have e1 := Int.mul_ediv_add_emod (a / 65536) q
  have m0 := Int.emod_nonneg (a / 65536) (show q ≠ 0 by omega)
  have m1 := Int.emod_lt_of_pos (a / 65536) hq
  generalize a / 65536 % q = s at *
  generalize ht : a / 65536 / q = t at *
  have e2 : a = (s * 65536 + a % 65536) + (q * 65536) * t := by
    rw [Int.mul_right_comm]; omega
  conv => lhs; rw [e2, Int.add_mul_emod_self_left]
  exact Int.emod_eq_of_lt (by omega) (by omega)

def hiK (V : Int) (k : Nat) : Int := V / 65536 ^ (max k 4) % 65536 ^ (8 - max k 4)
def loK (V : Int) (k : Nat) : Int := V / 65536 ^ k % 65536 ^ (4 - k)
def fK (V : Int) (k : Nat) : Bool := decide (V / 65536 ^ (max k 8) = 0)

theorem part_step (V : Int) (k m : Nat) : V / 65536 ^ k % 65536 ^ (m + 1) = (V / 65536 ^ (k + 1) % 65536 ^ m) * 65536 + V / 65536 ^ k % 65536 := by
  rw [Int.pow_succ, emod_step _ _ (pow_pos65 m), Int.ediv_ediv_of_nonneg (Int.le_of_lt (pow_pos65 k)), ← Int.pow_succ]
theorem part_bd (V : Int) (k m : Nat) (hm : m ≤ 3) : 0 ≤ V / 65536 ^ k % 65536 ^ m ∧ V / 65536 ^ k % 65536 ^ m < 281474976710656 := by
  have h0 := Int.emod_nonneg (V / 65536 ^ k) (show (65536 : Int) ^ m ≠ 0 by have := pow_pos65 m; omega)
  have h1 := Int.emod_lt_of_pos (V / 65536 ^ k) (pow_pos65 m)
  have : (65536 : Int) ^ m ≤ 281474976710656 := by
    have : m = 0 ∨ m = 1 ∨ m = 2 ∨ m = 3 := by omega
    rcases this with rfl | rfl | rfl | rfl <;> decide
  omega
theorem hi_top (V : Int) (k : Nat) (hk : 8 ≤ k) : hiK V k = 0 := by
  unfold hiK; rw [show 8 - max k 4 = 0 by omega]; simp [Int.emod_one]
theorem hi_step (V : Int) (k : Nat) (h4 : 4 ≤ k) (h8 : k < 8) : hiK V k = hiK V (k + 1) * 65536 + V / 65536 ^ k % 65536 ∧ 0 ≤ hiK V (k + 1) ∧ hiK V (k + 1) < 281474976710656 := by
  unfold hiK
  rw [show max k 4 = k by omega, show max (k + 1) 4 = k + 1 by omega]
  obtain ⟨m, hm⟩ : ∃ m, 8 - k = m + 1 := ⟨8 - k - 1, by omega⟩
  rw [hm, show 8 - (k + 1) = m by omega]
  exact ⟨part_step V k m, part_bd V _ m (by omega)⟩
theorem hi_low (V : Int) (k : Nat) (h4 : k < 4) : hiK V k = hiK V (k + 1) := by
  unfold hiK; rw [show max k 4 = 4 by omega, show max (k + 1) 4 = 4 by omega]
theorem lo_top (V : Int) (k : Nat) (hk : 4 ≤ k) : loK V k = 0 := by
  unfold loK; rw [show 4 - k = 0 by omega]; simp [Int.emod_one]
theorem lo_step (V : Int) (k : Nat) (h4 : k < 4) : loK V k = loK V (k + 1) * 65536 + V / 65536 ^ k % 65536 ∧ 0 ≤ loK V (k + 1) ∧ loK V (k + 1) < 281474976710656 := by
  unfold loK
  obtain ⟨m, hm⟩ : ∃ m, 4 - k = m + 1 := ⟨4 - k - 1, by omega⟩
  rw [hm, show 4 - (k + 1) = m by omega]
  exact ⟨part_step V k m, part_bd V _ m (by omega)⟩
theorem f_step (V : Int) (k : Nat) (hk : 8 ≤ k) : fK V k = (fK V (k + 1) && (V / 65536 ^ k % 65536 == 0)) := by
  unfold fK
  rw [show max k 8 = k by omega, show max (k + 1) 8 = k + 1 by omega, Int.pow_succ, ← Int.ediv_ediv_of_nonneg (Int.le_of_lt (pow_pos65 k))]
  generalize V / 65536 ^ k = a
  rw [Bool.eq_iff_iff]; simp only [Bool.and_eq_true, beq_iff_eq, decide_eq_true_eq]; omega
theorem f_low (V : Int) (k : Nat) (hk : k < 8) : fK V k = fK V (k + 1) := by
  unfold fK; rw [show max k 8 = 8 by omega, show max (k + 1) 8 = 8 by omega]

theorem digs_append : ∀ (m n : Nat) (v : Int), digs (m + n) v = digs m v ++ digs n (v / 65536 ^ m)
  | 0, n, v => by simp [digs]
  | m + 1, n, v => by
    rw [show m + 1 + n = (m + n) + 1 by omega, digs, digs_append m n, digs, List.cons_append, Int.ediv_ediv_of_nonneg (by decide), Int.pow_succ, Int.mul_comm 65536]
theorem digs_low : ∀ (k : Nat) (a b : Int), digs k (a * 65536 ^ k + b) = digs k b
  | 0, _, _ => rfl
  | k + 1, a, b => by
    have e1 : a * 65536 ^ (k + 1) + b = b + (a * 65536 ^ k) * 65536 := by rw [Int.pow_succ, Int.mul_assoc]; omega
    rw [digs, digs, e1, Int.add_mul_emod_self_right, Int.add_mul_ediv_right _ _ (by decide), Int.add_comm (b / 65536), digs_low k]
theorem digs_two (h l : Int) (hl : Word l) : digs 4 l ++ digs 4 h = digs 8 (h * 18446744073709551616 + l) := by
  obtain ⟨l0, l1⟩ := hl
  rw [show (8 : Nat) = 4 + 4 from rfl, digs_append]
  have e : (65536 : Int) ^ 4 = 18446744073709551616 := by decide
  have e2 := digs_low 4 h l
  rw [e] at e2 ⊢
  rw [e2]
  congr 2
  omega

end Go.Proofs.YtfnfolpdbbnnlaaDoor
