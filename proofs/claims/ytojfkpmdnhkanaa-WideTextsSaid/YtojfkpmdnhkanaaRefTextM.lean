/- Division of a number of eight digits by ten, digit by digit: plain arithmetic for mancipleref01.Text. -/
import Derived.Test.YtojfkpmdnhkanaaSum
import Derived.Test.YtojfkpmdnhkanaaText
namespace Go.Proofs.Ytojfkpmdnhkanaa
open Go.RowKit

/-- The cells while a number is divided by ten from the highest digit down: those from i on are done. -/
def midT (N : Int) (i j : Nat) : Int := if j < i then N / 65536 ^ j % 65536 else N / 65536 ^ i / 10 / 65536 ^ (j - i) % 65536
theorem midT_top (N : Int) (n j : Nat) (hj : j < n) : midT N n j = N / 65536 ^ j % 65536 := by unfold midT; rw [if_pos hj]
theorem midT_zero (N : Int) (j : Nat) : midT N 0 j = N / 10 / 65536 ^ j % 65536 := by unfold midT; simp
theorem ten_step (N : Int) (i : Nat) : ∃ M d : Int, M = N / 65536 ^ (i + 1) ∧ d = N / 65536 ^ i % 65536 ∧ N / 65536 ^ i = M * 65536 + d ∧ 0 ≤ d ∧ d < 65536 := by
  refine ⟨_, _, rfl, rfl, ?_, ?_, ?_⟩
  · rw [Int.pow_succ, ← Int.ediv_ediv_of_nonneg (Int.le_of_lt (pow_pos65 i))]; omega
  · exact Int.emod_nonneg _ (by decide)
  · exact Int.emod_lt_of_pos _ (by decide)
theorem midT_step (N : Int) (i : Nat) : ∀ j, (if j = i then (N / 65536 ^ (i + 1) % 10 * 65536 + N / 65536 ^ i % 65536) / 10 else midT N (i + 1) j) = midT N i j := by
  intro j
  obtain ⟨M, d, hM, hd, hX, d0, d1⟩ := ten_step N i
  rw [← hM, ← hd]
  unfold midT
  by_cases hj : j = i
  · subst hj
    rw [if_pos rfl, if_neg (by omega), hX]
    simp
    omega
  · rw [if_neg hj]
    by_cases hj2 : j < i
    · rw [if_pos (by omega), if_pos hj2]
    · rw [if_neg (by omega), if_neg hj2, ← hM, hX]
      obtain ⟨t, rfl⟩ : ∃ t, j = i + 1 + t := ⟨j - i - 1, by omega⟩
      rw [show i + 1 + t - (i + 1) = t by omega, show i + 1 + t - i = t + 1 by omega, Int.pow_succ, Int.mul_comm (65536 ^ t) 65536, ← Int.ediv_ediv_of_nonneg (show (0 : Int) ≤ 65536 by decide)]
      congr 2
      omega
theorem rest_step (N : Int) (i : Nat) : (N / 65536 ^ (i + 1) % 10 * 65536 + N / 65536 ^ i % 65536) % 10 = N / 65536 ^ i % 10 := by
  obtain ⟨M, d, hM, hd, hX, d0, d1⟩ := ten_step N i
  rw [← hM, ← hd, hX]; omega
theorem more_step (N : Int) (h0 : 0 ≤ N) (i : Nat) : (decide (0 < N / 65536 ^ (i + 1) / 10) || decide (0 < (N / 65536 ^ (i + 1) % 10 * 65536 + N / 65536 ^ i % 65536) / 10)) = decide (0 < N / 65536 ^ i / 10) := by
  obtain ⟨M, d, hM, hd, hX, d0, d1⟩ := ten_step N i
  have hM0 : 0 ≤ M := by rw [hM]; exact Int.ediv_nonneg h0 (Int.le_of_lt (pow_pos65 _))
  rw [← hM, ← hd, hX, Bool.eq_iff_iff]
  simp only [Bool.or_eq_true, decide_eq_true_eq]
  omega
end Go.Proofs.Ytojfkpmdnhkanaa
