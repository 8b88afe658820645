/- The comparison of any two fractions: it turns about, and is transitive. -/
import Derived.Test.YtlhljioncgddeaaRat1
namespace Go.Proofs.Ytlhljioncgddeaa
open Go.RowKit
attribute [local go_sem] ext_cell ext_frozen
/-- The comparison of any two fractions. -/
def rcA (an ad bn bd : Int) : Int := if (0 ≤ an ∧ 1 ≤ ad) ∧ (0 ≤ bn ∧ 1 ≤ bd) then rcmp an ad bn bd else 0
theorem rc_any (an ad bn bd : Int) (i1 : I64 an) (i2 : I64 ad) (i3 : I64 bn) (i4 : I64 bd) : Pure Try.prog 19 #[F2 an ad, F2 bn bd] (.int .i64 (rcA an ad bn bd)) := by
  unfold rcA
  by_cases h1 : 0 ≤ an ∧ 1 ≤ ad
  · by_cases h2 : 0 ≤ bn ∧ 1 ≤ bd
    · rw [if_pos ⟨h1, h2⟩]; exact rcmp_yes _ _ _ _ i1 i2 i3 i4 ⟨h1.1, h1.2⟩ ⟨h2.1, h2.2⟩
    · rw [if_neg (fun h => h2 h.2)]; exact rcmp_no2 _ _ _ _ ⟨h1.1, h1.2⟩ (fun h => h2 ⟨h.num, h.den⟩)
  · rw [if_neg (fun h => h1 h.1)]; exact rcmp_no1 _ _ _ _ (fun h => h1 ⟨h.num, h.den⟩)
theorem right_any (n d : Int) : Pure Try.prog 24 #[F2 n d] (.bool (decide (0 ≤ n ∧ 1 ≤ d))) := by
  by_cases h : 0 ≤ n ∧ 1 ≤ d
  · rw [decide_eq_true h]; exact right_yes _ _ h.1 h.2
  · rw [decide_eq_false h]; exact right_no _ _ (fun h' => h ⟨h'.num, h'.den⟩)
theorem cmpI_swap (p q : Int) : cmpI q p = - cmpI p q := by unfold cmpI; split <;> split <;> omega
theorem cmpI_bd (p q : Int) : -1 ≤ cmpI p q ∧ cmpI p q ≤ 1 := by unfold cmpI; split <;> (try split) <;> omega
theorem cmpI_le (p q : Int) : cmpI p q ≤ 0 ↔ p ≤ q := by unfold cmpI; split <;> (try split) <;> omega
theorem cmpI_lt (p q : Int) : cmpI p q < 0 ↔ p < q := by unfold cmpI; split <;> (try split) <;> omega
theorem rcA_swap (an ad bn bd : Int) : rcA bn bd an ad = - rcA an ad bn bd := by
  unfold rcA
  by_cases h1 : 0 ≤ an ∧ 1 ≤ ad <;> by_cases h2 : 0 ≤ bn ∧ 1 ≤ bd <;> simp [h1, h2]
  exact cmpI_swap _ _
theorem rcA_self (an ad : Int) : rcA an ad an ad = 0 := by
  unfold rcA rcmp cmpI; split <;> simp
theorem rcA_bd (an ad bn bd : Int) : -1 ≤ rcA an ad bn bd ∧ rcA an ad bn bd ≤ 1 := by
  unfold rcA; split
  · exact cmpI_bd _ _
  · omega
/-- Cross products are transitive. -/
theorem cross_le {an ad bn bd cn cd : Int} (hb : 1 ≤ bd) (ha : 1 ≤ ad) (hc : 1 ≤ cd) (h1 : an * bd ≤ bn * ad) (h2 : bn * cd ≤ cn * bd) :
    an * cd ≤ cn * ad ∧ (an * cd = cn * ad → an * bd = bn * ad ∧ bn * cd = cn * bd) := by
  have e1 := Int.mul_le_mul_of_nonneg_right h1 (show 0 ≤ cd by omega)
  have e2 := Int.mul_le_mul_of_nonneg_right h2 (show 0 ≤ ad by omega)
  have c1 : an * cd * bd = an * bd * cd := Int.mul_right_comm _ _ _
  have c2 : bn * ad * cd = bn * cd * ad := Int.mul_right_comm _ _ _
  have c3 : cn * bd * ad = cn * ad * bd := Int.mul_right_comm _ _ _
  refine ⟨Int.le_of_mul_le_mul_right (show (an * cd) * bd ≤ (cn * ad) * bd by omega) (by omega), fun h => ?_⟩
  have c4 : an * cd * bd = cn * ad * bd := by rw [h]
  exact ⟨Int.eq_of_mul_eq_mul_right (show cd ≠ 0 by omega) (show an * bd * cd = bn * ad * cd by omega), Int.eq_of_mul_eq_mul_right (show ad ≠ 0 by omega) (show bn * cd * ad = cn * bd * ad by omega)⟩
theorem rcA_trans {an ad bn bd cn cd : Int} (ha : 0 ≤ an ∧ 1 ≤ ad) (hb : 0 ≤ bn ∧ 1 ≤ bd) (hc : 0 ≤ cn ∧ 1 ≤ cd) (h1 : rcA an ad bn bd ≤ 0) (h2 : rcA bn bd cn cd ≤ 0) :
    rcA an ad cn cd < 0 ∨ rcA an ad cn cd = 0 ∧ rcA an ad bn bd = 0 ∧ rcA bn bd cn cd = 0 := by
  have f1 : rcA an ad bn bd = cmpI (an * bd) (bn * ad) := if_pos ⟨ha, hb⟩
  have f2 : rcA bn bd cn cd = cmpI (bn * cd) (cn * bd) := if_pos ⟨hb, hc⟩
  have f3 : rcA an ad cn cd = cmpI (an * cd) (cn * ad) := if_pos ⟨ha, hc⟩
  rw [f1] at h1 ⊢
  rw [f2] at h2 ⊢
  rw [f3]
  obtain ⟨k1, k2⟩ := cross_le hb.2 ha.2 hc.2 ((cmpI_le _ _).1 h1) ((cmpI_le _ _).1 h2)
  by_cases h : an * cd = cn * ad
  · obtain ⟨k3, k4⟩ := k2 h
    right
    unfold cmpI
    simp [h, k3, k4]
  · left
    rw [cmpI_lt]
    omega

theorem i64_of_wf {x : Int} (h : (Lit.int .i64 x).wf = true) : I64 x := by
  simp [Lit.wf, IntKind.min, IntKind.max, IntKind.signed, IntKind.bits] at h
  exact ⟨by omega, by omega⟩
end Go.Proofs.Ytlhljioncgddeaa
