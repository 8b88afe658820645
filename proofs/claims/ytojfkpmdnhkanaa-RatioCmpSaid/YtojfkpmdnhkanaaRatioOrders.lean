/- For any three fractions the statement RatioOrders returns true: turned about, two fractions stand the other way round, and what is not above what is not above a third one is not above that. No condition. -/
import Derived.Test.YtojfkpmdnhkanaaRat3
import Derived.OpenShut
import Derived.ChangeOld
import Derived.Lib.SmallJoins
namespace Go.Proofs.Ytojfkpmdnhkanaa
open Go.RowKit
attribute [local go_sem] ext_cell ext_frozen

/-- The comparison of any two fractions. -/
def rcA (an ad bn bd : Int) : Int := if (0 ≤ an ∧ 1 ≤ ad) ∧ (0 ≤ bn ∧ 1 ≤ bd) then rcmp an ad bn bd else 0
theorem rc_any (an ad bn bd : Int) (i1 : I64 an) (i2 : I64 ad) (i3 : I64 bn) (i4 : I64 bd) : Pure Try.prog 36 #[F2 an ad, F2 bn bd] (.int .i64 (rcA an ad bn bd)) := by
  unfold rcA
  by_cases h1 : 0 ≤ an ∧ 1 ≤ ad
  · by_cases h2 : 0 ≤ bn ∧ 1 ≤ bd
    · rw [if_pos ⟨h1, h2⟩]; exact rcmp_yes _ _ _ _ i1 i2 i3 i4 ⟨h1.1, h1.2⟩ ⟨h2.1, h2.2⟩
    · rw [if_neg (fun h => h2 h.2)]; exact rcmp_no2 _ _ _ _ ⟨h1.1, h1.2⟩ (fun h => h2 ⟨h.num, h.den⟩)
  · rw [if_neg (fun h => h1 h.1)]; exact rcmp_no1 _ _ _ _ (fun h => h1 ⟨h.num, h.den⟩)
theorem right_any (n d : Int) : Pure Try.prog 38 #[F2 n d] (.bool (decide (0 ≤ n ∧ 1 ≤ d))) := by
  by_cases h : 0 ≤ n ∧ 1 ≤ d
  · rw [decide_eq_true h]; exact right_yes _ _ h.1 h.2
  · rw [decide_eq_false h]; exact right_no _ _ (fun h' => h ⟨h'.num, h'.den⟩)
theorem cmpI_swap (p q : Int) : cmpI q p = - cmpI p q := by unfold cmpI; split <;> split <;> omega
theorem cmpI_bd (p q : Int) : -1 ≤ cmpI p q ∧ cmpI p q ≤ 1 := by unfold cmpI; split <;> (try split) <;> omega
theorem cmpI_le (p q : Int) : cmpI p q ≤ 0 ↔ p ≤ q := by unfold cmpI; split <;> (try split) <;> omega
theorem cmpI_lt (p q : Int) : cmpI p q < 0 ↔ p < q := by unfold cmpI; split <;> (try split) <;> omega
theorem rcA_swap (an ad bn bd : Int) : rcA bn bd an ad = - rcA an ad bn bd := by
  unfold rcA
  by_cases h1 : 0 ≤ an ∧ 1 ≤ ad <;> by_cases h2 : 0 ≤ bn ∧ 1 ≤ bd <;> simp [h1, h2]
  exact cmpI_swap _ _
theorem rcA_self (an ad : Int) : rcA an ad an ad = 0 := by
  unfold rcA rcmp cmpI; split <;> simp
theorem rcA_bd (an ad bn bd : Int) : -1 ≤ rcA an ad bn bd ∧ rcA an ad bn bd ≤ 1 := by
  unfold rcA; split
  · exact cmpI_bd _ _
  · omega
/-- Cross products are transitive. -/
theorem cross_le {an ad bn bd cn cd : Int} (hb : 1 ≤ bd) (ha : 1 ≤ ad) (hc : 1 ≤ cd) (h1 : an * bd ≤ bn * ad) (h2 : bn * cd ≤ cn * bd) :
    an * cd ≤ cn * ad ∧ (an * cd = cn * ad → an * bd = bn * ad ∧ bn * cd = cn * bd) := by
  have e1 := Int.mul_le_mul_of_nonneg_right h1 (show 0 ≤ cd by omega)
  have e2 := Int.mul_le_mul_of_nonneg_right h2 (show 0 ≤ ad by omega)
  have c1 : an * cd * bd = an * bd * cd := Int.mul_right_comm _ _ _
  have c2 : bn * ad * cd = bn * cd * ad := Int.mul_right_comm _ _ _
  have c3 : cn * bd * ad = cn * ad * bd := Int.mul_right_comm _ _ _
  refine ⟨Int.le_of_mul_le_mul_right (show (an * cd) * bd ≤ (cn * ad) * bd by omega) (by omega), fun h => ?_⟩
  have c4 : an * cd * bd = cn * ad * bd := by rw [h]
  exact ⟨Int.eq_of_mul_eq_mul_right (show cd ≠ 0 by omega) (show an * bd * cd = bn * ad * cd by omega), Int.eq_of_mul_eq_mul_right (show ad ≠ 0 by omega) (show bn * cd * ad = cn * bd * ad by omega)⟩
theorem rcA_trans {an ad bn bd cn cd : Int} (ha : 0 ≤ an ∧ 1 ≤ ad) (hb : 0 ≤ bn ∧ 1 ≤ bd) (hc : 0 ≤ cn ∧ 1 ≤ cd) (h1 : rcA an ad bn bd ≤ 0) (h2 : rcA bn bd cn cd ≤ 0) :
    rcA an ad cn cd < 0 ∨ rcA an ad cn cd = 0 ∧ rcA an ad bn bd = 0 ∧ rcA bn bd cn cd = 0 := by
  have f1 : rcA an ad bn bd = cmpI (an * bd) (bn * ad) := if_pos ⟨ha, hb⟩
  have f2 : rcA bn bd cn cd = cmpI (bn * cd) (cn * bd) := if_pos ⟨hb, hc⟩
  have f3 : rcA an ad cn cd = cmpI (an * cd) (cn * ad) := if_pos ⟨ha, hc⟩
  rw [f1] at h1 ⊢
  rw [f2] at h2 ⊢
  rw [f3]
  obtain ⟨k1, k2⟩ := cross_le hb.2 ha.2 hc.2 ((cmpI_le _ _).1 h1) ((cmpI_le _ _).1 h2)
  by_cases h : an * cd = cn * ad
  · obtain ⟨k3, k4⟩ := k2 h
    right
    unfold cmpI
    simp [h, k3, k4]
  · left
    rw [cmpI_lt]
    omega

/-- The walk, every test decided: 'r a b c' says which fractions are valid. -/
theorem law_walk (an ad bn bd cn cd x y z : Int) (ra rb rc : Bool)
    (hx : -1 ≤ x ∧ x ≤ 1) (hy : -1 ≤ y ∧ y ≤ 1) (hz : -1 ≤ z ∧ z ≤ 1)
    (hab : Pure Try.prog 36 #[F2 an ad, F2 bn bd] (.int .i64 x)) (hbc : Pure Try.prog 36 #[F2 bn bd, F2 cn cd] (.int .i64 y)) (hac : Pure Try.prog 36 #[F2 an ad, F2 cn cd] (.int .i64 z))
    (hba : Pure Try.prog 36 #[F2 bn bd, F2 an ad] (.int .i64 (-x))) (haa : Pure Try.prog 36 #[F2 an ad, F2 an ad] (.int .i64 0))
    (rA : Pure Try.prog 38 #[F2 an ad] (.bool ra)) (rB : Pure Try.prog 38 #[F2 bn bd] (.bool rb)) (rC : Pure Try.prog 38 #[F2 cn cd] (.bool rc))
    (hw : ra = false ∨ rb = false ∨ rc = false ∨ 0 < x ∨ 0 < y ∨ z < 0 ∨ z = 0 ∧ x = 0 ∧ y = 0) :
    Pure Try.prog 9 #[F2 an ad, F2 bn bd, F2 cn cd] (.bool true) := by
  intro w
  obtain ⟨hx1, hx2⟩ := hx; obtain ⟨hy1, hy2⟩ := hy; obtain ⟨hz1, hz2⟩ := hz
  have HAB := Lib.hid hab; have HBC := Lib.hid hbc; have HAC := Lib.hid hac; have HBA := Lib.hid hba; have HAA := Lib.hid haa
  have RA := Lib.hid rA; have RB := Lib.hid rB; have RC := Lib.hid rC; have HW := Lib.hid hw
  clear hab hbc hac hba haa rA rB rC hw
  have hne : ((-x : Int) != -x) = false := by simp
  go_enter Try.func9, Try.ntmps9
  go_wp2
  refine wp_region_pure (by kernel_rfl) (by kernel_rfl) ?_
  repeat (first | go_big_quiet_step (((first | (go_at_call 36; with_reducible exact HAB.out.quiet) | (go_at_call 36; with_reducible exact HBC.out.quiet) | (go_at_call 36; with_reducible exact HAC.out.quiet)))) | (quiet_step (((first | (go_at_call 36; with_reducible exact HAB.out.quiet) | (go_at_call 36; with_reducible exact HBC.out.quiet) | (go_at_call 36; with_reducible exact HAC.out.quiet))))))
  refine wpQuiet_nil ?_
  rintro w1 ⟨x1, hx1⟩
  have hb1 := ext_below _ x1
  rw [← hx1] at hb1
  clear hx1 x1
  obtain ⟨hc1, hf1, hl1⟩ := bcell hb1
  have hz1_0 : w.heap.size < w1.heap.size := hl1 _ (by simp; try omega)
  have hz1_1 : w.heap.size + 1 < w1.heap.size := hl1 _ (by simp; try omega)
  have hz1_2 : w.heap.size + 2 < w1.heap.size := hl1 _ (by simp; try omega)
  clear hl1
  go_wp2_with fail
  (with_reducible refine (HBA.out _).mono ?_)
  rintro e w2 ⟨rfl, hb2⟩
  have hb1_2 := bel hb1 hb2 (by (repeat (first | assumption | exact Below.refl _ _ | refine ba ?_ _ | refine bd ?_ | refine bdn ?_ _ | refine bs ?_ (by first | omega | (simp; done) | (simp; omega)) _ | refine bt ?_ (by assumption))))
  obtain ⟨hc1_2, hf1_2, hl1_2⟩ := bcell hb1_2
  have hz1_2_0 : w.heap.size < w2.heap.size := hl1_2 _ (by simp; try omega)
  have hz1_2_1 : w.heap.size + 1 < w2.heap.size := hl1_2 _ (by simp; try omega)
  have hz1_2_2 : w.heap.size + 2 < w2.heap.size := hl1_2 _ (by simp; try omega)
  clear hl1_2
  clear hc1 hf1 hz1_0 hz1_1 hz1_2
  obtain ⟨hc2, hf2, hl2⟩ := bcell hb2
  clear hl2
  go_wp2_with fail
  (with_reducible refine (HAA.out _).mono ?_)
  rintro e w3 ⟨rfl, hb3⟩
  have hb1_3 := bel hb1_2 hb3 (by (repeat (first | assumption | exact Below.refl _ _ | refine ba ?_ _ | refine bd ?_ | refine bdn ?_ _ | refine bs ?_ (by first | omega | (simp; done) | (simp; omega)) _ | refine bt ?_ (by assumption))))
  obtain ⟨hc1_3, hf1_3, hl1_3⟩ := bcell hb1_3
  have hz1_3_0 : w.heap.size < w3.heap.size := hl1_3 _ (by simp; try omega)
  have hz1_3_1 : w.heap.size + 1 < w3.heap.size := hl1_3 _ (by simp; try omega)
  have hz1_3_2 : w.heap.size + 2 < w3.heap.size := hl1_3 _ (by simp; try omega)
  clear hl1_3
  have hb2_3 := bel hb2 hb3 (by (repeat (first | assumption | exact Below.refl _ _ | refine ba ?_ _ | refine bd ?_ | refine bdn ?_ _ | refine bs ?_ (by first | omega | (simp; done) | (simp; omega)) _ | refine bt ?_ (by assumption))))
  clear hc1_2 hf1_2 hz1_2_0 hz1_2_1 hz1_2_2 hc2 hf2
  obtain ⟨hc3, hf3, hl3⟩ := bcell hb3
  clear hl3
  go_wp2_with fail
  (with_reducible refine (RA.out _).mono ?_)
  rintro e w4 ⟨rfl, hb4⟩
  have hb1_4 := bel hb1_3 hb4 (by (repeat (first | assumption | exact Below.refl _ _ | refine ba ?_ _ | refine bd ?_ | refine bdn ?_ _ | refine bs ?_ (by first | omega | (simp; done) | (simp; omega)) _ | refine bt ?_ (by assumption))))
  obtain ⟨hc1_4, hf1_4, hl1_4⟩ := bcell hb1_4
  have hz1_4_0 : w.heap.size < w4.heap.size := hl1_4 _ (by simp; try omega)
  have hz1_4_1 : w.heap.size + 1 < w4.heap.size := hl1_4 _ (by simp; try omega)
  have hz1_4_2 : w.heap.size + 2 < w4.heap.size := hl1_4 _ (by simp; try omega)
  clear hl1_4
  have hb2_4 := bel hb2_3 hb4 (by (repeat (first | assumption | exact Below.refl _ _ | refine ba ?_ _ | refine bd ?_ | refine bdn ?_ _ | refine bs ?_ (by first | omega | (simp; done) | (simp; omega)) _ | refine bt ?_ (by assumption))))
  have hb3_4 := bel hb3 hb4 (by (repeat (first | assumption | exact Below.refl _ _ | refine ba ?_ _ | refine bd ?_ | refine bdn ?_ _ | refine bs ?_ (by first | omega | (simp; done) | (simp; omega)) _ | refine bt ?_ (by assumption))))
  clear hc1_3 hf1_3 hz1_3_0 hz1_3_1 hz1_3_2 hc3 hf3
  obtain ⟨hc4, hf4, hl4⟩ := bcell hb4
  clear hl4
  cases ra
  · go_wp2_with fail
    (with_reducible refine (works2 _).mono ?_)
    rintro e w5 ⟨rfl, hb5⟩
    have hb1_5 := bel hb1_4 hb5 (by (repeat (first | assumption | exact Below.refl _ _ | refine ba ?_ _ | refine bd ?_ | refine bdn ?_ _ | refine bs ?_ (by first | omega | (simp; done) | (simp; omega)) _ | refine bt ?_ (by assumption))))
    obtain ⟨hc1_5, hf1_5, hl1_5⟩ := bcell hb1_5
    have hz1_5_0 : w.heap.size < w5.heap.size := hl1_5 _ (by simp; try omega)
    have hz1_5_1 : w.heap.size + 1 < w5.heap.size := hl1_5 _ (by simp; try omega)
    have hz1_5_2 : w.heap.size + 2 < w5.heap.size := hl1_5 _ (by simp; try omega)
    clear hl1_5
    have hb2_5 := bel hb2_4 hb5 (by (repeat (first | assumption | exact Below.refl _ _ | refine ba ?_ _ | refine bd ?_ | refine bdn ?_ _ | refine bs ?_ (by first | omega | (simp; done) | (simp; omega)) _ | refine bt ?_ (by assumption))))
    have hb3_5 := bel hb3_4 hb5 (by (repeat (first | assumption | exact Below.refl _ _ | refine ba ?_ _ | refine bd ?_ | refine bdn ?_ _ | refine bs ?_ (by first | omega | (simp; done) | (simp; omega)) _ | refine bt ?_ (by assumption))))
    have hb4_5 := bel hb4 hb5 (by (repeat (first | assumption | exact Below.refl _ _ | refine ba ?_ _ | refine bd ?_ | refine bdn ?_ _ | refine bs ?_ (by first | omega | (simp; done) | (simp; omega)) _ | refine bt ?_ (by assumption))))
    clear hc1_4 hf1_4 hz1_4_0 hz1_4_1 hz1_4_2 hc4 hf4
    obtain ⟨hc5, hf5, hl5⟩ := bcell hb5
    clear hl5
    go_wp2
    go_ret
    refine ⟨rfl, ?_⟩
    (repeat (first | assumption | exact Below.refl _ _ | refine ba ?_ _ | refine bd ?_ | refine bdn ?_ _ | refine bs ?_ (by first | omega | (simp; done) | (simp; omega)) _ | refine bt ?_ (by assumption)))
  go_wp2_with fail
  (with_reducible refine (RB.out _).mono ?_)
  rintro e w5 ⟨rfl, hb5⟩
  have hb1_5 := bel hb1_4 hb5 (by (repeat (first | assumption | exact Below.refl _ _ | refine ba ?_ _ | refine bd ?_ | refine bdn ?_ _ | refine bs ?_ (by first | omega | (simp; done) | (simp; omega)) _ | refine bt ?_ (by assumption))))
  obtain ⟨hc1_5, hf1_5, hl1_5⟩ := bcell hb1_5
  have hz1_5_0 : w.heap.size < w5.heap.size := hl1_5 _ (by simp; try omega)
  have hz1_5_1 : w.heap.size + 1 < w5.heap.size := hl1_5 _ (by simp; try omega)
  have hz1_5_2 : w.heap.size + 2 < w5.heap.size := hl1_5 _ (by simp; try omega)
  clear hl1_5
  have hb2_5 := bel hb2_4 hb5 (by (repeat (first | assumption | exact Below.refl _ _ | refine ba ?_ _ | refine bd ?_ | refine bdn ?_ _ | refine bs ?_ (by first | omega | (simp; done) | (simp; omega)) _ | refine bt ?_ (by assumption))))
  have hb3_5 := bel hb3_4 hb5 (by (repeat (first | assumption | exact Below.refl _ _ | refine ba ?_ _ | refine bd ?_ | refine bdn ?_ _ | refine bs ?_ (by first | omega | (simp; done) | (simp; omega)) _ | refine bt ?_ (by assumption))))
  have hb4_5 := bel hb4 hb5 (by (repeat (first | assumption | exact Below.refl _ _ | refine ba ?_ _ | refine bd ?_ | refine bdn ?_ _ | refine bs ?_ (by first | omega | (simp; done) | (simp; omega)) _ | refine bt ?_ (by assumption))))
  clear hc1_4 hf1_4 hz1_4_0 hz1_4_1 hz1_4_2 hc4 hf4
  obtain ⟨hc5, hf5, hl5⟩ := bcell hb5
  clear hl5
  cases rb
  · go_wp2_with fail
    (with_reducible refine (works2 _).mono ?_)
    rintro e w6 ⟨rfl, hb6⟩
    have hb1_6 := bel hb1_5 hb6 (by (repeat (first | assumption | exact Below.refl _ _ | refine ba ?_ _ | refine bd ?_ | refine bdn ?_ _ | refine bs ?_ (by first | omega | (simp; done) | (simp; omega)) _ | refine bt ?_ (by assumption))))
    obtain ⟨hc1_6, hf1_6, hl1_6⟩ := bcell hb1_6
    have hz1_6_0 : w.heap.size < w6.heap.size := hl1_6 _ (by simp; try omega)
    have hz1_6_1 : w.heap.size + 1 < w6.heap.size := hl1_6 _ (by simp; try omega)
    have hz1_6_2 : w.heap.size + 2 < w6.heap.size := hl1_6 _ (by simp; try omega)
    clear hl1_6
    have hb2_6 := bel hb2_5 hb6 (by (repeat (first | assumption | exact Below.refl _ _ | refine ba ?_ _ | refine bd ?_ | refine bdn ?_ _ | refine bs ?_ (by first | omega | (simp; done) | (simp; omega)) _ | refine bt ?_ (by assumption))))
    have hb3_6 := bel hb3_5 hb6 (by (repeat (first | assumption | exact Below.refl _ _ | refine ba ?_ _ | refine bd ?_ | refine bdn ?_ _ | refine bs ?_ (by first | omega | (simp; done) | (simp; omega)) _ | refine bt ?_ (by assumption))))
    have hb4_6 := bel hb4_5 hb6 (by (repeat (first | assumption | exact Below.refl _ _ | refine ba ?_ _ | refine bd ?_ | refine bdn ?_ _ | refine bs ?_ (by first | omega | (simp; done) | (simp; omega)) _ | refine bt ?_ (by assumption))))
    have hb5_6 := bel hb5 hb6 (by (repeat (first | assumption | exact Below.refl _ _ | refine ba ?_ _ | refine bd ?_ | refine bdn ?_ _ | refine bs ?_ (by first | omega | (simp; done) | (simp; omega)) _ | refine bt ?_ (by assumption))))
    clear hc1_5 hf1_5 hz1_5_0 hz1_5_1 hz1_5_2 hc5 hf5
    obtain ⟨hc6, hf6, hl6⟩ := bcell hb6
    clear hl6
    go_wp2
    go_ret
    refine ⟨rfl, ?_⟩
    (repeat (first | assumption | exact Below.refl _ _ | refine ba ?_ _ | refine bd ?_ | refine bdn ?_ _ | refine bs ?_ (by first | omega | (simp; done) | (simp; omega)) _ | refine bt ?_ (by assumption)))
  go_wp2_with fail
  (with_reducible refine (RC.out _).mono ?_)
  rintro e w6 ⟨rfl, hb6⟩
  have hb1_6 := bel hb1_5 hb6 (by (repeat (first | assumption | exact Below.refl _ _ | refine ba ?_ _ | refine bd ?_ | refine bdn ?_ _ | refine bs ?_ (by first | omega | (simp; done) | (simp; omega)) _ | refine bt ?_ (by assumption))))
  obtain ⟨hc1_6, hf1_6, hl1_6⟩ := bcell hb1_6
  have hz1_6_0 : w.heap.size < w6.heap.size := hl1_6 _ (by simp; try omega)
  have hz1_6_1 : w.heap.size + 1 < w6.heap.size := hl1_6 _ (by simp; try omega)
  have hz1_6_2 : w.heap.size + 2 < w6.heap.size := hl1_6 _ (by simp; try omega)
  clear hl1_6
  have hb2_6 := bel hb2_5 hb6 (by (repeat (first | assumption | exact Below.refl _ _ | refine ba ?_ _ | refine bd ?_ | refine bdn ?_ _ | refine bs ?_ (by first | omega | (simp; done) | (simp; omega)) _ | refine bt ?_ (by assumption))))
  have hb3_6 := bel hb3_5 hb6 (by (repeat (first | assumption | exact Below.refl _ _ | refine ba ?_ _ | refine bd ?_ | refine bdn ?_ _ | refine bs ?_ (by first | omega | (simp; done) | (simp; omega)) _ | refine bt ?_ (by assumption))))
  have hb4_6 := bel hb4_5 hb6 (by (repeat (first | assumption | exact Below.refl _ _ | refine ba ?_ _ | refine bd ?_ | refine bdn ?_ _ | refine bs ?_ (by first | omega | (simp; done) | (simp; omega)) _ | refine bt ?_ (by assumption))))
  have hb5_6 := bel hb5 hb6 (by (repeat (first | assumption | exact Below.refl _ _ | refine ba ?_ _ | refine bd ?_ | refine bdn ?_ _ | refine bs ?_ (by first | omega | (simp; done) | (simp; omega)) _ | refine bt ?_ (by assumption))))
  clear hc1_5 hf1_5 hz1_5_0 hz1_5_1 hz1_5_2 hc5 hf5
  obtain ⟨hc6, hf6, hl6⟩ := bcell hb6
  clear hl6
  cases rc
  · go_wp2_with fail
    (with_reducible refine (works2 _).mono ?_)
    rintro e w7 ⟨rfl, hb7⟩
    have hb1_7 := bel hb1_6 hb7 (by (repeat (first | assumption | exact Below.refl _ _ | refine ba ?_ _ | refine bd ?_ | refine bdn ?_ _ | refine bs ?_ (by first | omega | (simp; done) | (simp; omega)) _ | refine bt ?_ (by assumption))))
    obtain ⟨hc1_7, hf1_7, hl1_7⟩ := bcell hb1_7
    have hz1_7_0 : w.heap.size < w7.heap.size := hl1_7 _ (by simp; try omega)
    have hz1_7_1 : w.heap.size + 1 < w7.heap.size := hl1_7 _ (by simp; try omega)
    have hz1_7_2 : w.heap.size + 2 < w7.heap.size := hl1_7 _ (by simp; try omega)
    clear hl1_7
    have hb2_7 := bel hb2_6 hb7 (by (repeat (first | assumption | exact Below.refl _ _ | refine ba ?_ _ | refine bd ?_ | refine bdn ?_ _ | refine bs ?_ (by first | omega | (simp; done) | (simp; omega)) _ | refine bt ?_ (by assumption))))
    have hb3_7 := bel hb3_6 hb7 (by (repeat (first | assumption | exact Below.refl _ _ | refine ba ?_ _ | refine bd ?_ | refine bdn ?_ _ | refine bs ?_ (by first | omega | (simp; done) | (simp; omega)) _ | refine bt ?_ (by assumption))))
    have hb4_7 := bel hb4_6 hb7 (by (repeat (first | assumption | exact Below.refl _ _ | refine ba ?_ _ | refine bd ?_ | refine bdn ?_ _ | refine bs ?_ (by first | omega | (simp; done) | (simp; omega)) _ | refine bt ?_ (by assumption))))
    have hb5_7 := bel hb5_6 hb7 (by (repeat (first | assumption | exact Below.refl _ _ | refine ba ?_ _ | refine bd ?_ | refine bdn ?_ _ | refine bs ?_ (by first | omega | (simp; done) | (simp; omega)) _ | refine bt ?_ (by assumption))))
    have hb6_7 := bel hb6 hb7 (by (repeat (first | assumption | exact Below.refl _ _ | refine ba ?_ _ | refine bd ?_ | refine bdn ?_ _ | refine bs ?_ (by first | omega | (simp; done) | (simp; omega)) _ | refine bt ?_ (by assumption))))
    clear hc1_6 hf1_6 hz1_6_0 hz1_6_1 hz1_6_2 hc6 hf6
    obtain ⟨hc7, hf7, hl7⟩ := bcell hb7
    clear hl7
    go_wp2
    go_ret
    refine ⟨rfl, ?_⟩
    (repeat (first | assumption | exact Below.refl _ _ | refine ba ?_ _ | refine bd ?_ | refine bdn ?_ _ | refine bs ?_ (by first | omega | (simp; done) | (simp; omega)) _ | refine bt ?_ (by assumption)))
  by_cases hxp : 0 < x
  · go_wp2_with fail
    (with_reducible refine (works2 _).mono ?_)
    rintro e w7 ⟨rfl, hb7⟩
    have hb1_7 := bel hb1_6 hb7 (by (repeat (first | assumption | exact Below.refl _ _ | refine ba ?_ _ | refine bd ?_ | refine bdn ?_ _ | refine bs ?_ (by first | omega | (simp; done) | (simp; omega)) _ | refine bt ?_ (by assumption))))
    obtain ⟨hc1_7, hf1_7, hl1_7⟩ := bcell hb1_7
    have hz1_7_0 : w.heap.size < w7.heap.size := hl1_7 _ (by simp; try omega)
    have hz1_7_1 : w.heap.size + 1 < w7.heap.size := hl1_7 _ (by simp; try omega)
    have hz1_7_2 : w.heap.size + 2 < w7.heap.size := hl1_7 _ (by simp; try omega)
    clear hl1_7
    have hb2_7 := bel hb2_6 hb7 (by (repeat (first | assumption | exact Below.refl _ _ | refine ba ?_ _ | refine bd ?_ | refine bdn ?_ _ | refine bs ?_ (by first | omega | (simp; done) | (simp; omega)) _ | refine bt ?_ (by assumption))))
    have hb3_7 := bel hb3_6 hb7 (by (repeat (first | assumption | exact Below.refl _ _ | refine ba ?_ _ | refine bd ?_ | refine bdn ?_ _ | refine bs ?_ (by first | omega | (simp; done) | (simp; omega)) _ | refine bt ?_ (by assumption))))
    have hb4_7 := bel hb4_6 hb7 (by (repeat (first | assumption | exact Below.refl _ _ | refine ba ?_ _ | refine bd ?_ | refine bdn ?_ _ | refine bs ?_ (by first | omega | (simp; done) | (simp; omega)) _ | refine bt ?_ (by assumption))))
    have hb5_7 := bel hb5_6 hb7 (by (repeat (first | assumption | exact Below.refl _ _ | refine ba ?_ _ | refine bd ?_ | refine bdn ?_ _ | refine bs ?_ (by first | omega | (simp; done) | (simp; omega)) _ | refine bt ?_ (by assumption))))
    have hb6_7 := bel hb6 hb7 (by (repeat (first | assumption | exact Below.refl _ _ | refine ba ?_ _ | refine bd ?_ | refine bdn ?_ _ | refine bs ?_ (by first | omega | (simp; done) | (simp; omega)) _ | refine bt ?_ (by assumption))))
    clear hc1_6 hf1_6 hz1_6_0 hz1_6_1 hz1_6_2 hc6 hf6
    obtain ⟨hc7, hf7, hl7⟩ := bcell hb7
    clear hl7
    go_wp2
    go_ret
    refine ⟨rfl, ?_⟩
    (repeat (first | assumption | exact Below.refl _ _ | refine ba ?_ _ | refine bd ?_ | refine bdn ?_ _ | refine bs ?_ (by first | omega | (simp; done) | (simp; omega)) _ | refine bt ?_ (by assumption)))
  by_cases hyp : 0 < y
  · go_wp2_with fail
    (with_reducible refine (works2 _).mono ?_)
    rintro e w7 ⟨rfl, hb7⟩
    have hb1_7 := bel hb1_6 hb7 (by (repeat (first | assumption | exact Below.refl _ _ | refine ba ?_ _ | refine bd ?_ | refine bdn ?_ _ | refine bs ?_ (by first | omega | (simp; done) | (simp; omega)) _ | refine bt ?_ (by assumption))))
    obtain ⟨hc1_7, hf1_7, hl1_7⟩ := bcell hb1_7
    have hz1_7_0 : w.heap.size < w7.heap.size := hl1_7 _ (by simp; try omega)
    have hz1_7_1 : w.heap.size + 1 < w7.heap.size := hl1_7 _ (by simp; try omega)
    have hz1_7_2 : w.heap.size + 2 < w7.heap.size := hl1_7 _ (by simp; try omega)
    clear hl1_7
    have hb2_7 := bel hb2_6 hb7 (by (repeat (first | assumption | exact Below.refl _ _ | refine ba ?_ _ | refine bd ?_ | refine bdn ?_ _ | refine bs ?_ (by first | omega | (simp; done) | (simp; omega)) _ | refine bt ?_ (by assumption))))
    have hb3_7 := bel hb3_6 hb7 (by (repeat (first | assumption | exact Below.refl _ _ | refine ba ?_ _ | refine bd ?_ | refine bdn ?_ _ | refine bs ?_ (by first | omega | (simp; done) | (simp; omega)) _ | refine bt ?_ (by assumption))))
    have hb4_7 := bel hb4_6 hb7 (by (repeat (first | assumption | exact Below.refl _ _ | refine ba ?_ _ | refine bd ?_ | refine bdn ?_ _ | refine bs ?_ (by first | omega | (simp; done) | (simp; omega)) _ | refine bt ?_ (by assumption))))
    have hb5_7 := bel hb5_6 hb7 (by (repeat (first | assumption | exact Below.refl _ _ | refine ba ?_ _ | refine bd ?_ | refine bdn ?_ _ | refine bs ?_ (by first | omega | (simp; done) | (simp; omega)) _ | refine bt ?_ (by assumption))))
    have hb6_7 := bel hb6 hb7 (by (repeat (first | assumption | exact Below.refl _ _ | refine ba ?_ _ | refine bd ?_ | refine bdn ?_ _ | refine bs ?_ (by first | omega | (simp; done) | (simp; omega)) _ | refine bt ?_ (by assumption))))
    clear hc1_6 hf1_6 hz1_6_0 hz1_6_1 hz1_6_2 hc6 hf6
    obtain ⟨hc7, hf7, hl7⟩ := bcell hb7
    clear hl7
    go_wp2
    go_ret
    refine ⟨rfl, ?_⟩
    (repeat (first | assumption | exact Below.refl _ _ | refine ba ?_ _ | refine bd ?_ | refine bdn ?_ _ | refine bs ?_ (by first | omega | (simp; done) | (simp; omega)) _ | refine bt ?_ (by assumption)))
  have hxn : x ≤ 0 := by omega
  have hyn : y ≤ 0 := by omega
  by_cases hzn : z < 0
  · have hz0 : (z == 0) = false := by simp; omega
    go_wp2_with fail
    (with_reducible refine (works2 _).mono ?_)
    rintro e w7 ⟨rfl, hb7⟩
    have hb1_7 := bel hb1_6 hb7 (by (repeat (first | assumption | exact Below.refl _ _ | refine ba ?_ _ | refine bd ?_ | refine bdn ?_ _ | refine bs ?_ (by first | omega | (simp; done) | (simp; omega)) _ | refine bt ?_ (by assumption))))
    obtain ⟨hc1_7, hf1_7, hl1_7⟩ := bcell hb1_7
    have hz1_7_0 : w.heap.size < w7.heap.size := hl1_7 _ (by simp; try omega)
    have hz1_7_1 : w.heap.size + 1 < w7.heap.size := hl1_7 _ (by simp; try omega)
    have hz1_7_2 : w.heap.size + 2 < w7.heap.size := hl1_7 _ (by simp; try omega)
    clear hl1_7
    have hb2_7 := bel hb2_6 hb7 (by (repeat (first | assumption | exact Below.refl _ _ | refine ba ?_ _ | refine bd ?_ | refine bdn ?_ _ | refine bs ?_ (by first | omega | (simp; done) | (simp; omega)) _ | refine bt ?_ (by assumption))))
    have hb3_7 := bel hb3_6 hb7 (by (repeat (first | assumption | exact Below.refl _ _ | refine ba ?_ _ | refine bd ?_ | refine bdn ?_ _ | refine bs ?_ (by first | omega | (simp; done) | (simp; omega)) _ | refine bt ?_ (by assumption))))
    have hb4_7 := bel hb4_6 hb7 (by (repeat (first | assumption | exact Below.refl _ _ | refine ba ?_ _ | refine bd ?_ | refine bdn ?_ _ | refine bs ?_ (by first | omega | (simp; done) | (simp; omega)) _ | refine bt ?_ (by assumption))))
    have hb5_7 := bel hb5_6 hb7 (by (repeat (first | assumption | exact Below.refl _ _ | refine ba ?_ _ | refine bd ?_ | refine bdn ?_ _ | refine bs ?_ (by first | omega | (simp; done) | (simp; omega)) _ | refine bt ?_ (by assumption))))
    have hb6_7 := bel hb6 hb7 (by (repeat (first | assumption | exact Below.refl _ _ | refine ba ?_ _ | refine bd ?_ | refine bdn ?_ _ | refine bs ?_ (by first | omega | (simp; done) | (simp; omega)) _ | refine bt ?_ (by assumption))))
    clear hc1_6 hf1_6 hz1_6_0 hz1_6_1 hz1_6_2 hc6 hf6
    obtain ⟨hc7, hf7, hl7⟩ := bcell hb7
    clear hl7
    go_wp2
    go_ret
    refine ⟨rfl, ?_⟩
    (repeat (first | assumption | exact Below.refl _ _ | refine ba ?_ _ | refine bd ?_ | refine bdn ?_ _ | refine bs ?_ (by first | omega | (simp; done) | (simp; omega)) _ | refine bt ?_ (by assumption)))
  · have hw := HW.out
    obtain ⟨rfl, rfl, rfl⟩ : z = 0 ∧ x = 0 ∧ y = 0 := by simp at hw; omega
    clear hw
    go_wp2_with fail
    (with_reducible refine (works2 _).mono ?_)
    rintro e w7 ⟨rfl, hb7⟩
    have hb1_7 := bel hb1_6 hb7 (by (repeat (first | assumption | exact Below.refl _ _ | refine ba ?_ _ | refine bd ?_ | refine bdn ?_ _ | refine bs ?_ (by first | omega | (simp; done) | (simp; omega)) _ | refine bt ?_ (by assumption))))
    obtain ⟨hc1_7, hf1_7, hl1_7⟩ := bcell hb1_7
    have hz1_7_0 : w.heap.size < w7.heap.size := hl1_7 _ (by simp; try omega)
    have hz1_7_1 : w.heap.size + 1 < w7.heap.size := hl1_7 _ (by simp; try omega)
    have hz1_7_2 : w.heap.size + 2 < w7.heap.size := hl1_7 _ (by simp; try omega)
    clear hl1_7
    have hb2_7 := bel hb2_6 hb7 (by (repeat (first | assumption | exact Below.refl _ _ | refine ba ?_ _ | refine bd ?_ | refine bdn ?_ _ | refine bs ?_ (by first | omega | (simp; done) | (simp; omega)) _ | refine bt ?_ (by assumption))))
    have hb3_7 := bel hb3_6 hb7 (by (repeat (first | assumption | exact Below.refl _ _ | refine ba ?_ _ | refine bd ?_ | refine bdn ?_ _ | refine bs ?_ (by first | omega | (simp; done) | (simp; omega)) _ | refine bt ?_ (by assumption))))
    have hb4_7 := bel hb4_6 hb7 (by (repeat (first | assumption | exact Below.refl _ _ | refine ba ?_ _ | refine bd ?_ | refine bdn ?_ _ | refine bs ?_ (by first | omega | (simp; done) | (simp; omega)) _ | refine bt ?_ (by assumption))))
    have hb5_7 := bel hb5_6 hb7 (by (repeat (first | assumption | exact Below.refl _ _ | refine ba ?_ _ | refine bd ?_ | refine bdn ?_ _ | refine bs ?_ (by first | omega | (simp; done) | (simp; omega)) _ | refine bt ?_ (by assumption))))
    have hb6_7 := bel hb6 hb7 (by (repeat (first | assumption | exact Below.refl _ _ | refine ba ?_ _ | refine bd ?_ | refine bdn ?_ _ | refine bs ?_ (by first | omega | (simp; done) | (simp; omega)) _ | refine bt ?_ (by assumption))))
    clear hc1_6 hf1_6 hz1_6_0 hz1_6_1 hz1_6_2 hc6 hf6
    obtain ⟨hc7, hf7, hl7⟩ := bcell hb7
    clear hl7
    go_wp2
    go_ret
    refine ⟨rfl, ?_⟩
    (repeat (first | assumption | exact Below.refl _ _ | refine ba ?_ _ | refine bd ?_ | refine bdn ?_ _ | refine bs ?_ (by first | omega | (simp; done) | (simp; omega)) _ | refine bt ?_ (by assumption)))

theorem i64_of_wf {x : Int} (h : (Lit.int .i64 x).wf = true) : I64 x := by
  simp [Lit.wf, IntKind.min, IntKind.max, IntKind.signed, IntKind.bits] at h
  exact ⟨by omega, by omega⟩
theorem walk (an ad bn bd cn cd : Int) (i1 : I64 an) (i2 : I64 ad) (i3 : I64 bn) (i4 : I64 bd) (i5 : I64 cn) (i6 : I64 cd) :
    Pure Try.prog 9 #[F2 an ad, F2 bn bd, F2 cn cd] (.bool true) := by
  have hba := rc_any bn bd an ad i3 i4 i1 i2
  rw [rcA_swap] at hba
  have haa := rc_any an ad an ad i1 i2 i1 i2
  rw [rcA_self] at haa
  refine law_walk an ad bn bd cn cd _ _ _ _ _ _ (rcA_bd _ _ _ _) (rcA_bd _ _ _ _) (rcA_bd _ _ _ _) (rc_any _ _ _ _ i1 i2 i3 i4) (rc_any _ _ _ _ i3 i4 i5 i6) (rc_any _ _ _ _ i1 i2 i5 i6) hba haa (right_any _ _) (right_any _ _) (right_any _ _) ?_
  by_cases ha : 0 ≤ an ∧ 1 ≤ ad
  · by_cases hb : 0 ≤ bn ∧ 1 ≤ bd
    · by_cases hc : 0 ≤ cn ∧ 1 ≤ cd
      · by_cases hx : rcA an ad bn bd ≤ 0
        · by_cases hy : rcA bn bd cn cd ≤ 0
          · rcases rcA_trans ha hb hc hx hy with h | h
            · exact .inr (.inr (.inr (.inr (.inr (.inl h)))))
            · exact .inr (.inr (.inr (.inr (.inr (.inr h)))))
          · exact .inr (.inr (.inr (.inr (.inl (by omega)))))
        · exact .inr (.inr (.inr (.inl (by omega))))
      · exact .inr (.inr (.inl (decide_eq_false hc)))
    · exact .inr (.inl (decide_eq_false hb))
  · exact .inl (decide_eq_false ha)

namespace RatioOrders
open Go.ChangeShapes Go.WideShapes Go.ChangeAt Go.RowKit
theorem own : ownKnob Try.prog.godebug = none := by kernel_rfl
theorem laidOut : laidOutB Try.prog = true := by kernel_rfl
set_option maxRecDepth 100000 in
theorem lifted (os : Os) (started : os.Started) (H : Type) (enc : TypeId × Value → H) :
    ReturnsInHanded {} Try.checked os 9 .any (Rows.ratioOrdersSpec.pre6 enc Try.prog Try.f9 Rows.ratioOrdersRow.domain false) (Rows.ratioOrdersSpec.post enc Try.prog Try.f9 false true false false) := by
  refine returnsInHanded_of_change (C := Try.checked) own started (by kernel_rfl) Try.func9
    (ChangeSpec.witness6 (enc := enc) (C := Try.checked) false ⟨#[], #[F2 0 0, F2 0 0, F2 0 0], []⟩ 8 (by kernel_rfl) (by kernel_rfl) (by kernel_rfl) (by kernel_rfl)) ?_
  intro W base args ds gs before hval0 hW hcnd _
  have hval : ∀ (j : Nat) t v, Try.f9.params[j]? = some t → args[j]? = some v → Value.okWide Try.prog W .any base t v := hval0
  have hW' := hW
  obtain ⟨p, q, hA0, hV, rfl, hfz, hnd⟩ := hW
  have hA : DataW.TrodAll enc Try.prog W 0 (fun _ => true) true Try.f9.params.toList args.toList ds p := hA0
  rw [Try.params9] at hA hval
  obtain ⟨v0, vs0, d0, ds0, p0, q0, hargs, rfl, rfl, h0, r0⟩ := trodAll_cons hA
  obtain ⟨v1, vs1, d1, ds1, p1, q1, rfl, rfl, rfl, h1, r1⟩ := trodAll_cons r0
  obtain ⟨v2, vs2, d2, ds2, p2, q2, rfl, rfl, rfl, h2, r2⟩ := trodAll_cons r1
  obtain ⟨rfl, rfl, rfl⟩ := trodAll_nil r2
  obtain rfl : args = #[v0, v1, v2] := by cases args; simp_all
  obtain ⟨rfl, rfl⟩ := trodVars_none hV
  have k0 := h0
  have lt0 : ∀ x ∈ p0, x.block < W.heap.size := by obtain ⟨m, hm⟩ := k0; exact DataW.trod_lt m _ _ _ hm
  have k1 := h1
  have lt1 : ∀ x ∈ p1, x.block < W.heap.size := by obtain ⟨m, hm⟩ := k1; exact DataW.trod_lt m _ _ _ hm
  have k2 := h2
  have lt2 : ∀ x ∈ p2, x.block < W.heap.size := by obtain ⟨m, hm⟩ := k2; exact DataW.trod_lt m _ _ _ hm
  obtain ⟨c0_0, c0_1, y0_0, y0_1, m0, vEq0, rfl, rfl, hy0_0, hy0_1⟩ := Go.Joins.open_agg2 Try.underlying53 (by kernel_rfl) (by kernel_rfl : Try.prog.cellsOf 53 = 2) (hval 0 53 v0 rfl rfl) k0
  obtain ⟨an, eq0_0, _, wf_an⟩ := DataW.trod_int Try.underlying2 hy0_0
  obtain ⟨ad, eq0_1, _, wf_ad⟩ := DataW.trod_int Try.underlying2 hy0_1
  simp at eq0_0 eq0_1
  subst eq0_0 eq0_1
  subst vEq0
  obtain ⟨c1_0, c1_1, y1_0, y1_1, m1, vEq1, rfl, rfl, hy1_0, hy1_1⟩ := Go.Joins.open_agg2 Try.underlying53 (by kernel_rfl) (by kernel_rfl : Try.prog.cellsOf 53 = 2) (hval 1 53 v1 rfl rfl) k1
  obtain ⟨bn, eq1_0, _, wf_bn⟩ := DataW.trod_int Try.underlying2 hy1_0
  obtain ⟨bd, eq1_1, _, wf_bd⟩ := DataW.trod_int Try.underlying2 hy1_1
  simp at eq1_0 eq1_1
  subst eq1_0 eq1_1
  subst vEq1
  obtain ⟨c2_0, c2_1, y2_0, y2_1, m2, vEq2, rfl, rfl, hy2_0, hy2_1⟩ := Go.Joins.open_agg2 Try.underlying53 (by kernel_rfl) (by kernel_rfl : Try.prog.cellsOf 53 = 2) (hval 2 53 v2 rfl rfl) k2
  obtain ⟨cn, eq2_0, _, wf_cn⟩ := DataW.trod_int Try.underlying2 hy2_0
  obtain ⟨cd, eq2_1, _, wf_cd⟩ := DataW.trod_int Try.underlying2 hy2_1
  simp at eq2_0 eq2_1
  subst eq2_0 eq2_1
  subst vEq2
  clear hA0 hval0
  refine (walk an ad bn bd cn cd (i64_of_wf wf_an) (i64_of_wf wf_ad) (i64_of_wf wf_bn) (i64_of_wf wf_bd) (i64_of_wf wf_cn) (i64_of_wf wf_cd) W).mono fun e W' ⟨he, bel⟩ => ?_
  subst he
  exact ⟨_, rfl, _, _, _, [], _, [], hW', trodAll_mk1 (shut_bool Try.underlying4 _), (trodAll_cons_mk (Below.trod laidOut (by kernel_rfl) (of_decide_eq_true (by kernel_rfl)) k0 bel lt0) (trodAll_cons_mk (Below.trod laidOut (by kernel_rfl) (of_decide_eq_true (by kernel_rfl)) k1 bel lt1) (trodAll_cons_mk (Below.trod laidOut (by kernel_rfl) (of_decide_eq_true (by kernel_rfl)) k2 bel lt2) trodAll_mk0))), rfl, bel.frame _, fun h => by cases h⟩
theorem over : Rows.ratioOrdersRow.holds Try.pinned (OpenSpec.ofChange Rows.ratioOrdersSpec) :=
  OpenClaim.holds_of_wide 9 Try.f9 rfl rfl rfl rfl rfl rfl rfl ⟨rfl, rfl, rfl, rfl, rfl⟩ rfl rfl rfl rfl rfl (by kernel_rfl) Try.func9 (by kernel_rfl)
    (of_decide_eq_true (by kernel_rfl)) (by unfold Func.isWrapper; first | (rw [if_pos (by decide +kernel)]; kernel_rfl) | (rw [if_neg (by decide +kernel)]; exact ⟨rfl, rfl⟩))
    (fun os started H enc _ => lifted os started H enc)
theorem proved : Rows.RatioOrdersSaid := over
end RatioOrders
end Go.Proofs.Ytojfkpmdnhkanaa
