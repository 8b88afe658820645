/- For any fraction and any number the statement RatioLow returns true: Low's fraction is as great and in lowest terms, and what divides both numbers divides their Gcd. No condition. -/
import Derived.Test.YtojfkpmdnhkanaaRatioOrders
namespace Go.Proofs.Ytojfkpmdnhkanaa
open Go.RowKit
attribute [local go_sem] ext_cell ext_frozen

/-- Gcd of any two numbers. -/
def gcdA (a b : Int) : Int := if 0 ≤ a ∧ 0 ≤ b then (Int.gcd a b : Int) else 0
theorem gcd_any (a b : Int) (ha : I64 a) (hb : I64 b) : Pure Try.prog 42 #[.int .i64 a, .int .i64 b] (.int .i64 (gcdA a b)) := by
  unfold gcdA
  by_cases h : 0 ≤ a ∧ 0 ≤ b
  · rw [if_pos h]; exact gcd_yes a b ha hb h.1 h.2
  · rw [if_neg h]; exact gcd_no a b (by omega)

set_option maxHeartbeats 400000 in
theorem low_law_no (n d m : Int) (i1 : I64 n) (i2 : I64 d) (h : ¬ Rt n d) : Pure Try.prog 10 #[F2 n d, .int .i64 m] (.bool true) := by
  intro w
  have hl := low_no n d h
  have hr := right_no n d h
  have hg := gcd_any n d i1 i2
  have hz : (0 ≤ n ∧ 0 ≤ d) ∨ gcdA n d = 0 := by
    unfold gcdA
    by_cases h' : 0 ≤ n ∧ 0 ≤ d
    · exact .inl h'
    · rw [if_neg h']; exact .inr rfl
  generalize gcdA n d = g at *
  have HL := Lib.hid hl; have HR := Lib.hid hr; have HG := Lib.hid hg
  clear hl hr hg h
  by_cases hn : 0 ≤ n
  · by_cases hd : 0 ≤ d
    · clear hz
      go_enter Try.func10, Try.ntmps10
      go_wp2_with fail
      (with_reducible refine (HL.out _).mono ?_)
      rintro e w1 ⟨rfl, hb1⟩
      obtain ⟨hc1, hf1, hl1⟩ := bcell hb1
      have hz1_0 : w.heap.size < w1.heap.size := hl1 _ (by simp; try omega)
      clear hl1
      go_wp2_with fail
      (with_reducible refine (HG.out _).mono ?_)
      rintro e w2 ⟨rfl, hb2⟩
      have hb1_2 := bel hb1 hb2 (by (repeat (first | assumption | exact Below.refl _ _ | refine ba ?_ _ | refine bd ?_ | refine bdn ?_ _ | refine bs ?_ (by first | omega | (simp; done) | (simp; omega)) _ | refine bt ?_ (by assumption))))
      obtain ⟨hc1_2, hf1_2, hl1_2⟩ := bcell hb1_2
      have hz1_2_0 : w.heap.size < w2.heap.size := hl1_2 _ (by simp; try omega)
      clear hl1_2
      clear hc1 hf1 hz1_0
      obtain ⟨hc2, hf2, hl2⟩ := bcell hb2
      have hz2_0 : w1.heap.size < w2.heap.size := hl2 _ (by simp; try omega)
      clear hl2
      go_wp2_with fail
      (with_reducible refine (HR.out _).mono ?_)
      rintro e w3 ⟨rfl, hb3⟩
      have hb1_3 := bel hb1_2 hb3 (by (repeat (first | assumption | exact Below.refl _ _ | refine ba ?_ _ | refine bd ?_ | refine bdn ?_ _ | refine bs ?_ (by first | omega | (simp; done) | (simp; omega)) _ | refine bt ?_ (by assumption))))
      obtain ⟨hc1_3, hf1_3, hl1_3⟩ := bcell hb1_3
      have hz1_3_0 : w.heap.size < w3.heap.size := hl1_3 _ (by simp; try omega)
      clear hl1_3
      have hb2_3 := bel hb2 hb3 (by (repeat (first | assumption | exact Below.refl _ _ | refine ba ?_ _ | refine bd ?_ | refine bdn ?_ _ | refine bs ?_ (by first | omega | (simp; done) | (simp; omega)) _ | refine bt ?_ (by assumption))))
      obtain ⟨hc2_3, hf2_3, hl2_3⟩ := bcell hb2_3
      have hz2_3_0 : w1.heap.size < w3.heap.size := hl2_3 _ (by simp; try omega)
      clear hl2_3
      clear hc1_2 hf1_2 hz1_2_0 hc2 hf2 hz2_0
      obtain ⟨hc3, hf3, hl3⟩ := bcell hb3
      clear hl3
      go_wp2_with fail
      (with_reducible refine (works2 _).mono ?_)
      rintro e w4 ⟨rfl, hb4⟩
      have hb1_4 := bel hb1_3 hb4 (by (repeat (first | assumption | exact Below.refl _ _ | refine ba ?_ _ | refine bd ?_ | refine bdn ?_ _ | refine bs ?_ (by first | omega | (simp; done) | (simp; omega)) _ | refine bt ?_ (by assumption))))
      obtain ⟨hc1_4, hf1_4, hl1_4⟩ := bcell hb1_4
      have hz1_4_0 : w.heap.size < w4.heap.size := hl1_4 _ (by simp; try omega)
      clear hl1_4
      have hb2_4 := bel hb2_3 hb4 (by (repeat (first | assumption | exact Below.refl _ _ | refine ba ?_ _ | refine bd ?_ | refine bdn ?_ _ | refine bs ?_ (by first | omega | (simp; done) | (simp; omega)) _ | refine bt ?_ (by assumption))))
      obtain ⟨hc2_4, hf2_4, hl2_4⟩ := bcell hb2_4
      have hz2_4_0 : w1.heap.size < w4.heap.size := hl2_4 _ (by simp; try omega)
      clear hl2_4
      have hb3_4 := bel hb3 hb4 (by (repeat (first | assumption | exact Below.refl _ _ | refine ba ?_ _ | refine bd ?_ | refine bdn ?_ _ | refine bs ?_ (by first | omega | (simp; done) | (simp; omega)) _ | refine bt ?_ (by assumption))))
      clear hc1_3 hf1_3 hz1_3_0 hc2_3 hf2_3 hz2_3_0 hc3 hf3
      obtain ⟨hc4, hf4, hl4⟩ := bcell hb4
      clear hl4
      go_wp2
      go_ret
      refine ⟨rfl, ?_⟩
      (repeat (first | assumption | exact Below.refl _ _ | refine ba ?_ _ | refine bd ?_ | refine bdn ?_ _ | refine bs ?_ (by first | omega | (simp; done) | (simp; omega)) _ | refine bt ?_ (by assumption)))
    · obtain rfl : g = 0 := by omega
      clear hz
      go_enter Try.func10, Try.ntmps10
      go_wp2_with fail
      (with_reducible refine (HL.out _).mono ?_)
      rintro e w1 ⟨rfl, hb1⟩
      obtain ⟨hc1, hf1, hl1⟩ := bcell hb1
      have hz1_0 : w.heap.size < w1.heap.size := hl1 _ (by simp; try omega)
      clear hl1
      go_wp2_with fail
      (with_reducible refine (HG.out _).mono ?_)
      rintro e w2 ⟨rfl, hb2⟩
      have hb1_2 := bel hb1 hb2 (by (repeat (first | assumption | exact Below.refl _ _ | refine ba ?_ _ | refine bd ?_ | refine bdn ?_ _ | refine bs ?_ (by first | omega | (simp; done) | (simp; omega)) _ | refine bt ?_ (by assumption))))
      obtain ⟨hc1_2, hf1_2, hl1_2⟩ := bcell hb1_2
      have hz1_2_0 : w.heap.size < w2.heap.size := hl1_2 _ (by simp; try omega)
      clear hl1_2
      clear hc1 hf1 hz1_0
      obtain ⟨hc2, hf2, hl2⟩ := bcell hb2
      have hz2_0 : w1.heap.size < w2.heap.size := hl2 _ (by simp; try omega)
      clear hl2
      go_wp2_with fail
      (with_reducible refine (HR.out _).mono ?_)
      rintro e w3 ⟨rfl, hb3⟩
      have hb1_3 := bel hb1_2 hb3 (by (repeat (first | assumption | exact Below.refl _ _ | refine ba ?_ _ | refine bd ?_ | refine bdn ?_ _ | refine bs ?_ (by first | omega | (simp; done) | (simp; omega)) _ | refine bt ?_ (by assumption))))
      obtain ⟨hc1_3, hf1_3, hl1_3⟩ := bcell hb1_3
      have hz1_3_0 : w.heap.size < w3.heap.size := hl1_3 _ (by simp; try omega)
      clear hl1_3
      have hb2_3 := bel hb2 hb3 (by (repeat (first | assumption | exact Below.refl _ _ | refine ba ?_ _ | refine bd ?_ | refine bdn ?_ _ | refine bs ?_ (by first | omega | (simp; done) | (simp; omega)) _ | refine bt ?_ (by assumption))))
      obtain ⟨hc2_3, hf2_3, hl2_3⟩ := bcell hb2_3
      have hz2_3_0 : w1.heap.size < w3.heap.size := hl2_3 _ (by simp; try omega)
      clear hl2_3
      clear hc1_2 hf1_2 hz1_2_0 hc2 hf2 hz2_0
      obtain ⟨hc3, hf3, hl3⟩ := bcell hb3
      clear hl3
      go_wp2_with fail
      (with_reducible refine (works2 _).mono ?_)
      rintro e w4 ⟨rfl, hb4⟩
      have hb1_4 := bel hb1_3 hb4 (by (repeat (first | assumption | exact Below.refl _ _ | refine ba ?_ _ | refine bd ?_ | refine bdn ?_ _ | refine bs ?_ (by first | omega | (simp; done) | (simp; omega)) _ | refine bt ?_ (by assumption))))
      obtain ⟨hc1_4, hf1_4, hl1_4⟩ := bcell hb1_4
      have hz1_4_0 : w.heap.size < w4.heap.size := hl1_4 _ (by simp; try omega)
      clear hl1_4
      have hb2_4 := bel hb2_3 hb4 (by (repeat (first | assumption | exact Below.refl _ _ | refine ba ?_ _ | refine bd ?_ | refine bdn ?_ _ | refine bs ?_ (by first | omega | (simp; done) | (simp; omega)) _ | refine bt ?_ (by assumption))))
      obtain ⟨hc2_4, hf2_4, hl2_4⟩ := bcell hb2_4
      have hz2_4_0 : w1.heap.size < w4.heap.size := hl2_4 _ (by simp; try omega)
      clear hl2_4
      have hb3_4 := bel hb3 hb4 (by (repeat (first | assumption | exact Below.refl _ _ | refine ba ?_ _ | refine bd ?_ | refine bdn ?_ _ | refine bs ?_ (by first | omega | (simp; done) | (simp; omega)) _ | refine bt ?_ (by assumption))))
      clear hc1_3 hf1_3 hz1_3_0 hc2_3 hf2_3 hz2_3_0 hc3 hf3
      obtain ⟨hc4, hf4, hl4⟩ := bcell hb4
      clear hl4
      go_wp2
      go_ret
      refine ⟨rfl, ?_⟩
      (repeat (first | assumption | exact Below.refl _ _ | refine ba ?_ _ | refine bd ?_ | refine bdn ?_ _ | refine bs ?_ (by first | omega | (simp; done) | (simp; omega)) _ | refine bt ?_ (by assumption)))
  · obtain rfl : g = 0 := by omega
    clear hz
    go_enter Try.func10, Try.ntmps10
    go_wp2_with fail
    (with_reducible refine (HL.out _).mono ?_)
    rintro e w1 ⟨rfl, hb1⟩
    obtain ⟨hc1, hf1, hl1⟩ := bcell hb1
    have hz1_0 : w.heap.size < w1.heap.size := hl1 _ (by simp; try omega)
    clear hl1
    go_wp2_with fail
    (with_reducible refine (HG.out _).mono ?_)
    rintro e w2 ⟨rfl, hb2⟩
    have hb1_2 := bel hb1 hb2 (by (repeat (first | assumption | exact Below.refl _ _ | refine ba ?_ _ | refine bd ?_ | refine bdn ?_ _ | refine bs ?_ (by first | omega | (simp; done) | (simp; omega)) _ | refine bt ?_ (by assumption))))
    obtain ⟨hc1_2, hf1_2, hl1_2⟩ := bcell hb1_2
    have hz1_2_0 : w.heap.size < w2.heap.size := hl1_2 _ (by simp; try omega)
    clear hl1_2
    clear hc1 hf1 hz1_0
    obtain ⟨hc2, hf2, hl2⟩ := bcell hb2
    have hz2_0 : w1.heap.size < w2.heap.size := hl2 _ (by simp; try omega)
    clear hl2
    go_wp2_with fail
    (with_reducible refine (HR.out _).mono ?_)
    rintro e w3 ⟨rfl, hb3⟩
    have hb1_3 := bel hb1_2 hb3 (by (repeat (first | assumption | exact Below.refl _ _ | refine ba ?_ _ | refine bd ?_ | refine bdn ?_ _ | refine bs ?_ (by first | omega | (simp; done) | (simp; omega)) _ | refine bt ?_ (by assumption))))
    obtain ⟨hc1_3, hf1_3, hl1_3⟩ := bcell hb1_3
    have hz1_3_0 : w.heap.size < w3.heap.size := hl1_3 _ (by simp; try omega)
    clear hl1_3
    have hb2_3 := bel hb2 hb3 (by (repeat (first | assumption | exact Below.refl _ _ | refine ba ?_ _ | refine bd ?_ | refine bdn ?_ _ | refine bs ?_ (by first | omega | (simp; done) | (simp; omega)) _ | refine bt ?_ (by assumption))))
    obtain ⟨hc2_3, hf2_3, hl2_3⟩ := bcell hb2_3
    have hz2_3_0 : w1.heap.size < w3.heap.size := hl2_3 _ (by simp; try omega)
    clear hl2_3
    clear hc1_2 hf1_2 hz1_2_0 hc2 hf2 hz2_0
    obtain ⟨hc3, hf3, hl3⟩ := bcell hb3
    clear hl3
    go_wp2_with fail
    (with_reducible refine (works2 _).mono ?_)
    rintro e w4 ⟨rfl, hb4⟩
    have hb1_4 := bel hb1_3 hb4 (by (repeat (first | assumption | exact Below.refl _ _ | refine ba ?_ _ | refine bd ?_ | refine bdn ?_ _ | refine bs ?_ (by first | omega | (simp; done) | (simp; omega)) _ | refine bt ?_ (by assumption))))
    obtain ⟨hc1_4, hf1_4, hl1_4⟩ := bcell hb1_4
    have hz1_4_0 : w.heap.size < w4.heap.size := hl1_4 _ (by simp; try omega)
    clear hl1_4
    have hb2_4 := bel hb2_3 hb4 (by (repeat (first | assumption | exact Below.refl _ _ | refine ba ?_ _ | refine bd ?_ | refine bdn ?_ _ | refine bs ?_ (by first | omega | (simp; done) | (simp; omega)) _ | refine bt ?_ (by assumption))))
    obtain ⟨hc2_4, hf2_4, hl2_4⟩ := bcell hb2_4
    have hz2_4_0 : w1.heap.size < w4.heap.size := hl2_4 _ (by simp; try omega)
    clear hl2_4
    have hb3_4 := bel hb3 hb4 (by (repeat (first | assumption | exact Below.refl _ _ | refine ba ?_ _ | refine bd ?_ | refine bdn ?_ _ | refine bs ?_ (by first | omega | (simp; done) | (simp; omega)) _ | refine bt ?_ (by assumption))))
    clear hc1_3 hf1_3 hz1_3_0 hc2_3 hf2_3 hz2_3_0 hc3 hf3
    obtain ⟨hc4, hf4, hl4⟩ := bcell hb4
    clear hl4
    go_wp2
    go_ret
    refine ⟨rfl, ?_⟩
    (repeat (first | assumption | exact Below.refl _ _ | refine ba ?_ _ | refine bd ?_ | refine bdn ?_ _ | refine bs ?_ (by first | omega | (simp; done) | (simp; omega)) _ | refine bt ?_ (by assumption)))

theorem low_facts (n d : Int) (h : Rt n d) : ∃ g : Int, g = (Int.gcd n d : Int) ∧ 1 ≤ g ∧ g ≤ d ∧ 0 ≤ n / g ∧ n / g ≤ n ∧ 1 ≤ d / g ∧ d / g ≤ d ∧ rcA n d (n / g) (d / g) = 0 ∧ gcdA (n / g) (d / g) = 1 ∧ n % g = 0 ∧ d % g = 0 ∧ (∀ m : Int, 1 ≤ m → n % m = 0 → d % m = 0 → g % m = 0) := by
  have hn := h.num
  have hd := h.den
  have hg0 : 0 < Int.gcd n d := Int.gcd_pos_of_ne_zero_right _ (by omega)
  refine ⟨(Int.gcd n d : Int), rfl, by omega, ?_, ?_⟩
  · exact Int.le_of_dvd (by omega) (Int.gcd_dvd_right n d)
  have d1 : (Int.gcd n d : Int) ∣ n := Int.gcd_dvd_left n d
  have d2 : (Int.gcd n d : Int) ∣ d := Int.gcd_dvd_right n d
  have hgg : Int.gcd (n / (Int.gcd n d : Int)) (d / (Int.gcd n d : Int)) = 1 := Int.gcd_ediv_gcd_ediv_gcd hg0
  have hm : ∀ m : Int, 1 ≤ m → n % m = 0 → d % m = 0 → (Int.gcd n d : Int) % m = 0 := fun m _ h1 h2 =>
    Int.emod_eq_zero_of_dvd (Int.dvd_coe_gcd (Int.dvd_of_emod_eq_zero h1) (Int.dvd_of_emod_eq_zero h2))
  have hgp : (1 : Int) ≤ (Int.gcd n d : Int) := by omega
  generalize hG : (Int.gcd n d : Int) = g at *
  obtain ⟨a, rfl⟩ := d1
  obtain ⟨b, rfl⟩ := d2
  have q1 : g * a / g = a := Int.mul_ediv_cancel_left _ (by omega)
  have q2 : g * b / g = b := Int.mul_ediv_cancel_left _ (by omega)
  have ha : 0 ≤ a := by
    rcases Int.lt_or_le a 0 with h' | h'
    · have := Int.mul_neg_of_pos_of_neg (show 0 < g by omega) h'; omega
    · exact h'
  have hb : 1 ≤ b := by
    rcases Int.lt_or_le b 1 with h' | h'
    · have := Int.mul_nonpos_of_nonneg_of_nonpos (show 0 ≤ g by omega) (show b ≤ 0 by omega); omega
    · exact h'
  have q3 := Int.mul_le_mul_of_nonneg_right hgp ha
  have q4 := Int.mul_le_mul_of_nonneg_right hgp (show 0 ≤ b by omega)
  rw [q1, q2] at hgg ⊢
  refine ⟨ha, by omega, hb, by omega, ?_, ?_, Int.mul_emod_right _ _, Int.mul_emod_right _ _, hm⟩
  · unfold rcA
    rw [if_pos ⟨⟨hn, hd⟩, ha, hb⟩]
    unfold rcmp cmpI
    have : g * a * b = a * (g * b) := by rw [Int.mul_comm g a, Int.mul_assoc]
    simp [this]
  · unfold gcdA
    rw [if_pos ⟨ha, by omega⟩, hgg]; rfl

set_option maxHeartbeats 1000000 in
theorem low_law_yes (n d m : Int) (i1 : I64 n) (i2 : I64 d) (h : Rt n d) : Pure Try.prog 10 #[F2 n d, .int .i64 m] (.bool true) := by
  intro w
  obtain ⟨g, hgg, g1, gd, a0, an, b1, bd, hcmp, hgcd, hm1, hm2, hall⟩ := low_facts n d h
  have hl := low_yes n d i1 i2 h
  have hg := gcd_yes n d i1 i2 h.num (by have := h.den; omega)
  rw [← hgg] at hl hg
  have hr := right_yes n d h.num h.den
  have hr2 := right_yes (n / g) (d / g) a0 b1
  have hn := h.num
  have hd := h.den
  have hc := rc_any n d (n / g) (d / g) i1 i2 ⟨by omega, by have := i1.2; omega⟩ ⟨by omega, by have := i2.2; omega⟩
  have hg2 := gcd_any (n / g) (d / g) ⟨by omega, by have := i1.2; omega⟩ ⟨by omega, by have := i2.2; omega⟩
  rw [hcmp] at hc
  rw [hgcd] at hg2
  clear hgg hcmp hgcd h an bd
  generalize n / g = a at *
  generalize d / g = b at *
  have hM1 : (n % g == 0) = true := by simpa using hm1
  have hM2 : (d % g == 0) = true := by simpa using hm2
  have hM1' : (n % g != 0) = false := by simpa using hm1
  have hM2' : (d % g != 0) = false := by simpa using hm2
  have gne : (g == 0) = false := by simp; omega
  have glt : decide (g < 1) = false := by simp; omega
  have HALL := Lib.hid hall
  have HL := Lib.hid hl; have HR := Lib.hid hr; have HR2 := Lib.hid hr2; have HC := Lib.hid hc; have HG := Lib.hid hg; have HG2 := Lib.hid hg2
  clear hl hr hr2 hc hg hg2 hall hm1 hm2
  go_enter Try.func10, Try.ntmps10
  go_wp2_with fail
  (with_reducible refine (HL.out _).mono ?_)
  rintro e w1 ⟨rfl, hb1⟩
  obtain ⟨hc1, hf1, hl1⟩ := bcell hb1
  have hz1_0 : w.heap.size < w1.heap.size := hl1 _ (by simp; try omega)
  clear hl1
  go_wp2_with fail
  (with_reducible refine (HG.out _).mono ?_)
  rintro e w2 ⟨rfl, hb2⟩
  have hb1_2 := bel hb1 hb2 (by (repeat (first | assumption | exact Below.refl _ _ | refine ba ?_ _ | refine bd ?_ | refine bdn ?_ _ | refine bs ?_ (by first | omega | (simp; done) | (simp; omega)) _ | refine bt ?_ (by assumption))))
  obtain ⟨hc1_2, hf1_2, hl1_2⟩ := bcell hb1_2
  have hz1_2_0 : w.heap.size < w2.heap.size := hl1_2 _ (by simp; try omega)
  clear hl1_2
  clear hc1 hf1 hz1_0
  obtain ⟨hc2, hf2, hl2⟩ := bcell hb2
  have hz2_0 : w1.heap.size < w2.heap.size := hl2 _ (by simp; try omega)
  clear hl2
  go_wp2_with fail
  (with_reducible refine (HR.out _).mono ?_)
  rintro e w3 ⟨rfl, hb3⟩
  have hb1_3 := bel hb1_2 hb3 (by (repeat (first | assumption | exact Below.refl _ _ | refine ba ?_ _ | refine bd ?_ | refine bdn ?_ _ | refine bs ?_ (by first | omega | (simp; done) | (simp; omega)) _ | refine bt ?_ (by assumption))))
  obtain ⟨hc1_3, hf1_3, hl1_3⟩ := bcell hb1_3
  have hz1_3_0 : w.heap.size < w3.heap.size := hl1_3 _ (by simp; try omega)
  clear hl1_3
  have hb2_3 := bel hb2 hb3 (by (repeat (first | assumption | exact Below.refl _ _ | refine ba ?_ _ | refine bd ?_ | refine bdn ?_ _ | refine bs ?_ (by first | omega | (simp; done) | (simp; omega)) _ | refine bt ?_ (by assumption))))
  obtain ⟨hc2_3, hf2_3, hl2_3⟩ := bcell hb2_3
  have hz2_3_0 : w1.heap.size < w3.heap.size := hl2_3 _ (by simp; try omega)
  clear hl2_3
  clear hc1_2 hf1_2 hz1_2_0 hc2 hf2 hz2_0
  obtain ⟨hc3, hf3, hl3⟩ := bcell hb3
  clear hl3
  go_wp2_with fail
  (with_reducible refine (HR2.out _).mono ?_)
  rintro e w4 ⟨rfl, hb4⟩
  have hb1_4 := bel hb1_3 hb4 (by (repeat (first | assumption | exact Below.refl _ _ | refine ba ?_ _ | refine bd ?_ | refine bdn ?_ _ | refine bs ?_ (by first | omega | (simp; done) | (simp; omega)) _ | refine bt ?_ (by assumption))))
  obtain ⟨hc1_4, hf1_4, hl1_4⟩ := bcell hb1_4
  have hz1_4_0 : w.heap.size < w4.heap.size := hl1_4 _ (by simp; try omega)
  clear hl1_4
  have hb2_4 := bel hb2_3 hb4 (by (repeat (first | assumption | exact Below.refl _ _ | refine ba ?_ _ | refine bd ?_ | refine bdn ?_ _ | refine bs ?_ (by first | omega | (simp; done) | (simp; omega)) _ | refine bt ?_ (by assumption))))
  obtain ⟨hc2_4, hf2_4, hl2_4⟩ := bcell hb2_4
  have hz2_4_0 : w1.heap.size < w4.heap.size := hl2_4 _ (by simp; try omega)
  clear hl2_4
  have hb3_4 := bel hb3 hb4 (by (repeat (first | assumption | exact Below.refl _ _ | refine ba ?_ _ | refine bd ?_ | refine bdn ?_ _ | refine bs ?_ (by first | omega | (simp; done) | (simp; omega)) _ | refine bt ?_ (by assumption))))
  clear hc1_3 hf1_3 hz1_3_0 hc2_3 hf2_3 hz2_3_0 hc3 hf3
  obtain ⟨hc4, hf4, hl4⟩ := bcell hb4
  clear hl4
  go_wp2_with fail
  (with_reducible refine (HC.out _).mono ?_)
  rintro e w5 ⟨rfl, hb5⟩
  have hb1_5 := bel hb1_4 hb5 (by (repeat (first | assumption | exact Below.refl _ _ | refine ba ?_ _ | refine bd ?_ | refine bdn ?_ _ | refine bs ?_ (by first | omega | (simp; done) | (simp; omega)) _ | refine bt ?_ (by assumption))))
  obtain ⟨hc1_5, hf1_5, hl1_5⟩ := bcell hb1_5
  have hz1_5_0 : w.heap.size < w5.heap.size := hl1_5 _ (by simp; try omega)
  clear hl1_5
  have hb2_5 := bel hb2_4 hb5 (by (repeat (first | assumption | exact Below.refl _ _ | refine ba ?_ _ | refine bd ?_ | refine bdn ?_ _ | refine bs ?_ (by first | omega | (simp; done) | (simp; omega)) _ | refine bt ?_ (by assumption))))
  obtain ⟨hc2_5, hf2_5, hl2_5⟩ := bcell hb2_5
  have hz2_5_0 : w1.heap.size < w5.heap.size := hl2_5 _ (by simp; try omega)
  clear hl2_5
  have hb3_5 := bel hb3_4 hb5 (by (repeat (first | assumption | exact Below.refl _ _ | refine ba ?_ _ | refine bd ?_ | refine bdn ?_ _ | refine bs ?_ (by first | omega | (simp; done) | (simp; omega)) _ | refine bt ?_ (by assumption))))
  have hb4_5 := bel hb4 hb5 (by (repeat (first | assumption | exact Below.refl _ _ | refine ba ?_ _ | refine bd ?_ | refine bdn ?_ _ | refine bs ?_ (by first | omega | (simp; done) | (simp; omega)) _ | refine bt ?_ (by assumption))))
  clear hc1_4 hf1_4 hz1_4_0 hc2_4 hf2_4 hz2_4_0 hc4 hf4
  obtain ⟨hc5, hf5, hl5⟩ := bcell hb5
  clear hl5
  go_wp2_with fail
  (with_reducible refine (HG2.out _).mono ?_)
  rintro e w6 ⟨rfl, hb6⟩
  have hb1_6 := bel hb1_5 hb6 (by (repeat (first | assumption | exact Below.refl _ _ | refine ba ?_ _ | refine bd ?_ | refine bdn ?_ _ | refine bs ?_ (by first | omega | (simp; done) | (simp; omega)) _ | refine bt ?_ (by assumption))))
  obtain ⟨hc1_6, hf1_6, hl1_6⟩ := bcell hb1_6
  have hz1_6_0 : w.heap.size < w6.heap.size := hl1_6 _ (by simp; try omega)
  clear hl1_6
  have hb2_6 := bel hb2_5 hb6 (by (repeat (first | assumption | exact Below.refl _ _ | refine ba ?_ _ | refine bd ?_ | refine bdn ?_ _ | refine bs ?_ (by first | omega | (simp; done) | (simp; omega)) _ | refine bt ?_ (by assumption))))
  obtain ⟨hc2_6, hf2_6, hl2_6⟩ := bcell hb2_6
  have hz2_6_0 : w1.heap.size < w6.heap.size := hl2_6 _ (by simp; try omega)
  clear hl2_6
  have hb3_6 := bel hb3_5 hb6 (by (repeat (first | assumption | exact Below.refl _ _ | refine ba ?_ _ | refine bd ?_ | refine bdn ?_ _ | refine bs ?_ (by first | omega | (simp; done) | (simp; omega)) _ | refine bt ?_ (by assumption))))
  have hb4_6 := bel hb4_5 hb6 (by (repeat (first | assumption | exact Below.refl _ _ | refine ba ?_ _ | refine bd ?_ | refine bdn ?_ _ | refine bs ?_ (by first | omega | (simp; done) | (simp; omega)) _ | refine bt ?_ (by assumption))))
  have hb5_6 := bel hb5 hb6 (by (repeat (first | assumption | exact Below.refl _ _ | refine ba ?_ _ | refine bd ?_ | refine bdn ?_ _ | refine bs ?_ (by first | omega | (simp; done) | (simp; omega)) _ | refine bt ?_ (by assumption))))
  clear hc1_5 hf1_5 hz1_5_0 hc2_5 hf2_5 hz2_5_0 hc5 hf5
  obtain ⟨hc6, hf6, hl6⟩ := bcell hb6
  clear hl6
  by_cases hm : m < 1
  · go_wp2_with fail
    (with_reducible refine (works2 _).mono ?_)
    rintro e w7 ⟨rfl, hb7⟩
    have hb1_7 := bel hb1_6 hb7 (by (repeat (first | assumption | exact Below.refl _ _ | refine ba ?_ _ | refine bd ?_ | refine bdn ?_ _ | refine bs ?_ (by first | omega | (simp; done) | (simp; omega)) _ | refine bt ?_ (by assumption))))
    obtain ⟨hc1_7, hf1_7, hl1_7⟩ := bcell hb1_7
    have hz1_7_0 : w.heap.size < w7.heap.size := hl1_7 _ (by simp; try omega)
    clear hl1_7
    have hb2_7 := bel hb2_6 hb7 (by (repeat (first | assumption | exact Below.refl _ _ | refine ba ?_ _ | refine bd ?_ | refine bdn ?_ _ | refine bs ?_ (by first | omega | (simp; done) | (simp; omega)) _ | refine bt ?_ (by assumption))))
    obtain ⟨hc2_7, hf2_7, hl2_7⟩ := bcell hb2_7
    have hz2_7_0 : w1.heap.size < w7.heap.size := hl2_7 _ (by simp; try omega)
    clear hl2_7
    have hb3_7 := bel hb3_6 hb7 (by (repeat (first | assumption | exact Below.refl _ _ | refine ba ?_ _ | refine bd ?_ | refine bdn ?_ _ | refine bs ?_ (by first | omega | (simp; done) | (simp; omega)) _ | refine bt ?_ (by assumption))))
    have hb4_7 := bel hb4_6 hb7 (by (repeat (first | assumption | exact Below.refl _ _ | refine ba ?_ _ | refine bd ?_ | refine bdn ?_ _ | refine bs ?_ (by first | omega | (simp; done) | (simp; omega)) _ | refine bt ?_ (by assumption))))
    have hb5_7 := bel hb5_6 hb7 (by (repeat (first | assumption | exact Below.refl _ _ | refine ba ?_ _ | refine bd ?_ | refine bdn ?_ _ | refine bs ?_ (by first | omega | (simp; done) | (simp; omega)) _ | refine bt ?_ (by assumption))))
    have hb6_7 := bel hb6 hb7 (by (repeat (first | assumption | exact Below.refl _ _ | refine ba ?_ _ | refine bd ?_ | refine bdn ?_ _ | refine bs ?_ (by first | omega | (simp; done) | (simp; omega)) _ | refine bt ?_ (by assumption))))
    clear hc1_6 hf1_6 hz1_6_0 hc2_6 hf2_6 hz2_6_0 hc6 hf6
    obtain ⟨hc7, hf7, hl7⟩ := bcell hb7
    clear hl7
    go_wp2
    go_ret
    refine ⟨rfl, ?_⟩
    (repeat (first | assumption | exact Below.refl _ _ | refine ba ?_ _ | refine bd ?_ | refine bdn ?_ _ | refine bs ?_ (by first | omega | (simp; done) | (simp; omega)) _ | refine bt ?_ (by assumption)))
  have mne : (m == 0) = false := by simp; omega
  have mlt : decide (m < 1) = false := by simp; omega
  by_cases h1 : n % m = 0
  · have t1 : (n % m != 0) = false := by simpa using h1
    have t1' : (n % m == 0) = true := by simpa using h1
    by_cases h2 : d % m = 0
    · have t2 : (d % m != 0) = false := by simpa using h2
      have t2' : (d % m == 0) = true := by simpa using h2
      have t3 : (g % m == 0) = true := by simpa using HALL.out m (by omega) h1 h2
      clear h1 h2
      go_wp2_with fail
      (with_reducible refine (works2 _).mono ?_)
      rintro e w7 ⟨rfl, hb7⟩
      have hb1_7 := bel hb1_6 hb7 (by (repeat (first | assumption | exact Below.refl _ _ | refine ba ?_ _ | refine bd ?_ | refine bdn ?_ _ | refine bs ?_ (by first | omega | (simp; done) | (simp; omega)) _ | refine bt ?_ (by assumption))))
      obtain ⟨hc1_7, hf1_7, hl1_7⟩ := bcell hb1_7
      have hz1_7_0 : w.heap.size < w7.heap.size := hl1_7 _ (by simp; try omega)
      clear hl1_7
      have hb2_7 := bel hb2_6 hb7 (by (repeat (first | assumption | exact Below.refl _ _ | refine ba ?_ _ | refine bd ?_ | refine bdn ?_ _ | refine bs ?_ (by first | omega | (simp; done) | (simp; omega)) _ | refine bt ?_ (by assumption))))
      obtain ⟨hc2_7, hf2_7, hl2_7⟩ := bcell hb2_7
      have hz2_7_0 : w1.heap.size < w7.heap.size := hl2_7 _ (by simp; try omega)
      clear hl2_7
      have hb3_7 := bel hb3_6 hb7 (by (repeat (first | assumption | exact Below.refl _ _ | refine ba ?_ _ | refine bd ?_ | refine bdn ?_ _ | refine bs ?_ (by first | omega | (simp; done) | (simp; omega)) _ | refine bt ?_ (by assumption))))
      have hb4_7 := bel hb4_6 hb7 (by (repeat (first | assumption | exact Below.refl _ _ | refine ba ?_ _ | refine bd ?_ | refine bdn ?_ _ | refine bs ?_ (by first | omega | (simp; done) | (simp; omega)) _ | refine bt ?_ (by assumption))))
      have hb5_7 := bel hb5_6 hb7 (by (repeat (first | assumption | exact Below.refl _ _ | refine ba ?_ _ | refine bd ?_ | refine bdn ?_ _ | refine bs ?_ (by first | omega | (simp; done) | (simp; omega)) _ | refine bt ?_ (by assumption))))
      have hb6_7 := bel hb6 hb7 (by (repeat (first | assumption | exact Below.refl _ _ | refine ba ?_ _ | refine bd ?_ | refine bdn ?_ _ | refine bs ?_ (by first | omega | (simp; done) | (simp; omega)) _ | refine bt ?_ (by assumption))))
      clear hc1_6 hf1_6 hz1_6_0 hc2_6 hf2_6 hz2_6_0 hc6 hf6
      obtain ⟨hc7, hf7, hl7⟩ := bcell hb7
      clear hl7
      go_wp2
      go_ret
      refine ⟨rfl, ?_⟩
      (repeat (first | assumption | exact Below.refl _ _ | refine ba ?_ _ | refine bd ?_ | refine bdn ?_ _ | refine bs ?_ (by first | omega | (simp; done) | (simp; omega)) _ | refine bt ?_ (by assumption)))
    · have t2 : (d % m != 0) = true := by simpa using h2
      have t2' : (d % m == 0) = false := by simpa using h2
      clear h1 h2
      go_wp2_with fail
      (with_reducible refine (works2 _).mono ?_)
      rintro e w7 ⟨rfl, hb7⟩
      have hb1_7 := bel hb1_6 hb7 (by (repeat (first | assumption | exact Below.refl _ _ | refine ba ?_ _ | refine bd ?_ | refine bdn ?_ _ | refine bs ?_ (by first | omega | (simp; done) | (simp; omega)) _ | refine bt ?_ (by assumption))))
      obtain ⟨hc1_7, hf1_7, hl1_7⟩ := bcell hb1_7
      have hz1_7_0 : w.heap.size < w7.heap.size := hl1_7 _ (by simp; try omega)
      clear hl1_7
      have hb2_7 := bel hb2_6 hb7 (by (repeat (first | assumption | exact Below.refl _ _ | refine ba ?_ _ | refine bd ?_ | refine bdn ?_ _ | refine bs ?_ (by first | omega | (simp; done) | (simp; omega)) _ | refine bt ?_ (by assumption))))
      obtain ⟨hc2_7, hf2_7, hl2_7⟩ := bcell hb2_7
      have hz2_7_0 : w1.heap.size < w7.heap.size := hl2_7 _ (by simp; try omega)
      clear hl2_7
      have hb3_7 := bel hb3_6 hb7 (by (repeat (first | assumption | exact Below.refl _ _ | refine ba ?_ _ | refine bd ?_ | refine bdn ?_ _ | refine bs ?_ (by first | omega | (simp; done) | (simp; omega)) _ | refine bt ?_ (by assumption))))
      have hb4_7 := bel hb4_6 hb7 (by (repeat (first | assumption | exact Below.refl _ _ | refine ba ?_ _ | refine bd ?_ | refine bdn ?_ _ | refine bs ?_ (by first | omega | (simp; done) | (simp; omega)) _ | refine bt ?_ (by assumption))))
      have hb5_7 := bel hb5_6 hb7 (by (repeat (first | assumption | exact Below.refl _ _ | refine ba ?_ _ | refine bd ?_ | refine bdn ?_ _ | refine bs ?_ (by first | omega | (simp; done) | (simp; omega)) _ | refine bt ?_ (by assumption))))
      have hb6_7 := bel hb6 hb7 (by (repeat (first | assumption | exact Below.refl _ _ | refine ba ?_ _ | refine bd ?_ | refine bdn ?_ _ | refine bs ?_ (by first | omega | (simp; done) | (simp; omega)) _ | refine bt ?_ (by assumption))))
      clear hc1_6 hf1_6 hz1_6_0 hc2_6 hf2_6 hz2_6_0 hc6 hf6
      obtain ⟨hc7, hf7, hl7⟩ := bcell hb7
      clear hl7
      go_wp2
      go_ret
      refine ⟨rfl, ?_⟩
      (repeat (first | assumption | exact Below.refl _ _ | refine ba ?_ _ | refine bd ?_ | refine bdn ?_ _ | refine bs ?_ (by first | omega | (simp; done) | (simp; omega)) _ | refine bt ?_ (by assumption)))
  · have t1 : (n % m != 0) = true := by simpa using h1
    have t1' : (n % m == 0) = false := by simpa using h1
    clear h1
    go_wp2_with fail
    (with_reducible refine (works2 _).mono ?_)
    rintro e w7 ⟨rfl, hb7⟩
    have hb1_7 := bel hb1_6 hb7 (by (repeat (first | assumption | exact Below.refl _ _ | refine ba ?_ _ | refine bd ?_ | refine bdn ?_ _ | refine bs ?_ (by first | omega | (simp; done) | (simp; omega)) _ | refine bt ?_ (by assumption))))
    obtain ⟨hc1_7, hf1_7, hl1_7⟩ := bcell hb1_7
    have hz1_7_0 : w.heap.size < w7.heap.size := hl1_7 _ (by simp; try omega)
    clear hl1_7
    have hb2_7 := bel hb2_6 hb7 (by (repeat (first | assumption | exact Below.refl _ _ | refine ba ?_ _ | refine bd ?_ | refine bdn ?_ _ | refine bs ?_ (by first | omega | (simp; done) | (simp; omega)) _ | refine bt ?_ (by assumption))))
    obtain ⟨hc2_7, hf2_7, hl2_7⟩ := bcell hb2_7
    have hz2_7_0 : w1.heap.size < w7.heap.size := hl2_7 _ (by simp; try omega)
    clear hl2_7
    have hb3_7 := bel hb3_6 hb7 (by (repeat (first | assumption | exact Below.refl _ _ | refine ba ?_ _ | refine bd ?_ | refine bdn ?_ _ | refine bs ?_ (by first | omega | (simp; done) | (simp; omega)) _ | refine bt ?_ (by assumption))))
    have hb4_7 := bel hb4_6 hb7 (by (repeat (first | assumption | exact Below.refl _ _ | refine ba ?_ _ | refine bd ?_ | refine bdn ?_ _ | refine bs ?_ (by first | omega | (simp; done) | (simp; omega)) _ | refine bt ?_ (by assumption))))
    have hb5_7 := bel hb5_6 hb7 (by (repeat (first | assumption | exact Below.refl _ _ | refine ba ?_ _ | refine bd ?_ | refine bdn ?_ _ | refine bs ?_ (by first | omega | (simp; done) | (simp; omega)) _ | refine bt ?_ (by assumption))))
    have hb6_7 := bel hb6 hb7 (by (repeat (first | assumption | exact Below.refl _ _ | refine ba ?_ _ | refine bd ?_ | refine bdn ?_ _ | refine bs ?_ (by first | omega | (simp; done) | (simp; omega)) _ | refine bt ?_ (by assumption))))
    clear hc1_6 hf1_6 hz1_6_0 hc2_6 hf2_6 hz2_6_0 hc6 hf6
    obtain ⟨hc7, hf7, hl7⟩ := bcell hb7
    clear hl7
    go_wp2
    go_ret
    refine ⟨rfl, ?_⟩
    (repeat (first | assumption | exact Below.refl _ _ | refine ba ?_ _ | refine bd ?_ | refine bdn ?_ _ | refine bs ?_ (by first | omega | (simp; done) | (simp; omega)) _ | refine bt ?_ (by assumption)))

namespace RatioLow
open Go.ChangeShapes Go.WideShapes Go.ChangeAt Go.RowKit
theorem walk (n d m : Int) (i1 : I64 n) (i2 : I64 d) : Pure Try.prog 10 #[F2 n d, .int .i64 m] (.bool true) := by
  by_cases h : 0 ≤ n ∧ 1 ≤ d
  · exact low_law_yes n d m i1 i2 ⟨h.1, h.2⟩
  · exact low_law_no n d m i1 i2 (fun h' => h ⟨h'.num, h'.den⟩)
theorem own : ownKnob Try.prog.godebug = none := by kernel_rfl
theorem laidOut : laidOutB Try.prog = true := by kernel_rfl
set_option maxRecDepth 100000 in
theorem lifted (os : Os) (started : os.Started) (H : Type) (enc : TypeId × Value → H) :
    ReturnsInHanded {} Try.checked os 10 .any (Rows.ratioLowSpec.pre6 enc Try.prog Try.f10 Rows.ratioLowRow.domain false) (Rows.ratioLowSpec.post enc Try.prog Try.f10 false true false false) := by
  refine returnsInHanded_of_change (C := Try.checked) own started (by kernel_rfl) Try.func10
    (ChangeSpec.witness6 (enc := enc) (C := Try.checked) false ⟨#[], #[F2 0 0, .int .i64 0], []⟩ 8 (by kernel_rfl) (by kernel_rfl) (by kernel_rfl) (by kernel_rfl)) ?_
  intro W base args ds gs before hval0 hW hcnd _
  have hval : ∀ (j : Nat) t v, Try.f10.params[j]? = some t → args[j]? = some v → Value.okWide Try.prog W .any base t v := hval0
  have hW' := hW
  obtain ⟨p, q, hA0, hV, rfl, hfz, hnd⟩ := hW
  have hA : DataW.TrodAll enc Try.prog W 0 (fun _ => true) true Try.f10.params.toList args.toList ds p := hA0
  rw [Try.params10] at hA hval
  obtain ⟨v0, vs0, d0, ds0, p0, q0, hargs, rfl, rfl, h0, r0⟩ := trodAll_cons hA
  obtain ⟨v1, vs1, d1, ds1, p1, q1, rfl, rfl, rfl, h1, r1⟩ := trodAll_cons r0
  obtain ⟨rfl, rfl, rfl⟩ := trodAll_nil r1
  obtain rfl : args = #[v0, v1] := by cases args; simp_all
  obtain ⟨rfl, rfl⟩ := trodVars_none hV
  have k0 := h0
  have lt0 : ∀ x ∈ p0, x.block < W.heap.size := by obtain ⟨m, hm⟩ := k0; exact DataW.trod_lt m _ _ _ hm
  have k1 := h1
  have lt1 : ∀ x ∈ p1, x.block < W.heap.size := by obtain ⟨m, hm⟩ := k1; exact DataW.trod_lt m _ _ _ hm
  obtain ⟨c0_0, c0_1, y0_0, y0_1, m0, vEq0, rfl, rfl, hy0_0, hy0_1⟩ := Go.Joins.open_agg2 Try.underlying53 (by kernel_rfl) (by kernel_rfl : Try.prog.cellsOf 53 = 2) (hval 0 53 v0 rfl rfl) k0
  obtain ⟨an, eq0_0, _, wf_an⟩ := DataW.trod_int Try.underlying2 hy0_0
  obtain ⟨ad, eq0_1, _, wf_ad⟩ := DataW.trod_int Try.underlying2 hy0_1
  simp at eq0_0 eq0_1
  subst eq0_0 eq0_1
  subst vEq0
  obtain ⟨m, vEq1, _, _, wf_m⟩ := open_int Try.underlying2 (hval 1 2 v1 rfl rfl) k1
  subst vEq1
  clear hA0 hval0
  refine (walk an ad m (i64_of_wf wf_an) (i64_of_wf wf_ad) W).mono fun e W' ⟨he, bel⟩ => ?_
  subst he
  exact ⟨_, rfl, _, _, _, [], _, [], hW', trodAll_mk1 (shut_bool Try.underlying4 _), (trodAll_cons_mk (Below.trod laidOut (by kernel_rfl) (of_decide_eq_true (by kernel_rfl)) k0 bel lt0) (trodAll_cons_mk (Below.trod laidOut (by kernel_rfl) (of_decide_eq_true (by kernel_rfl)) k1 bel lt1) trodAll_mk0)), rfl, bel.frame _, fun h => by cases h⟩
theorem over : Rows.ratioLowRow.holds Try.pinned (OpenSpec.ofChange Rows.ratioLowSpec) :=
  OpenClaim.holds_of_wide 10 Try.f10 rfl rfl rfl rfl rfl rfl rfl ⟨rfl, rfl, rfl, rfl, rfl⟩ rfl rfl rfl rfl rfl (by kernel_rfl) Try.func10 (by kernel_rfl)
    (of_decide_eq_true (by kernel_rfl)) (by unfold Func.isWrapper; first | (rw [if_pos (by decide +kernel)]; kernel_rfl) | (rw [if_neg (by decide +kernel)]; exact ⟨rfl, rfl⟩))
    (fun os started H enc _ => lifted os started H enc)
theorem proved : Rows.RatioLowSaid := over
end RatioLow
end Go.Proofs.Ytojfkpmdnhkanaa
