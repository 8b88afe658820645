/- Contracts of the functions of the package ratio: Right, Cmp, Gcd, Low. -/
import Derived.Test.YtlhljioncgddeaaWide1
import Derived.IntWalk
namespace Go.Proofs.Ytlhljioncgddeaa
open Go.RowKit

abbrev F2 (n d : Int) : Value := .agg #[.int .i64 n, .int .i64 d]
def I64 (n : Int) : Prop := -9223372036854775808 ≤ n ∧ n ≤ 9223372036854775807
structure Rt (n d : Int) : Prop where
  num : 0 ≤ n
  den : 1 ≤ d

theorem right_yes (n d : Int) (hn : 0 ≤ n) (hd : 1 ≤ d) : Pure Try.prog 24 #[F2 n d] (.bool true) := by
  intro w
  go_enter Try.func24, Try.ntmps24
  go_wp2
  go_ret
  exact ⟨rfl, ba (Below.refl _ _) _⟩
theorem right_no (n d : Int) (h : ¬ Rt n d) : Pure Try.prog 24 #[F2 n d] (.bool false) := by
  intro w
  by_cases hn : 0 ≤ n
  · have hd : ¬ 1 ≤ d := fun h' => h ⟨hn, h'⟩
    clear h
    go_enter Try.func24, Try.ntmps24
    go_wp2
    go_ret
    exact ⟨rfl, ba (Below.refl _ _) _⟩
  · clear h
    go_enter Try.func24, Try.ntmps24
    go_wp2
    go_ret
    exact ⟨rfl, ba (Below.refl _ _) _⟩

/-- The comparison of two numbers. -/
def cmpI (p q : Int) : Int := if p < q then -1 else if q < p then 1 else 0
/-- The comparison of two valid fractions, by cross products. -/
def rcmp (an ad bn bd : Int) : Int := cmpI (an * bd) (bn * ad)

theorem wcmp_any (p q : Int) : Pure Try.prog 26 #[W2 (p / 18446744073709551616) (p % 18446744073709551616), W2 (q / 18446744073709551616) (q % 18446744073709551616)] (.int .i64 (cmpI p q)) := by
  unfold cmpI
  by_cases h : p < q
  · rw [if_pos h]; exact cmp_lt _ _ _ _ (by omega)
  · rw [if_neg h]
    by_cases h' : q < p
    · rw [if_pos h']; exact cmp_gt _ _ _ _ (by omega)
    · rw [if_neg h']
      obtain rfl : p = q := by omega
      exact cmp_eq _ _

theorem rcmp_no1 (an ad bn bd : Int) (h : ¬ Rt an ad) : Pure Try.prog 19 #[F2 an ad, F2 bn bd] (.int .i64 0) := by
  intro w
  go_enter Try.func19, Try.ntmps19
  go_wp2_with (go_at_call 24; refine (right_no _ _ h _).mono ?_; rintro e w1 ⟨rfl, hb1⟩)
  go_ret
  exact ⟨rfl, bt (ba (ba (Below.refl _ _) _) _) hb1⟩
theorem rcmp_no2 (an ad bn bd : Int) (h1 : Rt an ad) (h : ¬ Rt bn bd) : Pure Try.prog 19 #[F2 an ad, F2 bn bd] (.int .i64 0) := by
  intro w
  go_enter Try.func19, Try.ntmps19
  go_wp2_with fail
  refine (right_yes _ _ h1.num h1.den _).mono ?_; rintro e w1 ⟨rfl, hb1⟩; obtain ⟨hc1, hf1⟩ := bcell hb1
  go_wp2_with fail
  refine (right_no _ _ h _).mono ?_; rintro e w2 ⟨rfl, hb2⟩
  go_wp2
  go_ret
  exact ⟨rfl, bt (bt (ba (ba (Below.refl _ _) _) _) hb1) hb2⟩
theorem word_of_i64 {n : Int} (h : I64 n) (h0 : 0 ≤ n) : Word n := ⟨h0, by have := h.2; omega⟩
set_option maxHeartbeats 800000 in
theorem rcmp_yes (an ad bn bd : Int) (i1 : I64 an) (i2 : I64 ad) (i3 : I64 bn) (i4 : I64 bd) (h1 : Rt an ad) (h2 : Rt bn bd) : Pure Try.prog 19 #[F2 an ad, F2 bn bd] (.int .i64 (rcmp an ad bn bd)) := by
  intro w
  have u1 : IntKind.u64.wrap an = an := by rw [IntKind.wrap_u64]; have := i1.2; have := h1.num; omega
  have u2 : IntKind.u64.wrap ad = ad := by rw [IntKind.wrap_u64]; have := i2.2; have := h1.den; omega
  have u3 : IntKind.u64.wrap bn = bn := by rw [IntKind.wrap_u64]; have := i3.2; have := h2.num; omega
  have u4 : IntKind.u64.wrap bd = bd := by rw [IntKind.wrap_u64]; have := i4.2; have := h2.den; omega
  have U1 := Lib.hid u1; have U2 := Lib.hid u2; have U3 := Lib.hid u3; have U4 := Lib.hid u4
  clear u1 u2 u3 u4
  have wd1 := word_of_i64 i1 h1.num
  have wd2 := word_of_i64 i2 (by have := h1.den; omega)
  have wd3 := word_of_i64 i3 h2.num
  have wd4 := word_of_i64 i4 (by have := h2.den; omega)
  go_enter Try.func19, Try.ntmps19
  go_wp2_with fail
  (with_reducible refine (right_yes _ _ h1.num h1.den _).mono ?_)
  rintro e w1 ⟨rfl, hb1⟩
  have hs1 : w.heap.size + 2 ≤ w1.heap.size := (by have h := hb1.size; first | omega | (simp at h; omega))
  have hz1_0 : w.heap.size < w1.heap.size := (by omega)
  have hz1_1 : w.heap.size + 1 < w1.heap.size := (by omega)
  obtain ⟨hc1, hf1, hl1⟩ := bcell hb1
  clear hl1
  go_wp2_with fail
  (with_reducible refine (right_yes _ _ h2.num h2.den _).mono ?_)
  rintro e w2 ⟨rfl, hb2⟩
  have hs2 : w1.heap.size + 0 ≤ w2.heap.size := (by have h := hb2.size; first | omega | (simp at h; omega))
  have hb1_2 := bel hb1 hb2 (by (repeat (first | assumption | exact Below.refl _ _ | refine ba ?_ _ | refine bd ?_ | refine bdn ?_ _ | refine bs ?_ (by first | omega | (simp; done) | (simp; omega)) _ | refine bt ?_ (by assumption))))
  clear hz1_0 hz1_1 hc1 hf1
  obtain ⟨hc1_2, hf1_2, hl1_2⟩ := bcell hb1_2
  clear hl1_2
  have hz2_0 : w.heap.size < w2.heap.size := (by omega)
  have hz2_1 : w.heap.size + 1 < w2.heap.size := (by omega)
  obtain ⟨hc2, hf2, hl2⟩ := bcell hb2
  clear hl2
  go_wp2_with fail
  rw [U1.out, U4.out]
  (with_reducible refine (mul_any _ _ wd1 wd4 _).mono ?_)
  rintro e w3 ⟨rfl, hb3⟩
  have hs3 : w2.heap.size + 0 ≤ w3.heap.size := (by have h := hb3.size; first | omega | (simp at h; omega))
  have hb1_3 := bel hb1_2 hb3 (by (repeat (first | assumption | exact Below.refl _ _ | refine ba ?_ _ | refine bd ?_ | refine bdn ?_ _ | refine bs ?_ (by first | omega | (simp; done) | (simp; omega)) _ | refine bt ?_ (by assumption))))
  have hb2_3 := bel hb2 hb3 (by (repeat (first | assumption | exact Below.refl _ _ | refine ba ?_ _ | refine bd ?_ | refine bdn ?_ _ | refine bs ?_ (by first | omega | (simp; done) | (simp; omega)) _ | refine bt ?_ (by assumption))))
  clear hc1_2 hf1_2 hz2_0 hz2_1 hc2 hf2
  obtain ⟨hc1_3, hf1_3, hl1_3⟩ := bcell hb1_3
  clear hl1_3
  have hz3_0 : w.heap.size < w3.heap.size := (by omega)
  have hz3_1 : w.heap.size + 1 < w3.heap.size := (by omega)
  obtain ⟨hc3, hf3, hl3⟩ := bcell hb3
  clear hl3
  go_wp2_with fail
  rw [U3.out, U2.out]
  (with_reducible refine (mul_any _ _ wd3 wd2 _).mono ?_)
  rintro e w4 ⟨rfl, hb4⟩
  have hs4 : w3.heap.size + 1 ≤ w4.heap.size := (by have h := hb4.size; first | omega | (simp at h; omega))
  have hb1_4 := bel hb1_3 hb4 (by (repeat (first | assumption | exact Below.refl _ _ | refine ba ?_ _ | refine bd ?_ | refine bdn ?_ _ | refine bs ?_ (by first | omega | (simp; done) | (simp; omega)) _ | refine bt ?_ (by assumption))))
  have hb2_4 := bel hb2_3 hb4 (by (repeat (first | assumption | exact Below.refl _ _ | refine ba ?_ _ | refine bd ?_ | refine bdn ?_ _ | refine bs ?_ (by first | omega | (simp; done) | (simp; omega)) _ | refine bt ?_ (by assumption))))
  have hb3_4 := bel hb3 hb4 (by (repeat (first | assumption | exact Below.refl _ _ | refine ba ?_ _ | refine bd ?_ | refine bdn ?_ _ | refine bs ?_ (by first | omega | (simp; done) | (simp; omega)) _ | refine bt ?_ (by assumption))))
  clear hc1_3 hf1_3 hz3_0 hz3_1 hc3 hf3
  obtain ⟨hc1_4, hf1_4, hl1_4⟩ := bcell hb1_4
  clear hl1_4
  have hz4_0 : w.heap.size < w4.heap.size := (by omega)
  have hz4_1 : w.heap.size + 1 < w4.heap.size := (by omega)
  have hz4_2 : w3.heap.size < w4.heap.size := (by omega)
  obtain ⟨hc4, hf4, hl4⟩ := bcell hb4
  clear hl4
  go_wp2_with fail
  (with_reducible refine (wcmp_any _ _ _).mono ?_)
  rintro e w5 ⟨rfl, hb5⟩
  have hs5 : w4.heap.size + 1 ≤ w5.heap.size := (by have h := hb5.size; first | omega | (simp at h; omega))
  have hb1_5 := bel hb1_4 hb5 (by (repeat (first | assumption | exact Below.refl _ _ | refine ba ?_ _ | refine bd ?_ | refine bdn ?_ _ | refine bs ?_ (by first | omega | (simp; done) | (simp; omega)) _ | refine bt ?_ (by assumption))))
  have hb2_5 := bel hb2_4 hb5 (by (repeat (first | assumption | exact Below.refl _ _ | refine ba ?_ _ | refine bd ?_ | refine bdn ?_ _ | refine bs ?_ (by first | omega | (simp; done) | (simp; omega)) _ | refine bt ?_ (by assumption))))
  have hb3_5 := bel hb3_4 hb5 (by (repeat (first | assumption | exact Below.refl _ _ | refine ba ?_ _ | refine bd ?_ | refine bdn ?_ _ | refine bs ?_ (by first | omega | (simp; done) | (simp; omega)) _ | refine bt ?_ (by assumption))))
  have hb4_5 := bel hb4 hb5 (by (repeat (first | assumption | exact Below.refl _ _ | refine ba ?_ _ | refine bd ?_ | refine bdn ?_ _ | refine bs ?_ (by first | omega | (simp; done) | (simp; omega)) _ | refine bt ?_ (by assumption))))
  clear hc1_4 hf1_4 hz4_0 hz4_1 hz4_2 hc4 hf4
  obtain ⟨hc1_5, hf1_5, hl1_5⟩ := bcell hb1_5
  clear hl1_5
  obtain ⟨hc4_5, hf4_5, hl4_5⟩ := bcell hb4_5
  clear hl4_5
  have hz5_0 : w.heap.size < w5.heap.size := (by omega)
  have hz5_1 : w.heap.size + 1 < w5.heap.size := (by omega)
  have hz5_2 : w3.heap.size < w5.heap.size := (by omega)
  have hz5_3 : w4.heap.size < w5.heap.size := (by omega)
  obtain ⟨hc5, hf5, hl5⟩ := bcell hb5
  clear hl5
  go_wp2
  go_ret
  refine ⟨rfl, ?_⟩
  (repeat (first | assumption | exact Below.refl _ _ | refine ba ?_ _ | refine bd ?_ | refine bdn ?_ _ | refine bs ?_ (by first | omega | (simp; done) | (simp; omega)) _ | refine bt ?_ (by assumption)))

theorem gcd_step (x y : Int) (hx : 0 ≤ x) (hy : 0 < y) : Int.gcd y (x % y) = Int.gcd x y := by
  obtain ⟨m, rfl⟩ := Int.eq_ofNat_of_zero_le hx
  obtain ⟨n, rfl⟩ := Int.eq_ofNat_of_zero_le (Int.le_of_lt hy)
  show Nat.gcd n ((m : Int) % (n : Int)).natAbs = Nat.gcd m n
  rw [← Int.natCast_emod, Int.natAbs_natCast, Nat.gcd_comm m n, Nat.gcd_rec n m, Nat.gcd_comm]
end Go.Proofs.Ytlhljioncgddeaa
