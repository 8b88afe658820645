/- For any wide number and any number the statement WideProducts returns true: products are what paper tells. No condition. -/
import Derived.Test.YtojfkpmdnhkanaaProd
import Derived.Test.YtojfkpmdnhkanaaWideDivs
namespace Go.Proofs.Ytojfkpmdnhkanaa
open Go.RowKit
attribute [local go_sem] ext_cell ext_frozen Mix.calmUpon Mix.mUpon

theorem pow8 : (65536 : Int) ^ 8 = 340282366920938463463374607431768211456 := by decide
theorem pow4 : (65536 : Int) ^ 4 = 18446744073709551616 := by decide
theorem hi_0 (V : Int) : hiK V 0 = V / 18446744073709551616 % 18446744073709551616 := by unfold hiK; rw [show max 0 4 = 4 from rfl, show 8 - 4 = 4 from rfl, pow4]
theorem lo_0 (V : Int) : loK V 0 = V % 18446744073709551616 := by unfold loK; rw [show 4 - 0 = 4 from rfl, pow4, Int.pow_zero, Int.ediv_one]
theorem f_0 (V : Int) (h : 0 ≤ V) : fK V 0 = decide (V < B128) := by
  unfold fK
  rw [show max 0 8 = 8 from rfl, pow8, B128_eq, decide_eq_decide]
  omega
theorem div_pow0 (V : Int) (n : Nat) (hn : 8 ≤ n) (h0 : 0 ≤ V) (h1 : V < 65536 ^ n) : V / 65536 ^ (max n 8) = 0 := by
  rw [show max n 8 = n by omega]; exact Int.ediv_eq_zero_of_lt h0 h1

set_option maxHeartbeats 8000000 in
theorem products_core (ah al b ph pl mh ml : Int) (fits : Bool)
    (hT : Pure Try.prog 21 #[W2 ah al, u b] (.tuple #[W2 ph pl, .bool fits])) (hM : Pure Try.prog 22 #[u al, u b] (W2 mh ml))
    (hIs1 : ∀ (w : World) (v : Value), Ints w v (digs 16 ((ah * 18446744073709551616 + al) * b)) → Calls Try.prog 17 #[W2 ph pl, .bool fits, v] w fun e w' => e = .returned (.bool true) ∧ Below w.heap.size w w')
    (hIs2 : ∀ (w : World) (v : Value), Ints w v (digs 16 (al * b)) → Calls Try.prog 17 #[W2 mh ml, .bool true, v] w fun e w' => e = .returned (.bool true) ∧ Below w.heap.size w w')
    (hOwn : ∀ w, Calls Try.prog 14 #[W2 ah al] w (RetInts w (digs 8 (ah * 18446744073709551616 + al))))
    (hDb : ∀ w, Calls Try.prog 24 #[u 0, u b] w (RetInts w (digs 8 b)))
    (hDl : ∀ w, Calls Try.prog 24 #[u 0, u al] w (RetInts w (digs 8 al)))
    (hP1 : ∀ (w : World) (va vb : Value), Ints w va (digs 8 (ah * 18446744073709551616 + al)) → Ints w vb (digs 8 b) → Calls Try.prog 23 #[va, vb] w (RetInts w (digs 16 ((ah * 18446744073709551616 + al) * b))))
    (hP2 : ∀ (w : World) (va vb : Value), Ints w va (digs 8 al) → Ints w vb (digs 8 b) → Calls Try.prog 23 #[va, vb] w (RetInts w (digs 16 (al * b)))) :
    Pure Try.prog 4 #[W2 ah al, u b] (.bool true) := by
  intro w
  have HT := Lib.hid hT; have HM := Lib.hid hM; have HI1 := Lib.hid hIs1; have HI2 := Lib.hid hIs2; have HO := Lib.hid hOwn; have HDb := Lib.hid hDb; have HDl := Lib.hid hDl; have HP1 := Lib.hid hP1; have HP2 := Lib.hid hP2
  have HOF := Lib.hid (of_any b)
  clear hT hM hIs1 hIs2 hOwn hDb hDl hP1 hP2
  go_enter Try.func4, Try.ntmps4
  go_wp2_with fail
  (with_reducible refine (HT.out _).mono ?_)
  rintro e w1 ⟨rfl, hb1⟩
  have hs1 : w.heap.size + 1 ≤ w1.heap.size := (by have h := hb1.size; first | omega | (simp at h; omega))
  have hz1_0 : w.heap.size < w1.heap.size := (by omega)
  obtain ⟨hc1, hf1, hl1⟩ := bcell hb1
  clear hl1
  go_wp2_with fail
  (with_reducible refine (HM.out _).mono ?_)
  rintro e w2 ⟨rfl, hb2⟩
  have hs2 : w1.heap.size + 1 ≤ w2.heap.size := (by have h := hb2.size; first | omega | (simp at h; omega))
  have hb1_2 := bel hb1 hb2 (by (repeat (first | assumption | exact Below.refl _ _ | refine ba ?_ _ | refine bd ?_ | refine bdn ?_ _ | refine bs ?_ (by first | omega | (simp; done) | (simp; omega)) _ | refine bt ?_ (by assumption))))
  clear hz1_0 hc1 hf1
  obtain ⟨hc1_2, hf1_2, hl1_2⟩ := bcell hb1_2
  clear hl1_2
  have hz2_0 : w.heap.size < w2.heap.size := (by omega)
  have hz2_1 : w1.heap.size < w2.heap.size := (by omega)
  obtain ⟨hc2, hf2, hl2⟩ := bcell hb2
  clear hl2
  go_wp2_with fail
  refine Mix.region0 (by kernel_rfl) ?_
  intro w3 hb3
  have hs3 : w2.heap.size + 1 ≤ w3.heap.size := (by have h := hb3.size; first | omega | (simp at h; omega))
  have hz3_0 : w.heap.size < w3.heap.size := (by omega)
  have hz3_1 : w1.heap.size < w3.heap.size := (by omega)
  have hz3_2 : w2.heap.size < w3.heap.size := (by omega)
  have hy3_0_0 : w.heap.size ≤ w2.heap.size := (by omega)
  have hy3_1_0 : w1.heap.size ≤ w2.heap.size := (by omega)
  obtain ⟨hc3, hf3, hl3⟩ := bcell hb3
  clear hl3
  refine Mix.take_ex (_) 0 rfl (by kernel_rfl) (by kernel_rfl) (by kernel_rfl) (by kernel_rfl) (fun K hK => ?_)
  go_simp
  first | (refine hK _ ?_; clear hK K) | (apply Exists.intro; refine ⟨fun x => ?_, hK _ ?_⟩; (fail); clear hK K)
  refine Mix.take_ex (_) 1 rfl (by kernel_rfl) (by kernel_rfl) (by kernel_rfl) (by kernel_rfl) (fun K hK => ?_)
  go_simp
  first | (refine hK _ ?_; clear hK K) | (apply Exists.intro; refine ⟨fun x => ?_, hK _ ?_⟩; (fail); clear hK K)
  refine Mix.take_ex (_) 2 rfl (by kernel_rfl) (by kernel_rfl) (by kernel_rfl) (by kernel_rfl) (fun K hK => ?_)
  go_simp
  first | (refine hK _ ?_; clear hK K) | (apply Exists.intro; refine ⟨fun x => ?_, hK _ ?_⟩; (fail); clear hK K)
  refine Mix.take_ex (_) 4 rfl (by kernel_rfl) (by kernel_rfl) (by kernel_rfl) (by kernel_rfl) (fun K hK => ?_)
  go_simp
  first | (refine hK _ ?_; clear hK K) | (apply Exists.intro; refine ⟨fun x => ?_, hK _ ?_⟩; (fail); clear hK K)
  refine Mix.all (rs := [3]) (by kernel_rfl) (by simp) (Mix.over_of (by (repeat (first | assumption | exact Below.refl _ _ | refine ba ?_ _ | refine bd ?_ | refine bdn ?_ _ | refine bs ?_ (by first | omega | (simp; done) | (simp; omega)) _ | refine bt ?_ (by assumption))))) ?_
  intro i4 hi4 w4 hb4 hC4
  clear hC4
  have hs4 : w3.heap.size + 0 ≤ w4.heap.size := (by have h := hb4.size; first | omega | (simp at h; omega))
  have hb3_4 := bel hb3 hb4 (by (repeat (first | assumption | exact Below.refl _ _ | refine ba ?_ _ | refine bd ?_ | refine bdn ?_ _ | refine bs ?_ (by first | omega | (simp; done) | (simp; omega)) _ | refine bt ?_ (by assumption))))
  obtain ⟨hc3_4, hf3_4, hl3_4⟩ := bcell hb3_4
  clear hl3_4
  have hz4_0 : w.heap.size < w4.heap.size := (by omega)
  have hz4_1 : w1.heap.size < w4.heap.size := (by omega)
  have hz4_2 : w2.heap.size < w4.heap.size := (by omega)
  obtain ⟨hc4, hf4, hl4⟩ := bcell hb4
  clear hl4
  simp only [List.mem_cons, List.not_mem_nil, or_false] at hi4
  subst hi4
  refine Mix.op rfl (by kernel_rfl) ?_
  go_simp
  refine (HO.out _).mono ?_
  rintro e w5 ⟨v5, rfl, hv5, hb5⟩
  refine ⟨_, rfl, ?_⟩
  have hs5 : w4.heap.size + 0 ≤ w5.heap.size := (by have h := hb5.size; first | omega | (simp at h; omega))
  have hb3_5 := bel hb3_4 hb5 (by (repeat (first | assumption | exact Below.refl _ _ | refine ba ?_ _ | refine bd ?_ | refine bdn ?_ _ | refine bs ?_ (by first | omega | (simp; done) | (simp; omega)) _ | refine bt ?_ (by assumption))))
  have hb4_5 := bel hb4 hb5 (by (repeat (first | assumption | exact Below.refl _ _ | refine ba ?_ _ | refine bd ?_ | refine bdn ?_ _ | refine bs ?_ (by first | omega | (simp; done) | (simp; omega)) _ | refine bt ?_ (by assumption))))
  clear hc3_4 hf3_4 hz4_0 hz4_1 hz4_2 hc4 hf4
  obtain ⟨hc3_5, hf3_5, hl3_5⟩ := bcell hb3_5
  clear hl3_5
  have hz5_0 : w.heap.size < w5.heap.size := (by omega)
  have hz5_1 : w1.heap.size < w5.heap.size := (by omega)
  have hz5_2 : w2.heap.size < w5.heap.size := (by omega)
  obtain ⟨hc5, hf5, hl5⟩ := bcell hb5
  clear hl5
  refine Mix.all (rs := [5]) (by kernel_rfl) (by simp) (Mix.over_of (by (repeat (first | assumption | exact Below.refl _ _ | refine ba ?_ _ | refine bd ?_ | refine bdn ?_ _ | refine bs ?_ (by first | omega | (simp; done) | (simp; omega)) _ | refine bt ?_ (by assumption))))) ?_
  intro i6 hi6 w6 hb6 hC6
  clear hC6
  have hs6 : w5.heap.size + 0 ≤ w6.heap.size := (by have h := hb6.size; first | omega | (simp at h; omega))
  have hb3_6 := bel hb3_5 hb6 (by (repeat (first | assumption | exact Below.refl _ _ | refine ba ?_ _ | refine bd ?_ | refine bdn ?_ _ | refine bs ?_ (by first | omega | (simp; done) | (simp; omega)) _ | refine bt ?_ (by assumption))))
  have hb4_6 := bel hb4_5 hb6 (by (repeat (first | assumption | exact Below.refl _ _ | refine ba ?_ _ | refine bd ?_ | refine bdn ?_ _ | refine bs ?_ (by first | omega | (simp; done) | (simp; omega)) _ | refine bt ?_ (by assumption))))
  have hb5_6 := bel hb5 hb6 (by (repeat (first | assumption | exact Below.refl _ _ | refine ba ?_ _ | refine bd ?_ | refine bdn ?_ _ | refine bs ?_ (by first | omega | (simp; done) | (simp; omega)) _ | refine bt ?_ (by assumption))))
  clear hc3_5 hf3_5 hz5_0 hz5_1 hz5_2 hc5 hf5
  obtain ⟨hc3_6, hf3_6, hl3_6⟩ := bcell hb3_6
  clear hl3_6
  have hz6_0 : w.heap.size < w6.heap.size := (by omega)
  have hz6_1 : w1.heap.size < w6.heap.size := (by omega)
  have hz6_2 : w2.heap.size < w6.heap.size := (by omega)
  obtain ⟨hc6, hf6, hl6⟩ := bcell hb6
  clear hl6
  simp only [List.mem_cons, List.not_mem_nil, or_false] at hi6
  subst hi6
  refine Mix.op rfl (by kernel_rfl) ?_
  go_simp
  refine (HDb.out _).mono ?_
  rintro e w7 ⟨v7, rfl, hv7, hb7⟩
  refine ⟨_, rfl, ?_⟩
  have hs7 : w6.heap.size + 0 ≤ w7.heap.size := (by have h := hb7.size; first | omega | (simp at h; omega))
  have hb3_7 := bel hb3_6 hb7 (by (repeat (first | assumption | exact Below.refl _ _ | refine ba ?_ _ | refine bd ?_ | refine bdn ?_ _ | refine bs ?_ (by first | omega | (simp; done) | (simp; omega)) _ | refine bt ?_ (by assumption))))
  have hb4_7 := bel hb4_6 hb7 (by (repeat (first | assumption | exact Below.refl _ _ | refine ba ?_ _ | refine bd ?_ | refine bdn ?_ _ | refine bs ?_ (by first | omega | (simp; done) | (simp; omega)) _ | refine bt ?_ (by assumption))))
  have hb5_7 := bel hb5_6 hb7 (by (repeat (first | assumption | exact Below.refl _ _ | refine ba ?_ _ | refine bd ?_ | refine bdn ?_ _ | refine bs ?_ (by first | omega | (simp; done) | (simp; omega)) _ | refine bt ?_ (by assumption))))
  have hb6_7 := bel hb6 hb7 (by (repeat (first | assumption | exact Below.refl _ _ | refine ba ?_ _ | refine bd ?_ | refine bdn ?_ _ | refine bs ?_ (by first | omega | (simp; done) | (simp; omega)) _ | refine bt ?_ (by assumption))))
  clear hc3_6 hf3_6 hz6_0 hz6_1 hz6_2 hc6 hf6
  obtain ⟨hc3_7, hf3_7, hl3_7⟩ := bcell hb3_7
  clear hl3_7
  have hz7_0 : w.heap.size < w7.heap.size := (by omega)
  have hz7_1 : w1.heap.size < w7.heap.size := (by omega)
  have hz7_2 : w2.heap.size < w7.heap.size := (by omega)
  obtain ⟨hc7, hf7, hl7⟩ := bcell hb7
  clear hl7
  refine Mix.all (rs := [6]) (by kernel_rfl) (by simp) (Mix.over_of (by (repeat (first | assumption | exact Below.refl _ _ | refine ba ?_ _ | refine bd ?_ | refine bdn ?_ _ | refine bs ?_ (by first | omega | (simp; done) | (simp; omega)) _ | refine bt ?_ (by assumption))))) ?_
  intro i8 hi8 w8 hb8 hC8
  clear hC8
  have hs8 : w7.heap.size + 0 ≤ w8.heap.size := (by have h := hb8.size; first | omega | (simp at h; omega))
  have hb3_8 := bel hb3_7 hb8 (by (repeat (first | assumption | exact Below.refl _ _ | refine ba ?_ _ | refine bd ?_ | refine bdn ?_ _ | refine bs ?_ (by first | omega | (simp; done) | (simp; omega)) _ | refine bt ?_ (by assumption))))
  have hb4_8 := bel hb4_7 hb8 (by (repeat (first | assumption | exact Below.refl _ _ | refine ba ?_ _ | refine bd ?_ | refine bdn ?_ _ | refine bs ?_ (by first | omega | (simp; done) | (simp; omega)) _ | refine bt ?_ (by assumption))))
  have hb5_8 := bel hb5_7 hb8 (by (repeat (first | assumption | exact Below.refl _ _ | refine ba ?_ _ | refine bd ?_ | refine bdn ?_ _ | refine bs ?_ (by first | omega | (simp; done) | (simp; omega)) _ | refine bt ?_ (by assumption))))
  have hb6_8 := bel hb6_7 hb8 (by (repeat (first | assumption | exact Below.refl _ _ | refine ba ?_ _ | refine bd ?_ | refine bdn ?_ _ | refine bs ?_ (by first | omega | (simp; done) | (simp; omega)) _ | refine bt ?_ (by assumption))))
  have hb7_8 := bel hb7 hb8 (by (repeat (first | assumption | exact Below.refl _ _ | refine ba ?_ _ | refine bd ?_ | refine bdn ?_ _ | refine bs ?_ (by first | omega | (simp; done) | (simp; omega)) _ | refine bt ?_ (by assumption))))
  clear hc3_7 hf3_7 hz7_0 hz7_1 hz7_2 hc7 hf7
  obtain ⟨hc3_8, hf3_8, hl3_8⟩ := bcell hb3_8
  clear hl3_8
  have hz8_0 : w.heap.size < w8.heap.size := (by omega)
  have hz8_1 : w1.heap.size < w8.heap.size := (by omega)
  have hz8_2 : w2.heap.size < w8.heap.size := (by omega)
  obtain ⟨hc8, hf8, hl8⟩ := bcell hb8
  clear hl8
  simp only [List.mem_cons, List.not_mem_nil, or_false] at hi8
  subst hi8
  refine Mix.op rfl (by kernel_rfl) ?_
  go_simp
  refine (HP1.out _ _ _ (hv5.grow hb6_8) (hv7.grow hb8)).mono ?_
  rintro e w9 ⟨v9, rfl, hv9, hb9⟩
  refine ⟨_, rfl, ?_⟩
  have hs9 : w8.heap.size + 0 ≤ w9.heap.size := (by have h := hb9.size; first | omega | (simp at h; omega))
  have hb3_9 := bel hb3_8 hb9 (by (repeat (first | assumption | exact Below.refl _ _ | refine ba ?_ _ | refine bd ?_ | refine bdn ?_ _ | refine bs ?_ (by first | omega | (simp; done) | (simp; omega)) _ | refine bt ?_ (by assumption))))
  have hb4_9 := bel hb4_8 hb9 (by (repeat (first | assumption | exact Below.refl _ _ | refine ba ?_ _ | refine bd ?_ | refine bdn ?_ _ | refine bs ?_ (by first | omega | (simp; done) | (simp; omega)) _ | refine bt ?_ (by assumption))))
  have hb5_9 := bel hb5_8 hb9 (by (repeat (first | assumption | exact Below.refl _ _ | refine ba ?_ _ | refine bd ?_ | refine bdn ?_ _ | refine bs ?_ (by first | omega | (simp; done) | (simp; omega)) _ | refine bt ?_ (by assumption))))
  have hb6_9 := bel hb6_8 hb9 (by (repeat (first | assumption | exact Below.refl _ _ | refine ba ?_ _ | refine bd ?_ | refine bdn ?_ _ | refine bs ?_ (by first | omega | (simp; done) | (simp; omega)) _ | refine bt ?_ (by assumption))))
  have hb7_9 := bel hb7_8 hb9 (by (repeat (first | assumption | exact Below.refl _ _ | refine ba ?_ _ | refine bd ?_ | refine bdn ?_ _ | refine bs ?_ (by first | omega | (simp; done) | (simp; omega)) _ | refine bt ?_ (by assumption))))
  have hb8_9 := bel hb8 hb9 (by (repeat (first | assumption | exact Below.refl _ _ | refine ba ?_ _ | refine bd ?_ | refine bdn ?_ _ | refine bs ?_ (by first | omega | (simp; done) | (simp; omega)) _ | refine bt ?_ (by assumption))))
  clear hc3_8 hf3_8 hz8_0 hz8_1 hz8_2 hc8 hf8
  obtain ⟨hc3_9, hf3_9, hl3_9⟩ := bcell hb3_9
  clear hl3_9
  have hz9_0 : w.heap.size < w9.heap.size := (by omega)
  have hz9_1 : w1.heap.size < w9.heap.size := (by omega)
  have hz9_2 : w2.heap.size < w9.heap.size := (by omega)
  obtain ⟨hc9, hf9, hl9⟩ := bcell hb9
  clear hl9
  refine Mix.all (rs := [7]) (by kernel_rfl) (by simp) (Mix.over_of (by (repeat (first | assumption | exact Below.refl _ _ | refine ba ?_ _ | refine bd ?_ | refine bdn ?_ _ | refine bs ?_ (by first | omega | (simp; done) | (simp; omega)) _ | refine bt ?_ (by assumption))))) ?_
  intro i10 hi10 w10 hb10 hC10
  clear hC10
  have hs10 : w9.heap.size + 0 ≤ w10.heap.size := (by have h := hb10.size; first | omega | (simp at h; omega))
  have hb3_10 := bel hb3_9 hb10 (by (repeat (first | assumption | exact Below.refl _ _ | refine ba ?_ _ | refine bd ?_ | refine bdn ?_ _ | refine bs ?_ (by first | omega | (simp; done) | (simp; omega)) _ | refine bt ?_ (by assumption))))
  have hb4_10 := bel hb4_9 hb10 (by (repeat (first | assumption | exact Below.refl _ _ | refine ba ?_ _ | refine bd ?_ | refine bdn ?_ _ | refine bs ?_ (by first | omega | (simp; done) | (simp; omega)) _ | refine bt ?_ (by assumption))))
  have hb5_10 := bel hb5_9 hb10 (by (repeat (first | assumption | exact Below.refl _ _ | refine ba ?_ _ | refine bd ?_ | refine bdn ?_ _ | refine bs ?_ (by first | omega | (simp; done) | (simp; omega)) _ | refine bt ?_ (by assumption))))
  have hb6_10 := bel hb6_9 hb10 (by (repeat (first | assumption | exact Below.refl _ _ | refine ba ?_ _ | refine bd ?_ | refine bdn ?_ _ | refine bs ?_ (by first | omega | (simp; done) | (simp; omega)) _ | refine bt ?_ (by assumption))))
  have hb7_10 := bel hb7_9 hb10 (by (repeat (first | assumption | exact Below.refl _ _ | refine ba ?_ _ | refine bd ?_ | refine bdn ?_ _ | refine bs ?_ (by first | omega | (simp; done) | (simp; omega)) _ | refine bt ?_ (by assumption))))
  have hb8_10 := bel hb8_9 hb10 (by (repeat (first | assumption | exact Below.refl _ _ | refine ba ?_ _ | refine bd ?_ | refine bdn ?_ _ | refine bs ?_ (by first | omega | (simp; done) | (simp; omega)) _ | refine bt ?_ (by assumption))))
  have hb9_10 := bel hb9 hb10 (by (repeat (first | assumption | exact Below.refl _ _ | refine ba ?_ _ | refine bd ?_ | refine bdn ?_ _ | refine bs ?_ (by first | omega | (simp; done) | (simp; omega)) _ | refine bt ?_ (by assumption))))
  clear hc3_9 hf3_9 hz9_0 hz9_1 hz9_2 hc9 hf9
  obtain ⟨hc3_10, hf3_10, hl3_10⟩ := bcell hb3_10
  clear hl3_10
  have hz10_0 : w.heap.size < w10.heap.size := (by omega)
  have hz10_1 : w1.heap.size < w10.heap.size := (by omega)
  have hz10_2 : w2.heap.size < w10.heap.size := (by omega)
  obtain ⟨hc10, hf10, hl10⟩ := bcell hb10
  clear hl10
  simp only [List.mem_cons, List.not_mem_nil, or_false] at hi10
  subst hi10
  refine Mix.op rfl (by kernel_rfl) ?_
  go_simp
  refine (HI1.out _ _ (hv9.grow hb10)).mono ?_
  rintro e w11 ⟨rfl, hb11⟩
  refine ⟨_, rfl, ?_⟩
  have hs11 : w10.heap.size + 0 ≤ w11.heap.size := (by have h := hb11.size; first | omega | (simp at h; omega))
  have hb3_11 := bel hb3_10 hb11 (by (repeat (first | assumption | exact Below.refl _ _ | refine ba ?_ _ | refine bd ?_ | refine bdn ?_ _ | refine bs ?_ (by first | omega | (simp; done) | (simp; omega)) _ | refine bt ?_ (by assumption))))
  have hb4_11 := bel hb4_10 hb11 (by (repeat (first | assumption | exact Below.refl _ _ | refine ba ?_ _ | refine bd ?_ | refine bdn ?_ _ | refine bs ?_ (by first | omega | (simp; done) | (simp; omega)) _ | refine bt ?_ (by assumption))))
  have hb5_11 := bel hb5_10 hb11 (by (repeat (first | assumption | exact Below.refl _ _ | refine ba ?_ _ | refine bd ?_ | refine bdn ?_ _ | refine bs ?_ (by first | omega | (simp; done) | (simp; omega)) _ | refine bt ?_ (by assumption))))
  have hb6_11 := bel hb6_10 hb11 (by (repeat (first | assumption | exact Below.refl _ _ | refine ba ?_ _ | refine bd ?_ | refine bdn ?_ _ | refine bs ?_ (by first | omega | (simp; done) | (simp; omega)) _ | refine bt ?_ (by assumption))))
  have hb7_11 := bel hb7_10 hb11 (by (repeat (first | assumption | exact Below.refl _ _ | refine ba ?_ _ | refine bd ?_ | refine bdn ?_ _ | refine bs ?_ (by first | omega | (simp; done) | (simp; omega)) _ | refine bt ?_ (by assumption))))
  have hb8_11 := bel hb8_10 hb11 (by (repeat (first | assumption | exact Below.refl _ _ | refine ba ?_ _ | refine bd ?_ | refine bdn ?_ _ | refine bs ?_ (by first | omega | (simp; done) | (simp; omega)) _ | refine bt ?_ (by assumption))))
  have hb9_11 := bel hb9_10 hb11 (by (repeat (first | assumption | exact Below.refl _ _ | refine ba ?_ _ | refine bd ?_ | refine bdn ?_ _ | refine bs ?_ (by first | omega | (simp; done) | (simp; omega)) _ | refine bt ?_ (by assumption))))
  have hb10_11 := bel hb10 hb11 (by (repeat (first | assumption | exact Below.refl _ _ | refine ba ?_ _ | refine bd ?_ | refine bdn ?_ _ | refine bs ?_ (by first | omega | (simp; done) | (simp; omega)) _ | refine bt ?_ (by assumption))))
  clear hc3_10 hf3_10 hz10_0 hz10_1 hz10_2 hc10 hf10
  obtain ⟨hc3_11, hf3_11, hl3_11⟩ := bcell hb3_11
  clear hl3_11
  have hz11_0 : w.heap.size < w11.heap.size := (by omega)
  have hz11_1 : w1.heap.size < w11.heap.size := (by omega)
  have hz11_2 : w2.heap.size < w11.heap.size := (by omega)
  obtain ⟨hc11, hf11, hl11⟩ := bcell hb11
  clear hl11
  refine Mix.take_ex (_) 8 rfl (by kernel_rfl) (by kernel_rfl) (by kernel_rfl) (by kernel_rfl) (fun K hK => ?_)
  go_simp
  first | (refine hK _ ?_; clear hK K) | (apply Exists.intro; refine ⟨fun x => ?_, hK _ ?_⟩; (fail); clear hK K)
  refine Mix.take_ex (_) 9 rfl (by kernel_rfl) (by kernel_rfl) (by kernel_rfl) (by kernel_rfl) (fun K hK => ?_)
  go_simp
  first | (refine hK _ ?_; clear hK K) | (apply Exists.intro; refine ⟨fun x => ?_, hK _ ?_⟩; (fail); clear hK K)
  refine Mix.take_ex (_) 10 rfl (by kernel_rfl) (by kernel_rfl) (by kernel_rfl) (by kernel_rfl) (fun K hK => ?_)
  go_simp
  first | (refine hK _ ?_; clear hK K) | (apply Exists.intro; refine ⟨fun x => ?_, hK _ ?_⟩; (fail); clear hK K)
  refine Mix.take_ex (_) 11 rfl (by kernel_rfl) (by kernel_rfl) (by kernel_rfl) (by kernel_rfl) (fun K hK => ?_)
  go_simp
  first | (refine hK _ ?_; clear hK K) | (apply Exists.intro; refine ⟨fun x => ?_, hK _ ?_⟩; (fail); clear hK K)
  refine Mix.take_ex (_) 13 rfl (by kernel_rfl) (by kernel_rfl) (by kernel_rfl) (by kernel_rfl) (fun K hK => ?_)
  go_simp
  first | (refine hK _ ?_; clear hK K) | (apply Exists.intro; refine ⟨fun x => ?_, hK _ ?_⟩; (fail); clear hK K)
  refine Mix.all (rs := [12]) (by kernel_rfl) (by simp) (Mix.over_of (by (repeat (first | assumption | exact Below.refl _ _ | refine ba ?_ _ | refine bd ?_ | refine bdn ?_ _ | refine bs ?_ (by first | omega | (simp; done) | (simp; omega)) _ | refine bt ?_ (by assumption))))) ?_
  intro i12 hi12 w12 hb12 hC12
  clear hC12
  have hs12 : w11.heap.size + 0 ≤ w12.heap.size := (by have h := hb12.size; first | omega | (simp at h; omega))
  have hb3_12 := bel hb3_11 hb12 (by (repeat (first | assumption | exact Below.refl _ _ | refine ba ?_ _ | refine bd ?_ | refine bdn ?_ _ | refine bs ?_ (by first | omega | (simp; done) | (simp; omega)) _ | refine bt ?_ (by assumption))))
  have hb4_12 := bel hb4_11 hb12 (by (repeat (first | assumption | exact Below.refl _ _ | refine ba ?_ _ | refine bd ?_ | refine bdn ?_ _ | refine bs ?_ (by first | omega | (simp; done) | (simp; omega)) _ | refine bt ?_ (by assumption))))
  have hb5_12 := bel hb5_11 hb12 (by (repeat (first | assumption | exact Below.refl _ _ | refine ba ?_ _ | refine bd ?_ | refine bdn ?_ _ | refine bs ?_ (by first | omega | (simp; done) | (simp; omega)) _ | refine bt ?_ (by assumption))))
  have hb6_12 := bel hb6_11 hb12 (by (repeat (first | assumption | exact Below.refl _ _ | refine ba ?_ _ | refine bd ?_ | refine bdn ?_ _ | refine bs ?_ (by first | omega | (simp; done) | (simp; omega)) _ | refine bt ?_ (by assumption))))
  have hb7_12 := bel hb7_11 hb12 (by (repeat (first | assumption | exact Below.refl _ _ | refine ba ?_ _ | refine bd ?_ | refine bdn ?_ _ | refine bs ?_ (by first | omega | (simp; done) | (simp; omega)) _ | refine bt ?_ (by assumption))))
  have hb8_12 := bel hb8_11 hb12 (by (repeat (first | assumption | exact Below.refl _ _ | refine ba ?_ _ | refine bd ?_ | refine bdn ?_ _ | refine bs ?_ (by first | omega | (simp; done) | (simp; omega)) _ | refine bt ?_ (by assumption))))
  have hb9_12 := bel hb9_11 hb12 (by (repeat (first | assumption | exact Below.refl _ _ | refine ba ?_ _ | refine bd ?_ | refine bdn ?_ _ | refine bs ?_ (by first | omega | (simp; done) | (simp; omega)) _ | refine bt ?_ (by assumption))))
  have hb10_12 := bel hb10_11 hb12 (by (repeat (first | assumption | exact Below.refl _ _ | refine ba ?_ _ | refine bd ?_ | refine bdn ?_ _ | refine bs ?_ (by first | omega | (simp; done) | (simp; omega)) _ | refine bt ?_ (by assumption))))
  have hb11_12 := bel hb11 hb12 (by (repeat (first | assumption | exact Below.refl _ _ | refine ba ?_ _ | refine bd ?_ | refine bdn ?_ _ | refine bs ?_ (by first | omega | (simp; done) | (simp; omega)) _ | refine bt ?_ (by assumption))))
  clear hc3_11 hf3_11 hz11_0 hz11_1 hz11_2 hc11 hf11
  obtain ⟨hc3_12, hf3_12, hl3_12⟩ := bcell hb3_12
  clear hl3_12
  have hz12_0 : w.heap.size < w12.heap.size := (by omega)
  have hz12_1 : w1.heap.size < w12.heap.size := (by omega)
  have hz12_2 : w2.heap.size < w12.heap.size := (by omega)
  obtain ⟨hc12, hf12, hl12⟩ := bcell hb12
  clear hl12
  simp only [List.mem_cons, List.not_mem_nil, or_false] at hi12
  subst hi12
  refine Mix.op rfl (by kernel_rfl) ?_
  go_simp
  refine (HDl.out _).mono ?_
  rintro e w13 ⟨v13, rfl, hv13, hb13⟩
  refine ⟨_, rfl, ?_⟩
  have hs13 : w12.heap.size + 0 ≤ w13.heap.size := (by have h := hb13.size; first | omega | (simp at h; omega))
  have hb3_13 := bel hb3_12 hb13 (by (repeat (first | assumption | exact Below.refl _ _ | refine ba ?_ _ | refine bd ?_ | refine bdn ?_ _ | refine bs ?_ (by first | omega | (simp; done) | (simp; omega)) _ | refine bt ?_ (by assumption))))
  have hb4_13 := bel hb4_12 hb13 (by (repeat (first | assumption | exact Below.refl _ _ | refine ba ?_ _ | refine bd ?_ | refine bdn ?_ _ | refine bs ?_ (by first | omega | (simp; done) | (simp; omega)) _ | refine bt ?_ (by assumption))))
  have hb5_13 := bel hb5_12 hb13 (by (repeat (first | assumption | exact Below.refl _ _ | refine ba ?_ _ | refine bd ?_ | refine bdn ?_ _ | refine bs ?_ (by first | omega | (simp; done) | (simp; omega)) _ | refine bt ?_ (by assumption))))
  have hb6_13 := bel hb6_12 hb13 (by (repeat (first | assumption | exact Below.refl _ _ | refine ba ?_ _ | refine bd ?_ | refine bdn ?_ _ | refine bs ?_ (by first | omega | (simp; done) | (simp; omega)) _ | refine bt ?_ (by assumption))))
  have hb7_13 := bel hb7_12 hb13 (by (repeat (first | assumption | exact Below.refl _ _ | refine ba ?_ _ | refine bd ?_ | refine bdn ?_ _ | refine bs ?_ (by first | omega | (simp; done) | (simp; omega)) _ | refine bt ?_ (by assumption))))
  have hb8_13 := bel hb8_12 hb13 (by (repeat (first | assumption | exact Below.refl _ _ | refine ba ?_ _ | refine bd ?_ | refine bdn ?_ _ | refine bs ?_ (by first | omega | (simp; done) | (simp; omega)) _ | refine bt ?_ (by assumption))))
  have hb9_13 := bel hb9_12 hb13 (by (repeat (first | assumption | exact Below.refl _ _ | refine ba ?_ _ | refine bd ?_ | refine bdn ?_ _ | refine bs ?_ (by first | omega | (simp; done) | (simp; omega)) _ | refine bt ?_ (by assumption))))
  have hb10_13 := bel hb10_12 hb13 (by (repeat (first | assumption | exact Below.refl _ _ | refine ba ?_ _ | refine bd ?_ | refine bdn ?_ _ | refine bs ?_ (by first | omega | (simp; done) | (simp; omega)) _ | refine bt ?_ (by assumption))))
  have hb11_13 := bel hb11_12 hb13 (by (repeat (first | assumption | exact Below.refl _ _ | refine ba ?_ _ | refine bd ?_ | refine bdn ?_ _ | refine bs ?_ (by first | omega | (simp; done) | (simp; omega)) _ | refine bt ?_ (by assumption))))
  have hb12_13 := bel hb12 hb13 (by (repeat (first | assumption | exact Below.refl _ _ | refine ba ?_ _ | refine bd ?_ | refine bdn ?_ _ | refine bs ?_ (by first | omega | (simp; done) | (simp; omega)) _ | refine bt ?_ (by assumption))))
  clear hc3_12 hf3_12 hz12_0 hz12_1 hz12_2 hc12 hf12
  obtain ⟨hc3_13, hf3_13, hl3_13⟩ := bcell hb3_13
  clear hl3_13
  have hz13_0 : w.heap.size < w13.heap.size := (by omega)
  have hz13_1 : w1.heap.size < w13.heap.size := (by omega)
  have hz13_2 : w2.heap.size < w13.heap.size := (by omega)
  obtain ⟨hc13, hf13, hl13⟩ := bcell hb13
  clear hl13
  refine Mix.all (rs := [14]) (by kernel_rfl) (by simp) (Mix.over_of (by (repeat (first | assumption | exact Below.refl _ _ | refine ba ?_ _ | refine bd ?_ | refine bdn ?_ _ | refine bs ?_ (by first | omega | (simp; done) | (simp; omega)) _ | refine bt ?_ (by assumption))))) ?_
  intro i14 hi14 w14 hb14 hC14
  clear hC14
  have hs14 : w13.heap.size + 0 ≤ w14.heap.size := (by have h := hb14.size; first | omega | (simp at h; omega))
  have hb3_14 := bel hb3_13 hb14 (by (repeat (first | assumption | exact Below.refl _ _ | refine ba ?_ _ | refine bd ?_ | refine bdn ?_ _ | refine bs ?_ (by first | omega | (simp; done) | (simp; omega)) _ | refine bt ?_ (by assumption))))
  have hb4_14 := bel hb4_13 hb14 (by (repeat (first | assumption | exact Below.refl _ _ | refine ba ?_ _ | refine bd ?_ | refine bdn ?_ _ | refine bs ?_ (by first | omega | (simp; done) | (simp; omega)) _ | refine bt ?_ (by assumption))))
  have hb5_14 := bel hb5_13 hb14 (by (repeat (first | assumption | exact Below.refl _ _ | refine ba ?_ _ | refine bd ?_ | refine bdn ?_ _ | refine bs ?_ (by first | omega | (simp; done) | (simp; omega)) _ | refine bt ?_ (by assumption))))
  have hb6_14 := bel hb6_13 hb14 (by (repeat (first | assumption | exact Below.refl _ _ | refine ba ?_ _ | refine bd ?_ | refine bdn ?_ _ | refine bs ?_ (by first | omega | (simp; done) | (simp; omega)) _ | refine bt ?_ (by assumption))))
  have hb7_14 := bel hb7_13 hb14 (by (repeat (first | assumption | exact Below.refl _ _ | refine ba ?_ _ | refine bd ?_ | refine bdn ?_ _ | refine bs ?_ (by first | omega | (simp; done) | (simp; omega)) _ | refine bt ?_ (by assumption))))
  have hb8_14 := bel hb8_13 hb14 (by (repeat (first | assumption | exact Below.refl _ _ | refine ba ?_ _ | refine bd ?_ | refine bdn ?_ _ | refine bs ?_ (by first | omega | (simp; done) | (simp; omega)) _ | refine bt ?_ (by assumption))))
  have hb9_14 := bel hb9_13 hb14 (by (repeat (first | assumption | exact Below.refl _ _ | refine ba ?_ _ | refine bd ?_ | refine bdn ?_ _ | refine bs ?_ (by first | omega | (simp; done) | (simp; omega)) _ | refine bt ?_ (by assumption))))
  have hb10_14 := bel hb10_13 hb14 (by (repeat (first | assumption | exact Below.refl _ _ | refine ba ?_ _ | refine bd ?_ | refine bdn ?_ _ | refine bs ?_ (by first | omega | (simp; done) | (simp; omega)) _ | refine bt ?_ (by assumption))))
  have hb11_14 := bel hb11_13 hb14 (by (repeat (first | assumption | exact Below.refl _ _ | refine ba ?_ _ | refine bd ?_ | refine bdn ?_ _ | refine bs ?_ (by first | omega | (simp; done) | (simp; omega)) _ | refine bt ?_ (by assumption))))
  have hb12_14 := bel hb12_13 hb14 (by (repeat (first | assumption | exact Below.refl _ _ | refine ba ?_ _ | refine bd ?_ | refine bdn ?_ _ | refine bs ?_ (by first | omega | (simp; done) | (simp; omega)) _ | refine bt ?_ (by assumption))))
  have hb13_14 := bel hb13 hb14 (by (repeat (first | assumption | exact Below.refl _ _ | refine ba ?_ _ | refine bd ?_ | refine bdn ?_ _ | refine bs ?_ (by first | omega | (simp; done) | (simp; omega)) _ | refine bt ?_ (by assumption))))
  clear hc3_13 hf3_13 hz13_0 hz13_1 hz13_2 hc13 hf13
  obtain ⟨hc3_14, hf3_14, hl3_14⟩ := bcell hb3_14
  clear hl3_14
  have hz14_0 : w.heap.size < w14.heap.size := (by omega)
  have hz14_1 : w1.heap.size < w14.heap.size := (by omega)
  have hz14_2 : w2.heap.size < w14.heap.size := (by omega)
  obtain ⟨hc14, hf14, hl14⟩ := bcell hb14
  clear hl14
  simp only [List.mem_cons, List.not_mem_nil, or_false] at hi14
  subst hi14
  refine Mix.op rfl (by kernel_rfl) ?_
  go_simp
  refine (HDb.out _).mono ?_
  rintro e w15 ⟨v15, rfl, hv15, hb15⟩
  refine ⟨_, rfl, ?_⟩
  have hs15 : w14.heap.size + 0 ≤ w15.heap.size := (by have h := hb15.size; first | omega | (simp at h; omega))
  have hb3_15 := bel hb3_14 hb15 (by (repeat (first | assumption | exact Below.refl _ _ | refine ba ?_ _ | refine bd ?_ | refine bdn ?_ _ | refine bs ?_ (by first | omega | (simp; done) | (simp; omega)) _ | refine bt ?_ (by assumption))))
  have hb4_15 := bel hb4_14 hb15 (by (repeat (first | assumption | exact Below.refl _ _ | refine ba ?_ _ | refine bd ?_ | refine bdn ?_ _ | refine bs ?_ (by first | omega | (simp; done) | (simp; omega)) _ | refine bt ?_ (by assumption))))
  have hb5_15 := bel hb5_14 hb15 (by (repeat (first | assumption | exact Below.refl _ _ | refine ba ?_ _ | refine bd ?_ | refine bdn ?_ _ | refine bs ?_ (by first | omega | (simp; done) | (simp; omega)) _ | refine bt ?_ (by assumption))))
  have hb6_15 := bel hb6_14 hb15 (by (repeat (first | assumption | exact Below.refl _ _ | refine ba ?_ _ | refine bd ?_ | refine bdn ?_ _ | refine bs ?_ (by first | omega | (simp; done) | (simp; omega)) _ | refine bt ?_ (by assumption))))
  have hb7_15 := bel hb7_14 hb15 (by (repeat (first | assumption | exact Below.refl _ _ | refine ba ?_ _ | refine bd ?_ | refine bdn ?_ _ | refine bs ?_ (by first | omega | (simp; done) | (simp; omega)) _ | refine bt ?_ (by assumption))))
  have hb8_15 := bel hb8_14 hb15 (by (repeat (first | assumption | exact Below.refl _ _ | refine ba ?_ _ | refine bd ?_ | refine bdn ?_ _ | refine bs ?_ (by first | omega | (simp; done) | (simp; omega)) _ | refine bt ?_ (by assumption))))
  have hb9_15 := bel hb9_14 hb15 (by (repeat (first | assumption | exact Below.refl _ _ | refine ba ?_ _ | refine bd ?_ | refine bdn ?_ _ | refine bs ?_ (by first | omega | (simp; done) | (simp; omega)) _ | refine bt ?_ (by assumption))))
  have hb10_15 := bel hb10_14 hb15 (by (repeat (first | assumption | exact Below.refl _ _ | refine ba ?_ _ | refine bd ?_ | refine bdn ?_ _ | refine bs ?_ (by first | omega | (simp; done) | (simp; omega)) _ | refine bt ?_ (by assumption))))
  have hb11_15 := bel hb11_14 hb15 (by (repeat (first | assumption | exact Below.refl _ _ | refine ba ?_ _ | refine bd ?_ | refine bdn ?_ _ | refine bs ?_ (by first | omega | (simp; done) | (simp; omega)) _ | refine bt ?_ (by assumption))))
  have hb12_15 := bel hb12_14 hb15 (by (repeat (first | assumption | exact Below.refl _ _ | refine ba ?_ _ | refine bd ?_ | refine bdn ?_ _ | refine bs ?_ (by first | omega | (simp; done) | (simp; omega)) _ | refine bt ?_ (by assumption))))
  have hb13_15 := bel hb13_14 hb15 (by (repeat (first | assumption | exact Below.refl _ _ | refine ba ?_ _ | refine bd ?_ | refine bdn ?_ _ | refine bs ?_ (by first | omega | (simp; done) | (simp; omega)) _ | refine bt ?_ (by assumption))))
  have hb14_15 := bel hb14 hb15 (by (repeat (first | assumption | exact Below.refl _ _ | refine ba ?_ _ | refine bd ?_ | refine bdn ?_ _ | refine bs ?_ (by first | omega | (simp; done) | (simp; omega)) _ | refine bt ?_ (by assumption))))
  clear hc3_14 hf3_14 hz14_0 hz14_1 hz14_2 hc14 hf14
  obtain ⟨hc3_15, hf3_15, hl3_15⟩ := bcell hb3_15
  clear hl3_15
  have hz15_0 : w.heap.size < w15.heap.size := (by omega)
  have hz15_1 : w1.heap.size < w15.heap.size := (by omega)
  have hz15_2 : w2.heap.size < w15.heap.size := (by omega)
  obtain ⟨hc15, hf15, hl15⟩ := bcell hb15
  clear hl15
  refine Mix.all (rs := [15]) (by kernel_rfl) (by simp) (Mix.over_of (by (repeat (first | assumption | exact Below.refl _ _ | refine ba ?_ _ | refine bd ?_ | refine bdn ?_ _ | refine bs ?_ (by first | omega | (simp; done) | (simp; omega)) _ | refine bt ?_ (by assumption))))) ?_
  intro i16 hi16 w16 hb16 hC16
  clear hC16
  have hs16 : w15.heap.size + 0 ≤ w16.heap.size := (by have h := hb16.size; first | omega | (simp at h; omega))
  have hb3_16 := bel hb3_15 hb16 (by (repeat (first | assumption | exact Below.refl _ _ | refine ba ?_ _ | refine bd ?_ | refine bdn ?_ _ | refine bs ?_ (by first | omega | (simp; done) | (simp; omega)) _ | refine bt ?_ (by assumption))))
  have hb4_16 := bel hb4_15 hb16 (by (repeat (first | assumption | exact Below.refl _ _ | refine ba ?_ _ | refine bd ?_ | refine bdn ?_ _ | refine bs ?_ (by first | omega | (simp; done) | (simp; omega)) _ | refine bt ?_ (by assumption))))
  have hb5_16 := bel hb5_15 hb16 (by (repeat (first | assumption | exact Below.refl _ _ | refine ba ?_ _ | refine bd ?_ | refine bdn ?_ _ | refine bs ?_ (by first | omega | (simp; done) | (simp; omega)) _ | refine bt ?_ (by assumption))))
  have hb6_16 := bel hb6_15 hb16 (by (repeat (first | assumption | exact Below.refl _ _ | refine ba ?_ _ | refine bd ?_ | refine bdn ?_ _ | refine bs ?_ (by first | omega | (simp; done) | (simp; omega)) _ | refine bt ?_ (by assumption))))
  have hb7_16 := bel hb7_15 hb16 (by (repeat (first | assumption | exact Below.refl _ _ | refine ba ?_ _ | refine bd ?_ | refine bdn ?_ _ | refine bs ?_ (by first | omega | (simp; done) | (simp; omega)) _ | refine bt ?_ (by assumption))))
  have hb8_16 := bel hb8_15 hb16 (by (repeat (first | assumption | exact Below.refl _ _ | refine ba ?_ _ | refine bd ?_ | refine bdn ?_ _ | refine bs ?_ (by first | omega | (simp; done) | (simp; omega)) _ | refine bt ?_ (by assumption))))
  have hb9_16 := bel hb9_15 hb16 (by (repeat (first | assumption | exact Below.refl _ _ | refine ba ?_ _ | refine bd ?_ | refine bdn ?_ _ | refine bs ?_ (by first | omega | (simp; done) | (simp; omega)) _ | refine bt ?_ (by assumption))))
  have hb10_16 := bel hb10_15 hb16 (by (repeat (first | assumption | exact Below.refl _ _ | refine ba ?_ _ | refine bd ?_ | refine bdn ?_ _ | refine bs ?_ (by first | omega | (simp; done) | (simp; omega)) _ | refine bt ?_ (by assumption))))
  have hb11_16 := bel hb11_15 hb16 (by (repeat (first | assumption | exact Below.refl _ _ | refine ba ?_ _ | refine bd ?_ | refine bdn ?_ _ | refine bs ?_ (by first | omega | (simp; done) | (simp; omega)) _ | refine bt ?_ (by assumption))))
  have hb12_16 := bel hb12_15 hb16 (by (repeat (first | assumption | exact Below.refl _ _ | refine ba ?_ _ | refine bd ?_ | refine bdn ?_ _ | refine bs ?_ (by first | omega | (simp; done) | (simp; omega)) _ | refine bt ?_ (by assumption))))
  have hb13_16 := bel hb13_15 hb16 (by (repeat (first | assumption | exact Below.refl _ _ | refine ba ?_ _ | refine bd ?_ | refine bdn ?_ _ | refine bs ?_ (by first | omega | (simp; done) | (simp; omega)) _ | refine bt ?_ (by assumption))))
  have hb14_16 := bel hb14_15 hb16 (by (repeat (first | assumption | exact Below.refl _ _ | refine ba ?_ _ | refine bd ?_ | refine bdn ?_ _ | refine bs ?_ (by first | omega | (simp; done) | (simp; omega)) _ | refine bt ?_ (by assumption))))
  have hb15_16 := bel hb15 hb16 (by (repeat (first | assumption | exact Below.refl _ _ | refine ba ?_ _ | refine bd ?_ | refine bdn ?_ _ | refine bs ?_ (by first | omega | (simp; done) | (simp; omega)) _ | refine bt ?_ (by assumption))))
  clear hc3_15 hf3_15 hz15_0 hz15_1 hz15_2 hc15 hf15
  obtain ⟨hc3_16, hf3_16, hl3_16⟩ := bcell hb3_16
  clear hl3_16
  have hz16_0 : w.heap.size < w16.heap.size := (by omega)
  have hz16_1 : w1.heap.size < w16.heap.size := (by omega)
  have hz16_2 : w2.heap.size < w16.heap.size := (by omega)
  obtain ⟨hc16, hf16, hl16⟩ := bcell hb16
  clear hl16
  simp only [List.mem_cons, List.not_mem_nil, or_false] at hi16
  subst hi16
  refine Mix.op rfl (by kernel_rfl) ?_
  go_simp
  refine (HP2.out _ _ _ (hv13.grow hb14_16) (hv15.grow hb16)).mono ?_
  rintro e w17 ⟨v17, rfl, hv17, hb17⟩
  refine ⟨_, rfl, ?_⟩
  have hs17 : w16.heap.size + 0 ≤ w17.heap.size := (by have h := hb17.size; first | omega | (simp at h; omega))
  have hb3_17 := bel hb3_16 hb17 (by (repeat (first | assumption | exact Below.refl _ _ | refine ba ?_ _ | refine bd ?_ | refine bdn ?_ _ | refine bs ?_ (by first | omega | (simp; done) | (simp; omega)) _ | refine bt ?_ (by assumption))))
  have hb4_17 := bel hb4_16 hb17 (by (repeat (first | assumption | exact Below.refl _ _ | refine ba ?_ _ | refine bd ?_ | refine bdn ?_ _ | refine bs ?_ (by first | omega | (simp; done) | (simp; omega)) _ | refine bt ?_ (by assumption))))
  have hb5_17 := bel hb5_16 hb17 (by (repeat (first | assumption | exact Below.refl _ _ | refine ba ?_ _ | refine bd ?_ | refine bdn ?_ _ | refine bs ?_ (by first | omega | (simp; done) | (simp; omega)) _ | refine bt ?_ (by assumption))))
  have hb6_17 := bel hb6_16 hb17 (by (repeat (first | assumption | exact Below.refl _ _ | refine ba ?_ _ | refine bd ?_ | refine bdn ?_ _ | refine bs ?_ (by first | omega | (simp; done) | (simp; omega)) _ | refine bt ?_ (by assumption))))
  have hb7_17 := bel hb7_16 hb17 (by (repeat (first | assumption | exact Below.refl _ _ | refine ba ?_ _ | refine bd ?_ | refine bdn ?_ _ | refine bs ?_ (by first | omega | (simp; done) | (simp; omega)) _ | refine bt ?_ (by assumption))))
  have hb8_17 := bel hb8_16 hb17 (by (repeat (first | assumption | exact Below.refl _ _ | refine ba ?_ _ | refine bd ?_ | refine bdn ?_ _ | refine bs ?_ (by first | omega | (simp; done) | (simp; omega)) _ | refine bt ?_ (by assumption))))
  have hb9_17 := bel hb9_16 hb17 (by (repeat (first | assumption | exact Below.refl _ _ | refine ba ?_ _ | refine bd ?_ | refine bdn ?_ _ | refine bs ?_ (by first | omega | (simp; done) | (simp; omega)) _ | refine bt ?_ (by assumption))))
  have hb10_17 := bel hb10_16 hb17 (by (repeat (first | assumption | exact Below.refl _ _ | refine ba ?_ _ | refine bd ?_ | refine bdn ?_ _ | refine bs ?_ (by first | omega | (simp; done) | (simp; omega)) _ | refine bt ?_ (by assumption))))
  have hb11_17 := bel hb11_16 hb17 (by (repeat (first | assumption | exact Below.refl _ _ | refine ba ?_ _ | refine bd ?_ | refine bdn ?_ _ | refine bs ?_ (by first | omega | (simp; done) | (simp; omega)) _ | refine bt ?_ (by assumption))))
  have hb12_17 := bel hb12_16 hb17 (by (repeat (first | assumption | exact Below.refl _ _ | refine ba ?_ _ | refine bd ?_ | refine bdn ?_ _ | refine bs ?_ (by first | omega | (simp; done) | (simp; omega)) _ | refine bt ?_ (by assumption))))
  have hb13_17 := bel hb13_16 hb17 (by (repeat (first | assumption | exact Below.refl _ _ | refine ba ?_ _ | refine bd ?_ | refine bdn ?_ _ | refine bs ?_ (by first | omega | (simp; done) | (simp; omega)) _ | refine bt ?_ (by assumption))))
  have hb14_17 := bel hb14_16 hb17 (by (repeat (first | assumption | exact Below.refl _ _ | refine ba ?_ _ | refine bd ?_ | refine bdn ?_ _ | refine bs ?_ (by first | omega | (simp; done) | (simp; omega)) _ | refine bt ?_ (by assumption))))
  have hb15_17 := bel hb15_16 hb17 (by (repeat (first | assumption | exact Below.refl _ _ | refine ba ?_ _ | refine bd ?_ | refine bdn ?_ _ | refine bs ?_ (by first | omega | (simp; done) | (simp; omega)) _ | refine bt ?_ (by assumption))))
  have hb16_17 := bel hb16 hb17 (by (repeat (first | assumption | exact Below.refl _ _ | refine ba ?_ _ | refine bd ?_ | refine bdn ?_ _ | refine bs ?_ (by first | omega | (simp; done) | (simp; omega)) _ | refine bt ?_ (by assumption))))
  clear hc3_16 hf3_16 hz16_0 hz16_1 hz16_2 hc16 hf16
  obtain ⟨hc3_17, hf3_17, hl3_17⟩ := bcell hb3_17
  clear hl3_17
  have hz17_0 : w.heap.size < w17.heap.size := (by omega)
  have hz17_1 : w1.heap.size < w17.heap.size := (by omega)
  have hz17_2 : w2.heap.size < w17.heap.size := (by omega)
  obtain ⟨hc17, hf17, hl17⟩ := bcell hb17
  clear hl17
  refine Mix.all (rs := [16]) (by kernel_rfl) (by simp) (Mix.over_of (by (repeat (first | assumption | exact Below.refl _ _ | refine ba ?_ _ | refine bd ?_ | refine bdn ?_ _ | refine bs ?_ (by first | omega | (simp; done) | (simp; omega)) _ | refine bt ?_ (by assumption))))) ?_
  intro i18 hi18 w18 hb18 hC18
  clear hC18
  have hs18 : w17.heap.size + 0 ≤ w18.heap.size := (by have h := hb18.size; first | omega | (simp at h; omega))
  have hb3_18 := bel hb3_17 hb18 (by (repeat (first | assumption | exact Below.refl _ _ | refine ba ?_ _ | refine bd ?_ | refine bdn ?_ _ | refine bs ?_ (by first | omega | (simp; done) | (simp; omega)) _ | refine bt ?_ (by assumption))))
  have hb4_18 := bel hb4_17 hb18 (by (repeat (first | assumption | exact Below.refl _ _ | refine ba ?_ _ | refine bd ?_ | refine bdn ?_ _ | refine bs ?_ (by first | omega | (simp; done) | (simp; omega)) _ | refine bt ?_ (by assumption))))
  have hb5_18 := bel hb5_17 hb18 (by (repeat (first | assumption | exact Below.refl _ _ | refine ba ?_ _ | refine bd ?_ | refine bdn ?_ _ | refine bs ?_ (by first | omega | (simp; done) | (simp; omega)) _ | refine bt ?_ (by assumption))))
  have hb6_18 := bel hb6_17 hb18 (by (repeat (first | assumption | exact Below.refl _ _ | refine ba ?_ _ | refine bd ?_ | refine bdn ?_ _ | refine bs ?_ (by first | omega | (simp; done) | (simp; omega)) _ | refine bt ?_ (by assumption))))
  have hb7_18 := bel hb7_17 hb18 (by (repeat (first | assumption | exact Below.refl _ _ | refine ba ?_ _ | refine bd ?_ | refine bdn ?_ _ | refine bs ?_ (by first | omega | (simp; done) | (simp; omega)) _ | refine bt ?_ (by assumption))))
  have hb8_18 := bel hb8_17 hb18 (by (repeat (first | assumption | exact Below.refl _ _ | refine ba ?_ _ | refine bd ?_ | refine bdn ?_ _ | refine bs ?_ (by first | omega | (simp; done) | (simp; omega)) _ | refine bt ?_ (by assumption))))
  have hb9_18 := bel hb9_17 hb18 (by (repeat (first | assumption | exact Below.refl _ _ | refine ba ?_ _ | refine bd ?_ | refine bdn ?_ _ | refine bs ?_ (by first | omega | (simp; done) | (simp; omega)) _ | refine bt ?_ (by assumption))))
  have hb10_18 := bel hb10_17 hb18 (by (repeat (first | assumption | exact Below.refl _ _ | refine ba ?_ _ | refine bd ?_ | refine bdn ?_ _ | refine bs ?_ (by first | omega | (simp; done) | (simp; omega)) _ | refine bt ?_ (by assumption))))
  have hb11_18 := bel hb11_17 hb18 (by (repeat (first | assumption | exact Below.refl _ _ | refine ba ?_ _ | refine bd ?_ | refine bdn ?_ _ | refine bs ?_ (by first | omega | (simp; done) | (simp; omega)) _ | refine bt ?_ (by assumption))))
  have hb12_18 := bel hb12_17 hb18 (by (repeat (first | assumption | exact Below.refl _ _ | refine ba ?_ _ | refine bd ?_ | refine bdn ?_ _ | refine bs ?_ (by first | omega | (simp; done) | (simp; omega)) _ | refine bt ?_ (by assumption))))
  have hb13_18 := bel hb13_17 hb18 (by (repeat (first | assumption | exact Below.refl _ _ | refine ba ?_ _ | refine bd ?_ | refine bdn ?_ _ | refine bs ?_ (by first | omega | (simp; done) | (simp; omega)) _ | refine bt ?_ (by assumption))))
  have hb14_18 := bel hb14_17 hb18 (by (repeat (first | assumption | exact Below.refl _ _ | refine ba ?_ _ | refine bd ?_ | refine bdn ?_ _ | refine bs ?_ (by first | omega | (simp; done) | (simp; omega)) _ | refine bt ?_ (by assumption))))
  have hb15_18 := bel hb15_17 hb18 (by (repeat (first | assumption | exact Below.refl _ _ | refine ba ?_ _ | refine bd ?_ | refine bdn ?_ _ | refine bs ?_ (by first | omega | (simp; done) | (simp; omega)) _ | refine bt ?_ (by assumption))))
  have hb16_18 := bel hb16_17 hb18 (by (repeat (first | assumption | exact Below.refl _ _ | refine ba ?_ _ | refine bd ?_ | refine bdn ?_ _ | refine bs ?_ (by first | omega | (simp; done) | (simp; omega)) _ | refine bt ?_ (by assumption))))
  have hb17_18 := bel hb17 hb18 (by (repeat (first | assumption | exact Below.refl _ _ | refine ba ?_ _ | refine bd ?_ | refine bdn ?_ _ | refine bs ?_ (by first | omega | (simp; done) | (simp; omega)) _ | refine bt ?_ (by assumption))))
  clear hc3_17 hf3_17 hz17_0 hz17_1 hz17_2 hc17 hf17
  obtain ⟨hc3_18, hf3_18, hl3_18⟩ := bcell hb3_18
  clear hl3_18
  have hz18_0 : w.heap.size < w18.heap.size := (by omega)
  have hz18_1 : w1.heap.size < w18.heap.size := (by omega)
  have hz18_2 : w2.heap.size < w18.heap.size := (by omega)
  obtain ⟨hc18, hf18, hl18⟩ := bcell hb18
  clear hl18
  simp only [List.mem_cons, List.not_mem_nil, or_false] at hi18
  subst hi18
  refine Mix.op rfl (by kernel_rfl) ?_
  go_simp
  refine (HI2.out _ _ (hv17.grow hb18)).mono ?_
  rintro e w19 ⟨rfl, hb19⟩
  refine ⟨_, rfl, ?_⟩
  have hs19 : w18.heap.size + 0 ≤ w19.heap.size := (by have h := hb19.size; first | omega | (simp at h; omega))
  have hb3_19 := bel hb3_18 hb19 (by (repeat (first | assumption | exact Below.refl _ _ | refine ba ?_ _ | refine bd ?_ | refine bdn ?_ _ | refine bs ?_ (by first | omega | (simp; done) | (simp; omega)) _ | refine bt ?_ (by assumption))))
  have hb4_19 := bel hb4_18 hb19 (by (repeat (first | assumption | exact Below.refl _ _ | refine ba ?_ _ | refine bd ?_ | refine bdn ?_ _ | refine bs ?_ (by first | omega | (simp; done) | (simp; omega)) _ | refine bt ?_ (by assumption))))
  have hb5_19 := bel hb5_18 hb19 (by (repeat (first | assumption | exact Below.refl _ _ | refine ba ?_ _ | refine bd ?_ | refine bdn ?_ _ | refine bs ?_ (by first | omega | (simp; done) | (simp; omega)) _ | refine bt ?_ (by assumption))))
  have hb6_19 := bel hb6_18 hb19 (by (repeat (first | assumption | exact Below.refl _ _ | refine ba ?_ _ | refine bd ?_ | refine bdn ?_ _ | refine bs ?_ (by first | omega | (simp; done) | (simp; omega)) _ | refine bt ?_ (by assumption))))
  have hb7_19 := bel hb7_18 hb19 (by (repeat (first | assumption | exact Below.refl _ _ | refine ba ?_ _ | refine bd ?_ | refine bdn ?_ _ | refine bs ?_ (by first | omega | (simp; done) | (simp; omega)) _ | refine bt ?_ (by assumption))))
  have hb8_19 := bel hb8_18 hb19 (by (repeat (first | assumption | exact Below.refl _ _ | refine ba ?_ _ | refine bd ?_ | refine bdn ?_ _ | refine bs ?_ (by first | omega | (simp; done) | (simp; omega)) _ | refine bt ?_ (by assumption))))
  have hb9_19 := bel hb9_18 hb19 (by (repeat (first | assumption | exact Below.refl _ _ | refine ba ?_ _ | refine bd ?_ | refine bdn ?_ _ | refine bs ?_ (by first | omega | (simp; done) | (simp; omega)) _ | refine bt ?_ (by assumption))))
  have hb10_19 := bel hb10_18 hb19 (by (repeat (first | assumption | exact Below.refl _ _ | refine ba ?_ _ | refine bd ?_ | refine bdn ?_ _ | refine bs ?_ (by first | omega | (simp; done) | (simp; omega)) _ | refine bt ?_ (by assumption))))
  have hb11_19 := bel hb11_18 hb19 (by (repeat (first | assumption | exact Below.refl _ _ | refine ba ?_ _ | refine bd ?_ | refine bdn ?_ _ | refine bs ?_ (by first | omega | (simp; done) | (simp; omega)) _ | refine bt ?_ (by assumption))))
  have hb12_19 := bel hb12_18 hb19 (by (repeat (first | assumption | exact Below.refl _ _ | refine ba ?_ _ | refine bd ?_ | refine bdn ?_ _ | refine bs ?_ (by first | omega | (simp; done) | (simp; omega)) _ | refine bt ?_ (by assumption))))
  have hb13_19 := bel hb13_18 hb19 (by (repeat (first | assumption | exact Below.refl _ _ | refine ba ?_ _ | refine bd ?_ | refine bdn ?_ _ | refine bs ?_ (by first | omega | (simp; done) | (simp; omega)) _ | refine bt ?_ (by assumption))))
  have hb14_19 := bel hb14_18 hb19 (by (repeat (first | assumption | exact Below.refl _ _ | refine ba ?_ _ | refine bd ?_ | refine bdn ?_ _ | refine bs ?_ (by first | omega | (simp; done) | (simp; omega)) _ | refine bt ?_ (by assumption))))
  have hb15_19 := bel hb15_18 hb19 (by (repeat (first | assumption | exact Below.refl _ _ | refine ba ?_ _ | refine bd ?_ | refine bdn ?_ _ | refine bs ?_ (by first | omega | (simp; done) | (simp; omega)) _ | refine bt ?_ (by assumption))))
  have hb16_19 := bel hb16_18 hb19 (by (repeat (first | assumption | exact Below.refl _ _ | refine ba ?_ _ | refine bd ?_ | refine bdn ?_ _ | refine bs ?_ (by first | omega | (simp; done) | (simp; omega)) _ | refine bt ?_ (by assumption))))
  have hb17_19 := bel hb17_18 hb19 (by (repeat (first | assumption | exact Below.refl _ _ | refine ba ?_ _ | refine bd ?_ | refine bdn ?_ _ | refine bs ?_ (by first | omega | (simp; done) | (simp; omega)) _ | refine bt ?_ (by assumption))))
  have hb18_19 := bel hb18 hb19 (by (repeat (first | assumption | exact Below.refl _ _ | refine ba ?_ _ | refine bd ?_ | refine bdn ?_ _ | refine bs ?_ (by first | omega | (simp; done) | (simp; omega)) _ | refine bt ?_ (by assumption))))
  clear hc3_18 hf3_18 hz18_0 hz18_1 hz18_2 hc18 hf18
  obtain ⟨hc3_19, hf3_19, hl3_19⟩ := bcell hb3_19
  clear hl3_19
  have hz19_0 : w.heap.size < w19.heap.size := (by omega)
  have hz19_1 : w1.heap.size < w19.heap.size := (by omega)
  have hz19_2 : w2.heap.size < w19.heap.size := (by omega)
  obtain ⟨hc19, hf19, hl19⟩ := bcell hb19
  clear hl19
  refine Mix.take_ex (_) 17 rfl (by kernel_rfl) (by kernel_rfl) (by kernel_rfl) (by kernel_rfl) (fun K hK => ?_)
  go_simp
  first | (refine hK _ ?_; clear hK K) | (apply Exists.intro; refine ⟨fun x => ?_, hK _ ?_⟩; ((first | (go_at_call 25; with_reducible exact HOF.out _) | (go_at_call 20; with_reducible exact works1 _))); clear hK K)
  refine Mix.take_ex (_) 18 rfl (by kernel_rfl) (by kernel_rfl) (by kernel_rfl) (by kernel_rfl) (fun K hK => ?_)
  go_simp
  first | (refine hK _ ?_; clear hK K) | (apply Exists.intro; refine ⟨fun x => ?_, hK _ ?_⟩; ((first | (go_at_call 25; with_reducible exact HOF.out _) | (go_at_call 20; with_reducible exact works1 _))); clear hK K)
  refine Mix.take_ex (_) 19 rfl (by kernel_rfl) (by kernel_rfl) (by kernel_rfl) (by kernel_rfl) (fun K hK => ?_)
  go_simp
  first | (refine hK _ ?_; clear hK K) | (apply Exists.intro; refine ⟨fun x => ?_, hK _ ?_⟩; ((first | (go_at_call 25; with_reducible exact HOF.out _) | (go_at_call 20; with_reducible exact works1 _))); clear hK K)
  refine Mix.take_ex (_) 20 rfl (by kernel_rfl) (by kernel_rfl) (by kernel_rfl) (by kernel_rfl) (fun K hK => ?_)
  go_simp
  first | (refine hK _ ?_; clear hK K) | (apply Exists.intro; refine ⟨fun x => ?_, hK _ ?_⟩; ((first | (go_at_call 25; with_reducible exact HOF.out _) | (go_at_call 20; with_reducible exact works1 _))); clear hK K)
  refine Mix.take_ex (_) 21 rfl (by kernel_rfl) (by kernel_rfl) (by kernel_rfl) (by kernel_rfl) (fun K hK => ?_)
  go_simp
  first | (refine hK _ ?_; clear hK K) | (apply Exists.intro; refine ⟨fun x => ?_, hK _ ?_⟩; ((first | (go_at_call 25; with_reducible exact HOF.out _) | (go_at_call 20; with_reducible exact works1 _))); clear hK K)
  refine Mix.take_ex (_) 22 rfl (by kernel_rfl) (by kernel_rfl) (by kernel_rfl) (by kernel_rfl) (fun K hK => ?_)
  go_simp
  first | (refine hK _ ?_; clear hK K) | (apply Exists.intro; refine ⟨fun x => ?_, hK _ ?_⟩; ((first | (go_at_call 25; with_reducible exact HOF.out _) | (go_at_call 20; with_reducible exact works1 _))); clear hK K)
  refine Mix.take_ex (_) 23 rfl (by kernel_rfl) (by kernel_rfl) (by kernel_rfl) (by kernel_rfl) (fun K hK => ?_)
  go_simp
  first | (refine hK _ ?_; clear hK K) | (apply Exists.intro; refine ⟨fun x => ?_, hK _ ?_⟩; ((first | (go_at_call 25; with_reducible exact HOF.out _) | (go_at_call 20; with_reducible exact works1 _))); clear hK K)
  refine Mix.take_ex (_) 24 rfl (by kernel_rfl) (by kernel_rfl) (by kernel_rfl) (by kernel_rfl) (fun K hK => ?_)
  go_simp
  first | (refine hK _ ?_; clear hK K) | (apply Exists.intro; refine ⟨fun x => ?_, hK _ ?_⟩; ((first | (go_at_call 25; with_reducible exact HOF.out _) | (go_at_call 20; with_reducible exact works1 _))); clear hK K)
  refine Mix.take_ex (_) 25 rfl (by kernel_rfl) (by kernel_rfl) (by kernel_rfl) (by kernel_rfl) (fun K hK => ?_)
  go_simp
  first | (refine hK _ ?_; clear hK K) | (apply Exists.intro; refine ⟨fun x => ?_, hK _ ?_⟩; ((first | (go_at_call 25; with_reducible exact HOF.out _) | (go_at_call 20; with_reducible exact works1 _))); clear hK K)
  refine Mix.take_ex (_) 26 rfl (by kernel_rfl) (by kernel_rfl) (by kernel_rfl) (by kernel_rfl) (fun K hK => ?_)
  go_simp
  first | (refine hK _ ?_; clear hK K) | (apply Exists.intro; refine ⟨fun x => ?_, hK _ ?_⟩; ((first | (go_at_call 25; with_reducible exact HOF.out _) | (go_at_call 20; with_reducible exact works1 _))); clear hK K)
  refine Mix.take_ex (_) 27 rfl (by kernel_rfl) (by kernel_rfl) (by kernel_rfl) (by kernel_rfl) (fun K hK => ?_)
  go_simp
  first | (refine hK _ ?_; clear hK K) | (apply Exists.intro; refine ⟨fun x => ?_, hK _ ?_⟩; ((first | (go_at_call 25; with_reducible exact HOF.out _) | (go_at_call 20; with_reducible exact works1 _))); clear hK K)
  refine Mix.take_ex (_) 28 rfl (by kernel_rfl) (by kernel_rfl) (by kernel_rfl) (by kernel_rfl) (fun K hK => ?_)
  go_simp
  first | (refine hK _ ?_; clear hK K) | (apply Exists.intro; refine ⟨fun x => ?_, hK _ ?_⟩; ((first | (go_at_call 25; with_reducible exact HOF.out _) | (go_at_call 20; with_reducible exact works1 _))); clear hK K)
  refine Mix.done (by kernel_rfl) (Mix.over_of (by (repeat (first | assumption | exact Below.refl _ _ | refine ba ?_ _ | refine bd ?_ | refine bdn ?_ _ | refine bs ?_ (by first | omega | (simp; done) | (simp; omega)) _ | refine bt ?_ (by assumption))))) ?_
  intro w20 hb20
  have hs20 : w19.heap.size + 0 ≤ w20.heap.size := (by have h := hb20.size; first | omega | (simp at h; omega))
  have hb3_20 := bel hb3_19 hb20 (by (repeat (first | assumption | exact Below.refl _ _ | refine ba ?_ _ | refine bd ?_ | refine bdn ?_ _ | refine bs ?_ (by first | omega | (simp; done) | (simp; omega)) _ | refine bt ?_ (by assumption))))
  have hb4_20 := bel hb4_19 hb20 (by (repeat (first | assumption | exact Below.refl _ _ | refine ba ?_ _ | refine bd ?_ | refine bdn ?_ _ | refine bs ?_ (by first | omega | (simp; done) | (simp; omega)) _ | refine bt ?_ (by assumption))))
  have hb5_20 := bel hb5_19 hb20 (by (repeat (first | assumption | exact Below.refl _ _ | refine ba ?_ _ | refine bd ?_ | refine bdn ?_ _ | refine bs ?_ (by first | omega | (simp; done) | (simp; omega)) _ | refine bt ?_ (by assumption))))
  have hb6_20 := bel hb6_19 hb20 (by (repeat (first | assumption | exact Below.refl _ _ | refine ba ?_ _ | refine bd ?_ | refine bdn ?_ _ | refine bs ?_ (by first | omega | (simp; done) | (simp; omega)) _ | refine bt ?_ (by assumption))))
  have hb7_20 := bel hb7_19 hb20 (by (repeat (first | assumption | exact Below.refl _ _ | refine ba ?_ _ | refine bd ?_ | refine bdn ?_ _ | refine bs ?_ (by first | omega | (simp; done) | (simp; omega)) _ | refine bt ?_ (by assumption))))
  have hb8_20 := bel hb8_19 hb20 (by (repeat (first | assumption | exact Below.refl _ _ | refine ba ?_ _ | refine bd ?_ | refine bdn ?_ _ | refine bs ?_ (by first | omega | (simp; done) | (simp; omega)) _ | refine bt ?_ (by assumption))))
  have hb9_20 := bel hb9_19 hb20 (by (repeat (first | assumption | exact Below.refl _ _ | refine ba ?_ _ | refine bd ?_ | refine bdn ?_ _ | refine bs ?_ (by first | omega | (simp; done) | (simp; omega)) _ | refine bt ?_ (by assumption))))
  have hb10_20 := bel hb10_19 hb20 (by (repeat (first | assumption | exact Below.refl _ _ | refine ba ?_ _ | refine bd ?_ | refine bdn ?_ _ | refine bs ?_ (by first | omega | (simp; done) | (simp; omega)) _ | refine bt ?_ (by assumption))))
  have hb11_20 := bel hb11_19 hb20 (by (repeat (first | assumption | exact Below.refl _ _ | refine ba ?_ _ | refine bd ?_ | refine bdn ?_ _ | refine bs ?_ (by first | omega | (simp; done) | (simp; omega)) _ | refine bt ?_ (by assumption))))
  have hb12_20 := bel hb12_19 hb20 (by (repeat (first | assumption | exact Below.refl _ _ | refine ba ?_ _ | refine bd ?_ | refine bdn ?_ _ | refine bs ?_ (by first | omega | (simp; done) | (simp; omega)) _ | refine bt ?_ (by assumption))))
  have hb13_20 := bel hb13_19 hb20 (by (repeat (first | assumption | exact Below.refl _ _ | refine ba ?_ _ | refine bd ?_ | refine bdn ?_ _ | refine bs ?_ (by first | omega | (simp; done) | (simp; omega)) _ | refine bt ?_ (by assumption))))
  have hb14_20 := bel hb14_19 hb20 (by (repeat (first | assumption | exact Below.refl _ _ | refine ba ?_ _ | refine bd ?_ | refine bdn ?_ _ | refine bs ?_ (by first | omega | (simp; done) | (simp; omega)) _ | refine bt ?_ (by assumption))))
  have hb15_20 := bel hb15_19 hb20 (by (repeat (first | assumption | exact Below.refl _ _ | refine ba ?_ _ | refine bd ?_ | refine bdn ?_ _ | refine bs ?_ (by first | omega | (simp; done) | (simp; omega)) _ | refine bt ?_ (by assumption))))
  have hb16_20 := bel hb16_19 hb20 (by (repeat (first | assumption | exact Below.refl _ _ | refine ba ?_ _ | refine bd ?_ | refine bdn ?_ _ | refine bs ?_ (by first | omega | (simp; done) | (simp; omega)) _ | refine bt ?_ (by assumption))))
  have hb17_20 := bel hb17_19 hb20 (by (repeat (first | assumption | exact Below.refl _ _ | refine ba ?_ _ | refine bd ?_ | refine bdn ?_ _ | refine bs ?_ (by first | omega | (simp; done) | (simp; omega)) _ | refine bt ?_ (by assumption))))
  have hb18_20 := bel hb18_19 hb20 (by (repeat (first | assumption | exact Below.refl _ _ | refine ba ?_ _ | refine bd ?_ | refine bdn ?_ _ | refine bs ?_ (by first | omega | (simp; done) | (simp; omega)) _ | refine bt ?_ (by assumption))))
  have hb19_20 := bel hb19 hb20 (by (repeat (first | assumption | exact Below.refl _ _ | refine ba ?_ _ | refine bd ?_ | refine bdn ?_ _ | refine bs ?_ (by first | omega | (simp; done) | (simp; omega)) _ | refine bt ?_ (by assumption))))
  clear hc3_19 hf3_19 hz19_0 hz19_1 hz19_2 hc19 hf19
  obtain ⟨hc3_20, hf3_20, hl3_20⟩ := bcell hb3_20
  clear hl3_20
  have hz20_0 : w.heap.size < w20.heap.size := (by omega)
  have hz20_1 : w1.heap.size < w20.heap.size := (by omega)
  have hz20_2 : w2.heap.size < w20.heap.size := (by omega)
  obtain ⟨hc20, hf20, hl20⟩ := bcell hb20
  clear hl20
  go_wp2
  go_ret
  refine ⟨rfl, ?_⟩
  (repeat (first | assumption | exact Below.refl _ _ | refine ba ?_ _ | refine bd ?_ | refine bdn ?_ _ | refine bs ?_ (by first | omega | (simp; done) | (simp; omega)) _ | refine bt ?_ (by assumption)))

theorem digits_one (x : Int) (hx : Word x) (w : World) : Calls Try.prog 24 #[u 0, u x] w (RetInts w (digs 8 x)) := by
  have h := digits_any 0 x word_0 hx w
  rw [digs_two 0 x hx] at h
  simpa using h
theorem wd_pow8 {v : Int} (h : Wd v) : v < 65536 ^ 8 := by rw [pow8]; have := h.hi; rw [B128_eq] at this; exact this
theorem word_wd {x : Int} (h : Word x) : Wd x := ⟨h.1, by rw [B128_eq]; have := h.2; omega⟩
theorem prod_bd {a b : Int} (ha : Wd a) (hb : Wd b) : 0 ≤ a * b ∧ a * b < 65536 ^ 16 := by
  refine ⟨Int.mul_nonneg ha.lo hb.lo, ?_⟩
  have h1 := ha.hi; have h2 := hb.hi
  rw [B128_eq] at h1 h2
  have := Int.mul_le_mul (show a ≤ 340282366920938463463374607431768211455 by omega) (show b ≤ 340282366920938463463374607431768211455 by omega) hb.lo (by decide)
  have e : (65536 : Int) ^ 16 = 115792089237316195423570985008687907853269984665640564039457584007913129639936 := by decide
  rw [e]; omega
theorem products_walk (ah al b : Int) (h1 : Word ah) (h2 : Word al) (h3 : Word b) : Pure Try.prog 4 #[W2 ah al, u b] (.bool true) := by
  have hV : WV (ah * 18446744073709551616 + al) = W2 ah al := WV_of ah al h2
  have hW : Wd (ah * 18446744073709551616 + al) := Wd_of h1 h2
  have hO := own_any ah al h1 h2
  have hT := times_V (ah * 18446744073709551616 + al) b hW h3
  rw [hV] at hT
  have hX := prod_bd hW (word_wd h3)
  have hX2 := prod_bd (word_wd h2) (word_wd h3)
  have hm := mul_bd h2 h3
  refine products_core ah al b _ _ _ _ _ hT (mul_any al b h2 h3) (fun w v hv => is_true 16 (by decide) (by decide) _ _ _ _ (div_pow0 _ 16 (by decide) hX.1 hX.2) v w hv ?_ ?_ (f_0 _ hX.1))
    (fun w v hv => is_true 16 (by decide) (by decide) _ _ _ _ (div_pow0 _ 16 (by decide) hX2.1 hX2.2) v w hv ?_ (lo_0 _) ?_) hO (digits_one b h3) (digits_one al h2)
    (fun w va vb ha hb => product_any 8 8 (by decide) (by decide) (by decide) (by decide) _ _ hW.lo (wd_pow8 hW) h3.1 (wd_pow8 (word_wd h3)) va vb w ha hb)
    (fun w va vb ha hb => product_any 8 8 (by decide) (by decide) (by decide) (by decide) _ _ h2.1 (wd_pow8 (word_wd h2)) h3.1 (wd_pow8 (word_wd h3)) va vb w ha hb)
  · rw [hi_0, B128_eq]
    generalize (ah * 18446744073709551616 + al) * b = X at *
    omega
  · rw [lo_0, B128_eq]
    generalize (ah * 18446744073709551616 + al) * b = X at *
    omega
  · rw [hi_0]
    generalize al * b = X at *
    omega
  · rw [f_0 _ hX2.1, decide_eq_true]
    rw [B128_eq]
    omega
namespace WideProducts
open Go.ChangeShapes Go.WideShapes Go.ChangeAt Go.RowKit
theorem own : ownKnob Try.prog.godebug = none := by kernel_rfl
theorem laidOut : laidOutB Try.prog = true := by kernel_rfl
set_option maxRecDepth 100000 in
theorem lifted (os : Os) (started : os.Started) (H : Type) (enc : TypeId × Value → H) :
    ReturnsInHanded {} Try.checked os 4 .any (Rows.wideProductsSpec.pre6 enc Try.prog Try.f4 Rows.wideProductsRow.domain false) (Rows.wideProductsSpec.post enc Try.prog Try.f4 false true false false) := by
  refine returnsInHanded_of_change (C := Try.checked) own started (by kernel_rfl) Try.func4
    (ChangeSpec.witness6 (enc := enc) (C := Try.checked) false ⟨#[], #[W2 0 0, .int .u64 0], []⟩ 8 (by kernel_rfl) (by kernel_rfl) (by kernel_rfl) (by kernel_rfl)) ?_
  intro W base args ds gs before hval0 hW hcnd _
  have hval : ∀ (j : Nat) t v, Try.f4.params[j]? = some t → args[j]? = some v → Value.okWide Try.prog W .any base t v := hval0
  have hW' := hW
  obtain ⟨p, q, hA0, hV, rfl, hfz, hnd⟩ := hW
  have hA : DataW.TrodAll enc Try.prog W 0 (fun _ => true) true Try.f4.params.toList args.toList ds p := hA0
  rw [Try.params4] at hA hval
  obtain ⟨v0, vs0, d0, ds0, p0, q0, hargs, rfl, rfl, h0, r0⟩ := trodAll_cons hA
  obtain ⟨v1, vs1, d1, ds1, p1, q1, rfl, rfl, rfl, h1, r1⟩ := trodAll_cons r0
  obtain ⟨rfl, rfl, rfl⟩ := trodAll_nil r1
  obtain rfl : args = #[v0, v1] := by cases args; simp_all
  obtain ⟨rfl, rfl⟩ := trodVars_none hV
  have k0 := h0
  have lt0 : ∀ x ∈ p0, x.block < W.heap.size := by obtain ⟨m, hm⟩ := k0; exact DataW.trod_lt m _ _ _ hm
  have k1 := h1
  have lt1 : ∀ x ∈ p1, x.block < W.heap.size := by obtain ⟨m, hm⟩ := k1; exact DataW.trod_lt m _ _ _ hm
  obtain ⟨c0_0, c0_1, y0_0, y0_1, m0, vEq0, rfl, rfl, hy0_0, hy0_1⟩ := Go.Joins.open_agg2 Try.underlying24 (by kernel_rfl) (by kernel_rfl : Try.prog.cellsOf 24 = 2) (hval 0 24 v0 rfl rfl) k0
  obtain ⟨ah, eq0_0, _, wf_ah⟩ := DataW.trod_int Try.underlying22 hy0_0
  obtain ⟨al, eq0_1, _, wf_al⟩ := DataW.trod_int Try.underlying22 hy0_1
  simp at eq0_0 eq0_1
  subst eq0_0 eq0_1
  subst vEq0
  obtain ⟨d, vEq1, _, _, wf_d⟩ := open_int Try.underlying22 (hval 1 22 v1 rfl rfl) k1
  subst vEq1
  clear hA0 hval0
  refine (products_walk ah al d (word_of_wf wf_ah) (word_of_wf wf_al) (word_of_wf wf_d) W).mono fun e W' ⟨he, bel⟩ => ?_
  subst he
  exact ⟨_, rfl, _, _, _, [], _, [], hW', trodAll_mk1 (shut_bool Try.underlying4 _), (trodAll_cons_mk (Below.trod laidOut (by kernel_rfl) (of_decide_eq_true (by kernel_rfl)) k0 bel lt0) (trodAll_cons_mk (Below.trod laidOut (by kernel_rfl) (of_decide_eq_true (by kernel_rfl)) k1 bel lt1) trodAll_mk0)), rfl, bel.frame _, fun h => by cases h⟩
theorem over : Rows.wideProductsRow.holds Try.pinned (OpenSpec.ofChange Rows.wideProductsSpec) :=
  OpenClaim.holds_of_wide 4 Try.f4 rfl rfl rfl rfl rfl rfl rfl ⟨rfl, rfl, rfl, rfl, rfl⟩ rfl rfl rfl rfl rfl (by kernel_rfl) Try.func4 (by kernel_rfl)
    (of_decide_eq_true (by kernel_rfl)) (by unfold Func.isWrapper; first | (rw [if_pos (by decide +kernel)]; kernel_rfl) | (rw [if_neg (by decide +kernel)]; exact ⟨rfl, rfl⟩))
    (fun os started H enc _ => lifted os started H enc)
theorem proved : Rows.WideProductsSaid := over
end WideProducts
end Go.Proofs.Ytojfkpmdnhkanaa
