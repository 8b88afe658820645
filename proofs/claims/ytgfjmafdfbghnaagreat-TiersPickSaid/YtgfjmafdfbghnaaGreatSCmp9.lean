/- Contract of mancipleref07.Cmp: it is how the two shares compare. Condition: none. -/
import Derived.Test.YtgfjmafdfbghnaaGreatSgI
namespace Go.Proofs.YtgfjmafdfbghnaaGreat
open Go.RowKit
attribute [local go_sem] ext_cell ext_frozen Mix.calmUpon Mix.mUpon
theorem pow24 : (65536 : Int) ^ 24 = 65536 ^ 16 * 65536 ^ 8 := by decide
theorem side_bd {a b c : Int} (ha : Word a) (hb : Word b) (hc : Word c) : 0 ≤ a * b * c ∧ a * b * c < 65536 ^ 24 := by
  have h1 := prod_pow16 ha hb
  have h2 := word_pow8 hc
  refine ⟨Int.mul_nonneg h1.1 hc.1, ?_⟩
  rw [pow24]
  have h3 : a * b * c ≤ a * b * 65536 ^ 8 := Int.mul_le_mul_of_nonneg_left (Int.le_of_lt h2) h1.1
  have h4 : a * b * 65536 ^ 8 < 65536 ^ 16 * 65536 ^ 8 := Int.mul_lt_mul_of_pos_right h1.2 (Int.pow_pos (by decide))
  omega
theorem prod_third {x y : Int} (h0 : 0 ≤ x) (h1 : x < 65536 ^ 16) (hy : Word y) (w : World) (va vb : Value) (ha : Ints w va (digs 16 x)) (hb : Ints w vb (digs 8 y)) : Calls Tryz.prog 86 #[va, vb] w (RetInts w (digs 24 (x * y))) :=
  product_any 16 8 (by decide) (by decide) (by decide) (by decide) x y h0 h1 hy.1 (word_pow8 hy) va vb w ha hb
set_option maxHeartbeats 2000000 in
theorem side_any (a b c : Int) (ha : Word a) (hb : Word b) (hc : Word c) (W : World) : Calls Tryz.prog 123 #[.int .i64 a, .int .i64 b, .int .i64 c] W (RetInts W (digs 24 (a * b * c))) := by
  have u1 : IntKind.u64.wrap a = a := by rw [IntKind.wrap_u64]; have := ha.1; have := ha.2; omega
  have u2 : IntKind.u64.wrap b = b := by rw [IntKind.wrap_u64]; have := hb.1; have := hb.2; omega
  have u3 : IntKind.u64.wrap c = c := by rw [IntKind.wrap_u64]; have := hc.1; have := hc.2; omega
  have hp := prod_pow16 ha hb
  have HP := Lib.hid hp
  clear hp
  have HD1 := Lib.hid (fun w => digits_one' a ha w); have HD2 := Lib.hid (fun w => digits_one' b hb w); have HD3 := Lib.hid (fun w => digits_one' c hc w)
  have HA := Lib.hid ha; have HB := Lib.hid hb; have HC := Lib.hid hc
  clear ha hb hc
  go_enter Tryz.func123, Tryz.ntmps123
  go_wp2_with fail
  refine (HD1.out _).mono ?_
  rintro e w1 ⟨v1, rfl, hv1, hb1⟩
  go_wp2_with fail
  refine (HD2.out _).mono ?_
  rintro e w2 ⟨v2, rfl, hv2, hb2⟩
  go_wp2_with fail
  refine (prod_words HA.out HB.out _ _ _ (hv1.grow hb2) hv2).mono ?_
  rintro e w3 ⟨v3, rfl, hv3, hb3⟩
  go_wp2_with fail
  refine (HD3.out _).mono ?_
  rintro e w4 ⟨v4, rfl, hv4, hb4⟩
  go_wp2_with fail
  refine (prod_third HP.out.1 HP.out.2 HC.out _ _ _ (hv3.grow hb4) hv4).mono ?_
  rintro e w5 ⟨v5, rfl, hv5, hb5⟩
  go_wp2
  go_ret
  exact ⟨_, rfl, hv5, bt (bt (bt (bt (bt (Below.refl _ _) hb1) hb2) hb3) hb4) hb5⟩
theorem srt_words {n d w : Int} (h : SRt n d w) : Word n ∧ Word d ∧ Word w := by
  obtain ⟨h1, h2, ⟨h3, h4⟩, h5, h6⟩ := h
  exact ⟨⟨h3, by omega⟩, ⟨by omega, by omega⟩, ⟨by omega, by omega⟩⟩
theorem rscmp_no1 (an ad aw bn bd bw : Int) (h : ¬ SRt an ad aw) : Pure Tryz.prog 110 #[F2 an ad, .int .i64 aw, F2 bn bd, .int .i64 bw] (.int .i64 0) := by
  intro W
  have HR := Lib.hid (refright7_any an ad aw)
  rw [decide_eq_false h] at HR
  clear h
  go_enter Tryz.func110, Tryz.ntmps110
  go_wp2_with fail
  (with_reducible refine (HR.out _).mono ?_)
  rintro e w1 ⟨rfl, hb1⟩
  have hs1 : W.heap.size + 2 ≤ w1.heap.size := (by have h := hb1.size; first | omega | (simp at h; omega))
  have hz1_0 : W.heap.size < w1.heap.size := (by omega)
  have hz1_1 : W.heap.size + 1 < w1.heap.size := (by omega)
  obtain ⟨hc1, hf1, hl1⟩ := bcell hb1
  clear hl1
  go_wp2
  go_ret
  refine ⟨rfl, ?_⟩
  (repeat (first | assumption | exact Below.refl _ _ | refine ba ?_ _ | refine bd ?_ | refine bdn ?_ _ | refine bs ?_ (by first | omega | (simp; done) | (simp; omega)) _ | refine bt ?_ (by assumption)))
theorem rscmp_no2 (an ad aw bn bd bw : Int) (h1 : SRt an ad aw) (h : ¬ SRt bn bd bw) : Pure Tryz.prog 110 #[F2 an ad, .int .i64 aw, F2 bn bd, .int .i64 bw] (.int .i64 0) := by
  intro W
  have HR := Lib.hid (refright7_any an ad aw)
  rw [decide_eq_true h1] at HR
  have HS := Lib.hid (refright7_any bn bd bw)
  rw [decide_eq_false h] at HS
  clear h h1
  go_enter Tryz.func110, Tryz.ntmps110
  go_wp2_with fail
  (with_reducible refine (HR.out _).mono ?_)
  rintro e w1 ⟨rfl, hb1⟩
  have hs1 : W.heap.size + 2 ≤ w1.heap.size := (by have h := hb1.size; first | omega | (simp at h; omega))
  have hz1_0 : W.heap.size < w1.heap.size := (by omega)
  have hz1_1 : W.heap.size + 1 < w1.heap.size := (by omega)
  obtain ⟨hc1, hf1, hl1⟩ := bcell hb1
  clear hl1
  go_wp2_with fail
  (with_reducible refine (HS.out _).mono ?_)
  rintro e w2 ⟨rfl, hb2⟩
  have hs2 : w1.heap.size + 0 ≤ w2.heap.size := (by have h := hb2.size; first | omega | (simp at h; omega))
  have hb1_2 := bel hb1 hb2 (by (repeat (first | assumption | exact Below.refl _ _ | refine ba ?_ _ | refine bd ?_ | refine bdn ?_ _ | refine bs ?_ (by first | omega | (simp; done) | (simp; omega)) _ | refine bt ?_ (by assumption))))
  clear hz1_0 hz1_1 hc1 hf1
  obtain ⟨hc1_2, hf1_2, hl1_2⟩ := bcell hb1_2
  clear hl1_2
  have hz2_0 : W.heap.size < w2.heap.size := (by omega)
  have hz2_1 : W.heap.size + 1 < w2.heap.size := (by omega)
  obtain ⟨hc2, hf2, hl2⟩ := bcell hb2
  clear hl2
  go_wp2
  go_ret
  refine ⟨rfl, ?_⟩
  (repeat (first | assumption | exact Below.refl _ _ | refine ba ?_ _ | refine bd ?_ | refine bdn ?_ _ | refine bs ?_ (by first | omega | (simp; done) | (simp; omega)) _ | refine bt ?_ (by assumption)))
set_option maxRecDepth 100000 in
set_option maxHeartbeats 4000000 in
theorem rscmp_yes (an ad aw bn bd bw : Int) (h1 : SRt an ad aw) (h2 : SRt bn bd bw) : Pure Tryz.prog 110 #[F2 an ad, .int .i64 aw, F2 bn bd, .int .i64 bw] (.int .i64 (scmp an ad aw bn bd bw)) := by
  intro w
  obtain ⟨wa1, wa2, wa3⟩ := srt_words h1
  obtain ⟨wb1, wb2, wb3⟩ := srt_words h2
  have P1 := Lib.hid (side_bd wa1 wb2 wb3); have P2 := Lib.hid (side_bd wb1 wa2 wa3)
  have S1 := Lib.hid (side_any an bd bw wa1 wb2 wb3); have S2 := Lib.hid (side_any bn ad aw wb1 wa2 wa3)
  have HR := Lib.hid (refright7_any an ad aw)
  rw [decide_eq_true h1] at HR
  have HS := Lib.hid (refright7_any bn bd bw)
  rw [decide_eq_true h2] at HS
  have hs : scmp an ad aw bn bd bw = cmpI (an * bd * bw) (bn * ad * aw) := by unfold scmp; rw [if_pos ⟨h1, h2⟩]
  clear wa1 wa2 wa3 wb1 wb2 wb3 h1 h2
  go_enter Tryz.func110, Tryz.ntmps110
  go_wp2_with fail
  (with_reducible refine (HR.out _).mono ?_)
  rintro e w1 ⟨rfl, hb1⟩
  have hs1 : w.heap.size + 2 ≤ w1.heap.size := (by have h := hb1.size; first | omega | (simp at h; omega))
  have hz1_0 : w.heap.size < w1.heap.size := (by omega)
  have hz1_1 : w.heap.size + 1 < w1.heap.size := (by omega)
  obtain ⟨hc1, hf1, hl1⟩ := bcell hb1
  clear hl1
  go_wp2_with fail
  (with_reducible refine (HS.out _).mono ?_)
  rintro e w2 ⟨rfl, hb2⟩
  have hs2 : w1.heap.size + 0 ≤ w2.heap.size := (by have h := hb2.size; first | omega | (simp at h; omega))
  have hb1_2 := bel hb1 hb2 (by (repeat (first | assumption | exact Below.refl _ _ | refine ba ?_ _ | refine bd ?_ | refine bdn ?_ _ | refine bs ?_ (by first | omega | (simp; done) | (simp; omega)) _ | refine bt ?_ (by assumption))))
  clear hz1_0 hz1_1 hc1 hf1
  obtain ⟨hc1_2, hf1_2, hl1_2⟩ := bcell hb1_2
  clear hl1_2
  have hz2_0 : w.heap.size < w2.heap.size := (by omega)
  have hz2_1 : w.heap.size + 1 < w2.heap.size := (by omega)
  obtain ⟨hc2, hf2, hl2⟩ := bcell hb2
  clear hl2
  go_wp2_with fail
  refine Mix.region0 (by kernel_rfl) ?_
  intro w3 hb3
  have hs3 : w2.heap.size + 0 ≤ w3.heap.size := (by have h := hb3.size; first | omega | (simp at h; omega))
  have hz3_0 : w.heap.size < w3.heap.size := (by omega)
  have hz3_1 : w.heap.size + 1 < w3.heap.size := (by omega)
  have hy3_0_0 : w.heap.size ≤ w2.heap.size := (by omega)
  have hy3_1_0 : w.heap.size + 1 ≤ w2.heap.size := (by omega)
  obtain ⟨hc3, hf3, hl3⟩ := bcell hb3
  clear hl3
  refine Mix.take_ex (_) 0 rfl (by kernel_rfl) (by kernel_rfl) (by kernel_rfl) (by kernel_rfl) (fun K hK => ?_)
  go_simp
  first | (refine hK _ ?_; clear hK K) | (apply Exists.intro; refine ⟨fun x => ?_, hK _ ?_⟩; (fail); clear hK K)
  refine Mix.take_ex (_) 1 rfl (by kernel_rfl) (by kernel_rfl) (by kernel_rfl) (by kernel_rfl) (fun K hK => ?_)
  go_simp
  first | (refine hK _ ?_; clear hK K) | (apply Exists.intro; refine ⟨fun x => ?_, hK _ ?_⟩; (fail); clear hK K)
  refine Mix.take_ex (_) 2 rfl (by kernel_rfl) (by kernel_rfl) (by kernel_rfl) (by kernel_rfl) (fun K hK => ?_)
  go_simp
  first | (refine hK _ ?_; clear hK K) | (apply Exists.intro; refine ⟨fun x => ?_, hK _ ?_⟩; (fail); clear hK K)
  refine Mix.take_ex (_) 3 rfl (by kernel_rfl) (by kernel_rfl) (by kernel_rfl) (by kernel_rfl) (fun K hK => ?_)
  go_simp
  first | (refine hK _ ?_; clear hK K) | (apply Exists.intro; refine ⟨fun x => ?_, hK _ ?_⟩; (fail); clear hK K)
  refine Mix.take_ex (_) 4 rfl (by kernel_rfl) (by kernel_rfl) (by kernel_rfl) (by kernel_rfl) (fun K hK => ?_)
  go_simp
  first | (refine hK _ ?_; clear hK K) | (apply Exists.intro; refine ⟨fun x => ?_, hK _ ?_⟩; (fail); clear hK K)
  refine Mix.take_ex (_) 6 rfl (by kernel_rfl) (by kernel_rfl) (by kernel_rfl) (by kernel_rfl) (fun K hK => ?_)
  go_simp
  first | (refine hK _ ?_; clear hK K) | (apply Exists.intro; refine ⟨fun x => ?_, hK _ ?_⟩; (fail); clear hK K)
  refine Mix.take_ex (_) 7 rfl (by kernel_rfl) (by kernel_rfl) (by kernel_rfl) (by kernel_rfl) (fun K hK => ?_)
  go_simp
  first | (refine hK _ ?_; clear hK K) | (apply Exists.intro; refine ⟨fun x => ?_, hK _ ?_⟩; (fail); clear hK K)
  refine Mix.take_ex (_) 8 rfl (by kernel_rfl) (by kernel_rfl) (by kernel_rfl) (by kernel_rfl) (fun K hK => ?_)
  go_simp
  first | (refine hK _ ?_; clear hK K) | (apply Exists.intro; refine ⟨fun x => ?_, hK _ ?_⟩; (fail); clear hK K)
  refine Mix.take_ex (_) 9 rfl (by kernel_rfl) (by kernel_rfl) (by kernel_rfl) (by kernel_rfl) (fun K hK => ?_)
  go_simp
  first | (refine hK _ ?_; clear hK K) | (apply Exists.intro; refine ⟨fun x => ?_, hK _ ?_⟩; (fail); clear hK K)
  refine Mix.take_ex (_) 10 rfl (by kernel_rfl) (by kernel_rfl) (by kernel_rfl) (by kernel_rfl) (fun K hK => ?_)
  go_simp
  first | (refine hK _ ?_; clear hK K) | (apply Exists.intro; refine ⟨fun x => ?_, hK _ ?_⟩; (fail); clear hK K)
  refine Mix.all (rs := [5]) (by kernel_rfl) (by simp) (Mix.over_of (by (repeat (first | assumption | exact Below.refl _ _ | refine ba ?_ _ | refine bd ?_ | refine bdn ?_ _ | refine bs ?_ (by first | omega | (simp; done) | (simp; omega)) _ | refine bt ?_ (by assumption))))) ?_
  intro i4 hi4 w4 hb4 hC4
  clear hC4
  have hs4 : w3.heap.size + 0 ≤ w4.heap.size := (by have h := hb4.size; first | omega | (simp at h; omega))
  have hb3_4 := bel hb3 hb4 (by (repeat (first | assumption | exact Below.refl _ _ | refine ba ?_ _ | refine bd ?_ | refine bdn ?_ _ | refine bs ?_ (by first | omega | (simp; done) | (simp; omega)) _ | refine bt ?_ (by assumption))))
  obtain ⟨hc3_4, hf3_4, hl3_4⟩ := bcell hb3_4
  clear hl3_4
  have hz4_0 : w.heap.size < w4.heap.size := (by omega)
  have hz4_1 : w.heap.size + 1 < w4.heap.size := (by omega)
  obtain ⟨hc4, hf4, hl4⟩ := bcell hb4
  clear hl4
  simp only [List.mem_cons, List.not_mem_nil, or_false] at hi4
  subst hi4
  refine Mix.op rfl (by kernel_rfl) ?_
  go_simp
  refine (S1.out _).mono ?_
  rintro e w5 ⟨v5, rfl, hv5, hb5⟩
  refine ⟨_, rfl, ?_⟩
  have hs5 : w4.heap.size + 0 ≤ w5.heap.size := (by have h := hb5.size; first | omega | (simp at h; omega))
  have hb3_5 := bel hb3_4 hb5 (by (repeat (first | assumption | exact Below.refl _ _ | refine ba ?_ _ | refine bd ?_ | refine bdn ?_ _ | refine bs ?_ (by first | omega | (simp; done) | (simp; omega)) _ | refine bt ?_ (by assumption))))
  have hb4_5 := bel hb4 hb5 (by (repeat (first | assumption | exact Below.refl _ _ | refine ba ?_ _ | refine bd ?_ | refine bdn ?_ _ | refine bs ?_ (by first | omega | (simp; done) | (simp; omega)) _ | refine bt ?_ (by assumption))))
  clear hc3_4 hf3_4 hz4_0 hz4_1 hc4 hf4
  obtain ⟨hc3_5, hf3_5, hl3_5⟩ := bcell hb3_5
  clear hl3_5
  have hz5_0 : w.heap.size < w5.heap.size := (by omega)
  have hz5_1 : w.heap.size + 1 < w5.heap.size := (by omega)
  obtain ⟨hc5, hf5, hl5⟩ := bcell hb5
  clear hl5
  refine Mix.all (rs := [11]) (by kernel_rfl) (by simp) (Mix.over_of (by (repeat (first | assumption | exact Below.refl _ _ | refine ba ?_ _ | refine bd ?_ | refine bdn ?_ _ | refine bs ?_ (by first | omega | (simp; done) | (simp; omega)) _ | refine bt ?_ (by assumption))))) ?_
  intro i6 hi6 w6 hb6 hC6
  clear hC6
  have hs6 : w5.heap.size + 0 ≤ w6.heap.size := (by have h := hb6.size; first | omega | (simp at h; omega))
  have hb3_6 := bel hb3_5 hb6 (by (repeat (first | assumption | exact Below.refl _ _ | refine ba ?_ _ | refine bd ?_ | refine bdn ?_ _ | refine bs ?_ (by first | omega | (simp; done) | (simp; omega)) _ | refine bt ?_ (by assumption))))
  have hb4_6 := bel hb4_5 hb6 (by (repeat (first | assumption | exact Below.refl _ _ | refine ba ?_ _ | refine bd ?_ | refine bdn ?_ _ | refine bs ?_ (by first | omega | (simp; done) | (simp; omega)) _ | refine bt ?_ (by assumption))))
  have hb5_6 := bel hb5 hb6 (by (repeat (first | assumption | exact Below.refl _ _ | refine ba ?_ _ | refine bd ?_ | refine bdn ?_ _ | refine bs ?_ (by first | omega | (simp; done) | (simp; omega)) _ | refine bt ?_ (by assumption))))
  clear hc3_5 hf3_5 hz5_0 hz5_1 hc5 hf5
  obtain ⟨hc3_6, hf3_6, hl3_6⟩ := bcell hb3_6
  clear hl3_6
  have hz6_0 : w.heap.size < w6.heap.size := (by omega)
  have hz6_1 : w.heap.size + 1 < w6.heap.size := (by omega)
  obtain ⟨hc6, hf6, hl6⟩ := bcell hb6
  clear hl6
  simp only [List.mem_cons, List.not_mem_nil, or_false] at hi6
  subst hi6
  refine Mix.op rfl (by kernel_rfl) ?_
  go_simp
  refine (S2.out _).mono ?_
  rintro e w7 ⟨v7, rfl, hv7, hb7⟩
  refine ⟨_, rfl, ?_⟩
  have hs7 : w6.heap.size + 0 ≤ w7.heap.size := (by have h := hb7.size; first | omega | (simp at h; omega))
  have hb3_7 := bel hb3_6 hb7 (by (repeat (first | assumption | exact Below.refl _ _ | refine ba ?_ _ | refine bd ?_ | refine bdn ?_ _ | refine bs ?_ (by first | omega | (simp; done) | (simp; omega)) _ | refine bt ?_ (by assumption))))
  have hb4_7 := bel hb4_6 hb7 (by (repeat (first | assumption | exact Below.refl _ _ | refine ba ?_ _ | refine bd ?_ | refine bdn ?_ _ | refine bs ?_ (by first | omega | (simp; done) | (simp; omega)) _ | refine bt ?_ (by assumption))))
  have hb5_7 := bel hb5_6 hb7 (by (repeat (first | assumption | exact Below.refl _ _ | refine ba ?_ _ | refine bd ?_ | refine bdn ?_ _ | refine bs ?_ (by first | omega | (simp; done) | (simp; omega)) _ | refine bt ?_ (by assumption))))
  have hb6_7 := bel hb6 hb7 (by (repeat (first | assumption | exact Below.refl _ _ | refine ba ?_ _ | refine bd ?_ | refine bdn ?_ _ | refine bs ?_ (by first | omega | (simp; done) | (simp; omega)) _ | refine bt ?_ (by assumption))))
  clear hc3_6 hf3_6 hz6_0 hz6_1 hc6 hf6
  obtain ⟨hc3_7, hf3_7, hl3_7⟩ := bcell hb3_7
  clear hl3_7
  have hz7_0 : w.heap.size < w7.heap.size := (by omega)
  have hz7_1 : w.heap.size + 1 < w7.heap.size := (by omega)
  obtain ⟨hc7, hf7, hl7⟩ := bcell hb7
  clear hl7
  refine Mix.take_ex (_) 12 rfl (by kernel_rfl) (by kernel_rfl) (by kernel_rfl) (by kernel_rfl) (fun K hK => ?_)
  go_simp
  first | (refine hK _ ?_; clear hK K) | (apply Exists.intro; refine ⟨fun x => ?_, hK _ ?_⟩; (fail); clear hK K)
  refine Mix.take_ex (_) 13 rfl (by kernel_rfl) (by kernel_rfl) (by kernel_rfl) (by kernel_rfl) (fun K hK => ?_)
  go_simp
  first | (refine hK _ ?_; clear hK K) | (apply Exists.intro; refine ⟨fun x => ?_, hK _ ?_⟩; (fail); clear hK K)
  refine Mix.done (by kernel_rfl) (Mix.over_of (by (repeat (first | assumption | exact Below.refl _ _ | refine ba ?_ _ | refine bd ?_ | refine bdn ?_ _ | refine bs ?_ (by first | omega | (simp; done) | (simp; omega)) _ | refine bt ?_ (by assumption))))) ?_
  intro w8 hb8
  have hs8 : w7.heap.size + 0 ≤ w8.heap.size := (by have h := hb8.size; first | omega | (simp at h; omega))
  have hb3_8 := bel hb3_7 hb8 (by (repeat (first | assumption | exact Below.refl _ _ | refine ba ?_ _ | refine bd ?_ | refine bdn ?_ _ | refine bs ?_ (by first | omega | (simp; done) | (simp; omega)) _ | refine bt ?_ (by assumption))))
  have hb4_8 := bel hb4_7 hb8 (by (repeat (first | assumption | exact Below.refl _ _ | refine ba ?_ _ | refine bd ?_ | refine bdn ?_ _ | refine bs ?_ (by first | omega | (simp; done) | (simp; omega)) _ | refine bt ?_ (by assumption))))
  have hb5_8 := bel hb5_7 hb8 (by (repeat (first | assumption | exact Below.refl _ _ | refine ba ?_ _ | refine bd ?_ | refine bdn ?_ _ | refine bs ?_ (by first | omega | (simp; done) | (simp; omega)) _ | refine bt ?_ (by assumption))))
  have hb6_8 := bel hb6_7 hb8 (by (repeat (first | assumption | exact Below.refl _ _ | refine ba ?_ _ | refine bd ?_ | refine bdn ?_ _ | refine bs ?_ (by first | omega | (simp; done) | (simp; omega)) _ | refine bt ?_ (by assumption))))
  have hb7_8 := bel hb7 hb8 (by (repeat (first | assumption | exact Below.refl _ _ | refine ba ?_ _ | refine bd ?_ | refine bdn ?_ _ | refine bs ?_ (by first | omega | (simp; done) | (simp; omega)) _ | refine bt ?_ (by assumption))))
  clear hc3_7 hf3_7 hz7_0 hz7_1 hc7 hf7
  obtain ⟨hc3_8, hf3_8, hl3_8⟩ := bcell hb3_8
  clear hl3_8
  have hz8_0 : w.heap.size < w8.heap.size := (by omega)
  have hz8_1 : w.heap.size + 1 < w8.heap.size := (by omega)
  obtain ⟨hc8, hf8, hl8⟩ := bcell hb8
  clear hl8
  go_wp2_with fail
  have hx := (hv5.grow hb6_7).grow hb8
  have hy := hv7.grow hb8
  have hl := less_any 24 (by decide) (by decide) _ _ P1.out.1 P1.out.2 P2.out.1 P2.out.2 _ _ _ hx hy
  by_cases hlt : an * bd * bw < bn * ad * aw
  · rw [decide_eq_true hlt] at hl
    have hr : scmp an ad aw bn bd bw = -1 := by rw [hs]; unfold cmpI; rw [if_pos hlt]
    have HL := Lib.hid hl
    have HQ := Lib.hid hr
    clear hl hr hlt hx hy hs
    (with_reducible refine (HL.out).mono ?_)
    rintro e w9 ⟨rfl, hb9⟩
    have hs9 : w8.heap.size + 0 ≤ w9.heap.size := (by have h := hb9.size; first | omega | (simp at h; omega))
    have hb3_9 := bel hb3_8 hb9 (by (repeat (first | assumption | exact Below.refl _ _ | refine ba ?_ _ | refine bd ?_ | refine bdn ?_ _ | refine bs ?_ (by first | omega | (simp; done) | (simp; omega)) _ | refine bt ?_ (by assumption))))
    have hb4_9 := bel hb4_8 hb9 (by (repeat (first | assumption | exact Below.refl _ _ | refine ba ?_ _ | refine bd ?_ | refine bdn ?_ _ | refine bs ?_ (by first | omega | (simp; done) | (simp; omega)) _ | refine bt ?_ (by assumption))))
    have hb5_9 := bel hb5_8 hb9 (by (repeat (first | assumption | exact Below.refl _ _ | refine ba ?_ _ | refine bd ?_ | refine bdn ?_ _ | refine bs ?_ (by first | omega | (simp; done) | (simp; omega)) _ | refine bt ?_ (by assumption))))
    have hb6_9 := bel hb6_8 hb9 (by (repeat (first | assumption | exact Below.refl _ _ | refine ba ?_ _ | refine bd ?_ | refine bdn ?_ _ | refine bs ?_ (by first | omega | (simp; done) | (simp; omega)) _ | refine bt ?_ (by assumption))))
    have hb7_9 := bel hb7_8 hb9 (by (repeat (first | assumption | exact Below.refl _ _ | refine ba ?_ _ | refine bd ?_ | refine bdn ?_ _ | refine bs ?_ (by first | omega | (simp; done) | (simp; omega)) _ | refine bt ?_ (by assumption))))
    have hb8_9 := bel hb8 hb9 (by (repeat (first | assumption | exact Below.refl _ _ | refine ba ?_ _ | refine bd ?_ | refine bdn ?_ _ | refine bs ?_ (by first | omega | (simp; done) | (simp; omega)) _ | refine bt ?_ (by assumption))))
    clear hc3_8 hf3_8 hz8_0 hz8_1 hc8 hf8
    obtain ⟨hc3_9, hf3_9, hl3_9⟩ := bcell hb3_9
    clear hl3_9
    have hz9_0 : w.heap.size < w9.heap.size := (by omega)
    have hz9_1 : w.heap.size + 1 < w9.heap.size := (by omega)
    obtain ⟨hc9, hf9, hl9⟩ := bcell hb9
    clear hl9
    go_wp2
    go_ret
    refine ⟨by rw [HQ.out]; rfl, ?_⟩
    (repeat (first | assumption | exact Below.refl _ _ | refine ba ?_ _ | refine bd ?_ | refine bdn ?_ _ | refine bs ?_ (by first | omega | (simp; done) | (simp; omega)) _ | refine bt ?_ (by assumption)))
  · rw [decide_eq_false hlt] at hl
    have HL := Lib.hid hl
    clear hl
    have HX := Lib.hid hx
    have HY := Lib.hid hy
    clear hx hy
    (with_reducible refine (HL.out).mono ?_)
    rintro e w9 ⟨rfl, hb9⟩
    have hs9 : w8.heap.size + 0 ≤ w9.heap.size := (by have h := hb9.size; first | omega | (simp at h; omega))
    have hb3_9 := bel hb3_8 hb9 (by (repeat (first | assumption | exact Below.refl _ _ | refine ba ?_ _ | refine bd ?_ | refine bdn ?_ _ | refine bs ?_ (by first | omega | (simp; done) | (simp; omega)) _ | refine bt ?_ (by assumption))))
    have hb4_9 := bel hb4_8 hb9 (by (repeat (first | assumption | exact Below.refl _ _ | refine ba ?_ _ | refine bd ?_ | refine bdn ?_ _ | refine bs ?_ (by first | omega | (simp; done) | (simp; omega)) _ | refine bt ?_ (by assumption))))
    have hb5_9 := bel hb5_8 hb9 (by (repeat (first | assumption | exact Below.refl _ _ | refine ba ?_ _ | refine bd ?_ | refine bdn ?_ _ | refine bs ?_ (by first | omega | (simp; done) | (simp; omega)) _ | refine bt ?_ (by assumption))))
    have hb6_9 := bel hb6_8 hb9 (by (repeat (first | assumption | exact Below.refl _ _ | refine ba ?_ _ | refine bd ?_ | refine bdn ?_ _ | refine bs ?_ (by first | omega | (simp; done) | (simp; omega)) _ | refine bt ?_ (by assumption))))
    have hb7_9 := bel hb7_8 hb9 (by (repeat (first | assumption | exact Below.refl _ _ | refine ba ?_ _ | refine bd ?_ | refine bdn ?_ _ | refine bs ?_ (by first | omega | (simp; done) | (simp; omega)) _ | refine bt ?_ (by assumption))))
    have hb8_9 := bel hb8 hb9 (by (repeat (first | assumption | exact Below.refl _ _ | refine ba ?_ _ | refine bd ?_ | refine bdn ?_ _ | refine bs ?_ (by first | omega | (simp; done) | (simp; omega)) _ | refine bt ?_ (by assumption))))
    clear hc3_8 hf3_8 hz8_0 hz8_1 hc8 hf8
    obtain ⟨hc3_9, hf3_9, hl3_9⟩ := bcell hb3_9
    clear hl3_9
    have hz9_0 : w.heap.size < w9.heap.size := (by omega)
    have hz9_1 : w.heap.size + 1 < w9.heap.size := (by omega)
    obtain ⟨hc9, hf9, hl9⟩ := bcell hb9
    clear hl9
    have hl2 := less_any 24 (by decide) (by decide) _ _ P2.out.1 P2.out.2 P1.out.1 P1.out.2 _ _ _ (HY.out.grow hb9) (HX.out.grow hb9)
    by_cases hgt : bn * ad * aw < an * bd * bw
    · rw [decide_eq_true hgt] at hl2
      have hr : scmp an ad aw bn bd bw = 1 := by rw [hs]; unfold cmpI; rw [if_neg hlt, if_pos hgt]
      have HL2 := Lib.hid hl2
      have HQ := Lib.hid hr
      clear hl2 hr hgt hlt hs
      go_wp2_with fail
      (with_reducible refine (HL2.out).mono ?_)
      rintro e w10 ⟨rfl, hb10⟩
      have hs10 : w9.heap.size + 0 ≤ w10.heap.size := (by have h := hb10.size; first | omega | (simp at h; omega))
      have hb3_10 := bel hb3_9 hb10 (by (repeat (first | assumption | exact Below.refl _ _ | refine ba ?_ _ | refine bd ?_ | refine bdn ?_ _ | refine bs ?_ (by first | omega | (simp; done) | (simp; omega)) _ | refine bt ?_ (by assumption))))
      have hb4_10 := bel hb4_9 hb10 (by (repeat (first | assumption | exact Below.refl _ _ | refine ba ?_ _ | refine bd ?_ | refine bdn ?_ _ | refine bs ?_ (by first | omega | (simp; done) | (simp; omega)) _ | refine bt ?_ (by assumption))))
      have hb5_10 := bel hb5_9 hb10 (by (repeat (first | assumption | exact Below.refl _ _ | refine ba ?_ _ | refine bd ?_ | refine bdn ?_ _ | refine bs ?_ (by first | omega | (simp; done) | (simp; omega)) _ | refine bt ?_ (by assumption))))
      have hb6_10 := bel hb6_9 hb10 (by (repeat (first | assumption | exact Below.refl _ _ | refine ba ?_ _ | refine bd ?_ | refine bdn ?_ _ | refine bs ?_ (by first | omega | (simp; done) | (simp; omega)) _ | refine bt ?_ (by assumption))))
      have hb7_10 := bel hb7_9 hb10 (by (repeat (first | assumption | exact Below.refl _ _ | refine ba ?_ _ | refine bd ?_ | refine bdn ?_ _ | refine bs ?_ (by first | omega | (simp; done) | (simp; omega)) _ | refine bt ?_ (by assumption))))
      have hb8_10 := bel hb8_9 hb10 (by (repeat (first | assumption | exact Below.refl _ _ | refine ba ?_ _ | refine bd ?_ | refine bdn ?_ _ | refine bs ?_ (by first | omega | (simp; done) | (simp; omega)) _ | refine bt ?_ (by assumption))))
      have hb9_10 := bel hb9 hb10 (by (repeat (first | assumption | exact Below.refl _ _ | refine ba ?_ _ | refine bd ?_ | refine bdn ?_ _ | refine bs ?_ (by first | omega | (simp; done) | (simp; omega)) _ | refine bt ?_ (by assumption))))
      clear hc3_9 hf3_9 hz9_0 hz9_1 hc9 hf9
      obtain ⟨hc3_10, hf3_10, hl3_10⟩ := bcell hb3_10
      clear hl3_10
      have hz10_0 : w.heap.size < w10.heap.size := (by omega)
      have hz10_1 : w.heap.size + 1 < w10.heap.size := (by omega)
      obtain ⟨hc10, hf10, hl10⟩ := bcell hb10
      clear hl10
      go_wp2
      go_ret
      refine ⟨by rw [HQ.out]; rfl, ?_⟩
      (repeat (first | assumption | exact Below.refl _ _ | refine ba ?_ _ | refine bd ?_ | refine bdn ?_ _ | refine bs ?_ (by first | omega | (simp; done) | (simp; omega)) _ | refine bt ?_ (by assumption)))
    · rw [decide_eq_false hgt] at hl2
      have hr : scmp an ad aw bn bd bw = 0 := by rw [hs]; unfold cmpI; rw [if_neg hlt, if_neg hgt]
      have HL2 := Lib.hid hl2
      have HQ := Lib.hid hr
      clear hl2 hr hgt hlt hs
      go_wp2_with fail
      (with_reducible refine (HL2.out).mono ?_)
      rintro e w10 ⟨rfl, hb10⟩
      have hs10 : w9.heap.size + 0 ≤ w10.heap.size := (by have h := hb10.size; first | omega | (simp at h; omega))
      have hb3_10 := bel hb3_9 hb10 (by (repeat (first | assumption | exact Below.refl _ _ | refine ba ?_ _ | refine bd ?_ | refine bdn ?_ _ | refine bs ?_ (by first | omega | (simp; done) | (simp; omega)) _ | refine bt ?_ (by assumption))))
      have hb4_10 := bel hb4_9 hb10 (by (repeat (first | assumption | exact Below.refl _ _ | refine ba ?_ _ | refine bd ?_ | refine bdn ?_ _ | refine bs ?_ (by first | omega | (simp; done) | (simp; omega)) _ | refine bt ?_ (by assumption))))
      have hb5_10 := bel hb5_9 hb10 (by (repeat (first | assumption | exact Below.refl _ _ | refine ba ?_ _ | refine bd ?_ | refine bdn ?_ _ | refine bs ?_ (by first | omega | (simp; done) | (simp; omega)) _ | refine bt ?_ (by assumption))))
      have hb6_10 := bel hb6_9 hb10 (by (repeat (first | assumption | exact Below.refl _ _ | refine ba ?_ _ | refine bd ?_ | refine bdn ?_ _ | refine bs ?_ (by first | omega | (simp; done) | (simp; omega)) _ | refine bt ?_ (by assumption))))
      have hb7_10 := bel hb7_9 hb10 (by (repeat (first | assumption | exact Below.refl _ _ | refine ba ?_ _ | refine bd ?_ | refine bdn ?_ _ | refine bs ?_ (by first | omega | (simp; done) | (simp; omega)) _ | refine bt ?_ (by assumption))))
      have hb8_10 := bel hb8_9 hb10 (by (repeat (first | assumption | exact Below.refl _ _ | refine ba ?_ _ | refine bd ?_ | refine bdn ?_ _ | refine bs ?_ (by first | omega | (simp; done) | (simp; omega)) _ | refine bt ?_ (by assumption))))
      have hb9_10 := bel hb9 hb10 (by (repeat (first | assumption | exact Below.refl _ _ | refine ba ?_ _ | refine bd ?_ | refine bdn ?_ _ | refine bs ?_ (by first | omega | (simp; done) | (simp; omega)) _ | refine bt ?_ (by assumption))))
      clear hc3_9 hf3_9 hz9_0 hz9_1 hc9 hf9
      obtain ⟨hc3_10, hf3_10, hl3_10⟩ := bcell hb3_10
      clear hl3_10
      have hz10_0 : w.heap.size < w10.heap.size := (by omega)
      have hz10_1 : w.heap.size + 1 < w10.heap.size := (by omega)
      obtain ⟨hc10, hf10, hl10⟩ := bcell hb10
      clear hl10
      go_wp2
      go_ret
      refine ⟨by rw [HQ.out]; rfl, ?_⟩
      (repeat (first | assumption | exact Below.refl _ _ | refine ba ?_ _ | refine bd ?_ | refine bdn ?_ _ | refine bs ?_ (by first | omega | (simp; done) | (simp; omega)) _ | refine bt ?_ (by assumption)))
theorem rscmp_any (an ad aw bn bd bw : Int) : Pure Tryz.prog 110 #[F2 an ad, .int .i64 aw, F2 bn bd, .int .i64 bw] (.int .i64 (scmp an ad aw bn bd bw)) := by
  by_cases h1 : SRt an ad aw
  · by_cases h2 : SRt bn bd bw
    · exact rscmp_yes an ad aw bn bd bw h1 h2
    · have : scmp an ad aw bn bd bw = 0 := by unfold scmp; rw [if_neg (fun h => h2 h.2)]
      rw [this]; exact rscmp_no2 _ _ _ _ _ _ h1 h2
  · have : scmp an ad aw bn bd bw = 0 := by unfold scmp; rw [if_neg (fun h => h1 h.1)]
    rw [this]; exact rscmp_no1 _ _ _ _ _ _ h1
end Go.Proofs.YtgfjmafdfbghnaaGreat
