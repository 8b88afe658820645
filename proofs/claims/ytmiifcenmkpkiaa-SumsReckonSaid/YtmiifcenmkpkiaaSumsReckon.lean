/- For any two sums the statement SumsReckon returns true: sum, difference, and which holds which, are what the document says. Condition: none. -/
import Derived.Test.YtmiifcenmkpkiaaSumsU
import Derived.Test.YtmiifcenmkpkiaaSumsB
import Derived.Test.YtmiifcenmkpkiaaSumsDominant
namespace Go.Proofs.Ytmiifcenmkpkiaa
open Go.RowKit
attribute [local go_sem] ext_cell ext_frozen Mix.calmUpon Mix.mUpon eq4
theorem add_any (a b : Nat → Int) : ∃ (x : Nat → Int) (p : Bool), Pure Try.prog 7 #[S4 a, S4 b] (.tuple #[S4 x, .bool p]) ∧ Pure Try.prog 8 #[S4 a, S4 b] (.tuple #[S4 x, .bool p]) := by
  by_cases ha : SOk a
  · by_cases hb : SOk b
    · cases hq : decide (SOk fun k => a k + b k) with
      | true => exact ⟨fun k => a k + b k, true, add_both a b true ha hb hq, refadd_both a b true ha hb hq⟩
      | false => exact ⟨Z4, false, add_both a b false ha hb hq, refadd_both a b false ha hb hq⟩
    · exact ⟨Z4, false, add_no2 a b ha hb, refadd_no2 a b ha hb⟩
  · exact ⟨Z4, false, add_no1 a b ha, refadd_no1 a b ha⟩
theorem sub_any (a b : Nat → Int) : ∃ (x : Nat → Int) (p : Bool), Pure Try.prog 9 #[S4 a, S4 b] (.tuple #[S4 x, .bool p]) ∧ Pure Try.prog 10 #[S4 a, S4 b] (.tuple #[S4 x, .bool p]) := by
  by_cases hh : HOk a b
  · exact ⟨fun k => a k - b k, true, sub_yes a b hh, refsub_yes a b hh⟩
  · exact ⟨Z4, false, sub_no a b hh, refsub_no a b hh⟩
set_option maxRecDepth 100000 in
set_option maxHeartbeats 8000000 in
theorem srec_walk (a b x y : Nat → Int) (p q h r : Bool) (h1 : Pure Try.prog 7 #[S4 a, S4 b] (.tuple #[S4 x, .bool p])) (h2 : Pure Try.prog 8 #[S4 a, S4 b] (.tuple #[S4 x, .bool p]))
    (h3 : Pure Try.prog 9 #[S4 a, S4 b] (.tuple #[S4 y, .bool q])) (h4 : Pure Try.prog 10 #[S4 a, S4 b] (.tuple #[S4 y, .bool q]))
    (h5 : Pure Try.prog 11 #[S4 a, S4 b] (.bool h)) (h6 : Pure Try.prog 12 #[S4 a, S4 b] (.bool h))
    (h7 : Pure Try.prog 13 #[S4 a] (.bool r)) (h8 : Pure Try.prog 14 #[S4 a] (.bool r)) :
    Pure Try.prog 3 #[S4 a, S4 b] (.bool true) := by
  intro W
  have H1 := Lib.hid h1; have H2 := Lib.hid h2; have H3 := Lib.hid h3; have H4 := Lib.hid h4; have H5 := Lib.hid h5; have H6 := Lib.hid h6; have H7 := Lib.hid h7; have H8 := Lib.hid h8
  clear h1 h2 h3 h4 h5 h6 h7 h8
  go_enter Try.func3, Try.ntmps3
  go_wp2_with fail
  (with_reducible refine (H1.out _).mono ?_)
  rintro e w1 ⟨rfl, hb1⟩
  have hs1 : W.heap.size + 2 ≤ w1.heap.size := (by have h := hb1.size; first | omega | (simp at h; omega))
  have hz1_0 : W.heap.size < w1.heap.size := (by omega)
  have hz1_1 : W.heap.size + 1 < w1.heap.size := (by omega)
  obtain ⟨hc1, hf1, hl1⟩ := bcell hb1
  clear hl1
  go_wp2_with fail
  (with_reducible refine (H2.out _).mono ?_)
  rintro e w2 ⟨rfl, hb2⟩
  have hs2 : w1.heap.size + 1 ≤ w2.heap.size := (by have h := hb2.size; first | omega | (simp at h; omega))
  have hb1_2 := bel hb1 hb2 (by (repeat (first | assumption | exact Below.refl _ _ | refine ba ?_ _ | refine bd ?_ | refine bdn ?_ _ | refine bs ?_ (by first | omega | (simp; done) | (simp; omega)) _ | refine bt ?_ (by assumption))))
  clear hz1_0 hz1_1 hc1 hf1
  obtain ⟨hc1_2, hf1_2, hl1_2⟩ := bcell hb1_2
  clear hl1_2
  have hz2_0 : W.heap.size < w2.heap.size := (by omega)
  have hz2_1 : W.heap.size + 1 < w2.heap.size := (by omega)
  have hz2_2 : w1.heap.size < w2.heap.size := (by omega)
  obtain ⟨hc2, hf2, hl2⟩ := bcell hb2
  clear hl2
  go_wp2_with fail
  (with_reducible refine (H3.out _).mono ?_)
  rintro e w3 ⟨rfl, hb3⟩
  have hs3 : w2.heap.size + 1 ≤ w3.heap.size := (by have h := hb3.size; first | omega | (simp at h; omega))
  have hb1_3 := bel hb1_2 hb3 (by (repeat (first | assumption | exact Below.refl _ _ | refine ba ?_ _ | refine bd ?_ | refine bdn ?_ _ | refine bs ?_ (by first | omega | (simp; done) | (simp; omega)) _ | refine bt ?_ (by assumption))))
  have hb2_3 := bel hb2 hb3 (by (repeat (first | assumption | exact Below.refl _ _ | refine ba ?_ _ | refine bd ?_ | refine bdn ?_ _ | refine bs ?_ (by first | omega | (simp; done) | (simp; omega)) _ | refine bt ?_ (by assumption))))
  clear hc1_2 hf1_2 hz2_0 hz2_1 hz2_2 hc2 hf2
  obtain ⟨hc1_3, hf1_3, hl1_3⟩ := bcell hb1_3
  clear hl1_3
  obtain ⟨hc2_3, hf2_3, hl2_3⟩ := bcell hb2_3
  clear hl2_3
  have hz3_0 : W.heap.size < w3.heap.size := (by omega)
  have hz3_1 : W.heap.size + 1 < w3.heap.size := (by omega)
  have hz3_2 : w1.heap.size < w3.heap.size := (by omega)
  have hz3_3 : w2.heap.size < w3.heap.size := (by omega)
  obtain ⟨hc3, hf3, hl3⟩ := bcell hb3
  clear hl3
  go_wp2_with fail
  (with_reducible refine (H4.out _).mono ?_)
  rintro e w4 ⟨rfl, hb4⟩
  have hs4 : w3.heap.size + 1 ≤ w4.heap.size := (by have h := hb4.size; first | omega | (simp at h; omega))
  have hb1_4 := bel hb1_3 hb4 (by (repeat (first | assumption | exact Below.refl _ _ | refine ba ?_ _ | refine bd ?_ | refine bdn ?_ _ | refine bs ?_ (by first | omega | (simp; done) | (simp; omega)) _ | refine bt ?_ (by assumption))))
  have hb2_4 := bel hb2_3 hb4 (by (repeat (first | assumption | exact Below.refl _ _ | refine ba ?_ _ | refine bd ?_ | refine bdn ?_ _ | refine bs ?_ (by first | omega | (simp; done) | (simp; omega)) _ | refine bt ?_ (by assumption))))
  have hb3_4 := bel hb3 hb4 (by (repeat (first | assumption | exact Below.refl _ _ | refine ba ?_ _ | refine bd ?_ | refine bdn ?_ _ | refine bs ?_ (by first | omega | (simp; done) | (simp; omega)) _ | refine bt ?_ (by assumption))))
  clear hc1_3 hf1_3 hc2_3 hf2_3 hz3_0 hz3_1 hz3_2 hz3_3 hc3 hf3
  obtain ⟨hc1_4, hf1_4, hl1_4⟩ := bcell hb1_4
  clear hl1_4
  obtain ⟨hc2_4, hf2_4, hl2_4⟩ := bcell hb2_4
  clear hl2_4
  obtain ⟨hc3_4, hf3_4, hl3_4⟩ := bcell hb3_4
  clear hl3_4
  have hz4_0 : W.heap.size < w4.heap.size := (by omega)
  have hz4_1 : W.heap.size + 1 < w4.heap.size := (by omega)
  have hz4_2 : w1.heap.size < w4.heap.size := (by omega)
  have hz4_3 : w2.heap.size < w4.heap.size := (by omega)
  have hz4_4 : w3.heap.size < w4.heap.size := (by omega)
  obtain ⟨hc4, hf4, hl4⟩ := bcell hb4
  clear hl4
  go_wp2_with fail
  refine wp_region_pure (by kernel_rfl) (by kernel_rfl) ?_
  repeat (first | go_big_quiet_step (((first | (go_at_call 11; with_reducible exact H5.out.quiet) | (go_at_call 12; with_reducible exact H6.out.quiet) | (go_at_call 13; with_reducible exact H7.out.quiet) | (go_at_call 14; with_reducible exact H8.out.quiet) | (go_at_call 15; with_reducible exact works6.quiet)))) | (quiet_step (((first | (go_at_call 11; with_reducible exact H5.out.quiet) | (go_at_call 12; with_reducible exact H6.out.quiet) | (go_at_call 13; with_reducible exact H7.out.quiet) | (go_at_call 14; with_reducible exact H8.out.quiet) | (go_at_call 15; with_reducible exact works6.quiet))))))
  refine wpQuiet_nil ?_
  rintro w5 ⟨x5, hx5⟩
  have hb5 := ext_below _ x5
  rw [← hx5] at hb5
  clear hx5 x5
  have hs5 : w4.heap.size + 1 ≤ w5.heap.size := (by have h := hb5.size; first | omega | (simp at h; omega))
  have hb1_5 := bel hb1_4 hb5 (by (repeat (first | assumption | exact Below.refl _ _ | refine ba ?_ _ | refine bd ?_ | refine bdn ?_ _ | refine bs ?_ (by first | omega | (simp; done) | (simp; omega)) _ | refine bt ?_ (by assumption))))
  have hb2_5 := bel hb2_4 hb5 (by (repeat (first | assumption | exact Below.refl _ _ | refine ba ?_ _ | refine bd ?_ | refine bdn ?_ _ | refine bs ?_ (by first | omega | (simp; done) | (simp; omega)) _ | refine bt ?_ (by assumption))))
  have hb3_5 := bel hb3_4 hb5 (by (repeat (first | assumption | exact Below.refl _ _ | refine ba ?_ _ | refine bd ?_ | refine bdn ?_ _ | refine bs ?_ (by first | omega | (simp; done) | (simp; omega)) _ | refine bt ?_ (by assumption))))
  have hb4_5 := bel hb4 hb5 (by (repeat (first | assumption | exact Below.refl _ _ | refine ba ?_ _ | refine bd ?_ | refine bdn ?_ _ | refine bs ?_ (by first | omega | (simp; done) | (simp; omega)) _ | refine bt ?_ (by assumption))))
  clear hc1_4 hf1_4 hc2_4 hf2_4 hc3_4 hf3_4 hz4_0 hz4_1 hz4_2 hz4_3 hz4_4 hc4 hf4
  obtain ⟨hc1_5, hf1_5, hl1_5⟩ := bcell hb1_5
  clear hl1_5
  obtain ⟨hc2_5, hf2_5, hl2_5⟩ := bcell hb2_5
  clear hl2_5
  obtain ⟨hc3_5, hf3_5, hl3_5⟩ := bcell hb3_5
  clear hl3_5
  obtain ⟨hc4_5, hf4_5, hl4_5⟩ := bcell hb4_5
  clear hl4_5
  have hz5_0 : W.heap.size < w5.heap.size := (by omega)
  have hz5_1 : W.heap.size + 1 < w5.heap.size := (by omega)
  have hz5_2 : w1.heap.size < w5.heap.size := (by omega)
  have hz5_3 : w2.heap.size < w5.heap.size := (by omega)
  have hz5_4 : w3.heap.size < w5.heap.size := (by omega)
  have hz5_5 : w4.heap.size < w5.heap.size := (by omega)
  obtain ⟨hc5, hf5, hl5⟩ := bcell hb5
  clear hl5
  go_wp2
  go_ret
  refine ⟨rfl, ?_⟩
  (repeat (first | assumption | exact Below.refl _ _ | refine ba ?_ _ | refine bd ?_ | refine bdn ?_ _ | refine bs ?_ (by first | omega | (simp; done) | (simp; omega)) _ | refine bt ?_ (by assumption)))
theorem srec_any (a b : Nat → Int) : Pure Try.prog 3 #[S4 a, S4 b] (.bool true) := by
  obtain ⟨x, p, h1, h2⟩ := add_any a b
  obtain ⟨y, q, h3, h4⟩ := sub_any a b
  exact srec_walk a b x y p q _ _ h1 h2 h3 h4 (holds_any a b) (refholds_any a b) (sumsright a) (refright6 a)
namespace SumsReckon
open Go.ChangeShapes Go.WideShapes Go.ChangeAt Go.RowKit
theorem own : ownKnob Try.prog.godebug = none := by kernel_rfl
theorem laidOut : laidOutB Try.prog = true := by kernel_rfl
set_option maxRecDepth 100000 in
theorem lifted (os : Os) (started : os.Started) (H : Type) (enc : TypeId × Value → H) :
    ReturnsInHanded {} Try.checked os 3 .any (Rows.sumsReckonSpec.pre6 enc Try.prog Try.f3 Rows.sumsReckonRow.domain false) (Rows.sumsReckonSpec.post enc Try.prog Try.f3 false true false false) := by
  refine returnsInHanded_of_change (C := Try.checked) own started (by kernel_rfl) Try.func3
    (ChangeSpec.witness6 (enc := enc) (C := Try.checked) false ⟨#[], #[.agg #[.int .i64 0, .int .i64 0, .int .i64 0, .int .i64 0], .agg #[.int .i64 0, .int .i64 0, .int .i64 0, .int .i64 0]], []⟩ 8 (by kernel_rfl) (by kernel_rfl) (by kernel_rfl) (by kernel_rfl)) ?_
  intro W base args ds gs before hval0 hW hcnd _
  have hval : ∀ (j : Nat) t v, Try.f3.params[j]? = some t → args[j]? = some v → Value.okWide Try.prog W .any base t v := hval0
  have hW' := hW
  obtain ⟨p, q, hA0, hV, rfl, hfz, hnd⟩ := hW
  have hA : DataW.TrodAll enc Try.prog W 0 (fun _ => true) true Try.f3.params.toList args.toList ds p := hA0
  rw [Try.params3] at hA hval
  obtain ⟨v0, vs0, d0, ds0, p0, q0, hargs, rfl, rfl, h0, r0⟩ := trodAll_cons hA
  obtain ⟨v1, vs1, d1, ds1, p1, q1, rfl, rfl, rfl, h1, r1⟩ := trodAll_cons r0
  obtain ⟨rfl, rfl, rfl⟩ := trodAll_nil r1
  obtain rfl : args = #[v0, v1] := by cases args; simp_all
  obtain ⟨rfl, rfl⟩ := trodVars_none hV
  have k0 := h0
  have lt0 : ∀ x ∈ p0, x.block < W.heap.size := by obtain ⟨m, hm⟩ := k0; exact DataW.trod_lt m _ _ _ hm
  have k1 := h1
  have lt1 : ∀ x ∈ p1, x.block < W.heap.size := by obtain ⟨m, hm⟩ := k1; exact DataW.trod_lt m _ _ _ hm
  obtain ⟨a, vEq0, ia⟩ := open_sums (hval 0 23 v0 rfl rfl) k0
  subst vEq0
  obtain ⟨t, vEq1, it⟩ := open_sums (hval 1 23 v1 rfl rfl) k1
  subst vEq1
  clear hA0 hval0
  refine (srec_any a t W).mono fun e W' ⟨he, bel⟩ => ?_
  subst he
  exact ⟨_, rfl, _, _, _, [], _, [], hW', trodAll_mk1 (shut_bool Try.underlying4 _), (trodAll_cons_mk (Below.trod laidOut (by kernel_rfl) (of_decide_eq_true (by kernel_rfl)) k0 bel lt0) (trodAll_cons_mk (Below.trod laidOut (by kernel_rfl) (of_decide_eq_true (by kernel_rfl)) k1 bel lt1) trodAll_mk0)), rfl, bel.frame _, fun h => by cases h⟩
theorem over : Rows.sumsReckonRow.holds Try.pinned (OpenSpec.ofChange Rows.sumsReckonSpec) :=
  OpenClaim.holds_of_wide 3 Try.f3 rfl rfl rfl rfl rfl rfl rfl ⟨rfl, rfl, rfl, rfl, rfl⟩ rfl rfl rfl rfl rfl (by kernel_rfl) Try.func3 (by kernel_rfl)
    (of_decide_eq_true (by kernel_rfl)) (by unfold Func.isWrapper; first | (rw [if_pos (by decide +kernel)]; kernel_rfl) | (rw [if_neg (by decide +kernel)]; exact ⟨rfl, rfl⟩))
    (fun os started H enc _ => lifted os started H enc)
theorem proved : Rows.SumsReckonSaid := over
end SumsReckon
end Go.Proofs.Ytmiifcenmkpkiaa
