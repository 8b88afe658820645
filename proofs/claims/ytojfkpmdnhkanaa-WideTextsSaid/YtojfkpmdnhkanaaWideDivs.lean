/- For any wide number and any divisor the statement WideDivs returns true: the quotient times the divisor, plus the rest, which is less than the divisor, is the number. No condition. -/
import Derived.Test.YtojfkpmdnhkanaaWorks1
import Derived.OpenShut
import Derived.ChangeOld
import Derived.Lib.SmallJoins
namespace Go.Proofs.Ytojfkpmdnhkanaa
open Go.RowKit
attribute [local go_sem] ext_cell ext_frozen Mix.calmUpon Mix.mUpon

set_option maxHeartbeats 1000000 in
theorem divs_zero (ah al : Int) (hD : Pure Try.prog 26 #[W2 ah al, u 0] (.tuple #[W2 0 0, u 0])) :
    Pure Try.prog 5 #[W2 ah al, u 0] (.bool true) := by
  intro w
  have HD := Lib.hid hD
  clear hD
  go_enter Try.func5, Try.ntmps5
  go_wp2_with fail
  (with_reducible refine (HD.out _).mono ?_)
  rintro e w1 ⟨rfl, hb1⟩
  have hs1 : w.heap.size + 1 ≤ w1.heap.size := (by have h := hb1.size; first | omega | (simp at h; omega))
  have hz1_0 : w.heap.size < w1.heap.size := (by omega)
  obtain ⟨hc1, hf1, hl1⟩ := bcell hb1
  clear hl1
  go_wp2_with fail
  (with_reducible refine (works1 _).mono ?_)
  rintro e w2 ⟨rfl, hb2⟩
  have hs2 : w1.heap.size + 1 ≤ w2.heap.size := (by have h := hb2.size; first | omega | (simp at h; omega))
  have hb1_2 := bel hb1 hb2 (by (repeat (first | assumption | exact Below.refl _ _ | refine ba ?_ _ | refine bd ?_ | refine bdn ?_ _ | refine bs ?_ (by first | omega | (simp; done) | (simp; omega)) _ | refine bt ?_ (by assumption))))
  clear hz1_0 hc1 hf1
  obtain ⟨hc1_2, hf1_2, hl1_2⟩ := bcell hb1_2
  clear hl1_2
  have hz2_0 : w.heap.size < w2.heap.size := (by omega)
  have hz2_1 : w1.heap.size < w2.heap.size := (by omega)
  obtain ⟨hc2, hf2, hl2⟩ := bcell hb2
  clear hl2
  go_wp2
  go_ret
  refine ⟨rfl, ?_⟩
  (repeat (first | assumption | exact Below.refl _ _ | refine ba ?_ _ | refine bd ?_ | refine bdn ?_ _ | refine bs ?_ (by first | omega | (simp; done) | (simp; omega)) _ | refine bt ?_ (by assumption)))
set_option maxHeartbeats 4000000 in
theorem divs_more (ah al d qh ql r ph pl : Int) (hd : 1 ≤ d) (hr : r < d) (hD : Pure Try.prog 26 #[W2 ah al, u d] (.tuple #[W2 qh ql, u r]))
    (hT : Pure Try.prog 21 #[W2 qh ql, u d] (.tuple #[W2 ph pl, .bool true])) (hO : Pure Try.prog 25 #[u r] (W2 0 r))
    (hA : Pure Try.prog 11 #[W2 ph pl, W2 0 r] (.tuple #[W2 ah al, .bool true])) :
    Pure Try.prog 5 #[W2 ah al, u d] (.bool true) := by
  intro w
  have hne : (d == 0) = false := by simp; omega
  have HD := Lib.hid hD; have HT := Lib.hid hT; have HO := Lib.hid hO; have HA := Lib.hid hA
  clear hD hT hO hA
  go_enter Try.func5, Try.ntmps5
  go_wp2_with fail
  (with_reducible refine (HD.out _).mono ?_)
  rintro e w1 ⟨rfl, hb1⟩
  have hs1 : w.heap.size + 1 ≤ w1.heap.size := (by have h := hb1.size; first | omega | (simp at h; omega))
  have hz1_0 : w.heap.size < w1.heap.size := (by omega)
  obtain ⟨hc1, hf1, hl1⟩ := bcell hb1
  clear hl1
  go_wp2_with fail
  (with_reducible refine (HT.out _).mono ?_)
  rintro e w2 ⟨rfl, hb2⟩
  have hs2 : w1.heap.size + 1 ≤ w2.heap.size := (by have h := hb2.size; first | omega | (simp at h; omega))
  have hb1_2 := bel hb1 hb2 (by (repeat (first | assumption | exact Below.refl _ _ | refine ba ?_ _ | refine bd ?_ | refine bdn ?_ _ | refine bs ?_ (by first | omega | (simp; done) | (simp; omega)) _ | refine bt ?_ (by assumption))))
  clear hz1_0 hc1 hf1
  obtain ⟨hc1_2, hf1_2, hl1_2⟩ := bcell hb1_2
  clear hl1_2
  have hz2_0 : w.heap.size < w2.heap.size := (by omega)
  have hz2_1 : w1.heap.size < w2.heap.size := (by omega)
  obtain ⟨hc2, hf2, hl2⟩ := bcell hb2
  clear hl2
  go_wp2_with fail
  refine Mix.region0 (by kernel_rfl) ?_
  intro w3 hb3
  have hs3 : w2.heap.size + 1 ≤ w3.heap.size := (by have h := hb3.size; first | omega | (simp at h; omega))
  have hb1_3 := bel hb1_2 hb3 (by (repeat (first | assumption | exact Below.refl _ _ | refine ba ?_ _ | refine bd ?_ | refine bdn ?_ _ | refine bs ?_ (by first | omega | (simp; done) | (simp; omega)) _ | refine bt ?_ (by assumption))))
  have hb2_3 := bel hb2 hb3 (by (repeat (first | assumption | exact Below.refl _ _ | refine ba ?_ _ | refine bd ?_ | refine bdn ?_ _ | refine bs ?_ (by first | omega | (simp; done) | (simp; omega)) _ | refine bt ?_ (by assumption))))
  clear hc1_2 hf1_2 hz2_0 hz2_1 hc2 hf2
  obtain ⟨hc1_3, hf1_3, hl1_3⟩ := bcell hb1_3
  clear hl1_3
  obtain ⟨hc2_3, hf2_3, hl2_3⟩ := bcell hb2_3
  clear hl2_3
  have hz3_0 : w.heap.size < w3.heap.size := (by omega)
  have hz3_1 : w1.heap.size < w3.heap.size := (by omega)
  have hz3_2 : w2.heap.size < w3.heap.size := (by omega)
  obtain ⟨hc3, hf3, hl3⟩ := bcell hb3
  clear hl3
  refine Mix.take_ex (_) 0 rfl (by kernel_rfl) (by kernel_rfl) (by kernel_rfl) (by kernel_rfl) (fun K hK => ?_)
  go_simp
  first | (refine hK _ ?_; clear hK K) | (apply Exists.intro; refine ⟨fun x => ?_, hK _ ?_⟩; ((first | (go_at_call 25; with_reducible exact HO.out _) | (go_at_call 11; with_reducible exact HA.out _))); clear hK K)
  refine Mix.take_ex (_) 1 rfl (by kernel_rfl) (by kernel_rfl) (by kernel_rfl) (by kernel_rfl) (fun K hK => ?_)
  go_simp
  first | (refine hK _ ?_; clear hK K) | (apply Exists.intro; refine ⟨fun x => ?_, hK _ ?_⟩; ((first | (go_at_call 25; with_reducible exact HO.out _) | (go_at_call 11; with_reducible exact HA.out _))); clear hK K)
  refine Mix.take_ex (_) 2 rfl (by kernel_rfl) (by kernel_rfl) (by kernel_rfl) (by kernel_rfl) (fun K hK => ?_)
  go_simp
  first | (refine hK _ ?_; clear hK K) | (apply Exists.intro; refine ⟨fun x => ?_, hK _ ?_⟩; ((first | (go_at_call 25; with_reducible exact HO.out _) | (go_at_call 11; with_reducible exact HA.out _))); clear hK K)
  refine Mix.take_ex (_) 3 rfl (by kernel_rfl) (by kernel_rfl) (by kernel_rfl) (by kernel_rfl) (fun K hK => ?_)
  go_simp
  first | (refine hK _ ?_; clear hK K) | (apply Exists.intro; refine ⟨fun x => ?_, hK _ ?_⟩; ((first | (go_at_call 25; with_reducible exact HO.out _) | (go_at_call 11; with_reducible exact HA.out _))); clear hK K)
  refine Mix.take_ex (_) 4 rfl (by kernel_rfl) (by kernel_rfl) (by kernel_rfl) (by kernel_rfl) (fun K hK => ?_)
  go_simp
  first | (refine hK _ ?_; clear hK K) | (apply Exists.intro; refine ⟨fun x => ?_, hK _ ?_⟩; ((first | (go_at_call 25; with_reducible exact HO.out _) | (go_at_call 11; with_reducible exact HA.out _))); clear hK K)
  refine Mix.take_ex (_) 5 rfl (by kernel_rfl) (by kernel_rfl) (by kernel_rfl) (by kernel_rfl) (fun K hK => ?_)
  go_simp
  first | (refine hK _ ?_; clear hK K) | (apply Exists.intro; refine ⟨fun x => ?_, hK _ ?_⟩; ((first | (go_at_call 25; with_reducible exact HO.out _) | (go_at_call 11; with_reducible exact HA.out _))); clear hK K)
  refine Mix.take_ex (_) 6 rfl (by kernel_rfl) (by kernel_rfl) (by kernel_rfl) (by kernel_rfl) (fun K hK => ?_)
  go_simp
  first | (refine hK _ ?_; clear hK K) | (apply Exists.intro; refine ⟨fun x => ?_, hK _ ?_⟩; ((first | (go_at_call 25; with_reducible exact HO.out _) | (go_at_call 11; with_reducible exact HA.out _))); clear hK K)
  refine Mix.all (rs := [7]) (by kernel_rfl) (by simp) (Mix.over_of (by (repeat (first | assumption | exact Below.refl _ _ | refine ba ?_ _ | refine bd ?_ | refine bdn ?_ _ | refine bs ?_ (by first | omega | (simp; done) | (simp; omega)) _ | refine bt ?_ (by assumption))))) ?_
  intro i4 hi4 w4 hb4 hC4
  clear hC4
  have hs4 : w3.heap.size + 0 ≤ w4.heap.size := (by have h := hb4.size; first | omega | (simp at h; omega))
  have hb1_4 := bel hb1_3 hb4 (by (repeat (first | assumption | exact Below.refl _ _ | refine ba ?_ _ | refine bd ?_ | refine bdn ?_ _ | refine bs ?_ (by first | omega | (simp; done) | (simp; omega)) _ | refine bt ?_ (by assumption))))
  have hb2_4 := bel hb2_3 hb4 (by (repeat (first | assumption | exact Below.refl _ _ | refine ba ?_ _ | refine bd ?_ | refine bdn ?_ _ | refine bs ?_ (by first | omega | (simp; done) | (simp; omega)) _ | refine bt ?_ (by assumption))))
  have hb3_4 := bel hb3 hb4 (by (repeat (first | assumption | exact Below.refl _ _ | refine ba ?_ _ | refine bd ?_ | refine bdn ?_ _ | refine bs ?_ (by first | omega | (simp; done) | (simp; omega)) _ | refine bt ?_ (by assumption))))
  clear hc1_3 hf1_3 hc2_3 hf2_3 hz3_0 hz3_1 hz3_2 hc3 hf3
  obtain ⟨hc1_4, hf1_4, hl1_4⟩ := bcell hb1_4
  clear hl1_4
  obtain ⟨hc2_4, hf2_4, hl2_4⟩ := bcell hb2_4
  clear hl2_4
  obtain ⟨hc3_4, hf3_4, hl3_4⟩ := bcell hb3_4
  clear hl3_4
  have hz4_0 : w.heap.size < w4.heap.size := (by omega)
  have hz4_1 : w1.heap.size < w4.heap.size := (by omega)
  have hz4_2 : w2.heap.size < w4.heap.size := (by omega)
  obtain ⟨hc4, hf4, hl4⟩ := bcell hb4
  clear hl4
  simp only [List.mem_cons, List.not_mem_nil, or_false] at hi4
  subst hi4
  refine Mix.op rfl (by kernel_rfl) ?_
  go_simp
  refine Mix.all (rs := [8]) (by kernel_rfl) (by simp) (Mix.over_of (by (repeat (first | assumption | exact Below.refl _ _ | refine ba ?_ _ | refine bd ?_ | refine bdn ?_ _ | refine bs ?_ (by first | omega | (simp; done) | (simp; omega)) _ | refine bt ?_ (by assumption))))) ?_
  intro i5 hi5 w5 hb5 hC5
  clear hC5
  have hs5 : w4.heap.size + 1 ≤ w5.heap.size := (by have h := hb5.size; first | omega | (simp at h; omega))
  have hb1_5 := bel hb1_4 hb5 (by (repeat (first | assumption | exact Below.refl _ _ | refine ba ?_ _ | refine bd ?_ | refine bdn ?_ _ | refine bs ?_ (by first | omega | (simp; done) | (simp; omega)) _ | refine bt ?_ (by assumption))))
  have hb2_5 := bel hb2_4 hb5 (by (repeat (first | assumption | exact Below.refl _ _ | refine ba ?_ _ | refine bd ?_ | refine bdn ?_ _ | refine bs ?_ (by first | omega | (simp; done) | (simp; omega)) _ | refine bt ?_ (by assumption))))
  have hb3_5 := bel hb3_4 hb5 (by (repeat (first | assumption | exact Below.refl _ _ | refine ba ?_ _ | refine bd ?_ | refine bdn ?_ _ | refine bs ?_ (by first | omega | (simp; done) | (simp; omega)) _ | refine bt ?_ (by assumption))))
  have hb4_5 := bel hb4 hb5 (by (repeat (first | assumption | exact Below.refl _ _ | refine ba ?_ _ | refine bd ?_ | refine bdn ?_ _ | refine bs ?_ (by first | omega | (simp; done) | (simp; omega)) _ | refine bt ?_ (by assumption))))
  clear hc1_4 hf1_4 hc2_4 hf2_4 hc3_4 hf3_4 hz4_0 hz4_1 hz4_2 hc4 hf4
  obtain ⟨hc1_5, hf1_5, hl1_5⟩ := bcell hb1_5
  clear hl1_5
  obtain ⟨hc2_5, hf2_5, hl2_5⟩ := bcell hb2_5
  clear hl2_5
  obtain ⟨hc3_5, hf3_5, hl3_5⟩ := bcell hb3_5
  clear hl3_5
  have hz5_0 : w.heap.size < w5.heap.size := (by omega)
  have hz5_1 : w1.heap.size < w5.heap.size := (by omega)
  have hz5_2 : w2.heap.size < w5.heap.size := (by omega)
  have hz5_3 : w4.heap.size < w5.heap.size := (by omega)
  obtain ⟨hc5, hf5, hl5⟩ := bcell hb5
  clear hl5
  simp only [List.mem_cons, List.not_mem_nil, or_false] at hi5
  subst hi5
  refine Mix.op rfl (by kernel_rfl) ?_
  go_simp
  refine Mix.all (rs := [9]) (by kernel_rfl) (by simp) (Mix.over_of (by (repeat (first | assumption | exact Below.refl _ _ | refine ba ?_ _ | refine bd ?_ | refine bdn ?_ _ | refine bs ?_ (by first | omega | (simp; done) | (simp; omega)) _ | refine bt ?_ (by assumption))))) ?_
  intro i6 hi6 w6 hb6 hC6
  clear hC6
  have hs6 : w5.heap.size + 0 ≤ w6.heap.size := (by have h := hb6.size; first | omega | (simp at h; omega))
  have hz6_0 : w.heap.size < w6.heap.size := (by omega)
  have hz6_1 : w1.heap.size < w6.heap.size := (by omega)
  have hz6_2 : w2.heap.size < w6.heap.size := (by omega)
  have hz6_3 : w4.heap.size < w6.heap.size := (by omega)
  have hy6_0_0 : w.heap.size ≤ w5.heap.size := (by omega)
  have hy6_1_0 : w1.heap.size ≤ w5.heap.size := (by omega)
  have hy6_2_0 : w2.heap.size ≤ w5.heap.size := (by omega)
  have hy6_3_0 : w4.heap.size ≤ w5.heap.size := (by omega)
  obtain ⟨hc6, hf6, hl6⟩ := bcell hb6
  clear hl6
  simp only [List.mem_cons, List.not_mem_nil, or_false] at hi6
  subst hi6
  refine Mix.op rfl (by kernel_rfl) ?_
  go_simp
  refine Mix.done (by kernel_rfl) (Mix.over_of (by (repeat (first | assumption | exact Below.refl _ _ | refine ba ?_ _ | refine bd ?_ | refine bdn ?_ _ | refine bs ?_ (by first | omega | (simp; done) | (simp; omega)) _ | refine bt ?_ (by assumption))))) ?_
  intro w7 hb7
  have hs7 : w6.heap.size + 0 ≤ w7.heap.size := (by have h := hb7.size; first | omega | (simp at h; omega))
  have hb6_7 := bel hb6 hb7 (by (repeat (first | assumption | exact Below.refl _ _ | refine ba ?_ _ | refine bd ?_ | refine bdn ?_ _ | refine bs ?_ (by first | omega | (simp; done) | (simp; omega)) _ | refine bt ?_ (by assumption))))
  obtain ⟨hc6_7, hf6_7, hl6_7⟩ := bcell hb6_7
  clear hl6_7
  have hz7_0 : w.heap.size < w7.heap.size := (by omega)
  have hz7_1 : w1.heap.size < w7.heap.size := (by omega)
  have hz7_2 : w2.heap.size < w7.heap.size := (by omega)
  have hz7_3 : w4.heap.size < w7.heap.size := (by omega)
  obtain ⟨hc7, hf7, hl7⟩ := bcell hb7
  clear hl7
  go_wp2_with fail
  (with_reducible refine (works1 _).mono ?_)
  rintro e w8 ⟨rfl, hb8⟩
  have hs8 : w7.heap.size + 0 ≤ w8.heap.size := (by have h := hb8.size; first | omega | (simp at h; omega))
  have hb6_8 := bel hb6_7 hb8 (by (repeat (first | assumption | exact Below.refl _ _ | refine ba ?_ _ | refine bd ?_ | refine bdn ?_ _ | refine bs ?_ (by first | omega | (simp; done) | (simp; omega)) _ | refine bt ?_ (by assumption))))
  have hb7_8 := bel hb7 hb8 (by (repeat (first | assumption | exact Below.refl _ _ | refine ba ?_ _ | refine bd ?_ | refine bdn ?_ _ | refine bs ?_ (by first | omega | (simp; done) | (simp; omega)) _ | refine bt ?_ (by assumption))))
  clear hc6_7 hf6_7 hz7_0 hz7_1 hz7_2 hz7_3 hc7 hf7
  obtain ⟨hc6_8, hf6_8, hl6_8⟩ := bcell hb6_8
  clear hl6_8
  have hz8_0 : w.heap.size < w8.heap.size := (by omega)
  have hz8_1 : w1.heap.size < w8.heap.size := (by omega)
  have hz8_2 : w2.heap.size < w8.heap.size := (by omega)
  have hz8_3 : w4.heap.size < w8.heap.size := (by omega)
  obtain ⟨hc8, hf8, hl8⟩ := bcell hb8
  clear hl8
  go_wp2
  go_ret
  refine ⟨rfl, ?_⟩
  (repeat (first | assumption | exact Below.refl _ _ | refine ba ?_ _ | refine bd ?_ | refine bdn ?_ _ | refine bs ?_ (by first | omega | (simp; done) | (simp; omega)) _ | refine bt ?_ (by assumption)))

theorem ediv_lt_B (a d : Int) (ha : Wd a) (h1 : 1 ≤ d) : Wd (a / d) := by
  obtain ⟨a0, a1⟩ := ha
  have := Int.ediv_nonneg a0 (show 0 ≤ d by omega)
  have := Int.ediv_le_self d a0
  exact ⟨by omega, by omega⟩
theorem divs_walk (ah al d : Int) (h1 : Word ah) (h2 : Word al) (h3 : Word d) : Pure Try.prog 5 #[W2 ah al, u d] (.bool true) := by
  have hV : WV (ah * 18446744073709551616 + al) = W2 ah al := WV_of ah al h2
  have hW : Wd (ah * 18446744073709551616 + al) := Wd_of h1 h2
  generalize ah * 18446744073709551616 + al = a at *
  by_cases h0 : d = 0
  · subst h0
    have := div_0 a
    rw [hV] at this
    exact divs_zero ah al this
  · have hd : 1 ≤ d := by have := h3.1; omega
    have m0 := Int.emod_nonneg a (show d ≠ 0 by omega)
    have m1 := Int.emod_lt_of_pos a (show 0 < d by omega)
    have e := Int.mul_ediv_add_emod a d
    have hD := div_V a d hW h3 hd
    have hT := times_V (a / d) d (ediv_lt_B a d hW hd) h3
    have wr : Word (a % d) := ⟨m0, by have := h3.2; omega⟩
    have hO := of_V (a % d) wr
    have hp : Wd (a / d * d) := by
      rw [Int.mul_comm]
      exact ⟨Int.mul_nonneg (by omega) (Int.ediv_nonneg hW.lo (by omega)), by have := hW.hi; omega⟩
    have hA := add_V (a / d * d) (a % d) hp ⟨m0, by have := h3.2; rw [B128_eq]; omega⟩
    have e1 : a / d * d % B128 = a / d * d := Int.emod_eq_of_lt hp.lo hp.hi
    have e2 : a / d * d + a % d = a := by rw [Int.mul_comm]; exact e
    have e3 : a % B128 = a := Int.emod_eq_of_lt hW.lo hW.hi
    rw [e1, decide_eq_true hp.hi] at hT
    rw [e2, e3, decide_eq_true hW.hi, hV] at hA
    rw [hV] at hD
    have f1 : WV (a % d) = W2 0 (a % d) := by
      unfold WV
      have := wr.2
      have g1 : a % d / 18446744073709551616 = 0 := by omega
      have g2 : a % d % 18446744073709551616 = a % d := by omega
      rw [g1, g2]
    rw [f1] at hO hA
    exact divs_more ah al d _ _ (a % d) _ _ hd m1 hD hT hO hA

theorem word_of_wf {x : Int} (h : (Lit.int .u64 x).wf = true) : Word x := by
  simp [Lit.wf, IntKind.min, IntKind.max, IntKind.signed, IntKind.bits] at h
  exact ⟨by omega, by omega⟩
namespace WideDivs
open Go.ChangeShapes Go.WideShapes Go.ChangeAt Go.RowKit
theorem own : ownKnob Try.prog.godebug = none := by kernel_rfl
theorem laidOut : laidOutB Try.prog = true := by kernel_rfl
set_option maxRecDepth 100000 in
theorem lifted (os : Os) (started : os.Started) (H : Type) (enc : TypeId × Value → H) :
    ReturnsInHanded {} Try.checked os 5 .any (Rows.wideDivsSpec.pre6 enc Try.prog Try.f5 Rows.wideDivsRow.domain false) (Rows.wideDivsSpec.post enc Try.prog Try.f5 false true false false) := by
  refine returnsInHanded_of_change (C := Try.checked) own started (by kernel_rfl) Try.func5
    (ChangeSpec.witness6 (enc := enc) (C := Try.checked) false ⟨#[], #[W2 0 0, .int .u64 0], []⟩ 8 (by kernel_rfl) (by kernel_rfl) (by kernel_rfl) (by kernel_rfl)) ?_
  intro W base args ds gs before hval0 hW hcnd _
  have hval : ∀ (j : Nat) t v, Try.f5.params[j]? = some t → args[j]? = some v → Value.okWide Try.prog W .any base t v := hval0
  have hW' := hW
  obtain ⟨p, q, hA0, hV, rfl, hfz, hnd⟩ := hW
  have hA : DataW.TrodAll enc Try.prog W 0 (fun _ => true) true Try.f5.params.toList args.toList ds p := hA0
  rw [Try.params5] at hA hval
  obtain ⟨v0, vs0, d0, ds0, p0, q0, hargs, rfl, rfl, h0, r0⟩ := trodAll_cons hA
  obtain ⟨v1, vs1, d1, ds1, p1, q1, rfl, rfl, rfl, h1, r1⟩ := trodAll_cons r0
  obtain ⟨rfl, rfl, rfl⟩ := trodAll_nil r1
  obtain rfl : args = #[v0, v1] := by cases args; simp_all
  obtain ⟨rfl, rfl⟩ := trodVars_none hV
  have k0 := h0
  have lt0 : ∀ x ∈ p0, x.block < W.heap.size := by obtain ⟨m, hm⟩ := k0; exact DataW.trod_lt m _ _ _ hm
  have k1 := h1
  have lt1 : ∀ x ∈ p1, x.block < W.heap.size := by obtain ⟨m, hm⟩ := k1; exact DataW.trod_lt m _ _ _ hm
  obtain ⟨c0_0, c0_1, y0_0, y0_1, m0, vEq0, rfl, rfl, hy0_0, hy0_1⟩ := Go.Joins.open_agg2 Try.underlying24 (by kernel_rfl) (by kernel_rfl : Try.prog.cellsOf 24 = 2) (hval 0 24 v0 rfl rfl) k0
  obtain ⟨ah, eq0_0, _, wf_ah⟩ := DataW.trod_int Try.underlying22 hy0_0
  obtain ⟨al, eq0_1, _, wf_al⟩ := DataW.trod_int Try.underlying22 hy0_1
  simp at eq0_0 eq0_1
  subst eq0_0 eq0_1
  subst vEq0
  obtain ⟨d, vEq1, _, _, wf_d⟩ := open_int Try.underlying22 (hval 1 22 v1 rfl rfl) k1
  subst vEq1
  clear hA0 hval0
  refine (divs_walk ah al d (word_of_wf wf_ah) (word_of_wf wf_al) (word_of_wf wf_d) W).mono fun e W' ⟨he, bel⟩ => ?_
  subst he
  exact ⟨_, rfl, _, _, _, [], _, [], hW', trodAll_mk1 (shut_bool Try.underlying4 _), (trodAll_cons_mk (Below.trod laidOut (by kernel_rfl) (of_decide_eq_true (by kernel_rfl)) k0 bel lt0) (trodAll_cons_mk (Below.trod laidOut (by kernel_rfl) (of_decide_eq_true (by kernel_rfl)) k1 bel lt1) trodAll_mk0)), rfl, bel.frame _, fun h => by cases h⟩
theorem over : Rows.wideDivsRow.holds Try.pinned (OpenSpec.ofChange Rows.wideDivsSpec) :=
  OpenClaim.holds_of_wide 5 Try.f5 rfl rfl rfl rfl rfl rfl rfl ⟨rfl, rfl, rfl, rfl, rfl⟩ rfl rfl rfl rfl rfl (by kernel_rfl) Try.func5 (by kernel_rfl)
    (of_decide_eq_true (by kernel_rfl)) (by unfold Func.isWrapper; first | (rw [if_pos (by decide +kernel)]; kernel_rfl) | (rw [if_neg (by decide +kernel)]; exact ⟨rfl, rfl⟩))
    (fun os started H enc _ => lifted os started H enc)
theorem proved : Rows.WideDivsSaid := over
end WideDivs
end Go.Proofs.Ytojfkpmdnhkanaa
