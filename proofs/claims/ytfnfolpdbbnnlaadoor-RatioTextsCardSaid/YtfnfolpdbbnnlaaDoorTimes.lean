/- Contract of (wide.Wide).Times. -/
import Derived.Test.YtfnfolpdbbnnlaaDoorWide1
import Derived.Test.YtfnfolpdbbnnlaaDoorMix
namespace Go.Proofs.YtfnfolpdbbnnlaaDoor
open Go.RowKit
attribute [local go_sem] ext_cell ext_frozen Mix.calmUpon Mix.mUpon
set_option maxRecDepth 100000 in
set_option maxHeartbeats 4000000 in
theorem times_core (ah al b p1 p0 q1 q0 : Int) (hm1 : Pure Tryd.prog 76 #[u al, u b] (W2 p1 p0)) (hm2 : Pure Tryd.prog 76 #[u ah, u b] (W2 q1 q0)) (k1 : 0 ≤ p1) (k2 : 0 ≤ q0) :
    Pure Tryd.prog 90 #[W2 ah al, u b] (.tuple #[W2 ((p1 + q0) % 18446744073709551616) p0, .bool ((q1 == 0) && ((p1 + q0) / 18446744073709551616 == 0))]) := by
  intro w
  have M1 := Lib.hid hm1; have M2 := Lib.hid hm2
  clear hm1 hm2
  by_cases hq : q1 = 0
  · subst hq
    go_enter Tryd.func90, Tryd.ntmps90
    go_wp2_with fail
    refine Mix.region0 (by kernel_rfl) ?_
    intro w1 hb1
    have hs1 : w.heap.size + 2 ≤ w1.heap.size := (by have h := hb1.size; first | omega | (simp at h; omega))
    have hz1_0 : w.heap.size < w1.heap.size := (by omega)
    have hz1_1 : w.heap.size + 1 < w1.heap.size := (by omega)
    obtain ⟨hc1, hf1, hl1⟩ := bcell hb1
    clear hl1
    refine Mix.take_ex (_) 0 rfl (by kernel_rfl) (by kernel_rfl) (by kernel_rfl) (by kernel_rfl) (fun K hK => ?_)
    go_simp
    first | (refine hK _ ?_; clear hK K) | (apply Exists.intro; refine ⟨fun x => ?_, hK _ ?_⟩; ((first | (go_at_call 76; with_reducible exact M1.out _) | (go_at_call 76; with_reducible exact M2.out _))); clear hK K)
    refine Mix.take_ex (_) 1 rfl (by kernel_rfl) (by kernel_rfl) (by kernel_rfl) (by kernel_rfl) (fun K hK => ?_)
    go_simp
    first | (refine hK _ ?_; clear hK K) | (apply Exists.intro; refine ⟨fun x => ?_, hK _ ?_⟩; ((first | (go_at_call 76; with_reducible exact M1.out _) | (go_at_call 76; with_reducible exact M2.out _))); clear hK K)
    refine Mix.take_ex (_) 2 rfl (by kernel_rfl) (by kernel_rfl) (by kernel_rfl) (by kernel_rfl) (fun K hK => ?_)
    go_simp
    first | (refine hK _ ?_; clear hK K) | (apply Exists.intro; refine ⟨fun x => ?_, hK _ ?_⟩; ((first | (go_at_call 76; with_reducible exact M1.out _) | (go_at_call 76; with_reducible exact M2.out _))); clear hK K)
    refine Mix.take_ex (_) 3 rfl (by kernel_rfl) (by kernel_rfl) (by kernel_rfl) (by kernel_rfl) (fun K hK => ?_)
    go_simp
    first | (refine hK _ ?_; clear hK K) | (apply Exists.intro; refine ⟨fun x => ?_, hK _ ?_⟩; ((first | (go_at_call 76; with_reducible exact M1.out _) | (go_at_call 76; with_reducible exact M2.out _))); clear hK K)
    refine Mix.take_ex (_) 4 rfl (by kernel_rfl) (by kernel_rfl) (by kernel_rfl) (by kernel_rfl) (fun K hK => ?_)
    go_simp
    first | (refine hK _ ?_; clear hK K) | (apply Exists.intro; refine ⟨fun x => ?_, hK _ ?_⟩; ((first | (go_at_call 76; with_reducible exact M1.out _) | (go_at_call 76; with_reducible exact M2.out _))); clear hK K)
    refine Mix.take_ex (_) 5 rfl (by kernel_rfl) (by kernel_rfl) (by kernel_rfl) (by kernel_rfl) (fun K hK => ?_)
    go_simp
    first | (refine hK _ ?_; clear hK K) | (apply Exists.intro; refine ⟨fun x => ?_, hK _ ?_⟩; ((first | (go_at_call 76; with_reducible exact M1.out _) | (go_at_call 76; with_reducible exact M2.out _))); clear hK K)
    refine Mix.take_ex (_) 6 rfl (by kernel_rfl) (by kernel_rfl) (by kernel_rfl) (by kernel_rfl) (fun K hK => ?_)
    go_simp
    first | (refine hK _ ?_; clear hK K) | (apply Exists.intro; refine ⟨fun x => ?_, hK _ ?_⟩; ((first | (go_at_call 76; with_reducible exact M1.out _) | (go_at_call 76; with_reducible exact M2.out _))); clear hK K)
    refine Mix.take_ex (_) 7 rfl (by kernel_rfl) (by kernel_rfl) (by kernel_rfl) (by kernel_rfl) (fun K hK => ?_)
    go_simp
    first | (refine hK _ ?_; clear hK K) | (apply Exists.intro; refine ⟨fun x => ?_, hK _ ?_⟩; ((first | (go_at_call 76; with_reducible exact M1.out _) | (go_at_call 76; with_reducible exact M2.out _))); clear hK K)
    refine Mix.all (rs := [8, 9]) (by kernel_rfl) (by simp) (Mix.over_of hb1) ?_
    intro i hi w2 hb2 hC2
    have hs2 : w1.heap.size + 0 ≤ w2.heap.size := (by have h := hb2.size; first | omega | (simp at h; omega))
    have hb1_2 := bel hb1 hb2 (by (repeat (first | assumption | exact Below.refl _ _ | refine ba ?_ _ | refine bd ?_ | refine bdn ?_ _ | refine bs ?_ (by first | omega | (simp; done) | (simp; omega)) _ | refine bt ?_ (by assumption))))
    clear hz1_0 hz1_1 hc1 hf1
    obtain ⟨hc1_2, hf1_2, hl1_2⟩ := bcell hb1_2
    clear hl1_2
    have hz2_0 : w.heap.size < w2.heap.size := (by omega)
    have hz2_1 : w.heap.size + 1 < w2.heap.size := (by omega)
    obtain ⟨hc2, hf2, hl2⟩ := bcell hb2
    clear hl2
    simp only [List.mem_cons, List.not_mem_nil, or_false] at hi
    rcases hi with rfl | rfl
    · refine Mix.op rfl (by kernel_rfl) ?_
      go_simp
      refine Mix.all (rs := [9]) (by kernel_rfl) (by simp) (Mix.over_of (by (repeat (first | assumption | exact Below.refl _ _ | refine ba ?_ _ | refine bd ?_ | refine bdn ?_ _ | refine bs ?_ (by first | omega | (simp; done) | (simp; omega)) _ | refine bt ?_ (by assumption))))) ?_
      intro i3 hi3 w3 hb3 hC3
      clear hC3
      have hs3 : w2.heap.size + 1 ≤ w3.heap.size := (by have h := hb3.size; first | omega | (simp at h; omega))
      have hb1_3 := bel hb1_2 hb3 (by (repeat (first | assumption | exact Below.refl _ _ | refine ba ?_ _ | refine bd ?_ | refine bdn ?_ _ | refine bs ?_ (by first | omega | (simp; done) | (simp; omega)) _ | refine bt ?_ (by assumption))))
      have hb2_3 := bel hb2 hb3 (by (repeat (first | assumption | exact Below.refl _ _ | refine ba ?_ _ | refine bd ?_ | refine bdn ?_ _ | refine bs ?_ (by first | omega | (simp; done) | (simp; omega)) _ | refine bt ?_ (by assumption))))
      clear hc1_2 hf1_2 hz2_0 hz2_1 hc2 hf2
      obtain ⟨hc1_3, hf1_3, hl1_3⟩ := bcell hb1_3
      clear hl1_3
      have hz3_0 : w.heap.size < w3.heap.size := (by omega)
      have hz3_1 : w.heap.size + 1 < w3.heap.size := (by omega)
      have hz3_2 : w2.heap.size < w3.heap.size := (by omega)
      obtain ⟨hc3, hf3, hl3⟩ := bcell hb3
      clear hl3
      simp only [List.mem_cons, List.not_mem_nil, or_false] at hi3
      subst hi3
      refine Mix.op rfl (by kernel_rfl) ?_
      go_simp
      refine Mix.all (rs := [10]) (by kernel_rfl) (by simp) (Mix.over_of (by (repeat (first | assumption | exact Below.refl _ _ | refine ba ?_ _ | refine bd ?_ | refine bdn ?_ _ | refine bs ?_ (by first | omega | (simp; done) | (simp; omega)) _ | refine bt ?_ (by assumption))))) ?_
      intro i4 hi4 w4 hb4 hC4
      clear hC4
      have hs4 : w3.heap.size + 1 ≤ w4.heap.size := (by have h := hb4.size; first | omega | (simp at h; omega))
      have hb1_4 := bel hb1_3 hb4 (by (repeat (first | assumption | exact Below.refl _ _ | refine ba ?_ _ | refine bd ?_ | refine bdn ?_ _ | refine bs ?_ (by first | omega | (simp; done) | (simp; omega)) _ | refine bt ?_ (by assumption))))
      have hb2_4 := bel hb2_3 hb4 (by (repeat (first | assumption | exact Below.refl _ _ | refine ba ?_ _ | refine bd ?_ | refine bdn ?_ _ | refine bs ?_ (by first | omega | (simp; done) | (simp; omega)) _ | refine bt ?_ (by assumption))))
      have hb3_4 := bel hb3 hb4 (by (repeat (first | assumption | exact Below.refl _ _ | refine ba ?_ _ | refine bd ?_ | refine bdn ?_ _ | refine bs ?_ (by first | omega | (simp; done) | (simp; omega)) _ | refine bt ?_ (by assumption))))
      clear hc1_3 hf1_3 hz3_0 hz3_1 hz3_2 hc3 hf3
      obtain ⟨hc1_4, hf1_4, hl1_4⟩ := bcell hb1_4
      clear hl1_4
      obtain ⟨hc3_4, hf3_4, hl3_4⟩ := bcell hb3_4
      clear hl3_4
      have hz4_0 : w.heap.size < w4.heap.size := (by omega)
      have hz4_1 : w.heap.size + 1 < w4.heap.size := (by omega)
      have hz4_2 : w2.heap.size < w4.heap.size := (by omega)
      have hz4_3 : w3.heap.size < w4.heap.size := (by omega)
      obtain ⟨hc4, hf4, hl4⟩ := bcell hb4
      clear hl4
      simp only [List.mem_cons, List.not_mem_nil, or_false] at hi4
      subst hi4
      refine Mix.op rfl (by kernel_rfl) ?_
      go_simp
      refine Mix.all (rs := [11]) (by kernel_rfl) (by simp) (Mix.over_of (by (repeat (first | assumption | exact Below.refl _ _ | refine ba ?_ _ | refine bd ?_ | refine bdn ?_ _ | refine bs ?_ (by first | omega | (simp; done) | (simp; omega)) _ | refine bt ?_ (by assumption))))) ?_
      intro i5 hi5 w5 hb5 hC5
      clear hC5
      have hs5 : w4.heap.size + 0 ≤ w5.heap.size := (by have h := hb5.size; first | omega | (simp at h; omega))
      have hz5_0 : w.heap.size < w5.heap.size := (by omega)
      have hz5_1 : w.heap.size + 1 < w5.heap.size := (by omega)
      have hz5_2 : w2.heap.size < w5.heap.size := (by omega)
      have hz5_3 : w3.heap.size < w5.heap.size := (by omega)
      have hy5_0_0 : w.heap.size ≤ w4.heap.size := (by omega)
      have hy5_1_0 : w.heap.size + 1 ≤ w4.heap.size := (by omega)
      have hy5_2_0 : w2.heap.size ≤ w4.heap.size := (by omega)
      have hy5_3_0 : w3.heap.size ≤ w4.heap.size := (by omega)
      obtain ⟨hc5, hf5, hl5⟩ := bcell hb5
      clear hl5
      simp only [List.mem_cons, List.not_mem_nil, or_false] at hi5
      subst hi5
      refine Mix.op rfl (by kernel_rfl) ?_
      go_simp
      refine Mix.done (by kernel_rfl) (Mix.over_of (by (repeat (first | assumption | exact Below.refl _ _ | refine ba ?_ _ | refine bd ?_ | refine bdn ?_ _ | refine bs ?_ (by first | omega | (simp; done) | (simp; omega)) _ | refine bt ?_ (by assumption))))) ?_
      intro w6 hb6
      have hs6 : w5.heap.size + 0 ≤ w6.heap.size := (by have h := hb6.size; first | omega | (simp at h; omega))
      have hz6_0 : w.heap.size < w6.heap.size := (by omega)
      have hz6_1 : w.heap.size + 1 < w6.heap.size := (by omega)
      have hz6_2 : w2.heap.size < w6.heap.size := (by omega)
      have hz6_3 : w3.heap.size < w6.heap.size := (by omega)
      have hy6_0_0 : w.heap.size ≤ w5.heap.size := (by omega)
      have hy6_1_0 : w.heap.size + 1 ≤ w5.heap.size := (by omega)
      have hy6_2_0 : w2.heap.size ≤ w5.heap.size := (by omega)
      have hy6_3_0 : w3.heap.size ≤ w5.heap.size := (by omega)
      obtain ⟨hc6, hf6, hl6⟩ := bcell hb6
      clear hl6
      go_wp2_with (first | simp only [Tryd.bits_Add64_0 _ _ k1 k2])
      refine bodyPost_ret (v := .tuple #[W2 ((p1 + q0) % 18446744073709551616) p0, .bool ((p1 + q0) / 18446744073709551616 == 0)]) (by simp [results, Tryd.results90, go_sem, *]) rfl ⟨by simp [*], ?_⟩
      (repeat (first | assumption | exact Below.refl _ _ | refine ba ?_ _ | refine bd ?_ | refine bdn ?_ _ | refine bs ?_ (by first | omega | (simp; done) | (simp; omega)) _ | refine bt ?_ (by assumption)))
    · refine Mix.op rfl (by kernel_rfl) ?_
      go_simp
      refine Mix.all (rs := [8]) (by kernel_rfl) (by simp) (Mix.over_of (by (repeat (first | assumption | exact Below.refl _ _ | refine ba ?_ _ | refine bd ?_ | refine bdn ?_ _ | refine bs ?_ (by first | omega | (simp; done) | (simp; omega)) _ | refine bt ?_ (by assumption))))) ?_
      intro i3 hi3 w3 hb3 hC3
      clear hC3
      have hs3 : w2.heap.size + 1 ≤ w3.heap.size := (by have h := hb3.size; first | omega | (simp at h; omega))
      have hb1_3 := bel hb1_2 hb3 (by (repeat (first | assumption | exact Below.refl _ _ | refine ba ?_ _ | refine bd ?_ | refine bdn ?_ _ | refine bs ?_ (by first | omega | (simp; done) | (simp; omega)) _ | refine bt ?_ (by assumption))))
      have hb2_3 := bel hb2 hb3 (by (repeat (first | assumption | exact Below.refl _ _ | refine ba ?_ _ | refine bd ?_ | refine bdn ?_ _ | refine bs ?_ (by first | omega | (simp; done) | (simp; omega)) _ | refine bt ?_ (by assumption))))
      clear hc1_2 hf1_2 hz2_0 hz2_1 hc2 hf2
      obtain ⟨hc1_3, hf1_3, hl1_3⟩ := bcell hb1_3
      clear hl1_3
      have hz3_0 : w.heap.size < w3.heap.size := (by omega)
      have hz3_1 : w.heap.size + 1 < w3.heap.size := (by omega)
      have hz3_2 : w2.heap.size < w3.heap.size := (by omega)
      obtain ⟨hc3, hf3, hl3⟩ := bcell hb3
      clear hl3
      simp only [List.mem_cons, List.not_mem_nil, or_false] at hi3
      subst hi3
      refine Mix.op rfl (by kernel_rfl) ?_
      go_simp
      refine Mix.all (rs := [10]) (by kernel_rfl) (by simp) (Mix.over_of (by (repeat (first | assumption | exact Below.refl _ _ | refine ba ?_ _ | refine bd ?_ | refine bdn ?_ _ | refine bs ?_ (by first | omega | (simp; done) | (simp; omega)) _ | refine bt ?_ (by assumption))))) ?_
      intro i4 hi4 w4 hb4 hC4
      clear hC4
      have hs4 : w3.heap.size + 1 ≤ w4.heap.size := (by have h := hb4.size; first | omega | (simp at h; omega))
      have hb1_4 := bel hb1_3 hb4 (by (repeat (first | assumption | exact Below.refl _ _ | refine ba ?_ _ | refine bd ?_ | refine bdn ?_ _ | refine bs ?_ (by first | omega | (simp; done) | (simp; omega)) _ | refine bt ?_ (by assumption))))
      have hb2_4 := bel hb2_3 hb4 (by (repeat (first | assumption | exact Below.refl _ _ | refine ba ?_ _ | refine bd ?_ | refine bdn ?_ _ | refine bs ?_ (by first | omega | (simp; done) | (simp; omega)) _ | refine bt ?_ (by assumption))))
      have hb3_4 := bel hb3 hb4 (by (repeat (first | assumption | exact Below.refl _ _ | refine ba ?_ _ | refine bd ?_ | refine bdn ?_ _ | refine bs ?_ (by first | omega | (simp; done) | (simp; omega)) _ | refine bt ?_ (by assumption))))
      clear hc1_3 hf1_3 hz3_0 hz3_1 hz3_2 hc3 hf3
      obtain ⟨hc1_4, hf1_4, hl1_4⟩ := bcell hb1_4
      clear hl1_4
      obtain ⟨hc3_4, hf3_4, hl3_4⟩ := bcell hb3_4
      clear hl3_4
      have hz4_0 : w.heap.size < w4.heap.size := (by omega)
      have hz4_1 : w.heap.size + 1 < w4.heap.size := (by omega)
      have hz4_2 : w2.heap.size < w4.heap.size := (by omega)
      have hz4_3 : w3.heap.size < w4.heap.size := (by omega)
      obtain ⟨hc4, hf4, hl4⟩ := bcell hb4
      clear hl4
      simp only [List.mem_cons, List.not_mem_nil, or_false] at hi4
      subst hi4
      refine Mix.op rfl (by kernel_rfl) ?_
      go_simp
      refine Mix.all (rs := [11]) (by kernel_rfl) (by simp) (Mix.over_of (by (repeat (first | assumption | exact Below.refl _ _ | refine ba ?_ _ | refine bd ?_ | refine bdn ?_ _ | refine bs ?_ (by first | omega | (simp; done) | (simp; omega)) _ | refine bt ?_ (by assumption))))) ?_
      intro i5 hi5 w5 hb5 hC5
      clear hC5
      have hs5 : w4.heap.size + 0 ≤ w5.heap.size := (by have h := hb5.size; first | omega | (simp at h; omega))
      have hz5_0 : w.heap.size < w5.heap.size := (by omega)
      have hz5_1 : w.heap.size + 1 < w5.heap.size := (by omega)
      have hz5_2 : w2.heap.size < w5.heap.size := (by omega)
      have hz5_3 : w3.heap.size < w5.heap.size := (by omega)
      have hy5_0_0 : w.heap.size ≤ w4.heap.size := (by omega)
      have hy5_1_0 : w.heap.size + 1 ≤ w4.heap.size := (by omega)
      have hy5_2_0 : w2.heap.size ≤ w4.heap.size := (by omega)
      have hy5_3_0 : w3.heap.size ≤ w4.heap.size := (by omega)
      obtain ⟨hc5, hf5, hl5⟩ := bcell hb5
      clear hl5
      simp only [List.mem_cons, List.not_mem_nil, or_false] at hi5
      subst hi5
      refine Mix.op rfl (by kernel_rfl) ?_
      go_simp
      refine Mix.done (by kernel_rfl) (Mix.over_of (by (repeat (first | assumption | exact Below.refl _ _ | refine ba ?_ _ | refine bd ?_ | refine bdn ?_ _ | refine bs ?_ (by first | omega | (simp; done) | (simp; omega)) _ | refine bt ?_ (by assumption))))) ?_
      intro w6 hb6
      have hs6 : w5.heap.size + 0 ≤ w6.heap.size := (by have h := hb6.size; first | omega | (simp at h; omega))
      have hz6_0 : w.heap.size < w6.heap.size := (by omega)
      have hz6_1 : w.heap.size + 1 < w6.heap.size := (by omega)
      have hz6_2 : w2.heap.size < w6.heap.size := (by omega)
      have hz6_3 : w3.heap.size < w6.heap.size := (by omega)
      have hy6_0_0 : w.heap.size ≤ w5.heap.size := (by omega)
      have hy6_1_0 : w.heap.size + 1 ≤ w5.heap.size := (by omega)
      have hy6_2_0 : w2.heap.size ≤ w5.heap.size := (by omega)
      have hy6_3_0 : w3.heap.size ≤ w5.heap.size := (by omega)
      obtain ⟨hc6, hf6, hl6⟩ := bcell hb6
      clear hl6
      go_wp2_with (first | simp only [Tryd.bits_Add64_0 _ _ k1 k2])
      refine bodyPost_ret (v := .tuple #[W2 ((p1 + q0) % 18446744073709551616) p0, .bool ((p1 + q0) / 18446744073709551616 == 0)]) (by simp [results, Tryd.results90, go_sem, *]) rfl ⟨by simp [*], ?_⟩
      (repeat (first | assumption | exact Below.refl _ _ | refine ba ?_ _ | refine bd ?_ | refine bdn ?_ _ | refine bs ?_ (by first | omega | (simp; done) | (simp; omega)) _ | refine bt ?_ (by assumption)))
  · have hq' : (q1 == 0) = false := by simpa using hq
    clear hq
    go_enter Tryd.func90, Tryd.ntmps90
    go_wp2_with fail
    refine Mix.region0 (by kernel_rfl) ?_
    intro w1 hb1
    have hs1 : w.heap.size + 2 ≤ w1.heap.size := (by have h := hb1.size; first | omega | (simp at h; omega))
    have hz1_0 : w.heap.size < w1.heap.size := (by omega)
    have hz1_1 : w.heap.size + 1 < w1.heap.size := (by omega)
    obtain ⟨hc1, hf1, hl1⟩ := bcell hb1
    clear hl1
    refine Mix.take_ex (_) 0 rfl (by kernel_rfl) (by kernel_rfl) (by kernel_rfl) (by kernel_rfl) (fun K hK => ?_)
    go_simp
    first | (refine hK _ ?_; clear hK K) | (apply Exists.intro; refine ⟨fun x => ?_, hK _ ?_⟩; ((first | (go_at_call 76; with_reducible exact M1.out _) | (go_at_call 76; with_reducible exact M2.out _))); clear hK K)
    refine Mix.take_ex (_) 1 rfl (by kernel_rfl) (by kernel_rfl) (by kernel_rfl) (by kernel_rfl) (fun K hK => ?_)
    go_simp
    first | (refine hK _ ?_; clear hK K) | (apply Exists.intro; refine ⟨fun x => ?_, hK _ ?_⟩; ((first | (go_at_call 76; with_reducible exact M1.out _) | (go_at_call 76; with_reducible exact M2.out _))); clear hK K)
    refine Mix.take_ex (_) 2 rfl (by kernel_rfl) (by kernel_rfl) (by kernel_rfl) (by kernel_rfl) (fun K hK => ?_)
    go_simp
    first | (refine hK _ ?_; clear hK K) | (apply Exists.intro; refine ⟨fun x => ?_, hK _ ?_⟩; ((first | (go_at_call 76; with_reducible exact M1.out _) | (go_at_call 76; with_reducible exact M2.out _))); clear hK K)
    refine Mix.take_ex (_) 3 rfl (by kernel_rfl) (by kernel_rfl) (by kernel_rfl) (by kernel_rfl) (fun K hK => ?_)
    go_simp
    first | (refine hK _ ?_; clear hK K) | (apply Exists.intro; refine ⟨fun x => ?_, hK _ ?_⟩; ((first | (go_at_call 76; with_reducible exact M1.out _) | (go_at_call 76; with_reducible exact M2.out _))); clear hK K)
    refine Mix.take_ex (_) 4 rfl (by kernel_rfl) (by kernel_rfl) (by kernel_rfl) (by kernel_rfl) (fun K hK => ?_)
    go_simp
    first | (refine hK _ ?_; clear hK K) | (apply Exists.intro; refine ⟨fun x => ?_, hK _ ?_⟩; ((first | (go_at_call 76; with_reducible exact M1.out _) | (go_at_call 76; with_reducible exact M2.out _))); clear hK K)
    refine Mix.take_ex (_) 5 rfl (by kernel_rfl) (by kernel_rfl) (by kernel_rfl) (by kernel_rfl) (fun K hK => ?_)
    go_simp
    first | (refine hK _ ?_; clear hK K) | (apply Exists.intro; refine ⟨fun x => ?_, hK _ ?_⟩; ((first | (go_at_call 76; with_reducible exact M1.out _) | (go_at_call 76; with_reducible exact M2.out _))); clear hK K)
    refine Mix.take_ex (_) 6 rfl (by kernel_rfl) (by kernel_rfl) (by kernel_rfl) (by kernel_rfl) (fun K hK => ?_)
    go_simp
    first | (refine hK _ ?_; clear hK K) | (apply Exists.intro; refine ⟨fun x => ?_, hK _ ?_⟩; ((first | (go_at_call 76; with_reducible exact M1.out _) | (go_at_call 76; with_reducible exact M2.out _))); clear hK K)
    refine Mix.take_ex (_) 7 rfl (by kernel_rfl) (by kernel_rfl) (by kernel_rfl) (by kernel_rfl) (fun K hK => ?_)
    go_simp
    first | (refine hK _ ?_; clear hK K) | (apply Exists.intro; refine ⟨fun x => ?_, hK _ ?_⟩; ((first | (go_at_call 76; with_reducible exact M1.out _) | (go_at_call 76; with_reducible exact M2.out _))); clear hK K)
    refine Mix.all (rs := [8, 9]) (by kernel_rfl) (by simp) (Mix.over_of hb1) ?_
    intro i hi w2 hb2 hC2
    have hs2 : w1.heap.size + 0 ≤ w2.heap.size := (by have h := hb2.size; first | omega | (simp at h; omega))
    have hb1_2 := bel hb1 hb2 (by (repeat (first | assumption | exact Below.refl _ _ | refine ba ?_ _ | refine bd ?_ | refine bdn ?_ _ | refine bs ?_ (by first | omega | (simp; done) | (simp; omega)) _ | refine bt ?_ (by assumption))))
    clear hz1_0 hz1_1 hc1 hf1
    obtain ⟨hc1_2, hf1_2, hl1_2⟩ := bcell hb1_2
    clear hl1_2
    have hz2_0 : w.heap.size < w2.heap.size := (by omega)
    have hz2_1 : w.heap.size + 1 < w2.heap.size := (by omega)
    obtain ⟨hc2, hf2, hl2⟩ := bcell hb2
    clear hl2
    simp only [List.mem_cons, List.not_mem_nil, or_false] at hi
    rcases hi with rfl | rfl
    · refine Mix.op rfl (by kernel_rfl) ?_
      go_simp
      refine Mix.all (rs := [9]) (by kernel_rfl) (by simp) (Mix.over_of (by (repeat (first | assumption | exact Below.refl _ _ | refine ba ?_ _ | refine bd ?_ | refine bdn ?_ _ | refine bs ?_ (by first | omega | (simp; done) | (simp; omega)) _ | refine bt ?_ (by assumption))))) ?_
      intro i3 hi3 w3 hb3 hC3
      clear hC3
      have hs3 : w2.heap.size + 1 ≤ w3.heap.size := (by have h := hb3.size; first | omega | (simp at h; omega))
      have hb1_3 := bel hb1_2 hb3 (by (repeat (first | assumption | exact Below.refl _ _ | refine ba ?_ _ | refine bd ?_ | refine bdn ?_ _ | refine bs ?_ (by first | omega | (simp; done) | (simp; omega)) _ | refine bt ?_ (by assumption))))
      have hb2_3 := bel hb2 hb3 (by (repeat (first | assumption | exact Below.refl _ _ | refine ba ?_ _ | refine bd ?_ | refine bdn ?_ _ | refine bs ?_ (by first | omega | (simp; done) | (simp; omega)) _ | refine bt ?_ (by assumption))))
      clear hc1_2 hf1_2 hz2_0 hz2_1 hc2 hf2
      obtain ⟨hc1_3, hf1_3, hl1_3⟩ := bcell hb1_3
      clear hl1_3
      have hz3_0 : w.heap.size < w3.heap.size := (by omega)
      have hz3_1 : w.heap.size + 1 < w3.heap.size := (by omega)
      have hz3_2 : w2.heap.size < w3.heap.size := (by omega)
      obtain ⟨hc3, hf3, hl3⟩ := bcell hb3
      clear hl3
      simp only [List.mem_cons, List.not_mem_nil, or_false] at hi3
      subst hi3
      refine Mix.op rfl (by kernel_rfl) ?_
      go_simp
      refine Mix.all (rs := [10]) (by kernel_rfl) (by simp) (Mix.over_of (by (repeat (first | assumption | exact Below.refl _ _ | refine ba ?_ _ | refine bd ?_ | refine bdn ?_ _ | refine bs ?_ (by first | omega | (simp; done) | (simp; omega)) _ | refine bt ?_ (by assumption))))) ?_
      intro i4 hi4 w4 hb4 hC4
      clear hC4
      have hs4 : w3.heap.size + 1 ≤ w4.heap.size := (by have h := hb4.size; first | omega | (simp at h; omega))
      have hb1_4 := bel hb1_3 hb4 (by (repeat (first | assumption | exact Below.refl _ _ | refine ba ?_ _ | refine bd ?_ | refine bdn ?_ _ | refine bs ?_ (by first | omega | (simp; done) | (simp; omega)) _ | refine bt ?_ (by assumption))))
      have hb2_4 := bel hb2_3 hb4 (by (repeat (first | assumption | exact Below.refl _ _ | refine ba ?_ _ | refine bd ?_ | refine bdn ?_ _ | refine bs ?_ (by first | omega | (simp; done) | (simp; omega)) _ | refine bt ?_ (by assumption))))
      have hb3_4 := bel hb3 hb4 (by (repeat (first | assumption | exact Below.refl _ _ | refine ba ?_ _ | refine bd ?_ | refine bdn ?_ _ | refine bs ?_ (by first | omega | (simp; done) | (simp; omega)) _ | refine bt ?_ (by assumption))))
      clear hc1_3 hf1_3 hz3_0 hz3_1 hz3_2 hc3 hf3
      obtain ⟨hc1_4, hf1_4, hl1_4⟩ := bcell hb1_4
      clear hl1_4
      obtain ⟨hc3_4, hf3_4, hl3_4⟩ := bcell hb3_4
      clear hl3_4
      have hz4_0 : w.heap.size < w4.heap.size := (by omega)
      have hz4_1 : w.heap.size + 1 < w4.heap.size := (by omega)
      have hz4_2 : w2.heap.size < w4.heap.size := (by omega)
      have hz4_3 : w3.heap.size < w4.heap.size := (by omega)
      obtain ⟨hc4, hf4, hl4⟩ := bcell hb4
      clear hl4
      simp only [List.mem_cons, List.not_mem_nil, or_false] at hi4
      subst hi4
      refine Mix.op rfl (by kernel_rfl) ?_
      go_simp
      refine Mix.all (rs := [11]) (by kernel_rfl) (by simp) (Mix.over_of (by (repeat (first | assumption | exact Below.refl _ _ | refine ba ?_ _ | refine bd ?_ | refine bdn ?_ _ | refine bs ?_ (by first | omega | (simp; done) | (simp; omega)) _ | refine bt ?_ (by assumption))))) ?_
      intro i5 hi5 w5 hb5 hC5
      clear hC5
      have hs5 : w4.heap.size + 0 ≤ w5.heap.size := (by have h := hb5.size; first | omega | (simp at h; omega))
      have hz5_0 : w.heap.size < w5.heap.size := (by omega)
      have hz5_1 : w.heap.size + 1 < w5.heap.size := (by omega)
      have hz5_2 : w2.heap.size < w5.heap.size := (by omega)
      have hz5_3 : w3.heap.size < w5.heap.size := (by omega)
      have hy5_0_0 : w.heap.size ≤ w4.heap.size := (by omega)
      have hy5_1_0 : w.heap.size + 1 ≤ w4.heap.size := (by omega)
      have hy5_2_0 : w2.heap.size ≤ w4.heap.size := (by omega)
      have hy5_3_0 : w3.heap.size ≤ w4.heap.size := (by omega)
      obtain ⟨hc5, hf5, hl5⟩ := bcell hb5
      clear hl5
      simp only [List.mem_cons, List.not_mem_nil, or_false] at hi5
      subst hi5
      refine Mix.op rfl (by kernel_rfl) ?_
      go_simp
      refine Mix.done (by kernel_rfl) (Mix.over_of (by (repeat (first | assumption | exact Below.refl _ _ | refine ba ?_ _ | refine bd ?_ | refine bdn ?_ _ | refine bs ?_ (by first | omega | (simp; done) | (simp; omega)) _ | refine bt ?_ (by assumption))))) ?_
      intro w6 hb6
      have hs6 : w5.heap.size + 0 ≤ w6.heap.size := (by have h := hb6.size; first | omega | (simp at h; omega))
      have hz6_0 : w.heap.size < w6.heap.size := (by omega)
      have hz6_1 : w.heap.size + 1 < w6.heap.size := (by omega)
      have hz6_2 : w2.heap.size < w6.heap.size := (by omega)
      have hz6_3 : w3.heap.size < w6.heap.size := (by omega)
      have hy6_0_0 : w.heap.size ≤ w5.heap.size := (by omega)
      have hy6_1_0 : w.heap.size + 1 ≤ w5.heap.size := (by omega)
      have hy6_2_0 : w2.heap.size ≤ w5.heap.size := (by omega)
      have hy6_3_0 : w3.heap.size ≤ w5.heap.size := (by omega)
      obtain ⟨hc6, hf6, hl6⟩ := bcell hb6
      clear hl6
      go_wp2_with (first | simp only [Tryd.bits_Add64_0 _ _ k1 k2])
      refine bodyPost_ret (v := .tuple #[W2 ((p1 + q0) % 18446744073709551616) p0, .bool false]) (by simp [results, Tryd.results90, go_sem, *]) rfl ⟨by simp [*], ?_⟩
      (repeat (first | assumption | exact Below.refl _ _ | refine ba ?_ _ | refine bd ?_ | refine bdn ?_ _ | refine bs ?_ (by first | omega | (simp; done) | (simp; omega)) _ | refine bt ?_ (by assumption)))
    · refine Mix.op rfl (by kernel_rfl) ?_
      go_simp
      refine Mix.all (rs := [8]) (by kernel_rfl) (by simp) (Mix.over_of (by (repeat (first | assumption | exact Below.refl _ _ | refine ba ?_ _ | refine bd ?_ | refine bdn ?_ _ | refine bs ?_ (by first | omega | (simp; done) | (simp; omega)) _ | refine bt ?_ (by assumption))))) ?_
      intro i3 hi3 w3 hb3 hC3
      clear hC3
      have hs3 : w2.heap.size + 1 ≤ w3.heap.size := (by have h := hb3.size; first | omega | (simp at h; omega))
      have hb1_3 := bel hb1_2 hb3 (by (repeat (first | assumption | exact Below.refl _ _ | refine ba ?_ _ | refine bd ?_ | refine bdn ?_ _ | refine bs ?_ (by first | omega | (simp; done) | (simp; omega)) _ | refine bt ?_ (by assumption))))
      have hb2_3 := bel hb2 hb3 (by (repeat (first | assumption | exact Below.refl _ _ | refine ba ?_ _ | refine bd ?_ | refine bdn ?_ _ | refine bs ?_ (by first | omega | (simp; done) | (simp; omega)) _ | refine bt ?_ (by assumption))))
      clear hc1_2 hf1_2 hz2_0 hz2_1 hc2 hf2
      obtain ⟨hc1_3, hf1_3, hl1_3⟩ := bcell hb1_3
      clear hl1_3
      have hz3_0 : w.heap.size < w3.heap.size := (by omega)
      have hz3_1 : w.heap.size + 1 < w3.heap.size := (by omega)
      have hz3_2 : w2.heap.size < w3.heap.size := (by omega)
      obtain ⟨hc3, hf3, hl3⟩ := bcell hb3
      clear hl3
      simp only [List.mem_cons, List.not_mem_nil, or_false] at hi3
      subst hi3
      refine Mix.op rfl (by kernel_rfl) ?_
      go_simp
      refine Mix.all (rs := [10]) (by kernel_rfl) (by simp) (Mix.over_of (by (repeat (first | assumption | exact Below.refl _ _ | refine ba ?_ _ | refine bd ?_ | refine bdn ?_ _ | refine bs ?_ (by first | omega | (simp; done) | (simp; omega)) _ | refine bt ?_ (by assumption))))) ?_
      intro i4 hi4 w4 hb4 hC4
      clear hC4
      have hs4 : w3.heap.size + 1 ≤ w4.heap.size := (by have h := hb4.size; first | omega | (simp at h; omega))
      have hb1_4 := bel hb1_3 hb4 (by (repeat (first | assumption | exact Below.refl _ _ | refine ba ?_ _ | refine bd ?_ | refine bdn ?_ _ | refine bs ?_ (by first | omega | (simp; done) | (simp; omega)) _ | refine bt ?_ (by assumption))))
      have hb2_4 := bel hb2_3 hb4 (by (repeat (first | assumption | exact Below.refl _ _ | refine ba ?_ _ | refine bd ?_ | refine bdn ?_ _ | refine bs ?_ (by first | omega | (simp; done) | (simp; omega)) _ | refine bt ?_ (by assumption))))
      have hb3_4 := bel hb3 hb4 (by (repeat (first | assumption | exact Below.refl _ _ | refine ba ?_ _ | refine bd ?_ | refine bdn ?_ _ | refine bs ?_ (by first | omega | (simp; done) | (simp; omega)) _ | refine bt ?_ (by assumption))))
      clear hc1_3 hf1_3 hz3_0 hz3_1 hz3_2 hc3 hf3
      obtain ⟨hc1_4, hf1_4, hl1_4⟩ := bcell hb1_4
      clear hl1_4
      obtain ⟨hc3_4, hf3_4, hl3_4⟩ := bcell hb3_4
      clear hl3_4
      have hz4_0 : w.heap.size < w4.heap.size := (by omega)
      have hz4_1 : w.heap.size + 1 < w4.heap.size := (by omega)
      have hz4_2 : w2.heap.size < w4.heap.size := (by omega)
      have hz4_3 : w3.heap.size < w4.heap.size := (by omega)
      obtain ⟨hc4, hf4, hl4⟩ := bcell hb4
      clear hl4
      simp only [List.mem_cons, List.not_mem_nil, or_false] at hi4
      subst hi4
      refine Mix.op rfl (by kernel_rfl) ?_
      go_simp
      refine Mix.all (rs := [11]) (by kernel_rfl) (by simp) (Mix.over_of (by (repeat (first | assumption | exact Below.refl _ _ | refine ba ?_ _ | refine bd ?_ | refine bdn ?_ _ | refine bs ?_ (by first | omega | (simp; done) | (simp; omega)) _ | refine bt ?_ (by assumption))))) ?_
      intro i5 hi5 w5 hb5 hC5
      clear hC5
      have hs5 : w4.heap.size + 0 ≤ w5.heap.size := (by have h := hb5.size; first | omega | (simp at h; omega))
      have hz5_0 : w.heap.size < w5.heap.size := (by omega)
      have hz5_1 : w.heap.size + 1 < w5.heap.size := (by omega)
      have hz5_2 : w2.heap.size < w5.heap.size := (by omega)
      have hz5_3 : w3.heap.size < w5.heap.size := (by omega)
      have hy5_0_0 : w.heap.size ≤ w4.heap.size := (by omega)
      have hy5_1_0 : w.heap.size + 1 ≤ w4.heap.size := (by omega)
      have hy5_2_0 : w2.heap.size ≤ w4.heap.size := (by omega)
      have hy5_3_0 : w3.heap.size ≤ w4.heap.size := (by omega)
      obtain ⟨hc5, hf5, hl5⟩ := bcell hb5
      clear hl5
      simp only [List.mem_cons, List.not_mem_nil, or_false] at hi5
      subst hi5
      refine Mix.op rfl (by kernel_rfl) ?_
      go_simp
      refine Mix.done (by kernel_rfl) (Mix.over_of (by (repeat (first | assumption | exact Below.refl _ _ | refine ba ?_ _ | refine bd ?_ | refine bdn ?_ _ | refine bs ?_ (by first | omega | (simp; done) | (simp; omega)) _ | refine bt ?_ (by assumption))))) ?_
      intro w6 hb6
      have hs6 : w5.heap.size + 0 ≤ w6.heap.size := (by have h := hb6.size; first | omega | (simp at h; omega))
      have hz6_0 : w.heap.size < w6.heap.size := (by omega)
      have hz6_1 : w.heap.size + 1 < w6.heap.size := (by omega)
      have hz6_2 : w2.heap.size < w6.heap.size := (by omega)
      have hz6_3 : w3.heap.size < w6.heap.size := (by omega)
      have hy6_0_0 : w.heap.size ≤ w5.heap.size := (by omega)
      have hy6_1_0 : w.heap.size + 1 ≤ w5.heap.size := (by omega)
      have hy6_2_0 : w2.heap.size ≤ w5.heap.size := (by omega)
      have hy6_3_0 : w3.heap.size ≤ w5.heap.size := (by omega)
      obtain ⟨hc6, hf6, hl6⟩ := bcell hb6
      clear hl6
      go_wp2_with (first | simp only [Tryd.bits_Add64_0 _ _ k1 k2])
      refine bodyPost_ret (v := .tuple #[W2 ((p1 + q0) % 18446744073709551616) p0, .bool false]) (by simp [results, Tryd.results90, go_sem, *]) rfl ⟨by simp [*], ?_⟩
      (repeat (first | assumption | exact Below.refl _ _ | refine ba ?_ _ | refine bd ?_ | refine bdn ?_ _ | refine bs ?_ (by first | omega | (simp; done) | (simp; omega)) _ | refine bt ?_ (by assumption)))
end Go.Proofs.YtfnfolpdbbnnlaaDoor
