/- wide.Parse at every text: the number whose text it is, or none. -/
import Derived.Test.YtojfkpmdnhkanaaParse
namespace Go.Proofs.Ytojfkpmdnhkanaa
open Go.RowKit
attribute [local go_sem] ext_cell ext_frozen Mix.calmUpon Mix.mUpon
theorem parse_empty : Pure Try.prog 31 #[.string ⟨#[]⟩] (.tuple #[W2 0 0, .bool false]) := by
  intro w
  go_enter Try.func31, Try.ntmps31
  go_wp2
  refine bodyPost_ret (v := .tuple #[W2 0 0, .bool false]) (by simp [results, Try.results31, go_sem, *]) rfl ⟨rfl, ?_⟩
  (repeat (first | assumption | exact Below.refl _ _ | refine ba ?_ _ | refine bd ?_ | refine bdn ?_ _ | refine bs ?_ (by first | omega | (simp; done) | (simp; omega)) _ | refine bt ?_ (by assumption)))
theorem parse_long (s : ByteArray) (h : 39 < s.size) (hne : ¬ s.toList = []) (hs : s.size ≤ 200) : Pure Try.prog 31 #[.string s] (.tuple #[W2 0 0, .bool false]) := by
  intro w
  have h' : 39 < (s.size : Int) := by omega
  have h2' : (s.size : Int) ≤ 200 := by omega
  have he : s.toList.isEmpty = false := by cases hc : s.toList <;> simp_all
  go_enter Try.func31, Try.ntmps31
  go_wp2
  refine bodyPost_ret (v := .tuple #[W2 0 0, .bool false]) (by simp [results, Try.results31, go_sem, *]) rfl ⟨rfl, ?_⟩
  (repeat (first | assumption | exact Below.refl _ _ | refine ba ?_ _ | refine bd ?_ | refine bdn ?_ _ | refine bs ?_ (by first | omega | (simp; done) | (simp; omega)) _ | refine bt ?_ (by assumption)))
theorem parse_lead (s : ByteArray) (h : 1 < s.size) (hs : s.size ≤ 39) (hne : ¬ s.toList = []) (h0 : (s[0].toNat : Int) = 48) (hn : ¬ s = ⟨#[48]⟩) : Pure Try.prog 31 #[.string s] (.tuple #[W2 0 0, .bool false]) := by
  intro w
  have h' : 1 < (s.size : Int) := by omega
  have h2' : (s.size : Int) ≤ 39 := by omega
  have he : s.toList.isEmpty = false := by cases hc : s.toList <;> simp_all
  have h00 : 0 < s.size := by omega
  have hx : (!s.toList == [48]) = true := by
    have : ¬ s.toList = [48] := fun e => hn (by
      have e2 : s.data.toList = [48] := by rw [← e, ByteArray.toList_eq]
      cases s with | mk d => simp at e2; congr 1; exact Array.toList_inj.1 (by simpa using e2))
    simpa using this
  go_enter Try.func31, Try.ntmps31
  go_wp2
  refine bodyPost_ret (v := .tuple #[W2 0 0, .bool false]) (by simp [results, Try.results31, go_sem, *]) rfl ⟨rfl, ?_⟩
  (repeat (first | assumption | exact Below.refl _ _ | refine ba ?_ _ | refine bd ?_ | refine bdn ?_ _ | refine bs ?_ (by first | omega | (simp; done) | (simp; omega)) _ | refine bt ?_ (by assumption)))
theorem kz_times : Pure Try.prog 21 #[W2 0 0, u 10] (.tuple #[W2 0 0, .bool true]) := times_V 0 10 (wd_small 0 (by decide) (by decide)) ⟨by decide, by decide⟩
theorem kz_of : Pure Try.prog 25 #[u (IntKind.u64.wrap (IntKind.u8.wrap 0))] (W2 0 0) := by
  rw [show IntKind.u64.wrap (IntKind.u8.wrap 0) = 0 by decide]
  exact of_V 0 ⟨by decide, by decide⟩
theorem kz_add : Pure Try.prog 11 #[W2 0 0, W2 0 0] (.tuple #[W2 0 0, .bool true]) := add_V 0 0 (wd_small 0 (by decide) (by decide)) (wd_small 0 (by decide) (by decide))
set_option maxHeartbeats 4000000 in
theorem parse_zero : Pure Try.prog 31 #[.string ⟨#[48]⟩] (.tuple #[W2 0 0, .bool true]) := by
  intro w
  have hi : ∀ h, ((⟨#[48]⟩ : ByteArray)[0]'h).toNat = 48 := fun _ => rfl
  go_enter Try.func31, Try.ntmps31
  go_wp2_with fail
  refine wp_loop_rounds 2 ?_
  rw [rounds_succ]
  go_wp2_with fail
  (with_reducible refine (kz_times _).mono ?_)
  rintro e w1 ⟨rfl, hb1⟩
  have hs1 : w.heap.size + 2 ≤ w1.heap.size := (by have h := hb1.size; first | omega | (simp at h; omega))
  have hz1_0 : w.heap.size < w1.heap.size := (by omega)
  have hz1_1 : w.heap.size + 1 < w1.heap.size := (by omega)
  obtain ⟨hc1, hf1, hl1⟩ := bcell hb1
  clear hl1
  go_wp2_with fail
  refine Mix.region0 (by kernel_rfl) ?_
  intro w2 hb2
  have hs2 : w1.heap.size + 1 ≤ w2.heap.size := (by have h := hb2.size; first | omega | (simp at h; omega))
  have hb1_2 := bel hb1 hb2 (by (repeat (first | assumption | exact Below.refl _ _ | refine ba ?_ _ | refine bd ?_ | refine bdn ?_ _ | refine bs ?_ (by first | omega | (simp; done) | (simp; omega)) _ | refine bt ?_ (by assumption))))
  clear hz1_0 hz1_1 hc1 hf1
  obtain ⟨hc1_2, hf1_2, hl1_2⟩ := bcell hb1_2
  clear hl1_2
  have hz2_0 : w.heap.size < w2.heap.size := (by omega)
  have hz2_1 : w.heap.size + 1 < w2.heap.size := (by omega)
  have hz2_2 : w1.heap.size < w2.heap.size := (by omega)
  obtain ⟨hc2, hf2, hl2⟩ := bcell hb2
  clear hl2
  refine Mix.take_ex (_) 0 rfl (by kernel_rfl) (by kernel_rfl) (by kernel_rfl) (by kernel_rfl) (fun K hK => ?_)
  go_simp
  first | (refine hK _ ?_; clear hK K) | (apply Exists.intro; refine ⟨fun x => ?_, hK _ ?_⟩; (fail); clear hK K)
  refine Mix.take_ex (_) 1 rfl (by kernel_rfl) (by kernel_rfl) (by kernel_rfl) (by kernel_rfl) (fun K hK => ?_)
  go_simp
  first | (refine hK _ ?_; clear hK K) | (apply Exists.intro; refine ⟨fun x => ?_, hK _ ?_⟩; (fail); clear hK K)
  refine Mix.take_ex (_) 2 rfl (by kernel_rfl) (by kernel_rfl) (by kernel_rfl) (by kernel_rfl) (fun K hK => ?_)
  go_simp
  first | (refine hK _ ?_; clear hK K) | (apply Exists.intro; refine ⟨fun x => ?_, hK _ ?_⟩; (fail); clear hK K)
  refine Mix.take_ex (_) 3 rfl (by kernel_rfl) (by kernel_rfl) (by kernel_rfl) (by kernel_rfl) (fun K hK => ?_)
  go_simp
  first | (refine hK _ ?_; clear hK K) | (apply Exists.intro; refine ⟨fun x => ?_, hK _ ?_⟩; (fail); clear hK K)
  refine Mix.take_ex (_) 4 rfl (by kernel_rfl) (by kernel_rfl) (by kernel_rfl) (by kernel_rfl) (fun K hK => ?_)
  go_simp
  first | (refine hK _ ?_; clear hK K) | (apply Exists.intro; refine ⟨fun x => ?_, hK _ ?_⟩; (fail); clear hK K)
  refine Mix.take_ex (_) 5 rfl (by kernel_rfl) (by kernel_rfl) (by kernel_rfl) (by kernel_rfl) (fun K hK => ?_)
  go_simp
  first | (refine hK _ ?_; clear hK K) | (apply Exists.intro; refine ⟨fun x => ?_, hK _ ?_⟩; (fail); clear hK K)
  refine Mix.take_ex (_) 6 rfl (by kernel_rfl) (by kernel_rfl) (by kernel_rfl) (by kernel_rfl) (fun K hK => ?_)
  go_simp
  first | (refine hK _ ?_; clear hK K) | (apply Exists.intro; refine ⟨fun x => ?_, hK _ ?_⟩; ((first | (go_at_call 25; with_reducible exact kz_of _) | (go_at_call 11; with_reducible exact kz_add _))); clear hK K)
  refine Mix.take_ex (_) 7 rfl (by kernel_rfl) (by kernel_rfl) (by kernel_rfl) (by kernel_rfl) (fun K hK => ?_)
  go_simp
  first | (refine hK _ ?_; clear hK K) | (apply Exists.intro; refine ⟨fun x => ?_, hK _ ?_⟩; ((first | (go_at_call 25; with_reducible exact kz_of _) | (go_at_call 11; with_reducible exact kz_add _))); clear hK K)
  refine Mix.take_ex (_) 8 rfl (by kernel_rfl) (by kernel_rfl) (by kernel_rfl) (by kernel_rfl) (fun K hK => ?_)
  go_simp
  first | (refine hK _ ?_; clear hK K) | (apply Exists.intro; refine ⟨fun x => ?_, hK _ ?_⟩; (fail); clear hK K)
  refine Mix.take_ex (_) 9 rfl (by kernel_rfl) (by kernel_rfl) (by kernel_rfl) (by kernel_rfl) (fun K hK => ?_)
  go_simp
  first | (refine hK _ ?_; clear hK K) | (apply Exists.intro; refine ⟨fun x => ?_, hK _ ?_⟩; (fail); clear hK K)
  refine Mix.take_ex (_) 10 rfl (by kernel_rfl) (by kernel_rfl) (by kernel_rfl) (by kernel_rfl) (fun K hK => ?_)
  go_simp
  first | (refine hK _ ?_; clear hK K) | (apply Exists.intro; refine ⟨fun x => ?_, hK _ ?_⟩; (fail); clear hK K)
  refine Mix.all (rs := [11]) (by kernel_rfl) (by simp) (Mix.over_of (by (repeat (first | assumption | exact Below.refl _ _ | refine ba ?_ _ | refine bd ?_ | refine bdn ?_ _ | refine bs ?_ (by first | omega | (simp; done) | (simp; omega)) _ | refine bt ?_ (by assumption))))) ?_
  intro i3 hi3 w3 hb3 hC3
  clear hC3
  have hs3 : w2.heap.size + 0 ≤ w3.heap.size := (by have h := hb3.size; first | omega | (simp at h; omega))
  have hb1_3 := bel hb1_2 hb3 (by (repeat (first | assumption | exact Below.refl _ _ | refine ba ?_ _ | refine bd ?_ | refine bdn ?_ _ | refine bs ?_ (by first | omega | (simp; done) | (simp; omega)) _ | refine bt ?_ (by assumption))))
  have hb2_3 := bel hb2 hb3 (by (repeat (first | assumption | exact Below.refl _ _ | refine ba ?_ _ | refine bd ?_ | refine bdn ?_ _ | refine bs ?_ (by first | omega | (simp; done) | (simp; omega)) _ | refine bt ?_ (by assumption))))
  clear hc1_2 hf1_2 hz2_0 hz2_1 hz2_2 hc2 hf2
  obtain ⟨hc1_3, hf1_3, hl1_3⟩ := bcell hb1_3
  clear hl1_3
  obtain ⟨hc2_3, hf2_3, hl2_3⟩ := bcell hb2_3
  clear hl2_3
  have hz3_0 : w.heap.size < w3.heap.size := (by omega)
  have hz3_1 : w.heap.size + 1 < w3.heap.size := (by omega)
  have hz3_2 : w1.heap.size < w3.heap.size := (by omega)
  obtain ⟨hc3, hf3, hl3⟩ := bcell hb3
  clear hl3
  simp only [List.mem_cons, List.not_mem_nil, or_false] at hi3
  subst hi3
  refine Mix.op rfl (by kernel_rfl) ?_
  go_simp
  refine Mix.all (rs := [12]) (by kernel_rfl) (by simp) (Mix.over_of (by (repeat (first | assumption | exact Below.refl _ _ | refine ba ?_ _ | refine bd ?_ | refine bdn ?_ _ | refine bs ?_ (by first | omega | (simp; done) | (simp; omega)) _ | refine bt ?_ (by assumption))))) ?_
  intro i4 hi4 w4 hb4 hC4
  clear hC4
  have hs4 : w3.heap.size + 1 ≤ w4.heap.size := (by have h := hb4.size; first | omega | (simp at h; omega))
  have hb1_4 := bel hb1_3 hb4 (by (repeat (first | assumption | exact Below.refl _ _ | refine ba ?_ _ | refine bd ?_ | refine bdn ?_ _ | refine bs ?_ (by first | omega | (simp; done) | (simp; omega)) _ | refine bt ?_ (by assumption))))
  have hb2_4 := bel hb2_3 hb4 (by (repeat (first | assumption | exact Below.refl _ _ | refine ba ?_ _ | refine bd ?_ | refine bdn ?_ _ | refine bs ?_ (by first | omega | (simp; done) | (simp; omega)) _ | refine bt ?_ (by assumption))))
  have hb3_4 := bel hb3 hb4 (by (repeat (first | assumption | exact Below.refl _ _ | refine ba ?_ _ | refine bd ?_ | refine bdn ?_ _ | refine bs ?_ (by first | omega | (simp; done) | (simp; omega)) _ | refine bt ?_ (by assumption))))
  clear hc1_3 hf1_3 hc2_3 hf2_3 hz3_0 hz3_1 hz3_2 hc3 hf3
  obtain ⟨hc1_4, hf1_4, hl1_4⟩ := bcell hb1_4
  clear hl1_4
  obtain ⟨hc2_4, hf2_4, hl2_4⟩ := bcell hb2_4
  clear hl2_4
  have hz4_0 : w.heap.size < w4.heap.size := (by omega)
  have hz4_1 : w.heap.size + 1 < w4.heap.size := (by omega)
  have hz4_2 : w1.heap.size < w4.heap.size := (by omega)
  have hz4_3 : w3.heap.size < w4.heap.size := (by omega)
  obtain ⟨hc4, hf4, hl4⟩ := bcell hb4
  clear hl4
  simp only [List.mem_cons, List.not_mem_nil, or_false] at hi4
  subst hi4
  refine Mix.op rfl (by kernel_rfl) ?_
  go_simp
  have e4 : w4.cell? ⟨w.heap.size, 0, none⟩ = some (u 0) := by simp [hc1_4, go_sem]
  have e5 : w4.cell? ⟨w.heap.size, 1, none⟩ = some (u 0) := by simp [hc1_4, go_sem]
  refine Mix.all (rs := [13]) (by kernel_rfl) (by simp) (Mix.over_of (by (repeat (first | assumption | exact Below.refl _ _ | refine ba ?_ _ | refine bd ?_ | refine bdn ?_ _ | refine bs ?_ (by first | omega | (simp; done) | (simp; omega)) _ | refine bt ?_ (by assumption))))) ?_
  intro i5 hi5 w5 hb5 hC5
  clear hC5
  have hs5 : w4.heap.size + 0 ≤ w5.heap.size := (by have h := hb5.size; first | omega | (simp at h; omega))
  have hz5_0 : w.heap.size < w5.heap.size := (by omega)
  have hz5_1 : w.heap.size + 1 < w5.heap.size := (by omega)
  have hz5_2 : w1.heap.size < w5.heap.size := (by omega)
  have hz5_3 : w3.heap.size < w5.heap.size := (by omega)
  have hy5_0_0 : w.heap.size ≤ w4.heap.size := (by omega)
  have hy5_1_0 : w.heap.size + 1 ≤ w4.heap.size := (by omega)
  have hy5_2_0 : w1.heap.size ≤ w4.heap.size := (by omega)
  have hy5_3_0 : w3.heap.size ≤ w4.heap.size := (by omega)
  obtain ⟨hc5, hf5, hl5⟩ := bcell hb5
  clear hl5
  simp only [List.mem_cons, List.not_mem_nil, or_false] at hi5
  subst hi5
  refine Mix.op rfl (by kernel_rfl) ?_
  go_simp
  refine Mix.done (by kernel_rfl) (Mix.over_of (by (repeat (first | assumption | exact Below.refl _ _ | refine ba ?_ _ | refine bd ?_ | refine bdn ?_ _ | refine bs ?_ (by first | omega | (simp; done) | (simp; omega)) _ | refine bt ?_ (by assumption))))) ?_
  intro w6 hb6
  have hs6 : w5.heap.size + 0 ≤ w6.heap.size := (by have h := hb6.size; first | omega | (simp at h; omega))
  have hb5_6 := bel hb5 hb6 (by (repeat (first | assumption | exact Below.refl _ _ | refine ba ?_ _ | refine bd ?_ | refine bdn ?_ _ | refine bs ?_ (by first | omega | (simp; done) | (simp; omega)) _ | refine bt ?_ (by assumption))))
  obtain ⟨hc5_6, hf5_6, hl5_6⟩ := bcell hb5_6
  clear hl5_6
  have hz6_0 : w.heap.size < w6.heap.size := (by omega)
  have hz6_1 : w.heap.size + 1 < w6.heap.size := (by omega)
  have hz6_2 : w1.heap.size < w6.heap.size := (by omega)
  have hz6_3 : w3.heap.size < w6.heap.size := (by omega)
  obtain ⟨hc6, hf6, hl6⟩ := bcell hb6
  clear hl6
  go_wp2_with fail
  rw [rounds_succ]
  go_wp2
  refine bodyPost_ret (v := .tuple #[W2 0 0, .bool true]) (by simp [results, Try.results31, go_sem, *]) rfl ⟨rfl, ?_⟩
  (repeat (first | assumption | exact Below.refl _ _ | refine ba ?_ _ | refine bd ?_ | refine bdn ?_ _ | refine bs ?_ (by first | omega | (simp; done) | (simp; omega)) _ | refine bt ?_ (by assumption)))
end Go.Proofs.Ytojfkpmdnhkanaa
