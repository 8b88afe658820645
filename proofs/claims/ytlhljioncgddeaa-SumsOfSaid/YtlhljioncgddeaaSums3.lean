/- Contracts of sums.Dominant and mancipleref06.Dominant. -/
import Derived.Test.YtlhljioncgddeaaSums2
import Derived.RegionTactic
import Derived.ChangeAlike
namespace Go.Proofs.Ytlhljioncgddeaa
open Go.RowKit
attribute [local go_sem] ext_cell ext_frozen Mix.calmUpon Mix.mUpon
set_option maxRecDepth 100000 in
set_option maxHeartbeats 2000000 in
theorem dominant_no1 (a t : Nat → Int) (ha : ¬ SOk a) : Pure Try.prog 12 #[S4 a, S4 t] (.tuple #[.int .i64 (-1), F2 0 1]) := by
  intro w
  have HA := sumsright a
  rw [decide_eq_false ha] at HA
  have HA := Lib.hid HA
  clear ha
  go_enter Try.func12, Try.ntmps12
  go_wp2_with fail
  (with_reducible refine (HA.out _).mono ?_)
  rintro e w1 ⟨rfl, hb1⟩
  have hs1 : w.heap.size + 4 ≤ w1.heap.size := (by have h := hb1.size; first | omega | (simp at h; omega))
  have hz1_0 : w.heap.size < w1.heap.size := (by omega)
  have hz1_1 : w.heap.size + 1 < w1.heap.size := (by omega)
  have hz1_2 : w.heap.size + 2 < w1.heap.size := (by omega)
  have hx1_2 : w.heap.size + 1 + 1 < w1.heap.size := (by omega)
  have hz1_3 : w.heap.size + 3 < w1.heap.size := (by omega)
  have hx1_3 : w.heap.size + 1 + 1 + 1 < w1.heap.size := (by omega)
  obtain ⟨hc1, hf1, hl1⟩ := bcell hb1
  clear hl1
  go_wp2_with fail
  go_region
  go_wp2
  refine bodyPost_ret (v := .tuple #[.int .i64 (-1), F2 0 1]) (by simp [results, Try.results12, go_sem, *]) rfl ⟨rfl, ?_⟩
  (repeat (first | assumption | exact Below.refl _ _ | refine ba ?_ _ | refine bd ?_ | refine bdn ?_ _ | refine bs ?_ (by first | omega | (simp; done) | (simp; omega)) _ | refine bt ?_ (by assumption)))
set_option maxRecDepth 100000 in
set_option maxHeartbeats 2000000 in
theorem dominant_no2 (a t : Nat → Int) (ha : SOk a) (ht : ¬ SOk t) : Pure Try.prog 12 #[S4 a, S4 t] (.tuple #[.int .i64 (-1), F2 0 1]) := by
  intro w
  have HA := sumsright a
  rw [decide_eq_true ha] at HA
  have HA := Lib.hid HA
  have HT := sumsright t
  rw [decide_eq_false ht] at HT
  have HT := Lib.hid HT
  clear ha
  go_enter Try.func12, Try.ntmps12
  go_wp2_with fail
  (with_reducible refine (HA.out _).mono ?_)
  rintro e w1 ⟨rfl, hb1⟩
  have hs1 : w.heap.size + 4 ≤ w1.heap.size := (by have h := hb1.size; first | omega | (simp at h; omega))
  have hz1_0 : w.heap.size < w1.heap.size := (by omega)
  have hz1_1 : w.heap.size + 1 < w1.heap.size := (by omega)
  have hz1_2 : w.heap.size + 2 < w1.heap.size := (by omega)
  have hx1_2 : w.heap.size + 1 + 1 < w1.heap.size := (by omega)
  have hz1_3 : w.heap.size + 3 < w1.heap.size := (by omega)
  have hx1_3 : w.heap.size + 1 + 1 + 1 < w1.heap.size := (by omega)
  obtain ⟨hc1, hf1, hl1⟩ := bcell hb1
  clear hl1
  go_wp2_with fail
  (with_reducible refine (HT.out _).mono ?_)
  rintro e w2 ⟨rfl, hb2⟩
  have hs2 : w1.heap.size + 0 ≤ w2.heap.size := (by have h := hb2.size; first | omega | (simp at h; omega))
  have hb1_2 := bel hb1 hb2 (by (repeat (first | assumption | exact Below.refl _ _ | refine ba ?_ _ | refine bd ?_ | refine bdn ?_ _ | refine bs ?_ (by first | omega | (simp; done) | (simp; omega)) _ | refine bt ?_ (by assumption))))
  clear hz1_0 hz1_1 hz1_2 hx1_2 hz1_3 hx1_3 hc1 hf1
  obtain ⟨hc1_2, hf1_2, hl1_2⟩ := bcell hb1_2
  clear hl1_2
  have hz2_0 : w.heap.size < w2.heap.size := (by omega)
  have hz2_1 : w.heap.size + 1 < w2.heap.size := (by omega)
  have hz2_2 : w.heap.size + 2 < w2.heap.size := (by omega)
  have hx2_2 : w.heap.size + 1 + 1 < w2.heap.size := (by omega)
  have hz2_3 : w.heap.size + 3 < w2.heap.size := (by omega)
  have hx2_3 : w.heap.size + 1 + 1 + 1 < w2.heap.size := (by omega)
  obtain ⟨hc2, hf2, hl2⟩ := bcell hb2
  clear hl2
  go_wp2_with fail
  go_region
  go_wp2
  refine bodyPost_ret (v := .tuple #[.int .i64 (-1), F2 0 1]) (by simp [results, Try.results12, go_sem, *]) rfl ⟨rfl, ?_⟩
  (repeat (first | assumption | exact Below.refl _ _ | refine ba ?_ _ | refine bd ?_ | refine bdn ?_ _ | refine bs ?_ (by first | omega | (simp; done) | (simp; omega)) _ | refine bt ?_ (by assumption)))
end Go.Proofs.Ytlhljioncgddeaa
