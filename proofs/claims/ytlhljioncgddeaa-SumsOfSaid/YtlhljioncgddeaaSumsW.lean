/- Contract of works of the statements of layer 6; the walk of SumsDominant. -/
import Derived.Test.YtlhljioncgddeaaSumsN
namespace Go.Proofs.Ytlhljioncgddeaa
open Go.RowKit
attribute [local go_sem] ext_cell ext_frozen Mix.calmUpon Mix.mUpon eq4
set_option maxRecDepth 100000 in
set_option maxHeartbeats 2000000 in
theorem works6 : Pure Try.prog 6 #[] (.bool true) := by
  intro W
  have HD := Lib.hid w_dom
  have HM := Lib.hid w_many
  have HO := Lib.hid w_of
  go_enter Try.func6, Try.ntmps6
  go_wp2_with fail
  (with_reducible refine (HD.out _).mono ?_)
  rintro e w1 ⟨rfl, hb1⟩
  have hs1 : W.heap.size + 0 ≤ w1.heap.size := (by have h := hb1.size; first | omega | (simp at h; omega))
  obtain ⟨hc1, hf1, hl1⟩ := bcell hb1
  clear hl1
  go_wp2_with fail
  refine (HO.out _ _ _ (by simp) (by simpa using w_parts (w1.alloc _) _)).mono ?_
  rintro e w2 ⟨rfl, hb2⟩
  have hs2 : w1.heap.size + 2 ≤ w2.heap.size := (by have h := hb2.size; first | omega | (simp at h; omega))
  have hb1_2 := bel hb1 hb2 (by (repeat (first | assumption | exact Below.refl _ _ | refine ba ?_ _ | refine bd ?_ | refine bdn ?_ _ | refine bs ?_ (by first | omega | (simp; done) | (simp; omega)) _ | refine bt ?_ (by assumption))))
  clear hc1 hf1
  have hz2_0 : w1.heap.size < w2.heap.size := (by omega)
  have hz2_1 : w1.heap.size + 1 < w2.heap.size := (by omega)
  obtain ⟨hc2, hf2, hl2⟩ := bcell hb2
  clear hl2
  go_wp2_with fail
  (with_reducible refine (HM.out _).mono ?_)
  rintro e w3 ⟨rfl, hb3⟩
  have hs3 : w2.heap.size + 0 ≤ w3.heap.size := (by have h := hb3.size; first | omega | (simp at h; omega))
  have hb1_3 := bel hb1_2 hb3 (by (repeat (first | assumption | exact Below.refl _ _ | refine ba ?_ _ | refine bd ?_ | refine bdn ?_ _ | refine bs ?_ (by first | omega | (simp; done) | (simp; omega)) _ | refine bt ?_ (by assumption))))
  have hb2_3 := bel hb2 hb3 (by (repeat (first | assumption | exact Below.refl _ _ | refine ba ?_ _ | refine bd ?_ | refine bdn ?_ _ | refine bs ?_ (by first | omega | (simp; done) | (simp; omega)) _ | refine bt ?_ (by assumption))))
  clear hz2_0 hz2_1 hc2 hf2
  obtain ⟨hc2_3, hf2_3, hl2_3⟩ := bcell hb2_3
  clear hl2_3
  have hz3_0 : w1.heap.size < w3.heap.size := (by omega)
  have hz3_1 : w1.heap.size + 1 < w3.heap.size := (by omega)
  obtain ⟨hc3, hf3, hl3⟩ := bcell hb3
  clear hl3
  go_wp2
  go_ret
  refine ⟨rfl, ?_⟩
  (repeat (first | exact Below.refl _ _ | refine ba ?_ _ | refine bd ?_ | refine bdn ?_ _ | refine bs ?_ (by first | omega | (simp; done) | (simp; omega)) _ | refine bt ?_ hb24 | refine bt ?_ hb23 | refine bt ?_ hb22 | refine bt ?_ hb21 | refine bt ?_ hb20 | refine bt ?_ hb19 | refine bt ?_ hb18 | refine bt ?_ hb17 | refine bt ?_ hb16 | refine bt ?_ hb15 | refine bt ?_ hb14 | refine bt ?_ hb13 | refine bt ?_ hb12 | refine bt ?_ hb11 | refine bt ?_ hb10 | refine bt ?_ hb9 | refine bt ?_ hb8 | refine bt ?_ hb7 | refine bt ?_ hb6 | refine bt ?_ hb5 | refine bt ?_ hb4 | refine bt ?_ hb3 | refine bt ?_ hb2 | refine bt ?_ hb1))
end Go.Proofs.Ytlhljioncgddeaa
