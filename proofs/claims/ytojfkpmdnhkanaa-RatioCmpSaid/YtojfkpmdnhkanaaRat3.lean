/- Contract of works in the statements of layer 2. -/
import Derived.Test.YtojfkpmdnhkanaaRat2
namespace Go.Proofs.Ytojfkpmdnhkanaa
open Go.RowKit
attribute [local go_sem] ext_cell ext_frozen

def wkN : Nat → Int | 0 => 1 | 1 => 2 | _ => 4
def wkD : Nat → Int | 0 => 2 | 1 => 3 | _ => 6
theorem wk_max : maxRes wkN wkD 3 = .tuple #[F2 2 3, .int .i64 1] := by rfl
theorem wk_cmp : rcmp 2 3 3 5 = 1 := by decide +kernel
theorem wk_low : (6 : Int) / (Int.gcd 6 4 : Int) = 3 ∧ (4 : Int) / (Int.gcd 6 4 : Int) = 2 := by decide +kernel

theorem wk_fracs (w : World) : Fracs (w.alloc (.cells #[.int .i64 1, .int .i64 2, .int .i64 2, .int .i64 3, .int .i64 4, .int .i64 6] 53)) w.heap.size 0 3 wkN wkD := by
  intro i hi
  have : i = 0 ∨ i = 1 ∨ i = 2 := by omega
  rcases this with rfl | rfl | rfl
  · exact ⟨by simp [go_sem, wkN], by simp [go_sem, wkD], ⟨by decide, by decide⟩, ⟨by decide, by decide⟩⟩
  · exact ⟨by simp [go_sem, wkN], by simp [go_sem, wkD], ⟨by decide, by decide⟩, ⟨by decide, by decide⟩⟩
  · exact ⟨by simp [go_sem, wkN], by simp [go_sem, wkD], ⟨by decide, by decide⟩, ⟨by decide, by decide⟩⟩
set_option maxHeartbeats 400000 in
theorem works2 : Pure Try.prog 40 #[] (.bool true) := by
  intro w
  have hm := fun (W : World) (h1 : w.heap.size < W.heap.size) (hF : Fracs W w.heap.size 0 3 wkN wkD) => max_some w.heap.size 0 3 3 wkN wkD W h1 (by omega) (by omega) hF
  rw [wk_max] at hm
  have hc := rcmp_yes 2 3 3 5 ⟨by omega, by omega⟩ ⟨by omega, by omega⟩ ⟨by omega, by omega⟩ ⟨by omega, by omega⟩ ⟨by omega, by omega⟩ ⟨by omega, by omega⟩
  rw [wk_cmp] at hc
  have hl := low_yes 6 4 ⟨by omega, by omega⟩ ⟨by omega, by omega⟩ ⟨by omega, by omega⟩
  rw [wk_low.1, wk_low.2] at hl
  have HM := Lib.hid hm; have HC := Lib.hid hc; have HL := Lib.hid hl
  clear hm hc hl
  go_enter Try.func40, Try.ntmps40
  go_wp2_with fail
  (with_reducible refine (HM.out _ (by simp) (wk_fracs w)).mono ?_)
  rintro e w1 ⟨rfl, hb1⟩
  obtain ⟨hc1, hf1, hl1⟩ := bcell hb1
  have hz1_0 : w.heap.size < w1.heap.size := hl1 _ (by simp; try omega)
  clear hl1
  go_wp2_with fail
  (with_reducible refine (HC.out _).mono ?_)
  rintro e w2 ⟨rfl, hb2⟩
  have hb1_2 := bel hb1 hb2 (by (repeat (first | assumption | exact Below.refl _ _ | refine ba ?_ _ | refine bd ?_ | refine bdn ?_ _ | refine bs ?_ (by first | omega | (simp; done) | (simp; omega)) _ | refine bt ?_ (by assumption))))
  obtain ⟨hc1_2, hf1_2, hl1_2⟩ := bcell hb1_2
  have hz1_2_0 : w.heap.size < w2.heap.size := hl1_2 _ (by simp; try omega)
  clear hl1_2
  clear hc1 hf1 hz1_0
  obtain ⟨hc2, hf2, hl2⟩ := bcell hb2
  have hz2_0 : w1.heap.size < w2.heap.size := hl2 _ (by simp; try omega)
  clear hl2
  go_wp2_with fail
  (with_reducible refine (HL.out _).mono ?_)
  rintro e w3 ⟨rfl, hb3⟩
  have hb1_3 := bel hb1_2 hb3 (by (repeat (first | assumption | exact Below.refl _ _ | refine ba ?_ _ | refine bd ?_ | refine bdn ?_ _ | refine bs ?_ (by first | omega | (simp; done) | (simp; omega)) _ | refine bt ?_ (by assumption))))
  obtain ⟨hc1_3, hf1_3, hl1_3⟩ := bcell hb1_3
  have hz1_3_0 : w.heap.size < w3.heap.size := hl1_3 _ (by simp; try omega)
  clear hl1_3
  have hb2_3 := bel hb2 hb3 (by (repeat (first | assumption | exact Below.refl _ _ | refine ba ?_ _ | refine bd ?_ | refine bdn ?_ _ | refine bs ?_ (by first | omega | (simp; done) | (simp; omega)) _ | refine bt ?_ (by assumption))))
  obtain ⟨hc2_3, hf2_3, hl2_3⟩ := bcell hb2_3
  have hz2_3_0 : w1.heap.size < w3.heap.size := hl2_3 _ (by simp; try omega)
  clear hl2_3
  clear hc1_2 hf1_2 hz1_2_0 hc2 hf2 hz2_0
  obtain ⟨hc3, hf3, hl3⟩ := bcell hb3
  clear hl3
  go_wp2
  go_ret
  refine ⟨rfl, ?_⟩
  (repeat (first | assumption | exact Below.refl _ _ | refine ba ?_ _ | refine bd ?_ | refine bdn ?_ _ | refine bs ?_ (by first | omega | (simp; done) | (simp; omega)) _ | refine bt ?_ (by assumption)))
end Go.Proofs.Ytojfkpmdnhkanaa
