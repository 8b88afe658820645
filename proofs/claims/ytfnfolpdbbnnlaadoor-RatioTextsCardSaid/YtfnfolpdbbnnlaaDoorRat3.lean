/- Contract of works in the statements of layer 2. -/
import Derived.Test.YtfnfolpdbbnnlaaDoorRat2
namespace Go.Proofs.YtfnfolpdbbnnlaaDoor
open Go.RowKit
attribute [local go_sem] ext_cell ext_frozen

def wkN : Nat → Int | 0 => 1 | 1 => 2 | _ => 4
def wkD : Nat → Int | 0 => 2 | 1 => 3 | _ => 6
theorem wk_max : maxRes wkN wkD 3 = .tuple #[F2 2 3, .int .i64 1] := by rfl
theorem wk_cmp : rcmp 2 3 3 5 = 1 := by decide +kernel
theorem wk_low : (6 : Int) / (Int.gcd 6 4 : Int) = 3 ∧ (4 : Int) / (Int.gcd 6 4 : Int) = 2 := by decide +kernel

theorem wk_fracs (w : World) : Fracs (w.alloc (.cells #[.int .i64 1, .int .i64 2, .int .i64 2, .int .i64 3, .int .i64 4, .int .i64 6] 23)) w.heap.size 0 3 wkN wkD := by
  intro i hi
  have : i = 0 ∨ i = 1 ∨ i = 2 := by omega
  rcases this with rfl | rfl | rfl
  · exact ⟨by simp [go_sem, wkN], by simp [go_sem, wkD], ⟨by decide, by decide⟩, ⟨by decide, by decide⟩⟩
  · exact ⟨by simp [go_sem, wkN], by simp [go_sem, wkD], ⟨by decide, by decide⟩, ⟨by decide, by decide⟩⟩
  · exact ⟨by simp [go_sem, wkN], by simp [go_sem, wkD], ⟨by decide, by decide⟩, ⟨by decide, by decide⟩⟩
set_option maxHeartbeats 400000 in
theorem works2 : Pure Tryd.prog 18 #[] (.bool true) := by
  intro w
  have hm := fun (W : World) (h1 : w.heap.size < W.heap.size) (hF : Fracs W w.heap.size 0 3 wkN wkD) => max_some w.heap.size 0 3 3 wkN wkD W h1 (by omega) (by omega) hF
  rw [wk_max] at hm
  have hc := rcmp_yes 2 3 3 5 ⟨by omega, by omega⟩ ⟨by omega, by omega⟩ ⟨by omega, by omega⟩ ⟨by omega, by omega⟩ ⟨by omega, by omega⟩ ⟨by omega, by omega⟩
  rw [wk_cmp] at hc
  have hl := low_yes 6 4 ⟨by omega, by omega⟩ ⟨by omega, by omega⟩ ⟨by omega, by omega⟩
  rw [wk_low.1, wk_low.2] at hl
  have HM := Lib.hid hm; have HC := Lib.hid hc; have HL := Lib.hid hl
  clear hm hc hl
  go_enter Tryd.func18, Tryd.ntmps18
  go_wp2_with fail
  (with_reducible refine (HM.out _ (by simp) (wk_fracs w)).mono ?_)
  rintro e w1 ⟨rfl, hb1⟩
  have hs1 : w.heap.size + 1 ≤ w1.heap.size := (by have h := hb1.size; first | omega | (simp at h; omega))
  have hz1_0 : w.heap.size < w1.heap.size := (by omega)
  obtain ⟨hc1, hf1, hl1⟩ := bcell hb1
  clear hl1
  go_wp2_with fail
  (with_reducible refine (HC.out _).mono ?_)
  rintro e w2 ⟨rfl, hb2⟩
  have hs2 : w1.heap.size + 1 ≤ w2.heap.size := (by have h := hb2.size; first | omega | (simp at h; omega))
  have hb1_2 := bel hb1 hb2 (by (repeat (first | assumption | exact Below.refl _ _ | refine ba ?_ _ | refine bd ?_ | refine bdn ?_ _ | refine bs ?_ (by first | omega | (simp; done) | (simp; omega)) _ | refine bt ?_ (by assumption))))
  clear hz1_0 hc1 hf1
  obtain ⟨hc1_2, hf1_2, hl1_2⟩ := bcell hb1_2
  clear hl1_2
  have hz2_0 : w.heap.size < w2.heap.size := (by omega)
  have hz2_1 : w1.heap.size < w2.heap.size := (by omega)
  obtain ⟨hc2, hf2, hl2⟩ := bcell hb2
  clear hl2
  go_wp2_with fail
  (with_reducible refine (HL.out _).mono ?_)
  rintro e w3 ⟨rfl, hb3⟩
  have hs3 : w2.heap.size + 0 ≤ w3.heap.size := (by have h := hb3.size; first | omega | (simp at h; omega))
  have hb1_3 := bel hb1_2 hb3 (by (repeat (first | assumption | exact Below.refl _ _ | refine ba ?_ _ | refine bd ?_ | refine bdn ?_ _ | refine bs ?_ (by first | omega | (simp; done) | (simp; omega)) _ | refine bt ?_ (by assumption))))
  have hb2_3 := bel hb2 hb3 (by (repeat (first | assumption | exact Below.refl _ _ | refine ba ?_ _ | refine bd ?_ | refine bdn ?_ _ | refine bs ?_ (by first | omega | (simp; done) | (simp; omega)) _ | refine bt ?_ (by assumption))))
  clear hc1_2 hf1_2 hz2_0 hz2_1 hc2 hf2
  obtain ⟨hc1_3, hf1_3, hl1_3⟩ := bcell hb1_3
  clear hl1_3
  obtain ⟨hc2_3, hf2_3, hl2_3⟩ := bcell hb2_3
  clear hl2_3
  have hz3_0 : w.heap.size < w3.heap.size := (by omega)
  have hz3_1 : w1.heap.size < w3.heap.size := (by omega)
  obtain ⟨hc3, hf3, hl3⟩ := bcell hb3
  clear hl3
  go_wp2
  go_ret
  refine ⟨rfl, ?_⟩
  (repeat (first | assumption | exact Below.refl _ _ | refine ba ?_ _ | refine bd ?_ | refine bdn ?_ _ | refine bs ?_ (by first | omega | (simp; done) | (simp; omega)) _ | refine bt ?_ (by assumption)))
end Go.Proofs.YtfnfolpdbbnnlaaDoor
