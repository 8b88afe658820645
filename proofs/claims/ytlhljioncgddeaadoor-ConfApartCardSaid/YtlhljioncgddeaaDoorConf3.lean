/- Contracts of conf.Start, conf.Small. -/
import Derived.Test.YtlhljioncgddeaaDoorConf2
namespace Go.Proofs.YtlhljioncgddeaaDoor
open Go.RowKit Go.Proofs
attribute [local go_sem] ext_cell ext_frozen Mix.calmUpon Mix.mUpon
theorem ret_world {P : Program} {f : Func} {Q : Ending → World → Prop} {e : Exit} {a : Act} {w : World} (h : ∀ X, X = w → bodyPost P f Q e a X) : bodyPost P f Q e a w := h w rfl
/-- A book that has a configuration and nothing else. -/
abbrev B16 (h m i l c : Int) (n : Nat → Int) : Value := .agg #[.int .i64 h, .int .i64 m, .int .i64 i, .int .i64 l, .int .i64 c, .int .i64 (n 0), .int .i64 (n 1), .int .i64 (n 2), .int .i64 (n 3), .int .i64 0, .int .i64 0, .slice none 0 0, .slice none 0 0, .slice none 0 0, .slice none 0 0, .slice none 0 0]
def Z0 : Nat → Int := fun _ => 0
set_option maxRecDepth 100000 in
set_option maxHeartbeats 2000000 in
theorem start_yes (h m i l c : Int) (n : Nat → Int) (hr : CR h m i l c n) : Pure Tryd.prog 34 #[C9 h m i l c n] (.tuple #[B16 h m i l c n, .int .i64 0]) := by
  intro W
  have H := check_any h m i l c n
  rw [if_pos hr] at H
  have H := Lib.hid H
  clear hr
  go_enter Tryd.func34, Tryd.ntmps34
  go_wp2_with fail
  (with_reducible refine (H.out _).mono ?_)
  rintro e w1 ⟨rfl, hb1⟩
  have hs1 : W.heap.size + 2 ≤ w1.heap.size := (by have h := hb1.size; first | omega | (simp at h; omega))
  have hz1_0 : W.heap.size < w1.heap.size := (by omega)
  have hz1_1 : W.heap.size + 1 < w1.heap.size := (by omega)
  obtain ⟨hc1, hf1, hl1⟩ := bcell hb1
  clear hl1
  go_wp2
  have q0 : w1.cell? ⟨W.heap.size + 1, 0, none⟩ = some (.int .i64 0) := (hc1 _ _ (by simp)).trans (by simp [go_sem])
  have q1 : w1.cell? ⟨W.heap.size + 1, 1, none⟩ = some (.int .i64 0) := (hc1 _ _ (by simp)).trans (by simp [go_sem])
  have q2 : w1.cell? ⟨W.heap.size + 1, 2, none⟩ = some (.int .i64 0) := (hc1 _ _ (by simp)).trans (by simp [go_sem])
  have q3 : w1.cell? ⟨W.heap.size + 1, 3, none⟩ = some (.int .i64 0) := (hc1 _ _ (by simp)).trans (by simp [go_sem])
  have q4 : w1.cell? ⟨W.heap.size + 1, 4, none⟩ = some (.int .i64 0) := (hc1 _ _ (by simp)).trans (by simp [go_sem])
  have q5 : w1.cell? ⟨W.heap.size + 1, 5, none⟩ = some (.int .i64 0) := (hc1 _ _ (by simp)).trans (by simp [go_sem])
  have q6 : w1.cell? ⟨W.heap.size + 1, 6, none⟩ = some (.int .i64 0) := (hc1 _ _ (by simp)).trans (by simp [go_sem])
  have q7 : w1.cell? ⟨W.heap.size + 1, 7, none⟩ = some (.int .i64 0) := (hc1 _ _ (by simp)).trans (by simp [go_sem])
  have q8 : w1.cell? ⟨W.heap.size + 1, 8, none⟩ = some (.int .i64 0) := (hc1 _ _ (by simp)).trans (by simp [go_sem])
  have q9 : w1.cell? ⟨W.heap.size + 1, 9, none⟩ = some (.int .i64 0) := (hc1 _ _ (by simp)).trans (by simp [go_sem])
  have q10 : w1.cell? ⟨W.heap.size + 1, 10, none⟩ = some (.int .i64 0) := (hc1 _ _ (by simp)).trans (by simp [go_sem])
  have q11 : w1.cell? ⟨W.heap.size + 1, 11, none⟩ = some (.slice none 0 0) := (hc1 _ _ (by simp)).trans (by simp [go_sem])
  have q12 : w1.cell? ⟨W.heap.size + 1, 12, none⟩ = some (.slice none 0 0) := (hc1 _ _ (by simp)).trans (by simp [go_sem])
  have q13 : w1.cell? ⟨W.heap.size + 1, 13, none⟩ = some (.slice none 0 0) := (hc1 _ _ (by simp)).trans (by simp [go_sem])
  have q14 : w1.cell? ⟨W.heap.size + 1, 14, none⟩ = some (.slice none 0 0) := (hc1 _ _ (by simp)).trans (by simp [go_sem])
  have q15 : w1.cell? ⟨W.heap.size + 1, 15, none⟩ = some (.slice none 0 0) := (hc1 _ _ (by simp)).trans (by simp [go_sem])
  refine ret_world ?_
  intro X hX
  have x0 : X.cell? ⟨W.heap.size + 1, 0, none⟩ = some (.int .i64 h) := by rw [hX]; simp [go_sem, q0]
  have x1 : X.cell? ⟨W.heap.size + 1, 1, none⟩ = some (.int .i64 m) := by rw [hX]; simp [go_sem, q1]
  have x2 : X.cell? ⟨W.heap.size + 1, 2, none⟩ = some (.int .i64 i) := by rw [hX]; simp [go_sem, q2]
  have x3 : X.cell? ⟨W.heap.size + 1, 3, none⟩ = some (.int .i64 l) := by rw [hX]; simp [go_sem, q3]
  have x4 : X.cell? ⟨W.heap.size + 1, 4, none⟩ = some (.int .i64 c) := by rw [hX]; simp [go_sem, q4]
  have x5 : X.cell? ⟨W.heap.size + 1, 5, none⟩ = some (.int .i64 (n 0)) := by rw [hX]; simp [go_sem, q5]
  have x6 : X.cell? ⟨W.heap.size + 1, 6, none⟩ = some (.int .i64 (n 1)) := by rw [hX]; simp [go_sem, q6]
  have x7 : X.cell? ⟨W.heap.size + 1, 7, none⟩ = some (.int .i64 (n 2)) := by rw [hX]; simp [go_sem, q7]
  have x8 : X.cell? ⟨W.heap.size + 1, 8, none⟩ = some (.int .i64 (n 3)) := by rw [hX]; simp [go_sem, q8]
  have x9 : X.cell? ⟨W.heap.size + 1, 9, none⟩ = some (.int .i64 0) := by rw [hX]; simp [go_sem, q9]
  have x10 : X.cell? ⟨W.heap.size + 1, 10, none⟩ = some (.int .i64 0) := by rw [hX]; simp [go_sem, q10]
  have x11 : X.cell? ⟨W.heap.size + 1, 11, none⟩ = some (.slice none 0 0) := by rw [hX]; simp [go_sem, q11]
  have x12 : X.cell? ⟨W.heap.size + 1, 12, none⟩ = some (.slice none 0 0) := by rw [hX]; simp [go_sem, q12]
  have x13 : X.cell? ⟨W.heap.size + 1, 13, none⟩ = some (.slice none 0 0) := by rw [hX]; simp [go_sem, q13]
  have x14 : X.cell? ⟨W.heap.size + 1, 14, none⟩ = some (.slice none 0 0) := by rw [hX]; simp [go_sem, q14]
  have x15 : X.cell? ⟨W.heap.size + 1, 15, none⟩ = some (.slice none 0 0) := by rw [hX]; simp [go_sem, q15]
  have hbX : Below W.heap.size W X := by
    rw [hX]
    repeat (refine bs ?_ (show W.heap.size ≤ W.heap.size + 1 from Nat.le_succ _) _)
    (repeat (first | assumption | exact Below.refl _ _ | refine ba ?_ _ | refine bd ?_ | refine bdn ?_ _ | refine bs ?_ (by first | omega | (simp; done) | (simp; omega)) _ | refine bt ?_ (by assumption)))
  clear hX
  refine bodyPost_ret (v := .tuple #[B16 h m i l c n, .int .i64 0]) (by simp [results, Tryd.results34, go_sem, x0, x1, x2, x3, x4, x5, x6, x7, x8, x9, x10, x11, x12, x13, x14, x15]) rfl ⟨rfl, hbX⟩
set_option maxRecDepth 100000 in
set_option maxHeartbeats 2000000 in
theorem start_no (h m i l c : Int) (n : Nat → Int) (hr : ¬ CR h m i l c n) : Pure Tryd.prog 34 #[C9 h m i l c n] (.tuple #[B16 0 0 0 0 0 Z0, .int .i64 41]) := by
  intro W
  have H := check_any h m i l c n
  rw [if_neg hr] at H
  have H := Lib.hid H
  clear hr
  go_enter Tryd.func34, Tryd.ntmps34
  go_wp2_with fail
  (with_reducible refine (H.out _).mono ?_)
  rintro e w1 ⟨rfl, hb1⟩
  have hs1 : W.heap.size + 2 ≤ w1.heap.size := (by have h := hb1.size; first | omega | (simp at h; omega))
  have hz1_0 : W.heap.size < w1.heap.size := (by omega)
  have hz1_1 : W.heap.size + 1 < w1.heap.size := (by omega)
  obtain ⟨hc1, hf1, hl1⟩ := bcell hb1
  clear hl1
  go_wp2
  have q0 : w1.cell? ⟨W.heap.size + 1, 0, none⟩ = some (.int .i64 0) := (hc1 _ _ (by simp)).trans (by simp [go_sem])
  have q1 : w1.cell? ⟨W.heap.size + 1, 1, none⟩ = some (.int .i64 0) := (hc1 _ _ (by simp)).trans (by simp [go_sem])
  have q2 : w1.cell? ⟨W.heap.size + 1, 2, none⟩ = some (.int .i64 0) := (hc1 _ _ (by simp)).trans (by simp [go_sem])
  have q3 : w1.cell? ⟨W.heap.size + 1, 3, none⟩ = some (.int .i64 0) := (hc1 _ _ (by simp)).trans (by simp [go_sem])
  have q4 : w1.cell? ⟨W.heap.size + 1, 4, none⟩ = some (.int .i64 0) := (hc1 _ _ (by simp)).trans (by simp [go_sem])
  have q5 : w1.cell? ⟨W.heap.size + 1, 5, none⟩ = some (.int .i64 0) := (hc1 _ _ (by simp)).trans (by simp [go_sem])
  have q6 : w1.cell? ⟨W.heap.size + 1, 6, none⟩ = some (.int .i64 0) := (hc1 _ _ (by simp)).trans (by simp [go_sem])
  have q7 : w1.cell? ⟨W.heap.size + 1, 7, none⟩ = some (.int .i64 0) := (hc1 _ _ (by simp)).trans (by simp [go_sem])
  have q8 : w1.cell? ⟨W.heap.size + 1, 8, none⟩ = some (.int .i64 0) := (hc1 _ _ (by simp)).trans (by simp [go_sem])
  have q9 : w1.cell? ⟨W.heap.size + 1, 9, none⟩ = some (.int .i64 0) := (hc1 _ _ (by simp)).trans (by simp [go_sem])
  have q10 : w1.cell? ⟨W.heap.size + 1, 10, none⟩ = some (.int .i64 0) := (hc1 _ _ (by simp)).trans (by simp [go_sem])
  have q11 : w1.cell? ⟨W.heap.size + 1, 11, none⟩ = some (.slice none 0 0) := (hc1 _ _ (by simp)).trans (by simp [go_sem])
  have q12 : w1.cell? ⟨W.heap.size + 1, 12, none⟩ = some (.slice none 0 0) := (hc1 _ _ (by simp)).trans (by simp [go_sem])
  have q13 : w1.cell? ⟨W.heap.size + 1, 13, none⟩ = some (.slice none 0 0) := (hc1 _ _ (by simp)).trans (by simp [go_sem])
  have q14 : w1.cell? ⟨W.heap.size + 1, 14, none⟩ = some (.slice none 0 0) := (hc1 _ _ (by simp)).trans (by simp [go_sem])
  have q15 : w1.cell? ⟨W.heap.size + 1, 15, none⟩ = some (.slice none 0 0) := (hc1 _ _ (by simp)).trans (by simp [go_sem])
  refine ret_world ?_
  intro X hX
  have x0 : X.cell? ⟨W.heap.size + 1, 0, none⟩ = some (.int .i64 0) := by rw [hX]; simp [go_sem, q0]
  have x1 : X.cell? ⟨W.heap.size + 1, 1, none⟩ = some (.int .i64 0) := by rw [hX]; simp [go_sem, q1]
  have x2 : X.cell? ⟨W.heap.size + 1, 2, none⟩ = some (.int .i64 0) := by rw [hX]; simp [go_sem, q2]
  have x3 : X.cell? ⟨W.heap.size + 1, 3, none⟩ = some (.int .i64 0) := by rw [hX]; simp [go_sem, q3]
  have x4 : X.cell? ⟨W.heap.size + 1, 4, none⟩ = some (.int .i64 0) := by rw [hX]; simp [go_sem, q4]
  have x5 : X.cell? ⟨W.heap.size + 1, 5, none⟩ = some (.int .i64 0) := by rw [hX]; simp [go_sem, q5]
  have x6 : X.cell? ⟨W.heap.size + 1, 6, none⟩ = some (.int .i64 0) := by rw [hX]; simp [go_sem, q6]
  have x7 : X.cell? ⟨W.heap.size + 1, 7, none⟩ = some (.int .i64 0) := by rw [hX]; simp [go_sem, q7]
  have x8 : X.cell? ⟨W.heap.size + 1, 8, none⟩ = some (.int .i64 0) := by rw [hX]; simp [go_sem, q8]
  have x9 : X.cell? ⟨W.heap.size + 1, 9, none⟩ = some (.int .i64 0) := by rw [hX]; simp [go_sem, q9]
  have x10 : X.cell? ⟨W.heap.size + 1, 10, none⟩ = some (.int .i64 0) := by rw [hX]; simp [go_sem, q10]
  have x11 : X.cell? ⟨W.heap.size + 1, 11, none⟩ = some (.slice none 0 0) := by rw [hX]; simp [go_sem, q11]
  have x12 : X.cell? ⟨W.heap.size + 1, 12, none⟩ = some (.slice none 0 0) := by rw [hX]; simp [go_sem, q12]
  have x13 : X.cell? ⟨W.heap.size + 1, 13, none⟩ = some (.slice none 0 0) := by rw [hX]; simp [go_sem, q13]
  have x14 : X.cell? ⟨W.heap.size + 1, 14, none⟩ = some (.slice none 0 0) := by rw [hX]; simp [go_sem, q14]
  have x15 : X.cell? ⟨W.heap.size + 1, 15, none⟩ = some (.slice none 0 0) := by rw [hX]; simp [go_sem, q15]
  have hbX : Below W.heap.size W X := by
    rw [hX]
    repeat (refine bs ?_ (show W.heap.size ≤ W.heap.size + 1 from Nat.le_succ _) _)
    (repeat (first | assumption | exact Below.refl _ _ | refine ba ?_ _ | refine bd ?_ | refine bdn ?_ _ | refine bs ?_ (by first | omega | (simp; done) | (simp; omega)) _ | refine bt ?_ (by assumption)))
  clear hX
  refine bodyPost_ret (v := .tuple #[B16 0 0 0 0 0 Z0, .int .i64 41]) (by simp [results, Tryd.results34, go_sem, Z0, x0, x1, x2, x3, x4, x5, x6, x7, x8, x9, x10, x11, x12, x13, x14, x15]) rfl ⟨rfl, hbX⟩
end Go.Proofs.YtlhljioncgddeaaDoor
