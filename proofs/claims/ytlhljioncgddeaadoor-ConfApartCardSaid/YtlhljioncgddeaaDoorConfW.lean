/- conf.Small; works of conf. Condition: the powers of ten, the error values and MaxLen lie in their variables. -/
import Derived.Test.YtlhljioncgddeaaDoorConfP
namespace Go.Proofs.YtlhljioncgddeaaDoor
open Go.RowKit Go.Proofs
attribute [local go_sem] ext_cell ext_frozen Mix.calmUpon Mix.mUpon
abbrev A9 (h m i l c a0 a1 a2 a3 : Int) : Value := .agg #[.int .i64 h, .int .i64 m, .int .i64 i, .int .i64 l, .int .i64 c, .int .i64 a0, .int .i64 a1, .int .i64 a2, .int .i64 a3]
abbrev A16 (h m i l c a0 a1 a2 a3 : Int) : Value := .agg #[.int .i64 h, .int .i64 m, .int .i64 i, .int .i64 l, .int .i64 c, .int .i64 a0, .int .i64 a1, .int .i64 a2, .int .i64 a3, .int .i64 0, .int .i64 0, .slice none 0 0, .slice none 0 0, .slice none 0 0, .slice none 0 0, .slice none 0 0]
set_option maxRecDepth 100000 in
set_option maxHeartbeats 2000000 in
theorem small_any : Pure Tryd.prog 61 #[] (A9 1000 1000000 1000 0 64 0 0 0 0) := by
  intro W
  go_enter Tryd.func61, Tryd.ntmps61
  go_wp2
  refine ret_world ?_
  intro X hX
  have x0 : X.cell? ⟨W.heap.size, 0, none⟩ = some (.int .i64 1000) := by rw [hX]; simp [go_sem]
  have x1 : X.cell? ⟨W.heap.size, 1, none⟩ = some (.int .i64 1000000) := by rw [hX]; simp [go_sem]
  have x2 : X.cell? ⟨W.heap.size, 2, none⟩ = some (.int .i64 1000) := by rw [hX]; simp [go_sem]
  have x3 : X.cell? ⟨W.heap.size, 3, none⟩ = some (.int .i64 0) := by rw [hX]; simp [go_sem]
  have x4 : X.cell? ⟨W.heap.size, 4, none⟩ = some (.int .i64 64) := by rw [hX]; simp [go_sem]
  have x5 : X.cell? ⟨W.heap.size, 5, none⟩ = some (.int .i64 0) := by rw [hX]; simp [go_sem]
  have x6 : X.cell? ⟨W.heap.size, 6, none⟩ = some (.int .i64 0) := by rw [hX]; simp [go_sem]
  have x7 : X.cell? ⟨W.heap.size, 7, none⟩ = some (.int .i64 0) := by rw [hX]; simp [go_sem]
  have x8 : X.cell? ⟨W.heap.size, 8, none⟩ = some (.int .i64 0) := by rw [hX]; simp [go_sem]
  have hbX : Below W.heap.size W X := by
    rw [hX]
    repeat (refine bs ?_ (show W.heap.size ≤ W.heap.size from Nat.le_refl _) _)
    (repeat (first | assumption | exact Below.refl _ _ | refine ba ?_ _ | refine bd ?_ | refine bdn ?_ _ | refine bs ?_ (by first | omega | (simp; done) | (simp; omega)) _ | refine bt ?_ (by assumption)))
  clear hX
  refine bodyPost_ret (v := A9 1000 1000000 1000 0 64 0 0 0 0) (by simp [results, Tryd.results61, go_sem, x0, x1, x2, x3, x4, x5, x6, x7, x8]) rfl ⟨rfl, hbX⟩
theorem cr_small : CR 1000 1000000 1000 0 64 Z0 := ⟨by unfold CT; decide, fun _ _ => ⟨by show (0 : Int) ≤ 0; decide, by show (0 : Int) ≤ 9007199254740992; decide⟩⟩
theorem cr_zero : ¬ CR 0 0 0 0 0 Z0 := fun h => absurd h.1.2.2.1 (by decide)
theorem ct_small : cT 1000 1000000 1000 0 64 Z0 = ⟨#[49, 48, 48, 48, 32, 49, 48, 48, 48, 48, 48, 48, 32, 49, 48, 48, 48, 32, 48, 32, 54, 52, 32, 48, 32, 48, 32, 48, 32, 48]⟩ := by
  rw [cT_yes cr_small]
  have d0 : Lib.itoa 0 = [48] := by simp [Lib.itoa, Lib.decDigits]
  have d1 : Lib.itoa 1000 = [49, 48, 48, 48] := by simp [Lib.itoa, Lib.decDigits]
  have d2 : Lib.itoa 1000000 = [49, 48, 48, 48, 48, 48, 48] := by simp [Lib.itoa, Lib.decDigits]
  have d3 : Lib.itoa 64 = [54, 52] := by simp [Lib.itoa, Lib.decDigits]
  have e : J (nine 1000 1000000 1000 0 64 Z0) 9 = Lib.itoa 1000 ++ 32 :: Lib.itoa 1000000 ++ 32 :: Lib.itoa 1000 ++ 32 :: Lib.itoa 0 ++ 32 :: Lib.itoa 64 ++ 32 :: Lib.itoa 0 ++ 32 :: Lib.itoa 0 ++ 32 :: Lib.itoa 0 ++ 32 :: Lib.itoa 0 := rfl
  rw [e, d0, d1, d2, d3]
  rfl
set_option maxRecDepth 100000 in
set_option maxHeartbeats 4000000 in
theorem works13 : PureOn CC Tryd.prog 37 #[] (.bool true) := by
  intro W hC
  have HC := Lib.hid hC
  have H1 := parse_ct cr_small
  rw [ct_small] at H1
  have H1 := Lib.hid (show PureOn CC Tryd.prog 38 #[.string ⟨#[49, 48, 48, 48, 32, 49, 48, 48, 48, 48, 48, 48, 32, 49, 48, 48, 48, 32, 48, 32, 54, 52, 32, 48, 32, 48, 32, 48, 32, 48]⟩] (.tuple #[A9 1000 1000000 1000 0 64 0 0 0 0, .bool true]) from H1)
  have H2 := Lib.hid (show Pure Tryd.prog 34 #[A9 1000 1000000 1000 0 64 0 0 0 0] (.tuple #[A16 1000 1000000 1000 0 64 0 0 0 0, .int .i64 0]) from start_yes 1000 1000000 1000 0 64 Z0 cr_small)
  have H3 := check_any 0 0 0 0 0 Z0
  rw [if_neg cr_zero] at H3
  have H3 := Lib.hid (show Pure Tryd.prog 36 #[A9 0 0 0 0 0 0 0 0 0] (.int .i64 41) from H3)
  have hq : ∀ w, (Op.equalIn 10000 43 (.agg #[.int .i64 1000, .int .i64 1000000, .int .i64 1000, .int .i64 0, .int .i64 64, .int .i64 0, .int .i64 0, .int .i64 0, .int .i64 0]) (.agg #[.int .i64 1000, .int .i64 1000000, .int .i64 1000, .int .i64 0, .int .i64 64, .int .i64 0, .int .i64 0, .int .i64 0, .int .i64 0])).run Tryd.prog w = .ok true w := fun w => eqC_yes _ _ _ _ _ _ _ _ _ w
  clear hC
  go_enter Tryd.func37, Tryd.ntmps37
  go_wp2_with fail
  (with_reducible refine (H1.out.app _ (CC.on HC.out (by (repeat (first | assumption | exact Below.refl _ _ | refine ba ?_ _ | refine bd ?_ | refine bdn ?_ _ | refine bs ?_ (by first | omega | (simp; done) | (simp; omega)) _ | refine bt ?_ (by assumption)))))).mono ?_)
  rintro e w1 ⟨rfl, hb1⟩
  have hs1 : W.heap.size + 0 ≤ w1.heap.size := (by have h := hb1.size; first | omega | (simp at h; omega))
  obtain ⟨hc1, hf1, hl1⟩ := bcell hb1
  clear hl1
  go_wp2_with fail
  (with_reducible refine (H2.out _).mono ?_)
  rintro e w2 ⟨rfl, hb2⟩
  have hs2 : w1.heap.size + 1 ≤ w2.heap.size := (by have h := hb2.size; first | omega | (simp at h; omega))
  have hb1_2 := bel hb1 hb2 (by (repeat (first | assumption | exact Below.refl _ _ | refine ba ?_ _ | refine bd ?_ | refine bdn ?_ _ | refine bs ?_ (by first | omega | (simp; done) | (simp; omega)) _ | refine bt ?_ (by assumption))))
  clear hc1 hf1
  have hz2_0 : w1.heap.size < w2.heap.size := (by omega)
  obtain ⟨hc2, hf2, hl2⟩ := bcell hb2
  clear hl2
  go_wp2_with fail
  refine wp_region_pure (by kernel_rfl) (by kernel_rfl) ?_
  repeat (first | go_big_quiet_step (((first | (go_at_call 61; with_reducible exact small_any.quiet) | (go_at_call 36; with_reducible exact H3.out.quiet)))) | (quiet_step (((first | (go_at_call 61; with_reducible exact small_any.quiet) | (go_at_call 36; with_reducible exact H3.out.quiet))))))
  refine wpQuiet_nil ?_
  rintro w3 ⟨x3, hx3⟩
  have hb3 := ext_below _ x3
  rw [← hx3] at hb3
  clear hx3 x3
  have hs3 : w2.heap.size + 1 ≤ w3.heap.size := (by have h := hb3.size; first | omega | (simp at h; omega))
  have hb1_3 := bel hb1_2 hb3 (by (repeat (first | assumption | exact Below.refl _ _ | refine ba ?_ _ | refine bd ?_ | refine bdn ?_ _ | refine bs ?_ (by first | omega | (simp; done) | (simp; omega)) _ | refine bt ?_ (by assumption))))
  have hb2_3 := bel hb2 hb3 (by (repeat (first | assumption | exact Below.refl _ _ | refine ba ?_ _ | refine bd ?_ | refine bdn ?_ _ | refine bs ?_ (by first | omega | (simp; done) | (simp; omega)) _ | refine bt ?_ (by assumption))))
  clear hz2_0 hc2 hf2
  obtain ⟨hc2_3, hf2_3, hl2_3⟩ := bcell hb2_3
  clear hl2_3
  have hz3_0 : w1.heap.size < w3.heap.size := (by omega)
  have hz3_1 : w2.heap.size < w3.heap.size := (by omega)
  obtain ⟨hc3, hf3, hl3⟩ := bcell hb3
  clear hl3
  go_wp2
  go_ret
  refine ⟨rfl, ?_⟩
  (repeat (first | assumption | exact Below.refl _ _ | refine ba ?_ _ | refine bd ?_ | refine bdn ?_ _ | refine bs ?_ (by first | omega | (simp; done) | (simp; omega)) _ | refine bt ?_ (by assumption)))
end Go.Proofs.YtlhljioncgddeaaDoor
