/- Contracts of the package share: Cmp, Text. -/
import Derived.Test.YtfnfolpdbbnnlaaDoorShare1
import Derived.Test.YtfnfolpdbbnnlaaDoorRText
namespace Go.Proofs.YtfnfolpdbbnnlaaDoor
open Go.RowKit
attribute [local go_sem] ext_cell ext_frozen Mix.calmUpon Mix.mUpon
/-- How two shares compare. -/
def scmp (an ad aw bn bd bw : Int) : Int := if SRt an ad aw ∧ SRt bn bd bw then cmpI (an * bd * bw) (bn * ad * aw) else 0
theorem cmpI_self (x : Int) : cmpI x x = 0 := by unfold cmpI; simp
theorem scmp_same (n d w : Int) : Pure Tryd.prog 44 #[S3 n d w, S3 n d w] (.int .i64 0) := by
  intro W
  go_enter Tryd.func44, Tryd.ntmps44
  go_wp2
  go_ret
  refine ⟨rfl, ?_⟩
  (repeat (first | assumption | exact Below.refl _ _ | refine ba ?_ _ | refine bd ?_ | refine bdn ?_ _ | refine bs ?_ (by first | omega | (simp; done) | (simp; omega)) _ | refine bt ?_ (by assumption)))
set_option maxHeartbeats 2000000 in
theorem scmp_ne1 (an ad aw bn bd bw : Int) (e : (an == bn) = false) : Pure Tryd.prog 44 #[S3 an ad aw, S3 bn bd bw] (.int .i64 (scmp an ad aw bn bd bw)) := by
  intro W
  by_cases ha : SRt an ad aw
  · have HA := Lib.hid (sright_yes an ad aw ha)
    by_cases hb : SRt bn bd bw
    · have HB := Lib.hid (sright_yes bn bd bw hb)
      have HX := Lib.hid (cross_any an ad aw bn bd bw ha hb)
      have HY := Lib.hid (cross_any bn bd bw an ad aw hb ha)
      have hs : scmp an ad aw bn bd bw = cmpI (an * bd * bw) (bn * ad * aw) := by unfold scmp; rw [if_pos ⟨ha, hb⟩]
      have HC := Lib.hid (cmp_V (an * bd * bw) (bn * ad * aw))
      rw [hs]
      clear ha hb hs
      go_enter Tryd.func44, Tryd.ntmps44
      go_wp2_with fail
      (with_reducible refine (HA.out _).mono ?_)
      rintro e w1 ⟨rfl, hb1⟩
      have hs1 : W.heap.size + 2 ≤ w1.heap.size := (by have h := hb1.size; first | omega | (simp at h; omega))
      have hz1_0 : W.heap.size < w1.heap.size := (by omega)
      have hz1_1 : W.heap.size + 1 < w1.heap.size := (by omega)
      obtain ⟨hc1, hf1, hl1⟩ := bcell hb1
      clear hl1
      go_wp2_with fail
      (with_reducible refine (HB.out _).mono ?_)
      rintro e w2 ⟨rfl, hb2⟩
      have hs2 : w1.heap.size + 0 ≤ w2.heap.size := (by have h := hb2.size; first | omega | (simp at h; omega))
      have hb1_2 := bel hb1 hb2 (by (repeat (first | assumption | exact Below.refl _ _ | refine ba ?_ _ | refine bd ?_ | refine bdn ?_ _ | refine bs ?_ (by first | omega | (simp; done) | (simp; omega)) _ | refine bt ?_ (by assumption))))
      clear hz1_0 hz1_1 hc1 hf1
      obtain ⟨hc1_2, hf1_2, hl1_2⟩ := bcell hb1_2
      clear hl1_2
      have hz2_0 : W.heap.size < w2.heap.size := (by omega)
      have hz2_1 : W.heap.size + 1 < w2.heap.size := (by omega)
      obtain ⟨hc2, hf2, hl2⟩ := bcell hb2
      clear hl2
      go_wp2_with fail
      refine wp_region_pure (by kernel_rfl) (by kernel_rfl) ?_
      repeat (first | go_big_quiet_step (((first | (go_at_call 69; first | with_reducible exact HX.out.quiet | with_reducible exact HY.out.quiet) | (go_at_call 70; with_reducible exact HC.out.quiet)))) | (quiet_step (((first | (go_at_call 69; first | with_reducible exact HX.out.quiet | with_reducible exact HY.out.quiet) | (go_at_call 70; with_reducible exact HC.out.quiet))))))
      refine wpQuiet_nil ?_
      rintro w3 ⟨x3, hx3⟩
      have hb3 := ext_below _ x3
      rw [← hx3] at hb3
      clear hx3 x3
      have hs3 : w2.heap.size + 0 ≤ w3.heap.size := (by have h := hb3.size; first | omega | (simp at h; omega))
      have hb1_3 := bel hb1_2 hb3 (by (repeat (first | assumption | exact Below.refl _ _ | refine ba ?_ _ | refine bd ?_ | refine bdn ?_ _ | refine bs ?_ (by first | omega | (simp; done) | (simp; omega)) _ | refine bt ?_ (by assumption))))
      have hb2_3 := bel hb2 hb3 (by (repeat (first | assumption | exact Below.refl _ _ | refine ba ?_ _ | refine bd ?_ | refine bdn ?_ _ | refine bs ?_ (by first | omega | (simp; done) | (simp; omega)) _ | refine bt ?_ (by assumption))))
      clear hc1_2 hf1_2 hz2_0 hz2_1 hc2 hf2
      obtain ⟨hc1_3, hf1_3, hl1_3⟩ := bcell hb1_3
      clear hl1_3
      have hz3_0 : W.heap.size < w3.heap.size := (by omega)
      have hz3_1 : W.heap.size + 1 < w3.heap.size := (by omega)
      obtain ⟨hc3, hf3, hl3⟩ := bcell hb3
      clear hl3
      go_wp2
      go_ret
      refine ⟨rfl, ?_⟩
      (repeat (first | assumption | exact Below.refl _ _ | refine ba ?_ _ | refine bd ?_ | refine bdn ?_ _ | refine bs ?_ (by first | omega | (simp; done) | (simp; omega)) _ | refine bt ?_ (by assumption)))
    · have HB := Lib.hid (sright_no bn bd bw hb)
      have hs : scmp an ad aw bn bd bw = 0 := by unfold scmp; rw [if_neg (fun h => hb h.2)]
      rw [hs]
      clear ha hb hs
      go_enter Tryd.func44, Tryd.ntmps44
      go_wp2_with fail
      (with_reducible refine (HA.out _).mono ?_)
      rintro e w1 ⟨rfl, hb1⟩
      have hs1 : W.heap.size + 2 ≤ w1.heap.size := (by have h := hb1.size; first | omega | (simp at h; omega))
      have hz1_0 : W.heap.size < w1.heap.size := (by omega)
      have hz1_1 : W.heap.size + 1 < w1.heap.size := (by omega)
      obtain ⟨hc1, hf1, hl1⟩ := bcell hb1
      clear hl1
      go_wp2_with fail
      (with_reducible refine (HB.out _).mono ?_)
      rintro e w2 ⟨rfl, hb2⟩
      have hs2 : w1.heap.size + 0 ≤ w2.heap.size := (by have h := hb2.size; first | omega | (simp at h; omega))
      have hb1_2 := bel hb1 hb2 (by (repeat (first | assumption | exact Below.refl _ _ | refine ba ?_ _ | refine bd ?_ | refine bdn ?_ _ | refine bs ?_ (by first | omega | (simp; done) | (simp; omega)) _ | refine bt ?_ (by assumption))))
      clear hz1_0 hz1_1 hc1 hf1
      obtain ⟨hc1_2, hf1_2, hl1_2⟩ := bcell hb1_2
      clear hl1_2
      have hz2_0 : W.heap.size < w2.heap.size := (by omega)
      have hz2_1 : W.heap.size + 1 < w2.heap.size := (by omega)
      obtain ⟨hc2, hf2, hl2⟩ := bcell hb2
      clear hl2
      go_wp2
      go_ret
      refine ⟨rfl, ?_⟩
      (repeat (first | assumption | exact Below.refl _ _ | refine ba ?_ _ | refine bd ?_ | refine bdn ?_ _ | refine bs ?_ (by first | omega | (simp; done) | (simp; omega)) _ | refine bt ?_ (by assumption)))
  · have HA := Lib.hid (sright_no an ad aw ha)
    have hs : scmp an ad aw bn bd bw = 0 := by unfold scmp; rw [if_neg (fun h => ha h.1)]
    rw [hs]
    clear ha hs
    go_enter Tryd.func44, Tryd.ntmps44
    go_wp2_with fail
    (with_reducible refine (HA.out _).mono ?_)
    rintro e w1 ⟨rfl, hb1⟩
    have hs1 : W.heap.size + 2 ≤ w1.heap.size := (by have h := hb1.size; first | omega | (simp at h; omega))
    have hz1_0 : W.heap.size < w1.heap.size := (by omega)
    have hz1_1 : W.heap.size + 1 < w1.heap.size := (by omega)
    obtain ⟨hc1, hf1, hl1⟩ := bcell hb1
    clear hl1
    go_wp2
    go_ret
    refine ⟨rfl, ?_⟩
    (repeat (first | assumption | exact Below.refl _ _ | refine ba ?_ _ | refine bd ?_ | refine bdn ?_ _ | refine bs ?_ (by first | omega | (simp; done) | (simp; omega)) _ | refine bt ?_ (by assumption)))
set_option maxHeartbeats 2000000 in
theorem scmp_ne2 (an ad aw bd bw : Int) (e : (ad == bd) = false) : Pure Tryd.prog 44 #[S3 an ad aw, S3 an bd bw] (.int .i64 (scmp an ad aw an bd bw)) := by
  intro W
  by_cases ha : SRt an ad aw
  · have HA := Lib.hid (sright_yes an ad aw ha)
    by_cases hb : SRt an bd bw
    · have HB := Lib.hid (sright_yes an bd bw hb)
      have HX := Lib.hid (cross_any an ad aw an bd bw ha hb)
      have HY := Lib.hid (cross_any an bd bw an ad aw hb ha)
      have hs : scmp an ad aw an bd bw = cmpI (an * bd * bw) (an * ad * aw) := by unfold scmp; rw [if_pos ⟨ha, hb⟩]
      have HC := Lib.hid (cmp_V (an * bd * bw) (an * ad * aw))
      rw [hs]
      clear ha hb hs
      go_enter Tryd.func44, Tryd.ntmps44
      go_wp2_with fail
      (with_reducible refine (HA.out _).mono ?_)
      rintro e w1 ⟨rfl, hb1⟩
      have hs1 : W.heap.size + 2 ≤ w1.heap.size := (by have h := hb1.size; first | omega | (simp at h; omega))
      have hz1_0 : W.heap.size < w1.heap.size := (by omega)
      have hz1_1 : W.heap.size + 1 < w1.heap.size := (by omega)
      obtain ⟨hc1, hf1, hl1⟩ := bcell hb1
      clear hl1
      go_wp2_with fail
      (with_reducible refine (HB.out _).mono ?_)
      rintro e w2 ⟨rfl, hb2⟩
      have hs2 : w1.heap.size + 0 ≤ w2.heap.size := (by have h := hb2.size; first | omega | (simp at h; omega))
      have hb1_2 := bel hb1 hb2 (by (repeat (first | assumption | exact Below.refl _ _ | refine ba ?_ _ | refine bd ?_ | refine bdn ?_ _ | refine bs ?_ (by first | omega | (simp; done) | (simp; omega)) _ | refine bt ?_ (by assumption))))
      clear hz1_0 hz1_1 hc1 hf1
      obtain ⟨hc1_2, hf1_2, hl1_2⟩ := bcell hb1_2
      clear hl1_2
      have hz2_0 : W.heap.size < w2.heap.size := (by omega)
      have hz2_1 : W.heap.size + 1 < w2.heap.size := (by omega)
      obtain ⟨hc2, hf2, hl2⟩ := bcell hb2
      clear hl2
      go_wp2_with fail
      refine wp_region_pure (by kernel_rfl) (by kernel_rfl) ?_
      repeat (first | go_big_quiet_step (((first | (go_at_call 69; first | with_reducible exact HX.out.quiet | with_reducible exact HY.out.quiet) | (go_at_call 70; with_reducible exact HC.out.quiet)))) | (quiet_step (((first | (go_at_call 69; first | with_reducible exact HX.out.quiet | with_reducible exact HY.out.quiet) | (go_at_call 70; with_reducible exact HC.out.quiet))))))
      refine wpQuiet_nil ?_
      rintro w3 ⟨x3, hx3⟩
      have hb3 := ext_below _ x3
      rw [← hx3] at hb3
      clear hx3 x3
      have hs3 : w2.heap.size + 0 ≤ w3.heap.size := (by have h := hb3.size; first | omega | (simp at h; omega))
      have hb1_3 := bel hb1_2 hb3 (by (repeat (first | assumption | exact Below.refl _ _ | refine ba ?_ _ | refine bd ?_ | refine bdn ?_ _ | refine bs ?_ (by first | omega | (simp; done) | (simp; omega)) _ | refine bt ?_ (by assumption))))
      have hb2_3 := bel hb2 hb3 (by (repeat (first | assumption | exact Below.refl _ _ | refine ba ?_ _ | refine bd ?_ | refine bdn ?_ _ | refine bs ?_ (by first | omega | (simp; done) | (simp; omega)) _ | refine bt ?_ (by assumption))))
      clear hc1_2 hf1_2 hz2_0 hz2_1 hc2 hf2
      obtain ⟨hc1_3, hf1_3, hl1_3⟩ := bcell hb1_3
      clear hl1_3
      have hz3_0 : W.heap.size < w3.heap.size := (by omega)
      have hz3_1 : W.heap.size + 1 < w3.heap.size := (by omega)
      obtain ⟨hc3, hf3, hl3⟩ := bcell hb3
      clear hl3
      go_wp2
      go_ret
      refine ⟨rfl, ?_⟩
      (repeat (first | assumption | exact Below.refl _ _ | refine ba ?_ _ | refine bd ?_ | refine bdn ?_ _ | refine bs ?_ (by first | omega | (simp; done) | (simp; omega)) _ | refine bt ?_ (by assumption)))
    · have HB := Lib.hid (sright_no an bd bw hb)
      have hs : scmp an ad aw an bd bw = 0 := by unfold scmp; rw [if_neg (fun h => hb h.2)]
      rw [hs]
      clear ha hb hs
      go_enter Tryd.func44, Tryd.ntmps44
      go_wp2_with fail
      (with_reducible refine (HA.out _).mono ?_)
      rintro e w1 ⟨rfl, hb1⟩
      have hs1 : W.heap.size + 2 ≤ w1.heap.size := (by have h := hb1.size; first | omega | (simp at h; omega))
      have hz1_0 : W.heap.size < w1.heap.size := (by omega)
      have hz1_1 : W.heap.size + 1 < w1.heap.size := (by omega)
      obtain ⟨hc1, hf1, hl1⟩ := bcell hb1
      clear hl1
      go_wp2_with fail
      (with_reducible refine (HB.out _).mono ?_)
      rintro e w2 ⟨rfl, hb2⟩
      have hs2 : w1.heap.size + 0 ≤ w2.heap.size := (by have h := hb2.size; first | omega | (simp at h; omega))
      have hb1_2 := bel hb1 hb2 (by (repeat (first | assumption | exact Below.refl _ _ | refine ba ?_ _ | refine bd ?_ | refine bdn ?_ _ | refine bs ?_ (by first | omega | (simp; done) | (simp; omega)) _ | refine bt ?_ (by assumption))))
      clear hz1_0 hz1_1 hc1 hf1
      obtain ⟨hc1_2, hf1_2, hl1_2⟩ := bcell hb1_2
      clear hl1_2
      have hz2_0 : W.heap.size < w2.heap.size := (by omega)
      have hz2_1 : W.heap.size + 1 < w2.heap.size := (by omega)
      obtain ⟨hc2, hf2, hl2⟩ := bcell hb2
      clear hl2
      go_wp2
      go_ret
      refine ⟨rfl, ?_⟩
      (repeat (first | assumption | exact Below.refl _ _ | refine ba ?_ _ | refine bd ?_ | refine bdn ?_ _ | refine bs ?_ (by first | omega | (simp; done) | (simp; omega)) _ | refine bt ?_ (by assumption)))
  · have HA := Lib.hid (sright_no an ad aw ha)
    have hs : scmp an ad aw an bd bw = 0 := by unfold scmp; rw [if_neg (fun h => ha h.1)]
    rw [hs]
    clear ha hs
    go_enter Tryd.func44, Tryd.ntmps44
    go_wp2_with fail
    (with_reducible refine (HA.out _).mono ?_)
    rintro e w1 ⟨rfl, hb1⟩
    have hs1 : W.heap.size + 2 ≤ w1.heap.size := (by have h := hb1.size; first | omega | (simp at h; omega))
    have hz1_0 : W.heap.size < w1.heap.size := (by omega)
    have hz1_1 : W.heap.size + 1 < w1.heap.size := (by omega)
    obtain ⟨hc1, hf1, hl1⟩ := bcell hb1
    clear hl1
    go_wp2
    go_ret
    refine ⟨rfl, ?_⟩
    (repeat (first | assumption | exact Below.refl _ _ | refine ba ?_ _ | refine bd ?_ | refine bdn ?_ _ | refine bs ?_ (by first | omega | (simp; done) | (simp; omega)) _ | refine bt ?_ (by assumption)))
set_option maxHeartbeats 2000000 in
theorem scmp_ne3 (an ad aw bw : Int) (e : (aw == bw) = false) : Pure Tryd.prog 44 #[S3 an ad aw, S3 an ad bw] (.int .i64 (scmp an ad aw an ad bw)) := by
  intro W
  by_cases ha : SRt an ad aw
  · have HA := Lib.hid (sright_yes an ad aw ha)
    by_cases hb : SRt an ad bw
    · have HB := Lib.hid (sright_yes an ad bw hb)
      have HX := Lib.hid (cross_any an ad aw an ad bw ha hb)
      have HY := Lib.hid (cross_any an ad bw an ad aw hb ha)
      have hs : scmp an ad aw an ad bw = cmpI (an * ad * bw) (an * ad * aw) := by unfold scmp; rw [if_pos ⟨ha, hb⟩]
      have HC := Lib.hid (cmp_V (an * ad * bw) (an * ad * aw))
      rw [hs]
      clear ha hb hs
      go_enter Tryd.func44, Tryd.ntmps44
      go_wp2_with fail
      (with_reducible refine (HA.out _).mono ?_)
      rintro e w1 ⟨rfl, hb1⟩
      have hs1 : W.heap.size + 2 ≤ w1.heap.size := (by have h := hb1.size; first | omega | (simp at h; omega))
      have hz1_0 : W.heap.size < w1.heap.size := (by omega)
      have hz1_1 : W.heap.size + 1 < w1.heap.size := (by omega)
      obtain ⟨hc1, hf1, hl1⟩ := bcell hb1
      clear hl1
      go_wp2_with fail
      (with_reducible refine (HB.out _).mono ?_)
      rintro e w2 ⟨rfl, hb2⟩
      have hs2 : w1.heap.size + 0 ≤ w2.heap.size := (by have h := hb2.size; first | omega | (simp at h; omega))
      have hb1_2 := bel hb1 hb2 (by (repeat (first | assumption | exact Below.refl _ _ | refine ba ?_ _ | refine bd ?_ | refine bdn ?_ _ | refine bs ?_ (by first | omega | (simp; done) | (simp; omega)) _ | refine bt ?_ (by assumption))))
      clear hz1_0 hz1_1 hc1 hf1
      obtain ⟨hc1_2, hf1_2, hl1_2⟩ := bcell hb1_2
      clear hl1_2
      have hz2_0 : W.heap.size < w2.heap.size := (by omega)
      have hz2_1 : W.heap.size + 1 < w2.heap.size := (by omega)
      obtain ⟨hc2, hf2, hl2⟩ := bcell hb2
      clear hl2
      go_wp2_with fail
      refine wp_region_pure (by kernel_rfl) (by kernel_rfl) ?_
      repeat (first | go_big_quiet_step (((first | (go_at_call 69; first | with_reducible exact HX.out.quiet | with_reducible exact HY.out.quiet) | (go_at_call 70; with_reducible exact HC.out.quiet)))) | (quiet_step (((first | (go_at_call 69; first | with_reducible exact HX.out.quiet | with_reducible exact HY.out.quiet) | (go_at_call 70; with_reducible exact HC.out.quiet))))))
      refine wpQuiet_nil ?_
      rintro w3 ⟨x3, hx3⟩
      have hb3 := ext_below _ x3
      rw [← hx3] at hb3
      clear hx3 x3
      have hs3 : w2.heap.size + 0 ≤ w3.heap.size := (by have h := hb3.size; first | omega | (simp at h; omega))
      have hb1_3 := bel hb1_2 hb3 (by (repeat (first | assumption | exact Below.refl _ _ | refine ba ?_ _ | refine bd ?_ | refine bdn ?_ _ | refine bs ?_ (by first | omega | (simp; done) | (simp; omega)) _ | refine bt ?_ (by assumption))))
      have hb2_3 := bel hb2 hb3 (by (repeat (first | assumption | exact Below.refl _ _ | refine ba ?_ _ | refine bd ?_ | refine bdn ?_ _ | refine bs ?_ (by first | omega | (simp; done) | (simp; omega)) _ | refine bt ?_ (by assumption))))
      clear hc1_2 hf1_2 hz2_0 hz2_1 hc2 hf2
      obtain ⟨hc1_3, hf1_3, hl1_3⟩ := bcell hb1_3
      clear hl1_3
      have hz3_0 : W.heap.size < w3.heap.size := (by omega)
      have hz3_1 : W.heap.size + 1 < w3.heap.size := (by omega)
      obtain ⟨hc3, hf3, hl3⟩ := bcell hb3
      clear hl3
      go_wp2
      go_ret
      refine ⟨rfl, ?_⟩
      (repeat (first | assumption | exact Below.refl _ _ | refine ba ?_ _ | refine bd ?_ | refine bdn ?_ _ | refine bs ?_ (by first | omega | (simp; done) | (simp; omega)) _ | refine bt ?_ (by assumption)))
    · have HB := Lib.hid (sright_no an ad bw hb)
      have hs : scmp an ad aw an ad bw = 0 := by unfold scmp; rw [if_neg (fun h => hb h.2)]
      rw [hs]
      clear ha hb hs
      go_enter Tryd.func44, Tryd.ntmps44
      go_wp2_with fail
      (with_reducible refine (HA.out _).mono ?_)
      rintro e w1 ⟨rfl, hb1⟩
      have hs1 : W.heap.size + 2 ≤ w1.heap.size := (by have h := hb1.size; first | omega | (simp at h; omega))
      have hz1_0 : W.heap.size < w1.heap.size := (by omega)
      have hz1_1 : W.heap.size + 1 < w1.heap.size := (by omega)
      obtain ⟨hc1, hf1, hl1⟩ := bcell hb1
      clear hl1
      go_wp2_with fail
      (with_reducible refine (HB.out _).mono ?_)
      rintro e w2 ⟨rfl, hb2⟩
      have hs2 : w1.heap.size + 0 ≤ w2.heap.size := (by have h := hb2.size; first | omega | (simp at h; omega))
      have hb1_2 := bel hb1 hb2 (by (repeat (first | assumption | exact Below.refl _ _ | refine ba ?_ _ | refine bd ?_ | refine bdn ?_ _ | refine bs ?_ (by first | omega | (simp; done) | (simp; omega)) _ | refine bt ?_ (by assumption))))
      clear hz1_0 hz1_1 hc1 hf1
      obtain ⟨hc1_2, hf1_2, hl1_2⟩ := bcell hb1_2
      clear hl1_2
      have hz2_0 : W.heap.size < w2.heap.size := (by omega)
      have hz2_1 : W.heap.size + 1 < w2.heap.size := (by omega)
      obtain ⟨hc2, hf2, hl2⟩ := bcell hb2
      clear hl2
      go_wp2
      go_ret
      refine ⟨rfl, ?_⟩
      (repeat (first | assumption | exact Below.refl _ _ | refine ba ?_ _ | refine bd ?_ | refine bdn ?_ _ | refine bs ?_ (by first | omega | (simp; done) | (simp; omega)) _ | refine bt ?_ (by assumption)))
  · have HA := Lib.hid (sright_no an ad aw ha)
    have hs : scmp an ad aw an ad bw = 0 := by unfold scmp; rw [if_neg (fun h => ha h.1)]
    rw [hs]
    clear ha hs
    go_enter Tryd.func44, Tryd.ntmps44
    go_wp2_with fail
    (with_reducible refine (HA.out _).mono ?_)
    rintro e w1 ⟨rfl, hb1⟩
    have hs1 : W.heap.size + 2 ≤ w1.heap.size := (by have h := hb1.size; first | omega | (simp at h; omega))
    have hz1_0 : W.heap.size < w1.heap.size := (by omega)
    have hz1_1 : W.heap.size + 1 < w1.heap.size := (by omega)
    obtain ⟨hc1, hf1, hl1⟩ := bcell hb1
    clear hl1
    go_wp2
    go_ret
    refine ⟨rfl, ?_⟩
    (repeat (first | assumption | exact Below.refl _ _ | refine ba ?_ _ | refine bd ?_ | refine bdn ?_ _ | refine bs ?_ (by first | omega | (simp; done) | (simp; omega)) _ | refine bt ?_ (by assumption)))
theorem scmp_any (an ad aw bn bd bw : Int) : Pure Tryd.prog 44 #[S3 an ad aw, S3 bn bd bw] (.int .i64 (scmp an ad aw bn bd bw)) := by
  by_cases h1 : an = bn
  · subst h1
    by_cases h2 : ad = bd
    · subst h2
      by_cases h3 : aw = bw
      · subst h3
        have : scmp an ad aw an ad aw = 0 := by unfold scmp; rw [cmpI_self, ite_self]
        rw [this]
        exact scmp_same an ad aw
      · exact scmp_ne3 an ad aw bw (by simpa using h3)
    · exact scmp_ne2 an ad aw bd bw (by simpa using h2)
  · exact scmp_ne1 an ad aw bn bd bw (by simpa using h1)

theorem stext_no (n d w : Int) (h : ¬ SRt n d w) : Pure Tryd.prog 53 #[S3 n d w] (.string ⟨#[]⟩) := by
  intro W
  have HA := Lib.hid (sright_no n d w h)
  clear h
  go_enter Tryd.func53, Tryd.ntmps53
  go_wp2_with fail
  (with_reducible refine (HA.out _).mono ?_)
  rintro e w1 ⟨rfl, hb1⟩
  have hs1 : W.heap.size + 1 ≤ w1.heap.size := (by have h := hb1.size; first | omega | (simp at h; omega))
  have hz1_0 : W.heap.size < w1.heap.size := (by omega)
  obtain ⟨hc1, hf1, hl1⟩ := bcell hb1
  clear hl1
  go_wp2
  go_ret
  refine ⟨rfl, ?_⟩
  (repeat (first | assumption | exact Below.refl _ _ | refine ba ?_ _ | refine bd ?_ | refine bdn ?_ _ | refine bs ?_ (by first | omega | (simp; done) | (simp; omega)) _ | refine bt ?_ (by assumption)))
set_option maxHeartbeats 2000000 in
theorem stext_core (C : World → Prop) (hC : Clo C) (n d w : Int) (h : SRt n d w) (S sw : ByteArray) (hS : S.size ≤ 300) (hsw : sw.size ≤ 100)
    (hT : PureOn C Tryd.prog 16 #[F2 n d] (.string S)) (hW : PureOn C Tryd.prog 58 #[.int .i64 w, .int .i64 10] (.string sw)) :
    PureOn C Tryd.prog 53 #[S3 n d w] (.string (S ++ ⟨#[58]⟩ ++ sw)) := by
  intro W hCW
  have HA := Lib.hid (sright_yes n d w h)
  have HT := Lib.hid hT; have HW := Lib.hid hW
  have hs1 : S.size + (⟨#[58]⟩ : ByteArray).size ≤ 9223372036854775807 := by show S.size + 1 ≤ _; omega
  have hs2 : (S ++ ⟨#[58]⟩).size + sw.size ≤ 9223372036854775807 := by rw [ByteArray.size_append]; show S.size + 1 + _ ≤ _; omega
  have HS1 := Lib.hid hs1; have HS2 := Lib.hid hs2
  clear h hT hW hs1 hs2
  go_enter Tryd.func53, Tryd.ntmps53
  go_wp2_with fail
  (with_reducible refine (HA.out _).mono ?_)
  rintro e w1 ⟨rfl, hb1⟩
  have hs1 : W.heap.size + 1 ≤ w1.heap.size := (by have h := hb1.size; first | omega | (simp at h; omega))
  have hz1_0 : W.heap.size < w1.heap.size := (by omega)
  obtain ⟨hc1, hf1, hl1⟩ := bcell hb1
  clear hl1
  have hw1 : C w1 := hC _ _ hCW (by (repeat (first | assumption | exact Below.refl _ _ | refine ba ?_ _ | refine bd ?_ | refine bdn ?_ _ | refine bs ?_ (by first | omega | (simp; done) | (simp; omega)) _ | refine bt ?_ (by assumption))))
  have r1 := fun W => run_string_add_sum (P := Tryd.prog) (w := W) S ⟨#[58]⟩ HS1.out
  have r2 := fun W => run_string_add_sum (P := Tryd.prog) (w := W) (S ++ ⟨#[58]⟩) sw HS2.out
  go_wp2_with fail
  refine wp_region_pure (by kernel_rfl) (by kernel_rfl) ?_
  repeat (first | go_big_quiet_step (((first | (go_at_call 16; with_reducible exact HT.out.quiet hC hw1) | (go_at_call 58; with_reducible exact HW.out.quiet hC hw1)))) | (quiet_step (((first | (go_at_call 16; with_reducible exact HT.out.quiet hC hw1) | (go_at_call 58; with_reducible exact HW.out.quiet hC hw1))))))
  refine wpQuiet_nil ?_
  rintro w2 ⟨x2, hx2⟩
  have hb2 := ext_below _ x2
  rw [← hx2] at hb2
  clear hx2 x2
  have hs2 : w1.heap.size + 0 ≤ w2.heap.size := (by have h := hb2.size; first | omega | (simp at h; omega))
  have hb1_2 := bel hb1 hb2 (by (repeat (first | assumption | exact Below.refl _ _ | refine ba ?_ _ | refine bd ?_ | refine bdn ?_ _ | refine bs ?_ (by first | omega | (simp; done) | (simp; omega)) _ | refine bt ?_ (by assumption))))
  clear hz1_0 hc1 hf1
  obtain ⟨hc1_2, hf1_2, hl1_2⟩ := bcell hb1_2
  clear hl1_2
  have hz2_0 : W.heap.size < w2.heap.size := (by omega)
  obtain ⟨hc2, hf2, hl2⟩ := bcell hb2
  clear hl2
  go_wp2
  go_ret
  refine ⟨rfl, ?_⟩
  (repeat (first | assumption | exact Below.refl _ _ | refine ba ?_ _ | refine bd ?_ | refine bdn ?_ _ | refine bs ?_ (by first | omega | (simp; done) | (simp; omega)) _ | refine bt ?_ (by assumption)))
end Go.Proofs.YtfnfolpdbbnnlaaDoor
