/- Contracts of share.Of and mancipleref07.Right; the walk of ShareOf. -/
import Derived.Test.YtfnfolpdbbnnlaaDoorSums4
import Derived.Test.YtfnfolpdbbnnlaaDoorShare4
namespace Go.Proofs.YtfnfolpdbbnnlaaDoor
open Go.RowKit
attribute [local go_sem] ext_cell ext_frozen Mix.calmUpon Mix.mUpon
/-- What Dominant finds: the kind, and the part. -/
def domV (a t : Nat → Int) : Int × Int × Int := if SOk a ∧ SOk t then dom a t 4 else (-1, 0, 1)
theorem dominant_any (a t : Nat → Int) : Pure Tryd.prog 73 #[S4 a, S4 t] (.tuple #[.int .i64 (domV a t).1, F2 (domV a t).2.1 (domV a t).2.2]) := by
  unfold domV
  by_cases ha : SOk a
  · by_cases ht : SOk t
    · rw [if_pos ⟨ha, ht⟩]; exact dominant_yes a t ha ht
    · rw [if_neg (fun h => ht h.2)]; exact dominant_no2 a t ha ht
  · rw [if_neg (fun h => ha h.1)]; exact dominant_no1 a t ha
theorem refdominant_any (a t : Nat → Int) : Pure Tryd.prog 51 #[S4 a, S4 t] (.tuple #[.int .i64 (domV a t).1, F2 (domV a t).2.1 (domV a t).2.2]) := by
  unfold domV
  by_cases ha : SOk a
  · by_cases ht : SOk t
    · rw [if_pos ⟨ha, ht⟩]; exact refdominant_yes a t ha ht
    · rw [if_neg (fun h => ht h.2)]; exact refdominant_no2 a t ha ht
  · rw [if_neg (fun h => ha h.1)]; exact refdominant_no1 a t ha
set_option maxHeartbeats 1000000 in
theorem shareof_any (a t : Nat → Int) (x : Int) : Pure Tryd.prog 50 #[S4 a, S4 t, .int .i64 x] (S3 (domV a t).2.1 (domV a t).2.2 x) := by
  intro w
  have HD := Lib.hid (dominant_any a t)
  generalize domV a t = s at *
  obtain ⟨k, n, d⟩ := s
  simp only at *
  go_enter Tryd.func50, Tryd.ntmps50
  go_wp2_with fail
  (with_reducible refine (HD.out _).mono ?_)
  rintro e w1 ⟨rfl, hb1⟩
  have hs1 : w.heap.size + 3 ≤ w1.heap.size := (by have h := hb1.size; first | omega | (simp at h; omega))
  have hz1_0 : w.heap.size < w1.heap.size := (by omega)
  have hz1_1 : w.heap.size + 1 < w1.heap.size := (by omega)
  have hz1_2 : w.heap.size + 2 < w1.heap.size := (by omega)
  have hx1_2 : w.heap.size + 1 + 1 < w1.heap.size := (by omega)
  obtain ⟨hc1, hf1, hl1⟩ := bcell hb1
  clear hl1
  go_wp2
  refine bodyPost_ret (v := S3 n d x) (by simp [results, Tryd.results50, go_sem, *]) rfl ⟨rfl, ?_⟩
  (repeat (first | assumption | exact Below.refl _ _ | refine ba ?_ _ | refine bd ?_ | refine bdn ?_ _ | refine bs ?_ (by first | omega | (simp; done) | (simp; omega)) _ | refine bt ?_ (by assumption)))
theorem refright7_yes (n d w : Int) (h1 : 0 ≤ n) (h2 : 1 ≤ d) (h3 : n ≤ 9007199254740992) (h4 : d ≤ 9007199254740992) (h5 : 1 ≤ w) (h6 : w ≤ 1000) : Pure Tryd.prog 47 #[F2 n d, .int .i64 w] (.bool true) := by
  intro W
  have HR := Lib.hid (rright_yes n d h1 h2)
  skip
  go_enter Tryd.func47, Tryd.ntmps47
  go_wp2_with fail
  (with_reducible refine (HR.out _).mono ?_)
  rintro e w1 ⟨rfl, hb1⟩
  have hs1 : W.heap.size + 1 ≤ w1.heap.size := (by have h := hb1.size; first | omega | (simp at h; omega))
  have hz1_0 : W.heap.size < w1.heap.size := (by omega)
  obtain ⟨hc1, hf1, hl1⟩ := bcell hb1
  clear hl1
  go_wp2
  go_ret
  refine ⟨rfl, ?_⟩
  (repeat (first | assumption | exact Below.refl _ _ | refine ba ?_ _ | refine bd ?_ | refine bdn ?_ _ | refine bs ?_ (by first | omega | (simp; done) | (simp; omega)) _ | refine bt ?_ (by assumption)))
theorem refright7_no1 (n d w : Int) (h1 : ¬ Rt n d) : Pure Tryd.prog 47 #[F2 n d, .int .i64 w] (.bool false) := by
  intro W
  have HR := Lib.hid (rright_no n d h1)
  clear h1
  go_enter Tryd.func47, Tryd.ntmps47
  go_wp2_with fail
  (with_reducible refine (HR.out _).mono ?_)
  rintro e w1 ⟨rfl, hb1⟩
  have hs1 : W.heap.size + 1 ≤ w1.heap.size := (by have h := hb1.size; first | omega | (simp at h; omega))
  have hz1_0 : W.heap.size < w1.heap.size := (by omega)
  obtain ⟨hc1, hf1, hl1⟩ := bcell hb1
  clear hl1
  go_wp2
  go_ret
  refine ⟨rfl, ?_⟩
  (repeat (first | assumption | exact Below.refl _ _ | refine ba ?_ _ | refine bd ?_ | refine bdn ?_ _ | refine bs ?_ (by first | omega | (simp; done) | (simp; omega)) _ | refine bt ?_ (by assumption)))
theorem refright7_no2 (n d w : Int) (h1 : 0 ≤ n) (h2 : 1 ≤ d) (h3 : 9007199254740992 < n) : Pure Tryd.prog 47 #[F2 n d, .int .i64 w] (.bool false) := by
  intro W
  have HR := Lib.hid (rright_yes n d h1 h2)
  skip
  go_enter Tryd.func47, Tryd.ntmps47
  go_wp2_with fail
  (with_reducible refine (HR.out _).mono ?_)
  rintro e w1 ⟨rfl, hb1⟩
  have hs1 : W.heap.size + 1 ≤ w1.heap.size := (by have h := hb1.size; first | omega | (simp at h; omega))
  have hz1_0 : W.heap.size < w1.heap.size := (by omega)
  obtain ⟨hc1, hf1, hl1⟩ := bcell hb1
  clear hl1
  go_wp2
  go_ret
  refine ⟨rfl, ?_⟩
  (repeat (first | assumption | exact Below.refl _ _ | refine ba ?_ _ | refine bd ?_ | refine bdn ?_ _ | refine bs ?_ (by first | omega | (simp; done) | (simp; omega)) _ | refine bt ?_ (by assumption)))
theorem refright7_no3 (n d w : Int) (h1 : 0 ≤ n) (h2 : 1 ≤ d) (h3 : n ≤ 9007199254740992) (h4 : 9007199254740992 < d) : Pure Tryd.prog 47 #[F2 n d, .int .i64 w] (.bool false) := by
  intro W
  have HR := Lib.hid (rright_yes n d h1 h2)
  skip
  go_enter Tryd.func47, Tryd.ntmps47
  go_wp2_with fail
  (with_reducible refine (HR.out _).mono ?_)
  rintro e w1 ⟨rfl, hb1⟩
  have hs1 : W.heap.size + 1 ≤ w1.heap.size := (by have h := hb1.size; first | omega | (simp at h; omega))
  have hz1_0 : W.heap.size < w1.heap.size := (by omega)
  obtain ⟨hc1, hf1, hl1⟩ := bcell hb1
  clear hl1
  go_wp2
  go_ret
  refine ⟨rfl, ?_⟩
  (repeat (first | assumption | exact Below.refl _ _ | refine ba ?_ _ | refine bd ?_ | refine bdn ?_ _ | refine bs ?_ (by first | omega | (simp; done) | (simp; omega)) _ | refine bt ?_ (by assumption)))
theorem refright7_no4 (n d w : Int) (h1 : 0 ≤ n) (h2 : 1 ≤ d) (h3 : n ≤ 9007199254740992) (h4 : d ≤ 9007199254740992) (h5 : w < 1) : Pure Tryd.prog 47 #[F2 n d, .int .i64 w] (.bool false) := by
  intro W
  have HR := Lib.hid (rright_yes n d h1 h2)
  skip
  go_enter Tryd.func47, Tryd.ntmps47
  go_wp2_with fail
  (with_reducible refine (HR.out _).mono ?_)
  rintro e w1 ⟨rfl, hb1⟩
  have hs1 : W.heap.size + 1 ≤ w1.heap.size := (by have h := hb1.size; first | omega | (simp at h; omega))
  have hz1_0 : W.heap.size < w1.heap.size := (by omega)
  obtain ⟨hc1, hf1, hl1⟩ := bcell hb1
  clear hl1
  go_wp2
  go_ret
  refine ⟨rfl, ?_⟩
  (repeat (first | assumption | exact Below.refl _ _ | refine ba ?_ _ | refine bd ?_ | refine bdn ?_ _ | refine bs ?_ (by first | omega | (simp; done) | (simp; omega)) _ | refine bt ?_ (by assumption)))
theorem refright7_no5 (n d w : Int) (h1 : 0 ≤ n) (h2 : 1 ≤ d) (h3 : n ≤ 9007199254740992) (h4 : d ≤ 9007199254740992) (h5 : 1 ≤ w) (h6 : 1000 < w) : Pure Tryd.prog 47 #[F2 n d, .int .i64 w] (.bool false) := by
  intro W
  have HR := Lib.hid (rright_yes n d h1 h2)
  skip
  go_enter Tryd.func47, Tryd.ntmps47
  go_wp2_with fail
  (with_reducible refine (HR.out _).mono ?_)
  rintro e w1 ⟨rfl, hb1⟩
  have hs1 : W.heap.size + 1 ≤ w1.heap.size := (by have h := hb1.size; first | omega | (simp at h; omega))
  have hz1_0 : W.heap.size < w1.heap.size := (by omega)
  obtain ⟨hc1, hf1, hl1⟩ := bcell hb1
  clear hl1
  go_wp2
  go_ret
  refine ⟨by show Ending.returned (.bool (decide (w ≤ 1000))) = _; rw [decide_eq_false (by omega)], ?_⟩
  (repeat (first | assumption | exact Below.refl _ _ | refine ba ?_ _ | refine bd ?_ | refine bdn ?_ _ | refine bs ?_ (by first | omega | (simp; done) | (simp; omega)) _ | refine bt ?_ (by assumption)))
theorem refright7_any (n d w : Int) : Pure Tryd.prog 47 #[F2 n d, .int .i64 w] (.bool (decide (SRt n d w))) := by
  by_cases h : Rt n d
  · obtain ⟨h1, h2⟩ := h
    by_cases h3 : n ≤ 9007199254740992
    · by_cases h4 : d ≤ 9007199254740992
      · by_cases h5 : 1 ≤ w
        · by_cases h6 : w ≤ 1000
          · rw [decide_eq_true (show SRt n d w from ⟨h3, h4, ⟨h1, h2⟩, h5, h6⟩)]; exact refright7_yes n d w h1 h2 h3 h4 h5 h6
          · rw [decide_eq_false (fun h : SRt n d w => h6 h.2.2.2.2)]; exact refright7_no5 n d w h1 h2 h3 h4 h5 (by omega)
        · rw [decide_eq_false (fun h : SRt n d w => h5 h.2.2.2.1)]; exact refright7_no4 n d w h1 h2 h3 h4 (by omega)
      · rw [decide_eq_false (fun h : SRt n d w => h4 h.2.1)]; exact refright7_no3 n d w h1 h2 h3 (by omega)
    · rw [decide_eq_false (fun h : SRt n d w => h3 h.1)]; exact refright7_no2 n d w h1 h2 (by omega)
  · rw [decide_eq_false (fun h' : SRt n d w => h ⟨h'.2.2.1.1, h'.2.2.1.2⟩)]; exact refright7_no1 n d w h
set_option maxHeartbeats 4000000 in
theorem shof_walk (a t : Nat → Int) (x n d k : Int) (r : Bool) (hO : Pure Tryd.prog 50 #[S4 a, S4 t, .int .i64 x] (S3 n d x)) (hD : Pure Tryd.prog 51 #[S4 a, S4 t] (.tuple #[.int .i64 k, F2 n d]))
    (hR : Pure Tryd.prog 46 #[S3 n d x] (.bool r)) (hS : Pure Tryd.prog 47 #[F2 n d, .int .i64 x] (.bool r)) :
    Pure Tryd.prog 11 #[S4 a, S4 t, .int .i64 x] (.bool true) := by
  intro w
  have HO := Lib.hid hO; have HD := Lib.hid hD; have HR := Lib.hid hR; have HS := Lib.hid hS
  clear hO hD hR hS
  go_enter Tryd.func11, Tryd.ntmps11
  go_wp2_with fail
  (with_reducible refine (HO.out _).mono ?_)
  rintro e w1 ⟨rfl, hb1⟩
  have hs1 : w.heap.size + 2 ≤ w1.heap.size := (by have h := hb1.size; first | omega | (simp at h; omega))
  have hz1_0 : w.heap.size < w1.heap.size := (by omega)
  have hz1_1 : w.heap.size + 1 < w1.heap.size := (by omega)
  obtain ⟨hc1, hf1, hl1⟩ := bcell hb1
  clear hl1
  go_wp2_with fail
  (with_reducible refine (HD.out _).mono ?_)
  rintro e w2 ⟨rfl, hb2⟩
  have hs2 : w1.heap.size + 1 ≤ w2.heap.size := (by have h := hb2.size; first | omega | (simp at h; omega))
  have hb1_2 := bel hb1 hb2 (by (repeat (first | assumption | exact Below.refl _ _ | refine ba ?_ _ | refine bd ?_ | refine bdn ?_ _ | refine bs ?_ (by first | omega | (simp; done) | (simp; omega)) _ | refine bt ?_ (by assumption))))
  clear hz1_0 hz1_1 hc1 hf1
  obtain ⟨hc1_2, hf1_2, hl1_2⟩ := bcell hb1_2
  clear hl1_2
  have hz2_0 : w.heap.size < w2.heap.size := (by omega)
  have hz2_1 : w.heap.size + 1 < w2.heap.size := (by omega)
  have hz2_2 : w1.heap.size < w2.heap.size := (by omega)
  obtain ⟨hc2, hf2, hl2⟩ := bcell hb2
  clear hl2
  go_wp2_with fail
  refine wp_region_pure (by kernel_rfl) (by kernel_rfl) ?_
  repeat (first | go_big_quiet_step (((first | (go_at_call 46; with_reducible exact HR.out.quiet) | (go_at_call 47; with_reducible exact HS.out.quiet) | (go_at_call 49; with_reducible exact works7.quiet)))) | (quiet_step (((first | (go_at_call 46; with_reducible exact HR.out.quiet) | (go_at_call 47; with_reducible exact HS.out.quiet) | (go_at_call 49; with_reducible exact works7.quiet))))))
  refine wpQuiet_nil ?_
  rintro w3 ⟨x3, hx3⟩
  have hb3 := ext_below _ x3
  rw [← hx3] at hb3
  clear hx3 x3
  have hs3 : w2.heap.size + 1 ≤ w3.heap.size := (by have h := hb3.size; first | omega | (simp at h; omega))
  have hb1_3 := bel hb1_2 hb3 (by (repeat (first | assumption | exact Below.refl _ _ | refine ba ?_ _ | refine bd ?_ | refine bdn ?_ _ | refine bs ?_ (by first | omega | (simp; done) | (simp; omega)) _ | refine bt ?_ (by assumption))))
  have hb2_3 := bel hb2 hb3 (by (repeat (first | assumption | exact Below.refl _ _ | refine ba ?_ _ | refine bd ?_ | refine bdn ?_ _ | refine bs ?_ (by first | omega | (simp; done) | (simp; omega)) _ | refine bt ?_ (by assumption))))
  clear hc1_2 hf1_2 hz2_0 hz2_1 hz2_2 hc2 hf2
  obtain ⟨hc1_3, hf1_3, hl1_3⟩ := bcell hb1_3
  clear hl1_3
  obtain ⟨hc2_3, hf2_3, hl2_3⟩ := bcell hb2_3
  clear hl2_3
  have hz3_0 : w.heap.size < w3.heap.size := (by omega)
  have hz3_1 : w.heap.size + 1 < w3.heap.size := (by omega)
  have hz3_2 : w1.heap.size < w3.heap.size := (by omega)
  have hz3_3 : w2.heap.size < w3.heap.size := (by omega)
  obtain ⟨hc3, hf3, hl3⟩ := bcell hb3
  clear hl3
  go_wp2
  go_ret
  refine ⟨rfl, ?_⟩
  (repeat (first | assumption | exact Below.refl _ _ | refine ba ?_ _ | refine bd ?_ | refine bdn ?_ _ | refine bs ?_ (by first | omega | (simp; done) | (simp; omega)) _ | refine bt ?_ (by assumption)))
theorem shof_any (a t : Nat → Int) (x : Int) : Pure Tryd.prog 11 #[S4 a, S4 t, .int .i64 x] (.bool true) :=
  shof_walk a t x _ _ _ _ (shareof_any a t x) (refdominant_any a t) (sright_any _ _ _) (refright7_any _ _ _)
end Go.Proofs.YtfnfolpdbbnnlaaDoor
