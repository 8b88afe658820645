/- The walk of ShareOrders. -/
import Derived.Test.YtfnfolpdbbnnlaaDoorShare4
import Derived.Test.YtfnfolpdbbnnlaaDoorCmpM
namespace Go.Proofs.YtfnfolpdbbnnlaaDoor
open Go.RowKit
attribute [local go_sem] ext_cell ext_frozen

theorem scmp_swap (an ad aw bn bd bw : Int) : scmp bn bd bw an ad aw = - scmp an ad aw bn bd bw := by
  unfold scmp
  by_cases h1 : SRt an ad aw <;> by_cases h2 : SRt bn bd bw <;> simp [h1, h2]
  exact cmpI_swap _ _
theorem scmp_self (n d w : Int) : scmp n d w n d w = 0 := by unfold scmp; rw [cmpI_self, ite_self]
theorem scmp_bd (an ad aw bn bd bw : Int) : -1 ≤ scmp an ad aw bn bd bw ∧ scmp an ad aw bn bd bw ≤ 1 := by
  unfold scmp; split
  · exact cmpI_bd _ _
  · omega
theorem scmp_rcA {an ad aw bn bd bw : Int} (ha : SRt an ad aw) (hb : SRt bn bd bw) : scmp an ad aw bn bd bw = rcA an (ad * aw) bn (bd * bw) := by
  have ha' := ha; have hb' := hb
  obtain ⟨_, _, ⟨a1, a2⟩, a3, _⟩ := ha
  obtain ⟨_, _, ⟨b1, b2⟩, b3, _⟩ := hb
  have k1 : 1 ≤ ad * aw := by have := Int.mul_le_mul a2 a3 (by decide) (by omega); omega
  have k2 : 1 ≤ bd * bw := by have := Int.mul_le_mul b2 b3 (by decide) (by omega); omega
  unfold scmp rcA rcmp
  rw [if_pos ⟨ha', hb'⟩, if_pos ⟨⟨a1, k1⟩, ⟨b1, k2⟩⟩, Int.mul_assoc, Int.mul_assoc]
theorem srt_rt {n d w : Int} (h : SRt n d w) : 0 ≤ n ∧ 1 ≤ d * w := by
  obtain ⟨_, _, ⟨a1, a2⟩, a3, _⟩ := h
  have := Int.mul_le_mul a2 a3 (by decide) (by omega)
  exact ⟨a1, by omega⟩
theorem scmp_weight {an ad bn bd w : Int} (ha : SRt an ad w) (hb : SRt bn bd w) : scmp an ad w bn bd w = rcA an ad bn bd := by
  have ha' := ha; have hb' := hb
  obtain ⟨_, _, a1, a3, _⟩ := ha
  obtain ⟨_, _, b1, _, _⟩ := hb
  unfold scmp rcA rcmp cmpI
  rw [if_pos ⟨ha', hb'⟩, if_pos (show (0 ≤ an ∧ 1 ≤ ad) ∧ (0 ≤ bn ∧ 1 ≤ bd) from ⟨a1, b1⟩)]
  have hlt : ∀ p q : Int, p * w < q * w ↔ p < q := fun p q => ⟨fun h => Int.lt_of_mul_lt_mul_right h (by omega), fun h => Int.mul_lt_mul_of_pos_right h (by omega)⟩
  simp only [hlt]
def Ok3 (ra rb rc : Bool) (x y z : Int) : Prop := ra = false ∨ rb = false ∨ rc = false ∨ 0 < x ∨ 0 < y ∨ z < 0 ∨ z = 0 ∧ x = 0 ∧ y = 0
set_option maxHeartbeats 4000000 in
theorem sorders_walk (an ad aw bn bd bw cn cd cw x y z q : Int) (ra rb rc : Bool)
    (hx : -1 ≤ x ∧ x ≤ 1) (hy : -1 ≤ y ∧ y ≤ 1) (hz : -1 ≤ z ∧ z ≤ 1)
    (hab : Pure Tryd.prog 44 #[S3 an ad aw, S3 bn bd bw] (.int .i64 x)) (hbc : Pure Tryd.prog 44 #[S3 bn bd bw, S3 cn cd cw] (.int .i64 y)) (hac : Pure Tryd.prog 44 #[S3 an ad aw, S3 cn cd cw] (.int .i64 z))
    (hba : Pure Tryd.prog 44 #[S3 bn bd bw, S3 an ad aw] (.int .i64 (-x))) (haa : Pure Tryd.prog 44 #[S3 an ad aw, S3 an ad aw] (.int .i64 0))
    (rA : Pure Tryd.prog 46 #[S3 an ad aw] (.bool ra)) (rB : Pure Tryd.prog 46 #[S3 bn bd bw] (.bool rb)) (rC : Pure Tryd.prog 46 #[S3 cn cd cw] (.bool rc))
    (hr : Pure Tryd.prog 52 #[F2 an ad, F2 bn bd] (.int .i64 q)) (hwt : (aw != bw) = true ∨ aw = bw)
    (hq : aw = bw → q = x ∨ ra = false ∨ rb = false)
    (hw : Ok3 ra rb rc x y z) :
    Pure Tryd.prog 12 #[S3 an ad aw, S3 bn bd bw, S3 cn cd cw] (.bool true) := by
  intro W
  obtain ⟨hx1, hx2⟩ := hx; obtain ⟨hy1, hy2⟩ := hy; obtain ⟨hz1, hz2⟩ := hz
  have HAB := Lib.hid hab; have HBC := Lib.hid hbc; have HAC := Lib.hid hac; have HBA := Lib.hid hba; have HAA := Lib.hid haa
  have RA := Lib.hid rA; have RB := Lib.hid rB; have RC := Lib.hid rC; have HW := Lib.hid hw; have HR := Lib.hid hr; have HQ := Lib.hid hq; have HWT := Lib.hid hwt
  clear hab hbc hac hba haa rA rB rC hw hr hq hwt
  have hne : ((-x : Int) != -x) = false := by simp
  go_enter Tryd.func12, Tryd.ntmps12
  go_wp2
  refine wp_region_pure (by kernel_rfl) (by kernel_rfl) ?_
  repeat (first | go_big_quiet_step (((first | (go_at_call 44; with_reducible exact HAB.out.quiet) | (go_at_call 44; with_reducible exact HBC.out.quiet) | (go_at_call 44; with_reducible exact HAC.out.quiet)))) | (quiet_step (((first | (go_at_call 44; with_reducible exact HAB.out.quiet) | (go_at_call 44; with_reducible exact HBC.out.quiet) | (go_at_call 44; with_reducible exact HAC.out.quiet))))))
  refine wpQuiet_nil ?_
  rintro w1 ⟨x1, hx1⟩
  have hb1 := ext_below _ x1
  rw [← hx1] at hb1
  clear hx1 x1
  have hs1 : W.heap.size + 3 ≤ w1.heap.size := (by have h := hb1.size; first | omega | (simp at h; omega))
  have hz1_0 : W.heap.size < w1.heap.size := (by omega)
  have hz1_1 : W.heap.size + 1 < w1.heap.size := (by omega)
  have hz1_2 : W.heap.size + 2 < w1.heap.size := (by omega)
  obtain ⟨hc1, hf1, hl1⟩ := bcell hb1
  clear hl1
  go_wp2_with fail
  (with_reducible refine (HBA.out _).mono ?_)
  rintro e w2 ⟨rfl, hb2⟩
  have hs2 : w1.heap.size + 0 ≤ w2.heap.size := (by have h := hb2.size; first | omega | (simp at h; omega))
  have hb1_2 := bel hb1 hb2 (by (repeat (first | assumption | exact Below.refl _ _ | refine ba ?_ _ | refine bd ?_ | refine bdn ?_ _ | refine bs ?_ (by first | omega | (simp; done) | (simp; omega)) _ | refine bt ?_ (by assumption))))
  clear hz1_0 hz1_1 hz1_2 hc1 hf1
  obtain ⟨hc1_2, hf1_2, hl1_2⟩ := bcell hb1_2
  clear hl1_2
  have hz2_0 : W.heap.size < w2.heap.size := (by omega)
  have hz2_1 : W.heap.size + 1 < w2.heap.size := (by omega)
  have hz2_2 : W.heap.size + 2 < w2.heap.size := (by omega)
  obtain ⟨hc2, hf2, hl2⟩ := bcell hb2
  clear hl2
  go_wp2_with fail
  (with_reducible refine (HAA.out _).mono ?_)
  rintro e w3 ⟨rfl, hb3⟩
  have hs3 : w2.heap.size + 0 ≤ w3.heap.size := (by have h := hb3.size; first | omega | (simp at h; omega))
  have hb1_3 := bel hb1_2 hb3 (by (repeat (first | assumption | exact Below.refl _ _ | refine ba ?_ _ | refine bd ?_ | refine bdn ?_ _ | refine bs ?_ (by first | omega | (simp; done) | (simp; omega)) _ | refine bt ?_ (by assumption))))
  have hb2_3 := bel hb2 hb3 (by (repeat (first | assumption | exact Below.refl _ _ | refine ba ?_ _ | refine bd ?_ | refine bdn ?_ _ | refine bs ?_ (by first | omega | (simp; done) | (simp; omega)) _ | refine bt ?_ (by assumption))))
  clear hc1_2 hf1_2 hz2_0 hz2_1 hz2_2 hc2 hf2
  obtain ⟨hc1_3, hf1_3, hl1_3⟩ := bcell hb1_3
  clear hl1_3
  have hz3_0 : W.heap.size < w3.heap.size := (by omega)
  have hz3_1 : W.heap.size + 1 < w3.heap.size := (by omega)
  have hz3_2 : W.heap.size + 2 < w3.heap.size := (by omega)
  obtain ⟨hc3, hf3, hl3⟩ := bcell hb3
  clear hl3
  go_wp2_with fail
  (with_reducible refine (RA.out _).mono ?_)
  rintro e w4 ⟨rfl, hb4⟩
  have hs4 : w3.heap.size + 0 ≤ w4.heap.size := (by have h := hb4.size; first | omega | (simp at h; omega))
  have hb1_4 := bel hb1_3 hb4 (by (repeat (first | assumption | exact Below.refl _ _ | refine ba ?_ _ | refine bd ?_ | refine bdn ?_ _ | refine bs ?_ (by first | omega | (simp; done) | (simp; omega)) _ | refine bt ?_ (by assumption))))
  have hb2_4 := bel hb2_3 hb4 (by (repeat (first | assumption | exact Below.refl _ _ | refine ba ?_ _ | refine bd ?_ | refine bdn ?_ _ | refine bs ?_ (by first | omega | (simp; done) | (simp; omega)) _ | refine bt ?_ (by assumption))))
  have hb3_4 := bel hb3 hb4 (by (repeat (first | assumption | exact Below.refl _ _ | refine ba ?_ _ | refine bd ?_ | refine bdn ?_ _ | refine bs ?_ (by first | omega | (simp; done) | (simp; omega)) _ | refine bt ?_ (by assumption))))
  clear hc1_3 hf1_3 hz3_0 hz3_1 hz3_2 hc3 hf3
  obtain ⟨hc1_4, hf1_4, hl1_4⟩ := bcell hb1_4
  clear hl1_4
  have hz4_0 : W.heap.size < w4.heap.size := (by omega)
  have hz4_1 : W.heap.size + 1 < w4.heap.size := (by omega)
  have hz4_2 : W.heap.size + 2 < w4.heap.size := (by omega)
  obtain ⟨hc4, hf4, hl4⟩ := bcell hb4
  clear hl4
  cases ra
  · go_wp2_with fail
    (with_reducible refine (works7 _).mono ?_)
    rintro e w5 ⟨rfl, hb5⟩
    have hs5 : w4.heap.size + 0 ≤ w5.heap.size := (by have h := hb5.size; first | omega | (simp at h; omega))
    have hb1_5 := bel hb1_4 hb5 (by (repeat (first | assumption | exact Below.refl _ _ | refine ba ?_ _ | refine bd ?_ | refine bdn ?_ _ | refine bs ?_ (by first | omega | (simp; done) | (simp; omega)) _ | refine bt ?_ (by assumption))))
    have hb2_5 := bel hb2_4 hb5 (by (repeat (first | assumption | exact Below.refl _ _ | refine ba ?_ _ | refine bd ?_ | refine bdn ?_ _ | refine bs ?_ (by first | omega | (simp; done) | (simp; omega)) _ | refine bt ?_ (by assumption))))
    have hb3_5 := bel hb3_4 hb5 (by (repeat (first | assumption | exact Below.refl _ _ | refine ba ?_ _ | refine bd ?_ | refine bdn ?_ _ | refine bs ?_ (by first | omega | (simp; done) | (simp; omega)) _ | refine bt ?_ (by assumption))))
    have hb4_5 := bel hb4 hb5 (by (repeat (first | assumption | exact Below.refl _ _ | refine ba ?_ _ | refine bd ?_ | refine bdn ?_ _ | refine bs ?_ (by first | omega | (simp; done) | (simp; omega)) _ | refine bt ?_ (by assumption))))
    clear hc1_4 hf1_4 hz4_0 hz4_1 hz4_2 hc4 hf4
    obtain ⟨hc1_5, hf1_5, hl1_5⟩ := bcell hb1_5
    clear hl1_5
    have hz5_0 : W.heap.size < w5.heap.size := (by omega)
    have hz5_1 : W.heap.size + 1 < w5.heap.size := (by omega)
    have hz5_2 : W.heap.size + 2 < w5.heap.size := (by omega)
    obtain ⟨hc5, hf5, hl5⟩ := bcell hb5
    clear hl5
    go_wp2
    go_ret
    refine ⟨rfl, ?_⟩
    (repeat (first | assumption | exact Below.refl _ _ | refine ba ?_ _ | refine bd ?_ | refine bdn ?_ _ | refine bs ?_ (by first | omega | (simp; done) | (simp; omega)) _ | refine bt ?_ (by assumption)))
  go_wp2_with fail
  (with_reducible refine (RB.out _).mono ?_)
  rintro e w5 ⟨rfl, hb5⟩
  have hs5 : w4.heap.size + 0 ≤ w5.heap.size := (by have h := hb5.size; first | omega | (simp at h; omega))
  have hb1_5 := bel hb1_4 hb5 (by (repeat (first | assumption | exact Below.refl _ _ | refine ba ?_ _ | refine bd ?_ | refine bdn ?_ _ | refine bs ?_ (by first | omega | (simp; done) | (simp; omega)) _ | refine bt ?_ (by assumption))))
  have hb2_5 := bel hb2_4 hb5 (by (repeat (first | assumption | exact Below.refl _ _ | refine ba ?_ _ | refine bd ?_ | refine bdn ?_ _ | refine bs ?_ (by first | omega | (simp; done) | (simp; omega)) _ | refine bt ?_ (by assumption))))
  have hb3_5 := bel hb3_4 hb5 (by (repeat (first | assumption | exact Below.refl _ _ | refine ba ?_ _ | refine bd ?_ | refine bdn ?_ _ | refine bs ?_ (by first | omega | (simp; done) | (simp; omega)) _ | refine bt ?_ (by assumption))))
  have hb4_5 := bel hb4 hb5 (by (repeat (first | assumption | exact Below.refl _ _ | refine ba ?_ _ | refine bd ?_ | refine bdn ?_ _ | refine bs ?_ (by first | omega | (simp; done) | (simp; omega)) _ | refine bt ?_ (by assumption))))
  clear hc1_4 hf1_4 hz4_0 hz4_1 hz4_2 hc4 hf4
  obtain ⟨hc1_5, hf1_5, hl1_5⟩ := bcell hb1_5
  clear hl1_5
  have hz5_0 : W.heap.size < w5.heap.size := (by omega)
  have hz5_1 : W.heap.size + 1 < w5.heap.size := (by omega)
  have hz5_2 : W.heap.size + 2 < w5.heap.size := (by omega)
  obtain ⟨hc5, hf5, hl5⟩ := bcell hb5
  clear hl5
  cases rb
  · go_wp2_with fail
    (with_reducible refine (works7 _).mono ?_)
    rintro e w6 ⟨rfl, hb6⟩
    have hs6 : w5.heap.size + 0 ≤ w6.heap.size := (by have h := hb6.size; first | omega | (simp at h; omega))
    have hb1_6 := bel hb1_5 hb6 (by (repeat (first | assumption | exact Below.refl _ _ | refine ba ?_ _ | refine bd ?_ | refine bdn ?_ _ | refine bs ?_ (by first | omega | (simp; done) | (simp; omega)) _ | refine bt ?_ (by assumption))))
    have hb2_6 := bel hb2_5 hb6 (by (repeat (first | assumption | exact Below.refl _ _ | refine ba ?_ _ | refine bd ?_ | refine bdn ?_ _ | refine bs ?_ (by first | omega | (simp; done) | (simp; omega)) _ | refine bt ?_ (by assumption))))
    have hb3_6 := bel hb3_5 hb6 (by (repeat (first | assumption | exact Below.refl _ _ | refine ba ?_ _ | refine bd ?_ | refine bdn ?_ _ | refine bs ?_ (by first | omega | (simp; done) | (simp; omega)) _ | refine bt ?_ (by assumption))))
    have hb4_6 := bel hb4_5 hb6 (by (repeat (first | assumption | exact Below.refl _ _ | refine ba ?_ _ | refine bd ?_ | refine bdn ?_ _ | refine bs ?_ (by first | omega | (simp; done) | (simp; omega)) _ | refine bt ?_ (by assumption))))
    have hb5_6 := bel hb5 hb6 (by (repeat (first | assumption | exact Below.refl _ _ | refine ba ?_ _ | refine bd ?_ | refine bdn ?_ _ | refine bs ?_ (by first | omega | (simp; done) | (simp; omega)) _ | refine bt ?_ (by assumption))))
    clear hc1_5 hf1_5 hz5_0 hz5_1 hz5_2 hc5 hf5
    obtain ⟨hc1_6, hf1_6, hl1_6⟩ := bcell hb1_6
    clear hl1_6
    have hz6_0 : W.heap.size < w6.heap.size := (by omega)
    have hz6_1 : W.heap.size + 1 < w6.heap.size := (by omega)
    have hz6_2 : W.heap.size + 2 < w6.heap.size := (by omega)
    obtain ⟨hc6, hf6, hl6⟩ := bcell hb6
    clear hl6
    go_wp2
    go_ret
    refine ⟨rfl, ?_⟩
    (repeat (first | assumption | exact Below.refl _ _ | refine ba ?_ _ | refine bd ?_ | refine bdn ?_ _ | refine bs ?_ (by first | omega | (simp; done) | (simp; omega)) _ | refine bt ?_ (by assumption)))
  go_wp2_with fail
  (with_reducible refine (RC.out _).mono ?_)
  rintro e w6 ⟨rfl, hb6⟩
  have hs6 : w5.heap.size + 0 ≤ w6.heap.size := (by have h := hb6.size; first | omega | (simp at h; omega))
  have hb1_6 := bel hb1_5 hb6 (by (repeat (first | assumption | exact Below.refl _ _ | refine ba ?_ _ | refine bd ?_ | refine bdn ?_ _ | refine bs ?_ (by first | omega | (simp; done) | (simp; omega)) _ | refine bt ?_ (by assumption))))
  have hb2_6 := bel hb2_5 hb6 (by (repeat (first | assumption | exact Below.refl _ _ | refine ba ?_ _ | refine bd ?_ | refine bdn ?_ _ | refine bs ?_ (by first | omega | (simp; done) | (simp; omega)) _ | refine bt ?_ (by assumption))))
  have hb3_6 := bel hb3_5 hb6 (by (repeat (first | assumption | exact Below.refl _ _ | refine ba ?_ _ | refine bd ?_ | refine bdn ?_ _ | refine bs ?_ (by first | omega | (simp; done) | (simp; omega)) _ | refine bt ?_ (by assumption))))
  have hb4_6 := bel hb4_5 hb6 (by (repeat (first | assumption | exact Below.refl _ _ | refine ba ?_ _ | refine bd ?_ | refine bdn ?_ _ | refine bs ?_ (by first | omega | (simp; done) | (simp; omega)) _ | refine bt ?_ (by assumption))))
  have hb5_6 := bel hb5 hb6 (by (repeat (first | assumption | exact Below.refl _ _ | refine ba ?_ _ | refine bd ?_ | refine bdn ?_ _ | refine bs ?_ (by first | omega | (simp; done) | (simp; omega)) _ | refine bt ?_ (by assumption))))
  clear hc1_5 hf1_5 hz5_0 hz5_1 hz5_2 hc5 hf5
  obtain ⟨hc1_6, hf1_6, hl1_6⟩ := bcell hb1_6
  clear hl1_6
  have hz6_0 : W.heap.size < w6.heap.size := (by omega)
  have hz6_1 : W.heap.size + 1 < w6.heap.size := (by omega)
  have hz6_2 : W.heap.size + 2 < w6.heap.size := (by omega)
  obtain ⟨hc6, hf6, hl6⟩ := bcell hb6
  clear hl6
  cases rc
  · go_wp2_with fail
    (with_reducible refine (works7 _).mono ?_)
    rintro e w7 ⟨rfl, hb7⟩
    have hs7 : w6.heap.size + 0 ≤ w7.heap.size := (by have h := hb7.size; first | omega | (simp at h; omega))
    have hb1_7 := bel hb1_6 hb7 (by (repeat (first | assumption | exact Below.refl _ _ | refine ba ?_ _ | refine bd ?_ | refine bdn ?_ _ | refine bs ?_ (by first | omega | (simp; done) | (simp; omega)) _ | refine bt ?_ (by assumption))))
    have hb2_7 := bel hb2_6 hb7 (by (repeat (first | assumption | exact Below.refl _ _ | refine ba ?_ _ | refine bd ?_ | refine bdn ?_ _ | refine bs ?_ (by first | omega | (simp; done) | (simp; omega)) _ | refine bt ?_ (by assumption))))
    have hb3_7 := bel hb3_6 hb7 (by (repeat (first | assumption | exact Below.refl _ _ | refine ba ?_ _ | refine bd ?_ | refine bdn ?_ _ | refine bs ?_ (by first | omega | (simp; done) | (simp; omega)) _ | refine bt ?_ (by assumption))))
    have hb4_7 := bel hb4_6 hb7 (by (repeat (first | assumption | exact Below.refl _ _ | refine ba ?_ _ | refine bd ?_ | refine bdn ?_ _ | refine bs ?_ (by first | omega | (simp; done) | (simp; omega)) _ | refine bt ?_ (by assumption))))
    have hb5_7 := bel hb5_6 hb7 (by (repeat (first | assumption | exact Below.refl _ _ | refine ba ?_ _ | refine bd ?_ | refine bdn ?_ _ | refine bs ?_ (by first | omega | (simp; done) | (simp; omega)) _ | refine bt ?_ (by assumption))))
    have hb6_7 := bel hb6 hb7 (by (repeat (first | assumption | exact Below.refl _ _ | refine ba ?_ _ | refine bd ?_ | refine bdn ?_ _ | refine bs ?_ (by first | omega | (simp; done) | (simp; omega)) _ | refine bt ?_ (by assumption))))
    clear hc1_6 hf1_6 hz6_0 hz6_1 hz6_2 hc6 hf6
    obtain ⟨hc1_7, hf1_7, hl1_7⟩ := bcell hb1_7
    clear hl1_7
    have hz7_0 : W.heap.size < w7.heap.size := (by omega)
    have hz7_1 : W.heap.size + 1 < w7.heap.size := (by omega)
    have hz7_2 : W.heap.size + 2 < w7.heap.size := (by omega)
    obtain ⟨hc7, hf7, hl7⟩ := bcell hb7
    clear hl7
    go_wp2
    go_ret
    refine ⟨rfl, ?_⟩
    (repeat (first | assumption | exact Below.refl _ _ | refine ba ?_ _ | refine bd ?_ | refine bdn ?_ _ | refine bs ?_ (by first | omega | (simp; done) | (simp; omega)) _ | refine bt ?_ (by assumption)))
  have hxe : ((x == x) : Bool) = true := by simp
  have HE : aw = bw → q = x := fun h => by rcases HQ.out h with h | h | h <;> first | exact h | cases h
  have HEH := Lib.hid HE
  clear HE HQ
  rcases HWT.out with hd | rfl
  · skip
    by_cases hxp : 0 < x
    · go_wp2_with fail
      (with_reducible refine (works7 _).mono ?_)
      rintro e w7 ⟨rfl, hb7⟩
      have hs7 : w6.heap.size + 0 ≤ w7.heap.size := (by have h := hb7.size; first | omega | (simp at h; omega))
      have hb1_7 := bel hb1_6 hb7 (by (repeat (first | assumption | exact Below.refl _ _ | refine ba ?_ _ | refine bd ?_ | refine bdn ?_ _ | refine bs ?_ (by first | omega | (simp; done) | (simp; omega)) _ | refine bt ?_ (by assumption))))
      have hb2_7 := bel hb2_6 hb7 (by (repeat (first | assumption | exact Below.refl _ _ | refine ba ?_ _ | refine bd ?_ | refine bdn ?_ _ | refine bs ?_ (by first | omega | (simp; done) | (simp; omega)) _ | refine bt ?_ (by assumption))))
      have hb3_7 := bel hb3_6 hb7 (by (repeat (first | assumption | exact Below.refl _ _ | refine ba ?_ _ | refine bd ?_ | refine bdn ?_ _ | refine bs ?_ (by first | omega | (simp; done) | (simp; omega)) _ | refine bt ?_ (by assumption))))
      have hb4_7 := bel hb4_6 hb7 (by (repeat (first | assumption | exact Below.refl _ _ | refine ba ?_ _ | refine bd ?_ | refine bdn ?_ _ | refine bs ?_ (by first | omega | (simp; done) | (simp; omega)) _ | refine bt ?_ (by assumption))))
      have hb5_7 := bel hb5_6 hb7 (by (repeat (first | assumption | exact Below.refl _ _ | refine ba ?_ _ | refine bd ?_ | refine bdn ?_ _ | refine bs ?_ (by first | omega | (simp; done) | (simp; omega)) _ | refine bt ?_ (by assumption))))
      have hb6_7 := bel hb6 hb7 (by (repeat (first | assumption | exact Below.refl _ _ | refine ba ?_ _ | refine bd ?_ | refine bdn ?_ _ | refine bs ?_ (by first | omega | (simp; done) | (simp; omega)) _ | refine bt ?_ (by assumption))))
      clear hc1_6 hf1_6 hz6_0 hz6_1 hz6_2 hc6 hf6
      obtain ⟨hc1_7, hf1_7, hl1_7⟩ := bcell hb1_7
      clear hl1_7
      have hz7_0 : W.heap.size < w7.heap.size := (by omega)
      have hz7_1 : W.heap.size + 1 < w7.heap.size := (by omega)
      have hz7_2 : W.heap.size + 2 < w7.heap.size := (by omega)
      obtain ⟨hc7, hf7, hl7⟩ := bcell hb7
      clear hl7
      go_wp2
      go_ret
      refine ⟨rfl, ?_⟩
      (repeat (first | assumption | exact Below.refl _ _ | refine ba ?_ _ | refine bd ?_ | refine bdn ?_ _ | refine bs ?_ (by first | omega | (simp; done) | (simp; omega)) _ | refine bt ?_ (by assumption)))
    by_cases hyp : 0 < y
    · go_wp2_with fail
      (with_reducible refine (works7 _).mono ?_)
      rintro e w7 ⟨rfl, hb7⟩
      have hs7 : w6.heap.size + 0 ≤ w7.heap.size := (by have h := hb7.size; first | omega | (simp at h; omega))
      have hb1_7 := bel hb1_6 hb7 (by (repeat (first | assumption | exact Below.refl _ _ | refine ba ?_ _ | refine bd ?_ | refine bdn ?_ _ | refine bs ?_ (by first | omega | (simp; done) | (simp; omega)) _ | refine bt ?_ (by assumption))))
      have hb2_7 := bel hb2_6 hb7 (by (repeat (first | assumption | exact Below.refl _ _ | refine ba ?_ _ | refine bd ?_ | refine bdn ?_ _ | refine bs ?_ (by first | omega | (simp; done) | (simp; omega)) _ | refine bt ?_ (by assumption))))
      have hb3_7 := bel hb3_6 hb7 (by (repeat (first | assumption | exact Below.refl _ _ | refine ba ?_ _ | refine bd ?_ | refine bdn ?_ _ | refine bs ?_ (by first | omega | (simp; done) | (simp; omega)) _ | refine bt ?_ (by assumption))))
      have hb4_7 := bel hb4_6 hb7 (by (repeat (first | assumption | exact Below.refl _ _ | refine ba ?_ _ | refine bd ?_ | refine bdn ?_ _ | refine bs ?_ (by first | omega | (simp; done) | (simp; omega)) _ | refine bt ?_ (by assumption))))
      have hb5_7 := bel hb5_6 hb7 (by (repeat (first | assumption | exact Below.refl _ _ | refine ba ?_ _ | refine bd ?_ | refine bdn ?_ _ | refine bs ?_ (by first | omega | (simp; done) | (simp; omega)) _ | refine bt ?_ (by assumption))))
      have hb6_7 := bel hb6 hb7 (by (repeat (first | assumption | exact Below.refl _ _ | refine ba ?_ _ | refine bd ?_ | refine bdn ?_ _ | refine bs ?_ (by first | omega | (simp; done) | (simp; omega)) _ | refine bt ?_ (by assumption))))
      clear hc1_6 hf1_6 hz6_0 hz6_1 hz6_2 hc6 hf6
      obtain ⟨hc1_7, hf1_7, hl1_7⟩ := bcell hb1_7
      clear hl1_7
      have hz7_0 : W.heap.size < w7.heap.size := (by omega)
      have hz7_1 : W.heap.size + 1 < w7.heap.size := (by omega)
      have hz7_2 : W.heap.size + 2 < w7.heap.size := (by omega)
      obtain ⟨hc7, hf7, hl7⟩ := bcell hb7
      clear hl7
      go_wp2
      go_ret
      refine ⟨rfl, ?_⟩
      (repeat (first | assumption | exact Below.refl _ _ | refine ba ?_ _ | refine bd ?_ | refine bdn ?_ _ | refine bs ?_ (by first | omega | (simp; done) | (simp; omega)) _ | refine bt ?_ (by assumption)))
    have hxn : x ≤ 0 := by omega
    have hyn : y ≤ 0 := by omega
    by_cases hzn : z < 0
    · have hz0 : (z == 0) = false := by simp; omega
      go_wp2_with fail
      (with_reducible refine (works7 _).mono ?_)
      rintro e w7 ⟨rfl, hb7⟩
      have hs7 : w6.heap.size + 0 ≤ w7.heap.size := (by have h := hb7.size; first | omega | (simp at h; omega))
      have hb1_7 := bel hb1_6 hb7 (by (repeat (first | assumption | exact Below.refl _ _ | refine ba ?_ _ | refine bd ?_ | refine bdn ?_ _ | refine bs ?_ (by first | omega | (simp; done) | (simp; omega)) _ | refine bt ?_ (by assumption))))
      have hb2_7 := bel hb2_6 hb7 (by (repeat (first | assumption | exact Below.refl _ _ | refine ba ?_ _ | refine bd ?_ | refine bdn ?_ _ | refine bs ?_ (by first | omega | (simp; done) | (simp; omega)) _ | refine bt ?_ (by assumption))))
      have hb3_7 := bel hb3_6 hb7 (by (repeat (first | assumption | exact Below.refl _ _ | refine ba ?_ _ | refine bd ?_ | refine bdn ?_ _ | refine bs ?_ (by first | omega | (simp; done) | (simp; omega)) _ | refine bt ?_ (by assumption))))
      have hb4_7 := bel hb4_6 hb7 (by (repeat (first | assumption | exact Below.refl _ _ | refine ba ?_ _ | refine bd ?_ | refine bdn ?_ _ | refine bs ?_ (by first | omega | (simp; done) | (simp; omega)) _ | refine bt ?_ (by assumption))))
      have hb5_7 := bel hb5_6 hb7 (by (repeat (first | assumption | exact Below.refl _ _ | refine ba ?_ _ | refine bd ?_ | refine bdn ?_ _ | refine bs ?_ (by first | omega | (simp; done) | (simp; omega)) _ | refine bt ?_ (by assumption))))
      have hb6_7 := bel hb6 hb7 (by (repeat (first | assumption | exact Below.refl _ _ | refine ba ?_ _ | refine bd ?_ | refine bdn ?_ _ | refine bs ?_ (by first | omega | (simp; done) | (simp; omega)) _ | refine bt ?_ (by assumption))))
      clear hc1_6 hf1_6 hz6_0 hz6_1 hz6_2 hc6 hf6
      obtain ⟨hc1_7, hf1_7, hl1_7⟩ := bcell hb1_7
      clear hl1_7
      have hz7_0 : W.heap.size < w7.heap.size := (by omega)
      have hz7_1 : W.heap.size + 1 < w7.heap.size := (by omega)
      have hz7_2 : W.heap.size + 2 < w7.heap.size := (by omega)
      obtain ⟨hc7, hf7, hl7⟩ := bcell hb7
      clear hl7
      go_wp2
      go_ret
      refine ⟨rfl, ?_⟩
      (repeat (first | assumption | exact Below.refl _ _ | refine ba ?_ _ | refine bd ?_ | refine bdn ?_ _ | refine bs ?_ (by first | omega | (simp; done) | (simp; omega)) _ | refine bt ?_ (by assumption)))
    · have hw := HW.out
      unfold Ok3 at hw
      obtain ⟨rfl, rfl, rfl⟩ : z = 0 ∧ x = 0 ∧ y = 0 := by simp at hw; omega
      clear hw
      go_wp2_with fail
      (with_reducible refine (works7 _).mono ?_)
      rintro e w7 ⟨rfl, hb7⟩
      have hs7 : w6.heap.size + 0 ≤ w7.heap.size := (by have h := hb7.size; first | omega | (simp at h; omega))
      have hb1_7 := bel hb1_6 hb7 (by (repeat (first | assumption | exact Below.refl _ _ | refine ba ?_ _ | refine bd ?_ | refine bdn ?_ _ | refine bs ?_ (by first | omega | (simp; done) | (simp; omega)) _ | refine bt ?_ (by assumption))))
      have hb2_7 := bel hb2_6 hb7 (by (repeat (first | assumption | exact Below.refl _ _ | refine ba ?_ _ | refine bd ?_ | refine bdn ?_ _ | refine bs ?_ (by first | omega | (simp; done) | (simp; omega)) _ | refine bt ?_ (by assumption))))
      have hb3_7 := bel hb3_6 hb7 (by (repeat (first | assumption | exact Below.refl _ _ | refine ba ?_ _ | refine bd ?_ | refine bdn ?_ _ | refine bs ?_ (by first | omega | (simp; done) | (simp; omega)) _ | refine bt ?_ (by assumption))))
      have hb4_7 := bel hb4_6 hb7 (by (repeat (first | assumption | exact Below.refl _ _ | refine ba ?_ _ | refine bd ?_ | refine bdn ?_ _ | refine bs ?_ (by first | omega | (simp; done) | (simp; omega)) _ | refine bt ?_ (by assumption))))
      have hb5_7 := bel hb5_6 hb7 (by (repeat (first | assumption | exact Below.refl _ _ | refine ba ?_ _ | refine bd ?_ | refine bdn ?_ _ | refine bs ?_ (by first | omega | (simp; done) | (simp; omega)) _ | refine bt ?_ (by assumption))))
      have hb6_7 := bel hb6 hb7 (by (repeat (first | assumption | exact Below.refl _ _ | refine ba ?_ _ | refine bd ?_ | refine bdn ?_ _ | refine bs ?_ (by first | omega | (simp; done) | (simp; omega)) _ | refine bt ?_ (by assumption))))
      clear hc1_6 hf1_6 hz6_0 hz6_1 hz6_2 hc6 hf6
      obtain ⟨hc1_7, hf1_7, hl1_7⟩ := bcell hb1_7
      clear hl1_7
      have hz7_0 : W.heap.size < w7.heap.size := (by omega)
      have hz7_1 : W.heap.size + 1 < w7.heap.size := (by omega)
      have hz7_2 : W.heap.size + 2 < w7.heap.size := (by omega)
      obtain ⟨hc7, hf7, hl7⟩ := bcell hb7
      clear hl7
      go_wp2
      go_ret
      refine ⟨rfl, ?_⟩
      (repeat (first | assumption | exact Below.refl _ _ | refine ba ?_ _ | refine bd ?_ | refine bdn ?_ _ | refine bs ?_ (by first | omega | (simp; done) | (simp; omega)) _ | refine bt ?_ (by assumption)))
  · obtain rfl : x = q := (HEH.out rfl).symm
    have hwe : ((aw != aw) : Bool) = false := by simp
    by_cases hxp : 0 < x
    · go_wp2_with fail
      (with_reducible refine (HR.out _).mono ?_)
      rintro e w7 ⟨rfl, hb7⟩
      have hs7 : w6.heap.size + 0 ≤ w7.heap.size := (by have h := hb7.size; first | omega | (simp at h; omega))
      have hb1_7 := bel hb1_6 hb7 (by (repeat (first | assumption | exact Below.refl _ _ | refine ba ?_ _ | refine bd ?_ | refine bdn ?_ _ | refine bs ?_ (by first | omega | (simp; done) | (simp; omega)) _ | refine bt ?_ (by assumption))))
      have hb2_7 := bel hb2_6 hb7 (by (repeat (first | assumption | exact Below.refl _ _ | refine ba ?_ _ | refine bd ?_ | refine bdn ?_ _ | refine bs ?_ (by first | omega | (simp; done) | (simp; omega)) _ | refine bt ?_ (by assumption))))
      have hb3_7 := bel hb3_6 hb7 (by (repeat (first | assumption | exact Below.refl _ _ | refine ba ?_ _ | refine bd ?_ | refine bdn ?_ _ | refine bs ?_ (by first | omega | (simp; done) | (simp; omega)) _ | refine bt ?_ (by assumption))))
      have hb4_7 := bel hb4_6 hb7 (by (repeat (first | assumption | exact Below.refl _ _ | refine ba ?_ _ | refine bd ?_ | refine bdn ?_ _ | refine bs ?_ (by first | omega | (simp; done) | (simp; omega)) _ | refine bt ?_ (by assumption))))
      have hb5_7 := bel hb5_6 hb7 (by (repeat (first | assumption | exact Below.refl _ _ | refine ba ?_ _ | refine bd ?_ | refine bdn ?_ _ | refine bs ?_ (by first | omega | (simp; done) | (simp; omega)) _ | refine bt ?_ (by assumption))))
      have hb6_7 := bel hb6 hb7 (by (repeat (first | assumption | exact Below.refl _ _ | refine ba ?_ _ | refine bd ?_ | refine bdn ?_ _ | refine bs ?_ (by first | omega | (simp; done) | (simp; omega)) _ | refine bt ?_ (by assumption))))
      clear hc1_6 hf1_6 hz6_0 hz6_1 hz6_2 hc6 hf6
      obtain ⟨hc1_7, hf1_7, hl1_7⟩ := bcell hb1_7
      clear hl1_7
      have hz7_0 : W.heap.size < w7.heap.size := (by omega)
      have hz7_1 : W.heap.size + 1 < w7.heap.size := (by omega)
      have hz7_2 : W.heap.size + 2 < w7.heap.size := (by omega)
      obtain ⟨hc7, hf7, hl7⟩ := bcell hb7
      clear hl7
      go_wp2_with fail
      (with_reducible refine (works7 _).mono ?_)
      rintro e w8 ⟨rfl, hb8⟩
      have hs8 : w7.heap.size + 0 ≤ w8.heap.size := (by have h := hb8.size; first | omega | (simp at h; omega))
      have hb1_8 := bel hb1_7 hb8 (by (repeat (first | assumption | exact Below.refl _ _ | refine ba ?_ _ | refine bd ?_ | refine bdn ?_ _ | refine bs ?_ (by first | omega | (simp; done) | (simp; omega)) _ | refine bt ?_ (by assumption))))
      have hb2_8 := bel hb2_7 hb8 (by (repeat (first | assumption | exact Below.refl _ _ | refine ba ?_ _ | refine bd ?_ | refine bdn ?_ _ | refine bs ?_ (by first | omega | (simp; done) | (simp; omega)) _ | refine bt ?_ (by assumption))))
      have hb3_8 := bel hb3_7 hb8 (by (repeat (first | assumption | exact Below.refl _ _ | refine ba ?_ _ | refine bd ?_ | refine bdn ?_ _ | refine bs ?_ (by first | omega | (simp; done) | (simp; omega)) _ | refine bt ?_ (by assumption))))
      have hb4_8 := bel hb4_7 hb8 (by (repeat (first | assumption | exact Below.refl _ _ | refine ba ?_ _ | refine bd ?_ | refine bdn ?_ _ | refine bs ?_ (by first | omega | (simp; done) | (simp; omega)) _ | refine bt ?_ (by assumption))))
      have hb5_8 := bel hb5_7 hb8 (by (repeat (first | assumption | exact Below.refl _ _ | refine ba ?_ _ | refine bd ?_ | refine bdn ?_ _ | refine bs ?_ (by first | omega | (simp; done) | (simp; omega)) _ | refine bt ?_ (by assumption))))
      have hb6_8 := bel hb6_7 hb8 (by (repeat (first | assumption | exact Below.refl _ _ | refine ba ?_ _ | refine bd ?_ | refine bdn ?_ _ | refine bs ?_ (by first | omega | (simp; done) | (simp; omega)) _ | refine bt ?_ (by assumption))))
      have hb7_8 := bel hb7 hb8 (by (repeat (first | assumption | exact Below.refl _ _ | refine ba ?_ _ | refine bd ?_ | refine bdn ?_ _ | refine bs ?_ (by first | omega | (simp; done) | (simp; omega)) _ | refine bt ?_ (by assumption))))
      clear hc1_7 hf1_7 hz7_0 hz7_1 hz7_2 hc7 hf7
      obtain ⟨hc1_8, hf1_8, hl1_8⟩ := bcell hb1_8
      clear hl1_8
      have hz8_0 : W.heap.size < w8.heap.size := (by omega)
      have hz8_1 : W.heap.size + 1 < w8.heap.size := (by omega)
      have hz8_2 : W.heap.size + 2 < w8.heap.size := (by omega)
      obtain ⟨hc8, hf8, hl8⟩ := bcell hb8
      clear hl8
      go_wp2
      go_ret
      refine ⟨rfl, ?_⟩
      (repeat (first | assumption | exact Below.refl _ _ | refine ba ?_ _ | refine bd ?_ | refine bdn ?_ _ | refine bs ?_ (by first | omega | (simp; done) | (simp; omega)) _ | refine bt ?_ (by assumption)))
    by_cases hyp : 0 < y
    · go_wp2_with fail
      (with_reducible refine (HR.out _).mono ?_)
      rintro e w7 ⟨rfl, hb7⟩
      have hs7 : w6.heap.size + 0 ≤ w7.heap.size := (by have h := hb7.size; first | omega | (simp at h; omega))
      have hb1_7 := bel hb1_6 hb7 (by (repeat (first | assumption | exact Below.refl _ _ | refine ba ?_ _ | refine bd ?_ | refine bdn ?_ _ | refine bs ?_ (by first | omega | (simp; done) | (simp; omega)) _ | refine bt ?_ (by assumption))))
      have hb2_7 := bel hb2_6 hb7 (by (repeat (first | assumption | exact Below.refl _ _ | refine ba ?_ _ | refine bd ?_ | refine bdn ?_ _ | refine bs ?_ (by first | omega | (simp; done) | (simp; omega)) _ | refine bt ?_ (by assumption))))
      have hb3_7 := bel hb3_6 hb7 (by (repeat (first | assumption | exact Below.refl _ _ | refine ba ?_ _ | refine bd ?_ | refine bdn ?_ _ | refine bs ?_ (by first | omega | (simp; done) | (simp; omega)) _ | refine bt ?_ (by assumption))))
      have hb4_7 := bel hb4_6 hb7 (by (repeat (first | assumption | exact Below.refl _ _ | refine ba ?_ _ | refine bd ?_ | refine bdn ?_ _ | refine bs ?_ (by first | omega | (simp; done) | (simp; omega)) _ | refine bt ?_ (by assumption))))
      have hb5_7 := bel hb5_6 hb7 (by (repeat (first | assumption | exact Below.refl _ _ | refine ba ?_ _ | refine bd ?_ | refine bdn ?_ _ | refine bs ?_ (by first | omega | (simp; done) | (simp; omega)) _ | refine bt ?_ (by assumption))))
      have hb6_7 := bel hb6 hb7 (by (repeat (first | assumption | exact Below.refl _ _ | refine ba ?_ _ | refine bd ?_ | refine bdn ?_ _ | refine bs ?_ (by first | omega | (simp; done) | (simp; omega)) _ | refine bt ?_ (by assumption))))
      clear hc1_6 hf1_6 hz6_0 hz6_1 hz6_2 hc6 hf6
      obtain ⟨hc1_7, hf1_7, hl1_7⟩ := bcell hb1_7
      clear hl1_7
      have hz7_0 : W.heap.size < w7.heap.size := (by omega)
      have hz7_1 : W.heap.size + 1 < w7.heap.size := (by omega)
      have hz7_2 : W.heap.size + 2 < w7.heap.size := (by omega)
      obtain ⟨hc7, hf7, hl7⟩ := bcell hb7
      clear hl7
      go_wp2_with fail
      (with_reducible refine (works7 _).mono ?_)
      rintro e w8 ⟨rfl, hb8⟩
      have hs8 : w7.heap.size + 0 ≤ w8.heap.size := (by have h := hb8.size; first | omega | (simp at h; omega))
      have hb1_8 := bel hb1_7 hb8 (by (repeat (first | assumption | exact Below.refl _ _ | refine ba ?_ _ | refine bd ?_ | refine bdn ?_ _ | refine bs ?_ (by first | omega | (simp; done) | (simp; omega)) _ | refine bt ?_ (by assumption))))
      have hb2_8 := bel hb2_7 hb8 (by (repeat (first | assumption | exact Below.refl _ _ | refine ba ?_ _ | refine bd ?_ | refine bdn ?_ _ | refine bs ?_ (by first | omega | (simp; done) | (simp; omega)) _ | refine bt ?_ (by assumption))))
      have hb3_8 := bel hb3_7 hb8 (by (repeat (first | assumption | exact Below.refl _ _ | refine ba ?_ _ | refine bd ?_ | refine bdn ?_ _ | refine bs ?_ (by first | omega | (simp; done) | (simp; omega)) _ | refine bt ?_ (by assumption))))
      have hb4_8 := bel hb4_7 hb8 (by (repeat (first | assumption | exact Below.refl _ _ | refine ba ?_ _ | refine bd ?_ | refine bdn ?_ _ | refine bs ?_ (by first | omega | (simp; done) | (simp; omega)) _ | refine bt ?_ (by assumption))))
      have hb5_8 := bel hb5_7 hb8 (by (repeat (first | assumption | exact Below.refl _ _ | refine ba ?_ _ | refine bd ?_ | refine bdn ?_ _ | refine bs ?_ (by first | omega | (simp; done) | (simp; omega)) _ | refine bt ?_ (by assumption))))
      have hb6_8 := bel hb6_7 hb8 (by (repeat (first | assumption | exact Below.refl _ _ | refine ba ?_ _ | refine bd ?_ | refine bdn ?_ _ | refine bs ?_ (by first | omega | (simp; done) | (simp; omega)) _ | refine bt ?_ (by assumption))))
      have hb7_8 := bel hb7 hb8 (by (repeat (first | assumption | exact Below.refl _ _ | refine ba ?_ _ | refine bd ?_ | refine bdn ?_ _ | refine bs ?_ (by first | omega | (simp; done) | (simp; omega)) _ | refine bt ?_ (by assumption))))
      clear hc1_7 hf1_7 hz7_0 hz7_1 hz7_2 hc7 hf7
      obtain ⟨hc1_8, hf1_8, hl1_8⟩ := bcell hb1_8
      clear hl1_8
      have hz8_0 : W.heap.size < w8.heap.size := (by omega)
      have hz8_1 : W.heap.size + 1 < w8.heap.size := (by omega)
      have hz8_2 : W.heap.size + 2 < w8.heap.size := (by omega)
      obtain ⟨hc8, hf8, hl8⟩ := bcell hb8
      clear hl8
      go_wp2
      go_ret
      refine ⟨rfl, ?_⟩
      (repeat (first | assumption | exact Below.refl _ _ | refine ba ?_ _ | refine bd ?_ | refine bdn ?_ _ | refine bs ?_ (by first | omega | (simp; done) | (simp; omega)) _ | refine bt ?_ (by assumption)))
    have hxn : x ≤ 0 := by omega
    have hyn : y ≤ 0 := by omega
    by_cases hzn : z < 0
    · have hz0 : (z == 0) = false := by simp; omega
      go_wp2_with fail
      (with_reducible refine (HR.out _).mono ?_)
      rintro e w7 ⟨rfl, hb7⟩
      have hs7 : w6.heap.size + 0 ≤ w7.heap.size := (by have h := hb7.size; first | omega | (simp at h; omega))
      have hb1_7 := bel hb1_6 hb7 (by (repeat (first | assumption | exact Below.refl _ _ | refine ba ?_ _ | refine bd ?_ | refine bdn ?_ _ | refine bs ?_ (by first | omega | (simp; done) | (simp; omega)) _ | refine bt ?_ (by assumption))))
      have hb2_7 := bel hb2_6 hb7 (by (repeat (first | assumption | exact Below.refl _ _ | refine ba ?_ _ | refine bd ?_ | refine bdn ?_ _ | refine bs ?_ (by first | omega | (simp; done) | (simp; omega)) _ | refine bt ?_ (by assumption))))
      have hb3_7 := bel hb3_6 hb7 (by (repeat (first | assumption | exact Below.refl _ _ | refine ba ?_ _ | refine bd ?_ | refine bdn ?_ _ | refine bs ?_ (by first | omega | (simp; done) | (simp; omega)) _ | refine bt ?_ (by assumption))))
      have hb4_7 := bel hb4_6 hb7 (by (repeat (first | assumption | exact Below.refl _ _ | refine ba ?_ _ | refine bd ?_ | refine bdn ?_ _ | refine bs ?_ (by first | omega | (simp; done) | (simp; omega)) _ | refine bt ?_ (by assumption))))
      have hb5_7 := bel hb5_6 hb7 (by (repeat (first | assumption | exact Below.refl _ _ | refine ba ?_ _ | refine bd ?_ | refine bdn ?_ _ | refine bs ?_ (by first | omega | (simp; done) | (simp; omega)) _ | refine bt ?_ (by assumption))))
      have hb6_7 := bel hb6 hb7 (by (repeat (first | assumption | exact Below.refl _ _ | refine ba ?_ _ | refine bd ?_ | refine bdn ?_ _ | refine bs ?_ (by first | omega | (simp; done) | (simp; omega)) _ | refine bt ?_ (by assumption))))
      clear hc1_6 hf1_6 hz6_0 hz6_1 hz6_2 hc6 hf6
      obtain ⟨hc1_7, hf1_7, hl1_7⟩ := bcell hb1_7
      clear hl1_7
      have hz7_0 : W.heap.size < w7.heap.size := (by omega)
      have hz7_1 : W.heap.size + 1 < w7.heap.size := (by omega)
      have hz7_2 : W.heap.size + 2 < w7.heap.size := (by omega)
      obtain ⟨hc7, hf7, hl7⟩ := bcell hb7
      clear hl7
      go_wp2_with fail
      (with_reducible refine (works7 _).mono ?_)
      rintro e w8 ⟨rfl, hb8⟩
      have hs8 : w7.heap.size + 0 ≤ w8.heap.size := (by have h := hb8.size; first | omega | (simp at h; omega))
      have hb1_8 := bel hb1_7 hb8 (by (repeat (first | assumption | exact Below.refl _ _ | refine ba ?_ _ | refine bd ?_ | refine bdn ?_ _ | refine bs ?_ (by first | omega | (simp; done) | (simp; omega)) _ | refine bt ?_ (by assumption))))
      have hb2_8 := bel hb2_7 hb8 (by (repeat (first | assumption | exact Below.refl _ _ | refine ba ?_ _ | refine bd ?_ | refine bdn ?_ _ | refine bs ?_ (by first | omega | (simp; done) | (simp; omega)) _ | refine bt ?_ (by assumption))))
      have hb3_8 := bel hb3_7 hb8 (by (repeat (first | assumption | exact Below.refl _ _ | refine ba ?_ _ | refine bd ?_ | refine bdn ?_ _ | refine bs ?_ (by first | omega | (simp; done) | (simp; omega)) _ | refine bt ?_ (by assumption))))
      have hb4_8 := bel hb4_7 hb8 (by (repeat (first | assumption | exact Below.refl _ _ | refine ba ?_ _ | refine bd ?_ | refine bdn ?_ _ | refine bs ?_ (by first | omega | (simp; done) | (simp; omega)) _ | refine bt ?_ (by assumption))))
      have hb5_8 := bel hb5_7 hb8 (by (repeat (first | assumption | exact Below.refl _ _ | refine ba ?_ _ | refine bd ?_ | refine bdn ?_ _ | refine bs ?_ (by first | omega | (simp; done) | (simp; omega)) _ | refine bt ?_ (by assumption))))
      have hb6_8 := bel hb6_7 hb8 (by (repeat (first | assumption | exact Below.refl _ _ | refine ba ?_ _ | refine bd ?_ | refine bdn ?_ _ | refine bs ?_ (by first | omega | (simp; done) | (simp; omega)) _ | refine bt ?_ (by assumption))))
      have hb7_8 := bel hb7 hb8 (by (repeat (first | assumption | exact Below.refl _ _ | refine ba ?_ _ | refine bd ?_ | refine bdn ?_ _ | refine bs ?_ (by first | omega | (simp; done) | (simp; omega)) _ | refine bt ?_ (by assumption))))
      clear hc1_7 hf1_7 hz7_0 hz7_1 hz7_2 hc7 hf7
      obtain ⟨hc1_8, hf1_8, hl1_8⟩ := bcell hb1_8
      clear hl1_8
      have hz8_0 : W.heap.size < w8.heap.size := (by omega)
      have hz8_1 : W.heap.size + 1 < w8.heap.size := (by omega)
      have hz8_2 : W.heap.size + 2 < w8.heap.size := (by omega)
      obtain ⟨hc8, hf8, hl8⟩ := bcell hb8
      clear hl8
      go_wp2
      go_ret
      refine ⟨rfl, ?_⟩
      (repeat (first | assumption | exact Below.refl _ _ | refine ba ?_ _ | refine bd ?_ | refine bdn ?_ _ | refine bs ?_ (by first | omega | (simp; done) | (simp; omega)) _ | refine bt ?_ (by assumption)))
    · have hw := HW.out
      unfold Ok3 at hw
      obtain ⟨rfl, rfl, rfl⟩ : z = 0 ∧ x = 0 ∧ y = 0 := by simp at hw; omega
      clear hw
      go_wp2_with fail
      (with_reducible refine (HR.out _).mono ?_)
      rintro e w7 ⟨rfl, hb7⟩
      have hs7 : w6.heap.size + 0 ≤ w7.heap.size := (by have h := hb7.size; first | omega | (simp at h; omega))
      have hb1_7 := bel hb1_6 hb7 (by (repeat (first | assumption | exact Below.refl _ _ | refine ba ?_ _ | refine bd ?_ | refine bdn ?_ _ | refine bs ?_ (by first | omega | (simp; done) | (simp; omega)) _ | refine bt ?_ (by assumption))))
      have hb2_7 := bel hb2_6 hb7 (by (repeat (first | assumption | exact Below.refl _ _ | refine ba ?_ _ | refine bd ?_ | refine bdn ?_ _ | refine bs ?_ (by first | omega | (simp; done) | (simp; omega)) _ | refine bt ?_ (by assumption))))
      have hb3_7 := bel hb3_6 hb7 (by (repeat (first | assumption | exact Below.refl _ _ | refine ba ?_ _ | refine bd ?_ | refine bdn ?_ _ | refine bs ?_ (by first | omega | (simp; done) | (simp; omega)) _ | refine bt ?_ (by assumption))))
      have hb4_7 := bel hb4_6 hb7 (by (repeat (first | assumption | exact Below.refl _ _ | refine ba ?_ _ | refine bd ?_ | refine bdn ?_ _ | refine bs ?_ (by first | omega | (simp; done) | (simp; omega)) _ | refine bt ?_ (by assumption))))
      have hb5_7 := bel hb5_6 hb7 (by (repeat (first | assumption | exact Below.refl _ _ | refine ba ?_ _ | refine bd ?_ | refine bdn ?_ _ | refine bs ?_ (by first | omega | (simp; done) | (simp; omega)) _ | refine bt ?_ (by assumption))))
      have hb6_7 := bel hb6 hb7 (by (repeat (first | assumption | exact Below.refl _ _ | refine ba ?_ _ | refine bd ?_ | refine bdn ?_ _ | refine bs ?_ (by first | omega | (simp; done) | (simp; omega)) _ | refine bt ?_ (by assumption))))
      clear hc1_6 hf1_6 hz6_0 hz6_1 hz6_2 hc6 hf6
      obtain ⟨hc1_7, hf1_7, hl1_7⟩ := bcell hb1_7
      clear hl1_7
      have hz7_0 : W.heap.size < w7.heap.size := (by omega)
      have hz7_1 : W.heap.size + 1 < w7.heap.size := (by omega)
      have hz7_2 : W.heap.size + 2 < w7.heap.size := (by omega)
      obtain ⟨hc7, hf7, hl7⟩ := bcell hb7
      clear hl7
      go_wp2_with fail
      (with_reducible refine (works7 _).mono ?_)
      rintro e w8 ⟨rfl, hb8⟩
      have hs8 : w7.heap.size + 0 ≤ w8.heap.size := (by have h := hb8.size; first | omega | (simp at h; omega))
      have hb1_8 := bel hb1_7 hb8 (by (repeat (first | assumption | exact Below.refl _ _ | refine ba ?_ _ | refine bd ?_ | refine bdn ?_ _ | refine bs ?_ (by first | omega | (simp; done) | (simp; omega)) _ | refine bt ?_ (by assumption))))
      have hb2_8 := bel hb2_7 hb8 (by (repeat (first | assumption | exact Below.refl _ _ | refine ba ?_ _ | refine bd ?_ | refine bdn ?_ _ | refine bs ?_ (by first | omega | (simp; done) | (simp; omega)) _ | refine bt ?_ (by assumption))))
      have hb3_8 := bel hb3_7 hb8 (by (repeat (first | assumption | exact Below.refl _ _ | refine ba ?_ _ | refine bd ?_ | refine bdn ?_ _ | refine bs ?_ (by first | omega | (simp; done) | (simp; omega)) _ | refine bt ?_ (by assumption))))
      have hb4_8 := bel hb4_7 hb8 (by (repeat (first | assumption | exact Below.refl _ _ | refine ba ?_ _ | refine bd ?_ | refine bdn ?_ _ | refine bs ?_ (by first | omega | (simp; done) | (simp; omega)) _ | refine bt ?_ (by assumption))))
      have hb5_8 := bel hb5_7 hb8 (by (repeat (first | assumption | exact Below.refl _ _ | refine ba ?_ _ | refine bd ?_ | refine bdn ?_ _ | refine bs ?_ (by first | omega | (simp; done) | (simp; omega)) _ | refine bt ?_ (by assumption))))
      have hb6_8 := bel hb6_7 hb8 (by (repeat (first | assumption | exact Below.refl _ _ | refine ba ?_ _ | refine bd ?_ | refine bdn ?_ _ | refine bs ?_ (by first | omega | (simp; done) | (simp; omega)) _ | refine bt ?_ (by assumption))))
      have hb7_8 := bel hb7 hb8 (by (repeat (first | assumption | exact Below.refl _ _ | refine ba ?_ _ | refine bd ?_ | refine bdn ?_ _ | refine bs ?_ (by first | omega | (simp; done) | (simp; omega)) _ | refine bt ?_ (by assumption))))
      clear hc1_7 hf1_7 hz7_0 hz7_1 hz7_2 hc7 hf7
      obtain ⟨hc1_8, hf1_8, hl1_8⟩ := bcell hb1_8
      clear hl1_8
      have hz8_0 : W.heap.size < w8.heap.size := (by omega)
      have hz8_1 : W.heap.size + 1 < w8.heap.size := (by omega)
      have hz8_2 : W.heap.size + 2 < w8.heap.size := (by omega)
      obtain ⟨hc8, hf8, hl8⟩ := bcell hb8
      clear hl8
      go_wp2
      go_ret
      refine ⟨rfl, ?_⟩
      (repeat (first | assumption | exact Below.refl _ _ | refine ba ?_ _ | refine bd ?_ | refine bdn ?_ _ | refine bs ?_ (by first | omega | (simp; done) | (simp; omega)) _ | refine bt ?_ (by assumption)))

theorem sorders_any (an ad aw bn bd bw cn cd cw : Int) (i1 : I64 an) (i2 : I64 ad) (i3 : I64 bn) (i4 : I64 bd) :
    Pure Tryd.prog 12 #[S3 an ad aw, S3 bn bd bw, S3 cn cd cw] (.bool true) := by
  have hba := scmp_any bn bd bw an ad aw
  rw [scmp_swap] at hba
  have haa := scmp_any an ad aw an ad aw
  rw [scmp_self] at haa
  have hne : (aw != bw) = true ∨ aw = bw := by
    by_cases h : aw = bw
    · exact .inr h
    · exact .inl (by simpa using h)
  refine sorders_walk an ad aw bn bd bw cn cd cw _ _ _ _ _ _ _ (scmp_bd _ _ _ _ _ _) (scmp_bd _ _ _ _ _ _) (scmp_bd _ _ _ _ _ _) (scmp_any _ _ _ _ _ _) (scmp_any _ _ _ _ _ _) (scmp_any _ _ _ _ _ _) hba haa (sright_any _ _ _) (sright_any _ _ _) (sright_any _ _ _) (rc_any _ _ _ _ i1 i2 i3 i4) hne ?_ ?_
  · intro h
    subst h
    by_cases ha : SRt an ad aw
    · by_cases hb : SRt bn bd aw
      · exact .inl (scmp_weight ha hb).symm
      · exact .inr (.inr (decide_eq_false hb))
    · exact .inr (.inl (decide_eq_false ha))
  · unfold Ok3
    by_cases ha : SRt an ad aw
    · by_cases hb : SRt bn bd bw
      · by_cases hc : SRt cn cd cw
        · by_cases hx : scmp an ad aw bn bd bw ≤ 0
          · by_cases hy : scmp bn bd bw cn cd cw ≤ 0
            · rw [scmp_rcA ha hb] at hx ⊢
              rw [scmp_rcA hb hc] at hy ⊢
              rw [scmp_rcA ha hc]
              rcases rcA_trans (srt_rt ha) (srt_rt hb) (srt_rt hc) hx hy with h | h
              · exact .inr (.inr (.inr (.inr (.inr (.inl h)))))
              · exact .inr (.inr (.inr (.inr (.inr (.inr h)))))
            · exact .inr (.inr (.inr (.inr (.inl (by omega)))))
          · exact .inr (.inr (.inr (.inl (by omega))))
        · exact .inr (.inr (.inl (decide_eq_false hc)))
      · exact .inr (.inl (decide_eq_false hb))
    · exact .inl (decide_eq_false ha)

end Go.Proofs.YtfnfolpdbbnnlaaDoor
