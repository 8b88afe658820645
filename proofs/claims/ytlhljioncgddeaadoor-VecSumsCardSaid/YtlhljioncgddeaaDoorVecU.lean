/- The walk of VecSums. Condition: the names of the kinds and the powers of ten lie in their variables. -/
import Derived.Test.YtlhljioncgddeaaDoorVr5
import Derived.Test.YtlhljioncgddeaaDoorVecF
import Derived.Test.YtlhljioncgddeaaDoorVecB
namespace Go.Proofs.YtlhljioncgddeaaDoor
open Go.RowKit
attribute [local go_sem] ext_cell ext_frozen Mix.calmUpon Mix.mUpon
theorem mrgD_len {g : Int → Int → Option Int} (g0 : g 0 0 = some 0) (gb : ∀ x y z, 0 ≤ x → x ≤ 9007199254740992 → 0 ≤ y → y ≤ 9007199254740992 → g x y = some z → 0 ≤ z ∧ z ≤ 9007199254740992) (a b : List Pt) : ((mrg g a b).getD []).length ≤ 132 := by
  cases h : mrg g a b with
  | none => simp
  | some l => exact mrg_len g0 gb h
set_option maxRecDepth 100000 in
set_option maxHeartbeats 4000000 in
theorem sums5_long (va vb : Value) (la lb : List Pt) (W : World) (hA : Vc W va la) (hV : Vc W vb lb) (hl : ¬ (la.length ≤ 150 ∧ lb.length ≤ 150)) : Calls Tryd.prog 4 #[va, vb] W fun e w' => e = .returned (.bool true) ∧ Below W.heap.size W w' := by
  obtain ⟨a, n, c, rfl, hn, _, _⟩ := hA.form'
  obtain ⟨a', n', c', rfl, hn', _, _⟩ := hV.form'
  have HF := few2 W 22 a a' n n' c c'
  rw [hn, hn', decide_eq_false hl, ← hn, ← hn'] at HF
  have HF := Lib.hid HF
  clear hA hV hn hn' hl
  go_enter Tryd.func4, Tryd.ntmps4
  go_wp2_with fail
  (with_reducible refine (HF.out).mono ?_)
  rintro e w1 ⟨rfl, hb1⟩
  have hs1 : W.heap.size + 1 ≤ w1.heap.size := (by have h := hb1.size; first | omega | (simp at h; omega))
  have hz1_0 : W.heap.size < w1.heap.size := (by omega)
  obtain ⟨hc1, hf1, hl1⟩ := bcell hb1
  clear hl1
  go_wp2
  go_ret
  refine ⟨rfl, ?_⟩
  (repeat (first | assumption | exact Below.refl _ _ | refine ba ?_ _ | refine bd ?_ | refine bdn ?_ _ | refine bs ?_ (by first | omega | (simp; done) | (simp; omega)) _ | refine bt ?_ (by assumption)))
set_option maxRecDepth 100000 in
set_option maxHeartbeats 8000000 in
theorem sums5_short (va vb : Value) (la lb : List Pt) (W : World) (hA : Vc W va la) (hV : Vc W vb lb) (hT : TN W) (hl : la.length ≤ 150 ∧ lb.length ≤ 150) : Calls Tryd.prog 4 #[va, vb] W fun e w' => e = .returned (.bool true) ∧ Below W.heap.size W w' := by
  have HA := Lib.hid hA; have HV := Lib.hid hV; have HT := Lib.hid hT
  obtain ⟨a, n, c, rfl, hn, _, _⟩ := hA.form'
  obtain ⟨a', n', c', rfl, hn', _, _⟩ := hV.form'
  have HF := few2 W 22 a a' n n' c c'
  rw [hn, hn', decide_eq_true hl, ← hn, ← hn'] at HF
  have HF := Lib.hid HF
  obtain ⟨l1, l2⟩ := hl
  have hL1 := mrgD_len gAdd0 gAddB la lb
  have P1 := fun w (h : Vc w (.slice a n c) la) (h' : Vc w (.slice a' n' c') lb) => vadd_any (.slice a n c) (.slice a' n' c') la lb (by omega) (by omega) w h h'
  have Q1 := fun w (h : Vc w (.slice a n c) la) (h' : Vc w (.slice a' n' c') lb) => refadd_any (.slice a n c) (.slice a' n' c') la lb (by omega) (by omega) w h h'
  have hb1 := sub_iff la lb
  unfold RetO at P1 Q1
  generalize hq1 : (mrg gAdd la lb).isSome = q1 at P1 Q1
  generalize hQ1 : (mrg gAdd la lb).getD [] = L1 at P1 Q1 hL1
  have P1 := Lib.hid P1; have Q1 := Lib.hid Q1
  have S1 := Lib.hid fun x y => rsame_v x y L1 (by omega)
  have hL2 := mrgD_len gSub0 gSubB la lb
  have P2 := fun w (h : Vc w (.slice a n c) la) (h' : Vc w (.slice a' n' c') lb) => vsub_any (.slice a n c) (.slice a' n' c') la lb (by omega) (by omega) w h h'
  have Q2 := fun w (h : Vc w (.slice a n c) la) (h' : Vc w (.slice a' n' c') lb) => refsub_any (.slice a n c) (.slice a' n' c') la lb (by omega) (by omega) w h h'
  have hb2 := sub_iff la lb
  unfold RetO at P2 Q2
  generalize hq2 : (mrg gSub la lb).isSome = q2 at P2 Q2
  generalize hQ2 : (mrg gSub la lb).getD [] = L2 at P2 Q2 hL2
  have P2 := Lib.hid P2; have Q2 := Lib.hid Q2
  have S2 := Lib.hid fun x y => rsame_v x y L2 (by omega)
  have hL3 := mrgD_len gMin0 gMinB la lb
  have P3 := fun w (h : Vc w (.slice a n c) la) (h' : Vc w (.slice a' n' c') lb) => vleast_any (.slice a n c) (.slice a' n' c') la lb (by omega) (by omega) w h h'
  have Q3 := fun w (h : Vc w (.slice a n c) la) (h' : Vc w (.slice a' n' c') lb) => refleast_any (.slice a n c) (.slice a' n' c') la lb (by omega) (by omega) w h h'
  generalize hQ3 : (mrg gMin la lb).getD [] = L3 at P3 Q3 hL3
  have P3 := Lib.hid P3; have Q3 := Lib.hid Q3
  have S3 := Lib.hid fun x y => rsame_v x y L3 (by omega)
  have H1 := vholds_b (.slice a n c) (.slice a' n' c') la lb (by omega) (by omega)
  have H2 := rholds_any (.slice a n c) (.slice a' n' c') la lb (by omega) (by omega)
  generalize hz : hB la lb = z at H1 H2
  have H1 := Lib.hid H1; have H2 := Lib.hid H2
  clear hA hV hT hn hn' l1 l2 hL1 hL2 hL3 hq1 hq2 hQ1 hQ2 hQ3 hb1 hb2 hz
  go_enter Tryd.func4, Tryd.ntmps4
  go_wp2_with fail
  (with_reducible refine (HF.out).mono ?_)
  rintro e w1 ⟨rfl, hb1⟩
  have hs1 : W.heap.size + 1 ≤ w1.heap.size := (by have h := hb1.size; first | omega | (simp at h; omega))
  have hz1_0 : W.heap.size < w1.heap.size := (by omega)
  obtain ⟨hc1, hf1, hl1⟩ := bcell hb1
  clear hl1
  go_wp2_with fail
  refine (P1.out _ (HA.out.on (by (repeat (first | assumption | exact Below.refl _ _ | refine ba ?_ _ | refine bd ?_ | refine bdn ?_ _ | refine bs ?_ (by first | omega | (simp; done) | (simp; omega)) _ | refine bt ?_ (by assumption))))) (HV.out.on (by (repeat (first | assumption | exact Below.refl _ _ | refine ba ?_ _ | refine bd ?_ | refine bdn ?_ _ | refine bs ?_ (by first | omega | (simp; done) | (simp; omega)) _ | refine bt ?_ (by assumption)))))).mono ?_
  rintro e w2 ⟨v2, rfl, hv2, hb2⟩
  have U2 := Lib.hid hv2
  clear hv2
  have hs2 : w1.heap.size + 0 ≤ w2.heap.size := (by have h := hb2.size; first | omega | (simp at h; omega))
  have hb1_2 := bel hb1 hb2 (by (repeat (first | assumption | exact Below.refl _ _ | refine ba ?_ _ | refine bd ?_ | refine bdn ?_ _ | refine bs ?_ (by first | omega | (simp; done) | (simp; omega)) _ | refine bt ?_ (by assumption))))
  clear hz1_0 hc1 hf1
  obtain ⟨hc1_2, hf1_2, hl1_2⟩ := bcell hb1_2
  clear hl1_2
  have hz2_0 : W.heap.size < w2.heap.size := (by omega)
  obtain ⟨hc2, hf2, hl2⟩ := bcell hb2
  clear hl2
  go_wp2_with fail
  refine (Q1.out _ (HA.out.on (by (repeat (first | assumption | exact Below.refl _ _ | refine ba ?_ _ | refine bd ?_ | refine bdn ?_ _ | refine bs ?_ (by first | omega | (simp; done) | (simp; omega)) _ | refine bt ?_ (by assumption))))) (HV.out.on (by (repeat (first | assumption | exact Below.refl _ _ | refine ba ?_ _ | refine bd ?_ | refine bdn ?_ _ | refine bs ?_ (by first | omega | (simp; done) | (simp; omega)) _ | refine bt ?_ (by assumption)))))).mono ?_
  rintro e w3 ⟨v3, rfl, hv3, hb3⟩
  have U3 := Lib.hid hv3
  clear hv3
  have hs3 : w2.heap.size + 0 ≤ w3.heap.size := (by have h := hb3.size; first | omega | (simp at h; omega))
  have hb1_3 := bel hb1_2 hb3 (by (repeat (first | assumption | exact Below.refl _ _ | refine ba ?_ _ | refine bd ?_ | refine bdn ?_ _ | refine bs ?_ (by first | omega | (simp; done) | (simp; omega)) _ | refine bt ?_ (by assumption))))
  have hb2_3 := bel hb2 hb3 (by (repeat (first | assumption | exact Below.refl _ _ | refine ba ?_ _ | refine bd ?_ | refine bdn ?_ _ | refine bs ?_ (by first | omega | (simp; done) | (simp; omega)) _ | refine bt ?_ (by assumption))))
  clear hc1_2 hf1_2 hz2_0 hc2 hf2
  obtain ⟨hc1_3, hf1_3, hl1_3⟩ := bcell hb1_3
  clear hl1_3
  have hz3_0 : W.heap.size < w3.heap.size := (by omega)
  obtain ⟨hc3, hf3, hl3⟩ := bcell hb3
  clear hl3
  go_wp2_with fail
  refine (P2.out _ (HA.out.on (by (repeat (first | assumption | exact Below.refl _ _ | refine ba ?_ _ | refine bd ?_ | refine bdn ?_ _ | refine bs ?_ (by first | omega | (simp; done) | (simp; omega)) _ | refine bt ?_ (by assumption))))) (HV.out.on (by (repeat (first | assumption | exact Below.refl _ _ | refine ba ?_ _ | refine bd ?_ | refine bdn ?_ _ | refine bs ?_ (by first | omega | (simp; done) | (simp; omega)) _ | refine bt ?_ (by assumption)))))).mono ?_
  rintro e w4 ⟨v4, rfl, hv4, hb4⟩
  have U4 := Lib.hid hv4
  clear hv4
  have hs4 : w3.heap.size + 0 ≤ w4.heap.size := (by have h := hb4.size; first | omega | (simp at h; omega))
  have hb1_4 := bel hb1_3 hb4 (by (repeat (first | assumption | exact Below.refl _ _ | refine ba ?_ _ | refine bd ?_ | refine bdn ?_ _ | refine bs ?_ (by first | omega | (simp; done) | (simp; omega)) _ | refine bt ?_ (by assumption))))
  have hb2_4 := bel hb2_3 hb4 (by (repeat (first | assumption | exact Below.refl _ _ | refine ba ?_ _ | refine bd ?_ | refine bdn ?_ _ | refine bs ?_ (by first | omega | (simp; done) | (simp; omega)) _ | refine bt ?_ (by assumption))))
  have hb3_4 := bel hb3 hb4 (by (repeat (first | assumption | exact Below.refl _ _ | refine ba ?_ _ | refine bd ?_ | refine bdn ?_ _ | refine bs ?_ (by first | omega | (simp; done) | (simp; omega)) _ | refine bt ?_ (by assumption))))
  clear hc1_3 hf1_3 hz3_0 hc3 hf3
  obtain ⟨hc1_4, hf1_4, hl1_4⟩ := bcell hb1_4
  clear hl1_4
  have hz4_0 : W.heap.size < w4.heap.size := (by omega)
  obtain ⟨hc4, hf4, hl4⟩ := bcell hb4
  clear hl4
  go_wp2_with fail
  refine (Q2.out _ (HA.out.on (by (repeat (first | assumption | exact Below.refl _ _ | refine ba ?_ _ | refine bd ?_ | refine bdn ?_ _ | refine bs ?_ (by first | omega | (simp; done) | (simp; omega)) _ | refine bt ?_ (by assumption))))) (HV.out.on (by (repeat (first | assumption | exact Below.refl _ _ | refine ba ?_ _ | refine bd ?_ | refine bdn ?_ _ | refine bs ?_ (by first | omega | (simp; done) | (simp; omega)) _ | refine bt ?_ (by assumption)))))).mono ?_
  rintro e w5 ⟨v5, rfl, hv5, hb5⟩
  have U5 := Lib.hid hv5
  clear hv5
  have hs5 : w4.heap.size + 0 ≤ w5.heap.size := (by have h := hb5.size; first | omega | (simp at h; omega))
  have hb1_5 := bel hb1_4 hb5 (by (repeat (first | assumption | exact Below.refl _ _ | refine ba ?_ _ | refine bd ?_ | refine bdn ?_ _ | refine bs ?_ (by first | omega | (simp; done) | (simp; omega)) _ | refine bt ?_ (by assumption))))
  have hb2_5 := bel hb2_4 hb5 (by (repeat (first | assumption | exact Below.refl _ _ | refine ba ?_ _ | refine bd ?_ | refine bdn ?_ _ | refine bs ?_ (by first | omega | (simp; done) | (simp; omega)) _ | refine bt ?_ (by assumption))))
  have hb3_5 := bel hb3_4 hb5 (by (repeat (first | assumption | exact Below.refl _ _ | refine ba ?_ _ | refine bd ?_ | refine bdn ?_ _ | refine bs ?_ (by first | omega | (simp; done) | (simp; omega)) _ | refine bt ?_ (by assumption))))
  have hb4_5 := bel hb4 hb5 (by (repeat (first | assumption | exact Below.refl _ _ | refine ba ?_ _ | refine bd ?_ | refine bdn ?_ _ | refine bs ?_ (by first | omega | (simp; done) | (simp; omega)) _ | refine bt ?_ (by assumption))))
  clear hc1_4 hf1_4 hz4_0 hc4 hf4
  obtain ⟨hc1_5, hf1_5, hl1_5⟩ := bcell hb1_5
  clear hl1_5
  have hz5_0 : W.heap.size < w5.heap.size := (by omega)
  obtain ⟨hc5, hf5, hl5⟩ := bcell hb5
  clear hl5
  go_wp2_with fail
  (with_reducible refine ((S1.out _ _).app _ ⟨U2.out.on (by (repeat (first | assumption | exact Below.refl _ _ | refine ba ?_ _ | refine bd ?_ | refine bdn ?_ _ | refine bs ?_ (by first | omega | (simp; done) | (simp; omega)) _ | refine bt ?_ (by assumption)))), U3.out.on (by (repeat (first | assumption | exact Below.refl _ _ | refine ba ?_ _ | refine bd ?_ | refine bdn ?_ _ | refine bs ?_ (by first | omega | (simp; done) | (simp; omega)) _ | refine bt ?_ (by assumption))))⟩).mono ?_)
  rintro e w6 ⟨rfl, hb6⟩
  have hs6 : w5.heap.size + 0 ≤ w6.heap.size := (by have h := hb6.size; first | omega | (simp at h; omega))
  have hb1_6 := bel hb1_5 hb6 (by (repeat (first | assumption | exact Below.refl _ _ | refine ba ?_ _ | refine bd ?_ | refine bdn ?_ _ | refine bs ?_ (by first | omega | (simp; done) | (simp; omega)) _ | refine bt ?_ (by assumption))))
  have hb2_6 := bel hb2_5 hb6 (by (repeat (first | assumption | exact Below.refl _ _ | refine ba ?_ _ | refine bd ?_ | refine bdn ?_ _ | refine bs ?_ (by first | omega | (simp; done) | (simp; omega)) _ | refine bt ?_ (by assumption))))
  have hb3_6 := bel hb3_5 hb6 (by (repeat (first | assumption | exact Below.refl _ _ | refine ba ?_ _ | refine bd ?_ | refine bdn ?_ _ | refine bs ?_ (by first | omega | (simp; done) | (simp; omega)) _ | refine bt ?_ (by assumption))))
  have hb4_6 := bel hb4_5 hb6 (by (repeat (first | assumption | exact Below.refl _ _ | refine ba ?_ _ | refine bd ?_ | refine bdn ?_ _ | refine bs ?_ (by first | omega | (simp; done) | (simp; omega)) _ | refine bt ?_ (by assumption))))
  have hb5_6 := bel hb5 hb6 (by (repeat (first | assumption | exact Below.refl _ _ | refine ba ?_ _ | refine bd ?_ | refine bdn ?_ _ | refine bs ?_ (by first | omega | (simp; done) | (simp; omega)) _ | refine bt ?_ (by assumption))))
  clear hc1_5 hf1_5 hz5_0 hc5 hf5
  obtain ⟨hc1_6, hf1_6, hl1_6⟩ := bcell hb1_6
  clear hl1_6
  have hz6_0 : W.heap.size < w6.heap.size := (by omega)
  obtain ⟨hc6, hf6, hl6⟩ := bcell hb6
  clear hl6
  go_wp2_with fail
  (with_reducible refine ((S2.out _ _).app _ ⟨U4.out.on (by (repeat (first | assumption | exact Below.refl _ _ | refine ba ?_ _ | refine bd ?_ | refine bdn ?_ _ | refine bs ?_ (by first | omega | (simp; done) | (simp; omega)) _ | refine bt ?_ (by assumption)))), U5.out.on (by (repeat (first | assumption | exact Below.refl _ _ | refine ba ?_ _ | refine bd ?_ | refine bdn ?_ _ | refine bs ?_ (by first | omega | (simp; done) | (simp; omega)) _ | refine bt ?_ (by assumption))))⟩).mono ?_)
  rintro e w7 ⟨rfl, hb7⟩
  have hs7 : w6.heap.size + 0 ≤ w7.heap.size := (by have h := hb7.size; first | omega | (simp at h; omega))
  have hb1_7 := bel hb1_6 hb7 (by (repeat (first | assumption | exact Below.refl _ _ | refine ba ?_ _ | refine bd ?_ | refine bdn ?_ _ | refine bs ?_ (by first | omega | (simp; done) | (simp; omega)) _ | refine bt ?_ (by assumption))))
  have hb2_7 := bel hb2_6 hb7 (by (repeat (first | assumption | exact Below.refl _ _ | refine ba ?_ _ | refine bd ?_ | refine bdn ?_ _ | refine bs ?_ (by first | omega | (simp; done) | (simp; omega)) _ | refine bt ?_ (by assumption))))
  have hb3_7 := bel hb3_6 hb7 (by (repeat (first | assumption | exact Below.refl _ _ | refine ba ?_ _ | refine bd ?_ | refine bdn ?_ _ | refine bs ?_ (by first | omega | (simp; done) | (simp; omega)) _ | refine bt ?_ (by assumption))))
  have hb4_7 := bel hb4_6 hb7 (by (repeat (first | assumption | exact Below.refl _ _ | refine ba ?_ _ | refine bd ?_ | refine bdn ?_ _ | refine bs ?_ (by first | omega | (simp; done) | (simp; omega)) _ | refine bt ?_ (by assumption))))
  have hb5_7 := bel hb5_6 hb7 (by (repeat (first | assumption | exact Below.refl _ _ | refine ba ?_ _ | refine bd ?_ | refine bdn ?_ _ | refine bs ?_ (by first | omega | (simp; done) | (simp; omega)) _ | refine bt ?_ (by assumption))))
  have hb6_7 := bel hb6 hb7 (by (repeat (first | assumption | exact Below.refl _ _ | refine ba ?_ _ | refine bd ?_ | refine bdn ?_ _ | refine bs ?_ (by first | omega | (simp; done) | (simp; omega)) _ | refine bt ?_ (by assumption))))
  clear hc1_6 hf1_6 hz6_0 hc6 hf6
  obtain ⟨hc1_7, hf1_7, hl1_7⟩ := bcell hb1_7
  clear hl1_7
  have hz7_0 : W.heap.size < w7.heap.size := (by omega)
  obtain ⟨hc7, hf7, hl7⟩ := bcell hb7
  clear hl7
  go_wp2_with fail
  refine (P3.out _ (HA.out.on (by (repeat (first | assumption | exact Below.refl _ _ | refine ba ?_ _ | refine bd ?_ | refine bdn ?_ _ | refine bs ?_ (by first | omega | (simp; done) | (simp; omega)) _ | refine bt ?_ (by assumption))))) (HV.out.on (by (repeat (first | assumption | exact Below.refl _ _ | refine ba ?_ _ | refine bd ?_ | refine bdn ?_ _ | refine bs ?_ (by first | omega | (simp; done) | (simp; omega)) _ | refine bt ?_ (by assumption)))))).mono ?_
  rintro e w8 ⟨v8, rfl, hv8, hb8⟩
  have U8 := Lib.hid hv8
  clear hv8
  have hs8 : w7.heap.size + 0 ≤ w8.heap.size := (by have h := hb8.size; first | omega | (simp at h; omega))
  have hb1_8 := bel hb1_7 hb8 (by (repeat (first | assumption | exact Below.refl _ _ | refine ba ?_ _ | refine bd ?_ | refine bdn ?_ _ | refine bs ?_ (by first | omega | (simp; done) | (simp; omega)) _ | refine bt ?_ (by assumption))))
  have hb2_8 := bel hb2_7 hb8 (by (repeat (first | assumption | exact Below.refl _ _ | refine ba ?_ _ | refine bd ?_ | refine bdn ?_ _ | refine bs ?_ (by first | omega | (simp; done) | (simp; omega)) _ | refine bt ?_ (by assumption))))
  have hb3_8 := bel hb3_7 hb8 (by (repeat (first | assumption | exact Below.refl _ _ | refine ba ?_ _ | refine bd ?_ | refine bdn ?_ _ | refine bs ?_ (by first | omega | (simp; done) | (simp; omega)) _ | refine bt ?_ (by assumption))))
  have hb4_8 := bel hb4_7 hb8 (by (repeat (first | assumption | exact Below.refl _ _ | refine ba ?_ _ | refine bd ?_ | refine bdn ?_ _ | refine bs ?_ (by first | omega | (simp; done) | (simp; omega)) _ | refine bt ?_ (by assumption))))
  have hb5_8 := bel hb5_7 hb8 (by (repeat (first | assumption | exact Below.refl _ _ | refine ba ?_ _ | refine bd ?_ | refine bdn ?_ _ | refine bs ?_ (by first | omega | (simp; done) | (simp; omega)) _ | refine bt ?_ (by assumption))))
  have hb6_8 := bel hb6_7 hb8 (by (repeat (first | assumption | exact Below.refl _ _ | refine ba ?_ _ | refine bd ?_ | refine bdn ?_ _ | refine bs ?_ (by first | omega | (simp; done) | (simp; omega)) _ | refine bt ?_ (by assumption))))
  have hb7_8 := bel hb7 hb8 (by (repeat (first | assumption | exact Below.refl _ _ | refine ba ?_ _ | refine bd ?_ | refine bdn ?_ _ | refine bs ?_ (by first | omega | (simp; done) | (simp; omega)) _ | refine bt ?_ (by assumption))))
  clear hc1_7 hf1_7 hz7_0 hc7 hf7
  obtain ⟨hc1_8, hf1_8, hl1_8⟩ := bcell hb1_8
  clear hl1_8
  have hz8_0 : W.heap.size < w8.heap.size := (by omega)
  obtain ⟨hc8, hf8, hl8⟩ := bcell hb8
  clear hl8
  go_wp2_with fail
  refine (Q3.out _ (HA.out.on (by (repeat (first | assumption | exact Below.refl _ _ | refine ba ?_ _ | refine bd ?_ | refine bdn ?_ _ | refine bs ?_ (by first | omega | (simp; done) | (simp; omega)) _ | refine bt ?_ (by assumption))))) (HV.out.on (by (repeat (first | assumption | exact Below.refl _ _ | refine ba ?_ _ | refine bd ?_ | refine bdn ?_ _ | refine bs ?_ (by first | omega | (simp; done) | (simp; omega)) _ | refine bt ?_ (by assumption)))))).mono ?_
  rintro e w9 ⟨v9, rfl, hv9, hb9⟩
  have U9 := Lib.hid hv9
  clear hv9
  have hs9 : w8.heap.size + 0 ≤ w9.heap.size := (by have h := hb9.size; first | omega | (simp at h; omega))
  have hb1_9 := bel hb1_8 hb9 (by (repeat (first | assumption | exact Below.refl _ _ | refine ba ?_ _ | refine bd ?_ | refine bdn ?_ _ | refine bs ?_ (by first | omega | (simp; done) | (simp; omega)) _ | refine bt ?_ (by assumption))))
  have hb2_9 := bel hb2_8 hb9 (by (repeat (first | assumption | exact Below.refl _ _ | refine ba ?_ _ | refine bd ?_ | refine bdn ?_ _ | refine bs ?_ (by first | omega | (simp; done) | (simp; omega)) _ | refine bt ?_ (by assumption))))
  have hb3_9 := bel hb3_8 hb9 (by (repeat (first | assumption | exact Below.refl _ _ | refine ba ?_ _ | refine bd ?_ | refine bdn ?_ _ | refine bs ?_ (by first | omega | (simp; done) | (simp; omega)) _ | refine bt ?_ (by assumption))))
  have hb4_9 := bel hb4_8 hb9 (by (repeat (first | assumption | exact Below.refl _ _ | refine ba ?_ _ | refine bd ?_ | refine bdn ?_ _ | refine bs ?_ (by first | omega | (simp; done) | (simp; omega)) _ | refine bt ?_ (by assumption))))
  have hb5_9 := bel hb5_8 hb9 (by (repeat (first | assumption | exact Below.refl _ _ | refine ba ?_ _ | refine bd ?_ | refine bdn ?_ _ | refine bs ?_ (by first | omega | (simp; done) | (simp; omega)) _ | refine bt ?_ (by assumption))))
  have hb6_9 := bel hb6_8 hb9 (by (repeat (first | assumption | exact Below.refl _ _ | refine ba ?_ _ | refine bd ?_ | refine bdn ?_ _ | refine bs ?_ (by first | omega | (simp; done) | (simp; omega)) _ | refine bt ?_ (by assumption))))
  have hb7_9 := bel hb7_8 hb9 (by (repeat (first | assumption | exact Below.refl _ _ | refine ba ?_ _ | refine bd ?_ | refine bdn ?_ _ | refine bs ?_ (by first | omega | (simp; done) | (simp; omega)) _ | refine bt ?_ (by assumption))))
  have hb8_9 := bel hb8 hb9 (by (repeat (first | assumption | exact Below.refl _ _ | refine ba ?_ _ | refine bd ?_ | refine bdn ?_ _ | refine bs ?_ (by first | omega | (simp; done) | (simp; omega)) _ | refine bt ?_ (by assumption))))
  clear hc1_8 hf1_8 hz8_0 hc8 hf8
  obtain ⟨hc1_9, hf1_9, hl1_9⟩ := bcell hb1_9
  clear hl1_9
  have hz9_0 : W.heap.size < w9.heap.size := (by omega)
  obtain ⟨hc9, hf9, hl9⟩ := bcell hb9
  clear hl9
  go_wp2_with fail
  (with_reducible refine ((S3.out _ _).app _ ⟨U8.out.on (by (repeat (first | assumption | exact Below.refl _ _ | refine ba ?_ _ | refine bd ?_ | refine bdn ?_ _ | refine bs ?_ (by first | omega | (simp; done) | (simp; omega)) _ | refine bt ?_ (by assumption)))), U9.out.on (by (repeat (first | assumption | exact Below.refl _ _ | refine ba ?_ _ | refine bd ?_ | refine bdn ?_ _ | refine bs ?_ (by first | omega | (simp; done) | (simp; omega)) _ | refine bt ?_ (by assumption))))⟩).mono ?_)
  rintro e w10 ⟨rfl, hb10⟩
  have hs10 : w9.heap.size + 0 ≤ w10.heap.size := (by have h := hb10.size; first | omega | (simp at h; omega))
  have hb1_10 := bel hb1_9 hb10 (by (repeat (first | assumption | exact Below.refl _ _ | refine ba ?_ _ | refine bd ?_ | refine bdn ?_ _ | refine bs ?_ (by first | omega | (simp; done) | (simp; omega)) _ | refine bt ?_ (by assumption))))
  have hb2_10 := bel hb2_9 hb10 (by (repeat (first | assumption | exact Below.refl _ _ | refine ba ?_ _ | refine bd ?_ | refine bdn ?_ _ | refine bs ?_ (by first | omega | (simp; done) | (simp; omega)) _ | refine bt ?_ (by assumption))))
  have hb3_10 := bel hb3_9 hb10 (by (repeat (first | assumption | exact Below.refl _ _ | refine ba ?_ _ | refine bd ?_ | refine bdn ?_ _ | refine bs ?_ (by first | omega | (simp; done) | (simp; omega)) _ | refine bt ?_ (by assumption))))
  have hb4_10 := bel hb4_9 hb10 (by (repeat (first | assumption | exact Below.refl _ _ | refine ba ?_ _ | refine bd ?_ | refine bdn ?_ _ | refine bs ?_ (by first | omega | (simp; done) | (simp; omega)) _ | refine bt ?_ (by assumption))))
  have hb5_10 := bel hb5_9 hb10 (by (repeat (first | assumption | exact Below.refl _ _ | refine ba ?_ _ | refine bd ?_ | refine bdn ?_ _ | refine bs ?_ (by first | omega | (simp; done) | (simp; omega)) _ | refine bt ?_ (by assumption))))
  have hb6_10 := bel hb6_9 hb10 (by (repeat (first | assumption | exact Below.refl _ _ | refine ba ?_ _ | refine bd ?_ | refine bdn ?_ _ | refine bs ?_ (by first | omega | (simp; done) | (simp; omega)) _ | refine bt ?_ (by assumption))))
  have hb7_10 := bel hb7_9 hb10 (by (repeat (first | assumption | exact Below.refl _ _ | refine ba ?_ _ | refine bd ?_ | refine bdn ?_ _ | refine bs ?_ (by first | omega | (simp; done) | (simp; omega)) _ | refine bt ?_ (by assumption))))
  have hb8_10 := bel hb8_9 hb10 (by (repeat (first | assumption | exact Below.refl _ _ | refine ba ?_ _ | refine bd ?_ | refine bdn ?_ _ | refine bs ?_ (by first | omega | (simp; done) | (simp; omega)) _ | refine bt ?_ (by assumption))))
  have hb9_10 := bel hb9 hb10 (by (repeat (first | assumption | exact Below.refl _ _ | refine ba ?_ _ | refine bd ?_ | refine bdn ?_ _ | refine bs ?_ (by first | omega | (simp; done) | (simp; omega)) _ | refine bt ?_ (by assumption))))
  clear hc1_9 hf1_9 hz9_0 hc9 hf9
  obtain ⟨hc1_10, hf1_10, hl1_10⟩ := bcell hb1_10
  clear hl1_10
  have hz10_0 : W.heap.size < w10.heap.size := (by omega)
  obtain ⟨hc10, hf10, hl10⟩ := bcell hb10
  clear hl10
  go_wp2_with fail
  (with_reducible refine ((H1.out).app _ ⟨HA.out.on (by (repeat (first | assumption | exact Below.refl _ _ | refine ba ?_ _ | refine bd ?_ | refine bdn ?_ _ | refine bs ?_ (by first | omega | (simp; done) | (simp; omega)) _ | refine bt ?_ (by assumption)))), HV.out.on (by (repeat (first | assumption | exact Below.refl _ _ | refine ba ?_ _ | refine bd ?_ | refine bdn ?_ _ | refine bs ?_ (by first | omega | (simp; done) | (simp; omega)) _ | refine bt ?_ (by assumption))))⟩).mono ?_)
  rintro e w11 ⟨rfl, hb11⟩
  have hs11 : w10.heap.size + 0 ≤ w11.heap.size := (by have h := hb11.size; first | omega | (simp at h; omega))
  have hb1_11 := bel hb1_10 hb11 (by (repeat (first | assumption | exact Below.refl _ _ | refine ba ?_ _ | refine bd ?_ | refine bdn ?_ _ | refine bs ?_ (by first | omega | (simp; done) | (simp; omega)) _ | refine bt ?_ (by assumption))))
  have hb2_11 := bel hb2_10 hb11 (by (repeat (first | assumption | exact Below.refl _ _ | refine ba ?_ _ | refine bd ?_ | refine bdn ?_ _ | refine bs ?_ (by first | omega | (simp; done) | (simp; omega)) _ | refine bt ?_ (by assumption))))
  have hb3_11 := bel hb3_10 hb11 (by (repeat (first | assumption | exact Below.refl _ _ | refine ba ?_ _ | refine bd ?_ | refine bdn ?_ _ | refine bs ?_ (by first | omega | (simp; done) | (simp; omega)) _ | refine bt ?_ (by assumption))))
  have hb4_11 := bel hb4_10 hb11 (by (repeat (first | assumption | exact Below.refl _ _ | refine ba ?_ _ | refine bd ?_ | refine bdn ?_ _ | refine bs ?_ (by first | omega | (simp; done) | (simp; omega)) _ | refine bt ?_ (by assumption))))
  have hb5_11 := bel hb5_10 hb11 (by (repeat (first | assumption | exact Below.refl _ _ | refine ba ?_ _ | refine bd ?_ | refine bdn ?_ _ | refine bs ?_ (by first | omega | (simp; done) | (simp; omega)) _ | refine bt ?_ (by assumption))))
  have hb6_11 := bel hb6_10 hb11 (by (repeat (first | assumption | exact Below.refl _ _ | refine ba ?_ _ | refine bd ?_ | refine bdn ?_ _ | refine bs ?_ (by first | omega | (simp; done) | (simp; omega)) _ | refine bt ?_ (by assumption))))
  have hb7_11 := bel hb7_10 hb11 (by (repeat (first | assumption | exact Below.refl _ _ | refine ba ?_ _ | refine bd ?_ | refine bdn ?_ _ | refine bs ?_ (by first | omega | (simp; done) | (simp; omega)) _ | refine bt ?_ (by assumption))))
  have hb8_11 := bel hb8_10 hb11 (by (repeat (first | assumption | exact Below.refl _ _ | refine ba ?_ _ | refine bd ?_ | refine bdn ?_ _ | refine bs ?_ (by first | omega | (simp; done) | (simp; omega)) _ | refine bt ?_ (by assumption))))
  have hb9_11 := bel hb9_10 hb11 (by (repeat (first | assumption | exact Below.refl _ _ | refine ba ?_ _ | refine bd ?_ | refine bdn ?_ _ | refine bs ?_ (by first | omega | (simp; done) | (simp; omega)) _ | refine bt ?_ (by assumption))))
  have hb10_11 := bel hb10 hb11 (by (repeat (first | assumption | exact Below.refl _ _ | refine ba ?_ _ | refine bd ?_ | refine bdn ?_ _ | refine bs ?_ (by first | omega | (simp; done) | (simp; omega)) _ | refine bt ?_ (by assumption))))
  clear hc1_10 hf1_10 hz10_0 hc10 hf10
  obtain ⟨hc1_11, hf1_11, hl1_11⟩ := bcell hb1_11
  clear hl1_11
  have hz11_0 : W.heap.size < w11.heap.size := (by omega)
  obtain ⟨hc11, hf11, hl11⟩ := bcell hb11
  clear hl11
  go_wp2_with fail
  (with_reducible refine ((H2.out).app _ ⟨HA.out.on (by (repeat (first | assumption | exact Below.refl _ _ | refine ba ?_ _ | refine bd ?_ | refine bdn ?_ _ | refine bs ?_ (by first | omega | (simp; done) | (simp; omega)) _ | refine bt ?_ (by assumption)))), HV.out.on (by (repeat (first | assumption | exact Below.refl _ _ | refine ba ?_ _ | refine bd ?_ | refine bdn ?_ _ | refine bs ?_ (by first | omega | (simp; done) | (simp; omega)) _ | refine bt ?_ (by assumption))))⟩).mono ?_)
  rintro e w12 ⟨rfl, hb12⟩
  have hs12 : w11.heap.size + 0 ≤ w12.heap.size := (by have h := hb12.size; first | omega | (simp at h; omega))
  have hb1_12 := bel hb1_11 hb12 (by (repeat (first | assumption | exact Below.refl _ _ | refine ba ?_ _ | refine bd ?_ | refine bdn ?_ _ | refine bs ?_ (by first | omega | (simp; done) | (simp; omega)) _ | refine bt ?_ (by assumption))))
  have hb2_12 := bel hb2_11 hb12 (by (repeat (first | assumption | exact Below.refl _ _ | refine ba ?_ _ | refine bd ?_ | refine bdn ?_ _ | refine bs ?_ (by first | omega | (simp; done) | (simp; omega)) _ | refine bt ?_ (by assumption))))
  have hb3_12 := bel hb3_11 hb12 (by (repeat (first | assumption | exact Below.refl _ _ | refine ba ?_ _ | refine bd ?_ | refine bdn ?_ _ | refine bs ?_ (by first | omega | (simp; done) | (simp; omega)) _ | refine bt ?_ (by assumption))))
  have hb4_12 := bel hb4_11 hb12 (by (repeat (first | assumption | exact Below.refl _ _ | refine ba ?_ _ | refine bd ?_ | refine bdn ?_ _ | refine bs ?_ (by first | omega | (simp; done) | (simp; omega)) _ | refine bt ?_ (by assumption))))
  have hb5_12 := bel hb5_11 hb12 (by (repeat (first | assumption | exact Below.refl _ _ | refine ba ?_ _ | refine bd ?_ | refine bdn ?_ _ | refine bs ?_ (by first | omega | (simp; done) | (simp; omega)) _ | refine bt ?_ (by assumption))))
  have hb6_12 := bel hb6_11 hb12 (by (repeat (first | assumption | exact Below.refl _ _ | refine ba ?_ _ | refine bd ?_ | refine bdn ?_ _ | refine bs ?_ (by first | omega | (simp; done) | (simp; omega)) _ | refine bt ?_ (by assumption))))
  have hb7_12 := bel hb7_11 hb12 (by (repeat (first | assumption | exact Below.refl _ _ | refine ba ?_ _ | refine bd ?_ | refine bdn ?_ _ | refine bs ?_ (by first | omega | (simp; done) | (simp; omega)) _ | refine bt ?_ (by assumption))))
  have hb8_12 := bel hb8_11 hb12 (by (repeat (first | assumption | exact Below.refl _ _ | refine ba ?_ _ | refine bd ?_ | refine bdn ?_ _ | refine bs ?_ (by first | omega | (simp; done) | (simp; omega)) _ | refine bt ?_ (by assumption))))
  have hb9_12 := bel hb9_11 hb12 (by (repeat (first | assumption | exact Below.refl _ _ | refine ba ?_ _ | refine bd ?_ | refine bdn ?_ _ | refine bs ?_ (by first | omega | (simp; done) | (simp; omega)) _ | refine bt ?_ (by assumption))))
  have hb10_12 := bel hb10_11 hb12 (by (repeat (first | assumption | exact Below.refl _ _ | refine ba ?_ _ | refine bd ?_ | refine bdn ?_ _ | refine bs ?_ (by first | omega | (simp; done) | (simp; omega)) _ | refine bt ?_ (by assumption))))
  have hb11_12 := bel hb11 hb12 (by (repeat (first | assumption | exact Below.refl _ _ | refine ba ?_ _ | refine bd ?_ | refine bdn ?_ _ | refine bs ?_ (by first | omega | (simp; done) | (simp; omega)) _ | refine bt ?_ (by assumption))))
  clear hc1_11 hf1_11 hz11_0 hc11 hf11
  obtain ⟨hc1_12, hf1_12, hl1_12⟩ := bcell hb1_12
  clear hl1_12
  have hz12_0 : W.heap.size < w12.heap.size := (by omega)
  obtain ⟨hc12, hf12, hl12⟩ := bcell hb12
  clear hl12
  go_wp2_with fail
  (with_reducible refine (works5.app _ (TN.on HT.out (by (repeat (first | assumption | exact Below.refl _ _ | refine ba ?_ _ | refine bd ?_ | refine bdn ?_ _ | refine bs ?_ (by first | omega | (simp; done) | (simp; omega)) _ | refine bt ?_ (by assumption)))))).mono ?_)
  rintro e w13 ⟨rfl, hb13⟩
  have hs13 : w12.heap.size + 0 ≤ w13.heap.size := (by have h := hb13.size; first | omega | (simp at h; omega))
  have hb1_13 := bel hb1_12 hb13 (by (repeat (first | assumption | exact Below.refl _ _ | refine ba ?_ _ | refine bd ?_ | refine bdn ?_ _ | refine bs ?_ (by first | omega | (simp; done) | (simp; omega)) _ | refine bt ?_ (by assumption))))
  have hb2_13 := bel hb2_12 hb13 (by (repeat (first | assumption | exact Below.refl _ _ | refine ba ?_ _ | refine bd ?_ | refine bdn ?_ _ | refine bs ?_ (by first | omega | (simp; done) | (simp; omega)) _ | refine bt ?_ (by assumption))))
  have hb3_13 := bel hb3_12 hb13 (by (repeat (first | assumption | exact Below.refl _ _ | refine ba ?_ _ | refine bd ?_ | refine bdn ?_ _ | refine bs ?_ (by first | omega | (simp; done) | (simp; omega)) _ | refine bt ?_ (by assumption))))
  have hb4_13 := bel hb4_12 hb13 (by (repeat (first | assumption | exact Below.refl _ _ | refine ba ?_ _ | refine bd ?_ | refine bdn ?_ _ | refine bs ?_ (by first | omega | (simp; done) | (simp; omega)) _ | refine bt ?_ (by assumption))))
  have hb5_13 := bel hb5_12 hb13 (by (repeat (first | assumption | exact Below.refl _ _ | refine ba ?_ _ | refine bd ?_ | refine bdn ?_ _ | refine bs ?_ (by first | omega | (simp; done) | (simp; omega)) _ | refine bt ?_ (by assumption))))
  have hb6_13 := bel hb6_12 hb13 (by (repeat (first | assumption | exact Below.refl _ _ | refine ba ?_ _ | refine bd ?_ | refine bdn ?_ _ | refine bs ?_ (by first | omega | (simp; done) | (simp; omega)) _ | refine bt ?_ (by assumption))))
  have hb7_13 := bel hb7_12 hb13 (by (repeat (first | assumption | exact Below.refl _ _ | refine ba ?_ _ | refine bd ?_ | refine bdn ?_ _ | refine bs ?_ (by first | omega | (simp; done) | (simp; omega)) _ | refine bt ?_ (by assumption))))
  have hb8_13 := bel hb8_12 hb13 (by (repeat (first | assumption | exact Below.refl _ _ | refine ba ?_ _ | refine bd ?_ | refine bdn ?_ _ | refine bs ?_ (by first | omega | (simp; done) | (simp; omega)) _ | refine bt ?_ (by assumption))))
  have hb9_13 := bel hb9_12 hb13 (by (repeat (first | assumption | exact Below.refl _ _ | refine ba ?_ _ | refine bd ?_ | refine bdn ?_ _ | refine bs ?_ (by first | omega | (simp; done) | (simp; omega)) _ | refine bt ?_ (by assumption))))
  have hb10_13 := bel hb10_12 hb13 (by (repeat (first | assumption | exact Below.refl _ _ | refine ba ?_ _ | refine bd ?_ | refine bdn ?_ _ | refine bs ?_ (by first | omega | (simp; done) | (simp; omega)) _ | refine bt ?_ (by assumption))))
  have hb11_13 := bel hb11_12 hb13 (by (repeat (first | assumption | exact Below.refl _ _ | refine ba ?_ _ | refine bd ?_ | refine bdn ?_ _ | refine bs ?_ (by first | omega | (simp; done) | (simp; omega)) _ | refine bt ?_ (by assumption))))
  have hb12_13 := bel hb12 hb13 (by (repeat (first | assumption | exact Below.refl _ _ | refine ba ?_ _ | refine bd ?_ | refine bdn ?_ _ | refine bs ?_ (by first | omega | (simp; done) | (simp; omega)) _ | refine bt ?_ (by assumption))))
  clear hc1_12 hf1_12 hz12_0 hc12 hf12
  obtain ⟨hc1_13, hf1_13, hl1_13⟩ := bcell hb1_13
  clear hl1_13
  have hz13_0 : W.heap.size < w13.heap.size := (by omega)
  obtain ⟨hc13, hf13, hl13⟩ := bcell hb13
  clear hl13
  go_wp2
  go_ret
  refine ⟨rfl, ?_⟩
  (repeat (first | assumption | exact Below.refl _ _ | refine ba ?_ _ | refine bd ?_ | refine bdn ?_ _ | refine bs ?_ (by first | omega | (simp; done) | (simp; omega)) _ | refine bt ?_ (by assumption)))
theorem sums5 (va vb : Value) (la lb : List Pt) (W : World) (hA : Vc W va la) (hV : Vc W vb lb) (hT : TN W) : Calls Tryd.prog 4 #[va, vb] W fun e w' => e = .returned (.bool true) ∧ Below W.heap.size W w' := by
  by_cases hl : la.length ≤ 150 ∧ lb.length ≤ 150
  · exact sums5_short va vb la lb W hA hV hT hl
  · exact sums5_long va vb la lb W hA hV hl
end Go.Proofs.YtlhljioncgddeaaDoor
