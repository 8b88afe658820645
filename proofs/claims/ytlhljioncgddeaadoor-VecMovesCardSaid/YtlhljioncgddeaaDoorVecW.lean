/- Works of the statements of layer 5. Condition: the names of the kinds and the powers of ten lie in their variables. -/
import Derived.Test.YtlhljioncgddeaaDoorVecT
import Derived.Test.YtlhljioncgddeaaDoorVecA
import Derived.Test.YtlhljioncgddeaaDoorVecS
namespace Go.Proofs.YtlhljioncgddeaaDoor
open Go.RowKit
attribute [local go_sem] ext_cell ext_frozen Mix.calmUpon Mix.mUpon
def wL : List Pt := [(0, 0, 500), (1, 0, 3000), (0, 0, 500)]
def wA : List Pt := [(0, 0, 1000), (1, 0, 3000)]
def wB : List Pt := [(0, 3, 1000), (1, 3, 3000)]
theorem wOf : ofO wL = some wA := by decide +kernel
theorem wMv : mvO wA 0 3 = some wB := by decide +kernel
theorem wHy : (mrg gSub wA wA).isSome = true := by decide +kernel
theorem wHn : (mrg gSub wB wA).isSome = false := by decide +kernel
theorem wVA : VR wA := by decide +kernel
theorem wVB : VR wB := by decide +kernel
theorem dd1 : Lib.decDigits 1 = [49] := decDigits_lt 1 (by decide)
theorem dd3 : Lib.decDigits 3 = [51] := decDigits_lt 3 (by decide)
theorem wTA : textV wA = ⟨#[99, 112, 117, 115, 58, 49, 44, 109, 101, 109, 58, 51]⟩ := by
  unfold textV
  rw [if_pos wVA, if_neg (by decide)]
  apply Go.WideShapes.bytes_inj
  simp [wA, wordB, sT, qT, qL, nmS, dd1, dd3, Lib.join, List.intercalate, ByteArray.data_append]
theorem wTB : textV wB = ⟨#[99, 112, 117, 115, 40, 51, 41, 58, 49, 44, 109, 101, 109, 40, 51, 41, 58, 51]⟩ := by
  unfold textV
  rw [if_pos wVB, if_neg (by decide)]
  apply Go.WideShapes.bytes_inj
  simp [wB, wordB, sT, qT, qL, nmS, dd1, dd3, Lib.join, List.intercalate, ByteArray.data_append]
theorem TN.on {W w : World} (h : TN W) (hb : Below W.heap.size W w) : TN w := clo_TN _ _ h hb
theorem RetO.yes {w w' : World} {l : List Pt} {e : Ending} (h : RetO w (Option.some l) e w') : ∃ v, e = .returned (.tuple #[v, .bool true]) ∧ Vc w' v l ∧ Below w.heap.size w w' := h
theorem RetO.not {w w' : World} {e : Ending} (h : RetO w Option.none e w') : ∃ v, e = .returned (.tuple #[v, .bool false]) ∧ Vc w' v [] ∧ Below w.heap.size w w' := h
theorem wI : I64s wL := fun p hp => by
  have : p = (0, 0, 500) ∨ p = (1, 0, 3000) ∨ p = (0, 0, 500) := by simpa [wL] using hp
  rcases this with rfl | rfl | rfl <;> exact ⟨⟨by decide, by decide⟩, ⟨by decide, by decide⟩, ⟨by decide, by decide⟩⟩
theorem wIA : I64s wA := fun p hp => by
  have : p = (0, 0, 1000) ∨ p = (1, 0, 3000) := by simpa [wA] using hp
  rcases this with rfl | rfl <;> exact ⟨⟨by decide, by decide⟩, ⟨by decide, by decide⟩, ⟨by decide, by decide⟩⟩
theorem wVc (W : World) : Vc (W.alloc (.cells #[.int .i64 0, .int .i64 0, .int .i64 500, .int .i64 1, .int .i64 0, .int .i64 3000, .int .i64 0, .int .i64 0, .int .i64 500] 64)) (.slice (some ⟨W.heap.size, 0, none⟩) 3 3) wL :=
  .inr ⟨W.heap.size, 0, 3, rfl, Nat.le_refl _, by unfold maxLen; omega, by simp, fun i hi => by
    have : i = 0 ∨ i = 1 ∨ i = 2 := by simp [wL] at hi; omega
    rcases this with rfl | rfl | rfl <;> simp [go_sem, kk, rr, aa, wL]⟩
set_option maxRecDepth 100000 in
set_option maxHeartbeats 4000000 in
theorem works5 : PureOn TN Tryd.prog 21 #[] (.bool true) := by
  intro W hT
  have HT := Lib.hid hT
  have HO := Lib.hid (vof_any _ wL wI (by decide) _ (wVc W))
  rw [wOf] at HO
  have HTA := Lib.hid fun v => vtext_any v wA (by decide)
  have HTB := Lib.hid fun v => vtext_any v wB (by decide)
  rw [wTA] at HTA
  rw [wTB] at HTB
  have HHy := Lib.hid fun v => vholds_any v v wA wA (by decide) (by decide)
  have HHn := Lib.hid fun v u => vholds_any v u wB wA (by decide) (by decide)
  rw [wHy] at HHy
  rw [wHn] at HHn
  have HM := Lib.hid fun v w (h : Vc w v wA) => vmove_any v wA 0 3 wIA (by decide) w h
  rw [wMv] at HM
  clear hT
  go_enter Tryd.func21, Tryd.ntmps21
  go_wp2_with fail
  refine HO.out.mono ?_
  intro e w1 h1
  obtain ⟨v1, rfl, hv1, hb1⟩ := RetO.yes h1
  have HV1 := Lib.hid hv1
  clear h1 hv1 HO
  have hs1 : W.heap.size + 1 ≤ w1.heap.size := (by have h := hb1.size; first | omega | (simp at h; omega))
  have hz1_0 : W.heap.size < w1.heap.size := (by omega)
  obtain ⟨hc1, hf1, hl1⟩ := bcell hb1
  clear hl1
  go_wp2_with fail
  refine (HM.out _ _ HV1.out).mono ?_
  intro e w2 h2
  obtain ⟨v2, rfl, hv2, hb2⟩ := RetO.yes h2
  have HV2 := Lib.hid hv2
  clear h2 hv2 HM
  have hs2 : w1.heap.size + 0 ≤ w2.heap.size := (by have h := hb2.size; first | omega | (simp at h; omega))
  have hb1_2 := bel hb1 hb2 (by (repeat (first | assumption | exact Below.refl _ _ | refine ba ?_ _ | refine bd ?_ | refine bdn ?_ _ | refine bs ?_ (by first | omega | (simp; done) | (simp; omega)) _ | refine bt ?_ (by assumption))))
  clear hz1_0 hc1 hf1
  obtain ⟨hc1_2, hf1_2, hl1_2⟩ := bcell hb1_2
  clear hl1_2
  have hz2_0 : W.heap.size < w2.heap.size := (by omega)
  obtain ⟨hc2, hf2, hl2⟩ := bcell hb2
  clear hl2
  go_wp2_with fail
  (with_reducible refine ((HTA.out _).app _ ⟨HV1.out.on (by (repeat (first | assumption | exact Below.refl _ _ | refine ba ?_ _ | refine bd ?_ | refine bdn ?_ _ | refine bs ?_ (by first | omega | (simp; done) | (simp; omega)) _ | refine bt ?_ (by assumption)))), TN.on HT.out (by (repeat (first | assumption | exact Below.refl _ _ | refine ba ?_ _ | refine bd ?_ | refine bdn ?_ _ | refine bs ?_ (by first | omega | (simp; done) | (simp; omega)) _ | refine bt ?_ (by assumption))))⟩).mono ?_)
  rintro e w3 ⟨rfl, hb3⟩
  have hs3 : w2.heap.size + 0 ≤ w3.heap.size := (by have h := hb3.size; first | omega | (simp at h; omega))
  have hb1_3 := bel hb1_2 hb3 (by (repeat (first | assumption | exact Below.refl _ _ | refine ba ?_ _ | refine bd ?_ | refine bdn ?_ _ | refine bs ?_ (by first | omega | (simp; done) | (simp; omega)) _ | refine bt ?_ (by assumption))))
  have hb2_3 := bel hb2 hb3 (by (repeat (first | assumption | exact Below.refl _ _ | refine ba ?_ _ | refine bd ?_ | refine bdn ?_ _ | refine bs ?_ (by first | omega | (simp; done) | (simp; omega)) _ | refine bt ?_ (by assumption))))
  clear hc1_2 hf1_2 hz2_0 hc2 hf2
  obtain ⟨hc1_3, hf1_3, hl1_3⟩ := bcell hb1_3
  clear hl1_3
  have hz3_0 : W.heap.size < w3.heap.size := (by omega)
  obtain ⟨hc3, hf3, hl3⟩ := bcell hb3
  clear hl3
  go_wp2_with fail
  (with_reducible refine ((HTB.out _).app _ ⟨HV2.out.on (by (repeat (first | assumption | exact Below.refl _ _ | refine ba ?_ _ | refine bd ?_ | refine bdn ?_ _ | refine bs ?_ (by first | omega | (simp; done) | (simp; omega)) _ | refine bt ?_ (by assumption)))), TN.on HT.out (by (repeat (first | assumption | exact Below.refl _ _ | refine ba ?_ _ | refine bd ?_ | refine bdn ?_ _ | refine bs ?_ (by first | omega | (simp; done) | (simp; omega)) _ | refine bt ?_ (by assumption))))⟩).mono ?_)
  rintro e w4 ⟨rfl, hb4⟩
  have hs4 : w3.heap.size + 0 ≤ w4.heap.size := (by have h := hb4.size; first | omega | (simp at h; omega))
  have hb1_4 := bel hb1_3 hb4 (by (repeat (first | assumption | exact Below.refl _ _ | refine ba ?_ _ | refine bd ?_ | refine bdn ?_ _ | refine bs ?_ (by first | omega | (simp; done) | (simp; omega)) _ | refine bt ?_ (by assumption))))
  have hb2_4 := bel hb2_3 hb4 (by (repeat (first | assumption | exact Below.refl _ _ | refine ba ?_ _ | refine bd ?_ | refine bdn ?_ _ | refine bs ?_ (by first | omega | (simp; done) | (simp; omega)) _ | refine bt ?_ (by assumption))))
  have hb3_4 := bel hb3 hb4 (by (repeat (first | assumption | exact Below.refl _ _ | refine ba ?_ _ | refine bd ?_ | refine bdn ?_ _ | refine bs ?_ (by first | omega | (simp; done) | (simp; omega)) _ | refine bt ?_ (by assumption))))
  clear hc1_3 hf1_3 hz3_0 hc3 hf3
  obtain ⟨hc1_4, hf1_4, hl1_4⟩ := bcell hb1_4
  clear hl1_4
  have hz4_0 : W.heap.size < w4.heap.size := (by omega)
  obtain ⟨hc4, hf4, hl4⟩ := bcell hb4
  clear hl4
  go_wp2_with fail
  (with_reducible refine ((HHy.out _).app _ ⟨HV1.out.on (by (repeat (first | assumption | exact Below.refl _ _ | refine ba ?_ _ | refine bd ?_ | refine bdn ?_ _ | refine bs ?_ (by first | omega | (simp; done) | (simp; omega)) _ | refine bt ?_ (by assumption)))), HV1.out.on (by (repeat (first | assumption | exact Below.refl _ _ | refine ba ?_ _ | refine bd ?_ | refine bdn ?_ _ | refine bs ?_ (by first | omega | (simp; done) | (simp; omega)) _ | refine bt ?_ (by assumption))))⟩).mono ?_)
  rintro e w5 ⟨rfl, hb5⟩
  have hs5 : w4.heap.size + 0 ≤ w5.heap.size := (by have h := hb5.size; first | omega | (simp at h; omega))
  have hb1_5 := bel hb1_4 hb5 (by (repeat (first | assumption | exact Below.refl _ _ | refine ba ?_ _ | refine bd ?_ | refine bdn ?_ _ | refine bs ?_ (by first | omega | (simp; done) | (simp; omega)) _ | refine bt ?_ (by assumption))))
  have hb2_5 := bel hb2_4 hb5 (by (repeat (first | assumption | exact Below.refl _ _ | refine ba ?_ _ | refine bd ?_ | refine bdn ?_ _ | refine bs ?_ (by first | omega | (simp; done) | (simp; omega)) _ | refine bt ?_ (by assumption))))
  have hb3_5 := bel hb3_4 hb5 (by (repeat (first | assumption | exact Below.refl _ _ | refine ba ?_ _ | refine bd ?_ | refine bdn ?_ _ | refine bs ?_ (by first | omega | (simp; done) | (simp; omega)) _ | refine bt ?_ (by assumption))))
  have hb4_5 := bel hb4 hb5 (by (repeat (first | assumption | exact Below.refl _ _ | refine ba ?_ _ | refine bd ?_ | refine bdn ?_ _ | refine bs ?_ (by first | omega | (simp; done) | (simp; omega)) _ | refine bt ?_ (by assumption))))
  clear hc1_4 hf1_4 hz4_0 hc4 hf4
  obtain ⟨hc1_5, hf1_5, hl1_5⟩ := bcell hb1_5
  clear hl1_5
  have hz5_0 : W.heap.size < w5.heap.size := (by omega)
  obtain ⟨hc5, hf5, hl5⟩ := bcell hb5
  clear hl5
  go_wp2_with fail
  (with_reducible refine ((HHn.out _ _).app _ ⟨HV2.out.on (by (repeat (first | assumption | exact Below.refl _ _ | refine ba ?_ _ | refine bd ?_ | refine bdn ?_ _ | refine bs ?_ (by first | omega | (simp; done) | (simp; omega)) _ | refine bt ?_ (by assumption)))), HV1.out.on (by (repeat (first | assumption | exact Below.refl _ _ | refine ba ?_ _ | refine bd ?_ | refine bdn ?_ _ | refine bs ?_ (by first | omega | (simp; done) | (simp; omega)) _ | refine bt ?_ (by assumption))))⟩).mono ?_)
  rintro e w6 ⟨rfl, hb6⟩
  have hs6 : w5.heap.size + 0 ≤ w6.heap.size := (by have h := hb6.size; first | omega | (simp at h; omega))
  have hb1_6 := bel hb1_5 hb6 (by (repeat (first | assumption | exact Below.refl _ _ | refine ba ?_ _ | refine bd ?_ | refine bdn ?_ _ | refine bs ?_ (by first | omega | (simp; done) | (simp; omega)) _ | refine bt ?_ (by assumption))))
  have hb2_6 := bel hb2_5 hb6 (by (repeat (first | assumption | exact Below.refl _ _ | refine ba ?_ _ | refine bd ?_ | refine bdn ?_ _ | refine bs ?_ (by first | omega | (simp; done) | (simp; omega)) _ | refine bt ?_ (by assumption))))
  have hb3_6 := bel hb3_5 hb6 (by (repeat (first | assumption | exact Below.refl _ _ | refine ba ?_ _ | refine bd ?_ | refine bdn ?_ _ | refine bs ?_ (by first | omega | (simp; done) | (simp; omega)) _ | refine bt ?_ (by assumption))))
  have hb4_6 := bel hb4_5 hb6 (by (repeat (first | assumption | exact Below.refl _ _ | refine ba ?_ _ | refine bd ?_ | refine bdn ?_ _ | refine bs ?_ (by first | omega | (simp; done) | (simp; omega)) _ | refine bt ?_ (by assumption))))
  have hb5_6 := bel hb5 hb6 (by (repeat (first | assumption | exact Below.refl _ _ | refine ba ?_ _ | refine bd ?_ | refine bdn ?_ _ | refine bs ?_ (by first | omega | (simp; done) | (simp; omega)) _ | refine bt ?_ (by assumption))))
  clear hc1_5 hf1_5 hz5_0 hc5 hf5
  obtain ⟨hc1_6, hf1_6, hl1_6⟩ := bcell hb1_6
  clear hl1_6
  have hz6_0 : W.heap.size < w6.heap.size := (by omega)
  obtain ⟨hc6, hf6, hl6⟩ := bcell hb6
  clear hl6
  go_wp2
  go_ret
  refine ⟨rfl, ?_⟩
  (repeat (first | assumption | exact Below.refl _ _ | refine ba ?_ _ | refine bd ?_ | refine bdn ?_ _ | refine bs ?_ (by first | omega | (simp; done) | (simp; omega)) _ | refine bt ?_ (by assumption)))
end Go.Proofs.YtlhljioncgddeaaDoor
