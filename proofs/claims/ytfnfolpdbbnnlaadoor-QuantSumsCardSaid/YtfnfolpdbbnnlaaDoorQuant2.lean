/- quant.Text at 1500 and at 25. Condition: the powers of ten lie in their variable. -/
import Derived.Test.YtfnfolpdbbnnlaaDoorQuant1
import Derived.Test.YtfnfolpdbbnnlaaDoorLib
import Derived.Test.YtfnfolpdbbnnlaaDoorSText
namespace Go.Proofs.YtfnfolpdbbnnlaaDoor
open Go.RowKit
attribute [local go_sem] ext_cell ext_frozen Mix.calmUpon Mix.mUpon
theorem dec_lt {i : Nat} (h : i < 10) : Lib.decDigits i = [UInt8.ofNat (48 + i)] := by rw [Lib.decDigits, dif_pos h]
theorem dec_ge {i : Nat} (h : ¬ i < 10) : Lib.decDigits i = Lib.decDigits (i / 10) ++ [UInt8.ofNat (48 + i % 10)] := by rw [Lib.decDigits, dif_neg h]
theorem dec_1500 : itoaS 1500 = ⟨#[49, 53, 48, 48]⟩ := by
  have : Lib.decDigits 1500 = [49, 53, 48, 48] := by
    rw [dec_ge (by decide), dec_ge (by decide), dec_ge (by decide), dec_lt (by decide)]; decide
  unfold itoaS Lib.itoa
  rw [if_neg (by decide), show (1500 : Int).toNat = 1500 from rfl, this]
theorem dec_1025 : itoaS 1025 = ⟨#[49, 48, 50, 53]⟩ := by
  have : Lib.decDigits 1025 = [49, 48, 50, 53] := by
    rw [dec_ge (by decide), dec_ge (by decide), dec_ge (by decide), dec_lt (by decide)]; decide
  unfold itoaS Lib.itoa
  rw [if_neg (by decide), show (1025 : Int).toNat = 1025 from rfl, this]
theorem fmt_1 (i : Nat) (h : i < 10) : Pure Tryd.prog 58 #[.int .i64 i, .int .i64 10] (.string ⟨#[UInt8.ofNat (48 + i)]⟩) := by
  have := fmt_small i (by omega)
  rw [dec_lt h] at this
  exact this
theorem trim_500 (w : World) : Calls Tryd.prog 63 #[.string ((⟨#[49, 53, 48, 48]⟩ : ByteArray).extract 1 4), .string ⟨#[48]⟩] w fun e w' => e = .returned (.string ⟨#[53]⟩) ∧ Below w.heap.size w w' :=
  by
  rw [show (⟨#[49, 53, 48, 48]⟩ : ByteArray).extract 1 4 = ⟨#[53, 48, 48]⟩ by apply Go.WideShapes.bytes_inj; simp [ByteArray.data_extract]]
  exact (Lb.Tryd.strings_TrimRight_one ⟨#[53, 48, 48]⟩ 48 (by decide) w (by decide)).mono fun _ _ ⟨he, hw⟩ => ⟨by rw [he]; rfl, by rw [hw]; exact Below.refl _ _⟩
theorem trim_025 (w : World) : Calls Tryd.prog 63 #[.string ((⟨#[49, 48, 50, 53]⟩ : ByteArray).extract 1 4), .string ⟨#[48]⟩] w fun e w' => e = .returned (.string ⟨#[48, 50, 53]⟩) ∧ Below w.heap.size w w' :=
  by
  rw [show (⟨#[49, 48, 50, 53]⟩ : ByteArray).extract 1 4 = ⟨#[48, 50, 53]⟩ by apply Go.WideShapes.bytes_inj; simp [ByteArray.data_extract]]
  exact (Lb.Tryd.strings_TrimRight_one ⟨#[48, 50, 53]⟩ 48 (by decide) w (by decide)).mono fun _ _ ⟨he, hw⟩ => ⟨by rw [he]; rfl, by rw [hw]; exact Below.refl _ _⟩
set_option maxRecDepth 100000 in
theorem qtext_1500 : PureOn T10 Tryd.prog 27 #[.int .i64 1500] (.string ⟨#[49, 46, 53]⟩) := by
  intro W hT
  have HR := qright_any 1500
  rw [decide_eq_true (by decide)] at HR
  have HR := Lib.hid HR
  have HF := Lib.hid (show Pure Tryd.prog 58 #[.int .i64 1, .int .i64 10] (.string ⟨#[49]⟩) from fmt_1 1 (by decide))
  have HG := fmt_any 1500 (by decide) (by decide)
  rw [dec_1500] at HG
  have HG := Lib.hid HG
  have HT := Lib.hid hT
  clear hT
  go_enter Tryd.func27, Tryd.ntmps27
  go_wp2_with fail
  (with_reducible refine (HR.out _).mono ?_)
  rintro e w1 ⟨rfl, hb1⟩
  have hs1 : W.heap.size + 0 ≤ w1.heap.size := (by have h := hb1.size; first | omega | (simp at h; omega))
  obtain ⟨hc1, hf1, hl1⟩ := bcell hb1
  clear hl1
  go_wp2_with fail
  (with_reducible refine (HF.out _).mono ?_)
  rintro e w2 ⟨rfl, hb2⟩
  have hs2 : w1.heap.size + 0 ≤ w2.heap.size := (by have h := hb2.size; first | omega | (simp at h; omega))
  have hb1_2 := bel hb1 hb2 (by (repeat (first | assumption | exact Below.refl _ _ | refine ba ?_ _ | refine bd ?_ | refine bdn ?_ _ | refine bs ?_ (by first | omega | (simp; done) | (simp; omega)) _ | refine bt ?_ (by assumption))))
  clear hc1 hf1
  obtain ⟨hc2, hf2, hl2⟩ := bcell hb2
  clear hl2
  have HT2 := Lib.hid (clo_T10 _ _ HT.out (show Below W.heap.size W w2 by (repeat (first | assumption | exact Below.refl _ _ | refine ba ?_ _ | refine bd ?_ | refine bdn ?_ _ | refine bs ?_ (by first | omega | (simp; done) | (simp; omega)) _ | refine bt ?_ (by assumption)))))
  go_wp2_with fail
  (with_reducible refine (HG.out.app _ HT2.out).mono ?_)
  rintro e w3 ⟨rfl, hb3⟩
  have hs3 : w2.heap.size + 0 ≤ w3.heap.size := (by have h := hb3.size; first | omega | (simp at h; omega))
  have hb1_3 := bel hb1_2 hb3 (by (repeat (first | assumption | exact Below.refl _ _ | refine ba ?_ _ | refine bd ?_ | refine bdn ?_ _ | refine bs ?_ (by first | omega | (simp; done) | (simp; omega)) _ | refine bt ?_ (by assumption))))
  have hb2_3 := bel hb2 hb3 (by (repeat (first | assumption | exact Below.refl _ _ | refine ba ?_ _ | refine bd ?_ | refine bdn ?_ _ | refine bs ?_ (by first | omega | (simp; done) | (simp; omega)) _ | refine bt ?_ (by assumption))))
  clear hc2 hf2
  obtain ⟨hc3, hf3, hl3⟩ := bcell hb3
  clear hl3
  go_wp2_with fail
  (with_reducible refine (trim_500 _).mono ?_)
  rintro e w4 ⟨rfl, hb4⟩
  have hs4 : w3.heap.size + 0 ≤ w4.heap.size := (by have h := hb4.size; first | omega | (simp at h; omega))
  have hb1_4 := bel hb1_3 hb4 (by (repeat (first | assumption | exact Below.refl _ _ | refine ba ?_ _ | refine bd ?_ | refine bdn ?_ _ | refine bs ?_ (by first | omega | (simp; done) | (simp; omega)) _ | refine bt ?_ (by assumption))))
  have hb2_4 := bel hb2_3 hb4 (by (repeat (first | assumption | exact Below.refl _ _ | refine ba ?_ _ | refine bd ?_ | refine bdn ?_ _ | refine bs ?_ (by first | omega | (simp; done) | (simp; omega)) _ | refine bt ?_ (by assumption))))
  have hb3_4 := bel hb3 hb4 (by (repeat (first | assumption | exact Below.refl _ _ | refine ba ?_ _ | refine bd ?_ | refine bdn ?_ _ | refine bs ?_ (by first | omega | (simp; done) | (simp; omega)) _ | refine bt ?_ (by assumption))))
  clear hc3 hf3
  obtain ⟨hc4, hf4, hl4⟩ := bcell hb4
  clear hl4
  go_wp2
  go_ret
  refine ⟨rfl, ?_⟩
  (repeat (first | assumption | exact Below.refl _ _ | refine ba ?_ _ | refine bd ?_ | refine bdn ?_ _ | refine bs ?_ (by first | omega | (simp; done) | (simp; omega)) _ | refine bt ?_ (by assumption)))
set_option maxRecDepth 100000 in
theorem qtext_25 : PureOn T10 Tryd.prog 27 #[.int .i64 25] (.string ⟨#[48, 46, 48, 50, 53]⟩) := by
  intro W hT
  have HR := qright_any 25
  rw [decide_eq_true (by decide)] at HR
  have HR := Lib.hid HR
  have HF := Lib.hid (show Pure Tryd.prog 58 #[.int .i64 0, .int .i64 10] (.string ⟨#[48]⟩) from fmt_1 0 (by decide))
  have HG := fmt_any 1025 (by decide) (by decide)
  rw [dec_1025] at HG
  have HG := Lib.hid HG
  have HT := Lib.hid hT
  clear hT
  go_enter Tryd.func27, Tryd.ntmps27
  go_wp2_with fail
  (with_reducible refine (HR.out _).mono ?_)
  rintro e w1 ⟨rfl, hb1⟩
  have hs1 : W.heap.size + 0 ≤ w1.heap.size := (by have h := hb1.size; first | omega | (simp at h; omega))
  obtain ⟨hc1, hf1, hl1⟩ := bcell hb1
  clear hl1
  go_wp2_with fail
  (with_reducible refine (HF.out _).mono ?_)
  rintro e w2 ⟨rfl, hb2⟩
  have hs2 : w1.heap.size + 0 ≤ w2.heap.size := (by have h := hb2.size; first | omega | (simp at h; omega))
  have hb1_2 := bel hb1 hb2 (by (repeat (first | assumption | exact Below.refl _ _ | refine ba ?_ _ | refine bd ?_ | refine bdn ?_ _ | refine bs ?_ (by first | omega | (simp; done) | (simp; omega)) _ | refine bt ?_ (by assumption))))
  clear hc1 hf1
  obtain ⟨hc2, hf2, hl2⟩ := bcell hb2
  clear hl2
  have HT2 := Lib.hid (clo_T10 _ _ HT.out (show Below W.heap.size W w2 by (repeat (first | assumption | exact Below.refl _ _ | refine ba ?_ _ | refine bd ?_ | refine bdn ?_ _ | refine bs ?_ (by first | omega | (simp; done) | (simp; omega)) _ | refine bt ?_ (by assumption)))))
  go_wp2_with fail
  (with_reducible refine (HG.out.app _ HT2.out).mono ?_)
  rintro e w3 ⟨rfl, hb3⟩
  have hs3 : w2.heap.size + 0 ≤ w3.heap.size := (by have h := hb3.size; first | omega | (simp at h; omega))
  have hb1_3 := bel hb1_2 hb3 (by (repeat (first | assumption | exact Below.refl _ _ | refine ba ?_ _ | refine bd ?_ | refine bdn ?_ _ | refine bs ?_ (by first | omega | (simp; done) | (simp; omega)) _ | refine bt ?_ (by assumption))))
  have hb2_3 := bel hb2 hb3 (by (repeat (first | assumption | exact Below.refl _ _ | refine ba ?_ _ | refine bd ?_ | refine bdn ?_ _ | refine bs ?_ (by first | omega | (simp; done) | (simp; omega)) _ | refine bt ?_ (by assumption))))
  clear hc2 hf2
  obtain ⟨hc3, hf3, hl3⟩ := bcell hb3
  clear hl3
  go_wp2_with fail
  (with_reducible refine (trim_025 _).mono ?_)
  rintro e w4 ⟨rfl, hb4⟩
  have hs4 : w3.heap.size + 0 ≤ w4.heap.size := (by have h := hb4.size; first | omega | (simp at h; omega))
  have hb1_4 := bel hb1_3 hb4 (by (repeat (first | assumption | exact Below.refl _ _ | refine ba ?_ _ | refine bd ?_ | refine bdn ?_ _ | refine bs ?_ (by first | omega | (simp; done) | (simp; omega)) _ | refine bt ?_ (by assumption))))
  have hb2_4 := bel hb2_3 hb4 (by (repeat (first | assumption | exact Below.refl _ _ | refine ba ?_ _ | refine bd ?_ | refine bdn ?_ _ | refine bs ?_ (by first | omega | (simp; done) | (simp; omega)) _ | refine bt ?_ (by assumption))))
  have hb3_4 := bel hb3 hb4 (by (repeat (first | assumption | exact Below.refl _ _ | refine ba ?_ _ | refine bd ?_ | refine bdn ?_ _ | refine bs ?_ (by first | omega | (simp; done) | (simp; omega)) _ | refine bt ?_ (by assumption))))
  clear hc3 hf3
  obtain ⟨hc4, hf4, hl4⟩ := bcell hb4
  clear hl4
  go_wp2
  go_ret
  refine ⟨rfl, ?_⟩
  (repeat (first | assumption | exact Below.refl _ _ | refine ba ?_ _ | refine bd ?_ | refine bdn ?_ _ | refine bs ?_ (by first | omega | (simp; done) | (simp; omega)) _ | refine bt ?_ (by assumption)))
end Go.Proofs.YtfnfolpdbbnnlaaDoor
