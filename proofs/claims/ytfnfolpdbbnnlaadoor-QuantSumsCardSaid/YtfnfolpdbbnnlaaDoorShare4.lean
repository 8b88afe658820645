/- Contract of works in the statements of layer 7. -/
import Derived.Test.YtfnfolpdbbnnlaaDoorShare3
namespace Go.Proofs.YtfnfolpdbbnnlaaDoor
open Go.RowKit
attribute [local go_sem] ext_cell ext_frozen
def wksN : Nat → Int | 0 => 1 | _ => 2
def wksD : Nat → Int | 0 => 2 | _ => 3
def wksW : Nat → Int | 0 => 1 | _ => 2
theorem wks_least : leastK wksN wksD wksW 3 = [1, 2] := by decide +kernel
theorem wks_cmp : scmp 2 3 2 1 2 1 = -1 := by decide +kernel
theorem wks_cells (W : World) : Shares (W.alloc (.cells #[.int .i64 1, .int .i64 2, .int .i64 1, .int .i64 2, .int .i64 3, .int .i64 2, .int .i64 2, .int .i64 3, .int .i64 2] 63)) W.heap.size 0 3 wksN wksD wksW := by
  intro i hi
  have : i = 0 ∨ i = 1 ∨ i = 2 := by omega
  rcases this with rfl | rfl | rfl <;> exact ⟨by simp [go_sem, wksN], by simp [go_sem, wksD], by simp [go_sem, wksW]⟩
theorem dec_small (i : Nat) (h : i < 10) : Lib.decDigits i = [UInt8.ofNat (48 + i)] := by rw [Lib.decDigits, dif_pos h]
theorem fmt_one (i : Nat) (h : i < 10) : PureOn Any Tryd.prog 58 #[.int .i64 i, .int .i64 10] (.string ⟨#[UInt8.ofNat (48 + i)]⟩) := by
  have := fmt_small i (by omega)
  rw [dec_small i h] at this
  exact Pure.on this Any
theorem wks_rtext : PureOn Any Tryd.prog 16 #[F2 2 3] (.string ⟨#[50, 47, 51]⟩) := by
  have h := rtext_core Any clo_any 2 3 (by decide) (by decide) ⟨#[50]⟩ ⟨#[51]⟩ (by decide) (by decide) (by decide) (fmt_one 2 (by decide)) (fmt_one 3 (by decide))
  have e : (⟨#[50]⟩ : ByteArray) ++ ⟨#[47]⟩ ++ ⟨#[51]⟩ = ⟨#[50, 47, 51]⟩ := by apply Go.WideShapes.bytes_inj; simp [ByteArray.data_append]
  rw [e] at h
  exact h
theorem wks_text : Pure Tryd.prog 53 #[S3 2 3 2] (.string ⟨#[50, 47, 51, 58, 50]⟩) := by
  have h := stext_core Any clo_any 2 3 2 (by decide) ⟨#[50, 47, 51]⟩ ⟨#[50]⟩ (by decide) (by decide) wks_rtext (fmt_one 2 (by decide))
  have e : (⟨#[50, 47, 51]⟩ : ByteArray) ++ ⟨#[58]⟩ ++ ⟨#[50]⟩ = ⟨#[50, 47, 51, 58, 50]⟩ := by apply Go.WideShapes.bytes_inj; simp [ByteArray.data_append]
  rw [e] at h
  exact h.all
set_option maxHeartbeats 2000000 in
theorem works7 : Pure Tryd.prog 49 #[] (.bool true) := by
  intro W
  have HL := Lib.hid (fun (X : World) (h1 : W.heap.size + 2 < X.heap.size) (hF : Shares X (W.heap.size + 2) 0 3 wksN wksD wksW) => least_some (W.heap.size + 2) 0 3 3 wksN wksD wksW X h1 (by omega) (by omega) hF)
  have HC := Lib.hid (scmp_any 2 3 2 1 2 1)
  rw [wks_cmp] at HC
  have HT := Lib.hid wks_text
  go_enter Tryd.func49, Tryd.ntmps49
  go_wp2_with fail
  refine (HL.out _ (by simp) (by simpa using wks_cells ((W.alloc _).alloc _))).mono ?_
  rintro e w1 ⟨v, rfl, hl⟩
  rw [wks_least] at hl
  have hb1 := hl.2.2
  obtain ⟨g, cp, rfl⟩ : ∃ g cp, v = .slice (some ⟨g, 0, none⟩) 2 cp := by
    rcases hl.1.2 with ⟨_, h0⟩ | ⟨g, cp, _, h0, _⟩
    · simp at h0
    · exact ⟨g, cp, h0⟩
  have gc : w1.cell? ⟨g, 0, none⟩ = some (.int .i64 1) := World.ownsRow.cellAt hl.1 0 (by simp)
  have gl : g < w1.heap.size := (hl.1.lt g rfl).2
  clear hl
  have hs1 : W.heap.size + 3 ≤ w1.heap.size := (by have h := hb1.size; first | omega | (simp at h; omega))
  have hz1_0 : W.heap.size < w1.heap.size := (by omega)
  have hz1_1 : W.heap.size + 1 < w1.heap.size := (by omega)
  have hz1_2 : W.heap.size + 2 < w1.heap.size := (by omega)
  obtain ⟨hc1, hf1, hl1⟩ := bcell hb1
  clear hl1
  go_wp2_with fail
  (with_reducible refine (HC.out _).mono ?_)
  rintro e w2 ⟨rfl, hb2⟩
  have hs2 : w1.heap.size + 0 ≤ w2.heap.size := (by have h := hb2.size; first | omega | (simp at h; omega))
  have hb1_2 := bel hb1 hb2 (by (repeat (first | assumption | exact Below.refl _ _ | refine ba ?_ _ | refine bd ?_ | refine bdn ?_ _ | refine bs ?_ (by first | omega | (simp; done) | (simp; omega)) _ | refine bt ?_ (by assumption))))
  clear hz1_0 hz1_1 hz1_2 hc1 hf1
  obtain ⟨hc1_2, hf1_2, hl1_2⟩ := bcell hb1_2
  clear hl1_2
  have hz2_0 : W.heap.size < w2.heap.size := (by omega)
  have hz2_1 : W.heap.size + 1 < w2.heap.size := (by omega)
  have hz2_2 : W.heap.size + 2 < w2.heap.size := (by omega)
  obtain ⟨hc2, hf2, hl2⟩ := bcell hb2
  clear hl2
  obtain ⟨hcg, hfg, hlg⟩ := bcell hb2
  go_wp2_with fail
  (with_reducible refine (HT.out _).mono ?_)
  rintro e w3 ⟨rfl, hb3⟩
  have hs3 : w2.heap.size + 0 ≤ w3.heap.size := (by have h := hb3.size; first | omega | (simp at h; omega))
  have hb1_3 := bel hb1_2 hb3 (by (repeat (first | assumption | exact Below.refl _ _ | refine ba ?_ _ | refine bd ?_ | refine bdn ?_ _ | refine bs ?_ (by first | omega | (simp; done) | (simp; omega)) _ | refine bt ?_ (by assumption))))
  have hb2_3 := bel hb2 hb3 (by (repeat (first | assumption | exact Below.refl _ _ | refine ba ?_ _ | refine bd ?_ | refine bdn ?_ _ | refine bs ?_ (by first | omega | (simp; done) | (simp; omega)) _ | refine bt ?_ (by assumption))))
  clear hc1_2 hf1_2 hz2_0 hz2_1 hz2_2 hc2 hf2
  obtain ⟨hc1_3, hf1_3, hl1_3⟩ := bcell hb1_3
  clear hl1_3
  have hz3_0 : W.heap.size < w3.heap.size := (by omega)
  have hz3_1 : W.heap.size + 1 < w3.heap.size := (by omega)
  have hz3_2 : W.heap.size + 2 < w3.heap.size := (by omega)
  obtain ⟨hc3, hf3, hl3⟩ := bcell hb3
  clear hl3
  go_wp2
  go_ret
  refine ⟨rfl, ?_⟩
  (repeat (first | exact Below.refl _ _ | refine ba ?_ _ | refine bd ?_ | refine bdn ?_ _ | refine bs ?_ (by first | omega | (simp; done) | (simp; omega)) _ | refine bt ?_ hb24 | refine bt ?_ hb23 | refine bt ?_ hb22 | refine bt ?_ hb21 | refine bt ?_ hb20 | refine bt ?_ hb19 | refine bt ?_ hb18 | refine bt ?_ hb17 | refine bt ?_ hb16 | refine bt ?_ hb15 | refine bt ?_ hb14 | refine bt ?_ hb13 | refine bt ?_ hb12 | refine bt ?_ hb11 | refine bt ?_ hb10 | refine bt ?_ hb9 | refine bt ?_ hb8 | refine bt ?_ hb7 | refine bt ?_ hb6 | refine bt ?_ hb5 | refine bt ?_ hb4 | refine bt ?_ hb3 | refine bt ?_ hb2 | refine bt ?_ hb1))
end Go.Proofs.YtfnfolpdbbnnlaaDoor
