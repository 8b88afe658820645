/- Contracts of slot.Text and of works of the statements of layer 4. Condition: the names of the kinds lie in their variable. -/
import Derived.Test.YtfnfolpdbbnnlaaDoorSlot2
import Derived.Test.YtfnfolpdbbnnlaaDoorItoa
namespace Go.Proofs.YtfnfolpdbbnnlaaDoor
open Go.RowKit
attribute [local go_sem] ext_cell ext_frozen Mix.calmUpon Mix.mUpon
theorem itoa_small (i : Nat) (hi : i < 100) : Pure Tryd.prog 68 #[.int .i64 i] (.string ⟨(Lib.decDigits i).toArray⟩) := fun w =>
  (Lb.Tryd.strconv_Itoa_small i hi w).mono fun _ _ ⟨he, hw⟩ => ⟨he, by rw [hw]; exact Below.refl _ _⟩
theorem nmS_size (k : Nat) : (nmS k).size ≤ 4 ∧ 3 ≤ (nmS k).size := by unfold nmS; split <;> decide
theorem dec_size (r : Nat) (h : r ≤ 32) : (ByteArray.mk (Lib.decDigits r).toArray).size ≤ 2 := by
  show (Lib.decDigits r).toArray.size ≤ 2
  by_cases h1 : r < 10
  · rw [decDigits_lt r h1]; simp
  · rw [decDigits_go r h1, decDigits_lt (r / 10) (by omega)]; simp
/-- A place's text. -/
def sT (k r : Nat) : ByteArray := if r = 0 then nmS k else nmS k ++ ⟨#[40]⟩ ++ ⟨(Lib.decDigits r).toArray⟩ ++ ⟨#[41]⟩
set_option maxRecDepth 100000 in
theorem slottext_yes (k r : Nat) (hk : k < 4) (hr : r ≤ 32) : PureOn N4 Tryd.prog 41 #[L2 k r] (.string (sT k r)) := by
  intro W hN
  have HR := slotright_any k r
  rw [decide_eq_true ⟨by omega, by omega, by omega, by omega⟩] at HR
  have HR := Lib.hid HR
  have HI := Lib.hid (itoa_small r (by omega))
  have hlt := hN.lt
  have HN := Lib.hid hN
  have hcw : W.cell? ⟨0, k, none⟩ = some (.string (nmS k)) := by
    obtain ⟨n0, n1, n2, n3⟩ := hN.cells
    have : k = 0 ∨ k = 1 ∨ k = 2 ∨ k = 3 := by omega
    rcases this with rfl | rfl | rfl | rfl <;> assumption
  have HC := Lib.hid hcw
  clear hN hcw
  by_cases h0 : r = 0
  · subst h0
    have ht : sT k 0 = nmS k := if_pos rfl
    rw [ht]
    have HR := Lib.hid (show Pure Tryd.prog 34 #[L2 k 0] (.bool true) from HR.out)
    show Calls Tryd.prog 41 #[L2 k 0] W _
    go_enter Tryd.func41, Tryd.ntmps41
    go_wp2_with fail
    (with_reducible refine (HR.out _).mono ?_)
    rintro e w1 ⟨rfl, hb1⟩
    have hs1 : W.heap.size + 1 ≤ w1.heap.size := (by have h := hb1.size; first | omega | (simp at h; omega))
    have hz1_0 : W.heap.size < w1.heap.size := (by omega)
    obtain ⟨hc1, hf1, hl1⟩ := bcell hb1
    clear hl1
    have hcx : w1.cell? ⟨0, k, none⟩ = some (.string (nmS k)) := ((show Below W.heap.size W w1 by (repeat (first | assumption | exact Below.refl _ _ | refine ba ?_ _ | refine bd ?_ | refine bdn ?_ _ | refine bs ?_ (by first | omega | (simp; done) | (simp; omega)) _ | refine bt ?_ (by assumption)))).cell (p := ⟨0, k, none⟩) hlt).trans HC.out
    have hcW := HC.out
    go_wp2
    go_ret
    refine ⟨rfl, ?_⟩
    (repeat (first | assumption | exact Below.refl _ _ | refine ba ?_ _ | refine bd ?_ | refine bdn ?_ _ | refine bs ?_ (by first | omega | (simp; done) | (simp; omega)) _ | refine bt ?_ (by assumption)))
  · have ht : sT k r = nmS k ++ ⟨#[40]⟩ ++ ⟨(Lib.decDigits r).toArray⟩ ++ ⟨#[41]⟩ := if_neg h0
    rw [ht]
    have hr0 : ((r : Int) == 0) = false := by simpa using h0
    obtain ⟨z1, z2⟩ := nmS_size k
    have z3 := dec_size r hr
    have y1 : (nmS k).size + (ByteArray.mk #[40]).size ≤ 9223372036854775807 := by have : (ByteArray.mk #[40]).size = 1 := rfl; omega
    have y2 : (nmS k ++ ⟨#[40]⟩).size + (ByteArray.mk (Lib.decDigits r).toArray).size ≤ 9223372036854775807 := by rw [ByteArray.size_append]; have : (ByteArray.mk #[40]).size = 1 := rfl; omega
    have y3 : (nmS k ++ ⟨#[40]⟩ ++ ⟨(Lib.decDigits r).toArray⟩).size + (ByteArray.mk #[41]).size ≤ 9223372036854775807 := by rw [ByteArray.size_append, ByteArray.size_append]; have : (ByteArray.mk #[40]).size = 1 := rfl; have : (ByteArray.mk #[41]).size = 1 := rfl; omega
    clear h0 ht z1 z2 z3
    go_enter Tryd.func41, Tryd.ntmps41
    go_wp2_with fail
    (with_reducible refine (HR.out _).mono ?_)
    rintro e w1 ⟨rfl, hb1⟩
    have hs1 : W.heap.size + 1 ≤ w1.heap.size := (by have h := hb1.size; first | omega | (simp at h; omega))
    have hz1_0 : W.heap.size < w1.heap.size := (by omega)
    obtain ⟨hc1, hf1, hl1⟩ := bcell hb1
    clear hl1
    have hlt1 : 0 < w1.heap.size := by omega
    have hcx : w1.cell? ⟨0, k, none⟩ = some (.string (nmS k)) := ((show Below W.heap.size W w1 by (repeat (first | assumption | exact Below.refl _ _ | refine ba ?_ _ | refine bd ?_ | refine bdn ?_ _ | refine bs ?_ (by first | omega | (simp; done) | (simp; omega)) _ | refine bt ?_ (by assumption)))).cell (p := ⟨0, k, none⟩) hlt).trans HC.out
    have hce : ∀ x, (ext w1 x).cell? ⟨0, k, none⟩ = some (.string (nmS k)) := fun x => (ext_cell w1 x _ k (by omega)).trans hcx
    go_wp2_with fail
    refine wp_region_pure (by kernel_rfl) (by kernel_rfl) ?_
    repeat (first | go_big_quiet_step (((go_at_call 68; with_reducible exact HI.out.quiet))) | (quiet_step (((go_at_call 68; with_reducible exact HI.out.quiet)))))
    refine wpQuiet_nil ?_
    rintro w2 ⟨x2, hx2⟩
    have hb2 := ext_below _ x2
    rw [← hx2] at hb2
    clear hx2 x2
    have hs2 : w1.heap.size + 0 ≤ w2.heap.size := (by have h := hb2.size; first | omega | (simp at h; omega))
    have hb1_2 := bel hb1 hb2 (by (repeat (first | assumption | exact Below.refl _ _ | refine ba ?_ _ | refine bd ?_ | refine bdn ?_ _ | refine bs ?_ (by first | omega | (simp; done) | (simp; omega)) _ | refine bt ?_ (by assumption))))
    clear hz1_0 hc1 hf1
    obtain ⟨hc1_2, hf1_2, hl1_2⟩ := bcell hb1_2
    clear hl1_2
    have hz2_0 : W.heap.size < w2.heap.size := (by omega)
    obtain ⟨hc2, hf2, hl2⟩ := bcell hb2
    clear hl2
    go_wp2
    go_ret
    refine ⟨rfl, ?_⟩
    (repeat (first | assumption | exact Below.refl _ _ | refine ba ?_ _ | refine bd ?_ | refine bdn ?_ _ | refine bs ?_ (by first | omega | (simp; done) | (simp; omega)) _ | refine bt ?_ (by assumption)))
theorem slottext_no (k r : Int) (h : ¬ LOk k r) : Pure Tryd.prog 41 #[L2 k r] (.string ⟨#[]⟩) := by
  intro W
  have HR := slotright_any k r
  rw [decide_eq_false h] at HR
  have HR := Lib.hid HR
  clear h
  go_enter Tryd.func41, Tryd.ntmps41
  go_wp2_with fail
  (with_reducible refine (HR.out _).mono ?_)
  rintro e w1 ⟨rfl, hb1⟩
  have hs1 : W.heap.size + 1 ≤ w1.heap.size := (by have h := hb1.size; first | omega | (simp at h; omega))
  have hz1_0 : W.heap.size < w1.heap.size := (by omega)
  obtain ⟨hc1, hf1, hl1⟩ := bcell hb1
  clear hl1
  go_wp2
  go_ret
  refine ⟨rfl, ?_⟩
  (repeat (first | assumption | exact Below.refl _ _ | refine ba ?_ _ | refine bd ?_ | refine bdn ?_ _ | refine bs ?_ (by first | omega | (simp; done) | (simp; omega)) _ | refine bt ?_ (by assumption)))
theorem sT_13 : sT 1 3 = ⟨#[109, 101, 109, 40, 51, 41]⟩ := by
  unfold sT
  rw [if_neg (by decide), decDigits_lt 3 (by decide)]
  apply Go.WideShapes.bytes_inj
  simp [ByteArray.data_append, nmS]
set_option maxRecDepth 100000 in
theorem works4 : PureOn N4 Tryd.prog 37 #[] (.bool true) := by
  intro W hN
  have HN := Lib.hid hN
  have H1 := pack_yes 1 3 ⟨by decide, by decide, by decide, by decide⟩
  have H1 := Lib.hid (show Pure Tryd.prog 42 #[L2 1 3] (.tuple #[.int .u16 13, .bool true]) from H1)
  have H2 := kind_any (nmS 2) (by have := nmS_size 2; unfold maxLen; omega)
  have H2 := Lib.hid (show PureOn N4 Tryd.prog 30 #[.string ⟨#[100, 105, 115, 107]⟩] (.tuple #[.int .i64 2, .bool true]) from H2)
  have H3 := slottext_yes 1 3 (by decide) (by decide)
  rw [sT_13] at H3
  have H3 := Lib.hid (show PureOn N4 Tryd.prog 41 #[L2 1 3] (.string ⟨#[109, 101, 109, 40, 51, 41]⟩) from H3)
  clear hN
  go_enter Tryd.func37, Tryd.ntmps37
  go_wp2_with fail
  (with_reducible refine (H1.out _).mono ?_)
  rintro e w1 ⟨rfl, hb1⟩
  have hs1 : W.heap.size + 0 ≤ w1.heap.size := (by have h := hb1.size; first | omega | (simp at h; omega))
  obtain ⟨hc1, hf1, hl1⟩ := bcell hb1
  clear hl1
  have HN1 := Lib.hid (clo_N4 _ _ HN.out (show Below W.heap.size W w1 by (repeat (first | assumption | exact Below.refl _ _ | refine ba ?_ _ | refine bd ?_ | refine bdn ?_ _ | refine bs ?_ (by first | omega | (simp; done) | (simp; omega)) _ | refine bt ?_ (by assumption)))))
  go_wp2_with fail
  (with_reducible refine (H2.out.app _ HN1.out).mono ?_)
  rintro e w2 ⟨rfl, hb2⟩
  have hs2 : w1.heap.size + 0 ≤ w2.heap.size := (by have h := hb2.size; first | omega | (simp at h; omega))
  have hb1_2 := bel hb1 hb2 (by (repeat (first | assumption | exact Below.refl _ _ | refine ba ?_ _ | refine bd ?_ | refine bdn ?_ _ | refine bs ?_ (by first | omega | (simp; done) | (simp; omega)) _ | refine bt ?_ (by assumption))))
  clear hc1 hf1
  obtain ⟨hc2, hf2, hl2⟩ := bcell hb2
  clear hl2
  have HN2 := Lib.hid (clo_N4 _ _ HN.out (show Below W.heap.size W w2 by (repeat (first | assumption | exact Below.refl _ _ | refine ba ?_ _ | refine bd ?_ | refine bdn ?_ _ | refine bs ?_ (by first | omega | (simp; done) | (simp; omega)) _ | refine bt ?_ (by assumption)))))
  go_wp2_with fail
  (with_reducible refine (H3.out.app _ HN2.out).mono ?_)
  rintro e w3 ⟨rfl, hb3⟩
  have hs3 : w2.heap.size + 0 ≤ w3.heap.size := (by have h := hb3.size; first | omega | (simp at h; omega))
  have hb1_3 := bel hb1_2 hb3 (by (repeat (first | assumption | exact Below.refl _ _ | refine ba ?_ _ | refine bd ?_ | refine bdn ?_ _ | refine bs ?_ (by first | omega | (simp; done) | (simp; omega)) _ | refine bt ?_ (by assumption))))
  have hb2_3 := bel hb2 hb3 (by (repeat (first | assumption | exact Below.refl _ _ | refine ba ?_ _ | refine bd ?_ | refine bdn ?_ _ | refine bs ?_ (by first | omega | (simp; done) | (simp; omega)) _ | refine bt ?_ (by assumption))))
  clear hc2 hf2
  obtain ⟨hc3, hf3, hl3⟩ := bcell hb3
  clear hl3
  go_wp2
  go_ret
  refine ⟨rfl, ?_⟩
  (repeat (first | assumption | exact Below.refl _ _ | refine ba ?_ _ | refine bd ?_ | refine bdn ?_ _ | refine bs ?_ (by first | omega | (simp; done) | (simp; omega)) _ | refine bt ?_ (by assumption)))
end Go.Proofs.YtfnfolpdbbnnlaaDoor
