/- slot.Text at any slot. Condition: the names of the kinds lie in their variable. -/
import Derived.Test.YtlhljioncgddeaaDoorVecR
import Derived.Test.YtlhljioncgddeaaDoorOn
import Derived.Test.YtlhljioncgddeaaDoorItoa
namespace Go.Proofs.YtlhljioncgddeaaDoor
open Go.RowKit Go.Maps Go.WideMaps
attribute [local go_sem] ext_cell ext_frozen Mix.calmUpon Mix.mUpon
/-- The four names. -/
def nmS : Nat → ByteArray
  | 0 => ⟨#[99, 112, 117, 115]⟩ | 1 => ⟨#[109, 101, 109]⟩ | 2 => ⟨#[100, 105, 115, 107]⟩ | _ => ⟨#[103, 112, 117, 115]⟩
/-- The names lie in their variable. -/
def N4 (w : World) : Prop := w.var? Tryd.prog "manciple/slot.names" = some #[.string (nmS 0), .string (nmS 1), .string (nmS 2), .string (nmS 3)]
theorem gN4 : Tryd.prog.globalNamed "manciple/slot.names" = some 0 := by kernel_rfl
theorem clo_N4 : Clo N4 := fun w w' h hb => by
  unfold N4 World.var? at *
  rw [gN4] at *
  simp only [Option.bind_some] at h ⊢
  have hlt : 0 < w.heap.size := by
    rcases Nat.lt_or_ge 0 w.heap.size with h' | h'
    · exact h'
    · rw [Array.getElem?_eq_none h'] at h; simp at h
  rw [hb.block _ hlt]
  exact h
theorem N4.on {W w : World} (h : N4 W) (hb : Below W.heap.size W w) : N4 w := clo_N4 _ _ h hb
theorem N4.cells {w : World} (h : N4 w) : w.cell? ⟨0, 0, none⟩ = some (.string (nmS 0)) ∧ w.cell? ⟨0, 1, none⟩ = some (.string (nmS 1)) ∧ w.cell? ⟨0, 2, none⟩ = some (.string (nmS 2)) ∧ w.cell? ⟨0, 3, none⟩ = some (.string (nmS 3)) :=
  ⟨World.var?_cell gN4 h 0, World.var?_cell gN4 h 1, World.var?_cell gN4 h 2, World.var?_cell gN4 h 3⟩
theorem N4.lt {w : World} (h : N4 w) : 0 < w.heap.size := by
  unfold N4 World.var? at h
  rw [gN4] at h
  simp only [Option.bind_some] at h
  rcases Nat.lt_or_ge 0 w.heap.size with h' | h'
  · exact h'
  · rw [Array.getElem?_eq_none h'] at h; simp at h
theorem itoa_small (i : Nat) (hi : i < 100) : Pure Tryd.prog 77 #[.int .i64 i] (.string ⟨(Lib.decDigits i).toArray⟩) := fun w =>
  (Lb.Tryd.strconv_Itoa_small i hi w).mono fun _ _ ⟨he, hw⟩ => ⟨he, by rw [hw]; exact Below.refl _ _⟩
theorem nmS_size (k : Nat) : (nmS k).size ≤ 4 ∧ 3 ≤ (nmS k).size := by unfold nmS; split <;> decide
theorem dec_size (r : Nat) (h : r ≤ 32) : (ByteArray.mk (Lib.decDigits r).toArray).size ≤ 2 := by
  show (Lib.decDigits r).toArray.size ≤ 2
  by_cases h1 : r < 10
  · rw [decDigits_lt r h1]; simp
  · rw [decDigits_go r h1, decDigits_lt (r / 10) (by omega)]; simp
/-- A place's text. -/
def sT (k r : Nat) : ByteArray := if r = 0 then nmS k else nmS k ++ ⟨#[40]⟩ ++ ⟨(Lib.decDigits r).toArray⟩ ++ ⟨#[41]⟩
set_option maxRecDepth 100000 in
theorem slottext_yes (k r : Nat) (hk : k < 4) (hr : r ≤ 32) : PureOn N4 Tryd.prog 67 #[L2 k r] (.string (sT k r)) := by
  intro W hN
  have HR := slotright_any k r
  rw [decide_eq_true ⟨by omega, by omega, by omega, by omega⟩] at HR
  have HR := Lib.hid HR
  have HI := Lib.hid (itoa_small r (by omega))
  have hlt := hN.lt
  have HN := Lib.hid hN
  have hcw : W.cell? ⟨0, k, none⟩ = some (.string (nmS k)) := by
    obtain ⟨n0, n1, n2, n3⟩ := hN.cells
    have : k = 0 ∨ k = 1 ∨ k = 2 ∨ k = 3 := by omega
    rcases this with rfl | rfl | rfl | rfl <;> assumption
  have HC := Lib.hid hcw
  clear hN hcw
  by_cases h0 : r = 0
  · subst h0
    have ht : sT k 0 = nmS k := if_pos rfl
    rw [ht]
    have HR := Lib.hid (show Pure Tryd.prog 43 #[L2 k 0] (.bool true) from HR.out)
    show Calls Tryd.prog 67 #[L2 k 0] W _
    go_enter Tryd.func67, Tryd.ntmps67
    go_wp2_with fail
    (with_reducible refine (HR.out _).mono ?_)
    rintro e w1 ⟨rfl, hb1⟩
    have hs1 : W.heap.size + 1 ≤ w1.heap.size := (by have h := hb1.size; first | omega | (simp at h; omega))
    have hz1_0 : W.heap.size < w1.heap.size := (by omega)
    obtain ⟨hc1, hf1, hl1⟩ := bcell hb1
    clear hl1
    have hcx : w1.cell? ⟨0, k, none⟩ = some (.string (nmS k)) := ((show Below W.heap.size W w1 by (repeat (first | assumption | exact Below.refl _ _ | refine ba ?_ _ | refine bd ?_ | refine bdn ?_ _ | refine bs ?_ (by first | omega | (simp; done) | (simp; omega)) _ | refine bt ?_ (by assumption)))).cell (p := ⟨0, k, none⟩) hlt).trans HC.out
    have hcW := HC.out
    go_wp2
    go_ret
    refine ⟨rfl, ?_⟩
    (repeat (first | assumption | exact Below.refl _ _ | refine ba ?_ _ | refine bd ?_ | refine bdn ?_ _ | refine bs ?_ (by first | omega | (simp; done) | (simp; omega)) _ | refine bt ?_ (by assumption)))
  · have ht : sT k r = nmS k ++ ⟨#[40]⟩ ++ ⟨(Lib.decDigits r).toArray⟩ ++ ⟨#[41]⟩ := if_neg h0
    rw [ht]
    have hr0 : ((r : Int) == 0) = false := by simpa using h0
    obtain ⟨z1, z2⟩ := nmS_size k
    have z3 := dec_size r hr
    have y1 : (nmS k).size + (ByteArray.mk #[40]).size ≤ 9223372036854775807 := by have : (ByteArray.mk #[40]).size = 1 := rfl; omega
    have y2 : (nmS k ++ ⟨#[40]⟩).size + (ByteArray.mk (Lib.decDigits r).toArray).size ≤ 9223372036854775807 := by rw [ByteArray.size_append]; have : (ByteArray.mk #[40]).size = 1 := rfl; omega
    have y3 : (nmS k ++ ⟨#[40]⟩ ++ ⟨(Lib.decDigits r).toArray⟩).size + (ByteArray.mk #[41]).size ≤ 9223372036854775807 := by rw [ByteArray.size_append, ByteArray.size_append]; have : (ByteArray.mk #[40]).size = 1 := rfl; have : (ByteArray.mk #[41]).size = 1 := rfl; omega
    clear h0 ht z1 z2 z3
    go_enter Tryd.func67, Tryd.ntmps67
    go_wp2_with fail
    (with_reducible refine (HR.out _).mono ?_)
    rintro e w1 ⟨rfl, hb1⟩
    have hs1 : W.heap.size + 1 ≤ w1.heap.size := (by have h := hb1.size; first | omega | (simp at h; omega))
    have hz1_0 : W.heap.size < w1.heap.size := (by omega)
    obtain ⟨hc1, hf1, hl1⟩ := bcell hb1
    clear hl1
    have hlt1 : 0 < w1.heap.size := by omega
    have hcx : w1.cell? ⟨0, k, none⟩ = some (.string (nmS k)) := ((show Below W.heap.size W w1 by (repeat (first | assumption | exact Below.refl _ _ | refine ba ?_ _ | refine bd ?_ | refine bdn ?_ _ | refine bs ?_ (by first | omega | (simp; done) | (simp; omega)) _ | refine bt ?_ (by assumption)))).cell (p := ⟨0, k, none⟩) hlt).trans HC.out
    have hce : ∀ x, (ext w1 x).cell? ⟨0, k, none⟩ = some (.string (nmS k)) := fun x => (ext_cell w1 x _ k (by omega)).trans hcx
    go_wp2_with fail
    refine wp_region_pure (by kernel_rfl) (by kernel_rfl) ?_
    repeat (first | go_big_quiet_step (((go_at_call 77; with_reducible exact HI.out.quiet))) | (quiet_step (((go_at_call 77; with_reducible exact HI.out.quiet)))))
    refine wpQuiet_nil ?_
    rintro w2 ⟨x2, hx2⟩
    have hb2 := ext_below _ x2
    rw [← hx2] at hb2
    clear hx2 x2
    have hs2 : w1.heap.size + 0 ≤ w2.heap.size := (by have h := hb2.size; first | omega | (simp at h; omega))
    have hb1_2 := bel hb1 hb2 (by (repeat (first | assumption | exact Below.refl _ _ | refine ba ?_ _ | refine bd ?_ | refine bdn ?_ _ | refine bs ?_ (by first | omega | (simp; done) | (simp; omega)) _ | refine bt ?_ (by assumption))))
    clear hz1_0 hc1 hf1
    obtain ⟨hc1_2, hf1_2, hl1_2⟩ := bcell hb1_2
    clear hl1_2
    have hz2_0 : W.heap.size < w2.heap.size := (by omega)
    obtain ⟨hc2, hf2, hl2⟩ := bcell hb2
    clear hl2
    go_wp2
    go_ret
    refine ⟨rfl, ?_⟩
    (repeat (first | assumption | exact Below.refl _ _ | refine ba ?_ _ | refine bd ?_ | refine bdn ?_ _ | refine bs ?_ (by first | omega | (simp; done) | (simp; omega)) _ | refine bt ?_ (by assumption)))
theorem slottext_no (k r : Int) (h : ¬ LOk k r) : Pure Tryd.prog 67 #[L2 k r] (.string ⟨#[]⟩) := by
  intro W
  have HR := slotright_any k r
  rw [decide_eq_false h] at HR
  have HR := Lib.hid HR
  clear h
  go_enter Tryd.func67, Tryd.ntmps67
  go_wp2_with fail
  (with_reducible refine (HR.out _).mono ?_)
  rintro e w1 ⟨rfl, hb1⟩
  have hs1 : W.heap.size + 1 ≤ w1.heap.size := (by have h := hb1.size; first | omega | (simp at h; omega))
  have hz1_0 : W.heap.size < w1.heap.size := (by omega)
  obtain ⟨hc1, hf1, hl1⟩ := bcell hb1
  clear hl1
  go_wp2
  go_ret
  refine ⟨rfl, ?_⟩
  (repeat (first | assumption | exact Below.refl _ _ | refine ba ?_ _ | refine bd ?_ | refine bdn ?_ _ | refine bs ?_ (by first | omega | (simp; done) | (simp; omega)) _ | refine bt ?_ (by assumption)))
end Go.Proofs.YtlhljioncgddeaaDoor
