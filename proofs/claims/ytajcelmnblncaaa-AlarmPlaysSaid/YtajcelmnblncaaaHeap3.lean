/- heap: swap. -/
import Derived.Test.YtajcelmnblncaaaHeap2
namespace Go.Proofs.Ytajcelmnblncaaa
open Go.RowKit Go.Maps
attribute [local go_sem] ext_cell ext_frozen extC_cell extC_frozen Mix.calmUpon Mix.mUpon
section
variable {hp M : Nat} {v : Value} {n : Nat} {g : Nat → It} {f : Int → Option Nat} {s : Int} {w : World}
theorem put_put (g : Nat → It) {i j : Nat} (h : i ≠ j) : put1 (put1 g i (g j)) j (g i) = swp g i j := by
  funext k; unfold put1 swp
  by_cases h1 : k = j
  · subst h1; rw [if_pos rfl, if_neg (fun e => h e.symm), if_pos rfl]
  · rw [if_neg h1, if_neg h1]
set_option maxRecDepth 100000 in
theorem swap_any (h : HS w hp M v n g f s) (i j : Nat) (hi : i < n) (hj : j < n) (hij : i ≠ j) :
    Calls Try.prog 124 #[ptr hp, .int .i64 i, .int .i64 j] w fun e w' => e = .returned (.tuple #[]) ∧ HS w' hp M v n (swp g i j) (upd (upd f (g j).1 (some i)) (g i).1 (some j)) s ∧ Chg (hG M v) w w' := by
  have H := Lib.hid h
  obtain ⟨a, cap, rfl, hc, hm, hcell⟩ := h.form
  obtain ⟨b, rfl, hb, hbh, hbM, hfz, hat⟩ := hcell (by omega)
  have c0 := h.c0
  have hl := h.lt hp (.inl rfl)
  obtain ⟨d0, d1⟩ := hat i hi
  obtain ⟨d2, d3⟩ := hat j hj
  have hiI : (i : Int) < (n : Int) := by omega
  have hjI : (j : Int) < (n : Int) := by omega
  have HX := Lib.hid (put_put g hij)
  have ji := h.j64 i hi; have jj := h.j64 j hj
  have JI := Lib.hid ji; have JJ := Lib.hid jj
  have N0 : ¬ hG M (.slice (some ⟨b, 0, none⟩) n cap) w.heap.size := fun e => by have := h.lt _ (.inr e); omega
  have N1 : ¬ hG M (.slice (some ⟨b, 0, none⟩) n cap) (w.heap.size + 1) := fun e => by have := h.lt _ (.inr e); omega
  have N0 := Lib.hid N0; have N1 := Lib.hid N1
  have hK : ∀ k, hF hp M (.slice (some ⟨b, 0, none⟩) n cap) k → k < w.heap.size := h.lt
  have HK := Lib.hid hK
  clear hcell hat h hfz ji jj hij hK
  go_enter Try.func124, Try.ntmps124
  go_wp2
  go_region
  all_goals
    go_wp2_with fail
    refine (set_any (H.out.below (by (repeat (first | assumption | exact Below.refl _ _ | refine ba ?_ _ | refine bd ?_ | refine bdn ?_ _ | refine bs ?_ (by first | omega | (simp; done) | (simp; omega)) _ | refine bt ?_ (by assumption))))) i hi (g j) JJ.out).mono ?_
    rintro e w2 ⟨rfl, H2, C2⟩
    have q0 := C2.cell (b := w.heap.size) (by first | (simp; done) | (simp; omega)) N0.out 0
    have q1 := C2.cell (b := w.heap.size) (by first | (simp; done) | (simp; omega)) N0.out 1
    have q2 := C2.cell (b := w.heap.size + 1) (by first | (simp; done) | (simp; omega)) N1.out 0
    have q3 := C2.cell (b := w.heap.size + 1) (by first | (simp; done) | (simp; omega)) N1.out 1
    simp [go_sem] at q0 q1 q2 q3
    have s2 : w.heap.size + 2 ≤ w2.heap.size := by have := C2.size; simp at this; omega
    have C2 := Lib.hid (show Chg (hG M (.slice (some ⟨b, 0, none⟩) n cap)) w w2 from (Chg.of_below _ (by (repeat (first | assumption | exact Below.refl _ _ | refine ba ?_ _ | refine bd ?_ | refine bdn ?_ _ | refine bs ?_ (by first | omega | (simp; done) | (simp; omega)) _ | refine bt ?_ (by assumption))))).same C2)
    have H2 := Lib.hid H2
    go_wp2_with fail
    refine (set_any H2.out j hj (g i) JI.out).mono ?_
    rintro e w3 ⟨rfl, H3, C3⟩
    have H3 := Lib.hid H3; have C3 := Lib.hid C3
    clear q0 q1 q2 q3
    go_wp2
    go_end0
    exact ⟨rfl, by rw [← HX.out]; exact H3.out, C2.out.same C3.out⟩
end
end Go.Proofs.Ytajcelmnblncaaa
