/- Contracts of sums.Holds at any sums, of mancipleref06.Holds, of sums.Sub and mancipleref06.Sub. -/
import Derived.Test.YtmiifcenmkpkiaaSumsA
namespace Go.Proofs.Ytmiifcenmkpkiaa
open Go.RowKit
attribute [local go_sem] ext_cell ext_frozen Mix.calmUpon Mix.mUpon eq4
theorem holds_no1 (a b : Nat → Int) (ha : ¬ SOk a) : Pure Try.prog 11 #[S4 a, S4 b] (.bool false) := by
  intro W
  have HA := sumsright a
  rw [decide_eq_false ha] at HA
  have HA := Lib.hid HA
  clear ha
  go_enter Try.func11, Try.ntmps11
  go_wp2_with fail
  (with_reducible refine (HA.out _).mono ?_)
  rintro e w1 ⟨rfl, hb1⟩
  have hs1 : W.heap.size + 2 ≤ w1.heap.size := (by have h := hb1.size; first | omega | (simp at h; omega))
  have hz1_0 : W.heap.size < w1.heap.size := (by omega)
  have hz1_1 : W.heap.size + 1 < w1.heap.size := (by omega)
  obtain ⟨hc1, hf1, hl1⟩ := bcell hb1
  clear hl1
  go_wp2
  go_ret
  refine ⟨rfl, ?_⟩
  (repeat (first | assumption | exact Below.refl _ _ | refine ba ?_ _ | refine bd ?_ | refine bdn ?_ _ | refine bs ?_ (by first | omega | (simp; done) | (simp; omega)) _ | refine bt ?_ (by assumption)))
theorem holds_no2 (a b : Nat → Int) (ha : SOk a) (hb : ¬ SOk b) : Pure Try.prog 11 #[S4 a, S4 b] (.bool false) := by
  intro W
  have HA := sumsright a
  rw [decide_eq_true ha] at HA
  have HA := Lib.hid HA
  have HB := sumsright b
  rw [decide_eq_false hb] at HB
  have HB := Lib.hid HB
  clear ha hb
  go_enter Try.func11, Try.ntmps11
  go_wp2_with fail
  (with_reducible refine (HA.out _).mono ?_)
  rintro e w1 ⟨rfl, hb1⟩
  have hs1 : W.heap.size + 2 ≤ w1.heap.size := (by have h := hb1.size; first | omega | (simp at h; omega))
  have hz1_0 : W.heap.size < w1.heap.size := (by omega)
  have hz1_1 : W.heap.size + 1 < w1.heap.size := (by omega)
  obtain ⟨hc1, hf1, hl1⟩ := bcell hb1
  clear hl1
  go_wp2_with fail
  (with_reducible refine (HB.out _).mono ?_)
  rintro e w2 ⟨rfl, hb2⟩
  have hs2 : w1.heap.size + 0 ≤ w2.heap.size := (by have h := hb2.size; first | omega | (simp at h; omega))
  have hb1_2 := bel hb1 hb2 (by (repeat (first | assumption | exact Below.refl _ _ | refine ba ?_ _ | refine bd ?_ | refine bdn ?_ _ | refine bs ?_ (by first | omega | (simp; done) | (simp; omega)) _ | refine bt ?_ (by assumption))))
  clear hz1_0 hz1_1 hc1 hf1
  obtain ⟨hc1_2, hf1_2, hl1_2⟩ := bcell hb1_2
  clear hl1_2
  have hz2_0 : W.heap.size < w2.heap.size := (by omega)
  have hz2_1 : W.heap.size + 1 < w2.heap.size := (by omega)
  obtain ⟨hc2, hf2, hl2⟩ := bcell hb2
  clear hl2
  go_wp2
  go_ret
  refine ⟨rfl, ?_⟩
  (repeat (first | assumption | exact Below.refl _ _ | refine ba ?_ _ | refine bd ?_ | refine bdn ?_ _ | refine bs ?_ (by first | omega | (simp; done) | (simp; omega)) _ | refine bt ?_ (by assumption)))
theorem holds_any (a b : Nat → Int) : Pure Try.prog 11 #[S4 a, S4 b] (.bool (decide (HOk a b))) := by
  by_cases ha : SOk a
  · by_cases hb : SOk b
    · exact holds_yes a b ha hb
    · rw [decide_eq_false (fun h : HOk a b => hb h.2.1)]; exact holds_no2 a b ha hb
  · rw [decide_eq_false (fun h : HOk a b => ha h.1)]; exact holds_no1 a b ha
set_option maxRecDepth 100000 in
set_option maxHeartbeats 4000000 in
theorem refholds_any (a b : Nat → Int) : Pure Try.prog 12 #[S4 a, S4 b] (.bool (decide (HOk a b))) := by
  intro W
  have HA := Lib.hid (refright6 a)
  have HB := Lib.hid (refright6 b)
  go_enter Try.func12, Try.ntmps12
  go_wp2
  have hT := two_cells (W := W) (a := a) (b := b) (A := 22) (Below.refl _ _) (Below.refl _ _)
  generalize hw2 : (W.alloc (.cells (C4 a) 22)).alloc (.cells (C4 b) 22) = w2 at hT
  obtain ⟨hca, hcb, hbw, hcs⟩ := hT
  have HCA := Lib.hid hca; have HCB := Lib.hid hcb; have HBW := Lib.hid hbw
  clear hca hcb hbw
  go_loopw [5] (fun i wr => ∃ t : Nat, t ≤ 4 ∧ i = .int .i64 t ∧ Hid (∀ j, j < t → b j ≤ a j) ∧ Below w2.heap.size w2 wr) (fun i _ => 4 - (intOf i).toNat)
  case atStart => exact ⟨0, Nat.zero_le _, rfl, Lib.hid (fun j hj => by omega), by rw [← hw2]; exact Below.refl _ _⟩
  case round =>
    clear hw2
    obtain ⟨t, ht, rfl, HJ, hb3⟩ := hrel
    have hs3 := hb3.size
    have z0 : W.heap.size < wr.heap.size := by omega
    have z1 : W.heap.size + 1 < wr.heap.size := by omega
    by_cases hlt : t < 4
    · have hts : (t : Int) < 4 := by omega
      have c0 := (hb3.cell (p := ⟨W.heap.size, t, none⟩) (by show W.heap.size < _; omega)).trans (HCA.out t hlt)
      have c1 := (hb3.cell (p := ⟨W.heap.size + 1, t, none⟩) (by show W.heap.size + 1 < _; omega)).trans (HCB.out t hlt)
      by_cases hp : b t ≤ a t
      · have HN := Lib.hid (show ∀ j, j < t + 1 → b j ≤ a j from fun j hj => by
          rcases Nat.lt_or_ge j t with h | h
          · exact HJ.out j h
          · obtain rfl : j = t := by omega
            exact hp)
        go_wp2
        go_region
        go_wp2
        go_roundw
        case rel => exact ⟨t + 1, by omega, by go_num, HN, by first | exact bd hb3 | exact hb3⟩
        case measure => simp [intOf]; omega
      · have HN := Lib.hid (show ¬ HOk a b from fun h => hp (hok_at h t hlt))
        have hp' : a t < b t := by omega
        clear hp
        go_wp2
        go_region
        go_wp2
        go_ret
        exact ⟨by rw [decide_eq_false HN.out]; rfl, by first | exact bt HBW.out (bd hb3) | exact bt HBW.out hb3⟩
    · obtain rfl : t = 4 := by omega
      have g0 := fun k hk => (hb3.cell (p := ⟨W.heap.size, k, none⟩) (by show W.heap.size < _; omega)).trans (HCA.out k hk)
      have g1 := fun k hk => (hb3.cell (p := ⟨W.heap.size + 1, k, none⟩) (by show W.heap.size + 1 < _; omega)).trans (HCB.out k hk)
      have c0 := g0 0 (by omega); have c1 := g0 1 (by omega); have c2 := g0 2 (by omega); have c3 := g0 3 (by omega)
      clear g0
      go_wp2_with fail
      refine (HA.out _).mono ?_
      rintro e w4 ⟨rfl, hb4⟩
      have hz4 := hb4.size
      by_cases ha : SOk a
      · have k0 := fun k hk => (hb4.cell (p := ⟨W.heap.size + 1, k, none⟩) (by show W.heap.size + 1 < _; omega)).trans (g1 k hk)
        have d0 := k0 0 (by omega); have d1 := k0 1 (by omega); have d2 := k0 2 (by omega); have d3 := k0 3 (by omega)
        rw [decide_eq_true ha]
        have hd : decide (HOk a b) = decide (SOk b) := decide_eq_decide.2 ⟨fun h => h.2.1, fun h => ⟨ha, h, HJ.out 0 (by omega), HJ.out 1 (by omega), HJ.out 2 (by omega), HJ.out 3 (by omega)⟩⟩
        have HDD := Lib.hid hd
        clear hd g1 k0 ha c0 c1 c2 c3
        go_wp2_with fail
        refine (HB.out _).mono ?_
        rintro e w5 ⟨rfl, hb5⟩
        go_wp2
        go_ret
        exact ⟨by rw [HDD.out]; rfl, bt (bt (bt HBW.out hb3) hb4) hb5⟩
      · rw [decide_eq_false ha]
        have HDD := Lib.hid (decide_eq_false (fun h : HOk a b => ha h.1))
        clear g1 ha c0 c1 c2 c3
        go_wp2
        go_ret
        exact ⟨by rw [HDD.out]; rfl, bt (bt HBW.out hb3) hb4⟩
end Go.Proofs.Ytmiifcenmkpkiaa
