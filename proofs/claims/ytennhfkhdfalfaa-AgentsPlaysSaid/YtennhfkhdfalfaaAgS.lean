/- sums.Holds, sums.Sub at sums that are right. -/
import Derived.Test.YtennhfkhdfalfaaSumsAe
namespace Go.Proofs.Ytennhfkhdfalfaa
open Go.RowKit
attribute [local go_sem] ext_cell ext_frozen Mix.calmUpon Mix.mUpon
/-- One holds the other. -/
def HOk (a b : Nat → Int) : Prop := SOk a ∧ SOk b ∧ b 0 ≤ a 0 ∧ b 1 ≤ a 1 ∧ b 2 ≤ a 2 ∧ b 3 ≤ a 3
instance (a b : Nat → Int) : Decidable (HOk a b) := by unfold HOk; infer_instance
theorem hok_at {a b : Nat → Int} (h : HOk a b) (k : Nat) (hk : k < 4) : b k ≤ a k := by
  obtain ⟨_, _, h0, h1, h2, h3⟩ := h
  have : k = 0 ∨ k = 1 ∨ k = 2 ∨ k = 3 := by omega
  rcases this with rfl | rfl | rfl | rfl <;> assumption
theorem two_cells {W w1 w2 : World} {a b : Nat → Int} {A : TypeId} (h1 : Below ((W.alloc (.cells (C4 a) A)).alloc (.cells (C4 b) A)).heap.size ((W.alloc (.cells (C4 a) A)).alloc (.cells (C4 b) A)) w1) (h2 : Below w1.heap.size w1 w2) :
    (∀ k, k < 4 → w2.cell? ⟨W.heap.size, k, none⟩ = some (.int .i64 (a k))) ∧ (∀ k, k < 4 → w2.cell? ⟨W.heap.size + 1, k, none⟩ = some (.int .i64 (b k))) ∧ Below W.heap.size W w2 ∧ W.heap.size + 2 ≤ w2.heap.size := by
  have hbx := bt h1 h2
  have s1 := size_all W (.cells (C4 a) A)
  have s2 := size_all (W.alloc (.cells (C4 a) A)) (.cells (C4 b) A)
  have hz := hbx.size
  refine ⟨fun k hk => ?_, fun k hk => ?_, bt (ba (ba (Below.refl _ _) _) _) hbx, by omega⟩
  · rw [hbx.cell (p := ⟨W.heap.size, k, none⟩) (by show W.heap.size < _; omega), World.cell?_alloc_past _ _ _ (by omega)]
    exact c4_cell W a _ k hk
  · rw [hbx.cell (p := ⟨W.heap.size + 1, k, none⟩) (by show W.heap.size + 1 < _; omega)]
    exact (World.cell?_alloc_at _ _ _ _ (by omega)).trans (c4_get b k hk)
set_option maxRecDepth 100000 in
set_option maxHeartbeats 4000000 in
theorem holds_yes (a b : Nat → Int) (ha : SOk a) (hb : SOk b) : Pure Try.prog 73 #[S4 a, S4 b] (.bool (decide (HOk a b))) := by
  intro W
  have HA := sumsright a
  rw [decide_eq_true ha] at HA
  have HA := Lib.hid HA
  have HB := sumsright b
  rw [decide_eq_true hb] at HB
  have HB := Lib.hid HB
  have HSA := Lib.hid ha; have HSB := Lib.hid hb
  clear ha hb
  go_enter Try.func73, Try.ntmps73
  go_wp2_with fail
  (with_reducible refine (HA.out _).mono ?_)
  rintro e w1 ⟨rfl, hb1⟩
  have hs1 : W.heap.size + 2 ≤ w1.heap.size := (by have h := hb1.size; first | omega | (simp at h; omega))
  have hz1_0 : W.heap.size < w1.heap.size := (by omega)
  have hz1_1 : W.heap.size + 1 < w1.heap.size := (by omega)
  obtain ⟨hc1, hf1, hl1⟩ := bcell hb1
  clear hl1
  go_wp2_with fail
  refine (HB.out _).mono ?_
  rintro e w2 ⟨rfl, hb2⟩
  obtain ⟨hca, hcb, hbw, hcs⟩ := two_cells hb1 hb2
  have HCA := Lib.hid hca; have HCB := Lib.hid hcb; have HBW := Lib.hid hbw
  clear hca hcb hbw hb1 hb2
  go_wp2
  go_loopw [14] (fun i wr => ∃ t : Nat, t ≤ 4 ∧ i = .int .i64 t ∧ Hid (∀ j, j < t → b j ≤ a j) ∧ Below w2.heap.size w2 wr) (fun i _ => 4 - (intOf i).toNat)
  case atStart => exact ⟨0, Nat.zero_le _, rfl, Lib.hid (fun j hj => by omega), Below.refl _ _⟩
  case round =>
    obtain ⟨t, ht, rfl, HJ, hb3⟩ := hrel
    have hs3 := hb3.size
    have z0 : W.heap.size < wr.heap.size := by omega
    have z1 : W.heap.size + 1 < wr.heap.size := by omega
    by_cases hlt : t < 4
    · have hts : (t : Int) < 4 := by omega
      have c0 := (hb3.cell (p := ⟨W.heap.size, t, none⟩) (by show W.heap.size < _; omega)).trans (HCA.out t hlt)
      have c1 := (hb3.cell (p := ⟨W.heap.size + 1, t, none⟩) (by show W.heap.size + 1 < _; omega)).trans (HCB.out t hlt)
      by_cases hp : b t ≤ a t
      · have HN := Lib.hid (show ∀ j, j < t + 1 → b j ≤ a j from fun j hj => by
          rcases Nat.lt_or_ge j t with h | h
          · exact HJ.out j h
          · obtain rfl : j = t := by omega
            exact hp)
        go_wp2
        go_region
        go_wp2
        go_roundw
        case rel => exact ⟨t + 1, by omega, by go_num, HN, by first | exact bd hb3 | exact hb3⟩
        case measure => simp [intOf]; omega
      · have HN := Lib.hid (show ¬ HOk a b from fun h => hp (hok_at h t hlt))
        have hp' : a t < b t := by omega
        clear hp
        go_wp2
        go_region
        go_wp2
        go_ret
        exact ⟨by rw [decide_eq_false HN.out]; rfl, by first | exact bt HBW.out (bd hb3) | exact bt HBW.out hb3⟩
    · obtain rfl : t = 4 := by omega
      have HN := Lib.hid (show HOk a b from ⟨HSA.out, HSB.out, HJ.out 0 (by omega), HJ.out 1 (by omega), HJ.out 2 (by omega), HJ.out 3 (by omega)⟩)
      go_wp2
      go_ret
      exact ⟨by rw [decide_eq_true HN.out]; rfl, bt HBW.out hb3⟩
set_option maxRecDepth 100000 in
set_option maxHeartbeats 4000000 in
theorem sub_yes (a b : Nat → Int) (hh : HOk a b) : Pure Try.prog 74 #[S4 a, S4 b] (.tuple #[S4 (fun k => a k - b k), .bool true]) := by
  intro W
  have HH := holds_yes a b hh.1 hh.2.1
  rw [decide_eq_true hh] at HH
  have HH := Lib.hid HH
  have HSA := Lib.hid hh.1; have HSB := Lib.hid hh.2.1
  clear hh
  go_enter Try.func74, Try.ntmps74
  go_wp2_with fail
  refine (HH.out _).mono ?_
  rintro e w2 ⟨rfl, hb2⟩
  have HD := Lib.hid (A4.three (a := a) (b := b) (c := Z4) hb2)
  clear hb2
  go_wp2
  go_loopw [12] (fun i wr => ∃ t : Nat, t ≤ 4 ∧ i = .int .i64 t ∧ Hid (A4 W wr 3 (X3 (upto a (fun k => a k - b k) t) b Z4))) (fun i _ => 4 - (intOf i).toNat)
  case atStart => exact ⟨0, Nat.zero_le _, rfl, HD⟩
  case round =>
    clear HD
    obtain ⟨t, ht, rfl, HD⟩ := hrel
    have hs3 := HD.out.size
    have z0 : W.heap.size < wr.heap.size := by omega
    have z1 : W.heap.size + 1 < wr.heap.size := by omega
    have z2 : W.heap.size + 1 + 1 < wr.heap.size := by omega
    by_cases hlt : t < 4
    · have hts : (t : Int) < 4 := by omega
      have c0 : wr.cell? ⟨W.heap.size, t, none⟩ = some (.int .i64 (a t)) := (HD.out.c 0 (by omega) t hlt).trans (by simp [X3, upto])
      have c1 : wr.cell? ⟨W.heap.size + 1, t, none⟩ = some (.int .i64 (b t)) := (HD.out.c 1 (by omega) t hlt).trans (by simp [X3])
      have f0 : wr.frozen? ⟨W.heap.size, t, none⟩ = false := HD.out.f 0 (by omega) t
      have ab := sok_at HSA.out t hlt
      have bb := sok_at HSB.out t hlt
      have wq : IntKind.i64.wrap (a t - b t) = a t - b t := by obtain ⟨_, _⟩ := ab; obtain ⟨_, _⟩ := bb; exact IntWalk.i64_in _ (by omega)
      clear ab bb
      go_wp2
      go_region
      go_wp2
      go_roundw
      case rel =>
        refine ⟨t + 1, by omega, by go_num, Lib.hid (A4.congr ?_ fun i hi j _ => X3.next (y := fun k => a k - b k) i j)⟩
        first
          | exact (HD.out.set 0 t (by omega) hlt _).drew
          | exact (HD.out.set 0 t (by omega) hlt _)
          | exact (HD.out.drew.set 0 t (by omega) hlt _)
      case measure => simp [intOf]; omega
    · obtain rfl : t = 4 := by omega
      have g0 := HD.out.c 0 (by omega); have g2 := HD.out.c 2 (by omega); have h2 := HD.out.f 2 (by omega)
      have c0 : wr.cell? ⟨W.heap.size, 0, none⟩ = some (.int .i64 (a 0 - b 0)) := g0 0 (by omega)
      have c1 : wr.cell? ⟨W.heap.size, 1, none⟩ = some (.int .i64 (a 1 - b 1)) := g0 1 (by omega)
      have c2 : wr.cell? ⟨W.heap.size, 2, none⟩ = some (.int .i64 (a 2 - b 2)) := g0 2 (by omega)
      have c3 : wr.cell? ⟨W.heap.size, 3, none⟩ = some (.int .i64 (a 3 - b 3)) := g0 3 (by omega)
      have r0 : wr.cell? ⟨W.heap.size + 1 + 1, 0, none⟩ = some (.int .i64 0) := g2 0 (by omega)
      have r1 : wr.cell? ⟨W.heap.size + 1 + 1, 1, none⟩ = some (.int .i64 0) := g2 1 (by omega)
      have r2 : wr.cell? ⟨W.heap.size + 1 + 1, 2, none⟩ = some (.int .i64 0) := g2 2 (by omega)
      have r3 : wr.cell? ⟨W.heap.size + 1 + 1, 3, none⟩ = some (.int .i64 0) := g2 3 (by omega)
      have f0 : wr.frozen? ⟨W.heap.size + 1 + 1, 0, none⟩ = false := h2 0
      have f1 : wr.frozen? ⟨W.heap.size + 1 + 1, 1, none⟩ = false := h2 1
      have f2 : wr.frozen? ⟨W.heap.size + 1 + 1, 2, none⟩ = false := h2 2
      have f3 : wr.frozen? ⟨W.heap.size + 1 + 1, 3, none⟩ = false := h2 3
      clear g0 g2 h2
      have hbl := Lib.hid HD.out.bel
      go_wp2
      refine bodyPost_ret (v := .tuple #[S4 (fun k => a k - b k), .bool true]) (by simp [results, Try.results74, go_sem, *]) rfl ⟨rfl, ?_⟩
      exact bs (bs (bs (bs hbl.out (by simp; omega) _) (by simp; omega) _) (by simp; omega) _) (by simp; omega) _
end Go.Proofs.Ytennhfkhdfalfaa
