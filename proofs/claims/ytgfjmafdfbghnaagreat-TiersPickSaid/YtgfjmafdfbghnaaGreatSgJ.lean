/- Texts laid together: SumsW,SumsH,SumsA,SumsHo,SumsU,Key. -/
import Derived.Test.YtgfjmafdfbghnaaGreatSgI
namespace Go.Proofs.YtgfjmafdfbghnaaGreat
section
open Go.RowKit
attribute [local go_sem] ext_cell ext_frozen Mix.calmUpon Mix.mUpon eq4
end
section
open Go.RowKit
attribute [local go_sem] ext_cell ext_frozen Mix.calmUpon Mix.mUpon eq4
/-- One holds the other. -/
def HOk (a b : Nat → Int) : Prop := SOk a ∧ SOk b ∧ b 0 ≤ a 0 ∧ b 1 ≤ a 1 ∧ b 2 ≤ a 2 ∧ b 3 ≤ a 3
instance (a b : Nat → Int) : Decidable (HOk a b) := by unfold HOk; infer_instance
theorem hok_at {a b : Nat → Int} (h : HOk a b) (k : Nat) (hk : k < 4) : b k ≤ a k := by
  obtain ⟨_, _, h0, h1, h2, h3⟩ := h
  have : k = 0 ∨ k = 1 ∨ k = 2 ∨ k = 3 := by omega
  rcases this with rfl | rfl | rfl | rfl <;> assumption
theorem two_cells {W w1 w2 : World} {a b : Nat → Int} {A : TypeId} (h1 : Below ((W.alloc (.cells (C4 a) A)).alloc (.cells (C4 b) A)).heap.size ((W.alloc (.cells (C4 a) A)).alloc (.cells (C4 b) A)) w1) (h2 : Below w1.heap.size w1 w2) :
    (∀ k, k < 4 → w2.cell? ⟨W.heap.size, k, none⟩ = some (.int .i64 (a k))) ∧ (∀ k, k < 4 → w2.cell? ⟨W.heap.size + 1, k, none⟩ = some (.int .i64 (b k))) ∧ Below W.heap.size W w2 ∧ W.heap.size + 2 ≤ w2.heap.size := by
  have hbx := bt h1 h2
  have s1 := size_all W (.cells (C4 a) A)
  have s2 := size_all (W.alloc (.cells (C4 a) A)) (.cells (C4 b) A)
  have hz := hbx.size
  refine ⟨fun k hk => ?_, fun k hk => ?_, bt (ba (ba (Below.refl _ _) _) _) hbx, by omega⟩
  · rw [hbx.cell (p := ⟨W.heap.size, k, none⟩) (by show W.heap.size < _; omega), World.cell?_alloc_past _ _ _ (by omega)]
    exact c4_cell W a _ k hk
  · rw [hbx.cell (p := ⟨W.heap.size + 1, k, none⟩) (by show W.heap.size + 1 < _; omega)]
    exact (World.cell?_alloc_at _ _ _ _ (by omega)).trans (c4_get b k hk)
set_option maxRecDepth 100000 in
set_option maxHeartbeats 4000000 in
theorem holds_yes (a b : Nat → Int) (ha : SOk a) (hb : SOk b) : Pure Tryz.prog 102 #[S4 a, S4 b] (.bool (decide (HOk a b))) := by
  intro W
  have HA := sumsright a
  rw [decide_eq_true ha] at HA
  have HA := Lib.hid HA
  have HB := sumsright b
  rw [decide_eq_true hb] at HB
  have HB := Lib.hid HB
  have HSA := Lib.hid ha; have HSB := Lib.hid hb
  clear ha hb
  go_enter Tryz.func102, Tryz.ntmps102
  go_wp2_with fail
  (with_reducible refine (HA.out _).mono ?_)
  rintro e w1 ⟨rfl, hb1⟩
  have hs1 : W.heap.size + 2 ≤ w1.heap.size := (by have h := hb1.size; first | omega | (simp at h; omega))
  have hz1_0 : W.heap.size < w1.heap.size := (by omega)
  have hz1_1 : W.heap.size + 1 < w1.heap.size := (by omega)
  obtain ⟨hc1, hf1, hl1⟩ := bcell hb1
  clear hl1
  go_wp2_with fail
  refine (HB.out _).mono ?_
  rintro e w2 ⟨rfl, hb2⟩
  obtain ⟨hca, hcb, hbw, hcs⟩ := two_cells hb1 hb2
  have HCA := Lib.hid hca; have HCB := Lib.hid hcb; have HBW := Lib.hid hbw
  clear hca hcb hbw hb1 hb2
  go_wp2
  go_loopw [14] (fun i wr => ∃ t : Nat, t ≤ 4 ∧ i = .int .i64 t ∧ Hid (∀ j, j < t → b j ≤ a j) ∧ Below w2.heap.size w2 wr) (fun i _ => 4 - (intOf i).toNat)
  case atStart => exact ⟨0, Nat.zero_le _, rfl, Lib.hid (fun j hj => by omega), Below.refl _ _⟩
  case round =>
    obtain ⟨t, ht, rfl, HJ, hb3⟩ := hrel
    have hs3 := hb3.size
    have z0 : W.heap.size < wr.heap.size := by omega
    have z1 : W.heap.size + 1 < wr.heap.size := by omega
    by_cases hlt : t < 4
    · have hts : (t : Int) < 4 := by omega
      have c0 := (hb3.cell (p := ⟨W.heap.size, t, none⟩) (by show W.heap.size < _; omega)).trans (HCA.out t hlt)
      have c1 := (hb3.cell (p := ⟨W.heap.size + 1, t, none⟩) (by show W.heap.size + 1 < _; omega)).trans (HCB.out t hlt)
      by_cases hp : b t ≤ a t
      · have HN := Lib.hid (show ∀ j, j < t + 1 → b j ≤ a j from fun j hj => by
          rcases Nat.lt_or_ge j t with h | h
          · exact HJ.out j h
          · obtain rfl : j = t := by omega
            exact hp)
        go_wp2
        go_region
        go_wp2
        go_roundw
        case rel => exact ⟨t + 1, by omega, by go_num, HN, by first | exact bd hb3 | exact hb3⟩
        case measure => simp [intOf]; omega
      · have HN := Lib.hid (show ¬ HOk a b from fun h => hp (hok_at h t hlt))
        have hp' : a t < b t := by omega
        clear hp
        go_wp2
        go_region
        go_wp2
        go_ret
        exact ⟨by rw [decide_eq_false HN.out]; rfl, by first | exact bt HBW.out (bd hb3) | exact bt HBW.out hb3⟩
    · obtain rfl : t = 4 := by omega
      have HN := Lib.hid (show HOk a b from ⟨HSA.out, HSB.out, HJ.out 0 (by omega), HJ.out 1 (by omega), HJ.out 2 (by omega), HJ.out 3 (by omega)⟩)
      go_wp2
      go_ret
      exact ⟨by rw [decide_eq_true HN.out]; rfl, bt HBW.out hb3⟩
end
section
open Go.RowKit
attribute [local go_sem] ext_cell ext_frozen Mix.calmUpon Mix.mUpon eq4
/-- Of the blocks that the call made, the first m hold four numbers each. -/
structure A4 (w wr : World) (m : Nat) (C : Nat → Nat → Int) : Prop where
  bel : Below w.heap.size w wr
  size : w.heap.size + m ≤ wr.heap.size
  c : ∀ i, i < m → ∀ j, j < 4 → wr.cell? ⟨w.heap.size + i, j, none⟩ = some (.int .i64 (C i j))
  f : ∀ i, i < m → ∀ j, wr.frozen? ⟨w.heap.size + i, j, none⟩ = false
theorem A4.nil (w : World) : A4 w w 0 (fun _ _ => 0) := ⟨Below.refl _ _, Nat.le_refl _, fun i hi => absurd hi (Nat.not_lt_zero i), fun i hi => absurd hi (Nat.not_lt_zero i)⟩
theorem A4.grow {w wr w1 : World} {m : Nat} {C : Nat → Nat → Int} (h : A4 w wr m C) (hb : Below wr.heap.size wr w1) : A4 w w1 m C := by
  have hs := h.size
  exact ⟨bt h.bel hb, Nat.le_trans hs hb.size, fun i hi j hj => (hb.cell (p := ⟨_, _, none⟩) (by show w.heap.size + i < _; omega)).trans (h.c i hi j hj), fun i hi j => (hb.frozen (p := ⟨_, _, none⟩) (by show w.heap.size + i < _; omega)).trans (h.f i hi j)⟩
theorem A4.drew {w wr : World} {m : Nat} {C : Nat → Nat → Int} (h : A4 w wr m C) : A4 w wr.drew m C := h.grow (bd (Below.refl _ _))
theorem A4.congr {w wr : World} {m : Nat} {C D : Nat → Nat → Int} (h : A4 w wr m C) (he : ∀ i, i < m → ∀ j, j < 4 → C i j = D i j) : A4 w wr m D := ⟨h.bel, h.size, fun i hi j hj => by rw [← he i hi j hj]; exact h.c i hi j hj, h.f⟩
theorem A4.set {w wr : World} {m : Nat} {C : Nat → Nat → Int} (h : A4 w wr m C) (i j : Nat) (hi : i < m) (hj : j < 4) (x : Int) : A4 w (wr.setCell ⟨w.heap.size + i, j, none⟩ (.int .i64 x)) m (fun i' j' => if i' = i ∧ j' = j then x else C i' j') := by
  refine ⟨h.bel.setCell (by show w.heap.size ≤ w.heap.size + i; omega) _, by have := h.size; simp; omega, fun i' hi' j' hj' => ?_, fun i' hi' j' => ?_⟩
  · by_cases he : i' = i ∧ j' = j
    · obtain ⟨rfl, rfl⟩ := he
      rw [if_pos ⟨rfl, rfl⟩]; exact World.cell?_setCell_same _ _ _ (h.c i' hi' j' hj')
    · rw [if_neg he, World.cell?_setCell_other _ _ _ _ (fun e => he (by simp at e; exact ⟨by omega, e.2.symm⟩))]; exact h.c i' hi' j' hj'
  · rw [World.frozen?_setCell]; exact h.f i' hi' j'
theorem A4.alloc {w wr : World} {m : Nat} {C : Nat → Nat → Int} (h : A4 w wr m C) (hs : wr.heap.size = w.heap.size + m) (d : Nat → Int) (T : TypeId) : A4 w (wr.alloc (.cells (C4 d) T)) (m + 1) (fun i j => if i = m then d j else C i j) := by
  have s1 := size_all wr (.cells (C4 d) T)
  refine ⟨ba (h.bel) _, by omega, fun i hi j hj => ?_, fun i hi j => ?_⟩
  · by_cases he : i = m
    · rw [if_pos he, he, ← hs]; exact c4_cell wr d T j hj
    · rw [if_neg he, World.cell?_alloc_past _ _ _ (by omega)]; exact h.c i (by omega) j hj
  · by_cases he : i = m
    · rw [he, ← hs]; simp [go_sem]
    · have hb : Below wr.heap.size wr (wr.alloc (.cells (C4 d) T)) := ba (Below.refl _ _) _
      rw [hb.frozen (p := ⟨_, _, none⟩) (by show w.heap.size + i < _; omega)]; exact h.f i (by omega) j
/-- Three blocks, four blocks, as they are made. -/
def X3 (a b c : Nat → Int) (i j : Nat) : Int := if i = 0 then a j else if i = 1 then b j else c j
def X4 (a b c d : Nat → Int) (i j : Nat) : Int := if i = 0 then a j else if i = 1 then b j else if i = 2 then c j else d j
theorem A4.three {w w1 : World} {a b c : Nat → Int} {A B C : TypeId} (h : Below (((w.alloc (.cells (C4 a) A)).alloc (.cells (C4 b) B)).alloc (.cells (C4 c) C)).heap.size (((w.alloc (.cells (C4 a) A)).alloc (.cells (C4 b) B)).alloc (.cells (C4 c) C)) w1) : A4 w w1 3 (X3 a b c) := by
  have s1 := size_all w (.cells (C4 a) A)
  have s2 := size_all (w.alloc (.cells (C4 a) A)) (.cells (C4 b) B)
  refine (((((A4.nil w).alloc rfl a A).alloc s1 b B).alloc (by omega) c C).congr fun i hi j _ => ?_).grow h
  unfold X3
  have : i = 0 ∨ i = 1 ∨ i = 2 := by omega
  rcases this with rfl | rfl | rfl <;> simp
theorem A4.four {w w1 : World} {a b c d : Nat → Int} {A B C D : TypeId} (h : Below ((((w.alloc (.cells (C4 a) A)).alloc (.cells (C4 b) B)).alloc (.cells (C4 c) C)).alloc (.cells (C4 d) D)).heap.size ((((w.alloc (.cells (C4 a) A)).alloc (.cells (C4 b) B)).alloc (.cells (C4 c) C)).alloc (.cells (C4 d) D)) w1) : A4 w w1 4 (X4 a b c d) := by
  have s1 := size_all w (.cells (C4 a) A)
  have s2 := size_all (w.alloc (.cells (C4 a) A)) (.cells (C4 b) B)
  have s3 := size_all ((w.alloc (.cells (C4 a) A)).alloc (.cells (C4 b) B)) (.cells (C4 c) C)
  refine ((((((A4.nil w).alloc rfl a A).alloc s1 b B).alloc (by omega) c C).alloc (by omega) d D).congr fun i hi j _ => ?_).grow h
  unfold X4
  have : i = 0 ∨ i = 1 ∨ i = 2 ∨ i = 3 := by omega
  rcases this with rfl | rfl | rfl | rfl <;> simp
/-- The first t numbers are turned. -/
def upto (x y : Nat → Int) (t j : Nat) : Int := if j < t then y j else x j
theorem upto_next {x y : Nat → Int} {t : Nat} (j : Nat) : (if j = t then y t else upto x y t j) = upto x y (t + 1) j := by
  unfold upto
  by_cases h : j = t
  · subst h; simp
  · rw [if_neg h]
    by_cases h2 : j < t
    · rw [if_pos h2, if_pos (by omega)]
    · rw [if_neg h2, if_neg (by omega)]
theorem X3.next {x y b c : Nat → Int} {t : Nat} (i j : Nat) : (if i = 0 ∧ j = t then y t else X3 (upto x y t) b c i j) = X3 (upto x y (t + 1)) b c i j := by
  unfold X3
  by_cases h : i = 0
  · subst h; simp only [true_and, if_true]; exact upto_next j
  · simp [h]
theorem X4.next {x y a b c : Nat → Int} {t : Nat} (i j : Nat) (hi : i < 4) : (if i = 3 ∧ j = t then y t else X4 a b c (upto x y t) i j) = X4 a b c (upto x y (t + 1)) i j := by
  unfold X4
  by_cases h : i = 3
  · subst h; simp; exact upto_next j
  · have : i = 0 ∨ i = 1 ∨ i = 2 := by omega
    rcases this with rfl | rfl | rfl <;> simp
abbrev Z4 : Nat → Int := fun _ => 0
set_option maxRecDepth 100000 in
set_option maxHeartbeats 4000000 in
theorem add_both (a b : Nat → Int) (q : Bool) (ha : SOk a) (hb : SOk b) (hq : decide (SOk fun k => a k + b k) = q) : Pure Tryz.prog 82 #[S4 a, S4 b] (.tuple #[if q then S4 (fun k => a k + b k) else S4 Z4, .bool q]) := by
  intro W
  have HA := sumsright a
  rw [decide_eq_true ha] at HA
  have HA := Lib.hid HA
  have HB := sumsright b
  rw [decide_eq_true hb] at HB
  have HB := Lib.hid HB
  have HS := sumsright (fun k => a k + b k)
  rw [hq] at HS
  have HS := Lib.hid HS
  have HSA := Lib.hid ha; have HSB := Lib.hid hb
  clear ha hb hq
  go_enter Tryz.func82, Tryz.ntmps82
  go_wp2_with fail
  (with_reducible refine (HA.out _).mono ?_)
  rintro e w1 ⟨rfl, hb1⟩
  have hs1 : W.heap.size + 3 ≤ w1.heap.size := (by have h := hb1.size; first | omega | (simp at h; omega))
  have hz1_0 : W.heap.size < w1.heap.size := (by omega)
  have hz1_1 : W.heap.size + 1 < w1.heap.size := (by omega)
  have hz1_2 : W.heap.size + 2 < w1.heap.size := (by omega)
  have hx1_2 : W.heap.size + 1 + 1 < w1.heap.size := (by omega)
  obtain ⟨hc1, hf1, hl1⟩ := bcell hb1
  clear hl1
  go_wp2_with fail
  refine (HB.out _).mono ?_
  rintro e w2 ⟨rfl, hb2⟩
  have HD := Lib.hid (A4.three (a := a) (b := b) (c := Z4) (bt hb1 hb2))
  clear hb1 hb2
  go_wp2
  go_loopw [16] (fun i wr => ∃ t : Nat, t ≤ 4 ∧ i = .int .i64 t ∧ Hid (A4 W wr 3 (X3 (upto a (fun k => a k + b k) t) b Z4))) (fun i _ => 4 - (intOf i).toNat)
  case atStart => exact ⟨0, Nat.zero_le _, rfl, HD⟩
  case round =>
    clear HD
    obtain ⟨t, ht, rfl, HD⟩ := hrel
    have hs3 := HD.out.size
    have z0 : W.heap.size < wr.heap.size := by omega
    have z1 : W.heap.size + 1 < wr.heap.size := by omega
    have z2 : W.heap.size + 1 + 1 < wr.heap.size := by omega
    by_cases hlt : t < 4
    · have hts : (t : Int) < 4 := by omega
      have c0 : wr.cell? ⟨W.heap.size, t, none⟩ = some (.int .i64 (a t)) := (HD.out.c 0 (by omega) t hlt).trans (by simp [X3, upto])
      have c1 : wr.cell? ⟨W.heap.size + 1, t, none⟩ = some (.int .i64 (b t)) := (HD.out.c 1 (by omega) t hlt).trans (by simp [X3])
      have f0 : wr.frozen? ⟨W.heap.size, t, none⟩ = false := HD.out.f 0 (by omega) t
      have ab := sok_at HSA.out t hlt
      have bb := sok_at HSB.out t hlt
      have wq : IntKind.i64.wrap (a t + b t) = a t + b t := by obtain ⟨_, _⟩ := ab; obtain ⟨_, _⟩ := bb; exact IntWalk.i64_in _ (by omega)
      clear ab bb
      go_wp2
      go_region
      go_wp2
      go_roundw
      case rel =>
        refine ⟨t + 1, by omega, by go_num, Lib.hid (A4.congr ?_ fun i hi j _ => X3.next (y := fun k => a k + b k) i j)⟩
        first
          | exact (HD.out.set 0 t (by omega) hlt _).drew
          | exact (HD.out.set 0 t (by omega) hlt _)
          | exact (HD.out.drew.set 0 t (by omega) hlt _)
      case measure => simp [intOf]; omega
    · obtain rfl : t = 4 := by omega
      have g0 := HD.out.c 0 (by omega); have g2 := HD.out.c 2 (by omega); have h2 := HD.out.f 2 (by omega)
      have c0 : wr.cell? ⟨W.heap.size, 0, none⟩ = some (.int .i64 (a 0 + b 0)) := g0 0 (by omega)
      have c1 : wr.cell? ⟨W.heap.size, 1, none⟩ = some (.int .i64 (a 1 + b 1)) := g0 1 (by omega)
      have c2 : wr.cell? ⟨W.heap.size, 2, none⟩ = some (.int .i64 (a 2 + b 2)) := g0 2 (by omega)
      have c3 : wr.cell? ⟨W.heap.size, 3, none⟩ = some (.int .i64 (a 3 + b 3)) := g0 3 (by omega)
      clear g0 g2 h2
      go_wp2_with fail
      refine (HS.out _).mono ?_
      rintro e w4 ⟨rfl, hb4⟩
      have HE := Lib.hid (HD.out.grow hb4)
      have hz := hb4.size
      clear c0 c1 c2 c3 HD hb4
      have g0 := HE.out.c 0 (by omega); have g2 := HE.out.c 2 (by omega); have h2 := HE.out.f 2 (by omega)
      have c0 : w4.cell? ⟨W.heap.size, 0, none⟩ = some (.int .i64 (a 0 + b 0)) := g0 0 (by omega)
      have c1 : w4.cell? ⟨W.heap.size, 1, none⟩ = some (.int .i64 (a 1 + b 1)) := g0 1 (by omega)
      have c2 : w4.cell? ⟨W.heap.size, 2, none⟩ = some (.int .i64 (a 2 + b 2)) := g0 2 (by omega)
      have c3 : w4.cell? ⟨W.heap.size, 3, none⟩ = some (.int .i64 (a 3 + b 3)) := g0 3 (by omega)
      have r0 : w4.cell? ⟨W.heap.size + 1 + 1, 0, none⟩ = some (.int .i64 0) := g2 0 (by omega)
      have r1 : w4.cell? ⟨W.heap.size + 1 + 1, 1, none⟩ = some (.int .i64 0) := g2 1 (by omega)
      have r2 : w4.cell? ⟨W.heap.size + 1 + 1, 2, none⟩ = some (.int .i64 0) := g2 2 (by omega)
      have r3 : w4.cell? ⟨W.heap.size + 1 + 1, 3, none⟩ = some (.int .i64 0) := g2 3 (by omega)
      have f0 : w4.frozen? ⟨W.heap.size + 1 + 1, 0, none⟩ = false := h2 0
      have f1 : w4.frozen? ⟨W.heap.size + 1 + 1, 1, none⟩ = false := h2 1
      have f2 : w4.frozen? ⟨W.heap.size + 1 + 1, 2, none⟩ = false := h2 2
      have f3 : w4.frozen? ⟨W.heap.size + 1 + 1, 3, none⟩ = false := h2 3
      clear g0 g2 h2
      have hbl := Lib.hid HE.out.bel
      cases q with
      | true =>
        go_wp2
        refine bodyPost_ret (v := .tuple #[S4 (fun k => a k + b k), .bool true]) (by simp [results, Tryz.results82, go_sem, *]) rfl ⟨rfl, ?_⟩
        exact bs (bs (bs (bs hbl.out (by simp; omega) _) (by simp; omega) _) (by simp; omega) _) (by simp; omega) _
      | false =>
        go_wp2
        refine bodyPost_ret (v := .tuple #[S4 Z4, .bool false]) (by simp [results, Tryz.results82, go_sem, *]) rfl ⟨rfl, ?_⟩
        exact bs (bs (bs (bs hbl.out (by simp; omega) _) (by simp; omega) _) (by simp; omega) _) (by simp; omega) _
theorem add_no1 (a b : Nat → Int) (ha : ¬ SOk a) : Pure Tryz.prog 82 #[S4 a, S4 b] (.tuple #[S4 Z4, .bool false]) := by
  intro W
  have HA := sumsright a
  rw [decide_eq_false ha] at HA
  have HA := Lib.hid HA
  clear ha
  go_enter Tryz.func82, Tryz.ntmps82
  go_wp2_with fail
  (with_reducible refine (HA.out _).mono ?_)
  rintro e w1 ⟨rfl, hb1⟩
  have hs1 : W.heap.size + 3 ≤ w1.heap.size := (by have h := hb1.size; first | omega | (simp at h; omega))
  have hz1_0 : W.heap.size < w1.heap.size := (by omega)
  have hz1_1 : W.heap.size + 1 < w1.heap.size := (by omega)
  have hz1_2 : W.heap.size + 2 < w1.heap.size := (by omega)
  have hx1_2 : W.heap.size + 1 + 1 < w1.heap.size := (by omega)
  obtain ⟨hc1, hf1, hl1⟩ := bcell hb1
  clear hl1
  go_wp2
  refine bodyPost_ret (v := .tuple #[S4 Z4, .bool false]) (by simp [results, Tryz.results82, go_sem, *]) rfl ⟨rfl, ?_⟩
  (repeat (first | assumption | exact Below.refl _ _ | refine ba ?_ _ | refine bd ?_ | refine bdn ?_ _ | refine bs ?_ (by first | omega | (simp; done) | (simp; omega)) _ | refine bt ?_ (by assumption)))
theorem add_no2 (a b : Nat → Int) (ha : SOk a) (hb : ¬ SOk b) : Pure Tryz.prog 82 #[S4 a, S4 b] (.tuple #[S4 Z4, .bool false]) := by
  intro W
  have HA := sumsright a
  rw [decide_eq_true ha] at HA
  have HA := Lib.hid HA
  have HB := sumsright b
  rw [decide_eq_false hb] at HB
  have HB := Lib.hid HB
  clear ha hb
  go_enter Tryz.func82, Tryz.ntmps82
  go_wp2_with fail
  (with_reducible refine (HA.out _).mono ?_)
  rintro e w1 ⟨rfl, hb1⟩
  have hs1 : W.heap.size + 3 ≤ w1.heap.size := (by have h := hb1.size; first | omega | (simp at h; omega))
  have hz1_0 : W.heap.size < w1.heap.size := (by omega)
  have hz1_1 : W.heap.size + 1 < w1.heap.size := (by omega)
  have hz1_2 : W.heap.size + 2 < w1.heap.size := (by omega)
  have hx1_2 : W.heap.size + 1 + 1 < w1.heap.size := (by omega)
  obtain ⟨hc1, hf1, hl1⟩ := bcell hb1
  clear hl1
  go_wp2_with fail
  (with_reducible refine (HB.out _).mono ?_)
  rintro e w2 ⟨rfl, hb2⟩
  have hs2 : w1.heap.size + 0 ≤ w2.heap.size := (by have h := hb2.size; first | omega | (simp at h; omega))
  have hb1_2 := bel hb1 hb2 (by (repeat (first | assumption | exact Below.refl _ _ | refine ba ?_ _ | refine bd ?_ | refine bdn ?_ _ | refine bs ?_ (by first | omega | (simp; done) | (simp; omega)) _ | refine bt ?_ (by assumption))))
  clear hz1_0 hz1_1 hz1_2 hx1_2 hc1 hf1
  obtain ⟨hc1_2, hf1_2, hl1_2⟩ := bcell hb1_2
  clear hl1_2
  have hz2_0 : W.heap.size < w2.heap.size := (by omega)
  have hz2_1 : W.heap.size + 1 < w2.heap.size := (by omega)
  have hz2_2 : W.heap.size + 2 < w2.heap.size := (by omega)
  have hx2_2 : W.heap.size + 1 + 1 < w2.heap.size := (by omega)
  obtain ⟨hc2, hf2, hl2⟩ := bcell hb2
  clear hl2
  go_wp2
  refine bodyPost_ret (v := .tuple #[S4 Z4, .bool false]) (by simp [results, Tryz.results82, go_sem, *]) rfl ⟨rfl, ?_⟩
  (repeat (first | assumption | exact Below.refl _ _ | refine ba ?_ _ | refine bd ?_ | refine bdn ?_ _ | refine bs ?_ (by first | omega | (simp; done) | (simp; omega)) _ | refine bt ?_ (by assumption)))
end
section
open Go.RowKit
attribute [local go_sem] ext_cell ext_frozen Mix.calmUpon Mix.mUpon eq4
theorem holds_no1 (a b : Nat → Int) (ha : ¬ SOk a) : Pure Tryz.prog 102 #[S4 a, S4 b] (.bool false) := by
  intro W
  have HA := sumsright a
  rw [decide_eq_false ha] at HA
  have HA := Lib.hid HA
  clear ha
  go_enter Tryz.func102, Tryz.ntmps102
  go_wp2_with fail
  (with_reducible refine (HA.out _).mono ?_)
  rintro e w1 ⟨rfl, hb1⟩
  have hs1 : W.heap.size + 2 ≤ w1.heap.size := (by have h := hb1.size; first | omega | (simp at h; omega))
  have hz1_0 : W.heap.size < w1.heap.size := (by omega)
  have hz1_1 : W.heap.size + 1 < w1.heap.size := (by omega)
  obtain ⟨hc1, hf1, hl1⟩ := bcell hb1
  clear hl1
  go_wp2
  go_ret
  refine ⟨rfl, ?_⟩
  (repeat (first | assumption | exact Below.refl _ _ | refine ba ?_ _ | refine bd ?_ | refine bdn ?_ _ | refine bs ?_ (by first | omega | (simp; done) | (simp; omega)) _ | refine bt ?_ (by assumption)))
theorem holds_no2 (a b : Nat → Int) (ha : SOk a) (hb : ¬ SOk b) : Pure Tryz.prog 102 #[S4 a, S4 b] (.bool false) := by
  intro W
  have HA := sumsright a
  rw [decide_eq_true ha] at HA
  have HA := Lib.hid HA
  have HB := sumsright b
  rw [decide_eq_false hb] at HB
  have HB := Lib.hid HB
  clear ha hb
  go_enter Tryz.func102, Tryz.ntmps102
  go_wp2_with fail
  (with_reducible refine (HA.out _).mono ?_)
  rintro e w1 ⟨rfl, hb1⟩
  have hs1 : W.heap.size + 2 ≤ w1.heap.size := (by have h := hb1.size; first | omega | (simp at h; omega))
  have hz1_0 : W.heap.size < w1.heap.size := (by omega)
  have hz1_1 : W.heap.size + 1 < w1.heap.size := (by omega)
  obtain ⟨hc1, hf1, hl1⟩ := bcell hb1
  clear hl1
  go_wp2_with fail
  (with_reducible refine (HB.out _).mono ?_)
  rintro e w2 ⟨rfl, hb2⟩
  have hs2 : w1.heap.size + 0 ≤ w2.heap.size := (by have h := hb2.size; first | omega | (simp at h; omega))
  have hb1_2 := bel hb1 hb2 (by (repeat (first | assumption | exact Below.refl _ _ | refine ba ?_ _ | refine bd ?_ | refine bdn ?_ _ | refine bs ?_ (by first | omega | (simp; done) | (simp; omega)) _ | refine bt ?_ (by assumption))))
  clear hz1_0 hz1_1 hc1 hf1
  obtain ⟨hc1_2, hf1_2, hl1_2⟩ := bcell hb1_2
  clear hl1_2
  have hz2_0 : W.heap.size < w2.heap.size := (by omega)
  have hz2_1 : W.heap.size + 1 < w2.heap.size := (by omega)
  obtain ⟨hc2, hf2, hl2⟩ := bcell hb2
  clear hl2
  go_wp2
  go_ret
  refine ⟨rfl, ?_⟩
  (repeat (first | assumption | exact Below.refl _ _ | refine ba ?_ _ | refine bd ?_ | refine bdn ?_ _ | refine bs ?_ (by first | omega | (simp; done) | (simp; omega)) _ | refine bt ?_ (by assumption)))
theorem holds_any (a b : Nat → Int) : Pure Tryz.prog 102 #[S4 a, S4 b] (.bool (decide (HOk a b))) := by
  by_cases ha : SOk a
  · by_cases hb : SOk b
    · exact holds_yes a b ha hb
    · rw [decide_eq_false (fun h : HOk a b => hb h.2.1)]; exact holds_no2 a b ha hb
  · rw [decide_eq_false (fun h : HOk a b => ha h.1)]; exact holds_no1 a b ha
set_option maxRecDepth 100000 in
set_option maxHeartbeats 4000000 in
theorem refholds_any (a b : Nat → Int) : Pure Tryz.prog 51 #[S4 a, S4 b] (.bool (decide (HOk a b))) := by
  intro W
  have HA := Lib.hid (refright6 a)
  have HB := Lib.hid (refright6 b)
  go_enter Tryz.func51, Tryz.ntmps51
  go_wp2
  have hT := two_cells (W := W) (a := a) (b := b) (A := 25) (Below.refl _ _) (Below.refl _ _)
  generalize hw2 : (W.alloc (.cells (C4 a) 25)).alloc (.cells (C4 b) 25) = w2 at hT
  obtain ⟨hca, hcb, hbw, hcs⟩ := hT
  have HCA := Lib.hid hca; have HCB := Lib.hid hcb; have HBW := Lib.hid hbw
  clear hca hcb hbw
  go_loopw [5] (fun i wr => ∃ t : Nat, t ≤ 4 ∧ i = .int .i64 t ∧ Hid (∀ j, j < t → b j ≤ a j) ∧ Below w2.heap.size w2 wr) (fun i _ => 4 - (intOf i).toNat)
  case atStart => exact ⟨0, Nat.zero_le _, rfl, Lib.hid (fun j hj => by omega), by rw [← hw2]; exact Below.refl _ _⟩
  case round =>
    clear hw2
    obtain ⟨t, ht, rfl, HJ, hb3⟩ := hrel
    have hs3 := hb3.size
    have z0 : W.heap.size < wr.heap.size := by omega
    have z1 : W.heap.size + 1 < wr.heap.size := by omega
    by_cases hlt : t < 4
    · have hts : (t : Int) < 4 := by omega
      have c0 := (hb3.cell (p := ⟨W.heap.size, t, none⟩) (by show W.heap.size < _; omega)).trans (HCA.out t hlt)
      have c1 := (hb3.cell (p := ⟨W.heap.size + 1, t, none⟩) (by show W.heap.size + 1 < _; omega)).trans (HCB.out t hlt)
      by_cases hp : b t ≤ a t
      · have HN := Lib.hid (show ∀ j, j < t + 1 → b j ≤ a j from fun j hj => by
          rcases Nat.lt_or_ge j t with h | h
          · exact HJ.out j h
          · obtain rfl : j = t := by omega
            exact hp)
        go_wp2
        go_region
        go_wp2
        go_roundw
        case rel => exact ⟨t + 1, by omega, by go_num, HN, by first | exact bd hb3 | exact hb3⟩
        case measure => simp [intOf]; omega
      · have HN := Lib.hid (show ¬ HOk a b from fun h => hp (hok_at h t hlt))
        have hp' : a t < b t := by omega
        clear hp
        go_wp2
        go_region
        go_wp2
        go_ret
        exact ⟨by rw [decide_eq_false HN.out]; rfl, by first | exact bt HBW.out (bd hb3) | exact bt HBW.out hb3⟩
    · obtain rfl : t = 4 := by omega
      have g0 := fun k hk => (hb3.cell (p := ⟨W.heap.size, k, none⟩) (by show W.heap.size < _; omega)).trans (HCA.out k hk)
      have g1 := fun k hk => (hb3.cell (p := ⟨W.heap.size + 1, k, none⟩) (by show W.heap.size + 1 < _; omega)).trans (HCB.out k hk)
      have c0 := g0 0 (by omega); have c1 := g0 1 (by omega); have c2 := g0 2 (by omega); have c3 := g0 3 (by omega)
      clear g0
      go_wp2_with fail
      refine (HA.out _).mono ?_
      rintro e w4 ⟨rfl, hb4⟩
      have hz4 := hb4.size
      by_cases ha : SOk a
      · have k0 := fun k hk => (hb4.cell (p := ⟨W.heap.size + 1, k, none⟩) (by show W.heap.size + 1 < _; omega)).trans (g1 k hk)
        have d0 := k0 0 (by omega); have d1 := k0 1 (by omega); have d2 := k0 2 (by omega); have d3 := k0 3 (by omega)
        rw [decide_eq_true ha]
        have hd : decide (HOk a b) = decide (SOk b) := decide_eq_decide.2 ⟨fun h => h.2.1, fun h => ⟨ha, h, HJ.out 0 (by omega), HJ.out 1 (by omega), HJ.out 2 (by omega), HJ.out 3 (by omega)⟩⟩
        have HDD := Lib.hid hd
        clear hd g1 k0 ha c0 c1 c2 c3
        go_wp2_with fail
        refine (HB.out _).mono ?_
        rintro e w5 ⟨rfl, hb5⟩
        go_wp2
        go_ret
        exact ⟨by rw [HDD.out]; rfl, bt (bt (bt HBW.out hb3) hb4) hb5⟩
      · rw [decide_eq_false ha]
        have HDD := Lib.hid (decide_eq_false (fun h : HOk a b => ha h.1))
        clear g1 ha c0 c1 c2 c3
        go_wp2
        go_ret
        exact ⟨by rw [HDD.out]; rfl, bt (bt HBW.out hb3) hb4⟩
end
section
open Go.RowKit
attribute [local go_sem] ext_cell ext_frozen Mix.calmUpon Mix.mUpon eq4
set_option maxRecDepth 100000 in
set_option maxHeartbeats 4000000 in
theorem sub_yes (a b : Nat → Int) (hh : HOk a b) : Pure Tryz.prog 80 #[S4 a, S4 b] (.tuple #[S4 (fun k => a k - b k), .bool true]) := by
  intro W
  have HH := holds_any a b
  rw [decide_eq_true hh] at HH
  have HH := Lib.hid HH
  have HSA := Lib.hid hh.1; have HSB := Lib.hid hh.2.1
  clear hh
  go_enter Tryz.func80, Tryz.ntmps80
  go_wp2_with fail
  refine (HH.out _).mono ?_
  rintro e w2 ⟨rfl, hb2⟩
  have HD := Lib.hid (A4.three (a := a) (b := b) (c := Z4) hb2)
  clear hb2
  go_wp2
  go_loopw [12] (fun i wr => ∃ t : Nat, t ≤ 4 ∧ i = .int .i64 t ∧ Hid (A4 W wr 3 (X3 (upto a (fun k => a k - b k) t) b Z4))) (fun i _ => 4 - (intOf i).toNat)
  case atStart => exact ⟨0, Nat.zero_le _, rfl, HD⟩
  case round =>
    clear HD
    obtain ⟨t, ht, rfl, HD⟩ := hrel
    have hs3 := HD.out.size
    have z0 : W.heap.size < wr.heap.size := by omega
    have z1 : W.heap.size + 1 < wr.heap.size := by omega
    have z2 : W.heap.size + 1 + 1 < wr.heap.size := by omega
    by_cases hlt : t < 4
    · have hts : (t : Int) < 4 := by omega
      have c0 : wr.cell? ⟨W.heap.size, t, none⟩ = some (.int .i64 (a t)) := (HD.out.c 0 (by omega) t hlt).trans (by simp [X3, upto])
      have c1 : wr.cell? ⟨W.heap.size + 1, t, none⟩ = some (.int .i64 (b t)) := (HD.out.c 1 (by omega) t hlt).trans (by simp [X3])
      have f0 : wr.frozen? ⟨W.heap.size, t, none⟩ = false := HD.out.f 0 (by omega) t
      have ab := sok_at HSA.out t hlt
      have bb := sok_at HSB.out t hlt
      have wq : IntKind.i64.wrap (a t - b t) = a t - b t := by obtain ⟨_, _⟩ := ab; obtain ⟨_, _⟩ := bb; exact IntWalk.i64_in _ (by omega)
      clear ab bb
      go_wp2
      go_region
      go_wp2
      go_roundw
      case rel =>
        refine ⟨t + 1, by omega, by go_num, Lib.hid (A4.congr ?_ fun i hi j _ => X3.next (y := fun k => a k - b k) i j)⟩
        first
          | exact (HD.out.set 0 t (by omega) hlt _).drew
          | exact (HD.out.set 0 t (by omega) hlt _)
          | exact (HD.out.drew.set 0 t (by omega) hlt _)
      case measure => simp [intOf]; omega
    · obtain rfl : t = 4 := by omega
      have g0 := HD.out.c 0 (by omega); have g2 := HD.out.c 2 (by omega); have h2 := HD.out.f 2 (by omega)
      have c0 : wr.cell? ⟨W.heap.size, 0, none⟩ = some (.int .i64 (a 0 - b 0)) := g0 0 (by omega)
      have c1 : wr.cell? ⟨W.heap.size, 1, none⟩ = some (.int .i64 (a 1 - b 1)) := g0 1 (by omega)
      have c2 : wr.cell? ⟨W.heap.size, 2, none⟩ = some (.int .i64 (a 2 - b 2)) := g0 2 (by omega)
      have c3 : wr.cell? ⟨W.heap.size, 3, none⟩ = some (.int .i64 (a 3 - b 3)) := g0 3 (by omega)
      have r0 : wr.cell? ⟨W.heap.size + 1 + 1, 0, none⟩ = some (.int .i64 0) := g2 0 (by omega)
      have r1 : wr.cell? ⟨W.heap.size + 1 + 1, 1, none⟩ = some (.int .i64 0) := g2 1 (by omega)
      have r2 : wr.cell? ⟨W.heap.size + 1 + 1, 2, none⟩ = some (.int .i64 0) := g2 2 (by omega)
      have r3 : wr.cell? ⟨W.heap.size + 1 + 1, 3, none⟩ = some (.int .i64 0) := g2 3 (by omega)
      have f0 : wr.frozen? ⟨W.heap.size + 1 + 1, 0, none⟩ = false := h2 0
      have f1 : wr.frozen? ⟨W.heap.size + 1 + 1, 1, none⟩ = false := h2 1
      have f2 : wr.frozen? ⟨W.heap.size + 1 + 1, 2, none⟩ = false := h2 2
      have f3 : wr.frozen? ⟨W.heap.size + 1 + 1, 3, none⟩ = false := h2 3
      clear g0 g2 h2
      have hbl := Lib.hid HD.out.bel
      go_wp2
      refine bodyPost_ret (v := .tuple #[S4 (fun k => a k - b k), .bool true]) (by simp [results, Tryz.results80, go_sem, *]) rfl ⟨rfl, ?_⟩
      exact bs (bs (bs (bs hbl.out (by simp; omega) _) (by simp; omega) _) (by simp; omega) _) (by simp; omega) _
theorem sub_no (a b : Nat → Int) (hh : ¬ HOk a b) : Pure Tryz.prog 80 #[S4 a, S4 b] (.tuple #[S4 Z4, .bool false]) := by
  intro W
  have HH := holds_any a b
  rw [decide_eq_false hh] at HH
  have HH := Lib.hid HH
  clear hh
  go_enter Tryz.func80, Tryz.ntmps80
  go_wp2_with fail
  (with_reducible refine (HH.out _).mono ?_)
  rintro e w1 ⟨rfl, hb1⟩
  have hs1 : W.heap.size + 3 ≤ w1.heap.size := (by have h := hb1.size; first | omega | (simp at h; omega))
  have hz1_0 : W.heap.size < w1.heap.size := (by omega)
  have hz1_1 : W.heap.size + 1 < w1.heap.size := (by omega)
  have hz1_2 : W.heap.size + 2 < w1.heap.size := (by omega)
  have hx1_2 : W.heap.size + 1 + 1 < w1.heap.size := (by omega)
  obtain ⟨hc1, hf1, hl1⟩ := bcell hb1
  clear hl1
  go_wp2
  refine bodyPost_ret (v := .tuple #[S4 Z4, .bool false]) (by simp [results, Tryz.results80, go_sem, *]) rfl ⟨rfl, ?_⟩
  (repeat (first | assumption | exact Below.refl _ _ | refine ba ?_ _ | refine bd ?_ | refine bdn ?_ _ | refine bs ?_ (by first | omega | (simp; done) | (simp; omega)) _ | refine bt ?_ (by assumption)))
set_option maxRecDepth 100000 in
set_option maxHeartbeats 4000000 in
theorem refsub_yes (a b : Nat → Int) (hh : HOk a b) : Pure Tryz.prog 26 #[S4 a, S4 b] (.tuple #[S4 (fun k => a k - b k), .bool true]) := by
  intro W
  have HH := refholds_any a b
  rw [decide_eq_true hh] at HH
  have HH := Lib.hid HH
  have HSA := Lib.hid hh.1; have HSB := Lib.hid hh.2.1
  clear hh
  go_enter Tryz.func26, Tryz.ntmps26
  go_wp2_with fail
  refine (HH.out _).mono ?_
  rintro e w2 ⟨rfl, hb2⟩
  have HD := Lib.hid (A4.four (a := a) (b := b) (c := Z4) (d := Z4) hb2)
  clear hb2
  go_wp2
  go_loopw [7] (fun i wr => ∃ t : Nat, t ≤ 4 ∧ i = .int .i64 t ∧ Hid (A4 W wr 4 (X4 a b Z4 (upto Z4 (fun k => a k - b k) t)))) (fun i _ => 4 - (intOf i).toNat)
  case atStart => exact ⟨0, Nat.zero_le _, rfl, HD⟩
  case round =>
    clear HD
    obtain ⟨t, ht, rfl, HD⟩ := hrel
    have hs3 := HD.out.size
    have z0 : W.heap.size < wr.heap.size := by omega
    have z1 : W.heap.size + 1 < wr.heap.size := by omega
    have z2 : W.heap.size + 1 + 1 < wr.heap.size := by omega
    have z3 : W.heap.size + 1 + 1 + 1 < wr.heap.size := by omega
    by_cases hlt : t < 4
    · have hts : (t : Int) < 4 := by omega
      have c0 : wr.cell? ⟨W.heap.size, t, none⟩ = some (.int .i64 (a t)) := (HD.out.c 0 (by omega) t hlt).trans (by simp [X4])
      have c1 : wr.cell? ⟨W.heap.size + 1, t, none⟩ = some (.int .i64 (b t)) := (HD.out.c 1 (by omega) t hlt).trans (by simp [X4])
      have e0 : wr.cell? ⟨W.heap.size + 1 + 1 + 1, t, none⟩ = some (.int .i64 0) := (HD.out.c 3 (by omega) t hlt).trans (by simp [X4, upto])
      have f0 : wr.frozen? ⟨W.heap.size + 1 + 1 + 1, t, none⟩ = false := HD.out.f 3 (by omega) t
      have ab := sok_at HSA.out t hlt
      have bb := sok_at HSB.out t hlt
      have wq : IntKind.i64.wrap (a t - b t) = a t - b t := by obtain ⟨_, _⟩ := ab; obtain ⟨_, _⟩ := bb; exact IntWalk.i64_in _ (by omega)
      clear ab bb
      go_wp2
      go_region
      go_wp2
      go_roundw
      case rel =>
        refine ⟨t + 1, by omega, by go_num, Lib.hid (A4.congr ?_ fun i hi j _ => X4.next (y := fun k => a k - b k) i j hi)⟩
        first
          | exact (HD.out.set 3 t (by omega) hlt _).drew
          | exact (HD.out.set 3 t (by omega) hlt _)
          | exact (HD.out.drew.set 3 t (by omega) hlt _)
      case measure => simp [intOf]; omega
    · obtain rfl : t = 4 := by omega
      have g0 := HD.out.c 3 (by omega); have g2 := HD.out.c 2 (by omega); have h2 := HD.out.f 2 (by omega)
      have c0 : wr.cell? ⟨W.heap.size + 1 + 1 + 1, 0, none⟩ = some (.int .i64 (a 0 - b 0)) := g0 0 (by omega)
      have c1 : wr.cell? ⟨W.heap.size + 1 + 1 + 1, 1, none⟩ = some (.int .i64 (a 1 - b 1)) := g0 1 (by omega)
      have c2 : wr.cell? ⟨W.heap.size + 1 + 1 + 1, 2, none⟩ = some (.int .i64 (a 2 - b 2)) := g0 2 (by omega)
      have c3 : wr.cell? ⟨W.heap.size + 1 + 1 + 1, 3, none⟩ = some (.int .i64 (a 3 - b 3)) := g0 3 (by omega)
      have r0 : wr.cell? ⟨W.heap.size + 1 + 1, 0, none⟩ = some (.int .i64 0) := g2 0 (by omega)
      have r1 : wr.cell? ⟨W.heap.size + 1 + 1, 1, none⟩ = some (.int .i64 0) := g2 1 (by omega)
      have r2 : wr.cell? ⟨W.heap.size + 1 + 1, 2, none⟩ = some (.int .i64 0) := g2 2 (by omega)
      have r3 : wr.cell? ⟨W.heap.size + 1 + 1, 3, none⟩ = some (.int .i64 0) := g2 3 (by omega)
      have f0 : wr.frozen? ⟨W.heap.size + 1 + 1, 0, none⟩ = false := h2 0
      have f1 : wr.frozen? ⟨W.heap.size + 1 + 1, 1, none⟩ = false := h2 1
      have f2 : wr.frozen? ⟨W.heap.size + 1 + 1, 2, none⟩ = false := h2 2
      have f3 : wr.frozen? ⟨W.heap.size + 1 + 1, 3, none⟩ = false := h2 3
      clear g0 g2 h2
      have hbl := Lib.hid HD.out.bel
      go_wp2
      refine bodyPost_ret (v := .tuple #[S4 (fun k => a k - b k), .bool true]) (by simp [results, Tryz.results26, go_sem, *]) rfl ⟨rfl, ?_⟩
      exact bs (bs (bs (bs hbl.out (by simp; omega) _) (by simp; omega) _) (by simp; omega) _) (by simp; omega) _
theorem refsub_no (a b : Nat → Int) (hh : ¬ HOk a b) : Pure Tryz.prog 26 #[S4 a, S4 b] (.tuple #[S4 Z4, .bool false]) := by
  intro W
  have HH := refholds_any a b
  rw [decide_eq_false hh] at HH
  have HH := Lib.hid HH
  clear hh
  go_enter Tryz.func26, Tryz.ntmps26
  go_wp2_with fail
  (with_reducible refine (HH.out _).mono ?_)
  rintro e w1 ⟨rfl, hb1⟩
  have hs1 : W.heap.size + 4 ≤ w1.heap.size := (by have h := hb1.size; first | omega | (simp at h; omega))
  have hz1_0 : W.heap.size < w1.heap.size := (by omega)
  have hz1_1 : W.heap.size + 1 < w1.heap.size := (by omega)
  have hz1_2 : W.heap.size + 2 < w1.heap.size := (by omega)
  have hx1_2 : W.heap.size + 1 + 1 < w1.heap.size := (by omega)
  have hz1_3 : W.heap.size + 3 < w1.heap.size := (by omega)
  have hx1_3 : W.heap.size + 1 + 1 + 1 < w1.heap.size := (by omega)
  obtain ⟨hc1, hf1, hl1⟩ := bcell hb1
  clear hl1
  go_wp2
  refine bodyPost_ret (v := .tuple #[S4 Z4, .bool false]) (by simp [results, Tryz.results26, go_sem, *]) rfl ⟨rfl, ?_⟩
  (repeat (first | assumption | exact Below.refl _ _ | refine ba ?_ _ | refine bd ?_ | refine bdn ?_ _ | refine bs ?_ (by first | omega | (simp; done) | (simp; omega)) _ | refine bt ?_ (by assumption)))
end
section
open Go.RowKit Go.Maps Go.MapKept
theorem j64_lit {x : Int} (h : I64 x) : (Lit.int .i64 x).wf = true := by
  obtain ⟨a, b⟩ := h
  simp [Lit.wf, IntKind.min, IntKind.max, IntKind.signed, IntKind.bits]; omega
theorem key64 : Keyed Tryz.prog 2 := int_keyed Tryz.underlying2
/-- Numbers as keys. -/
def K64 : KEnc Tryz.prog 2 Int where
  enc := fun x => .int .i64 x
  ok := I64
  lit := fun x h => ⟨.int .i64 x, by simp [keyOf, mapKey, Tryz.underlying2, j64_lit h]⟩
  inj := fun x y _ _ h => by injection h
abbrev ptr (hp : Nat) : Value := .pointer (some ⟨hp, 0, none⟩)
end
end Go.Proofs.YtgfjmafdfbghnaaGreat
