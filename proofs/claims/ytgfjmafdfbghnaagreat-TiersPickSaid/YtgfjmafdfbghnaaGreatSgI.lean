/- Texts laid together: Sums2,SumsO,Sums3,Sums4,SumsN,ShOf9. -/
import Derived.Test.YtgfjmafdfbghnaaGreatSgH
import Derived.ChangeAlike
import Derived.Laws.Cover2
import Derived.RegionTactic
namespace Go.Proofs.YtgfjmafdfbghnaaGreat
section
open Go.RowKit
attribute [local go_sem] ext_cell ext_frozen Mix.calmUpon Mix.mUpon
/-- Kind, and part, of the first k kinds' greatest part. -/
def dom (a t : Nat → Int) : Nat → Int × Int × Int
  | 0 => (-1, 0, 1)
  | k + 1 => if 0 < t k ∧ ((dom a t k).1 < 0 ∨ 0 < rcA (a k) (t k) (dom a t k).2.1 (dom a t k).2.2) then ((k : Int), a k, t k) else dom a t k
theorem dom_bd (a t : Nat → Int) : ∀ k, -1 ≤ (dom a t k).1 ∧ (dom a t k).1 < k
  | 0 => by simp [dom]
  | k + 1 => by
    have := dom_bd a t k
    unfold dom
    split
    · simp; omega
    · omega
theorem dom_i64 {a t : Nat → Int} (ha : SOk a) (ht : SOk t) : ∀ k, k ≤ 4 → I64 (dom a t k).2.1 ∧ I64 (dom a t k).2.2
  | 0, _ => ⟨⟨by simp [dom], by simp [dom]⟩, ⟨by simp [dom], by simp [dom]⟩⟩
  | k + 1, hk => by
    have h := dom_i64 ha ht k (by omega)
    obtain ⟨a0, a1⟩ := sok_at ha k (by omega)
    obtain ⟨t0, t1⟩ := sok_at ht k (by omega)
    unfold dom
    split
    · exact ⟨⟨by simp; omega, by simp; omega⟩, ⟨by simp; omega, by simp; omega⟩⟩
    · exact h
theorem dom_take {a t : Nat → Int} {k : Nat} (h : 0 < t k) (h2 : (dom a t k).1 < 0 ∨ 0 < rcA (a k) (t k) (dom a t k).2.1 (dom a t k).2.2) : dom a t (k + 1) = ((k : Int), a k, t k) := by rw [dom, if_pos ⟨h, h2⟩]
theorem dom_skip {a t : Nat → Int} {k : Nat} (h : ¬ (0 < t k ∧ ((dom a t k).1 < 0 ∨ 0 < rcA (a k) (t k) (dom a t k).2.1 (dom a t k).2.2))) : dom a t (k + 1) = dom a t k := by rw [dom, if_neg h]
/-- What both return. -/
def domRes (a t : Nat → Int) : Value := if SOk a ∧ SOk t then .tuple #[.int .i64 (dom a t 4).1, F2 (dom a t 4).2.1 (dom a t 4).2.2] else .tuple #[.int .i64 (-1), F2 0 1]

/-- A world in which, of what w0 has, block g alone may have turned. -/
theorem gb_of_below {w w1 : World} {r : Option Nat} (h : Below w.heap.size w w1) : w.grownBy w1 r := ⟨h.os, h.tape, h.output, h.size, fun k hk _ => h.block k hk⟩
theorem gb_trans {a b c : World} {r : Option Nat} (h : a.grownBy b r) (k : b.grownBy c r) : a.grownBy c r :=
  ⟨k.os.trans h.os, k.tape.trans h.tape, k.output.trans h.output, Nat.le_trans h.size k.size, fun i hi hr => (k.block i (Nat.lt_of_lt_of_le hi h.size) hr).trans (h.block i hi hr)⟩
theorem gb_set {a b : World} {g : Nat} (h : a.grownBy b (some g)) (o : Nat) (v : Value) : a.grownBy (b.setCell ⟨g, o, none⟩ v) (some g) :=
  gb_trans h ⟨rfl, rfl, rfl, by simp, fun k hk hr => Below.heap_setCell _ _ _ _ (fun e => hr (by rw [e]))⟩
theorem gb_cell {a b : World} {g i o : Nat} (h : a.grownBy b (some g)) (hi : i < a.heap.size) (hg : i ≠ g) : b.cell? ⟨i, o, none⟩ = a.cell? ⟨i, o, none⟩ := World.cell?_of_block (h.block i hi (fun e => hg (Option.some.inj e)))
theorem gb_frozen {a b : World} {g i o : Nat} (h : a.grownBy b (some g)) (hi : i < a.heap.size) (hg : i ≠ g) : b.frozen? ⟨i, o, none⟩ = a.frozen? ⟨i, o, none⟩ := World.frozen?_of_block (h.block i hi (fun e => hg (Option.some.inj e)))
theorem gb_below {w a b : World} {g : Nat} (h : a.grownBy b (some g)) (hw : Below w.heap.size w a) (hg : w.heap.size ≤ g) : Below w.heap.size w b := hw.grown h hw.size (fun k hk => by cases hk; exact hg)
/-- The loop's state, the four blocks being w's size on: both sums, the result, the greatest part. -/
structure DR (w wr : World) (a t : Nat → Int) (gn gd : Int) : Prop where
  bel : Below w.heap.size w wr
  size : w.heap.size + 4 ≤ wr.heap.size
  ca : ∀ k, k < 4 → wr.cell? ⟨w.heap.size, k, none⟩ = some (.int .i64 (a k))
  ct : ∀ k, k < 4 → wr.cell? ⟨w.heap.size + 1, k, none⟩ = some (.int .i64 (t k))
  r0 : wr.cell? ⟨w.heap.size + 1 + 1, 0, none⟩ = some (.int .i64 0)
  r1 : wr.cell? ⟨w.heap.size + 1 + 1, 1, none⟩ = some (.int .i64 0)
  g0 : wr.cell? ⟨w.heap.size + 1 + 1 + 1, 0, none⟩ = some (.int .i64 gn)
  g1 : wr.cell? ⟨w.heap.size + 1 + 1 + 1, 1, none⟩ = some (.int .i64 gd)
  fr : ∀ k, wr.frozen? ⟨w.heap.size + 1 + 1, k, none⟩ = false
  fg : ∀ k, wr.frozen? ⟨w.heap.size + 1 + 1 + 1, k, none⟩ = false
theorem DR.grow {w wr w1 : World} {a t : Nat → Int} {gn gd : Int} (h : DR w wr a t gn gd) (hb : Below wr.heap.size wr w1) : DR w w1 a t gn gd := by
  have hs := h.size
  have c : ∀ b k, b < w.heap.size + 4 → w1.cell? ⟨b, k, none⟩ = wr.cell? ⟨b, k, none⟩ := fun b k hi => hb.cell (p := ⟨_, _, none⟩) (by show b < _; omega)
  have f : ∀ b k, b < w.heap.size + 4 → w1.frozen? ⟨b, k, none⟩ = wr.frozen? ⟨b, k, none⟩ := fun b k hi => hb.frozen (p := ⟨_, _, none⟩) (by show b < _; omega)
  exact ⟨bt h.bel hb, Nat.le_trans hs hb.size, fun k hk => (c _ k (by omega)).trans (h.ca k hk), fun k hk => (c _ k (by omega)).trans (h.ct k hk), (c _ 0 (by omega)).trans h.r0, (c _ 1 (by omega)).trans h.r1, (c _ 0 (by omega)).trans h.g0, (c _ 1 (by omega)).trans h.g1, fun k => (f _ k (by omega)).trans (h.fr k), fun k => (f _ k (by omega)).trans (h.fg k)⟩
theorem DR.drew {w wr : World} {a t : Nat → Int} {gn gd : Int} (h : DR w wr a t gn gd) : DR w wr.drew a t gn gd := h.grow (bd (Below.refl _ _))
theorem DR.set {w wr : World} {a t : Nat → Int} {gn gd : Int} (h : DR w wr a t gn gd) (x y : Int) : DR w ((wr.setCell ⟨w.heap.size + 1 + 1 + 1, 0, none⟩ (.int .i64 x)).setCell ⟨w.heap.size + 1 + 1 + 1, 1, none⟩ (.int .i64 y)) a t x y := by
  have o : ∀ b k, b ≠ w.heap.size + 1 + 1 + 1 → ((wr.setCell ⟨w.heap.size + 1 + 1 + 1, 0, none⟩ (.int .i64 x)).setCell ⟨w.heap.size + 1 + 1 + 1, 1, none⟩ (.int .i64 y)).cell? ⟨b, k, none⟩ = wr.cell? ⟨b, k, none⟩ := fun b k hi => by
    rw [World.cell?_setCell_other _ _ _ _ (fun e => hi (by cases e; rfl)), World.cell?_setCell_other _ _ _ _ (fun e => hi (by cases e; rfl))]
  refine ⟨(h.bel.setCell (by show w.heap.size ≤ w.heap.size + 1 + 1 + 1; omega) _).setCell (by show w.heap.size ≤ w.heap.size + 1 + 1 + 1; omega) _, by have := h.size; simp; omega, fun k hk => (o _ k (by omega)).trans (h.ca k hk), fun k hk => (o _ k (by omega)).trans (h.ct k hk), (o _ 0 (by omega)).trans h.r0, (o _ 1 (by omega)).trans h.r1, ?_, ?_, fun k => ?_, fun k => ?_⟩
  · rw [World.cell?_setCell_other _ _ _ _ (by simp)]
    exact World.cell?_setCell_same _ _ _ h.g0
  · exact World.cell?_setCell_same _ _ _ ((World.cell?_setCell_other _ _ _ _ (by simp)).trans h.g1)
  · rw [World.frozen?_setCell, World.frozen?_setCell]; exact h.fr k
  · rw [World.frozen?_setCell, World.frozen?_setCell]; exact h.fg k
theorem size_all (w : World) (o : Obj) : (w.alloc o).heap.size = w.heap.size + 1 := by show (w.heap.push o).size = _; rw [Array.size_push]
theorem DR.start {w w2 : World} {a t : Nat → Int} {A F : TypeId} (h : Below ((((w.alloc (.cells (C4 a) A)).alloc (.cells (C4 t) A)).alloc (.cells #[.int .i64 0, .int .i64 0] F)).alloc (.cells #[.int .i64 0, .int .i64 1] F)).heap.size ((((w.alloc (.cells (C4 a) A)).alloc (.cells (C4 t) A)).alloc (.cells #[.int .i64 0, .int .i64 0] F)).alloc (.cells #[.int .i64 0, .int .i64 1] F)) w2) : DR w w2 a t 0 1 := by
  refine DR.grow (wr := (((w.alloc (.cells (C4 a) A)).alloc (.cells (C4 t) A)).alloc (.cells #[.int .i64 0, .int .i64 0] F)).alloc (.cells #[.int .i64 0, .int .i64 1] F)) ?_ h
  have s1 := size_all w (.cells (C4 a) A)
  have s2 := size_all (w.alloc (.cells (C4 a) A)) (.cells (C4 t) A)
  have s3 := size_all ((w.alloc (.cells (C4 a) A)).alloc (.cells (C4 t) A)) (.cells #[.int .i64 0, .int .i64 0] F)
  have s4 := size_all (((w.alloc (.cells (C4 a) A)).alloc (.cells (C4 t) A)).alloc (.cells #[.int .i64 0, .int .i64 0] F)) (.cells #[.int .i64 0, .int .i64 1] F)
  refine ⟨ba (ba (ba (ba (Below.refl _ _) _) _) _) _, by omega, fun k hk => ?_, fun k hk => ?_, ?_, ?_, ?_, ?_, fun k => ?_, fun k => ?_⟩
  · rw [World.cell?_alloc_past _ _ _ (by omega), World.cell?_alloc_past _ _ _ (by omega), World.cell?_alloc_past _ _ _ (by omega)]
    exact c4_cell w a A k hk
  · rw [World.cell?_alloc_past _ _ _ (by omega), World.cell?_alloc_past _ _ _ (by omega)]
    exact (World.cell?_alloc_at _ _ _ _ (by omega)).trans (c4_get t k hk)
  · simp [go_sem]
  · simp [go_sem]
  · simp [go_sem]
  · simp [go_sem]
  · simp [go_sem]
  · simp [go_sem]
end
section
open Go.RowKit
attribute [local go_sem] ext_cell ext_frozen Mix.calmUpon Mix.mUpon
/-- The sum of the first n parts of a kind. -/
def sm (k a : Nat → Int) : Nat → Nat → Int
  | 0, _ => 0
  | n + 1, j => if k n = j then sm k a n j + a n else sm k a n j
theorem sm_bd {k r a : Nat → Int} {len : Nat} (h : VOk k r a len) (j : Nat) : ∀ n, n ≤ len → 0 ≤ sm k a n j ∧ sm k a n j ≤ n * 9007199254740992
  | 0, _ => by simp [sm]
  | n + 1, hn => by
    have h1 := sm_bd h j n (by omega)
    obtain ⟨_, h2, h3⟩ := (h n (by omega)).1
    unfold sm
    split <;> omega
/-- The loop's state: the result, the sums. -/
structure OR (w wr : World) (S : Nat → Int) : Prop where
  bel : Below w.heap.size w wr
  size : w.heap.size + 2 ≤ wr.heap.size
  r : ∀ j, j < 4 → wr.cell? ⟨w.heap.size, j, none⟩ = some (.int .i64 0)
  c : ∀ j, j < 4 → wr.cell? ⟨w.heap.size + 1, j, none⟩ = some (.int .i64 (S j))
  fr : ∀ j, wr.frozen? ⟨w.heap.size, j, none⟩ = false
  fc : ∀ j, wr.frozen? ⟨w.heap.size + 1, j, none⟩ = false
theorem OR.grow {w wr w1 : World} {S : Nat → Int} (h : OR w wr S) (hb : Below wr.heap.size wr w1) : OR w w1 S := by
  have hs := h.size
  have c : ∀ b k, b < w.heap.size + 2 → w1.cell? ⟨b, k, none⟩ = wr.cell? ⟨b, k, none⟩ := fun b k hi => hb.cell (p := ⟨_, _, none⟩) (by show b < _; omega)
  have f : ∀ b k, b < w.heap.size + 2 → w1.frozen? ⟨b, k, none⟩ = wr.frozen? ⟨b, k, none⟩ := fun b k hi => hb.frozen (p := ⟨_, _, none⟩) (by show b < _; omega)
  exact ⟨bt h.bel hb, Nat.le_trans hs hb.size, fun k hk => (c _ k (by omega)).trans (h.r k hk), fun k hk => (c _ k (by omega)).trans (h.c k hk), fun k => (f _ k (by omega)).trans (h.fr k), fun k => (f _ k (by omega)).trans (h.fc k)⟩
theorem OR.drew {w wr : World} {S : Nat → Int} (h : OR w wr S) : OR w wr.drew S := h.grow (bd (Below.refl _ _))
theorem OR.congr {w wr : World} {S T : Nat → Int} (h : OR w wr S) (he : ∀ j, j < 4 → S j = T j) : OR w wr T := ⟨h.bel, h.size, h.r, fun j hj => by rw [← he j hj]; exact h.c j hj, h.fr, h.fc⟩
theorem OR.set {w wr : World} {S : Nat → Int} (h : OR w wr S) (j : Nat) (hj : j < 4) (x : Int) : OR w (wr.setCell ⟨w.heap.size + 1, j, none⟩ (.int .i64 x)) (fun i => if i = j then x else S i) := by
  refine ⟨h.bel.setCell (by show w.heap.size ≤ w.heap.size + 1; omega) _, by have := h.size; simp; omega, fun k hk => ?_, fun k hk => ?_, fun k => ?_, fun k => ?_⟩
  · rw [World.cell?_setCell_other _ _ _ _ (by simp)]; exact h.r k hk
  · by_cases hkj : k = j
    · subst hkj
      rw [if_pos rfl]; exact World.cell?_setCell_same _ _ _ (h.c k hk)
    · rw [if_neg hkj, World.cell?_setCell_other _ _ _ _ (fun e => hkj (by cases e; rfl))]; exact h.c k hk
  · rw [World.frozen?_setCell]; exact h.fr k
  · rw [World.frozen?_setCell]; exact h.fc k
theorem z4 (j : Nat) (hj : j < 4) : (#[.int .i64 0, .int .i64 0, .int .i64 0, .int .i64 0] : Array Value)[j]? = some (.int .i64 0) := by
  have : j = 0 ∨ j = 1 ∨ j = 2 ∨ j = 3 := by omega
  rcases this with rfl | rfl | rfl | rfl <;> rfl
theorem OR.start {w w1 : World} {A : TypeId} (h : Below ((w.alloc (.cells #[.int .i64 0, .int .i64 0, .int .i64 0, .int .i64 0] A)).alloc (.cells #[.int .i64 0, .int .i64 0, .int .i64 0, .int .i64 0] A)).heap.size ((w.alloc (.cells #[.int .i64 0, .int .i64 0, .int .i64 0, .int .i64 0] A)).alloc (.cells #[.int .i64 0, .int .i64 0, .int .i64 0, .int .i64 0] A)) w1) : OR w w1 (fun _ => 0) := by
  refine OR.grow (wr := (w.alloc (.cells #[.int .i64 0, .int .i64 0, .int .i64 0, .int .i64 0] A)).alloc (.cells #[.int .i64 0, .int .i64 0, .int .i64 0, .int .i64 0] A)) ?_ h
  have s1 := size_all w (.cells #[.int .i64 0, .int .i64 0, .int .i64 0, .int .i64 0] A)
  have s2 := size_all (w.alloc (.cells #[.int .i64 0, .int .i64 0, .int .i64 0, .int .i64 0] A)) (.cells #[.int .i64 0, .int .i64 0, .int .i64 0, .int .i64 0] A)
  refine ⟨ba (ba (Below.refl _ _) _) _, by omega, fun k hk => ?_, fun k hk => ?_, fun k => ?_, fun k => ?_⟩
  · rw [World.cell?_alloc_past _ _ _ (by omega), World.cell?_alloc_new]; exact z4 k hk
  · exact (World.cell?_alloc_at _ _ _ _ (by omega)).trans (z4 k hk)
  · simp [go_sem]
  · simp [go_sem]
end
section
open Go.RowKit
attribute [local go_sem] ext_cell ext_frozen Mix.calmUpon Mix.mUpon
set_option maxRecDepth 100000 in
set_option maxHeartbeats 2000000 in
theorem dominant_no1 (a t : Nat → Int) (ha : ¬ SOk a) : Pure Tryz.prog 112 #[S4 a, S4 t] (.tuple #[.int .i64 (-1), F2 0 1]) := by
  intro w
  have HA := sumsright a
  rw [decide_eq_false ha] at HA
  have HA := Lib.hid HA
  clear ha
  go_enter Tryz.func112, Tryz.ntmps112
  go_wp2_with fail
  (with_reducible refine (HA.out _).mono ?_)
  rintro e w1 ⟨rfl, hb1⟩
  have hs1 : w.heap.size + 4 ≤ w1.heap.size := (by have h := hb1.size; first | omega | (simp at h; omega))
  have hz1_0 : w.heap.size < w1.heap.size := (by omega)
  have hz1_1 : w.heap.size + 1 < w1.heap.size := (by omega)
  have hz1_2 : w.heap.size + 2 < w1.heap.size := (by omega)
  have hx1_2 : w.heap.size + 1 + 1 < w1.heap.size := (by omega)
  have hz1_3 : w.heap.size + 3 < w1.heap.size := (by omega)
  have hx1_3 : w.heap.size + 1 + 1 + 1 < w1.heap.size := (by omega)
  obtain ⟨hc1, hf1, hl1⟩ := bcell hb1
  clear hl1
  go_wp2_with fail
  go_region
  go_wp2
  refine bodyPost_ret (v := .tuple #[.int .i64 (-1), F2 0 1]) (by simp [results, Tryz.results112, go_sem, *]) rfl ⟨rfl, ?_⟩
  (repeat (first | assumption | exact Below.refl _ _ | refine ba ?_ _ | refine bd ?_ | refine bdn ?_ _ | refine bs ?_ (by first | omega | (simp; done) | (simp; omega)) _ | refine bt ?_ (by assumption)))
set_option maxRecDepth 100000 in
set_option maxHeartbeats 2000000 in
theorem dominant_no2 (a t : Nat → Int) (ha : SOk a) (ht : ¬ SOk t) : Pure Tryz.prog 112 #[S4 a, S4 t] (.tuple #[.int .i64 (-1), F2 0 1]) := by
  intro w
  have HA := sumsright a
  rw [decide_eq_true ha] at HA
  have HA := Lib.hid HA
  have HT := sumsright t
  rw [decide_eq_false ht] at HT
  have HT := Lib.hid HT
  clear ha
  go_enter Tryz.func112, Tryz.ntmps112
  go_wp2_with fail
  (with_reducible refine (HA.out _).mono ?_)
  rintro e w1 ⟨rfl, hb1⟩
  have hs1 : w.heap.size + 4 ≤ w1.heap.size := (by have h := hb1.size; first | omega | (simp at h; omega))
  have hz1_0 : w.heap.size < w1.heap.size := (by omega)
  have hz1_1 : w.heap.size + 1 < w1.heap.size := (by omega)
  have hz1_2 : w.heap.size + 2 < w1.heap.size := (by omega)
  have hx1_2 : w.heap.size + 1 + 1 < w1.heap.size := (by omega)
  have hz1_3 : w.heap.size + 3 < w1.heap.size := (by omega)
  have hx1_3 : w.heap.size + 1 + 1 + 1 < w1.heap.size := (by omega)
  obtain ⟨hc1, hf1, hl1⟩ := bcell hb1
  clear hl1
  go_wp2_with fail
  (with_reducible refine (HT.out _).mono ?_)
  rintro e w2 ⟨rfl, hb2⟩
  have hs2 : w1.heap.size + 0 ≤ w2.heap.size := (by have h := hb2.size; first | omega | (simp at h; omega))
  have hb1_2 := bel hb1 hb2 (by (repeat (first | assumption | exact Below.refl _ _ | refine ba ?_ _ | refine bd ?_ | refine bdn ?_ _ | refine bs ?_ (by first | omega | (simp; done) | (simp; omega)) _ | refine bt ?_ (by assumption))))
  clear hz1_0 hz1_1 hz1_2 hx1_2 hz1_3 hx1_3 hc1 hf1
  obtain ⟨hc1_2, hf1_2, hl1_2⟩ := bcell hb1_2
  clear hl1_2
  have hz2_0 : w.heap.size < w2.heap.size := (by omega)
  have hz2_1 : w.heap.size + 1 < w2.heap.size := (by omega)
  have hz2_2 : w.heap.size + 2 < w2.heap.size := (by omega)
  have hx2_2 : w.heap.size + 1 + 1 < w2.heap.size := (by omega)
  have hz2_3 : w.heap.size + 3 < w2.heap.size := (by omega)
  have hx2_3 : w.heap.size + 1 + 1 + 1 < w2.heap.size := (by omega)
  obtain ⟨hc2, hf2, hl2⟩ := bcell hb2
  clear hl2
  go_wp2_with fail
  go_region
  go_wp2
  refine bodyPost_ret (v := .tuple #[.int .i64 (-1), F2 0 1]) (by simp [results, Tryz.results112, go_sem, *]) rfl ⟨rfl, ?_⟩
  (repeat (first | assumption | exact Below.refl _ _ | refine ba ?_ _ | refine bd ?_ | refine bdn ?_ _ | refine bs ?_ (by first | omega | (simp; done) | (simp; omega)) _ | refine bt ?_ (by assumption)))
set_option maxRecDepth 100000 in
set_option maxHeartbeats 2000000 in
theorem refdominant_no1 (a t : Nat → Int) (ha : ¬ SOk a) : Pure Tryz.prog 38 #[S4 a, S4 t] (.tuple #[.int .i64 (-1), F2 0 1]) := by
  intro w
  have HA := refright6 a
  rw [decide_eq_false ha] at HA
  have HA := Lib.hid HA
  clear ha
  go_enter Tryz.func38, Tryz.ntmps38
  go_wp2_with fail
  (with_reducible refine (HA.out _).mono ?_)
  rintro e w1 ⟨rfl, hb1⟩
  have hs1 : w.heap.size + 4 ≤ w1.heap.size := (by have h := hb1.size; first | omega | (simp at h; omega))
  have hz1_0 : w.heap.size < w1.heap.size := (by omega)
  have hz1_1 : w.heap.size + 1 < w1.heap.size := (by omega)
  have hz1_2 : w.heap.size + 2 < w1.heap.size := (by omega)
  have hx1_2 : w.heap.size + 1 + 1 < w1.heap.size := (by omega)
  have hz1_3 : w.heap.size + 3 < w1.heap.size := (by omega)
  have hx1_3 : w.heap.size + 1 + 1 + 1 < w1.heap.size := (by omega)
  obtain ⟨hc1, hf1, hl1⟩ := bcell hb1
  clear hl1
  go_wp2_with fail
  go_region
  go_wp2
  refine bodyPost_ret (v := .tuple #[.int .i64 (-1), F2 0 1]) (by simp [results, Tryz.results38, go_sem, *]) rfl ⟨rfl, ?_⟩
  (repeat (first | assumption | exact Below.refl _ _ | refine ba ?_ _ | refine bd ?_ | refine bdn ?_ _ | refine bs ?_ (by first | omega | (simp; done) | (simp; omega)) _ | refine bt ?_ (by assumption)))
set_option maxRecDepth 100000 in
set_option maxHeartbeats 2000000 in
theorem refdominant_no2 (a t : Nat → Int) (ha : SOk a) (ht : ¬ SOk t) : Pure Tryz.prog 38 #[S4 a, S4 t] (.tuple #[.int .i64 (-1), F2 0 1]) := by
  intro w
  have HA := refright6 a
  rw [decide_eq_true ha] at HA
  have HA := Lib.hid HA
  have HT := refright6 t
  rw [decide_eq_false ht] at HT
  have HT := Lib.hid HT
  clear ha
  go_enter Tryz.func38, Tryz.ntmps38
  go_wp2_with fail
  (with_reducible refine (HA.out _).mono ?_)
  rintro e w1 ⟨rfl, hb1⟩
  have hs1 : w.heap.size + 4 ≤ w1.heap.size := (by have h := hb1.size; first | omega | (simp at h; omega))
  have hz1_0 : w.heap.size < w1.heap.size := (by omega)
  have hz1_1 : w.heap.size + 1 < w1.heap.size := (by omega)
  have hz1_2 : w.heap.size + 2 < w1.heap.size := (by omega)
  have hx1_2 : w.heap.size + 1 + 1 < w1.heap.size := (by omega)
  have hz1_3 : w.heap.size + 3 < w1.heap.size := (by omega)
  have hx1_3 : w.heap.size + 1 + 1 + 1 < w1.heap.size := (by omega)
  obtain ⟨hc1, hf1, hl1⟩ := bcell hb1
  clear hl1
  go_wp2_with fail
  (with_reducible refine (HT.out _).mono ?_)
  rintro e w2 ⟨rfl, hb2⟩
  have hs2 : w1.heap.size + 0 ≤ w2.heap.size := (by have h := hb2.size; first | omega | (simp at h; omega))
  have hb1_2 := bel hb1 hb2 (by (repeat (first | assumption | exact Below.refl _ _ | refine ba ?_ _ | refine bd ?_ | refine bdn ?_ _ | refine bs ?_ (by first | omega | (simp; done) | (simp; omega)) _ | refine bt ?_ (by assumption))))
  clear hz1_0 hz1_1 hz1_2 hx1_2 hz1_3 hx1_3 hc1 hf1
  obtain ⟨hc1_2, hf1_2, hl1_2⟩ := bcell hb1_2
  clear hl1_2
  have hz2_0 : w.heap.size < w2.heap.size := (by omega)
  have hz2_1 : w.heap.size + 1 < w2.heap.size := (by omega)
  have hz2_2 : w.heap.size + 2 < w2.heap.size := (by omega)
  have hx2_2 : w.heap.size + 1 + 1 < w2.heap.size := (by omega)
  have hz2_3 : w.heap.size + 3 < w2.heap.size := (by omega)
  have hx2_3 : w.heap.size + 1 + 1 + 1 < w2.heap.size := (by omega)
  obtain ⟨hc2, hf2, hl2⟩ := bcell hb2
  clear hl2
  go_wp2_with fail
  go_region
  go_wp2
  refine bodyPost_ret (v := .tuple #[.int .i64 (-1), F2 0 1]) (by simp [results, Tryz.results38, go_sem, *]) rfl ⟨rfl, ?_⟩
  (repeat (first | assumption | exact Below.refl _ _ | refine ba ?_ _ | refine bd ?_ | refine bdn ?_ _ | refine bs ?_ (by first | omega | (simp; done) | (simp; omega)) _ | refine bt ?_ (by assumption)))
set_option maxRecDepth 100000 in
set_option maxHeartbeats 8000000 in
theorem refdominant_yes (a t : Nat → Int) (ha : SOk a) (ht : SOk t) : Pure Tryz.prog 38 #[S4 a, S4 t] (.tuple #[.int .i64 (dom a t 4).1, F2 (dom a t 4).2.1 (dom a t 4).2.2]) := by
  intro w
  have HA := refright6 a
  rw [decide_eq_true ha] at HA
  have HA := Lib.hid HA
  have HT := refright6 t
  rw [decide_eq_true ht] at HT
  have HT := Lib.hid HT
  have HSA := Lib.hid ha; have HST := Lib.hid ht
  clear ha ht
  go_enter Tryz.func38, Tryz.ntmps38
  go_wp2_with fail
  (with_reducible refine (HA.out _).mono ?_)
  rintro e w1 ⟨rfl, hb1⟩
  have hs1 : w.heap.size + 4 ≤ w1.heap.size := (by have h := hb1.size; first | omega | (simp at h; omega))
  have hz1_0 : w.heap.size < w1.heap.size := (by omega)
  have hz1_1 : w.heap.size + 1 < w1.heap.size := (by omega)
  have hz1_2 : w.heap.size + 2 < w1.heap.size := (by omega)
  have hx1_2 : w.heap.size + 1 + 1 < w1.heap.size := (by omega)
  have hz1_3 : w.heap.size + 3 < w1.heap.size := (by omega)
  have hx1_3 : w.heap.size + 1 + 1 + 1 < w1.heap.size := (by omega)
  obtain ⟨hc1, hf1, hl1⟩ := bcell hb1
  clear hl1
  go_wp2_with fail
  (with_reducible refine (HT.out _).mono ?_)
  rintro e w2 ⟨rfl, hb2⟩
  have hs2 : w1.heap.size + 0 ≤ w2.heap.size := (by have h := hb2.size; first | omega | (simp at h; omega))
  have hb1_2 := bel hb1 hb2 (by (repeat (first | assumption | exact Below.refl _ _ | refine ba ?_ _ | refine bd ?_ | refine bdn ?_ _ | refine bs ?_ (by first | omega | (simp; done) | (simp; omega)) _ | refine bt ?_ (by assumption))))
  clear hz1_0 hz1_1 hz1_2 hx1_2 hz1_3 hx1_3 hc1 hf1
  obtain ⟨hc1_2, hf1_2, hl1_2⟩ := bcell hb1_2
  clear hl1_2
  have hz2_0 : w.heap.size < w2.heap.size := (by omega)
  have hz2_1 : w.heap.size + 1 < w2.heap.size := (by omega)
  have hz2_2 : w.heap.size + 2 < w2.heap.size := (by omega)
  have hx2_2 : w.heap.size + 1 + 1 < w2.heap.size := (by omega)
  have hz2_3 : w.heap.size + 3 < w2.heap.size := (by omega)
  have hx2_3 : w.heap.size + 1 + 1 + 1 < w2.heap.size := (by omega)
  obtain ⟨hc2, hf2, hl2⟩ := bcell hb2
  clear hl2
  have hD := DR.start hb1_2
  have HD := Lib.hid hD
  clear hD
  go_wp2_with fail
  go_loopw [7, 8] (fun b i wr => ∃ k : Nat, k ≤ 4 ∧ i = .int .i64 k ∧ b = .int .i64 (dom a t k).1 ∧ Hid (DR w wr a t (dom a t k).2.1 (dom a t k).2.2)) (fun _ i _ => 4 - (intOf i).toNat)
  case atStart => exact ⟨0, by omega, rfl, rfl, HD⟩
  case round =>
    clear HD hb1_2 hb2
    obtain ⟨k, hk, rfl, rfl, HD⟩ := hrel
    have bb := dom_bd a t k
    rcases hB : dom a t k with ⟨B, gn, gd⟩
    rw [hB] at HD bb
    simp only at HD bb
    obtain ⟨bb1, bb2⟩ := bb
    have r0 := HD.out.r0; have r1 := HD.out.r1; have e0 := HD.out.g0; have e1 := HD.out.g1
    have f0 := HD.out.fr 0; have f1 := HD.out.fr 1; have f2 := HD.out.fg 0; have f3 := HD.out.fg 1
    have hs := HD.out.size
    have z0 : w.heap.size < wr.heap.size := by omega
    have z1 : w.heap.size + 1 < wr.heap.size := by omega
    have z2 : w.heap.size + 1 + 1 < wr.heap.size := by omega
    have z3 : w.heap.size + 1 + 1 + 1 < wr.heap.size := by omega
    by_cases hlt : k < 4
    · have hks : (k : Int) < 4 := by omega
      have ck := HD.out.ca k hlt
      have dk := HD.out.ct k hlt
      obtain ⟨t0, t1⟩ := sok_at HST.out k hlt
      obtain ⟨a0, a1⟩ := sok_at HSA.out k hlt
      have hi := dom_i64 HSA.out HST.out k hk
      rw [hB] at hi
      simp only at hi
      by_cases h0 : 0 < t k
      · by_cases hb : B < 0
        · skip
          have HS := Lib.hid (dom_take (a := a) (t := t) (k := k) (by omega) (by rw [hB]; exact .inl hb))
          clear hB
          go_wp2
          go_region
          go_wp2
          go_roundw
          case rel => exact ⟨k + 1, by omega, by go_num, by rw [HS.out], by rw [HS.out]; exact Lib.hid (by first | exact ((HD.out.set _ _).grow (ba (Below.refl _ _) _)).drew.drew | exact ((HD.out.set _ _).grow (ba (Below.refl _ _) _)).drew | exact ((HD.out.grow (bd (ba (Below.refl _ _) _))).set _ _).drew | exact ((HD.out.grow (bd (ba (Below.refl _ _) _))).set _ _).drew.drew | exact ((HD.out.grow (ba (Below.refl _ _) _)).set _ _).drew.drew | exact ((HD.out.grow (ba (Below.refl _ _) _)).set _ _).drew | exact (HD.out.grow (bd (ba (Below.refl _ _) _))).set _ _)⟩
          case measure => simp [intOf]; omega
        · have hb0 : 0 ≤ B := by omega
          by_cases hc : 0 < rcA (a k) (t k) gn gd
          · skip
            have HS := Lib.hid (dom_take (a := a) (t := t) (k := k) (by omega) (by rw [hB]; exact .inr hc))
            have HC := Lib.hid (refcmp_any (a k) (t k) gn gd ⟨by omega, by omega⟩ ⟨by omega, by omega⟩ hi.1 hi.2)
            generalize rcA (a k) (t k) gn gd = q at *
            clear hB
            go_wp2
            go_region
            go_wp2_with fail
            refine (HC.out _).mono ?_
            rintro e w3 ⟨rfl, hb3⟩
            have HD3 := HD.out.grow (bt (bd (ba (Below.refl _ _) _)) hb3)
            obtain ⟨hc3, hf3, hl3⟩ := bcell hb3
            clear hl3
            have q0 := HD3.g0; have q1 := HD3.g1; have p2 := HD3.fg 0; have p3 := HD3.fg 1
            have hs3 := HD3.size
            have y3 : w.heap.size + 1 + 1 + 1 < w3.heap.size := by omega
            have HD4 := Lib.hid HD3
            clear HD3 hb3
            go_wp2
            go_roundw
            case rel => exact ⟨k + 1, by omega, by go_num, by rw [HS.out], by rw [HS.out]; exact Lib.hid (by first | exact ((HD.out.set _ _).grow (ba (Below.refl _ _) _)).drew.drew | exact ((HD.out.set _ _).grow (ba (Below.refl _ _) _)).drew | exact ((HD4.out).set _ _).drew | exact ((HD4.out).set _ _).drew.drew | exact ((HD.out.grow (ba (Below.refl _ _) _)).set _ _).drew.drew | exact ((HD.out.grow (ba (Below.refl _ _) _)).set _ _).drew | exact (HD4.out).set _ _)⟩
            case measure => simp [intOf]; omega
          · skip
            have HS := Lib.hid (dom_skip (a := a) (t := t) (k := k) (by rw [hB]; rintro ⟨_, h | h⟩ <;> simp only at h <;> omega))
            have HC := Lib.hid (refcmp_any (a k) (t k) gn gd ⟨by omega, by omega⟩ ⟨by omega, by omega⟩ hi.1 hi.2)
            generalize rcA (a k) (t k) gn gd = q at *
            rw [hB] at HS
            clear hB
            go_wp2
            go_region
            go_wp2_with fail
            refine (HC.out _).mono ?_
            rintro e w3 ⟨rfl, hb3⟩
            have HD3 := Lib.hid (HD.out.grow (bt (bd (ba (Below.refl _ _) _)) hb3))
            clear hb3
            go_wp2
            go_roundw
            case rel => exact ⟨k + 1, by omega, by go_num, by rw [HS.out], by rw [HS.out]; exact HD3⟩
            case measure => simp [intOf]; omega
      · skip
        have HS := Lib.hid (dom_skip (a := a) (t := t) (k := k) (by rw [hB]; rintro ⟨h, _⟩; omega))
        rw [hB] at HS
        clear hB
        go_wp2
        go_region
        go_wp2
        go_roundw
        case rel => exact ⟨k + 1, by omega, by go_num, by rw [HS.out], by rw [HS.out]; exact Lib.hid (HD.out.grow (bd (ba (Below.refl _ _) _)))⟩
        case measure => simp [intOf]; omega
    · obtain rfl : k = 4 := by omega
      have HB := Lib.hid hB
      clear hB hlt
      go_wp2
      go_region
      go_wp2
      refine bodyPost_ret (v := .tuple #[.int .i64 B, F2 gn gd]) (by simp [results, Tryz.results38, go_sem, *]) rfl ⟨by rw [HB.out], ?_⟩
      have hbl := HD.out.bel
      exact bd (bs (bs hbl (by show w.heap.size ≤ w.heap.size + 1 + 1; omega) _) (by show w.heap.size ≤ w.heap.size + 1 + 1; omega) _)
end
section
open Go.RowKit
attribute [local go_sem] ext_cell ext_frozen Mix.calmUpon Mix.mUpon
set_option maxRecDepth 100000 in
set_option maxHeartbeats 8000000 in
theorem dominant_yes (a t : Nat → Int) (ha : SOk a) (ht : SOk t) : Pure Tryz.prog 112 #[S4 a, S4 t] (.tuple #[.int .i64 (dom a t 4).1, F2 (dom a t 4).2.1 (dom a t 4).2.2]) := by
  intro w
  have HA := sumsright a
  rw [decide_eq_true ha] at HA
  have HA := Lib.hid HA
  have HT := sumsright t
  rw [decide_eq_true ht] at HT
  have HT := Lib.hid HT
  have HSA := Lib.hid ha; have HST := Lib.hid ht
  clear ha ht
  go_enter Tryz.func112, Tryz.ntmps112
  go_wp2_with fail
  (with_reducible refine (HA.out _).mono ?_)
  rintro e w1 ⟨rfl, hb1⟩
  have hs1 : w.heap.size + 4 ≤ w1.heap.size := (by have h := hb1.size; first | omega | (simp at h; omega))
  have hz1_0 : w.heap.size < w1.heap.size := (by omega)
  have hz1_1 : w.heap.size + 1 < w1.heap.size := (by omega)
  have hz1_2 : w.heap.size + 2 < w1.heap.size := (by omega)
  have hx1_2 : w.heap.size + 1 + 1 < w1.heap.size := (by omega)
  have hz1_3 : w.heap.size + 3 < w1.heap.size := (by omega)
  have hx1_3 : w.heap.size + 1 + 1 + 1 < w1.heap.size := (by omega)
  obtain ⟨hc1, hf1, hl1⟩ := bcell hb1
  clear hl1
  go_wp2_with fail
  (with_reducible refine (HT.out _).mono ?_)
  rintro e w2 ⟨rfl, hb2⟩
  have hs2 : w1.heap.size + 0 ≤ w2.heap.size := (by have h := hb2.size; first | omega | (simp at h; omega))
  have hb1_2 := bel hb1 hb2 (by (repeat (first | assumption | exact Below.refl _ _ | refine ba ?_ _ | refine bd ?_ | refine bdn ?_ _ | refine bs ?_ (by first | omega | (simp; done) | (simp; omega)) _ | refine bt ?_ (by assumption))))
  clear hz1_0 hz1_1 hz1_2 hx1_2 hz1_3 hx1_3 hc1 hf1
  obtain ⟨hc1_2, hf1_2, hl1_2⟩ := bcell hb1_2
  clear hl1_2
  have hz2_0 : w.heap.size < w2.heap.size := (by omega)
  have hz2_1 : w.heap.size + 1 < w2.heap.size := (by omega)
  have hz2_2 : w.heap.size + 2 < w2.heap.size := (by omega)
  have hx2_2 : w.heap.size + 1 + 1 < w2.heap.size := (by omega)
  have hz2_3 : w.heap.size + 3 < w2.heap.size := (by omega)
  have hx2_3 : w.heap.size + 1 + 1 + 1 < w2.heap.size := (by omega)
  obtain ⟨hc2, hf2, hl2⟩ := bcell hb2
  clear hl2
  have hD := DR.start hb1_2
  have HD := Lib.hid hD
  clear hD
  go_wp2_with fail
  go_loopw [6, 21] (fun b i wr => ∃ k : Nat, k ≤ 4 ∧ i = .int .i64 k ∧ b = .int .i64 (dom a t k).1 ∧ Hid (DR w wr a t (dom a t k).2.1 (dom a t k).2.2)) (fun _ i _ => 4 - (intOf i).toNat)
  case atStart => exact ⟨0, by omega, rfl, rfl, HD⟩
  case round =>
    clear HD hb1_2 hb2
    obtain ⟨k, hk, rfl, rfl, HD⟩ := hrel
    have bb := dom_bd a t k
    rcases hB : dom a t k with ⟨B, gn, gd⟩
    rw [hB] at HD bb
    simp only at HD bb
    obtain ⟨bb1, bb2⟩ := bb
    have r0 := HD.out.r0; have r1 := HD.out.r1; have e0 := HD.out.g0; have e1 := HD.out.g1
    have f0 := HD.out.fr 0; have f1 := HD.out.fr 1; have f2 := HD.out.fg 0; have f3 := HD.out.fg 1
    have hs := HD.out.size
    have z0 : w.heap.size < wr.heap.size := by omega
    have z1 : w.heap.size + 1 < wr.heap.size := by omega
    have z2 : w.heap.size + 1 + 1 < wr.heap.size := by omega
    have z3 : w.heap.size + 1 + 1 + 1 < wr.heap.size := by omega
    by_cases hlt : k < 4
    · have hks : (k : Int) < 4 := by omega
      have ck := HD.out.ca k hlt
      have dk := HD.out.ct k hlt
      obtain ⟨t0, t1⟩ := sok_at HST.out k hlt
      obtain ⟨a0, a1⟩ := sok_at HSA.out k hlt
      have hi := dom_i64 HSA.out HST.out k hk
      rw [hB] at hi
      simp only at hi
      by_cases h0 : t k = 0
      · have hz : (t k == 0) = true := by simpa using h0
        have HS := Lib.hid (dom_skip (a := a) (t := t) (k := k) (by rw [hB]; rintro ⟨h, _⟩; omega))
        rw [hB] at HS
        clear hB
        go_wp2
        go_region
        go_wp2
        go_roundw
        case rel => exact ⟨k + 1, by omega, by go_num, by rw [HS.out], by rw [HS.out]; exact Lib.hid (HD.out.grow (bd (ba (Below.refl _ _) _)))⟩
        case measure => simp [intOf]; omega
      · have hz : (t k == 0) = false := by simpa using h0
        by_cases hb : B < 0
        · skip
          have HS := Lib.hid (dom_take (a := a) (t := t) (k := k) (by omega) (by rw [hB]; exact .inl hb))
          clear hB
          go_wp2
          go_region
          go_wp2
          go_region
          go_wp2
          go_roundw
          case rel => exact ⟨k + 1, by omega, by go_num, by rw [HS.out], by rw [HS.out]; exact Lib.hid (by first | exact ((HD.out.set _ _).grow (ba (Below.refl _ _) _)).drew.drew | exact ((HD.out.set _ _).grow (ba (Below.refl _ _) _)).drew | exact ((HD.out.grow (bd (ba (Below.refl _ _) _))).set _ _).drew | exact ((HD.out.grow (bd (ba (Below.refl _ _) _))).set _ _).drew.drew | exact ((HD.out.grow (ba (Below.refl _ _) _)).set _ _).drew.drew | exact ((HD.out.grow (ba (Below.refl _ _) _)).set _ _).drew | exact (HD.out.grow (bd (ba (Below.refl _ _) _))).set _ _)⟩
          case measure => simp [intOf]; omega
        · have hb0 : 0 ≤ B := by omega
          by_cases hg : a k = gn
          · subst hg
            by_cases hd : t k = gd
            · subst hd
              have HS := Lib.hid (dom_skip (a := a) (t := t) (k := k) (by rw [hB]; rintro ⟨_, h | h⟩ <;> first | (simp only at h; omega) | (rw [rcA_self] at h; omega)))
              rw [hB] at HS
              clear hB
              go_wp2
              go_region
              go_wp2
              go_roundw
              case rel => exact ⟨k + 1, by omega, by go_num, by rw [HS.out], by rw [HS.out]; exact Lib.hid (HD.out.grow (bd (ba (Below.refl _ _) _)))⟩
              case measure => simp [intOf]; omega
            · have hx : (t k == gd) = false := by simpa using hd
              clear hd
              by_cases hc : 0 < rcA (a k) (t k) (a k) gd
              · skip
                have HS := Lib.hid (dom_take (a := a) (t := t) (k := k) (by omega) (by rw [hB]; exact .inr hc))
                have HC := Lib.hid (rc_any (a k) (t k) (a k) gd ⟨by omega, by omega⟩ ⟨by omega, by omega⟩ hi.1 hi.2)
                generalize rcA (a k) (t k) (a k) gd = q at *
                clear hB
                go_wp2
                go_region
                go_wp2_with fail
                refine (HC.out _).mono ?_
                rintro e w3 ⟨rfl, hb3⟩
                have HD3 := HD.out.grow (bt (bd (ba (Below.refl _ _) _)) hb3)
                obtain ⟨hc3, hf3, hl3⟩ := bcell hb3
                clear hl3
                have q0 := HD3.g0; have q1 := HD3.g1; have p2 := HD3.fg 0; have p3 := HD3.fg 1
                have hs3 := HD3.size
                have y3 : w.heap.size + 1 + 1 + 1 < w3.heap.size := by omega
                have HD4 := Lib.hid HD3
                clear HD3 hb3
                go_wp2
                go_region
                go_wp2
                go_roundw
                case rel => exact ⟨k + 1, by omega, by go_num, by rw [HS.out], by rw [HS.out]; exact Lib.hid (by first | exact ((HD.out.set _ _).grow (ba (Below.refl _ _) _)).drew.drew | exact ((HD.out.set _ _).grow (ba (Below.refl _ _) _)).drew | exact ((HD4.out).set _ _).drew | exact ((HD4.out).set _ _).drew.drew | exact ((HD.out.grow (ba (Below.refl _ _) _)).set _ _).drew.drew | exact ((HD.out.grow (ba (Below.refl _ _) _)).set _ _).drew | exact (HD4.out).set _ _)⟩
                case measure => simp [intOf]; omega
              · skip
                have HS := Lib.hid (dom_skip (a := a) (t := t) (k := k) (by rw [hB]; rintro ⟨_, h | h⟩ <;> simp only at h <;> omega))
                have HC := Lib.hid (rc_any (a k) (t k) (a k) gd ⟨by omega, by omega⟩ ⟨by omega, by omega⟩ hi.1 hi.2)
                generalize rcA (a k) (t k) (a k) gd = q at *
                rw [hB] at HS
                clear hB
                go_wp2
                go_region
                go_wp2_with fail
                refine (HC.out _).mono ?_
                rintro e w3 ⟨rfl, hb3⟩
                have HD3 := Lib.hid (HD.out.grow (bt (bd (ba (Below.refl _ _) _)) hb3))
                clear hb3
                go_wp2
                go_roundw
                case rel => exact ⟨k + 1, by omega, by go_num, by rw [HS.out], by rw [HS.out]; exact HD3⟩
                case measure => simp [intOf]; omega
          · have hx : (a k == gn) = false := by simpa using hg
            clear hg
            by_cases hc : 0 < rcA (a k) (t k) gn gd
            · skip
              have HS := Lib.hid (dom_take (a := a) (t := t) (k := k) (by omega) (by rw [hB]; exact .inr hc))
              have HC := Lib.hid (rc_any (a k) (t k) gn gd ⟨by omega, by omega⟩ ⟨by omega, by omega⟩ hi.1 hi.2)
              generalize rcA (a k) (t k) gn gd = q at *
              clear hB
              go_wp2
              go_region
              go_wp2_with fail
              refine (HC.out _).mono ?_
              rintro e w3 ⟨rfl, hb3⟩
              have HD3 := HD.out.grow (bt (bd (ba (Below.refl _ _) _)) hb3)
              obtain ⟨hc3, hf3, hl3⟩ := bcell hb3
              clear hl3
              have q0 := HD3.g0; have q1 := HD3.g1; have p2 := HD3.fg 0; have p3 := HD3.fg 1
              have hs3 := HD3.size
              have y3 : w.heap.size + 1 + 1 + 1 < w3.heap.size := by omega
              have HD4 := Lib.hid HD3
              clear HD3 hb3
              go_wp2
              go_region
              go_wp2
              go_roundw
              case rel => exact ⟨k + 1, by omega, by go_num, by rw [HS.out], by rw [HS.out]; exact Lib.hid (by first | exact ((HD.out.set _ _).grow (ba (Below.refl _ _) _)).drew.drew | exact ((HD.out.set _ _).grow (ba (Below.refl _ _) _)).drew | exact ((HD4.out).set _ _).drew | exact ((HD4.out).set _ _).drew.drew | exact ((HD.out.grow (ba (Below.refl _ _) _)).set _ _).drew.drew | exact ((HD.out.grow (ba (Below.refl _ _) _)).set _ _).drew | exact (HD4.out).set _ _)⟩
              case measure => simp [intOf]; omega
            · skip
              have HS := Lib.hid (dom_skip (a := a) (t := t) (k := k) (by rw [hB]; rintro ⟨_, h | h⟩ <;> simp only at h <;> omega))
              have HC := Lib.hid (rc_any (a k) (t k) gn gd ⟨by omega, by omega⟩ ⟨by omega, by omega⟩ hi.1 hi.2)
              generalize rcA (a k) (t k) gn gd = q at *
              rw [hB] at HS
              clear hB
              go_wp2
              go_region
              go_wp2_with fail
              refine (HC.out _).mono ?_
              rintro e w3 ⟨rfl, hb3⟩
              have HD3 := Lib.hid (HD.out.grow (bt (bd (ba (Below.refl _ _) _)) hb3))
              clear hb3
              go_wp2
              go_roundw
              case rel => exact ⟨k + 1, by omega, by go_num, by rw [HS.out], by rw [HS.out]; exact HD3⟩
              case measure => simp [intOf]; omega
    · obtain rfl : k = 4 := by omega
      have HB := Lib.hid hB
      clear hB hlt
      go_wp2
      go_region
      go_wp2
      refine bodyPost_ret (v := .tuple #[.int .i64 B, F2 gn gd]) (by simp [results, Tryz.results112, go_sem, *]) rfl ⟨by rw [HB.out], ?_⟩
      have hbl := HD.out.bel
      exact bd (bs (bs hbl (by show w.heap.size ≤ w.heap.size + 1 + 1; omega) _) (by show w.heap.size ≤ w.heap.size + 1 + 1; omega) _)
end
section
open Go.RowKit
attribute [local go_sem] ext_cell ext_frozen Mix.calmUpon Mix.mUpon
/-- When two sums are the same. -/
def e4 (a b : Nat → Int) : Bool := a 0 == b 0 && (a 1 == b 1 && (a 2 == b 2 && a 3 == b 3))
set_option maxRecDepth 100000 in
theorem eq4 (a0 a1 a2 a3 b0 b1 b2 b3 : Int) (w : World) : (Op.equalIn 10000 67 (.agg #[.int .i64 a0, .int .i64 a1, .int .i64 a2, .int .i64 a3]) (.agg #[.int .i64 b0, .int .i64 b1, .int .i64 b2, .int .i64 b3])).run Tryz.prog w = .ok (a0 == b0 && (a1 == b1 && (a2 == b2 && a3 == b3))) w := by
  have u3 := Tryz.underlying2
  have a3' := Tryz.isAgg2
  have z3 := Tryz.sizeOf2
  rw [show (10000 : Nat) = 9999 + 1 from rfl, Op.equalIn]
  simp only [Sem.run_bind, run_underlying Tryz.underlying67, Result.andThen_ok]
  simp only [Std.Legacy.Range.forIn_eq_forIn_range', Std.Legacy.Range.size, Nat.sub_zero, Nat.add_sub_cancel, Nat.div_one, List.range'_succ, List.range'_zero, List.forIn_cons, List.forIn_nil]
  go_simp
  by_cases h1 : a0 = b0 <;> by_cases h2 : a1 = b1 <;> by_cases h3 : a2 = b2 <;> by_cases h4 : a3 = b3 <;> simp [h1, h2, h3, h4]
attribute [local go_sem] eq4
/-- How many times, told by the first n kinds. -/
def mn (a b : Nat → Int) : Nat → Int
  | 0 => 1152921504606846976
  | n + 1 => if 0 < b n then min (mn a b n) (a n / b n) else mn a b n
theorem mn_bd {a b : Nat → Int} (ha : SOk a) : ∀ n, n ≤ 4 → 0 ≤ mn a b n ∧ mn a b n ≤ 1152921504606846976
  | 0, _ => by simp [mn]
  | n + 1, hn => by
    have h1 := mn_bd (b := b) ha n (by omega)
    have h2 := (sok_at ha n (by omega)).1
    unfold mn
    split
    · rename_i h3
      have := Int.ediv_nonneg h2 (show 0 ≤ b n by omega)
      omega
    · exact h1
/-- What Dominant finds: the kind, and the part. -/
def domV (a t : Nat → Int) : Int × Int × Int := if SOk a ∧ SOk t then dom a t 4 else (-1, 0, 1)
theorem dominant_any (a t : Nat → Int) : Pure Tryz.prog 112 #[S4 a, S4 t] (.tuple #[.int .i64 (domV a t).1, F2 (domV a t).2.1 (domV a t).2.2]) := by
  unfold domV
  by_cases ha : SOk a
  · by_cases ht : SOk t
    · rw [if_pos ⟨ha, ht⟩]; exact dominant_yes a t ha ht
    · rw [if_neg (fun h => ht h.2)]; exact dominant_no2 a t ha ht
  · rw [if_neg (fun h => ha h.1)]; exact dominant_no1 a t ha
theorem refdominant_any (a t : Nat → Int) : Pure Tryz.prog 38 #[S4 a, S4 t] (.tuple #[.int .i64 (domV a t).1, F2 (domV a t).2.1 (domV a t).2.2]) := by
  unfold domV
  by_cases ha : SOk a
  · by_cases ht : SOk t
    · rw [if_pos ⟨ha, ht⟩]; exact refdominant_yes a t ha ht
    · rw [if_neg (fun h => ht h.2)]; exact refdominant_no2 a t ha ht
  · rw [if_neg (fun h => ha h.1)]; exact refdominant_no1 a t ha
def wa : Nat → Int | 0 => 2 | 1 => 6 | _ => 0
def wt : Nat → Int | 0 => 9 | 1 => 18 | _ => 0
def wk : Nat → Int | _ => 0
def wro : Nat → Int | 0 => 0 | _ => 2
def wam : Nat → Int | 0 => 1 | _ => 3
def wma : Nat → Int | 0 => 7 | 1 => 9 | _ => 0
def wmb : Nat → Int | 0 => 2 | 1 => 3 | _ => 0
theorem w_dom : Pure Tryz.prog 112 #[.agg #[.int .i64 2, .int .i64 6, .int .i64 0, .int .i64 0], .agg #[.int .i64 9, .int .i64 18, .int .i64 0, .int .i64 0]] (.tuple #[.int .i64 1, F2 6 18]) := by
  have h := dominant_any wa wt
  rw [show domV wa wt = (1, 6, 18) by decide] at h
  exact h
theorem w_vok : VOk wk wro wam 2 := fun i hi => by
  have : i = 0 ∨ i = 1 := by omega
  rcases this with rfl | rfl
  · exact ⟨⟨⟨by decide, by decide, by decide, by decide⟩, by decide, by decide⟩, fun h => absurd h (by decide)⟩
  · exact ⟨⟨⟨by decide, by decide, by decide, by decide⟩, by decide, by decide⟩, fun _ => by decide⟩
theorem w_parts (X : World) (T : TypeId) : Parts (X.alloc (.cells #[.int .i64 0, .int .i64 0, .int .i64 1, .int .i64 0, .int .i64 2, .int .i64 3] T)) X.heap.size 0 2 wk wro wam := fun i hi => by
  have : i = 0 ∨ i = 1 := by omega
  rcases this with rfl | rfl
  · exact ⟨by rw [World.cell?_alloc_new]; rfl, by rw [World.cell?_alloc_new]; rfl, by rw [World.cell?_alloc_new]; rfl⟩
  · exact ⟨by rw [World.cell?_alloc_new]; rfl, by rw [World.cell?_alloc_new]; rfl, by rw [World.cell?_alloc_new]; rfl⟩
end
section
open Go.RowKit
attribute [local go_sem] ext_cell ext_frozen Mix.calmUpon Mix.mUpon
set_option maxHeartbeats 1000000 in
theorem shareof_any (a t : Nat → Int) (x : Int) : Pure Tryz.prog 84 #[S4 a, S4 t, .int .i64 x] (S3 (domV a t).2.1 (domV a t).2.2 x) := by
  intro w
  have HD := Lib.hid (dominant_any a t)
  generalize domV a t = s at *
  obtain ⟨k, n, d⟩ := s
  simp only at *
  go_enter Tryz.func84, Tryz.ntmps84
  go_wp2_with fail
  (with_reducible refine (HD.out _).mono ?_)
  rintro e w1 ⟨rfl, hb1⟩
  have hs1 : w.heap.size + 3 ≤ w1.heap.size := (by have h := hb1.size; first | omega | (simp at h; omega))
  have hz1_0 : w.heap.size < w1.heap.size := (by omega)
  have hz1_1 : w.heap.size + 1 < w1.heap.size := (by omega)
  have hz1_2 : w.heap.size + 2 < w1.heap.size := (by omega)
  have hx1_2 : w.heap.size + 1 + 1 < w1.heap.size := (by omega)
  obtain ⟨hc1, hf1, hl1⟩ := bcell hb1
  clear hl1
  go_wp2
  refine bodyPost_ret (v := S3 n d x) (by simp [results, Tryz.results84, go_sem, *]) rfl ⟨rfl, ?_⟩
  (repeat (first | assumption | exact Below.refl _ _ | refine ba ?_ _ | refine bd ?_ | refine bdn ?_ _ | refine bs ?_ (by first | omega | (simp; done) | (simp; omega)) _ | refine bt ?_ (by assumption)))
theorem refright7_yes (n d w : Int) (h1 : 0 ≤ n) (h2 : 1 ≤ d) (h3 : n ≤ 9007199254740992) (h4 : d ≤ 9007199254740992) (h5 : 1 ≤ w) (h6 : w ≤ 1000) : Pure Tryz.prog 122 #[F2 n d, .int .i64 w] (.bool true) := by
  intro W
  have HR := Lib.hid (rright_yes n d h1 h2)
  skip
  go_enter Tryz.func122, Tryz.ntmps122
  go_wp2_with fail
  (with_reducible refine (HR.out _).mono ?_)
  rintro e w1 ⟨rfl, hb1⟩
  have hs1 : W.heap.size + 1 ≤ w1.heap.size := (by have h := hb1.size; first | omega | (simp at h; omega))
  have hz1_0 : W.heap.size < w1.heap.size := (by omega)
  obtain ⟨hc1, hf1, hl1⟩ := bcell hb1
  clear hl1
  go_wp2
  go_ret
  refine ⟨rfl, ?_⟩
  (repeat (first | assumption | exact Below.refl _ _ | refine ba ?_ _ | refine bd ?_ | refine bdn ?_ _ | refine bs ?_ (by first | omega | (simp; done) | (simp; omega)) _ | refine bt ?_ (by assumption)))
theorem refright7_no1 (n d w : Int) (h1 : ¬ Rt n d) : Pure Tryz.prog 122 #[F2 n d, .int .i64 w] (.bool false) := by
  intro W
  have HR := Lib.hid (rright_no n d h1)
  clear h1
  go_enter Tryz.func122, Tryz.ntmps122
  go_wp2_with fail
  (with_reducible refine (HR.out _).mono ?_)
  rintro e w1 ⟨rfl, hb1⟩
  have hs1 : W.heap.size + 1 ≤ w1.heap.size := (by have h := hb1.size; first | omega | (simp at h; omega))
  have hz1_0 : W.heap.size < w1.heap.size := (by omega)
  obtain ⟨hc1, hf1, hl1⟩ := bcell hb1
  clear hl1
  go_wp2
  go_ret
  refine ⟨rfl, ?_⟩
  (repeat (first | assumption | exact Below.refl _ _ | refine ba ?_ _ | refine bd ?_ | refine bdn ?_ _ | refine bs ?_ (by first | omega | (simp; done) | (simp; omega)) _ | refine bt ?_ (by assumption)))
theorem refright7_no2 (n d w : Int) (h1 : 0 ≤ n) (h2 : 1 ≤ d) (h3 : 9007199254740992 < n) : Pure Tryz.prog 122 #[F2 n d, .int .i64 w] (.bool false) := by
  intro W
  have HR := Lib.hid (rright_yes n d h1 h2)
  skip
  go_enter Tryz.func122, Tryz.ntmps122
  go_wp2_with fail
  (with_reducible refine (HR.out _).mono ?_)
  rintro e w1 ⟨rfl, hb1⟩
  have hs1 : W.heap.size + 1 ≤ w1.heap.size := (by have h := hb1.size; first | omega | (simp at h; omega))
  have hz1_0 : W.heap.size < w1.heap.size := (by omega)
  obtain ⟨hc1, hf1, hl1⟩ := bcell hb1
  clear hl1
  go_wp2
  go_ret
  refine ⟨rfl, ?_⟩
  (repeat (first | assumption | exact Below.refl _ _ | refine ba ?_ _ | refine bd ?_ | refine bdn ?_ _ | refine bs ?_ (by first | omega | (simp; done) | (simp; omega)) _ | refine bt ?_ (by assumption)))
theorem refright7_no3 (n d w : Int) (h1 : 0 ≤ n) (h2 : 1 ≤ d) (h3 : n ≤ 9007199254740992) (h4 : 9007199254740992 < d) : Pure Tryz.prog 122 #[F2 n d, .int .i64 w] (.bool false) := by
  intro W
  have HR := Lib.hid (rright_yes n d h1 h2)
  skip
  go_enter Tryz.func122, Tryz.ntmps122
  go_wp2_with fail
  (with_reducible refine (HR.out _).mono ?_)
  rintro e w1 ⟨rfl, hb1⟩
  have hs1 : W.heap.size + 1 ≤ w1.heap.size := (by have h := hb1.size; first | omega | (simp at h; omega))
  have hz1_0 : W.heap.size < w1.heap.size := (by omega)
  obtain ⟨hc1, hf1, hl1⟩ := bcell hb1
  clear hl1
  go_wp2
  go_ret
  refine ⟨rfl, ?_⟩
  (repeat (first | assumption | exact Below.refl _ _ | refine ba ?_ _ | refine bd ?_ | refine bdn ?_ _ | refine bs ?_ (by first | omega | (simp; done) | (simp; omega)) _ | refine bt ?_ (by assumption)))
theorem refright7_no4 (n d w : Int) (h1 : 0 ≤ n) (h2 : 1 ≤ d) (h3 : n ≤ 9007199254740992) (h4 : d ≤ 9007199254740992) (h5 : w < 1) : Pure Tryz.prog 122 #[F2 n d, .int .i64 w] (.bool false) := by
  intro W
  have HR := Lib.hid (rright_yes n d h1 h2)
  skip
  go_enter Tryz.func122, Tryz.ntmps122
  go_wp2_with fail
  (with_reducible refine (HR.out _).mono ?_)
  rintro e w1 ⟨rfl, hb1⟩
  have hs1 : W.heap.size + 1 ≤ w1.heap.size := (by have h := hb1.size; first | omega | (simp at h; omega))
  have hz1_0 : W.heap.size < w1.heap.size := (by omega)
  obtain ⟨hc1, hf1, hl1⟩ := bcell hb1
  clear hl1
  go_wp2
  go_ret
  refine ⟨rfl, ?_⟩
  (repeat (first | assumption | exact Below.refl _ _ | refine ba ?_ _ | refine bd ?_ | refine bdn ?_ _ | refine bs ?_ (by first | omega | (simp; done) | (simp; omega)) _ | refine bt ?_ (by assumption)))
theorem refright7_no5 (n d w : Int) (h1 : 0 ≤ n) (h2 : 1 ≤ d) (h3 : n ≤ 9007199254740992) (h4 : d ≤ 9007199254740992) (h5 : 1 ≤ w) (h6 : 1000 < w) : Pure Tryz.prog 122 #[F2 n d, .int .i64 w] (.bool false) := by
  intro W
  have HR := Lib.hid (rright_yes n d h1 h2)
  skip
  go_enter Tryz.func122, Tryz.ntmps122
  go_wp2_with fail
  (with_reducible refine (HR.out _).mono ?_)
  rintro e w1 ⟨rfl, hb1⟩
  have hs1 : W.heap.size + 1 ≤ w1.heap.size := (by have h := hb1.size; first | omega | (simp at h; omega))
  have hz1_0 : W.heap.size < w1.heap.size := (by omega)
  obtain ⟨hc1, hf1, hl1⟩ := bcell hb1
  clear hl1
  go_wp2
  go_ret
  refine ⟨by show Ending.returned (.bool (decide (w ≤ 1000))) = _; rw [decide_eq_false (by omega)], ?_⟩
  (repeat (first | assumption | exact Below.refl _ _ | refine ba ?_ _ | refine bd ?_ | refine bdn ?_ _ | refine bs ?_ (by first | omega | (simp; done) | (simp; omega)) _ | refine bt ?_ (by assumption)))
theorem refright7_any (n d w : Int) : Pure Tryz.prog 122 #[F2 n d, .int .i64 w] (.bool (decide (SRt n d w))) := by
  by_cases h : Rt n d
  · obtain ⟨h1, h2⟩ := h
    by_cases h3 : n ≤ 9007199254740992
    · by_cases h4 : d ≤ 9007199254740992
      · by_cases h5 : 1 ≤ w
        · by_cases h6 : w ≤ 1000
          · rw [decide_eq_true (show SRt n d w from ⟨h3, h4, ⟨h1, h2⟩, h5, h6⟩)]; exact refright7_yes n d w h1 h2 h3 h4 h5 h6
          · rw [decide_eq_false (fun h : SRt n d w => h6 h.2.2.2.2)]; exact refright7_no5 n d w h1 h2 h3 h4 h5 (by omega)
        · rw [decide_eq_false (fun h : SRt n d w => h5 h.2.2.2.1)]; exact refright7_no4 n d w h1 h2 h3 h4 (by omega)
      · rw [decide_eq_false (fun h : SRt n d w => h4 h.2.1)]; exact refright7_no3 n d w h1 h2 h3 (by omega)
    · rw [decide_eq_false (fun h : SRt n d w => h3 h.1)]; exact refright7_no2 n d w h1 h2 (by omega)
  · rw [decide_eq_false (fun h' : SRt n d w => h ⟨h'.2.2.1.1, h'.2.2.1.2⟩)]; exact refright7_no1 n d w h
end
end Go.Proofs.YtgfjmafdfbghnaaGreat
