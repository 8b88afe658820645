/- Contracts of sums.Dominant and mancipleref06.Dominant. Condition: numbers of int64. -/
import Derived.Test.YtlhljioncgddeaaSums1
namespace Go.Proofs.Ytlhljioncgddeaa
open Go.RowKit
attribute [local go_sem] ext_cell ext_frozen Mix.calmUpon Mix.mUpon
/-- Kind, and part, of the first k kinds' greatest part. -/
def dom (a t : Nat → Int) : Nat → Int × Int × Int
  | 0 => (-1, 0, 1)
  | k + 1 => if 0 < t k ∧ ((dom a t k).1 < 0 ∨ 0 < rcA (a k) (t k) (dom a t k).2.1 (dom a t k).2.2) then ((k : Int), a k, t k) else dom a t k
theorem dom_bd (a t : Nat → Int) : ∀ k, -1 ≤ (dom a t k).1 ∧ (dom a t k).1 < k
  | 0 => by simp [dom]
  | k + 1 => by
    have := dom_bd a t k
    unfold dom
    split
    · simp; omega
    · omega
theorem dom_i64 {a t : Nat → Int} (ha : SOk a) (ht : SOk t) : ∀ k, k ≤ 4 → I64 (dom a t k).2.1 ∧ I64 (dom a t k).2.2
  | 0, _ => ⟨⟨by simp [dom], by simp [dom]⟩, ⟨by simp [dom], by simp [dom]⟩⟩
  | k + 1, hk => by
    have h := dom_i64 ha ht k (by omega)
    obtain ⟨a0, a1⟩ := sok_at ha k (by omega)
    obtain ⟨t0, t1⟩ := sok_at ht k (by omega)
    unfold dom
    split
    · exact ⟨⟨by simp; omega, by simp; omega⟩, ⟨by simp; omega, by simp; omega⟩⟩
    · exact h
theorem dom_take {a t : Nat → Int} {k : Nat} (h : 0 < t k) (h2 : (dom a t k).1 < 0 ∨ 0 < rcA (a k) (t k) (dom a t k).2.1 (dom a t k).2.2) : dom a t (k + 1) = ((k : Int), a k, t k) := by rw [dom, if_pos ⟨h, h2⟩]
theorem dom_skip {a t : Nat → Int} {k : Nat} (h : ¬ (0 < t k ∧ ((dom a t k).1 < 0 ∨ 0 < rcA (a k) (t k) (dom a t k).2.1 (dom a t k).2.2))) : dom a t (k + 1) = dom a t k := by rw [dom, if_neg h]
/-- What both return. -/
def domRes (a t : Nat → Int) : Value := if SOk a ∧ SOk t then .tuple #[.int .i64 (dom a t 4).1, F2 (dom a t 4).2.1 (dom a t 4).2.2] else .tuple #[.int .i64 (-1), F2 0 1]

/-- A world in which, of what w0 has, block g alone may have turned. -/
theorem gb_of_below {w w1 : World} {r : Option Nat} (h : Below w.heap.size w w1) : w.grownBy w1 r := ⟨h.os, h.tape, h.output, h.size, fun k hk _ => h.block k hk⟩
theorem gb_trans {a b c : World} {r : Option Nat} (h : a.grownBy b r) (k : b.grownBy c r) : a.grownBy c r :=
  ⟨k.os.trans h.os, k.tape.trans h.tape, k.output.trans h.output, Nat.le_trans h.size k.size, fun i hi hr => (k.block i (Nat.lt_of_lt_of_le hi h.size) hr).trans (h.block i hi hr)⟩
theorem gb_set {a b : World} {g : Nat} (h : a.grownBy b (some g)) (o : Nat) (v : Value) : a.grownBy (b.setCell ⟨g, o, none⟩ v) (some g) :=
  gb_trans h ⟨rfl, rfl, rfl, by simp, fun k hk hr => Below.heap_setCell _ _ _ _ (fun e => hr (by rw [e]))⟩
theorem gb_cell {a b : World} {g i o : Nat} (h : a.grownBy b (some g)) (hi : i < a.heap.size) (hg : i ≠ g) : b.cell? ⟨i, o, none⟩ = a.cell? ⟨i, o, none⟩ := World.cell?_of_block (h.block i hi (fun e => hg (Option.some.inj e)))
theorem gb_frozen {a b : World} {g i o : Nat} (h : a.grownBy b (some g)) (hi : i < a.heap.size) (hg : i ≠ g) : b.frozen? ⟨i, o, none⟩ = a.frozen? ⟨i, o, none⟩ := World.frozen?_of_block (h.block i hi (fun e => hg (Option.some.inj e)))
theorem gb_below {w a b : World} {g : Nat} (h : a.grownBy b (some g)) (hw : Below w.heap.size w a) (hg : w.heap.size ≤ g) : Below w.heap.size w b := hw.grown h hw.size (fun k hk => by cases hk; exact hg)
/-- The loop's state, the four blocks being w's size on: both sums, the result, the greatest part. -/
structure DR (w wr : World) (a t : Nat → Int) (gn gd : Int) : Prop where
  bel : Below w.heap.size w wr
  size : w.heap.size + 4 ≤ wr.heap.size
  ca : ∀ k, k < 4 → wr.cell? ⟨w.heap.size, k, none⟩ = some (.int .i64 (a k))
  ct : ∀ k, k < 4 → wr.cell? ⟨w.heap.size + 1, k, none⟩ = some (.int .i64 (t k))
  r0 : wr.cell? ⟨w.heap.size + 1 + 1, 0, none⟩ = some (.int .i64 0)
  r1 : wr.cell? ⟨w.heap.size + 1 + 1, 1, none⟩ = some (.int .i64 0)
  g0 : wr.cell? ⟨w.heap.size + 1 + 1 + 1, 0, none⟩ = some (.int .i64 gn)
  g1 : wr.cell? ⟨w.heap.size + 1 + 1 + 1, 1, none⟩ = some (.int .i64 gd)
  fr : ∀ k, wr.frozen? ⟨w.heap.size + 1 + 1, k, none⟩ = false
  fg : ∀ k, wr.frozen? ⟨w.heap.size + 1 + 1 + 1, k, none⟩ = false
theorem DR.grow {w wr w1 : World} {a t : Nat → Int} {gn gd : Int} (h : DR w wr a t gn gd) (hb : Below wr.heap.size wr w1) : DR w w1 a t gn gd := by
  have hs := h.size
  have c : ∀ b k, b < w.heap.size + 4 → w1.cell? ⟨b, k, none⟩ = wr.cell? ⟨b, k, none⟩ := fun b k hi => hb.cell (p := ⟨_, _, none⟩) (by show b < _; omega)
  have f : ∀ b k, b < w.heap.size + 4 → w1.frozen? ⟨b, k, none⟩ = wr.frozen? ⟨b, k, none⟩ := fun b k hi => hb.frozen (p := ⟨_, _, none⟩) (by show b < _; omega)
  exact ⟨bt h.bel hb, Nat.le_trans hs hb.size, fun k hk => (c _ k (by omega)).trans (h.ca k hk), fun k hk => (c _ k (by omega)).trans (h.ct k hk), (c _ 0 (by omega)).trans h.r0, (c _ 1 (by omega)).trans h.r1, (c _ 0 (by omega)).trans h.g0, (c _ 1 (by omega)).trans h.g1, fun k => (f _ k (by omega)).trans (h.fr k), fun k => (f _ k (by omega)).trans (h.fg k)⟩
theorem DR.drew {w wr : World} {a t : Nat → Int} {gn gd : Int} (h : DR w wr a t gn gd) : DR w wr.drew a t gn gd := h.grow (bd (Below.refl _ _))
theorem DR.set {w wr : World} {a t : Nat → Int} {gn gd : Int} (h : DR w wr a t gn gd) (x y : Int) : DR w ((wr.setCell ⟨w.heap.size + 1 + 1 + 1, 0, none⟩ (.int .i64 x)).setCell ⟨w.heap.size + 1 + 1 + 1, 1, none⟩ (.int .i64 y)) a t x y := by
  have o : ∀ b k, b ≠ w.heap.size + 1 + 1 + 1 → ((wr.setCell ⟨w.heap.size + 1 + 1 + 1, 0, none⟩ (.int .i64 x)).setCell ⟨w.heap.size + 1 + 1 + 1, 1, none⟩ (.int .i64 y)).cell? ⟨b, k, none⟩ = wr.cell? ⟨b, k, none⟩ := fun b k hi => by
    rw [World.cell?_setCell_other _ _ _ _ (fun e => hi (by cases e; rfl)), World.cell?_setCell_other _ _ _ _ (fun e => hi (by cases e; rfl))]
  refine ⟨(h.bel.setCell (by show w.heap.size ≤ w.heap.size + 1 + 1 + 1; omega) _).setCell (by show w.heap.size ≤ w.heap.size + 1 + 1 + 1; omega) _, by have := h.size; simp; omega, fun k hk => (o _ k (by omega)).trans (h.ca k hk), fun k hk => (o _ k (by omega)).trans (h.ct k hk), (o _ 0 (by omega)).trans h.r0, (o _ 1 (by omega)).trans h.r1, ?_, ?_, fun k => ?_, fun k => ?_⟩
  · rw [World.cell?_setCell_other _ _ _ _ (by simp)]
    exact World.cell?_setCell_same _ _ _ h.g0
  · exact World.cell?_setCell_same _ _ _ ((World.cell?_setCell_other _ _ _ _ (by simp)).trans h.g1)
  · rw [World.frozen?_setCell, World.frozen?_setCell]; exact h.fr k
  · rw [World.frozen?_setCell, World.frozen?_setCell]; exact h.fg k
theorem size_all (w : World) (o : Obj) : (w.alloc o).heap.size = w.heap.size + 1 := by show (w.heap.push o).size = _; rw [Array.size_push]
theorem DR.start {w w2 : World} {a t : Nat → Int} {A F : TypeId} (h : Below ((((w.alloc (.cells (C4 a) A)).alloc (.cells (C4 t) A)).alloc (.cells #[.int .i64 0, .int .i64 0] F)).alloc (.cells #[.int .i64 0, .int .i64 1] F)).heap.size ((((w.alloc (.cells (C4 a) A)).alloc (.cells (C4 t) A)).alloc (.cells #[.int .i64 0, .int .i64 0] F)).alloc (.cells #[.int .i64 0, .int .i64 1] F)) w2) : DR w w2 a t 0 1 := by
  refine DR.grow (wr := (((w.alloc (.cells (C4 a) A)).alloc (.cells (C4 t) A)).alloc (.cells #[.int .i64 0, .int .i64 0] F)).alloc (.cells #[.int .i64 0, .int .i64 1] F)) ?_ h
  have s1 := size_all w (.cells (C4 a) A)
  have s2 := size_all (w.alloc (.cells (C4 a) A)) (.cells (C4 t) A)
  have s3 := size_all ((w.alloc (.cells (C4 a) A)).alloc (.cells (C4 t) A)) (.cells #[.int .i64 0, .int .i64 0] F)
  have s4 := size_all (((w.alloc (.cells (C4 a) A)).alloc (.cells (C4 t) A)).alloc (.cells #[.int .i64 0, .int .i64 0] F)) (.cells #[.int .i64 0, .int .i64 1] F)
  refine ⟨ba (ba (ba (ba (Below.refl _ _) _) _) _) _, by omega, fun k hk => ?_, fun k hk => ?_, ?_, ?_, ?_, ?_, fun k => ?_, fun k => ?_⟩
  · rw [World.cell?_alloc_past _ _ _ (by omega), World.cell?_alloc_past _ _ _ (by omega), World.cell?_alloc_past _ _ _ (by omega)]
    exact c4_cell w a A k hk
  · rw [World.cell?_alloc_past _ _ _ (by omega), World.cell?_alloc_past _ _ _ (by omega)]
    exact (World.cell?_alloc_at _ _ _ _ (by omega)).trans (c4_get t k hk)
  · simp [go_sem]
  · simp [go_sem]
  · simp [go_sem]
  · simp [go_sem]
  · simp [go_sem]
  · simp [go_sem]
end Go.Proofs.Ytlhljioncgddeaa
