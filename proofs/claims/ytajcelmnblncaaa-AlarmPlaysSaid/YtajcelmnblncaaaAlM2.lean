/- The document's alarms by a list: Ahead. -/
import Derived.Test.YtajcelmnblncaaaAlM1
namespace Go.Proofs.Ytajcelmnblncaaa
open Go.RowKit Go.Maps
attribute [local go_sem] ext_cell ext_frozen extC_cell extC_frozen Mix.calmUpon Mix.mUpon eqRy
/-- A block that holds an item. -/
def IB (w : World) (b : Nat) (x : Rc) : Prop := w.heap[b]? = some (.cells #[.int .i64 x.key.1, .int .i64 x.key.2.1, .int .i64 x.key.2.2, .int .i64 x.at_] 90 (0, 0))
theorem IB.made (w : World) (x : Rc) : IB (w.alloc (.cells #[.int .i64 x.key.1, .int .i64 x.key.2.1, .int .i64 x.key.2.2, .int .i64 x.at_] 90)) w.heap.size x := heap_alloc_new w _
theorem IB.lt {w : World} {b : Nat} {x : Rc} (h : IB w b x) : b < w.heap.size := (Array.getElem?_eq_some_iff.1 h).1
theorem IB.chg {F : Nat → Prop} {w w' : World} {b : Nat} {x : Rc} (h : IB w b x) (hb : Chg F w w') (hf : ¬ F b) : IB w' b x := (hb.block _ h.lt hf).trans h
theorem IB.below {w w' : World} {b : Nat} {x : Rc} (h : IB w b x) (hb : Below w.heap.size w w') : IB w' b x := h.chg (.of_below (fun _ => False) hb) id
theorem IB.cells {w : World} {b : Nat} {x : Rc} (h : IB w b x) : w.cell? ⟨b, 0, none⟩ = some (.int .i64 x.key.1) ∧ w.cell? ⟨b, 1, none⟩ = some (.int .i64 x.key.2.1) ∧ w.cell? ⟨b, 2, none⟩ = some (.int .i64 x.key.2.2) ∧ w.cell? ⟨b, 3, none⟩ = some (.int .i64 x.at_) := by unfold IB at h; simp [World.cell?, h]
set_option maxRecDepth 100000 in
set_option maxHeartbeats 4000000 in
theorem mahead (x y : Rc) : Pure Try.prog 114 #[rval x, rval y] (.bool (ltR x y)) := by
  intro W
  have HB0 := Lib.hid (show Below W.heap.size W ((W.alloc (.cells #[.int .i64 x.key.1, .int .i64 x.key.2.1, .int .i64 x.key.2.2, .int .i64 x.at_] 90)).alloc (.cells #[.int .i64 y.key.1, .int .i64 y.key.2.1, .int .i64 y.key.2.2, .int .i64 y.at_] 90)) from ba (ba (Below.refl _ _) _) _)
  have HX := Lib.hid ((IB.made W x).below (ba (Below.refl _ _) (.cells #[.int .i64 y.key.1, .int .i64 y.key.2.1, .int .i64 y.key.2.2, .int .i64 y.at_] 90)))
  have hy := IB.made (W.alloc (.cells #[.int .i64 x.key.1, .int .i64 x.key.2.1, .int .i64 x.key.2.2, .int .i64 x.at_] 90)) y
  rw [show (W.alloc (.cells #[.int .i64 x.key.1, .int .i64 x.key.2.1, .int .i64 x.key.2.2, .int .i64 x.at_] 90)).heap.size = W.heap.size + 1 by simp] at hy
  have HY := Lib.hid hy
  clear hy
  go_enter Try.func114, Try.ntmps114
  go_wp2
  generalize (W.alloc (.cells #[.int .i64 x.key.1, .int .i64 x.key.2.1, .int .i64 x.key.2.2, .int .i64 x.at_] 90)).alloc (.cells #[.int .i64 y.key.1, .int .i64 y.key.2.1, .int .i64 y.key.2.2, .int .i64 y.at_] 90) = w1 at *
  obtain ⟨bx, hbx⟩ : ∃ bx, bx = W.heap.size := ⟨_, rfl⟩
  rw [← hbx] at HX HY ⊢
  obtain ⟨by_, hby⟩ : ∃ by_, by_ = bx + 1 := ⟨_, rfl⟩
  rw [← hby] at HY ⊢
  have HBX := Lib.hid (show bx < by_ by omega)
  clear hby hbx
  obtain ⟨x0, x1, x2, x3⟩ := HX.out.cells
  obtain ⟨y0, y1, y2, y3⟩ := HY.out.cells
  have sx := HX.out.lt; have sy := HY.out.lt
  go_region
  · clear x0 x1 x2 x3 y0 y1 y2 y3 sx sy
    have hbb : Below w1.heap.size w1 ((w1.alloc (.cells #[.int .i64 x.key.1, .int .i64 x.key.2.1, .int .i64 x.key.2.2] 84)).alloc (.cells #[.int .i64 y.key.1, .int .i64 y.key.2.1, .int .i64 y.key.2.2] 84)).drew := bd (ba (ba (Below.refl _ _) _) _)
    have hp := ((RB.made w1 x.key).below (ba (Below.refl _ _) (.cells #[.int .i64 y.key.1, .int .i64 y.key.2.1, .int .i64 y.key.2.2] 84))).below (bd (Below.refl _ _))
    have hq := (RB.made (w1.alloc (.cells #[.int .i64 x.key.1, .int .i64 x.key.2.1, .int .i64 x.key.2.2] 84)) y.key).below (bd (Below.refl _ _))
    rw [show (w1.alloc (.cells #[.int .i64 x.key.1, .int .i64 x.key.2.1, .int .i64 x.key.2.2] 84)).heap.size = w1.heap.size + 1 by simp] at hq
    have HX2 := Lib.hid (HX.out.below hbb)
    have HY2 := Lib.hid (HY.out.below hbb)
    have HB2 := Lib.hid (bt HB0.out hbb)
    have HP2 := Lib.hid hp
    have HQ2 := Lib.hid hq
    clear hbb hp hq
    generalize ((w1.alloc (.cells #[.int .i64 x.key.1, .int .i64 x.key.2.1, .int .i64 x.key.2.2] 84)).alloc (.cells #[.int .i64 y.key.1, .int .i64 y.key.2.1, .int .i64 y.key.2.2] 84)).drew = w2 at *
    generalize w1.heap.size = s at *
    obtain ⟨x0, x1, x2, x3⟩ := HX2.out.cells
    obtain ⟨y0, y1, y2, y3⟩ := HY2.out.cells
    obtain ⟨p0, p1, p2⟩ := HP2.out.cells
    obtain ⟨q0, q1, q2⟩ := HQ2.out.cells
    have sx := HX2.out.lt; have sy := HY2.out.lt; have sp := HP2.out.lt; have sq := HQ2.out.lt
    by_cases h1 : x.at_ = y.at_
    · have g1 : (x.at_ != y.at_) = false := by simpa using h1
      by_cases h2 : x.key.1 = y.key.1
      · have g2 : (x.key.1 != y.key.1) = false := by simpa using h2
        by_cases h3 : x.key.2.1 < y.key.2.1
        · have g3 : decide (x.key.2.1 < y.key.2.1) = true := decide_eq_true h3
          have HL := Lib.hid (show ltR x y = true by rw [ltR_iff]; omega)
          clear h1 h2 h3
          go_wp2
          go_ret
          exact ⟨by rw [HL.out]; rfl, HB2.out⟩
        · have g3 : decide (x.key.2.1 < y.key.2.1) = false := decide_eq_false h3
          by_cases h4 : x.key.2.1 = y.key.2.1
          · have g4 : (x.key.2.1 == y.key.2.1) = true := by simpa using h4
            have HL := Lib.hid (show ltR x y = decide (x.key.2.2 < y.key.2.2) by rw [Bool.eq_iff_iff, ltR_iff, decide_eq_true_eq]; omega)
            clear h1 h2 h3 h4
            go_wp2
            go_ret
            exact ⟨by rw [HL.out]; rfl, HB2.out⟩
          · have g4 : (x.key.2.1 == y.key.2.1) = false := by simpa using h4
            have HL := Lib.hid (show ltR x y = false by rw [← Bool.not_eq_true, ltR_iff]; omega)
            clear h1 h2 h3 h4
            go_wp2
            go_ret
            exact ⟨by rw [HL.out]; rfl, HB2.out⟩
      · have g2 : (x.key.1 != y.key.1) = true := by simpa using h2
        have HL := Lib.hid (show ltR x y = decide (x.key.1 < y.key.1) by rw [Bool.eq_iff_iff, ltR_iff, decide_eq_true_eq]; omega)
        clear h1 h2
        go_wp2
        go_ret
        exact ⟨by rw [HL.out]; rfl, HB2.out⟩
    · have g1 : (x.at_ != y.at_) = true := by simpa using h1
      have HL := Lib.hid (show ltR x y = decide (x.at_ < y.at_) by rw [Bool.eq_iff_iff, ltR_iff, decide_eq_true_eq]; omega)
      clear h1
      go_wp2
      go_ret
      exact ⟨by rw [HL.out]; rfl, HB2.out⟩
  · clear x0 x1 x2 x3 y0 y1 y2 y3 sx sy
    have hbb : Below w1.heap.size w1 ((w1.alloc (.cells #[.int .i64 y.key.1, .int .i64 y.key.2.1, .int .i64 y.key.2.2] 84)).alloc (.cells #[.int .i64 x.key.1, .int .i64 x.key.2.1, .int .i64 x.key.2.2] 84)).drew := bd (ba (ba (Below.refl _ _) _) _)
    have hp := ((RB.made w1 y.key).below (ba (Below.refl _ _) (.cells #[.int .i64 x.key.1, .int .i64 x.key.2.1, .int .i64 x.key.2.2] 84))).below (bd (Below.refl _ _))
    have hq := (RB.made (w1.alloc (.cells #[.int .i64 y.key.1, .int .i64 y.key.2.1, .int .i64 y.key.2.2] 84)) x.key).below (bd (Below.refl _ _))
    rw [show (w1.alloc (.cells #[.int .i64 y.key.1, .int .i64 y.key.2.1, .int .i64 y.key.2.2] 84)).heap.size = w1.heap.size + 1 by simp] at hq
    have HX2 := Lib.hid (HX.out.below hbb)
    have HY2 := Lib.hid (HY.out.below hbb)
    have HB2 := Lib.hid (bt HB0.out hbb)
    have HQ2 := Lib.hid hp
    have HP2 := Lib.hid hq
    clear hbb hp hq
    generalize ((w1.alloc (.cells #[.int .i64 y.key.1, .int .i64 y.key.2.1, .int .i64 y.key.2.2] 84)).alloc (.cells #[.int .i64 x.key.1, .int .i64 x.key.2.1, .int .i64 x.key.2.2] 84)).drew = w2 at *
    generalize w1.heap.size = s at *
    obtain ⟨x0, x1, x2, x3⟩ := HX2.out.cells
    obtain ⟨y0, y1, y2, y3⟩ := HY2.out.cells
    obtain ⟨p0, p1, p2⟩ := HP2.out.cells
    obtain ⟨q0, q1, q2⟩ := HQ2.out.cells
    have sx := HX2.out.lt; have sy := HY2.out.lt; have sp := HP2.out.lt; have sq := HQ2.out.lt
    by_cases h1 : x.at_ = y.at_
    · have g1 : (x.at_ != y.at_) = false := by simpa using h1
      by_cases h2 : x.key.1 = y.key.1
      · have g2 : (x.key.1 != y.key.1) = false := by simpa using h2
        by_cases h3 : x.key.2.1 < y.key.2.1
        · have g3 : decide (x.key.2.1 < y.key.2.1) = true := decide_eq_true h3
          have HL := Lib.hid (show ltR x y = true by rw [ltR_iff]; omega)
          clear h1 h2 h3
          go_wp2
          go_ret
          exact ⟨by rw [HL.out]; rfl, HB2.out⟩
        · have g3 : decide (x.key.2.1 < y.key.2.1) = false := decide_eq_false h3
          by_cases h4 : x.key.2.1 = y.key.2.1
          · have g4 : (x.key.2.1 == y.key.2.1) = true := by simpa using h4
            have HL := Lib.hid (show ltR x y = decide (x.key.2.2 < y.key.2.2) by rw [Bool.eq_iff_iff, ltR_iff, decide_eq_true_eq]; omega)
            clear h1 h2 h3 h4
            go_wp2
            go_ret
            exact ⟨by rw [HL.out]; rfl, HB2.out⟩
          · have g4 : (x.key.2.1 == y.key.2.1) = false := by simpa using h4
            have HL := Lib.hid (show ltR x y = false by rw [← Bool.not_eq_true, ltR_iff]; omega)
            clear h1 h2 h3 h4
            go_wp2
            go_ret
            exact ⟨by rw [HL.out]; rfl, HB2.out⟩
      · have g2 : (x.key.1 != y.key.1) = true := by simpa using h2
        have HL := Lib.hid (show ltR x y = decide (x.key.1 < y.key.1) by rw [Bool.eq_iff_iff, ltR_iff, decide_eq_true_eq]; omega)
        clear h1 h2
        go_wp2
        go_ret
        exact ⟨by rw [HL.out]; rfl, HB2.out⟩
    · have g1 : (x.at_ != y.at_) = true := by simpa using h1
      have HL := Lib.hid (show ltR x y = decide (x.at_ < y.at_) by rw [Bool.eq_iff_iff, ltR_iff, decide_eq_true_eq]; omega)
      clear h1
      go_wp2
      go_ret
      exact ⟨by rw [HL.out]; rfl, HB2.out⟩
end Go.Proofs.Ytajcelmnblncaaa
