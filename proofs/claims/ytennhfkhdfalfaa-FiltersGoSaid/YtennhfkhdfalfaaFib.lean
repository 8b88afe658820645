/- filters: what is unwanted: the function values of Forget, Lose, Expire. -/
import Derived.Test.YtennhfkhdfalfaaFia
namespace Go.Proofs.Ytennhfkhdfalfaa
open Go.RowKit Go.Maps
attribute [local go_sem] ext_cell ext_frozen extC_cell extC_frozen Mix.calmUpon Mix.mUpon
/-- Block b is a variable that holds a number. -/
def IB (w : World) (b : Nat) (n : Int) : Prop := w.heap[b]? = some (.cells #[.int .i64 n] 2 (0, 0))
section
variable {w w' : World} {b : Nat} {n : Int}
theorem IB.made (w : World) (n : Int) : IB (w.alloc (.cells #[.int .i64 n] 2)) w.heap.size n := heap_alloc_new w _
theorem IB.lt (h : IB w b n) : b < w.heap.size := (Array.getElem?_eq_some_iff.1 h).1
theorem IB.chg {F : Nat → Prop} (h : IB w b n) (hc : Chg F w w') (hf : ¬ F b) : IB w' b n := (hc.block b h.lt hf).trans h
theorem IB.below (h : IB w b n) (hb : Below w.heap.size w w') : IB w' b n := (hb.block b h.lt).trans h
theorem IB.cell (h : IB w b n) : w.cell? ⟨b, 0, none⟩ = some (.int .i64 n) := by unfold IB at h; simp [World.cell?, h]
end
section
variable {W : World} {b : Nat} {n : Int}
set_option maxRecDepth 100000 in
theorem fforget1 (h : IB W b n) (x : Fl) (hx : ∃ a m c, x.vv = .slice a m c) : Calls Try.prog 95 #[flval x, fptr b] W fun e w' => e = .returned (.bool (x.fr == n)) ∧ Below W.heap.size W w' := by
  obtain ⟨i, g, t, v, ps⟩ := x
  obtain ⟨xa, xn, xc, hxv⟩ := hx
  simp only at hxv
  subst hxv
  have HB := Lib.hid (ba (Below.refl W.heap.size W) (.cells #[.int .i64 i, .int .i64 g, .int .i64 t, .slice xa xn xc] 72))
  have c0 := (h.below HB.out).cell
  have cl := (h.below HB.out).lt
  obtain ⟨f0, f1, f2, f3⟩ := (FB.made W i g t (.slice xa xn xc)).cells
  have f4 := (FB.made W i g t (.slice xa xn xc)).lt
  clear h
  go_enter Try.func95, Try.ntmps95
  go_wp2
  go_ret
  exact ⟨rfl, HB.out⟩
set_option maxRecDepth 100000 in
theorem flose1 (h : IB W b n) (x : Fl) (hx : ∃ a m c, x.vv = .slice a m c) : Calls Try.prog 115 #[flval x, fptr b] W fun e w' => e = .returned (.bool (x.ag == n)) ∧ Below W.heap.size W w' := by
  obtain ⟨i, g, t, v, ps⟩ := x
  obtain ⟨xa, xn, xc, hxv⟩ := hx
  simp only at hxv
  subst hxv
  have HB := Lib.hid (ba (Below.refl W.heap.size W) (.cells #[.int .i64 i, .int .i64 g, .int .i64 t, .slice xa xn xc] 72))
  have c0 := (h.below HB.out).cell
  have cl := (h.below HB.out).lt
  obtain ⟨f0, f1, f2, f3⟩ := (FB.made W i g t (.slice xa xn xc)).cells
  have f4 := (FB.made W i g t (.slice xa xn xc)).lt
  clear h
  go_enter Try.func115, Try.ntmps115
  go_wp2
  go_ret
  exact ⟨rfl, HB.out⟩
set_option maxRecDepth 100000 in
theorem fexpire1 (h : IB W b n) (x : Fl) (hx : ∃ a m c, x.vv = .slice a m c) : Calls Try.prog 114 #[flval x, fptr b] W fun e w' => e = .returned (.bool (decide (x.ti ≤ n))) ∧ Below W.heap.size W w' := by
  obtain ⟨i, g, t, v, ps⟩ := x
  obtain ⟨xa, xn, xc, hxv⟩ := hx
  simp only at hxv
  subst hxv
  have HB := Lib.hid (ba (Below.refl W.heap.size W) (.cells #[.int .i64 i, .int .i64 g, .int .i64 t, .slice xa xn xc] 72))
  have c0 := (h.below HB.out).cell
  have cl := (h.below HB.out).lt
  obtain ⟨f0, f1, f2, f3⟩ := (FB.made W i g t (.slice xa xn xc)).cells
  have f4 := (FB.made W i g t (.slice xa xn xc)).lt
  clear h
  go_enter Try.func114, Try.ntmps114
  go_wp2
  go_ret
  exact ⟨rfl, HB.out⟩
end
end Go.Proofs.Ytennhfkhdfalfaa
