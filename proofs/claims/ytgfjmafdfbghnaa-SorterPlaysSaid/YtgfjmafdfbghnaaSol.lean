/- The sorter: nil and plain ones; the law's Same. -/
import Derived.Test.YtgfjmafdfbghnaaSgP
namespace Go.Proofs.Ytgfjmafdfbghnaa
open Go.RowKit Go.Maps
attribute [local go_sem] ext_cell ext_frozen extC_cell extC_frozen Mix.calmUpon Mix.mUpon
/-- A plain sorter. -/
def SPL (w : World) (b : Nat) : Prop := w.heap[b]? = some (.cells #[.int .i64 0, .int .i64 0, .int .i64 0, .int .i64 0, .map none, .pointer none] 62 (0, 0))
theorem SPL.lt {w : World} {b : Nat} (h : SPL w b) : b < w.heap.size := (Array.getElem?_eq_some_iff.1 h).1
theorem SPL.below {w w' : World} {b : Nat} (h : SPL w b) (hb : Below w.heap.size w w') : SPL w' b := (hb.block b h.lt).trans h
theorem SPL.c4 {w : World} {b : Nat} (h : SPL w b) : w.cell? ⟨b, 4, none⟩ = some (.map none) := by unfold SPL at h; simp [World.cell?, h]
/-- A sorter that was not made. -/
def NoS (w : World) (v : Value) : Prop := ∀ w', Below w.heap.size w w' → Calls Try.prog 35 #[v] w' fun e w'' => e = .returned (.bool false) ∧ w'' = w'
theorem nos_nil (w : World) : NoS w (.pointer none) := fun w' _ => by
  go_enter Try.func35, Try.ntmps35
  go_wp2
  go_ret
  exact ⟨rfl, rfl⟩
theorem nos_plain {w : World} {b : Nat} (h : SPL w b) : NoS w (ptr b) := fun w' hb => by
  have h' := h.below hb
  have hl := h'.lt
  have c1 := h'.c4
  have hmn := fun w : World => Go.run_neq_map_nil (P := Try.prog) w 59 _ _ none Try.underlying59
  clear h h' hb
  go_enter Try.func35, Try.ntmps35
  go_wp2
  go_ret
  exact ⟨rfl, rfl⟩
section
variable {w : World} {v : Value}
theorem noput (h : NoS w v) (i x : Int) : Calls Try.prog 22 #[v, .int .i64 i, .int .i64 x] w fun e w' => e = .returned (.int .i64 40) ∧ Below w.heap.size w w' := by
  have H := Lib.hid (h w (Below.refl _ _))
  clear h
  go_enter Try.func22, Try.ntmps22
  go_wp2_with fail
  refine H.out.mono ?_
  rintro e w1 ⟨rfl, hw1⟩
  rw [hw1]
  clear hw1 w1
  go_wp2
  go_ret
  exact ⟨rfl, Below.refl _ _⟩
theorem nototal (h : NoS w v) (n : Nat → Int) : Calls Try.prog 23 #[v, S4 n] w fun e w' => e = .returned (.int .i64 40) ∧ Below w.heap.size w w' := by
  have hb := ba (Below.refl w.heap.size w) (.cells (C4 n) 40)
  have H := Lib.hid (h _ hb)
  have HB := Lib.hid hb
  clear h hb
  go_enter Try.func23, Try.ntmps23
  go_wp2_with fail
  refine H.out.mono ?_
  rintro e w1 ⟨rfl, hw1⟩
  rw [hw1]
  clear hw1 w1
  go_wp2
  go_ret
  exact ⟨rfl, HB.out⟩
theorem noorder (h : NoS w v) : Calls Try.prog 12 #[v] w fun e w' => e = .returned (.slice none 0 0) ∧ Below w.heap.size w w' := by
  have H := Lib.hid (h w (Below.refl _ _))
  clear h
  go_enter Try.func12, Try.ntmps12
  go_wp2_with fail
  refine H.out.mono ?_
  rintro e w1 ⟨rfl, hw1⟩
  rw [hw1]
  clear hw1 w1
  go_wp2
  go_ret
  exact ⟨rfl, Below.refl _ _⟩
theorem nolong (h : NoS w v) : Calls Try.prog 13 #[v] w fun e w' => e = .returned (.int .i64 0) ∧ Below w.heap.size w w' := by
  have H := Lib.hid (h w (Below.refl _ _))
  clear h
  go_enter Try.func13, Try.ntmps13
  go_wp2_with fail
  refine H.out.mono ?_
  rintro e w1 ⟨rfl, hw1⟩
  rw [hw1]
  clear hw1 w1
  go_wp2
  go_ret
  exact ⟨rfl, Below.refl _ _⟩
end
set_option maxRecDepth 100000 in
set_option maxHeartbeats 1000000 in
theorem same9 (va vb : Value) (l : List Int) (W : World) (hA : RS 1 n1 W va l) (hB : RS 1 n1 W vb l) : Calls Try.prog 11 #[va, vb] W fun e w' => e = .returned (.bool true) ∧ Below W.heap.size W w' := by
  obtain ⟨a, n, c, rfl, h1, hc1, hm1, hat⟩ := hA.at_
  obtain ⟨a', n', c', rfl, h2, hc2, hm2, hbt⟩ := hB.at_
  obtain rfl : n = n' := by omega
  have HA := Lib.hid hat; have HB := Lib.hid hbt
  have HN := Lib.hid h1
  have hnm : n ≤ 9223372036854775807 := by have h := hm1; unfold maxLen at h; omega
  clear hat hbt hA hB h1 h2 hm1 hm2
  go_enter Try.func11, Try.ntmps11
  go_wp2
  go_loopw [5] (fun i wr => ∃ t : Nat, t ≤ n ∧ i = .int .i64 t ∧ Hid (Below W.heap.size W wr)) (fun i _ => n - (intOf i).toNat)
  case atStart => exact ⟨0, Nat.zero_le _, rfl, Lib.hid (Below.refl _ _)⟩
  case round =>
    obtain ⟨t, ht, rfl, HQ⟩ := hrel
    obtain ⟨w1, rfl⟩ : ∃ w1, w1 = wr := ⟨_, rfl⟩
    by_cases hlt : t < n
    · have hts : (t : Int) < (n : Int) := by omega
      obtain ⟨x, hx⟩ := at_lt (l := l) (i := t) (by rw [← HN.out]; exact hlt)
      obtain ⟨b, off, rfl, hb, hcell⟩ := HA.out t x hx
      obtain ⟨b', off', rfl, hb', hcell'⟩ := HB.out t x hx
      have c0 := (HQ.out.cell (p := ⟨b, off + t * 1 + 0, none⟩) hb).trans (hcell 0 _ rfl)
      have d0 := (HQ.out.cell (p := ⟨b', off' + t * 1 + 0, none⟩) hb').trans (hcell' 0 _ rfl)
      simp only [Nat.add_zero, Nat.mul_one] at c0 d0
      have hbl : b < w1.heap.size := Nat.lt_of_lt_of_le hb HQ.out.size
      have hbl' : b' < w1.heap.size := Nat.lt_of_lt_of_le hb' HQ.out.size
      have hxx : (x != x) = false := by simp
      clear hcell hcell' hx
      go_upto_region 6 with (fail)
      refine wp_region_pure (by kernel_rfl) (by kernel_rfl) ?_
      repeat (first | go_big_quiet_step (fail) | (quiet_step (fail)))
      refine wpQuiet_nil ?_
      rintro w2 ⟨x2, hx2⟩
      have hb2 := ext_below _ x2
      rw [← hx2] at hb2
      have HQ2 := Lib.hid (bt HQ.out hb2)
      clear hx2 x2 hb2 c0 d0 hbl hbl'
      go_wp2
      go_roundw
      case rel => exact ⟨t + 1, by omega, by go_num, HQ2⟩
      case measure => simp [intOf]; omega
    · obtain rfl : n = t := by omega
      go_wp2
      go_ret
      exact ⟨rfl, HQ.out⟩
end Go.Proofs.Ytgfjmafdfbghnaa
