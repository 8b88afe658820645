/- Contract of (wide.Wide).Text. Condition: the number is in range. -/
import Derived.Test.YtojfkpmdnhkanaaWide2
import Derived.Laws.BytesArg
namespace Go.Proofs.Ytojfkpmdnhkanaa
open Go.RowKit
attribute [local go_sem] ext_cell ext_frozen

/-- The decimal digits of a number, as letters. -/
def decL : Nat → Int → List Int
  | 0, _ => []
  | f + 1, v => if v / 10 = 0 then [48 + v % 10] else decL f (v / 10) ++ [48 + v % 10]
theorem decL_stop (f : Nat) (v : Int) (h : v / 10 = 0) : decL (f + 1) v = [48 + v % 10] := by rw [decL, if_pos h]
theorem decL_go (f : Nat) (v : Int) (h : v / 10 ≠ 0) : decL (f + 1) v = decL f (v / 10) ++ [48 + v % 10] := by rw [decL, if_neg h]
def decS (v : Int) : ByteArray := strOfNums (decL 40 v)

/-- The loop's state: what is left to write, and what is written. -/
structure TR (w wr : World) (V : Int) (m : Nat) (cur : Int) (S : List Int) : Prop where
  m39 : m ≤ 39
  len : S.length + m = 39
  wd : Wd cur
  pow : cur < 10 ^ m
  some : m = 39 ∨ cur ≠ 0
  text : decL 40 V = decL (m + 1) cur ++ S
  size : w.heap.size + 2 ≤ wr.heap.size
  bel : Below w.heap.size w wr
  c0 : wr.cell? ⟨w.heap.size, 0, none⟩ = Option.some (.int .u64 (cur / 18446744073709551616))
  c1 : wr.cell? ⟨w.heap.size, 1, none⟩ = Option.some (.int .u64 (cur % 18446744073709551616))
  cells : ∀ i, i < 39 → ∃ x : Int, wr.cell? ⟨w.heap.size + 1, i, none⟩ = Option.some (.int .u8 x)
  done : ∀ i, i < S.length → wr.cell? ⟨w.heap.size + 1, m + i, none⟩ = Option.some (.int .u8 (S.getD i 0))
  f0 : ∀ i, wr.frozen? ⟨w.heap.size, i, none⟩ = false
  f1 : ∀ i, wr.frozen? ⟨w.heap.size + 1, i, none⟩ = false

theorem TR.pos {w wr : World} {V : Int} {m : Nat} {cur : Int} {S : List Int} (h : TR w wr V m cur S) : ∃ j, m = j + 1 := by
  cases m with
  | zero =>
    have h1 := h.pow; have h2 := h.wd.lo; have h3 := h.some
    simp at h1
    omega
  | succ j => exact ⟨j, rfl⟩

theorem TR.grow {w wr w1 : World} {V : Int} {m : Nat} {cur : Int} {S : List Int} (h : TR w wr V m cur S) (hb : Below wr.heap.size wr w1) : TR w w1 V m cur S := by
  have hs := h.size
  obtain ⟨a1, a2, a3, a4, a5, a6, a7, a8, a9, a10, a11, a12, a13, a14⟩ := h
  refine ⟨a1, a2, a3, a4, a5, a6, Nat.le_trans a7 hb.size, a8.trans (hb.mono (by omega)), ?_, ?_, ?_, ?_, ?_, ?_⟩
  · rw [hb.cell (p := ⟨_, _, none⟩) (by show w.heap.size < _; omega)]; exact a9
  · rw [hb.cell (p := ⟨_, _, none⟩) (by show w.heap.size < _; omega)]; exact a10
  · intro i hi; rw [hb.cell (p := ⟨_, _, none⟩) (by show w.heap.size + 1 < _; omega)]; exact a11 i hi
  · intro i hi; rw [hb.cell (p := ⟨_, _, none⟩) (by show w.heap.size + 1 < _; omega)]; exact a12 i hi
  · intro i; rw [hb.frozen (p := ⟨_, _, none⟩) (by show w.heap.size < _; omega)]; exact a13 i
  · intro i; rw [hb.frozen (p := ⟨_, _, none⟩) (by show w.heap.size + 1 < _; omega)]; exact a14 i

/-- The world behind a round. -/
def after (w w1 : World) (j : Nat) (d q : Int) (o : Obj) : World :=
  (((w1.setCell ⟨w.heap.size + 1, j, none⟩ (.int .u8 d)).setCell ⟨w.heap.size, 0, none⟩ (.int .u64 (q / 18446744073709551616))).setCell ⟨w.heap.size, 1, none⟩ (.int .u64 (q % 18446744073709551616))).alloc o

theorem after_cell {w w1 : World} {V : Int} {j : Nat} {cur : Int} {S : List Int} (h : TR w w1 V (j + 1) cur S) (d q : Int) (o : Obj) :
    (∀ i, i < 39 → (after w w1 j d q o).cell? ⟨w.heap.size + 1, i, none⟩ = if i = j then Option.some (.int .u8 d) else w1.cell? ⟨w.heap.size + 1, i, none⟩) ∧
    (after w w1 j d q o).cell? ⟨w.heap.size, 0, none⟩ = Option.some (.int .u64 (q / 18446744073709551616)) ∧
    (after w w1 j d q o).cell? ⟨w.heap.size, 1, none⟩ = Option.some (.int .u64 (q % 18446744073709551616)) := by
  have hs := h.size; have hm := h.m39
  have c0 := h.c0; have c1 := h.c1
  obtain ⟨x, cj⟩ := h.cells j (by omega)
  unfold after
  refine ⟨fun i hi => ?_, ?_, ?_⟩
  · rw [World.cell?_alloc_past _ _ _ (by simp; omega), World.cell?_setCell_other _ _ _ _ (by simp), World.cell?_setCell_other _ _ _ _ (by simp)]
    by_cases hij : i = j
    · subst hij; rw [if_pos rfl]; exact World.cell?_setCell_same _ _ _ cj
    · rw [if_neg hij]; exact World.cell?_setCell_other _ _ _ _ (by simp; try omega)
  · rw [World.cell?_alloc_past _ _ _ (by simp; omega), World.cell?_setCell_other _ _ _ _ (by simp)]
    exact World.cell?_setCell_same _ _ _ (u := .int .u64 (cur / 18446744073709551616)) (by rw [World.cell?_setCell_other _ _ _ _ (by simp)]; exact c0)
  · rw [World.cell?_alloc_past _ _ _ (by simp; omega)]
    exact World.cell?_setCell_same _ _ _ (u := .int .u64 (cur % 18446744073709551616)) (by rw [World.cell?_setCell_other _ _ _ _ (by simp), World.cell?_setCell_other _ _ _ _ (by simp)]; exact c1)

theorem TR.text_list {w w1 : World} {V : Int} {j : Nat} {cur : Int} {S : List Int} (h : TR w w1 V (j + 1) cur S) (o : Obj) (q : Int) (hq : cur / 10 = 0) :
    (decL 40 V).length = 39 - j ∧ ∀ i, i < 39 - j → (after w w1 j (48 + cur % 10) q o).cell? ⟨w.heap.size + 1, j + i, none⟩ = Option.some (.int .u8 ((decL 40 V).getD i 0)) := by
  have hl := h.len
  have ht := h.text
  rw [decL_stop _ _ hq] at ht
  have hc := (after_cell h (48 + cur % 10) q o).1
  refine ⟨by rw [ht]; simp; omega, fun i hi => ?_⟩
  rw [hc (j + i) (by omega), ht]
  by_cases h0 : i = 0
  · subst h0; simp
  · rw [if_neg (by omega)]
    obtain ⟨k, rfl⟩ : ∃ k, i = k + 1 := ⟨i - 1, by omega⟩
    have := h.done k (by omega)
    rw [show j + 1 + k = j + (k + 1) by omega] at this
    rw [this]; simp

theorem TR.step {w w1 : World} {V : Int} {j : Nat} {cur : Int} {S : List Int} (h : TR w w1 V (j + 1) cur S) (o : Obj) (hq : cur / 10 ≠ 0) :
    TR w (after w w1 j (48 + cur % 10) (cur / 10) o) V j (cur / 10) ((48 + cur % 10) :: S) := by
  have hs := h.size; have hm := h.m39; have hl := h.len
  have w0 := h.wd.lo; have w1' := h.wd.hi
  obtain ⟨k1, k2, k3⟩ := after_cell h (48 + cur % 10) (cur / 10) o
  refine ⟨by omega, by simp; omega, ⟨by omega, by omega⟩, ?_, .inr hq, ?_, ?_, ?_, k2, k3, ?_, ?_, ?_, ?_⟩
  · have hp := h.pow
    rw [Int.pow_succ] at hp
    omega
  · rw [h.text, decL_go _ _ hq, List.append_assoc]; rfl
  · unfold after; show w.heap.size + 2 ≤ (World.alloc _ _).heap.size; simp; omega
  · unfold after
    exact ((((h.bel.setCell (by simp) _).setCell (by simp) _).setCell (by simp) _).alloc (by simp; omega) _)
  · intro i hi
    rw [k1 i hi]
    split
    · exact ⟨_, rfl⟩
    · exact h.cells i hi
  · intro i hi
    simp at hi
    rw [k1 (j + i) (by omega)]
    by_cases h0 : i = 0
    · subst h0; simp
    · rw [if_neg (by omega)]
      obtain ⟨k, rfl⟩ : ∃ k, i = k + 1 := ⟨i - 1, by omega⟩
      have := h.done k (by omega)
      rw [show j + 1 + k = j + (k + 1) by omega] at this
      rw [this]; simp
  · intro i; unfold after
    rw [World.frozen?_alloc_past _ _ _ (by simp; omega), World.frozen?_setCell, World.frozen?_setCell, World.frozen?_setCell]; exact h.f0 i
  · intro i; unfold after
    rw [World.frozen?_alloc_past _ _ _ (by simp; omega), World.frozen?_setCell, World.frozen?_setCell, World.frozen?_setCell]; exact h.f1 i

set_option maxRecDepth 100000 in
set_option maxHeartbeats 1000000 in
theorem text_V (V : Int) (hV : Wd V) : Pure Try.prog 32 #[WV V] (.string (decS V)) := by
  intro w
  show Calls Try.prog 32 #[W2 (V / 18446744073709551616) (V % 18446744073709551616)] w fun e w' => e = .returned (.string (decS V)) ∧ Below w.heap.size w w'
  go_enter Try.func32, Try.ntmps32
  go_wp2_with fail
  go_loopw [4] (fun m wr => ∃ (k : Nat) (cur : Int) (S : List Int), m = .int .i64 k ∧ TR w wr V k cur S) (fun m _ => (intOf m).toNat)
  case atStart =>
    have h1 := hV.lo; have h2 := hV.hi
    refine ⟨39, V, [], rfl, ⟨Nat.le_refl _, rfl, hV, ?_, .inl rfl, (List.append_nil _).symm, by simp, ?_, by simp [go_sem], by simp [go_sem], ?_, ?_, ?_, ?_⟩⟩
    · rw [B128_eq] at h2; omega
    · exact ((Below.refl _ _).alloc (Nat.le_refl _) _).alloc (by simp) _
    · intro i hi
      refine ⟨0, ?_⟩
      have hn : ∀ (W : World) (c : Array Value) (t : TypeId) (n : Nat), n = W.heap.size → (W.alloc (.cells c t)).cell? ⟨n, i, none⟩ = c[i]? := fun W c t n e => by subst e; exact World.cell?_alloc_new ..
      rw [hn _ _ _ _ (by simp)]
      show (Array.replicate 39 (Value.int .u8 0))[i]? = _
      simp [hi]
    · intro i hi; simp at hi
    · intro i; simp [go_sem]
    · intro i; simp [go_sem]
  case round =>
    obtain ⟨m, cur, S, rfl, hT⟩ := hrel
    obtain ⟨j, rfl⟩ := hT.pos
    have hj := hT.m39
    have c0 := hT.c0
    have c1 := hT.c1
    have hD := div_V cur 10 hT.wd ⟨by decide, by decide⟩ (by decide)
    have HD := Lib.hid hD
    have HT := Lib.hid hT
    clear hD hT
    go_wp2_with fail
    refine (HD.out _).mono ?_
    rintro e w1 ⟨rfl, hb1⟩
    have hT1 := HT.out.grow hb1
    have d0 := hT1.c0
    have d1 := hT1.c1
    obtain ⟨x, dj⟩ := hT1.cells j (by omega)
    have g0 := hT1.f0 0
    have g1 := hT1.f0 1
    have gj := hT1.f1 j
    have hs := hT1.size
    have hz0 : w.heap.size < w1.heap.size := by omega
    have hz1 : w.heap.size + 1 < w1.heap.size := by omega
    have r0 := Int.emod_nonneg cur (show (10 : Int) ≠ 0 by decide)
    have r1 := Int.emod_lt_of_pos cur (show (0 : Int) < 10 by decide)
    have HT1 := Lib.hid hT1
    clear hT1 hs hb1 HT
    have hj' : (j : Int) < 39 := by omega
    have hj2 : (j : Int) ≤ 39 := by omega
    have hj3 : ¬ (39 = j) := by omega
    have hal : Try.prog.arrayLen 69 = 39 := by kernel_rfl
    by_cases hq : cur / 10 = 0
    · have q1 : (cur / 10 / 18446744073709551616 == 0) = true := by rw [hq]; decide
      have q2 : (cur / 10 % 18446744073709551616 == 0) = true := by rw [hq]; decide
      have HQ := Lib.hid hq
      clear hq
      unfold WV
      go_wp2_with fail
      obtain ⟨hlen, hcells⟩ := HT1.out.text_list (.cells #[.int .u64 (cur / 10 / 18446744073709551616), .int .u64 (cur / 10 % 18446744073709551616)] 24) (cur / 10) HQ.out
      unfold after at hcells
      rw [run_convert_bytes_arg _ 70 5 Try.underlying70 Try.underlying5 (w.heap.size + 1) j (39 - j) (39 - j) (decL 40 V) hlen hcells 9 Try.underlying9]
      clear hlen hcells
      go_wp2
      go_ret
      refine ⟨rfl, ?_⟩
      have hb := HT1.out.bel
      exact ((((hb.setCell (by simp) _).setCell (by simp) _).setCell (by simp) _).alloc (by simp; omega) _)
    · have hst := HT1.out.step (.cells #[.int .u64 (cur / 10 / 18446744073709551616), .int .u64 (cur / 10 % 18446744073709551616)] 24) hq
      have HST := Lib.hid hst
      clear hst
      by_cases hh : cur / 10 / 18446744073709551616 = 0
      · have q1 : (cur / 10 / 18446744073709551616 == 0) = true := by simpa using hh
        have q2 : (cur / 10 % 18446744073709551616 == 0) = false := by simp; omega
        clear hh hq
        unfold WV
        go_wp2_with fail
        go_roundw
        case rel => exact ⟨j, _, _, rfl, HST.out⟩
        case measure => simp [intOf]
      · have q1 : (cur / 10 / 18446744073709551616 == 0) = false := by simpa using hh
        clear hh hq
        unfold WV
        go_wp2_with fail
        go_roundw
        case rel => exact ⟨j, _, _, rfl, HST.out⟩
        case measure => simp [intOf]
end Go.Proofs.Ytojfkpmdnhkanaa
