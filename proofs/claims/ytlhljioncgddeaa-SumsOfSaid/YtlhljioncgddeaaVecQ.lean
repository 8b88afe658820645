/- A slice of parts that came in. -/
import Derived.Test.YtlhljioncgddeaaVecV
import Derived.ChangeSame
import Derived.OpenShut
import Derived.ChangeOld
import Derived.Lib.SmallJoins
import Derived.Deep.Strs
import Derived.Deep.Slices
namespace Go.Proofs.Ytlhljioncgddeaa
open Go.RowKit Go.ChangeShapes Go.WideShapes Go.ChangeAt Go.Joins Go.Deep
def I64s (l : List Pt) : Prop := ∀ p ∈ l, I64 p.1 ∧ I64 p.2.1 ∧ I64 p.2.2
theorem i64_wf {x : Int} (h : (Lit.int .i64 x).wf = true) : I64 x := by
  simp [Lit.wf, IntKind.min, IntKind.max, IntKind.signed, IntKind.bits] at h
  exact ⟨by omega, by omega⟩
theorem cell_plain {W : World} {a : Addr} {v : Value} (h : W.cell? a = some v) : ∃ b off, a = ⟨b, off, none⟩ ∧ b < W.heap.size := by
  obtain ⟨b, off, s⟩ := a
  have hlt : b < W.heap.size := by
    by_cases hb : b < W.heap.size
    · exact hb
    · exfalso
      unfold World.cell? at h
      simp [Array.getElem?_eq_none (Nat.le_of_not_lt hb)] at h
  cases s with
  | none => exact ⟨b, off, rfl, hlt⟩
  | some s =>
    exfalso
    unfold World.cell? at h
    simp at h
    split at h <;> simp_all
theorem c3p : Try.prog.cellsOf 29 = 3 := by kernel_rfl
set_option maxRecDepth 100000 in
theorem part_cells {H : Type} {enc : TypeId × Value → H} {W : World} {base : Nat} {sp : Nat → Bool} {held : Bool} {m : Nat} {cs : List Value} {x : DataW H × List MemPlace} (hl : cs.length = 3)
    (hf : DataW.trod enc Try.prog W base sp held m 29 cs = some x) : ∃ q : Pt, cs = [.int .i64 q.1, .int .i64 q.2.1, .int .i64 q.2.2] ∧ I64 q.1 ∧ I64 q.2.1 ∧ I64 q.2.2 := by
  match cs, hl with
  | [c0, c1, c2], _ =>
    obtain ⟨y0, y1, y2, n, _, _, h0, h1, h2⟩ := trod_struct3 Try.underlying29 hf
    have k0 : DataW.trod enc Try.prog W base sp held n 3 [c0] = some y0 := h0
    have k1 : DataW.trod enc Try.prog W base sp held n 3 [c1] = some y1 := h1
    have k2 : DataW.trod enc Try.prog W base sp held n 2 [c2] = some y2 := h2
    obtain ⟨a, ea, _, wa⟩ := DataW.trod_int Try.underlying3 k0
    obtain ⟨b, eb, _, wb⟩ := DataW.trod_int Try.underlying3 k1
    obtain ⟨c, ec, _, wc⟩ := DataW.trod_int Try.underlying2 k2
    simp at ea eb ec
    subst ea eb ec
    exact ⟨(a, b, c), rfl, i64_wf wa, i64_wf wb, i64_wf wc⟩
theorem kk_map (q : Nat → Pt) {n i : Nat} (h : i < n) : kk ((List.range n).map q) i = (q i).1 ∧ rr ((List.range n).map q) i = (q i).2.1 ∧ aa ((List.range n).map q) i = (q i).2.2 := by
  unfold kk rr aa
  rw [getD_lt (by simpa using h)]; simp
set_option maxRecDepth 100000 in
/-- A slice of parts that came in. -/
theorem open_parts {H : Type} {enc : TypeId × Value → H} {W : World} {base : Nat} {sp : Nat → Bool} {held : Bool} {r : Reach} {b0 : Nat} {v : Value} {d : DataW H} {p : List MemPlace}
    (hv : Value.okWide Try.prog W r b0 22 v) (h : DataW.Trod enc Try.prog W base sp held 22 v d p) : ∃ l : List Pt, Vc W v l ∧ I64s l := by
  have hv' := hv
  obtain ⟨a0, len0, cap0, rfl⟩ := okWide_slice Try.underlying22 hv
  obtain ⟨fuel, hf⟩ := h
  rcases open_slice Try.underlying22 hf with ⟨hc, _⟩ | ⟨a, len, cap, m, k, D, Pl, hc, _, hl, hm, hmm, hx, hall⟩
  · cases hc
    exact ⟨[], .inl ⟨rfl, rfl⟩, fun p hp => by simp at hp⟩
  · cases hc
    have hlm : len0 ≤ m := by rw [hmm]; split <;> omega
    rw [c3p] at hall
    have each : ∀ i, i < len0 → ∃ q : Pt, (W.cell? (a.add (i * 3)) = some (.int .i64 q.1) ∧ W.cell? ((a.add (i * 3)).add 1) = some (.int .i64 q.2.1) ∧ W.cell? ((a.add (i * 3)).add 2) = some (.int .i64 q.2.2)) ∧ I64 q.1 ∧ I64 q.2.1 ∧ I64 q.2.2 := by
      intro i hi
      obtain ⟨cs', h1, h2⟩ := hall i (by omega)
      obtain ⟨_, hlen, hcell⟩ := World.cells?_some h1
      obtain ⟨q, rfl, hq⟩ := part_cells hlen h2
      have e0 := hcell 0 (by omega)
      have e1 := hcell 1 (by omega)
      have e2 := hcell 2 (by omega)
      exact ⟨q, ⟨by simpa [Addr.add] using e0, by simpa using e1, by simpa using e2⟩, hq⟩
    obtain ⟨q, hq⟩ := choose_lt each
    simp only [Value.okWide, Try.underlying22, Cell.okWide, Cell.ok] at hv'
    obtain ⟨_, _, _, hspot, row, cells, hsh, _⟩ := hv'
    obtain ⟨b, off, s⟩ := a
    simp only at hspot hsh
    subst hspot
    have hb : b < W.heap.size := by
      rcases Nat.lt_or_ge b W.heap.size with h' | h'
      · exact h'
      · simp [World.shape?, Array.getElem?_eq_none h'] at hsh
    refine ⟨(List.range len0).map q, .inr ⟨b, off, cap0, by simp, by simpa using hl, hm, hb, fun i hi => ?_⟩, fun p hp => ?_⟩
    · have hi : i < len0 := by simpa using hi
      obtain ⟨⟨h1, h2, h3⟩, _⟩ := hq i hi
      obtain ⟨e1, e2, e3⟩ := kk_map q hi
      rw [e1, e2, e3]
      rw [add_plain] at h1 h2 h3
      rw [add_plain] at h2 h3
      exact ⟨h1, h2, h3⟩
    · obtain ⟨i, hi, rfl⟩ := List.mem_map.1 hp
      exact (hq i (List.mem_range.1 hi)).2
end Go.Proofs.Ytlhljioncgddeaa
