/- Vectors inside records: what keeps them, and how those that came in read. -/
import Derived.Test.YtennhfkhdfalfaaVecS
import Derived.Test.YtennhfkhdfalfaaChg
import Derived.OpenShut
import Derived.ChangeOld
import Derived.ChangeSame
import Derived.Lib.SmallJoins
import Derived.Deep.Strs
import Derived.Deep.Slices
namespace Go.Proofs.Ytennhfkhdfalfaa
open Go.RowKit Go.ChangeShapes Go.WideShapes Go.ChangeAt Go.Joins Go.Deep
theorem Vc.chg {F : Nat → Prop} {w w' : World} {v : Value} {l : List Pt} (h : Vc w v l) (hc : Chg F w w') (hf : ∀ b, v.ownBlock = Option.some b → ¬ F b) : Vc w' v l := by
  rcases h with h | ⟨b, off, cap, rfl, h2, h3, h4, h5⟩
  · exact .inl h
  · have hb := hf b rfl
    refine .inr ⟨b, off, cap, rfl, h2, h3, Nat.lt_of_lt_of_le h4 hc.size, fun i hi => ?_⟩
    obtain ⟨c0, c1, c2⟩ := h5 i hi
    exact ⟨by rw [hc.cell h4 hb]; exact c0, by rw [hc.cell h4 hb]; exact c1, by rw [hc.cell h4 hb]; exact c2⟩
def I64s (l : List Pt) : Prop := ∀ p ∈ l, I64 p.1 ∧ I64 p.2.1 ∧ I64 p.2.2
theorem i64_wf' {x : Int} (h : (Lit.int .i64 x).wf = true) : I64 x := by
  simp [Lit.wf, IntKind.min, IntKind.max, IntKind.signed, IntKind.bits] at h
  exact ⟨by omega, by omega⟩
theorem cell_plain {W : World} {a : Addr} {v : Value} (h : W.cell? a = some v) : ∃ b off, a = ⟨b, off, none⟩ ∧ b < W.heap.size := by
  obtain ⟨b, off, s⟩ := a
  have hlt : b < W.heap.size := by
    by_cases hb : b < W.heap.size
    · exact hb
    · exfalso
      unfold World.cell? at h
      simp [Array.getElem?_eq_none (Nat.le_of_not_lt hb)] at h
  cases s with
  | none => exact ⟨b, off, rfl, hlt⟩
  | some s =>
    exfalso
    unfold World.cell? at h
    simp at h
    split at h <;> simp_all
theorem add_plain (b off n : Nat) : (⟨b, off, none⟩ : Addr).add n = ⟨b, off + n, none⟩ := by
  unfold Addr.add
  split
  · rename_i h0; subst h0; rfl
  · rfl
theorem c3p : Try.prog.cellsOf 57 = 3 := by kernel_rfl
set_option maxRecDepth 100000 in
theorem part_cells {H : Type} {enc : TypeId × Value → H} {W : World} {base : Nat} {sp : Nat → Bool} {held : Bool} {m : Nat} {cs : List Value} {x : DataW H × List MemPlace} (hl : cs.length = 3)
    (hf : DataW.trod enc Try.prog W base sp held m 57 cs = some x) : ∃ q : Pt, cs = [.int .i64 q.1, .int .i64 q.2.1, .int .i64 q.2.2] ∧ I64 q.1 ∧ I64 q.2.1 ∧ I64 q.2.2 := by
  match cs, hl with
  | [c0, c1, c2], _ =>
    obtain ⟨y0, y1, y2, n, _, _, h0, h1, h2⟩ := trod_struct3 Try.underlying57 hf
    have k0 : DataW.trod enc Try.prog W base sp held n 3 [c0] = some y0 := h0
    have k1 : DataW.trod enc Try.prog W base sp held n 3 [c1] = some y1 := h1
    have k2 : DataW.trod enc Try.prog W base sp held n 2 [c2] = some y2 := h2
    obtain ⟨a, ea, _, wa⟩ := DataW.trod_int Try.underlying3 k0
    obtain ⟨b, eb, _, wb⟩ := DataW.trod_int Try.underlying3 k1
    obtain ⟨c, ec, _, wc⟩ := DataW.trod_int Try.underlying2 k2
    simp at ea eb ec
    subst ea eb ec
    exact ⟨(a, b, c), rfl, i64_wf' wa, i64_wf' wb, i64_wf' wc⟩
theorem kk_map (q : Nat → Pt) {n i : Nat} (h : i < n) : kk ((List.range n).map q) i = (q i).1 ∧ rr ((List.range n).map q) i = (q i).2.1 ∧ aa ((List.range n).map q) i = (q i).2.2 := by
  unfold kk rr aa
  rw [getD_lt (by simpa using h)]; simp
set_option maxRecDepth 100000 in
/-- A vector that stands in a cell of what came in. -/
theorem parts_field {H : Type} {enc : TypeId × Value → H} {W : World} {base : Nat} {sp : Nat → Bool} {held : Bool} {m0 : Nat} {v : Value} {x : DataW H × List MemPlace}
    (hf : DataW.trod enc Try.prog W base sp held m0 32 [v] = some x) : ∃ l : List Pt, Vc W v l ∧ I64s l := by
  rcases open_slice Try.underlying32 hf with ⟨hc, _⟩ | ⟨a, len, cap, m, k, D, Pl, hc, _, hl, hm, hmm, hx, hall⟩
  · obtain rfl : v = .slice none 0 0 := by simpa using hc
    exact ⟨[], Vc.nil _, fun p hp => by simp at hp⟩
  · obtain rfl : v = .slice (some a) len cap := by simpa using hc
    have hlm : len ≤ m := by rw [hmm]; split <;> omega
    rw [c3p] at hall
    have each : ∀ i, i < len → ∃ q : Pt, (W.cell? (a.add (i * 3)) = some (.int .i64 q.1) ∧ W.cell? ((a.add (i * 3)).add 1) = some (.int .i64 q.2.1) ∧ W.cell? ((a.add (i * 3)).add 2) = some (.int .i64 q.2.2)) ∧ I64 q.1 ∧ I64 q.2.1 ∧ I64 q.2.2 := by
      intro i hi
      obtain ⟨cs', h1, h2⟩ := hall i (by omega)
      obtain ⟨_, hlen, hcell⟩ := World.cells?_some h1
      obtain ⟨q, rfl, hq⟩ := part_cells hlen h2
      have e0 := hcell 0 (by omega)
      have e1 := hcell 1 (by omega)
      have e2 := hcell 2 (by omega)
      exact ⟨q, ⟨by simpa [Addr.add] using e0, by simpa using e1, by simpa using e2⟩, hq⟩
    obtain ⟨q, hq⟩ := choose_lt each
    by_cases h0 : len = 0
    · subst h0
      exact ⟨[], Vc.zero _ (some a) ⟨hm, by simp⟩, fun p hp => by simp at hp⟩
    · obtain ⟨b, off, rfl, hb⟩ := cell_plain (show W.cell? a = _ by simpa [Addr.add] using (hq 0 (by omega)).1.1)
      refine ⟨(List.range len).map q, .inr ⟨b, off, cap, by simp, by simpa using hl, hm, hb, fun i hi => ?_⟩, fun p hp => ?_⟩
      · have hi : i < len := by simpa using hi
        obtain ⟨⟨h1, h2, h3⟩, _⟩ := hq i hi
        obtain ⟨e1, e2, e3⟩ := kk_map q hi
        rw [e1, e2, e3]
        rw [add_plain] at h1 h2 h3
        rw [add_plain] at h2 h3
        exact ⟨h1, h2, h3⟩
      · obtain ⟨i, hi, rfl⟩ := List.mem_map.1 hp
        exact (hq i (List.mem_range.1 hi)).2
end Go.Proofs.Ytennhfkhdfalfaa
