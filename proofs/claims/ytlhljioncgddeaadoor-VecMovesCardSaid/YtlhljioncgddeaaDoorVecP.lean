/- What the rows of layer 5 lean on: the listed variables, a slice of parts that came in. -/
import Derived.Test.YtlhljioncgddeaaDoorCards
import Derived.Test.YtlhljioncgddeaaDoorTie
import Derived.Test.YtlhljioncgddeaaDoorOn
import Derived.Test.YtlhljioncgddeaaDoorSlotX
import Derived.Test.YtlhljioncgddeaaDoorVecO
import Derived.SevenTiedAt
import Derived.ChangeSame
import Derived.LaidMore
import Derived.LaidHandle
import Derived.LaidLaws
import Derived.MakeChecks
import Derived.OpenShut
import Derived.ChangeOld
import Derived.Lib.SmallJoins
import Derived.Deep.Strs
import Derived.Deep.Slices
import Derived.Stop.LaidErr
import Derived.SizedLaws
import Derived.Maps.StringElems
import Derived.Lay
namespace Go.Proofs.YtlhljioncgddeaaDoor
open Go.RowKit Go.ChangeShapes Go.WideShapes Go.ChangeAt Go.Joins Go.Deep
theorem i64_wf {x : Int} (h : (Lit.int .i64 x).wf = true) : I64 x := by
  simp [Lit.wf, IntKind.min, IntKind.max, IntKind.signed, IntKind.bits] at h
  exact ⟨by omega, by omega⟩
theorem gT10 : Tryd.prog.globalNamed "internal/strconv.uint64pow10" = some 3 := by kernel_rfl
theorem gT10t : (Tryd.prog.globals[3]?).map (·.type) = some 159 := by kernel_rfl
theorem c64 : Tryd.prog.cellsOf 118 = 1 := by kernel_rfl
theorem c20 : Tryd.prog.cellsOf 159 = 20 := by kernel_rfl
theorem t10_third {x y : String × DataW Unit} {rest : List (String × DataW Unit)} {W : World} (h : laidMet Tryd.prog (x :: y :: ("internal/strconv.uint64pow10", Rows.laid_internal_strconv_uint64pow10) :: rest) W) : T10 W :=
  Lib.tabIs_of_head (rest := rest) gT10 gT10t Tryd.underlying159 Tryd.underlying118 c64 c20 (h.tail.tail)
theorem strs_of_tab {H : Type} {enc : TypeId × Value → H} {P : Program} {w : World} {base : Nat} {sp : Nat → Bool} {held : Bool} {fuel : Nat} {t e : TypeId} {n : Nat} {cs : List Value} {zs : List ByteArray} {p : List MemPlace}
    (ht : P.underlying t = some (.array n e)) (he : P.underlying e = some .string) (hce : P.cellsOf e = 1) (hct : P.cellsOf t = n)
    (h : DataW.trod enc P w base sp held fuel t cs = some (.agg (zs.map fun z => .lit (.string z.data.toList)), p)) : cs = zs.map fun z => Value.string z := by
  cases fuel with
  | zero => simp [DataW.trod] at h
  | succ fuel =>
    simp only [DataW.trod, ht, hce, hct, Nat.mul_one] at h
    split at h
    · rename_i hl
      obtain ⟨xs, hm, hx⟩ := Option.map_eq_some_iff.1 h
      have hxs : xs.map (·.1) = zs.map fun z => (DataW.lit (.string z.data.toList) : DataW H) := by
        have := congrArg Prod.fst hx
        simpa using this
      have hxl : xs.length = n := by simpa using Lib.mapM_length hm
      have hzl : zs.length = n := by
        have := congrArg List.length hxs
        simp at this
        omega
      apply List.ext_getElem?
      intro i
      by_cases hi : i < n
      · obtain ⟨b, hb, hf⟩ := Lib.mapM_at hm i i (by simp [hi])
        obtain ⟨z, hc, rfl, _⟩ := DataW.trod_string he hf
        have h1 : cs[i]? = some (.string z) := by
          have := congrArg (·[0]?) hc
          simpa [List.getElem?_take, List.getElem?_drop] using this
        have h2 : (xs.map (·.1))[i]? = some (DataW.lit (.string z.data.toList) : DataW H) := by simp [hb]
        rw [hxs] at h2
        simp only [List.getElem?_map, Option.map_eq_some_iff, DataW.lit.injEq, Lit.string.injEq] at h2
        obtain ⟨z', hz', he'⟩ := h2
        rw [h1, List.getElem?_map, hz']
        simp [bytes_inj he']
      · rw [List.getElem?_eq_none (by omega), List.getElem?_eq_none (by simp; omega)]
    · cases h
theorem gN4t : (Tryd.prog.globals[0]?).map (·.type) = some 104 := by kernel_rfl
theorem c1s : Tryd.prog.cellsOf 9 = 1 := by kernel_rfl
theorem c4s : Tryd.prog.cellsOf 104 = 4 := by kernel_rfl
theorem n4_head {rest : List (String × DataW Unit)} {W : World} (h : laidMet Tryd.prog (("manciple/slot.names", Rows.laid_manciple_slot_names) :: rest) W) : N4 W := by
  obtain ⟨ps, ⟨g', t', cs, fuel, p, q, hg', ht', hvar, hd, _, _⟩, _⟩ := h
  obtain rfl := Option.some.inj (gN4.symm.trans hg')
  obtain rfl := Option.some.inj (gN4t.symm.trans ht')
  unfold N4
  rw [hvar]
  have := strs_of_tab (zs := [nmS 0, nmS 1, nmS 2, nmS 3]) Tryd.underlying104 Tryd.underlying9 c1s c4s hd
  exact congrArg some (Array.toList_inj.1 (by simpa using this))
theorem cell_plain {W : World} {a : Addr} {v : Value} (h : W.cell? a = some v) : ∃ b off, a = ⟨b, off, none⟩ ∧ b < W.heap.size := by
  obtain ⟨b, off, s⟩ := a
  have hlt : b < W.heap.size := by
    by_cases hb : b < W.heap.size
    · exact hb
    · exfalso
      unfold World.cell? at h
      simp [Array.getElem?_eq_none (Nat.le_of_not_lt hb)] at h
  cases s with
  | none => exact ⟨b, off, rfl, hlt⟩
  | some s =>
    exfalso
    unfold World.cell? at h
    simp at h
    split at h <;> simp_all
theorem c3p : Tryd.prog.cellsOf 64 = 3 := by kernel_rfl
set_option maxRecDepth 100000 in
theorem part_cells {H : Type} {enc : TypeId × Value → H} {W : World} {base : Nat} {sp : Nat → Bool} {held : Bool} {m : Nat} {cs : List Value} {x : DataW H × List MemPlace} (hl : cs.length = 3)
    (hf : DataW.trod enc Tryd.prog W base sp held m 64 cs = some x) : ∃ q : Pt, cs = [.int .i64 q.1, .int .i64 q.2.1, .int .i64 q.2.2] ∧ I64 q.1 ∧ I64 q.2.1 ∧ I64 q.2.2 := by
  match cs, hl with
  | [c0, c1, c2], _ =>
    obtain ⟨y0, y1, y2, n, _, _, h0, h1, h2⟩ := trod_struct3 Tryd.underlying64 hf
    have k0 : DataW.trod enc Tryd.prog W base sp held n 3 [c0] = some y0 := h0
    have k1 : DataW.trod enc Tryd.prog W base sp held n 3 [c1] = some y1 := h1
    have k2 : DataW.trod enc Tryd.prog W base sp held n 2 [c2] = some y2 := h2
    obtain ⟨a, ea, _, wa⟩ := DataW.trod_int Tryd.underlying3 k0
    obtain ⟨b, eb, _, wb⟩ := DataW.trod_int Tryd.underlying3 k1
    obtain ⟨c, ec, _, wc⟩ := DataW.trod_int Tryd.underlying2 k2
    simp at ea eb ec
    subst ea eb ec
    exact ⟨(a, b, c), rfl, i64_wf wa, i64_wf wb, i64_wf wc⟩
theorem kk_map (q : Nat → Pt) {n i : Nat} (h : i < n) : kk ((List.range n).map q) i = (q i).1 ∧ rr ((List.range n).map q) i = (q i).2.1 ∧ aa ((List.range n).map q) i = (q i).2.2 := by
  unfold kk rr aa
  rw [getD_lt (by simpa using h)]; simp
set_option maxRecDepth 100000 in
/-- A slice of parts that came in. -/
theorem open_parts {H : Type} {enc : TypeId × Value → H} {W : World} {base : Nat} {sp : Nat → Bool} {held : Bool} {r : Reach} {b0 : Nat} {v : Value} {d : DataW H} {p : List MemPlace}
    (hv : Value.okWide Tryd.prog W r b0 22 v) (h : DataW.Trod enc Tryd.prog W base sp held 22 v d p) : ∃ l : List Pt, Vc W v l ∧ I64s l := by
  have hv' := hv
  obtain ⟨a0, len0, cap0, rfl⟩ := okWide_slice Tryd.underlying22 hv
  obtain ⟨fuel, hf⟩ := h
  rcases open_slice Tryd.underlying22 hf with ⟨hc, _⟩ | ⟨a, len, cap, m, k, D, Pl, hc, _, hl, hm, hmm, hx, hall⟩
  · cases hc
    exact ⟨[], .inl ⟨rfl, rfl⟩, fun p hp => by simp at hp⟩
  · cases hc
    have hlm : len0 ≤ m := by rw [hmm]; split <;> omega
    rw [c3p] at hall
    have each : ∀ i, i < len0 → ∃ q : Pt, (W.cell? (a.add (i * 3)) = some (.int .i64 q.1) ∧ W.cell? ((a.add (i * 3)).add 1) = some (.int .i64 q.2.1) ∧ W.cell? ((a.add (i * 3)).add 2) = some (.int .i64 q.2.2)) ∧ I64 q.1 ∧ I64 q.2.1 ∧ I64 q.2.2 := by
      intro i hi
      obtain ⟨cs', h1, h2⟩ := hall i (by omega)
      obtain ⟨_, hlen, hcell⟩ := World.cells?_some h1
      obtain ⟨q, rfl, hq⟩ := part_cells hlen h2
      have e0 := hcell 0 (by omega)
      have e1 := hcell 1 (by omega)
      have e2 := hcell 2 (by omega)
      exact ⟨q, ⟨by simpa [Addr.add] using e0, by simpa using e1, by simpa using e2⟩, hq⟩
    obtain ⟨q, hq⟩ := choose_lt each
    simp only [Value.okWide, Tryd.underlying22, Cell.okWide, Cell.ok] at hv'
    obtain ⟨_, _, _, hspot, row, cells, hsh, _⟩ := hv'
    obtain ⟨b, off, s⟩ := a
    simp only at hspot hsh
    subst hspot
    have hb : b < W.heap.size := by
      rcases Nat.lt_or_ge b W.heap.size with h' | h'
      · exact h'
      · simp [World.shape?, Array.getElem?_eq_none h'] at hsh
    refine ⟨(List.range len0).map q, .inr ⟨b, off, cap0, by simp, by simpa using hl, hm, hb, fun i hi => ?_⟩, fun p hp => ?_⟩
    · have hi : i < len0 := by simpa using hi
      obtain ⟨⟨h1, h2, h3⟩, _⟩ := hq i hi
      obtain ⟨e1, e2, e3⟩ := kk_map q hi
      rw [e1, e2, e3]
      rw [add_plain] at h1 h2 h3
      rw [add_plain] at h2 h3
      exact ⟨h1, h2, h3⟩
    · obtain ⟨i, hi, rfl⟩ := List.mem_map.1 hp
      exact (hq i (List.mem_range.1 hi)).2
end Go.Proofs.YtlhljioncgddeaaDoor
