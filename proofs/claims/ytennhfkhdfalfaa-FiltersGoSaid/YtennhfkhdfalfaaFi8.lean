/- filters: rows of filters that are rewritten, cut, and cleared. -/
import Derived.Test.YtennhfkhdfalfaaFi7
import Derived.Laws.IdiomCopy
namespace Go.Proofs.Ytennhfkhdfalfaa
open Go.RowKit Go.Maps
theorem fl_len (x : Fl) : (flenc x).length = 4 := rfl
theorem flat_len (d : List Fl) : (d.flatMap flenc).length = d.length * 4 := by
  induction d with
  | nil => rfl
  | cons x t ih => rw [List.flatMap_cons, List.length_append, ih, fl_len, List.length_cons]; omega
/-- A row of filters by its block. -/
structure RW (w : World) (q c : Nat) (d : List Fl) (cur : Array Value) : Prop where
  obj : w.heap[q]? = some (.cells cur 72 (0, 0))
  le : d.length ≤ c ∧ c ≤ maxLen
  sz : cur.size = c * 4
  at_ : ∀ i (hi : i < d.length) j, j < 4 → cur[i * 4 + j]? = (flenc d[i])[j]?
section
variable {w w' : World} {q c base : Nat} {d : List Fl} {cur : Array Value}
theorem RW.of (h : OwnL 72 4 flenc w base (.slice (some ⟨q, 0, none⟩) d.length c) d) : base ≤ q ∧ ∃ cur, RW w q c d cur := by
  obtain ⟨_, ⟨e, _⟩ | ⟨g, cap, cur, e, hb, hg, hn, hc, hs, ht⟩⟩ := h
  · cases e
  · cases e
    refine ⟨hb, cur, hg, ⟨hn, hc⟩, hs, fun i hi j hj => ?_⟩
    have h1 := flat_at fl_len d i hi j hj
    rw [← h1, ← ht, List.getElem?_take, if_pos (by omega), Array.getElem?_toList]
theorem RW.own (h : RW w q c d cur) (hb : base ≤ q) : OwnL 72 4 flenc w base (.slice (some ⟨q, 0, none⟩) d.length c) d := by
  refine ⟨flat_len d, .inr ⟨q, c, cur, rfl, hb, h.obj, h.le.1, h.le.2, h.sz, List.ext_getElem? fun k => ?_⟩⟩
  by_cases hk : k < d.length * 4
  · have h1 := flat_at fl_len d (k / 4) (by omega) (k % 4) (Nat.mod_lt _ (by decide))
    have h2 := h.at_ (k / 4) (by omega) (k % 4) (Nat.mod_lt _ (by decide))
    have e : k / 4 * 4 + k % 4 = k := by omega
    rw [e] at h1 h2
    rw [List.getElem?_take, if_pos hk, h1, ← h2, Array.getElem?_toList]
  · rw [List.getElem?_eq_none (by rw [List.length_take]; omega), List.getElem?_eq_none (by rw [flat_len]; omega)]
/-- One filter written over. -/
theorem RW.set (h : RW w q c d cur) {i : Nat} (hi : i < d.length) (x : Fl) :
    ∃ cur', RW ((((w.setCell ⟨q, i * 4, none⟩ (.int .i64 x.fr)).setCell ⟨q, i * 4 + 1, none⟩ (.int .i64 x.ag)).setCell ⟨q, i * 4 + 2, none⟩ (.int .i64 x.ti)).setCell ⟨q, i * 4 + 3, none⟩ x.vv) q c (d.set i x) cur' := by
  have hs := h.sz; have hl := h.le.1
  refine ⟨_, heap_setCell_at _ (heap_setCell_at _ (heap_setCell_at _ (heap_setCell_at _ h.obj))), by rw [List.length_set]; exact h.le, by simp [h.sz], fun k hk j hj => ?_⟩
  rw [List.length_set] at hk
  by_cases e : k = i
  · subst e
    rw [List.getElem_set_self]
    have b0 : k * 4 < cur.size := by omega
    have b1 : k * 4 + 1 < cur.size := by omega
    have b2 : k * 4 + 2 < cur.size := by omega
    have b3 : k * 4 + 3 < cur.size := by omega
    rcases j with _ | _ | _ | _ | j
    · simp [Array.getElem?_setIfInBounds, flenc, b0, b1, b2, b3]
    · simp [Array.getElem?_setIfInBounds, flenc, b0, b1, b2, b3]
    · simp [Array.getElem?_setIfInBounds, flenc, b0, b1, b2, b3]
    · simp [Array.getElem?_setIfInBounds, flenc, b0, b1, b2, b3]
    · omega
  · rw [List.getElem_set_ne (fun h => e h.symm), ← h.at_ k hk j hj]
    have n0 : ¬ i * 4 = k * 4 + j := by omega
    have n1 : ¬ i * 4 + 1 = k * 4 + j := by omega
    have n2 : ¬ i * 4 + 2 = k * 4 + j := by omega
    have n3 : ¬ i * 4 + 3 = k * 4 + j := by omega
    rw [Array.getElem?_setIfInBounds, if_neg n3, Array.getElem?_setIfInBounds, if_neg n2, Array.getElem?_setIfInBounds, if_neg n1, Array.getElem?_setIfInBounds, if_neg n0]
/-- The front of a row. -/
theorem RW.take (h : RW w q c d cur) (i : Nat) : RW w q c (d.take i) cur := by
  refine ⟨h.obj, ⟨Nat.le_trans (by rw [List.length_take]; omega) h.le.1, h.le.2⟩, h.sz, fun k hk j hj => ?_⟩
  rw [List.length_take] at hk
  rw [List.getElem_take]
  exact h.at_ k (by omega) j hj
theorem RW.chg {F : Nat → Prop} (h : RW w q c d cur) (hc : Chg F w w') (hf : ¬ F q) : RW w' q c d cur := ⟨(hc.block q (Array.getElem?_eq_some_iff.1 h.obj).1 hf).trans h.obj, h.le, h.sz, h.at_⟩
theorem RW.below (h : RW w q c d cur) (hb : Below w.heap.size w w') : RW w' q c d cur := h.chg (.of_below (fun _ => False) hb) id
theorem RW.cells (h : RW w q c d cur) {i : Nat} {x : Fl} (hx : d[i]? = some x) : w.cell? ⟨q, i * 4, none⟩ = some (.int .i64 x.fr) ∧ w.cell? ⟨q, i * 4 + 1, none⟩ = some (.int .i64 x.ag) ∧ w.cell? ⟨q, i * 4 + 2, none⟩ = some (.int .i64 x.ti) ∧ w.cell? ⟨q, i * 4 + 3, none⟩ = some x.vv := by
  obtain ⟨hi, rfl⟩ := List.getElem?_eq_some_iff.1 hx
  have e0 := h.at_ i hi 0 (by omega); have e1 := h.at_ i hi 1 (by omega); have e2 := h.at_ i hi 2 (by omega); have e3 := h.at_ i hi 3 (by omega)
  have ho := h.obj
  refine ⟨?_, ?_, ?_, ?_⟩
  · simp only [World.cell?, ho]; exact e0
  · simp only [World.cell?, ho]; exact e1
  · simp only [World.cell?, ho]; exact e2
  · simp only [World.cell?, ho]; exact e3
theorem RW.fz (h : RW w q c d cur) (o : Nat) : w.frozen? ⟨q, o, none⟩ = false := by simp [World.frozen?, h.obj]
theorem setCells_row (q : Nat) {e : TypeId} : ∀ (vs : List Value) (o : Nat) (w : World) (cur : Array Value), w.heap[q]? = some (.cells cur e (0, 0)) → ∃ cur', (w.setCells q o vs).heap[q]? = some (.cells cur' e (0, 0)) ∧ cur'.size = cur.size ∧ (∀ j, j < o → cur'[j]? = cur[j]?) ∧ Chg (fun k => k = q) w (w.setCells q o vs)
  | [], o, w, cur, h => ⟨cur, h, rfl, fun _ _ => rfl, Chg.refl _ _⟩
  | v :: r, o, w, cur, h => by
    obtain ⟨cur', h1, h2, h3, h4⟩ := setCells_row q r (o + 1) (w.setCell ⟨q, o, none⟩ v) _ (heap_setCell_at v h)
    refine ⟨cur', h1, by rw [h2]; simp, fun j hj => ?_, ((Chg.refl (fun k => k = q) w).setCell (p := ⟨q, o, none⟩) (.inl rfl) v).same h4⟩
    rw [h3 j (by omega), Array.getElem?_setIfInBounds, if_neg (by omega)]
/-- The end of a row cleared. -/
theorem RW.clear (h : RW w q c d cur) {i n k : Nat} (hn : i + n = d.length) (hn0 : 0 < n) :
    ∃ w' cur', (∀ ty, (Builtin.clear_ #[68] ty #[.slice (some ⟨q, i * 4, none⟩) n k]).run Try.prog w = .ok (.tuple #[]) w') ∧ RW w' q c (d.take i) cur' ∧ Chg (fun k => k = q) w w' := by
  have hz : ∀ w, (zeroValue 72).run Try.prog w = .ok (.agg #[.int .i64 0, .int .i64 0, .int .i64 0, .slice none 0 0]) w := fun w => Try.zeroValue72 w
  have hl := h.le.1; have hs := h.sz
  obtain ⟨vs, hvs⟩ : ∃ vs, vs = (Builtin.zeroCells (Value.agg #[.int .i64 0, .int .i64 0, .int .i64 0, .slice none 0 0]).cells n).toList := ⟨_, rfl⟩
  have hvl : vs.length = n * 4 := by rw [hvs]; simp [Builtin.zeroCells, Value.cells]
  have hone : ∀ v ∈ vs, v.oneCell' = true := fun v hv => by
    rw [hvs] at hv
    simp only [Builtin.zeroCells, Array.toList_map, List.mem_map] at hv
    obtain ⟨j, _, rfl⟩ := hv
    have : j % 4 = 0 ∨ j % 4 = 1 ∨ j % 4 = 2 ∨ j % 4 = 3 := by omega
    rcases this with e | e | e | e <;> simp [Value.cells, e] <;> rfl
  have hst := run_storeCells_cells (P := Try.prog) q (i * 4) vs 0 w (fun j hj => by
      rw [hvl] at hj
      simp only [World.cell?, h.obj, Nat.add_zero]
      rw [Array.getElem?_eq_getElem (by omega)]; rfl) (fun j hj => h.fz _) hone
  obtain ⟨cur', h1, h2, h3, h4⟩ := setCells_row q vs (i * 4) w cur h.obj
  refine ⟨_, cur', ?_, ⟨h1, ⟨by rw [List.length_take]; omega, h.le.2⟩, by rw [h2]; exact h.sz, fun m hm j hj => ?_⟩, h4⟩
  · intro ty
    obtain ⟨m, rfl⟩ : ∃ m, n = m + 1 := ⟨n - 1, by omega⟩
    rw [Nat.add_zero] at hst
    simp [Builtin.clear_, run_underlying Try.underlying68, hz, ← hvs, hst]
  · rw [List.length_take] at hm
    rw [List.getElem_take, h3 _ (by omega)]
    exact h.at_ m (by omega) j hj
end
end Go.Proofs.Ytennhfkhdfalfaa
