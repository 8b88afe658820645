/- What came in has a bulk: what the second form of a statement counts. No program. -/
import Derived.Test.YtnckjacbkhoppaaOpenRS
import Derived.JoinedCond
namespace Go.Proofs.Ytnckjacbkhoppaa
open Go.RowKit Go.ChangeShapes Go.WideShapes Go.ChangeAt Go.Joins Go.Deep
theorem bulk_one {H : Type} (d : DataW H) : 1 ≤ Rows.uptoBulk d := by
  cases d with
  | lit l => cases l <;> simp [Rows.uptoBulk]
  | _ => simp [Rows.uptoBulk]
theorem bulkAll_map {H α : Type} (q : Nat → α) (wt : α → Nat) (D : Nat → DataW H) : ∀ L : List Nat, (∀ i ∈ L, wt (q i) ≤ Rows.uptoBulk (D i)) → ((L.map q).map wt).sum ≤ Rows.uptoBulkAll (L.map D)
  | [], _ => by simp
  | i :: L, h => by
    have h1 := h i List.mem_cons_self
    have h2 := bulkAll_map q wt D L fun j hj => h j (List.mem_cons_of_mem _ hj)
    simp only [List.map_cons, List.sum_cons, Rows.uptoBulkAll]
    omega
theorem bulkAll_len {H : Type} : ∀ L : List (DataW H), L.length ≤ Rows.uptoBulkAll L
  | [] => by simp
  | d :: L => by
    have := bulk_one d
    have := bulkAll_len L
    simp only [List.length_cons, Rows.uptoBulkAll]
    omega
/-- A cell that was read lies in a block. -/
theorem cell_in {W : World} {a : Addr} {v : Value} (h : W.cell? a = some v) : a.block < W.heap.size := by
  by_cases hb : a.block < W.heap.size
  · exact hb
  · exfalso
    unfold World.cell? at h
    rw [Array.getElem?_eq_none (by omega)] at h
    simp at h
theorem cell_flat {W : World} {a : Addr} {v : Value} (h : W.cell? a = some v) : ∃ b off, a = ⟨b, off, none⟩ ∧ b < W.heap.size := by
  have hlt := cell_in h
  obtain ⟨b, off, s⟩ := a
  cases s with
  | none => exact ⟨b, off, rfl, hlt⟩
  | some s => exfalso; unfold World.cell? at h; simp only at h; generalize W.heap[b]? = o at h; cases o with | none => cases h | some o => cases o <;> simp at h
/-- A slice whose elements read as enc tells, wherever it stands; its weight. -/
theorem open_rsb {α : Type} {k : Nat} {enc : α → List Value} {ok : α → Prop} {wt : α → Nat} {H : Type} {ec : TypeId × Value → H} {P : Program} {W : World} {base : Nat} {sp : Nat → Bool} {held : Bool} {T E : TypeId} {v : Value} {m0 : Nat} {x : DataW H × List MemPlace} [Inhabited α]
    (hT : P.underlying T = some (.slice E)) (hC : P.cellsOf E = k) (hk : 0 < k) (hlen : ∀ x, (enc x).length = k)
    (helem : ∀ (m : Nat) (cs : List Value) (x : DataW H × List MemPlace), cs.length = k → DataW.trod ec P W base sp held m E cs = some x → ∃ a : α, cs = enc a ∧ ok a ∧ wt a ≤ Rows.uptoBulk x.1)
    (hf : DataW.trod ec P W base sp held m0 T [v] = some x) : ∃ l : List α, RS k enc W v l ∧ (∀ x ∈ l, ok x) ∧ (l.map wt).sum + 1 ≤ Rows.uptoBulk x.1 ∧ l.length + 1 ≤ Rows.uptoBulk x.1 ∧ (∃ a n c, v = .slice a n c) ∧ (l = [] ∨ ∀ b, v.ownBlock = some b → b < W.heap.size) := by
  rcases open_slice hT hf with ⟨hc, rfl⟩ | ⟨a, len, cap, m, kk, D, Pl, hc, _, hl, hm, hmm, rfl, hall⟩
  · cases hc
    exact ⟨[], RS.nil _ _ _, (fun x hx => by cases hx), by simp [Rows.uptoBulk], by simp [Rows.uptoBulk], ⟨_, _, _, rfl⟩, .inl rfl⟩
  · cases hc
    have hlm : len ≤ m := by rw [hmm]; split <;> omega
    rw [hC] at hall
    have each : ∀ i, i < len → ∃ q : α, (∀ j u, (enc q)[j]? = some u → W.cell? ((a.add (i * k)).add j) = some u) ∧ ok q ∧ wt q ≤ Rows.uptoBulk (D i) := by
      intro i hi
      obtain ⟨cs', h1, h2⟩ := hall i (by omega)
      obtain ⟨_, hl', hcell⟩ := World.cells?_some h1
      obtain ⟨q, rfl, hq⟩ := helem _ _ _ hl' h2
      refine ⟨q, fun j u hu => ?_, hq⟩
      rw [hcell j (by have := (List.getElem?_eq_some_iff.1 hu).1; rw [hlen] at this; exact this)]; exact hu
    obtain ⟨q, hq⟩ := choose_lt each
    have hw := bulkAll_map q wt D (List.range len) fun i hi => (hq i (List.mem_range.1 hi)).2.2
    have hn := bulkAll_len ((List.range len).map D)
    rw [List.length_map, List.length_range] at hn
    have hbk : len ≠ 0 → ∃ b off, a = ⟨b, off, none⟩ ∧ b < W.heap.size := fun h0 => by
      have h1 := (hq 0 (by omega)).1 0
      have hg : ∃ u, (enc (q 0))[0]? = some u := ⟨(enc (q 0))[0]'(by rw [hlen]; exact hk), List.getElem?_eq_getElem _⟩
      obtain ⟨u, hu⟩ := hg
      exact cell_flat (show W.cell? a = some u by simpa [Addr.add] using h1 u hu)
    refine ⟨(List.range len).map q, ⟨some a, cap, by simp, by simpa using hl, hm, fun hne => ?_⟩, fun x hx => ?_, by simp only [Rows.uptoBulk]; omega, by simp only [Rows.uptoBulk, List.length_map, List.length_range]; omega, ⟨_, _, _, rfl⟩, ?_⟩
    · have h0 : len ≠ 0 := fun e => hne (by subst e; rfl)
      obtain ⟨b, off, rfl, hb⟩ := hbk h0
      refine ⟨b, off, rfl, hb, fun i hi j u hu => ?_⟩
      have hi' : i < len := by simpa using hi
      have := (hq i hi').1 j u (by simpa using hu)
      rw [add_add' ⟨b, off, none⟩ rfl, add_add' _ rfl] at this
      exact this
    · obtain ⟨i, hi, rfl⟩ := List.mem_map.1 hx
      exact (hq i (List.mem_range.1 hi)).2.1
    · by_cases h0 : len = 0
      · subst h0; exact .inl rfl
      · obtain ⟨b, off, rfl, hb⟩ := hbk h0
        exact .inr fun b' e => by cases e; exact hb
end Go.Proofs.Ytnckjacbkhoppaa
