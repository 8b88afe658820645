/- What came in takes no more than the reach: each slice within it, however deep. No program. -/
import Derived.Test.YtennhfkhdfalfaaOpenRS
import Derived.SizedLaws
namespace Go.Proofs.Ytennhfkhdfalfaa
open Go.RowKit Go.ChangeShapes Go.WideShapes Go.ChangeAt Go.Joins Go.Deep
/-- Whatever is read there takes no more than the reach. -/
def WB {H : Type} (P : Program) (t : TypeId) (d : DataW H) : Prop := ∀ n ∈ DataW.weights P t d, n ≤ reachBytes
theorem WB.arg {H : Type} {P : Program} {ts : List TypeId} {ds : List (DataW H)} (h : (DataW.weightsEach P ts ds).all (· ≤ reachBytes) = true) {j : Nat} {t : TypeId} {d : DataW H} (ht : ts[j]? = some t) (hd : ds[j]? = some d) : WB P t d :=
  fun n hn => of_decide_eq_true (List.all_eq_true.1 h _ (DataW.weights_mem_each ht hd n hn))
theorem WB.part {H : Type} {P : Program} {t u : TypeId} {fs : Array Field} {parts : List (DataW H)} {d : DataW H} (h : WB P t (.agg parts)) (ht : P.underlying t = some (.struct fs)) {j : Nat} (hj : (fs.toList.map (·.type))[j]? = some u) (hd : parts[j]? = some d) : WB P u d :=
  fun n hn => h n (by simp only [DataW.weights, ht]; exact DataW.weights_mem_each hj hd n hn)
theorem wb_all {H : Type} {P : Program} {e : TypeId} {d : DataW H} : ∀ {L : List (DataW H)}, d ∈ L → ∀ n ∈ DataW.weights P e d, n ∈ DataW.weightsAll P e L
  | d' :: L, h, n, hn => by
    simp only [DataW.weightsAll, List.mem_append]
    rcases List.mem_cons.1 h with rfl | h
    · exact .inl hn
    · exact .inr (wb_all h n hn)
theorem WB.elem {H : Type} {P : Program} {t e : TypeId} {elems spare : List (DataW H)} {d : DataW H} (h : WB P t (.slice elems spare)) (ht : P.underlying t = some (.slice e)) (hd : d ∈ elems) : WB P e d :=
  fun n hn => h n (by simp only [DataW.weights, ht, List.mem_cons, List.mem_append]; exact .inr (.inl (wb_all hd n hn)))
theorem WB.slice {H : Type} {P : Program} {t e : TypeId} {elems spare : List (DataW H)} (h : WB P t (.slice elems spare)) (ht : P.underlying t = some (.slice e)) : (elems.length + spare.length) * P.bytesOf e ≤ reachBytes :=
  h _ (by simp [DataW.weights, ht])
/-- A cell that was read lies in a block, plainly. -/
theorem cell_flatS {W : World} {a : Addr} {v : Value} (h : W.cell? a = some v) : ∃ b off, a = ⟨b, off, none⟩ ∧ b < W.heap.size := by
  have hlt : a.block < W.heap.size := by
    by_cases hb : a.block < W.heap.size
    · exact hb
    · exfalso
      unfold World.cell? at h
      rw [Array.getElem?_eq_none (by omega)] at h
      simp at h
  obtain ⟨b, off, s⟩ := a
  cases s with
  | none => exact ⟨b, off, rfl, hlt⟩
  | some s => exfalso; unfold World.cell? at h; simp only at h; generalize W.heap[b]? = o at h; cases o with | none => cases h | some o => cases o <;> simp at h
/-- A slice whose elements read as enc tells, wherever it stands; each element is told its reach. -/
theorem open_rsz {α : Type} {k : Nat} {enc : α → List Value} {ok : α → Prop} {H : Type} {ec : TypeId × Value → H} {P : Program} {W : World} {base : Nat} {sp : Nat → Bool} {held : Bool} {T E : TypeId} {v : Value} {m0 : Nat} {x : DataW H × List MemPlace} [Inhabited α]
    (hT : P.underlying T = some (.slice E)) (hC : P.cellsOf E = k) (hk : 0 < k) (hlen : ∀ x, (enc x).length = k)
    (helem : ∀ (m : Nat) (cs : List Value) (x : DataW H × List MemPlace), cs.length = k → DataW.trod ec P W base sp held m E cs = some x → WB P E x.1 → ∃ a : α, cs = enc a ∧ ok a)
    (hw : WB P T x.1) (hf : DataW.trod ec P W base sp held m0 T [v] = some x) : ∃ l : List α, RS k enc W v l ∧ (∀ x ∈ l, ok x) ∧ l.length * P.bytesOf E ≤ reachBytes ∧ (∃ a n c, v = .slice a n c) ∧ (l = [] ∨ ∀ b, v.ownBlock = some b → b < W.heap.size) := by
  rcases open_slice hT hf with ⟨hc, rfl⟩ | ⟨a, len, cap, m, kk, D, Pl, hc, _, hl, hm, hmm, rfl, hall⟩
  · cases hc
    exact ⟨[], RS.nil _ _ _, (fun x hx => by cases hx), by simp, ⟨_, _, _, rfl⟩, .inl rfl⟩
  · cases hc
    have hlm : len ≤ m := by rw [hmm]; split <;> omega
    rw [hC] at hall
    have each : ∀ i, i < len → ∃ q : α, (∀ j u, (enc q)[j]? = some u → W.cell? ((a.add (i * k)).add j) = some u) ∧ ok q := by
      intro i hi
      obtain ⟨cs', h1, h2⟩ := hall i (by omega)
      obtain ⟨_, hl', hcell⟩ := World.cells?_some h1
      obtain ⟨q, rfl, hq⟩ := helem _ _ _ hl' h2 (hw.elem hT (List.mem_map.2 ⟨i, List.mem_range.2 hi, rfl⟩))
      refine ⟨q, fun j u hu => ?_, hq⟩
      rw [hcell j (by have := (List.getElem?_eq_some_iff.1 hu).1; rw [hlen] at this; exact this)]; exact hu
    obtain ⟨q, hq⟩ := choose_lt each
    have hn := hw.slice hT
    simp only [List.length_map, List.length_range] at hn
    have hbk : len ≠ 0 → ∃ b off, a = ⟨b, off, none⟩ ∧ b < W.heap.size := fun h0 => by
      have h1 := (hq 0 (by omega)).1 0
      obtain ⟨u, hu⟩ : ∃ u, (enc (q 0))[0]? = some u := ⟨(enc (q 0))[0]'(by rw [hlen]; exact hk), List.getElem?_eq_getElem _⟩
      exact cell_flatS (show W.cell? a = some u by simpa [Addr.add] using h1 u hu)
    refine ⟨(List.range len).map q, ⟨some a, cap, by simp, by simpa using hl, hm, fun hne => ?_⟩, fun x hx => ?_, ?_, ⟨_, _, _, rfl⟩, ?_⟩
    · have h0 : len ≠ 0 := fun e => hne (by subst e; rfl)
      obtain ⟨b, off, rfl, hb⟩ := hbk h0
      refine ⟨b, off, rfl, hb, fun i hi j u hu => ?_⟩
      have hi' : i < len := by simpa using hi
      have := (hq i hi').1 j u (by simpa using hu)
      rw [add_add' ⟨b, off, none⟩ rfl, add_add' _ rfl] at this
      exact this
    · obtain ⟨i, hi, rfl⟩ := List.mem_map.1 hx
      exact (hq i (List.mem_range.1 hi)).2
    · rw [List.length_map, List.length_range]
      exact Nat.le_trans (Nat.mul_le_mul_right _ (Nat.le_add_right _ _)) hn
    · by_cases h0 : len = 0
      · subst h0; exact .inl rfl
      · obtain ⟨b, off, rfl, hb⟩ := hbk h0
        exact .inr fun b' e => by cases e; exact hb
end Go.Proofs.Ytennhfkhdfalfaa
