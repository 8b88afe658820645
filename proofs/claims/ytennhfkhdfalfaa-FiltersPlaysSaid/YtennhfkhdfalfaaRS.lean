/- Slices whose elements are told by a list: read, and of the call's own. No program in it. -/
import Derived.Test.YtennhfkhdfalfaaChg
namespace Go.Proofs.Ytennhfkhdfalfaa
open Go.RowKit
section
variable {α : Type} {k : Nat} {enc : α → List Value} {w w' : World} {v : Value} {l : List α}
/-- v is a slice whose elements, k cells each, are those of l. -/
def RS (k : Nat) (enc : α → List Value) (w : World) (v : Value) (l : List α) : Prop :=
  ∃ a cap, v = .slice a l.length cap ∧ l.length ≤ cap ∧ cap ≤ maxLen ∧
    (l ≠ [] → ∃ b off, a = some ⟨b, off, none⟩ ∧ b < w.heap.size ∧ ∀ i (hi : i < l.length) j u, (enc l[i])[j]? = some u → w.cell? ⟨b, off + i * k + j, none⟩ = some u)
theorem RS.nil (k : Nat) (enc : α → List Value) (w : World) : RS k enc w (.slice none 0 0) [] := ⟨none, 0, rfl, by simp, by simp [maxLen], fun h => absurd rfl h⟩
theorem RS.chg {F : Nat → Prop} (h : RS k enc w v l) (hc : Chg F w w') (hf : ∀ b, v.ownBlock = some b → ¬ F b) : RS k enc w' v l := by
  obtain ⟨a, cap, rfl, h1, h2, h3⟩ := h
  refine ⟨a, cap, rfl, h1, h2, fun hn => ?_⟩
  obtain ⟨b, off, rfl, hb, hc'⟩ := h3 hn
  exact ⟨b, off, rfl, Nat.lt_of_lt_of_le hb hc.size, fun i hi j u hu => by rw [hc.cell hb (hf b rfl)]; exact hc' i hi j u hu⟩
theorem RS.below (h : RS k enc w v l) (hb : Below w.heap.size w w') : RS k enc w' v l := h.chg (.of_below (fun _ => False) hb) fun _ _ => id
theorem RS.len (h : RS k enc w v l) : l.length ≤ maxLen := by obtain ⟨a, cap, _, h1, h2, _⟩ := h; omega
/-- The slice, spelled, and the element at i. -/
theorem RS.at_ (h : RS k enc w v l) : ∃ a n cap, v = .slice a n cap ∧ n = l.length ∧ n ≤ cap ∧ cap ≤ maxLen ∧ ∀ i x, l[i]? = some x → ∃ b off, a = some ⟨b, off, none⟩ ∧ b < w.heap.size ∧
    ∀ j u, (enc x)[j]? = some u → w.cell? ⟨b, off + i * k + j, none⟩ = some u := by
  obtain ⟨a, cap, rfl, h1, h2, h3⟩ := h
  refine ⟨a, _, cap, rfl, rfl, h1, h2, fun i x hx => ?_⟩
  obtain ⟨hi, rfl⟩ := List.getElem?_eq_some_iff.1 hx
  obtain ⟨b, off, rfl, hb, hc'⟩ := h3 (by intro e; rw [e] at hi; simp at hi)
  exact ⟨b, off, rfl, hb, fun j u hu => hc' i hi j u hu⟩
theorem at_lt {α : Type} {l : List α} {i : Nat} (h : i < l.length) : ∃ x, l[i]? = some x := ⟨_, List.getElem?_eq_getElem h⟩
theorem take_at {α : Type} {l : List α} {i : Nat} {x : α} (h : l[i]? = some x) : l.take (i + 1) = l.take i ++ [x] := by rw [List.take_add_one, h]; rfl
theorem parted_at {α : Type} {l : List α} {i : Nat} {x : α} (h : l[i]? = some x) : l = l.take i ++ x :: l.drop (i + 1) := by
  obtain ⟨hi, rfl⟩ := List.getElem?_eq_some_iff.1 h
  rw [← List.drop_eq_getElem_cons hi, List.take_append_drop]
theorem mem_at {α : Type} {l : List α} {i : Nat} {x : α} (h : l[i]? = some x) : x ∈ l := List.mem_of_getElem? h
/-- A slice of the call's own. -/
def OwnL (e k : Nat) (enc : α → List Value) (w : World) (base : Nat) (v : Value) (l : List α) : Prop := w.ownsRow base e k v l.length (l.flatMap enc)
theorem flat_at (hk : ∀ x, (enc x).length = k) : ∀ (l : List α) i (hi : i < l.length) j, j < k → (l.flatMap enc)[i * k + j]? = (enc l[i])[j]?
  | [], i, hi, _, _ => absurd hi (by simp)
  | x :: t, 0, _, j, hj => by
    rw [List.flatMap_cons, List.getElem?_append_left (by rw [hk]; omega)]; simp
  | x :: t, i + 1, hi, j, hj => by
    rw [List.flatMap_cons, List.getElem?_append_right (by rw [hk, Nat.add_mul]; omega), hk, show (i + 1) * k + j - k = i * k + j by rw [Nat.add_mul]; omega, flat_at hk t i (by simpa using hi) j hj]
    simp
theorem OwnL.nil (e k : Nat) (enc : α → List Value) (w : World) (base : Nat) : OwnL e k enc w base (.slice none 0 0) [] := World.ownsRow_nil _ _ _ _
theorem OwnL.rs {e base : Nat} (h : OwnL e k enc w base v l) (hk : ∀ x, (enc x).length = k) : RS k enc w v l := by
  have hc := fun g hg => World.ownsRow.cells h (g := g) hg
  rcases h.2 with ⟨rfl, h0⟩ | ⟨b, cap, cur, rfl, h0, hg, h1, h2, h3, h4⟩
  · have hl : l = [] := List.eq_nil_of_length_eq_zero h0
    subst hl; exact RS.nil _ _ _
  · refine ⟨_, cap, rfl, h1, h2, fun _ => ⟨b, 0, rfl, (Array.getElem?_eq_some_iff.1 hg).1, fun i hi j u hu => ?_⟩⟩
    have hj : j < k := by
      have := (List.getElem?_eq_some_iff.1 hu).1
      rw [hk] at this; exact this
    have e1 := hc b rfl (i * k + j) u ((flat_at hk l i hi j hj).trans hu)
    rw [Addr.add_lit] at e1
    rw [show 0 + i * k + j = 0 + (i * k + j) by omega]
    exact e1
theorem OwnL.chg {e base : Nat} {F : Nat → Prop} (h : OwnL e k enc w base v l) (hc : Chg F w w') (hf : ∀ b, v.ownBlock = some b → ¬ F b) : OwnL e k enc w' base v l := ownsRow_chg h hc hf
theorem OwnL.below {e base : Nat} (h : OwnL e k enc w base v l) (hb : Below w.heap.size w w') : OwnL e k enc w' base v l := h.chg (.of_below (fun _ => False) hb) fun _ _ => id
theorem OwnL.lt {e base : Nat} (h : OwnL e k enc w base v l) : ∀ b, v.ownBlock = some b → base ≤ b ∧ b < w.heap.size := World.ownsRow.lt h
/-- 'append' of one element, which lies in a new block. -/
theorem OwnL.app {P : Program} {e base t ty : Nat} (h : OwnL e k enc w base v l) {i : TypeInfo} {z : Value} {bytes : Nat} (ht : P.underlying t = some (.slice e)) (hi : P.info? e = some i) (hz : i.zero = some z)
    (hsize : i.size = k) (hby : i.bytes = bytes) (hzs : z.cells.size = k) (hk0 : 0 < k) (hk : ∀ x, (enc x).length = k) (x : α) {b c : Nat} (hx : ∀ j u, (enc x)[j]? = some u → w.cell? ⟨b, j, none⟩ = some u) (h1 : ∀ u ∈ enc x, u.oneCell' = true)
    (hl : (l.length + 1) * bytes ≤ 140737488355328) (hl2 : l.length + 1 ≤ maxLen) (hb : base ≤ w.heap.size) :
    ∃ v' w', (Builtin.append_ #[t, t] ty #[v, .slice (some ⟨b, 0, none⟩) 1 c]).run P w = .ok v' w' ∧ OwnL e k enc w' base v' (l ++ [x]) ∧ w.grownBy w' v.ownBlock ∧ (v'.ownBlock = v.ownBlock ∨ v'.ownBlock = some w.heap.size) := by
  obtain ⟨v', w', r1, r2, r3, r4⟩ := run_app (P := P) w base t ty e i z k bytes ht hi hz hsize hby hzs hk0 v l.length (l.flatMap enc) h ⟨b, 0, none⟩ 1 c (enc x) (by rw [hk]; omega)
    (fun j u' hj => by rw [Addr.add_lit]; simpa using hx j u' hj) h1 (by omega) hl hb
  refine ⟨v', w', r1, ?_, r3, r4⟩
  unfold OwnL
  rw [List.length_append, List.flatMap_append]
  simpa using r2
/-- v[i:]. -/
theorem RS.from_ {P : Program} {T e : Nat} (h : RS k enc w v l) {i : Nat} (hi : i ≤ l.length) (ht : P.underlying T = some (.slice e)) {inf : TypeInfo} (hinf : P.info? e = some inf) (hsz : inf.size = k) :
    ∃ v', (∀ w0, (Instr.slice T v (some (.int .i64 (i : Int))) none none).run P w0 = .ok v' w0) ∧ (∀ w0, RS k enc w0 v l → RS k enc w0 v' (l.drop i)) ∧ ∀ b, v'.ownBlock = some b → v.ownBlock = some b := by
  obtain ⟨a, cap, rfl, h1, h2, _⟩ := h
  refine ⟨.slice (if cap = i then a else a.map (·.add (i * k))) (l.length - i) (cap - i), fun w0 => ?_, fun w0 h0 => ?_, fun b hb => ?_⟩
  · simp [Instr.slice, Instr.sliceBounds, Instr.sliceBound, asIntOf, run_underlying ht, sizeOf, typeInfo, hinf, hsz, Result.andThen, hi]
  · obtain ⟨a', cap', e', _, _, h3⟩ := h0
    cases e'
    refine ⟨_, _, by rw [List.length_drop], by rw [List.length_drop]; omega, by omega, fun hn => ?_⟩
    have hil : i < l.length := by
      rcases Nat.lt_or_ge i l.length with h | h
      · exact h
      · exact absurd (List.drop_eq_nil_of_le h) hn
    obtain ⟨b, off, rfl, hb, hc⟩ := h3 (by intro e; rw [e] at hil; simp at hil)
    refine ⟨b, off + i * k, ?_, hb, fun j hj j2 u hu => ?_⟩
    · rw [if_neg (by omega)]
      show some (Addr.add ⟨b, off, none⟩ (i * k)) = _
      by_cases h0 : i * k = 0
      · rw [h0]; simp [Addr.add]
      · simp [Addr.add, h0]
    · rw [List.getElem_drop] at hu
      have := hc (i + j) (by rw [List.length_drop] at hj; omega) j2 u hu
      rw [Nat.add_mul] at this
      rw [show off + i * k + j * k + j2 = off + (i * k + j * k) + j2 by omega]
      exact this
  · split at hb
    · cases a with
      | none => cases hb
      | some a => exact hb
    · cases a with
      | none => cases hb
      | some a =>
        simp [Value.ownBlock] at hb ⊢
        rw [← hb]; unfold Addr.add; split <;> rfl
/-- v[:i]. -/
theorem RS.upto {P : Program} {T e : Nat} (h : RS k enc w v l) {i : Nat} (hi : i ≤ l.length) (ht : P.underlying T = some (.slice e)) {inf : TypeInfo} (hinf : P.info? e = some inf) (hsz : inf.size = k) :
    ∃ v', (∀ w0, (Instr.slice T v none (some (.int .i64 (i : Int))) none).run P w0 = .ok v' w0) ∧ (∀ w0, RS k enc w0 v l → RS k enc w0 v' (l.take i)) ∧ ∀ b, v'.ownBlock = some b → v.ownBlock = some b := by
  obtain ⟨a, cap, rfl, h1, h2, _⟩ := h
  have hi' : i ≤ cap := by omega
  refine ⟨.slice (if cap = 0 then a else a.map (·.add (0 * k))) (i - 0) (cap - 0), fun w0 => ?_, fun w0 h0 => ?_, fun b hb => ?_⟩
  · simp [Instr.slice, Instr.sliceBounds, Instr.sliceBound, asIntOf, run_underlying ht, sizeOf, typeInfo, hinf, hsz, Result.andThen, hi']
  · obtain ⟨a', cap', e', _, _, h3⟩ := h0
    cases e'
    have hl : (l.take i).length = i := by rw [List.length_take]; omega
    refine ⟨_, _, by rw [hl, Nat.sub_zero], by rw [hl]; omega, by omega, fun hn => ?_⟩
    obtain ⟨b, off, rfl, hb, hc⟩ := h3 (by intro e; rw [e] at hn; simp at hn)
    refine ⟨b, off, ?_, hb, fun j hj j2 u hu => ?_⟩
    · split
      · rfl
      · simp [Addr.add]
    · rw [List.getElem_take] at hu
      exact hc j (by rw [List.length_take] at hj; omega) j2 u hu
  · split at hb
    · cases a with
      | none => cases hb
      | some a => exact hb
    · cases a with
      | none => cases hb
      | some a =>
        simp [Value.ownBlock, Addr.add] at hb ⊢
        exact hb
end
end Go.Proofs.Ytennhfkhdfalfaa
