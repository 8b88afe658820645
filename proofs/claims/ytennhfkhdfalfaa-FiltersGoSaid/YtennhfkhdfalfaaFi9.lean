/- filters: slices.DeleteFunc at filters. -/
import Derived.Test.YtennhfkhdfalfaaFi8
namespace Go.Proofs.Ytennhfkhdfalfaa
open Go.RowKit Go.Maps
attribute [local go_sem] ext_cell ext_frozen extC_cell extC_frozen Mix.calmUpon Mix.mUpon
/-- The first place at which p holds. -/
theorem idx_first {l : List Fl} (p : Fl → Bool) : (∃ i x, l[i]? = some x ∧ p x = true ∧ (∀ y ∈ l.take i, p y = false)) ∨ ∀ x ∈ l, p x = false := by
  induction l with
  | nil => exact .inr fun x h => by cases h
  | cons a t ih =>
    cases h : p a with
    | true => exact .inl ⟨0, a, rfl, h, fun y hy => by cases hy⟩
    | false =>
      rcases ih with ⟨i, x, h1, h2, h3⟩ | h3
      · exact .inl ⟨i + 1, x, by simpa using h1, h2, fun y hy => by
          rw [List.take_succ_cons] at hy
          rcases List.mem_cons.1 hy with rfl | hy
          · exact h
          · exact h3 y hy⟩
      · exact .inr fun x hx => by
          rcases List.mem_cons.1 hx with rfl | hx
          · exact h
          · exact h3 x hx
open Go.Shelf Go.Lib in
theorem idxBy_at {α : Type} [Inhabited α] (p : α → Bool) : ∀ (l : List α) (k : Nat), (∀ i x, l[i]? = some x → p x = true → (∀ y ∈ l.take i, p y = false) → idxByFrom (fun _ y => p y) default l k = ((k + i : Nat) : Int)) ∧ ((∀ x ∈ l, p x = false) → idxByFrom (fun _ y => p y) default l k = -1)
  | [], k => ⟨fun i x h => by simp at h, fun _ => rfl⟩
  | a :: t, k => by
    obtain ⟨h1, h2⟩ := idxBy_at p t (k + 1)
    refine ⟨fun i x hx hp hn => ?_, fun hn => ?_⟩
    · cases i with
      | zero =>
        cases hx
        simp [idxByFrom, hp]
      | succ i =>
        have ha : p a = false := hn a (by simp)
        have := h1 i x (by simpa using hx) hp fun y hy => hn y (by simp [hy])
        simp only [idxByFrom, ha]
        rw [if_neg (by simp), this]
        congr 1; omega
    · have ha : p a = false := hn a (by simp)
      simp only [idxByFrom, ha]
      rw [if_neg (by simp)]
      exact h2 fun x hx => hn x (by simp [hx])
open Go.Shelf Go.Lib in
set_option maxRecDepth 100000 in
/-- slices.IndexFunc at filters. -/
theorem findex {w : World} {v : Value} {l : List Fl} (hr : RS 4 flenc w v l) (hne : l ≠ []) (p : Fl → Bool) (g : Nat) (lb : Array Value) (eg : ∀ args w, (callFunc g args).run Try.prog w = .ok (.enter g args) w)
    (hp : ∀ (W : World) (x : Fl), x ∈ l → Below w.heap.size w W → Calls Try.prog g (#[flval x] ++ lb) W fun e w' => e = .returned (.bool (p x)) ∧ Below w.heap.size w w') :
    Calls Try.prog 146 #[v, .func (.func g) #[] lb] w fun e w' => (∃ k : Int, e = .returned (.int .i64 k) ∧ (∀ i x, l[i]? = some x → p x = true → (∀ y ∈ l.take i, p y = false) → k = (i : Int)) ∧ ((∀ x ∈ l, p x = false) → k = -1)) ∧ Below w.heap.size w w' := by
  obtain ⟨a, c, rfl, hc, hm, hat⟩ := hr
  obtain ⟨q, off, rfl, hq, hcell⟩ := hat hne
  obtain ⟨x0, hx0⟩ : ∃ x, x ∈ l := List.exists_mem_of_ne_nil l hne
  letI : Inhabited { x : Fl // x ∈ l } := ⟨⟨x0, hx0⟩⟩
  have hcon := AnyQ.slices_IndexFunc Lb.Try.indexF 4 Try.isAgg72 Try.sizeOf72 (α := { x : Fl // x ∈ l }) (fun x => flenc x.1) (fun _ => rfl) (fun x => p x.1) g lb eg q off l.length c l.attach w
    (fun W x hb => hp W x.1 x.2 hb) (by simp) (by unfold maxLen at hm; omega) hq (fun j hj i u hi => by
      have hj' : j < l.length := by simpa using hj
      refine hcell j hj' i u ?_
      rw [getElem!_pos l.attach j hj] at hi
      simpa using hi)
  change Calls Try.prog 146 _ _ _ at hcon
  rw [List.take_of_length_le (by simp)] at hcon
  refine hcon.mono fun e w' ⟨h1, h2⟩ => ⟨⟨_, h1, ?_, ?_⟩, h2⟩
  · intro i x hx hpx hn
    obtain ⟨hi, rfl⟩ := List.getElem?_eq_some_iff.1 hx
    have := (idxBy_at (fun x : { x : Fl // x ∈ l } => p x.1) l.attach 0).1 i ⟨l[i], List.getElem_mem hi⟩ (by rw [List.getElem?_eq_getElem (by simpa using hi)]; simp) hpx fun y hy => by
      refine hn y.1 ?_
      have : y.1 ∈ (l.attach.take i).map (·.1) := List.mem_map.2 ⟨y, hy, rfl⟩
      rwa [List.map_take, List.attach_map_subtype_val] at this
    rw [Nat.zero_add] at this
    exact this
  · intro hn
    exact (idxBy_at (fun x : { x : Fl // x ∈ l } => p x.1) l.attach 0).2 fun x _ => hn x.1 x.2
end Go.Proofs.Ytennhfkhdfalfaa
