/- Maps of the call's own, by the list of their entries: keys of a type told by 'Keyed', elements whatever values. No program in it. -/
import Derived.Test.YtennhfkhdfalfaaMix
import Derived.Maps.Own
import Derived.Maps.OwnOps
import Derived.Maps.OwnSet
import Derived.Maps.Keyed
import Derived.DeepKeys4
import Derived.OwnWalk
import Derived.Maps.RangeRun
namespace Go.Proofs.Ytennhfkhdfalfaa
open Go.RowKit Go.MapKept Go.Maps
open Go.ChangeMaps (setBlock)
/-- How keys of a type are spelled. -/
structure KEnc (P : Program) (k : TypeId) (κ : Type) where
  enc : κ → Value
  ok : κ → Prop
  lit : ∀ x, ok x → ∃ l, keyOf P k (enc x) = some l
  inj : ∀ x y, ok x → ok y → enc x = enc y → x = y
section
variable {κ : Type} [DecidableEq κ]
/-- An entry put in: in the place of the one with its key, or at the end. -/
def mput (L : List (κ × Value)) (x : κ) (v : Value) : List (κ × Value) := if (L.lookup x).isSome then L.map (fun p => if p.1 = x then (x, v) else p) else L ++ [(x, v)]
def mdel (L : List (κ × Value)) (x : κ) : List (κ × Value) := L.filter fun p => decide (p.1 ≠ x)
theorem look_none {L : List (κ × Value)} {x : κ} : L.lookup x = none ↔ ∀ p ∈ L, p.1 ≠ x := by
  induction L with
  | nil => simp
  | cons p t ih =>
    obtain ⟨a, b⟩ := p
    by_cases h : x = a
    · subst h; simp
    · rw [List.lookup_cons, show (x == a) = false by simpa using h]
      simp only [ih, List.mem_cons]
      exact ⟨fun h' p hp => by rcases hp with rfl | hp; exact fun e => h e.symm; exact h' p hp, fun h' p hp => h' p (.inr hp)⟩
theorem look_mem {L : List (κ × Value)} {x : κ} {v : Value} (h : L.lookup x = some v) : (x, v) ∈ L := by
  induction L with
  | nil => simp at h
  | cons p t ih =>
    obtain ⟨a, b⟩ := p
    by_cases he : x = a
    · subst he; simp at h; subst h; simp
    · rw [List.lookup_cons, show (x == a) = false by simpa using he] at h
      exact List.mem_cons_of_mem _ (ih h)
theorem look_of_mem {L : List (κ × Value)} {x : κ} {v : Value} (hn : (L.map (·.1)).Nodup) (h : (x, v) ∈ L) : L.lookup x = some v := by
  induction L with
  | nil => cases h
  | cons p t ih =>
    obtain ⟨a, b⟩ := p
    rw [List.map_cons, List.nodup_cons] at hn
    by_cases he : x = a
    · subst he
      rcases List.mem_cons.1 h with e | h
      · simp at e; simp [e]
      · exact absurd (List.mem_map.2 ⟨_, h, rfl⟩) hn.1
    · rw [List.lookup_cons, show (x == a) = false by simpa using he]
      rcases List.mem_cons.1 h with e | h
      · simp at e; exact absurd e.1 he
      · exact ih hn.2 h
theorem look_append (L M : List (κ × Value)) (x : κ) : (L ++ M).lookup x = ((L.lookup x).or (M.lookup x)) := by
  induction L with
  | nil => simp
  | cons p t ih =>
    obtain ⟨a, b⟩ := p
    by_cases he : x = a
    · subst he; simp
    · rw [List.cons_append, List.lookup_cons, List.lookup_cons, show (x == a) = false by simpa using he, ih]
theorem look_mput (L : List (κ × Value)) (x y : κ) (v : Value) : (mput L x v).lookup y = if y = x then some v else L.lookup y := by
  unfold mput
  cases hx : L.lookup x with
  | none =>
    simp only [Option.isSome_none, Bool.false_eq_true, if_false]
    rw [look_append]
    by_cases h : y = x
    · subst h; rw [hx, if_pos rfl]; simp
    · rw [if_neg h, List.lookup_cons, show (y == x) = false by simpa using h]; simp
  | some u =>
    simp only [Option.isSome_some, if_true]
    by_cases h : y = x
    · subst h
      rw [if_pos rfl]
      induction L with
      | nil => simp at hx
      | cons p t ih =>
        obtain ⟨a, b⟩ := p
        by_cases he : y = a
        · subst he; simp
        · rw [List.lookup_cons, show (y == a) = false by simpa using he] at hx
          rw [List.map_cons, if_neg (fun e => he e.symm), List.lookup_cons, show (y == a) = false by simpa using he]
          exact ih hx
    · rw [if_neg h]
      clear hx
      induction L with
      | nil => simp
      | cons p t ih =>
        obtain ⟨a, b⟩ := p
        by_cases he : a = x
        · subst he
          rw [List.map_cons, if_pos rfl, List.lookup_cons, List.lookup_cons, show (y == a) = false by simpa using h]
          exact ih
        · rw [List.map_cons, if_neg he, List.lookup_cons, List.lookup_cons, ih]
theorem look_mdel (L : List (κ × Value)) (x y : κ) : (mdel L x).lookup y = if y = x then none else L.lookup y := by
  by_cases h : y = x
  · subst h
    rw [if_pos rfl, look_none]
    intro p hp
    unfold mdel at hp
    simpa using (List.mem_filter.1 hp).2
  · rw [if_neg h]
    unfold mdel
    induction L with
    | nil => rfl
    | cons p t ih =>
      obtain ⟨a, b⟩ := p
      by_cases he : a = x
      · subst he
        rw [List.filter_cons, if_neg (by simp), ih, List.lookup_cons, show (y == a) = false by simpa using h]
      · rw [List.filter_cons, if_pos (by simpa using he), List.lookup_cons, List.lookup_cons, ih]
theorem mput_keys_mem {L : List (κ × Value)} {x : κ} {v : Value} {p : κ × Value} (h : p ∈ mput L x v) : p = (x, v) ∨ (p ∈ L ∧ p.1 ≠ x) := by
  unfold mput at h
  cases hx : L.lookup x with
  | none =>
    rw [hx] at h
    simp only [Option.isSome_none, Bool.false_eq_true, if_false, List.mem_append, List.mem_singleton] at h
    rcases h with h | h
    · exact .inr ⟨h, look_none.1 hx p h⟩
    · exact .inl h
  | some u =>
    rw [hx] at h
    simp only [Option.isSome_some, if_true] at h
    obtain ⟨q, hq, rfl⟩ := List.mem_map.1 h
    by_cases he : q.1 = x
    · rw [if_pos he]; exact .inl rfl
    · rw [if_neg he]; exact .inr ⟨hq, he⟩
theorem mput_length (L : List (κ × Value)) (x : κ) (v : Value) : (mput L x v).length = if (L.lookup x).isSome then L.length else L.length + 1 := by
  unfold mput; split <;> simp
theorem mput_keys (L : List (κ × Value)) (x : κ) (v : Value) : (mput L x v).map (·.1) = if (L.lookup x).isSome then L.map (·.1) else L.map (·.1) ++ [x] := by
  unfold mput
  split
  · rw [List.map_map]
    refine List.map_congr_left fun p _ => ?_
    simp only [Function.comp]
    split
    · rename_i h; exact h.symm
    · rfl
  · simp
end
section
variable {P : Program} {k : TypeId} {κ : Type} {E : KEnc P k κ} {w : World} {b : Nat} {L : List (κ × Value)}
/-- Block b is a map with these entries, in the order in which their keys came. -/
def MapK (E : KEnc P k κ) (w : World) (b : Nat) (L : List (κ × Value)) : Prop :=
  ∃ es clock, w.heap[b]? = some (.map es clock) ∧ Stamped es clock ∧ (∀ p ∈ L, E.ok p.1) ∧ es.toList.map (fun e => (e.key, e.val)) = L.map (fun p => (E.enc p.1, p.2))
theorem MapK.lt (h : MapK E w b L) : b < w.heap.size := by obtain ⟨es, c, hb, _⟩ := h; exact (Array.getElem?_eq_some_iff.1 hb).1
theorem MapK.okk (h : MapK E w b L) : ∀ p ∈ L, E.ok p.1 := by obtain ⟨es, c, _, _, h1, _⟩ := h; exact h1
theorem MapK.nodup (h : MapK E w b L) : (L.map (·.1)).Nodup := by
  obtain ⟨es, c, _, ⟨_, _, h3⟩, h1, h2⟩ := h
  have e : es.toList.map (·.key) = L.map (fun p => E.enc p.1) := by
    have := congrArg (List.map Prod.fst) h2
    simpa [List.map_map, Function.comp_def] using this
  rw [e] at h3
  have : (L.map (fun p => E.enc p.1)) = (L.map (·.1)).map E.enc := by simp [List.map_map, Function.comp_def]
  rw [this] at h3
  exact List.Pairwise.of_map E.enc (fun a b hab e => hab (by rw [e])) h3
theorem MapK.made (w : World) : MapK E (w.alloc (.map #[] 0)) w.heap.size ([] : List (κ × Value)) := ⟨#[], 0, heap_alloc_new w _, stamped_empty 0, (fun p hp => by cases hp), rfl⟩
theorem MapK.kept {w' : World} {row : Option Nat} (h : MapK E w b L) (hg : w.grownBy w' row) (hne : some b ≠ row) : MapK E w' b L := by
  have hl := h.lt
  obtain ⟨es, c, hb, r⟩ := h; exact ⟨es, c, (hg.block b hl hne).trans hb, r⟩
theorem MapK.same {w' : World} (h : MapK E w b L) (hg : w'.heap[b]? = w.heap[b]?) : MapK E w' b L := by
  obtain ⟨es, c, hb, r⟩ := h; exact ⟨es, c, hg.trans hb, r⟩
theorem MapK.below {w' : World} {n : Nat} (h : MapK E w b L) (hb : Below n w w') (hn : b < n) : MapK E w' b L := h.same (hb.block b hn)
theorem MapK.lits (h : MapK E w b L) : ∀ es clock, w.heap[b]? = some (.map es clock) → ∀ e ∈ es.toList, ∃ l, keyOf P k e.key = some l := by
  obtain ⟨es, c, hb, _, h1, h2⟩ := h
  intro es' c' hb' e he
  rw [hb] at hb'; cases hb'
  have : (e.key, e.val) ∈ L.map (fun p => (E.enc p.1, p.2)) := by rw [← h2]; exact List.mem_map.2 ⟨e, he, rfl⟩
  obtain ⟨p, hp, hpe⟩ := List.mem_map.1 this
  simp at hpe
  rw [← hpe.1]; exact E.lit _ (h1 p hp)
/-- A key found among the entries, or not. -/
theorem MapK.find [DecidableEq κ] (h : MapK E w b L) (K : Keyed P k) {x : κ} (hx : E.ok x) : ∃ es clock, w.heap[b]? = some (.map es clock) ∧ Stamped es clock ∧ es.toList.map (fun e => (e.key, e.val)) = L.map (fun p => (E.enc p.1, p.2)) ∧
    (((Instr.findKey k (E.enc x) es.toList).run P w = .ok none w ∧ L.lookup x = none ∧ ∀ e ∈ es.toList, e.key ≠ E.enc x) ∨
     ∃ j v born, (Instr.findKey k (E.enc x) es.toList).run P w = .ok (some (j, v)) w ∧ L.lookup x = some v ∧ es[j]? = some ⟨E.enc x, v, born⟩) := by
  have hl := h.lits
  have hnd := h.nodup
  obtain ⟨es, c, hb, hs, h1, h2⟩ := h
  refine ⟨es, c, hb, hs, h2, ?_⟩
  obtain ⟨lx, hlx⟩ := E.lit x hx
  rcases K.find w hlx es.toList (hl es c hb) with ⟨r1, r2⟩ | ⟨j, e0, r1, r2, r3⟩
  · refine .inl ⟨r1, look_none.2 fun p hp he => ?_, r2⟩
    have : (E.enc p.1, p.2) ∈ es.toList.map (fun e => (e.key, e.val)) := by rw [h2]; exact List.mem_map.2 ⟨p, hp, rfl⟩
    obtain ⟨e, he1, he2⟩ := List.mem_map.1 this
    simp at he2
    exact r2 e he1 (by rw [he2.1, he])
  · have hm : e0 ∈ es.toList := List.mem_of_getElem? r2
    have : (e0.key, e0.val) ∈ L.map (fun p => (E.enc p.1, p.2)) := by rw [← h2]; exact List.mem_map.2 ⟨e0, hm, rfl⟩
    obtain ⟨p, hp, hpe⟩ := List.mem_map.1 this
    simp at hpe
    have hpx : p.1 = x := E.inj _ _ (h1 p hp) hx (by rw [hpe.1, r3])
    refine .inr ⟨j, e0.val, e0.born, r1, ?_, by rw [← r3]; simpa using r2⟩
    exact look_of_mem hnd (by rw [← hpx, ← hpe.2]; exact hp)
theorem MapK.look [DecidableEq κ] (h : MapK E w b L) (K : Keyed P k) {t e : TypeId} (ht : P.underlying t = some (.map k e)) {z : Value} (hz : (zeroValue e).run P w = .ok z w) {x : κ} (hx : E.ok x) (c : Bool) :
    (Instr.lookup t (.map (some b)) (E.enc x) c).run P w = .ok (if c then .tuple #[(L.lookup x).getD z, .bool (L.lookup x).isSome] else (L.lookup x).getD z) w := by
  obtain ⟨es, clock, hb, _, _, hf⟩ := h.find K hx
  obtain ⟨lx, hlx⟩ := E.lit x hx
  rcases hf with ⟨r1, r2, _⟩ | ⟨j, v, born, r1, r2, r3⟩
  · rw [r2]; simp [Instr.lookup, run_underlying ht, MapKept.run_getObj_map hb, K.check w _ hlx, r1, hz, Result.andThen]
  · rw [r2]; simp [Instr.lookup, run_underlying ht, MapKept.run_getObj_map hb, K.check w _ hlx, r1, Result.andThen]
theorem look_nilmap {t e : TypeId} (K : Keyed P k) (ht : P.underlying t = some (.map k e)) {z : Value} (hz : (zeroValue e).run P w = .ok z w) {x : κ} (hx : E.ok x) (c : Bool) :
    (Instr.lookup t (.map none) (E.enc x) c).run P w = .ok (if c then .tuple #[z, .bool false] else z) w := by
  obtain ⟨lx, hlx⟩ := E.lit x hx
  exact Maps.look_nil c K ht hz hlx
theorem grown_setBlock (w : World) (b : Nat) (o : Obj) : w.grownBy (setBlock w b o) (some b) := by
  refine ⟨rfl, rfl, rfl, by simp [setBlock], fun k hk hne => ?_⟩
  simp only [setBlock]
  rw [Array.getElem?_setIfInBounds_ne (fun e => hne (by rw [e]))]
theorem setBlock_at {w : World} {b : Nat} {o o' : Obj} (h : w.heap[b]? = some o) : (setBlock w b o').heap[b]? = some o' := by
  simp only [setBlock]
  rw [Array.getElem?_setIfInBounds_self, if_pos (Array.getElem?_eq_some_iff.1 h).1]
theorem map_set_val {α : Type} (f : α → Value × Value) : ∀ (l : List α) (j : Nat) (x : α), (l.set j x).map f = (l.map f).set j (f x)
  | [], _, _ => by simp
  | a :: t, 0, x => by simp
  | a :: t, j + 1, x => by simp [map_set_val f t j x]
theorem set_as_map [DecidableEq κ] {x : κ} {v : Value} : ∀ {L : List (κ × Value)} {j : Nat} {u : Value}, (L.map (·.1)).Nodup → L[j]? = some (x, u) → L.set j (x, v) = L.map (fun p => if p.1 = x then (x, v) else p)
  | [], j, u, _, h => by simp at h
  | p :: t, 0, u, hn, h => by
    simp at h; subst h
    rw [List.map_cons, List.nodup_cons] at hn
    simp only [List.set_cons_zero, List.map_cons, if_true]
    congr 1
    have h2 : t.map (fun p => if p.1 = x then (x, v) else p) = t.map (fun p => p) := List.map_congr_left fun q hq => by
      rw [if_neg fun e => hn.1 (List.mem_map.2 ⟨q, hq, e⟩)]
    rw [h2]; simp
  | p :: t, j + 1, u, hn, h => by
    rw [List.map_cons, List.nodup_cons] at hn
    have h' : t[j]? = some (x, u) := by simpa using h
    rw [List.set_cons_succ, List.map_cons, set_as_map hn.2 h', if_neg fun e => hn.1 (by rw [e]; exact List.mem_map.2 ⟨_, List.mem_of_getElem? h', rfl⟩)]
theorem MapK.store [DecidableEq κ] (h : MapK E w b L) (K : Keyed P k) {t e : TypeId} (ht : P.underlying t = some (.map k e)) {x : κ} (hx : E.ok x) (v : Value) :
    ∃ o, (Instr.mapUpdate t (.map (some b)) (E.enc x) v).run P w = .ok () (setBlock w b o) ∧ MapK E (setBlock w b o) b (mput L x v) := by
  have hnd := h.nodup
  have hok := h.okk
  obtain ⟨es, clock, hb, hs, hL, hf⟩ := h.find K hx
  obtain ⟨lx, hlx⟩ := E.lit x hx
  have okp : ∀ p ∈ mput L x v, E.ok p.1 := fun p hp => by
    rcases mput_keys_mem hp with rfl | ⟨hp, _⟩
    · exact hx
    · exact hok p hp
  rcases hf with ⟨r1, r2, r3⟩ | ⟨j, u, born, r1, r2, r3⟩
  · refine ⟨_, by simp [Instr.mapUpdate, run_underlying ht, MapKept.run_getObj_map hb, K.check w false hlx, r1, MapKept.run_setObj_map _ hb, Result.andThen, setBlock]; rfl, ?_⟩
    refine ⟨_, _, setBlock_at hb, stamped_push hs r3, okp, ?_⟩
    rw [Array.toList_push, List.map_append, hL, mput, r2]
    simp
  · have hj2 : es.toList[j]? = some ⟨E.enc x, u, born⟩ := by simpa using r3
    refine ⟨_, by simp [Instr.mapUpdate, run_underlying ht, MapKept.run_getObj_map hb, K.check w false hlx, r1, r3, K.stays w hlx, MapKept.run_setObj_map _ hb, Result.andThen, setBlock]; rfl, ?_⟩
    refine ⟨_, _, setBlock_at hb, stamped_modify hs _ _ (fun _ _ => rfl) (fun e' _ he' => by rw [r3] at he'; cases he'; rfl), okp, ?_⟩
    have hjl : j < L.length := by
      have := (List.getElem?_eq_some_iff.1 hj2).1
      have e := congrArg List.length hL
      simp at e; simp at this; omega
    have hLj : L[j]? = some (x, u) := by
      have e1 : (es.toList.map (fun e => (e.key, e.val)))[j]? = some (E.enc x, u) := by rw [List.getElem?_map, hj2]; rfl
      rw [hL, List.getElem?_map, List.getElem?_eq_getElem hjl] at e1
      simp at e1
      rw [List.getElem?_eq_getElem hjl]
      have := E.inj _ _ (hok _ (List.getElem_mem hjl)) hx e1.1
      rw [← this, ← e1.2]
    rw [Array.toList_modify, ChangeMaps.modify_eq_set _ _ _ _ hj2, map_set_val, hL, mput, r2]
    simp only [Option.isSome_some, if_true]
    rw [← set_as_map hnd hLj]
    exact (map_set_val (fun p : κ × Value => (E.enc p.1, p.2)) L j (x, v)).symm
theorem MapK.drop [DecidableEq κ] (h : MapK E w b L) (K : Keyed P k) {t e : TypeId} (ht : P.underlying t = some (.map k e)) (ty : TypeId) {x : κ} (hx : E.ok x) :
    ∃ o, (Builtin.delete_ #[t, k] ty #[.map (some b), E.enc x]).run P w = .ok (.tuple #[]) (setBlock w b o) ∧ MapK E (setBlock w b o) b (mdel L x) := by
  have hnd := h.nodup
  have hok := h.okk
  obtain ⟨es, clock, hb, hs, hL, hf⟩ := h.find K hx
  obtain ⟨lx, hlx⟩ := E.lit x hx
  have okp : ∀ p ∈ mdel L x, E.ok p.1 := fun p hp => hok p (List.mem_filter.1 hp).1
  rcases hf with ⟨r1, r2, r3⟩ | ⟨j, u, born, r1, r2, r3⟩
  · refine ⟨.map es clock, by simp [Builtin.delete_, run_underlying ht, MapKept.run_getObj_map hb, K.check w _ hlx, r1, MapKept.run_setObj_map _ hb, Result.andThen, setBlock], ?_⟩
    refine ⟨_, _, setBlock_at hb, hs, okp, ?_⟩
    rw [hL, mdel, List.filter_eq_self.2 fun p hp => by simpa using look_none.1 r2 p hp]
  · have hj2 : es.toList[j]? = some ⟨E.enc x, u, born⟩ := by simpa using r3
    have hjs : j < es.size := (Array.getElem?_eq_some_iff.1 r3).1
    refine ⟨_, by simp [Builtin.delete_, run_underlying ht, MapKept.run_getObj_map hb, K.check w _ hlx, r1, MapKept.run_setObj_map _ hb, Result.andThen, setBlock]; rfl, ?_⟩
    refine ⟨_, _, setBlock_at hb, stamped_erase hs j, okp, ?_⟩
    have hsub : (es.eraseIdxIfInBounds j).toList = es.toList.eraseIdx j := by
      unfold Array.eraseIdxIfInBounds
      rw [dif_pos hjs]
      simp
    have hjl : j < L.length := by
      have e := congrArg List.length hL
      simp at e; omega
    have hLj : L[j]? = some (x, u) := by
      have e1 : (es.toList.map (fun e => (e.key, e.val)))[j]? = some (E.enc x, u) := by rw [List.getElem?_map, hj2]; rfl
      rw [hL, List.getElem?_map, List.getElem?_eq_getElem hjl] at e1
      simp at e1
      rw [List.getElem?_eq_getElem hjl]
      have := E.inj _ _ (hok _ (List.getElem_mem hjl)) hx e1.1
      rw [← this, ← e1.2]
    rw [hsub, ChangeMaps.map_eraseIdx, hL, ← ChangeMaps.map_eraseIdx]
    congr 1
    clear hL hj2 hjs hjl hsub r1 r2 r3 okp hok h
    induction L generalizing j with
    | nil => simp at hLj
    | cons p t ih =>
      rw [List.map_cons, List.nodup_cons] at hnd
      cases j with
      | zero =>
        simp at hLj; subst hLj
        rw [mdel, List.filter_cons, if_neg (by simp), List.eraseIdx_cons_zero]
        exact (List.filter_eq_self.2 fun q hq => by
          simp only [ne_eq, decide_eq_true_eq]
          exact fun e => hnd.1 (List.mem_map.2 ⟨q, hq, e⟩)).symm
      | succ j =>
        have h' : t[j]? = some (x, u) := by simpa using hLj
        rw [mdel, List.filter_cons, if_pos (by simp only [ne_eq, decide_eq_true_eq]; exact fun e => hnd.1 (by rw [e]; exact List.mem_map.2 ⟨_, List.mem_of_getElem? h', rfl⟩)), List.eraseIdx_cons_succ, ih hnd.2 j h']
        rfl
theorem MapK.len (h : MapK E w b L) {t e : TypeId} (ht : P.underlying t = some (.map k e)) (ty : TypeId) : (Builtin.len_ #[t] ty #[.map (some b)]).run P w = .ok (.int .i64 L.length) w := by
  obtain ⟨es, clock, hb, _, _, hL⟩ := h
  have e := congrArg List.length hL
  simp at e
  simp [Builtin.len_, run_underlying ht, MapKept.run_getObj_map hb, Result.andThen, goInt, e]
end
end Go.Proofs.Ytennhfkhdfalfaa
