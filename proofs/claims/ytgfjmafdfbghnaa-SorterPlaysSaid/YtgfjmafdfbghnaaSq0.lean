/- The document's sorter, plainly: clients by a list, the order by how many stand ahead. -/
import Derived.Test.YtgfjmafdfbghnaaSgP
namespace Go.Proofs.Ytgfjmafdfbghnaa
open Go.RowKit Go.Maps
/-- A client of the document's sorter. -/
structure Dc where
  id : Int
  c : Cl
instance : Inhabited Dc := ⟨⟨0, ⟨0, fun _ => 0, false⟩⟩⟩
/-- C lists the clients of G, each once. -/
structure DC (C : List Dc) (G : Int → Option Cl) : Prop where
  nd : (C.map (·.id)).Nodup
  mem : ∀ d, d ∈ C ↔ G d.id = some d.c
def dpl (T : Nat → Int) (d : Dc) : Pl := plOf T d.id d.c
/-- Does a stand ahead of b? -/
def ahd (T : Nat → Int) (a b : Dc) : Bool := decide (plo (dpl T a) (dpl T b) < 0)
def rank (T : Nat → Int) (C : List Dc) (d : Dc) : Nat := (C.filter fun k => k.c.aw && ahd T k d).length
/-- The clients at the n-th place. -/
def nth9 (T : Nat → Int) (C : List Dc) (n : Nat) (A : List Dc) : List Int := (A.filter fun d => d.c.aw && (rank T C d == n)).map (·.id)
def ord9 (T : Nat → Int) (C : List Dc) (m : Nat) : List Int := (List.range m).flatMap fun n => nth9 T C n C
theorem ord9_succ (T : Nat → Int) (C : List Dc) (m : Nat) : ord9 T C (m + 1) = ord9 T C m ++ nth9 T C m C := by
  unfold ord9; rw [List.range_succ, List.flatMap_append]; simp
theorem nodup_eq {A B : List Int} (ha : A.Nodup) (hb : B.Nodup) (h : ∀ x, x ∈ A ↔ x ∈ B) : A.length = B.length :=
  Nat.le_antisymm (nodup_le ha fun x hx => (h x).1 hx) (nodup_le hb fun x hx => (h x).2 hx)
theorem nodup_one {a : Int} : ∀ {A : List Int}, A.Nodup → (∀ x, x ∈ A ↔ x = a) → A = [a]
  | [], _, h => by have := (h a).2 rfl; cases this
  | b :: A, hn, h => by
    have hb := (h b).1 (by simp)
    subst hb
    cases A with
    | nil => rfl
    | cons c A =>
      have hc := (h c).1 (by simp)
      have := (List.nodup_cons.1 hn).1
      simp [hc] at this
theorem nodup_filter_ids {C : List Dc} (h : (C.map (·.id)).Nodup) (p : Dc → Bool) : ((C.filter p).map (·.id)).Nodup := h.sublist (List.filter_sublist.map _)
section
variable {T : Nat → Int} {G : Int → Option Cl} {L : List Pl} {C : List Dc}
theorem DC.inj (h : DC C G) {a b : Dc} (ha : a ∈ C) (hb : b ∈ C) (e : a.id = b.id) : a = b := by
  have h1 := (h.mem a).1 ha; have h2 := (h.mem b).1 hb
  rw [e, h2] at h1
  cases a; cases b; simp at h1 e; subst e; rw [h1]
theorem DC.place (h : DC C G) (h9 : S9 T G L) {d : Dc} (hd : d ∈ C) (ha : d.c.aw = true) : dpl T d ∈ L := (h9.mem _).2 ⟨d.c, (h.mem d).1 hd, ha, rfl⟩
theorem DC.of (h : DC C G) (h9 : S9 T G L) {p : Pl} (hp : p ∈ L) : ∃ d, d ∈ C ∧ d.c.aw = true ∧ dpl T d = p := by
  obtain ⟨c, h1, h2, h3⟩ := (h9.mem p).1 hp
  exact ⟨⟨p.i, c⟩, (h.mem _).2 h1, h2, h3.symm⟩
theorem plo_self (p : Pl) : plo p p = 0 := by have := plo_swap p p; omega
theorem ahead_take (h : S9 T G L) {j : Nat} {p : Pl} (hp : L[j]? = some p) : L.filter (fun q => decide (plo q p < 0)) = L.take j := by
  have hs := h.sl.2
  have e := parted_at hp
  rw [e] at hs
  have h1 := List.pairwise_append.1 hs
  have h2 := List.pairwise_cons.1 h1.2.1
  conv => lhs; rw [e]
  rw [List.filter_append, List.filter_cons]
  rw [List.filter_eq_self.2 fun q hq => decide_eq_true (h1.2.2 q hq p (by simp))]
  rw [if_neg (by rw [plo_self]; simp)]
  rw [List.filter_eq_nil_iff.2 fun q hq => by
    have h3 := h2.1 q hq
    have h4 := plo_swap p q
    simp; omega]
  simp
theorem rank_at (h : DC C G) (h9 : S9 T G L) {d : Dc} {j : Nat} (hp : L[j]? = some (dpl T d)) : rank T C d = j := by
  have hj := (List.getElem?_eq_some_iff.1 hp).1
  have ht := ahead_take h9 hp
  have hl : ((L.filter fun q => decide (plo q (dpl T d) < 0)).map (·.i)).length = j := by rw [ht, List.length_map, List.length_take]; omega
  have hr : ((C.filter fun k => k.c.aw && ahd T k d).map (·.id)).length = rank T C d := by rw [List.length_map]; rfl
  rw [← hl, ← hr]
  refine nodup_eq (nodup_filter_ids h.nd _) (h9.ids.sublist (List.filter_sublist.map _)) fun x => ?_
  constructor
  · intro hx
    obtain ⟨k, hk, rfl⟩ := List.mem_map.1 hx
    obtain ⟨h1, h2⟩ := List.mem_filter.1 hk
    simp only [Bool.and_eq_true] at h2
    exact List.mem_map.2 ⟨dpl T k, List.mem_filter.2 ⟨h.place h9 h1 h2.1, h2.2⟩, rfl⟩
  · intro hx
    obtain ⟨q, hq, rfl⟩ := List.mem_map.1 hx
    obtain ⟨h1, h2⟩ := List.mem_filter.1 hq
    obtain ⟨k, h3, h4, rfl⟩ := h.of h9 h1
    exact List.mem_map.2 ⟨k, List.mem_filter.2 ⟨h3, by rw [h4]; exact h2⟩, rfl⟩
theorem nth_eq (h : DC C G) (h9 : S9 T G L) (n : Nat) : nth9 T C n C = (L[n]?).toList.map (·.i) := by
  unfold nth9
  have hnd := nodup_filter_ids h.nd fun d => d.c.aw && (rank T C d == n)
  have key : ∀ d, d ∈ C.filter (fun d => d.c.aw && (rank T C d == n)) ↔ d ∈ C ∧ d.c.aw = true ∧ L[n]? = some (dpl T d) := fun d => by
    rw [List.mem_filter]
    simp only [Bool.and_eq_true, beq_iff_eq]
    constructor
    · rintro ⟨h1, h2, h3⟩
      obtain ⟨j, hj⟩ := List.getElem?_of_mem (h.place h9 h1 h2)
      have := rank_at h h9 hj
      rw [h3] at this
      exact ⟨h1, h2, this ▸ hj⟩
    · rintro ⟨h1, h2, h3⟩
      exact ⟨h1, h2, rank_at h h9 h3⟩
  cases hn : L[n]? with
  | none =>
    rw [show C.filter (fun d => d.c.aw && (rank T C d == n)) = [] from List.eq_nil_iff_forall_not_mem.2 fun d hd => by
      have := ((key d).1 hd).2.2
      rw [hn] at this; cases this]
    rfl
  | some p =>
    refine nodup_one hnd fun x => ?_
    constructor
    · intro hx
      obtain ⟨d, hd, rfl⟩ := List.mem_map.1 hx
      have := ((key d).1 hd).2.2
      rw [hn] at this
      rw [Option.some.inj this]; rfl
    · rintro rfl
      obtain ⟨d, h1, h2, h3⟩ := h.of h9 (List.mem_of_getElem? hn)
      exact List.mem_map.2 ⟨d, (key d).2 ⟨h1, h2, by rw [hn, h3]⟩, by rw [← h3]; rfl⟩
theorem ord_take (h : DC C G) (h9 : S9 T G L) : ∀ m, ord9 T C m = (L.take m).map (·.i)
  | 0 => by simp [ord9]
  | m + 1 => by rw [ord9_succ, ord_take h h9 m, nth_eq h h9, List.take_add_one, List.map_append]
theorem DC.len (h : DC C G) (h9 : S9 T G L) : L.length ≤ C.length := by
  have := nodup_le h9.ids (B := C.map (·.id)) fun x hx => by
    obtain ⟨p, hp, rfl⟩ := List.mem_map.1 hx
    obtain ⟨d, h1, h2, rfl⟩ := h.of h9 hp
    exact List.mem_map.2 ⟨d, h1, rfl⟩
  simpa using this
theorem ord_eq (h : DC C G) (h9 : S9 T G L) : ord9 T C C.length = L.map (·.i) := by rw [ord_take h h9, List.take_of_length_le (h.len h9)]
theorem DC.nil : DC [] (fun _ => none) := ⟨List.nodup_nil, fun d => by simp⟩
theorem DC.look (h : DC C G) {i : Int} : (∃ d, d ∈ C ∧ d.id = i) ↔ (G i).isSome = true := by
  constructor
  · rintro ⟨d, hd, rfl⟩
    rw [(h.mem d).1 hd]; rfl
  · intro hi
    obtain ⟨c, hc⟩ := Option.isSome_iff_exists.1 hi
    exact ⟨⟨i, c⟩, (h.mem _).2 hc, rfl⟩
theorem DC.put (h : DC C G) {i : Int} (hg : G i = none) (c : Cl) : DC (C ++ [⟨i, c⟩]) (upd G i (some c)) := by
  have hni : i ∉ C.map (·.id) := fun hm => by
    obtain ⟨d, hd, e⟩ := List.mem_map.1 hm
    have := h.look.1 ⟨d, hd, e⟩
    rw [hg] at this; cases this
  refine ⟨?_, fun d => ?_⟩
  · rw [List.map_append]
    refine List.nodup_append.2 ⟨h.nd, by simp, fun a ha b hb => ?_⟩
    simp at hb
    rintro rfl
    exact hni (hb ▸ ha)
  · rw [List.mem_append, h.mem d, List.mem_singleton]
    by_cases e : d.id = i
    · rw [e, upd_at, hg]
      constructor
      · rintro (h1 | h1)
        · cases h1
        · rw [h1]
      · intro h1
        right
        cases d; simp at e h1; rw [e, h1]
    · rw [upd_ne e]
      constructor
      · rintro (h1 | h1)
        · exact h1
        · exact absurd (by rw [h1]) e
      · exact .inl
theorem DC.set (h : DC C G) {i : Int} {c : Cl} {k : Nat} (hk : C[k]? = some ⟨i, c⟩) (c' : Cl) : DC (C.set k ⟨i, c'⟩) (upd G i (some c')) := by
  have hl := (List.getElem?_eq_some_iff.1 hk).1
  have hin : (⟨i, c⟩ : Dc) ∈ C := List.mem_of_getElem? hk
  have hmap : (C.set k ⟨i, c'⟩).map (·.id) = C.map (·.id) := by
    rw [List.map_set]
    apply List.ext_getElem?
    intro j
    rw [List.getElem?_set]
    split
    · rename_i e
      subst e
      rw [if_pos (by simpa using hl), List.getElem?_map, hk]; rfl
    · rfl
  refine ⟨hmap ▸ h.nd, fun d => ?_⟩
  constructor
  · intro hd
    obtain ⟨j, hj⟩ := List.getElem?_of_mem hd
    rw [List.getElem?_set] at hj
    by_cases e : k = j
    · subst e
      rw [if_pos rfl, if_pos hl] at hj
      obtain rfl := Option.some.inj hj
      exact upd_at
    · rw [if_neg e] at hj
      have hd2 := List.mem_of_getElem? hj
      have hne : d.id ≠ i := fun he => by
        have hnd := h.nd
        have a1 : (C.map (·.id))[k]? = some i := by rw [List.getElem?_map, hk]; rfl
        have a2 : (C.map (·.id))[j]? = some i := by rw [List.getElem?_map, hj]; simp [he]
        exact e ((List.getElem?_inj (by simpa using hl) hnd).1 (a1.trans a2.symm))
      rw [upd_ne hne]
      exact (h.mem d).1 hd2
  · intro hd
    by_cases e : d.id = i
    · rw [e, upd_at] at hd
      have : d = ⟨i, c'⟩ := by cases d; simp at e hd; rw [e, hd]
      rw [this]
      exact List.mem_of_getElem? (i := k) (by rw [List.getElem?_set, if_pos rfl, if_pos hl])
    · rw [upd_ne e] at hd
      obtain ⟨j, hj⟩ := List.getElem?_of_mem ((h.mem d).2 hd)
      refine List.mem_of_getElem? (i := j) ?_
      rw [List.getElem?_set, if_neg (fun e2 => by subst e2; rw [hk] at hj; cases hj; exact e rfl)]
      exact hj
theorem DC.out (h : DC C G) {i : Int} {c : Cl} {k : Nat} (hk : C[k]? = some ⟨i, c⟩) : DC (C.eraseIdx k) (upd G i none) := by
  have hl := (List.getElem?_eq_some_iff.1 hk).1
  have hpart := parted_at hk
  have hin : (⟨i, c⟩ : Dc) ∈ C := List.mem_of_getElem? hk
  refine ⟨h.nd.sublist ((List.eraseIdx_sublist ..).map _), fun d => ?_⟩
  have hnd := h.nd
  rw [hpart, List.map_append, List.map_cons] at hnd
  have h1 := List.nodup_append.1 hnd
  have h2 := List.nodup_cons.1 h1.2.1
  rw [List.eraseIdx_eq_take_drop_succ]
  by_cases e : d.id = i
  · rw [e, upd_at]
    constructor
    · intro hd
      rcases List.mem_append.1 hd with hd | hd
      · exact absurd e (h1.2.2 d.id (List.mem_map_of_mem hd) i (by simp))
      · have hm : d.id ∈ (C.drop (k + 1)).map (·.id) := List.mem_map_of_mem hd
        rw [e] at hm
        exact absurd hm h2.1
    · intro hd; cases hd
  · rw [upd_ne e, ← h.mem d]
    constructor
    · intro hd
      rcases List.mem_append.1 hd with hd | hd
      · exact List.mem_of_mem_take hd
      · exact List.mem_of_mem_drop hd
    · intro hd
      rw [hpart] at hd
      rcases List.mem_append.1 hd with hd | hd
      · exact List.mem_append.2 (.inl hd)
      · rcases List.mem_cons.1 hd with hd | hd
        · exact absurd (by rw [hd]) e
        · exact List.mem_append.2 (.inr hd)
end
end Go.Proofs.Ytgfjmafdfbghnaa
