/- Texts laid together: Sq0,Sq1,Sr2,Sr3,Sr5. -/
import Derived.Test.YtgfjmafdfbghnaaGreatSgP
import Derived.Test.YtgfjmafdfbghnaaGreatSCmp9
import Derived.Test.YtgfjmafdfbghnaaGreatSumsR
namespace Go.Proofs.YtgfjmafdfbghnaaGreat
section
open Go.RowKit Go.Maps
/-- A client of the document's sorter. -/
structure Dc where
  id : Int
  c : Cl
instance : Inhabited Dc := ⟨⟨0, ⟨0, fun _ => 0, false⟩⟩⟩
/-- C lists the clients of G, each once. -/
structure DC (C : List Dc) (G : Int → Option Cl) : Prop where
  nd : (C.map (·.id)).Nodup
  mem : ∀ d, d ∈ C ↔ G d.id = some d.c
def dpl (T : Nat → Int) (d : Dc) : Pl := plOf T d.id d.c
/-- Does a stand ahead of b? -/
def ahd (T : Nat → Int) (a b : Dc) : Bool := decide (plo (dpl T a) (dpl T b) < 0)
def rank (T : Nat → Int) (C : List Dc) (d : Dc) : Nat := (C.filter fun k => k.c.aw && ahd T k d).length
/-- The clients at the n-th place. -/
def nth9 (T : Nat → Int) (C : List Dc) (n : Nat) (A : List Dc) : List Int := (A.filter fun d => d.c.aw && (rank T C d == n)).map (·.id)
def ord9 (T : Nat → Int) (C : List Dc) (m : Nat) : List Int := (List.range m).flatMap fun n => nth9 T C n C
theorem ord9_succ (T : Nat → Int) (C : List Dc) (m : Nat) : ord9 T C (m + 1) = ord9 T C m ++ nth9 T C m C := by
  unfold ord9; rw [List.range_succ, List.flatMap_append]; simp
theorem nodup_eq {A B : List Int} (ha : A.Nodup) (hb : B.Nodup) (h : ∀ x, x ∈ A ↔ x ∈ B) : A.length = B.length :=
  Nat.le_antisymm (nodup_le ha fun x hx => (h x).1 hx) (nodup_le hb fun x hx => (h x).2 hx)
theorem nodup_one {a : Int} : ∀ {A : List Int}, A.Nodup → (∀ x, x ∈ A ↔ x = a) → A = [a]
  | [], _, h => by have := (h a).2 rfl; cases this
  | b :: A, hn, h => by
    have hb := (h b).1 (by simp)
    subst hb
    cases A with
    | nil => rfl
    | cons c A =>
      have hc := (h c).1 (by simp)
      have := (List.nodup_cons.1 hn).1
      simp [hc] at this
theorem nodup_filter_ids {C : List Dc} (h : (C.map (·.id)).Nodup) (p : Dc → Bool) : ((C.filter p).map (·.id)).Nodup := h.sublist (List.filter_sublist.map _)
section
variable {T : Nat → Int} {G : Int → Option Cl} {L : List Pl} {C : List Dc}
theorem DC.inj (h : DC C G) {a b : Dc} (ha : a ∈ C) (hb : b ∈ C) (e : a.id = b.id) : a = b := by
  have h1 := (h.mem a).1 ha; have h2 := (h.mem b).1 hb
  rw [e, h2] at h1
  cases a; cases b; simp at h1 e; subst e; rw [h1]
theorem DC.place (h : DC C G) (h9 : S9 T G L) {d : Dc} (hd : d ∈ C) (ha : d.c.aw = true) : dpl T d ∈ L := (h9.mem _).2 ⟨d.c, (h.mem d).1 hd, ha, rfl⟩
theorem DC.of (h : DC C G) (h9 : S9 T G L) {p : Pl} (hp : p ∈ L) : ∃ d, d ∈ C ∧ d.c.aw = true ∧ dpl T d = p := by
  obtain ⟨c, h1, h2, h3⟩ := (h9.mem p).1 hp
  exact ⟨⟨p.i, c⟩, (h.mem _).2 h1, h2, h3.symm⟩
theorem plo_self (p : Pl) : plo p p = 0 := by have := plo_swap p p; omega
theorem ahead_take (h : S9 T G L) {j : Nat} {p : Pl} (hp : L[j]? = some p) : L.filter (fun q => decide (plo q p < 0)) = L.take j := by
  have hs := h.sl.2
  have e := parted_at hp
  rw [e] at hs
  have h1 := List.pairwise_append.1 hs
  have h2 := List.pairwise_cons.1 h1.2.1
  conv => lhs; rw [e]
  rw [List.filter_append, List.filter_cons]
  rw [List.filter_eq_self.2 fun q hq => decide_eq_true (h1.2.2 q hq p (by simp))]
  rw [if_neg (by rw [plo_self]; simp)]
  rw [List.filter_eq_nil_iff.2 fun q hq => by
    have h3 := h2.1 q hq
    have h4 := plo_swap p q
    simp; omega]
  simp
theorem rank_at (h : DC C G) (h9 : S9 T G L) {d : Dc} {j : Nat} (hp : L[j]? = some (dpl T d)) : rank T C d = j := by
  have hj := (List.getElem?_eq_some_iff.1 hp).1
  have ht := ahead_take h9 hp
  have hl : ((L.filter fun q => decide (plo q (dpl T d) < 0)).map (·.i)).length = j := by rw [ht, List.length_map, List.length_take]; omega
  have hr : ((C.filter fun k => k.c.aw && ahd T k d).map (·.id)).length = rank T C d := by rw [List.length_map]; rfl
  rw [← hl, ← hr]
  refine nodup_eq (nodup_filter_ids h.nd _) (h9.ids.sublist (List.filter_sublist.map _)) fun x => ?_
  constructor
  · intro hx
    obtain ⟨k, hk, rfl⟩ := List.mem_map.1 hx
    obtain ⟨h1, h2⟩ := List.mem_filter.1 hk
    simp only [Bool.and_eq_true] at h2
    exact List.mem_map.2 ⟨dpl T k, List.mem_filter.2 ⟨h.place h9 h1 h2.1, h2.2⟩, rfl⟩
  · intro hx
    obtain ⟨q, hq, rfl⟩ := List.mem_map.1 hx
    obtain ⟨h1, h2⟩ := List.mem_filter.1 hq
    obtain ⟨k, h3, h4, rfl⟩ := h.of h9 h1
    exact List.mem_map.2 ⟨k, List.mem_filter.2 ⟨h3, by rw [h4]; exact h2⟩, rfl⟩
theorem nth_eq (h : DC C G) (h9 : S9 T G L) (n : Nat) : nth9 T C n C = (L[n]?).toList.map (·.i) := by
  unfold nth9
  have hnd := nodup_filter_ids h.nd fun d => d.c.aw && (rank T C d == n)
  have key : ∀ d, d ∈ C.filter (fun d => d.c.aw && (rank T C d == n)) ↔ d ∈ C ∧ d.c.aw = true ∧ L[n]? = some (dpl T d) := fun d => by
    rw [List.mem_filter]
    simp only [Bool.and_eq_true, beq_iff_eq]
    constructor
    · rintro ⟨h1, h2, h3⟩
      obtain ⟨j, hj⟩ := List.getElem?_of_mem (h.place h9 h1 h2)
      have := rank_at h h9 hj
      rw [h3] at this
      exact ⟨h1, h2, this ▸ hj⟩
    · rintro ⟨h1, h2, h3⟩
      exact ⟨h1, h2, rank_at h h9 h3⟩
  cases hn : L[n]? with
  | none =>
    rw [show C.filter (fun d => d.c.aw && (rank T C d == n)) = [] from List.eq_nil_iff_forall_not_mem.2 fun d hd => by
      have := ((key d).1 hd).2.2
      rw [hn] at this; cases this]
    rfl
  | some p =>
    refine nodup_one hnd fun x => ?_
    constructor
    · intro hx
      obtain ⟨d, hd, rfl⟩ := List.mem_map.1 hx
      have := ((key d).1 hd).2.2
      rw [hn] at this
      rw [Option.some.inj this]; rfl
    · rintro rfl
      obtain ⟨d, h1, h2, h3⟩ := h.of h9 (List.mem_of_getElem? hn)
      exact List.mem_map.2 ⟨d, (key d).2 ⟨h1, h2, by rw [hn, h3]⟩, by rw [← h3]; rfl⟩
theorem ord_take (h : DC C G) (h9 : S9 T G L) : ∀ m, ord9 T C m = (L.take m).map (·.i)
  | 0 => by simp [ord9]
  | m + 1 => by rw [ord9_succ, ord_take h h9 m, nth_eq h h9, List.take_add_one, List.map_append]
theorem DC.len (h : DC C G) (h9 : S9 T G L) : L.length ≤ C.length := by
  have := nodup_le h9.ids (B := C.map (·.id)) fun x hx => by
    obtain ⟨p, hp, rfl⟩ := List.mem_map.1 hx
    obtain ⟨d, h1, h2, rfl⟩ := h.of h9 hp
    exact List.mem_map.2 ⟨d, h1, rfl⟩
  simpa using this
theorem ord_eq (h : DC C G) (h9 : S9 T G L) : ord9 T C C.length = L.map (·.i) := by rw [ord_take h h9, List.take_of_length_le (h.len h9)]
theorem DC.nil : DC [] (fun _ => none) := ⟨List.nodup_nil, fun d => by simp⟩
theorem DC.look (h : DC C G) {i : Int} : (∃ d, d ∈ C ∧ d.id = i) ↔ (G i).isSome = true := by
  constructor
  · rintro ⟨d, hd, rfl⟩
    rw [(h.mem d).1 hd]; rfl
  · intro hi
    obtain ⟨c, hc⟩ := Option.isSome_iff_exists.1 hi
    exact ⟨⟨i, c⟩, (h.mem _).2 hc, rfl⟩
theorem DC.put (h : DC C G) {i : Int} (hg : G i = none) (c : Cl) : DC (C ++ [⟨i, c⟩]) (upd G i (some c)) := by
  have hni : i ∉ C.map (·.id) := fun hm => by
    obtain ⟨d, hd, e⟩ := List.mem_map.1 hm
    have := h.look.1 ⟨d, hd, e⟩
    rw [hg] at this; cases this
  refine ⟨?_, fun d => ?_⟩
  · rw [List.map_append]
    refine List.nodup_append.2 ⟨h.nd, by simp, fun a ha b hb => ?_⟩
    simp at hb
    rintro rfl
    exact hni (hb ▸ ha)
  · rw [List.mem_append, h.mem d, List.mem_singleton]
    by_cases e : d.id = i
    · rw [e, upd_at, hg]
      constructor
      · rintro (h1 | h1)
        · cases h1
        · rw [h1]
      · intro h1
        right
        cases d; simp at e h1; rw [e, h1]
    · rw [upd_ne e]
      constructor
      · rintro (h1 | h1)
        · exact h1
        · exact absurd (by rw [h1]) e
      · exact .inl
theorem DC.set (h : DC C G) {i : Int} {c : Cl} {k : Nat} (hk : C[k]? = some ⟨i, c⟩) (c' : Cl) : DC (C.set k ⟨i, c'⟩) (upd G i (some c')) := by
  have hl := (List.getElem?_eq_some_iff.1 hk).1
  have hin : (⟨i, c⟩ : Dc) ∈ C := List.mem_of_getElem? hk
  have hmap : (C.set k ⟨i, c'⟩).map (·.id) = C.map (·.id) := by
    rw [List.map_set]
    apply List.ext_getElem?
    intro j
    rw [List.getElem?_set]
    split
    · rename_i e
      subst e
      rw [if_pos (by simpa using hl), List.getElem?_map, hk]; rfl
    · rfl
  refine ⟨hmap ▸ h.nd, fun d => ?_⟩
  constructor
  · intro hd
    obtain ⟨j, hj⟩ := List.getElem?_of_mem hd
    rw [List.getElem?_set] at hj
    by_cases e : k = j
    · subst e
      rw [if_pos rfl, if_pos hl] at hj
      obtain rfl := Option.some.inj hj
      exact upd_at
    · rw [if_neg e] at hj
      have hd2 := List.mem_of_getElem? hj
      have hne : d.id ≠ i := fun he => by
        have hnd := h.nd
        have a1 : (C.map (·.id))[k]? = some i := by rw [List.getElem?_map, hk]; rfl
        have a2 : (C.map (·.id))[j]? = some i := by rw [List.getElem?_map, hj]; simp [he]
        exact e ((List.getElem?_inj (by simpa using hl) hnd).1 (a1.trans a2.symm))
      rw [upd_ne hne]
      exact (h.mem d).1 hd2
  · intro hd
    by_cases e : d.id = i
    · rw [e, upd_at] at hd
      have : d = ⟨i, c'⟩ := by cases d; simp at e hd; rw [e, hd]
      rw [this]
      exact List.mem_of_getElem? (i := k) (by rw [List.getElem?_set, if_pos rfl, if_pos hl])
    · rw [upd_ne e] at hd
      obtain ⟨j, hj⟩ := List.getElem?_of_mem ((h.mem d).2 hd)
      refine List.mem_of_getElem? (i := j) ?_
      rw [List.getElem?_set, if_neg (fun e2 => by subst e2; rw [hk] at hj; cases hj; exact e rfl)]
      exact hj
theorem DC.out (h : DC C G) {i : Int} {c : Cl} {k : Nat} (hk : C[k]? = some ⟨i, c⟩) : DC (C.eraseIdx k) (upd G i none) := by
  have hl := (List.getElem?_eq_some_iff.1 hk).1
  have hpart := parted_at hk
  have hin : (⟨i, c⟩ : Dc) ∈ C := List.mem_of_getElem? hk
  refine ⟨h.nd.sublist ((List.eraseIdx_sublist ..).map _), fun d => ?_⟩
  have hnd := h.nd
  rw [hpart, List.map_append, List.map_cons] at hnd
  have h1 := List.nodup_append.1 hnd
  have h2 := List.nodup_cons.1 h1.2.1
  rw [List.eraseIdx_eq_take_drop_succ]
  by_cases e : d.id = i
  · rw [e, upd_at]
    constructor
    · intro hd
      rcases List.mem_append.1 hd with hd | hd
      · exact absurd e (h1.2.2 d.id (List.mem_map_of_mem hd) i (by simp))
      · have hm : d.id ∈ (C.drop (k + 1)).map (·.id) := List.mem_map_of_mem hd
        rw [e] at hm
        exact absurd hm h2.1
    · intro hd; cases hd
  · rw [upd_ne e, ← h.mem d]
    constructor
    · intro hd
      rcases List.mem_append.1 hd with hd | hd
      · exact List.mem_of_mem_take hd
      · exact List.mem_of_mem_drop hd
    · intro hd
      rw [hpart] at hd
      rcases List.mem_append.1 hd with hd | hd
      · exact List.mem_append.2 (.inl hd)
      · rcases List.mem_cons.1 hd with hd | hd
        · exact absurd (by rw [hd]) e
        · exact List.mem_append.2 (.inr hd)
end
end
section
open Go.RowKit Go.Maps
attribute [local go_sem] ext_cell ext_frozen extC_cell extC_frozen Mix.calmUpon Mix.mUpon
def dcenc (d : Dc) : List Value := [.int .i64 d.id, .int .i64 d.c.wt, .int .i64 (d.c.s 0), .int .i64 (d.c.s 1), .int .i64 (d.c.s 2), .int .i64 (d.c.s 3), .bool d.c.aw]
abbrev dcval (d : Dc) : Value := .agg #[.int .i64 d.id, .int .i64 d.c.wt, .int .i64 (d.c.s 0), .int .i64 (d.c.s 1), .int .i64 (d.c.s 2), .int .i64 (d.c.s 3), .bool d.c.aw]
abbrev dccells (d : Dc) : Array Value := #[.int .i64 d.id, .int .i64 d.c.wt, .int .i64 (d.c.s 0), .int .i64 (d.c.s 1), .int .i64 (d.c.s 2), .int .i64 (d.c.s 3), .bool d.c.aw]
/-- A variable that holds a client of the document's. -/
def DB9 (w : World) (b : Nat) (d : Dc) : Prop := w.heap[b]? = some (.cells (dccells d) 117 (0, 0))
section
variable {F : Nat → Prop} {w w' : World} {b : Nat} {d : Dc}
theorem DB9.made (w : World) (d : Dc) : DB9 (w.alloc (.cells (dccells d) 117)) w.heap.size d := heap_alloc_new w _
theorem DB9.lt (h : DB9 w b d) : b < w.heap.size := (Array.getElem?_eq_some_iff.1 h).1
theorem DB9.chg (h : DB9 w b d) (hb : Chg F w w') (hf : ¬ F b) : DB9 w' b d := (hb.block _ h.lt hf).trans h
theorem DB9.below (h : DB9 w b d) (hb : Below w.heap.size w w') : DB9 w' b d := (hb.block _ h.lt).trans h
theorem DB9.cells (h : DB9 w b d) : w.cell? ⟨b, 0, none⟩ = some (.int .i64 d.id) ∧ w.cell? ⟨b, 1, none⟩ = some (.int .i64 d.c.wt) ∧ w.cell? ⟨b, 2, none⟩ = some (.int .i64 (d.c.s 0)) ∧ w.cell? ⟨b, 3, none⟩ = some (.int .i64 (d.c.s 1)) ∧ w.cell? ⟨b, 4, none⟩ = some (.int .i64 (d.c.s 2)) ∧ w.cell? ⟨b, 5, none⟩ = some (.int .i64 (d.c.s 3)) ∧ w.cell? ⟨b, 6, none⟩ = some (.bool d.c.aw) := by
  unfold DB9 at h; simp [World.cell?, h]
theorem DB9.fz (h : DB9 w b d) (o : Nat) : w.frozen? ⟨b, o, none⟩ = false := by unfold DB9 at h; simp [World.frozen?, h]
end
theorem infoDc : (Tryz.prog.info? 117).map (fun i => (i.zero, i.size, i.bytes)) = some (some (.agg #[.int .i64 0, .int .i64 0, .int .i64 0, .int .i64 0, .int .i64 0, .int .i64 0, .bool false]), 7, 56) := by kernel_rfl
theorem own_appDc {w : World} {base : Nat} {v : Value} {l : List Dc} {b : Nat} (h : OwnL 117 7 dcenc w base v l) (x : Dc) (hx : DB9 w b x) (hl : l.length < 1000000) (hb : base ≤ w.heap.size) :
    ∃ v' w', (Builtin.append_ #[113, 113] 113 #[v, .slice (some ⟨b, 0, none⟩) 1 1]).run Tryz.prog w = .ok v' w' ∧ OwnL 117 7 dcenc w' base v' (l ++ [x]) ∧ w.grownBy w' v.ownBlock ∧ (v'.ownBlock = v.ownBlock ∨ v'.ownBlock = some w.heap.size) := by
  obtain ⟨i0, hi, hz0, hz1, hz2⟩ := info_parts infoDc
  obtain ⟨x0, x1, x2, x3, x4, x5, x6⟩ := hx.cells
  exact OwnL.app h Tryz.underlying113 hi hz0 hz1 hz2 rfl (by decide) (fun _ => rfl) x (fun j u hj => by
      rcases j with _ | _ | _ | _ | _ | _ | _ | j <;> simp [dcenc] at hj
      · subst hj; exact x0
      · subst hj; exact x1
      · subst hj; exact x2
      · subst hj; exact x3
      · subst hj; exact x4
      · subst hj; exact x5
      · subst hj; exact x6) (fun u hu => by simp [dcenc] at hu; rcases hu with rfl | rfl | rfl | rfl | rfl | rfl | rfl <;> rfl) (by omega) (by unfold maxLen; omega) hb
abbrev mv9 (T : Nat → Int) (v : Value) : Value := .agg #[.int .i64 (T 0), .int .i64 (T 1), .int .i64 (T 2), .int .i64 (T 3), v]
abbrev mcells9 (T : Nat → Int) (v : Value) : Array Value := #[.int .i64 (T 0), .int .i64 (T 1), .int .i64 (T 2), .int .i64 (T 3), v]
/-- A block that holds the document's sorter. -/
def MB9 (w : World) (b : Nat) (T : Nat → Int) (v : Value) : Prop := w.heap[b]? = some (.cells (mcells9 T v) 115 (0, 0))
section
variable {F : Nat → Prop} {w w' : World} {b : Nat} {T : Nat → Int} {v : Value}
theorem MB9.made (w : World) (T : Nat → Int) (v : Value) : MB9 (w.alloc (.cells (mcells9 T v) 115)) w.heap.size T v := heap_alloc_new w _
theorem MB9.lt (h : MB9 w b T v) : b < w.heap.size := (Array.getElem?_eq_some_iff.1 h).1
theorem MB9.chg (h : MB9 w b T v) (hb : Chg F w w') (hf : ¬ F b) : MB9 w' b T v := (hb.block _ h.lt hf).trans h
theorem MB9.below (h : MB9 w b T v) (hb : Below w.heap.size w w') : MB9 w' b T v := h.chg (.of_below (fun _ => False) hb) id
theorem MB9.cells (h : MB9 w b T v) : w.cell? ⟨b, 0, none⟩ = some (.int .i64 (T 0)) ∧ w.cell? ⟨b, 1, none⟩ = some (.int .i64 (T 1)) ∧ w.cell? ⟨b, 2, none⟩ = some (.int .i64 (T 2)) ∧ w.cell? ⟨b, 3, none⟩ = some (.int .i64 (T 3)) ∧ w.cell? ⟨b, 4, none⟩ = some v := by unfold MB9 at h; simp [World.cell?, h]
theorem MB9.fz (h : MB9 w b T v) (o : Nat) : w.frozen? ⟨b, o, none⟩ = false := by unfold MB9 at h; simp [World.frozen?, h]
theorem MB9.set4 (h : MB9 w b T v) (v' : Value) : MB9 (w.setCell ⟨b, 4, none⟩ v') b T v' := heap_setCell_at v' h
theorem MB9.load (h : MB9 w b T v) : (loadVar 115 ⟨b, 0, none⟩).run Tryz.prog w = .ok (mv9 T v) w := by
  obtain ⟨x0, x1, x2, x3, x4⟩ := h.cells
  simp [go_sem, x0, x1, x2, x3, x4]
theorem res_m9 {fn : Func} {tmps : Array Value} {p : Nat} (h : fn.results = #[.cell p 115]) (hp : tmps.getD p undef = .pointer (some ⟨b, 0, none⟩)) (hb : MB9 w b T v) :
    (results fn tmps).run Tryz.prog w = .ok (mv9 T v) w := by
  simp only [results, h]
  have hp' : tmps[p]?.getD undef = .pointer (some ⟨b, 0, none⟩) := by simpa [Array.getD_eq_getD_getElem?] using hp
  simp [Sem.run_bind, Result.andThen, hp', asAddr, hb.load]
end
/-- A list of the document's that a call makes in the variable b3, which was the newest of w3. -/
structure OC9 (w3 wr : World) (b3 : Nat) (T : Nat → Int) (vo : Value) (C : List Dc) : Prop where
  bel : Below b3 w3 wr
  lt : b3 < w3.heap.size
  m : MB9 wr b3 T vo
  own : OwnL 117 7 dcenc wr (b3 + 1) vo C
def OB9 (v : Value) : Nat → Prop := fun k => v.ownBlock = some k
section
variable {w w3 wr wr' : World} {b3 : Nat} {T : Nat → Int} {vo : Value} {C : List Dc} {x : Dc}
theorem OC9.no (h : OC9 w3 wr b3 T vo C) {k : Nat} (hk : k ≤ b3) : ¬ OB9 vo k := fun e => by have := (h.own.lt k e).1; omega
theorem OC9.sz (h : OC9 w3 wr b3 T vo C) : b3 < wr.heap.size := h.m.lt
theorem OC9.on (h : OC9 w3 wr b3 T vo C) (hb : Below wr.heap.size wr wr') : OC9 w3 wr' b3 T vo C :=
  ⟨h.bel.trans (hb.mono (by have := h.sz; omega)), h.lt, h.m.below hb, h.own.below hb⟩
/-- One more element, which lies in a new block. -/
theorem OC9.app (h : OC9 w3 wr b3 T vo C) (hl : C.length < 1000000) {w1 : World} (hb : Below wr.heap.size wr w1) {q : Nat} (hx : DB9 w1 q x) :
    ∃ a' m' c' w2, (Builtin.append_ #[113, 113] 113 #[vo, .slice (some ⟨q, 0, none⟩) 1 1]).run Tryz.prog w1 = .ok (.slice a' m' c') w2 ∧ Chg (OB9 vo) w1 w2 ∧ (∀ w4, Chg (OB9 vo) w1 w4 → Below w2.heap.size w2 w4 → OC9 w3 (w4.setCell ⟨b3, 4, none⟩ (.slice a' m' c')) b3 T (.slice a' m' c') (C ++ [x])) := by
  have h1 := h.on hb
  have hd := h1.sz
  obtain ⟨v', w2, hrun, o2, g2, hv2⟩ := own_appDc h1.own x hx hl (by omega)
  obtain ⟨a', m', c', rfl⟩ : ∃ a' m' c', v' = .slice a' m' c' := by
    rcases o2.2 with ⟨_, h0⟩ | ⟨g', cap', cur', rfl, _⟩
    · simp at h0
    · exact ⟨_, _, _, rfl⟩
  have hc : Chg (OB9 vo) w1 w2 := .of_grown g2 fun k e => e
  refine ⟨a', m', c', w2, hrun, hc, fun w4 hc3 hb3 => ?_⟩
  have hst : Chg (fun k => k = b3) w4 (w4.setCell ⟨b3, 4, none⟩ (.slice a' m' c')) := (Chg.refl (fun k => k = b3) w4).setCell (p := ⟨b3, 4, none⟩) (.inl rfl) _
  have own3 := o2.below hb3
  have hs3 := hc3.size
  have nb : ∀ k, Value.ownBlock (.slice a' m' c') = some k → k ≠ b3 := fun k hk e => by have := (o2.lt k hk).1; omega
  exact ⟨h1.bel.trans ((hc3.below (by omega) (fun k hk => by have := (h1.own.lt k hk).1; omega)).trans (hst.below (by omega) (fun k e => by rw [e]; omega))), h1.lt,
    (h1.m.chg hc3 (h1.no (by omega))).set4 _, own3.chg hst nb⟩
end
/-- What a call of the document's that answers a sorter gives. -/
def RetM9 (w : World) (T : Nat → Int) (C : List Dc) (e : Ending) (w' : World) : Prop := ∃ v, e = .returned (mv9 T v) ∧ OwnL 117 7 dcenc w' w.heap.size v C ∧ Below w.heap.size w w'
end
section
open Go.RowKit Go.Maps
attribute [local go_sem] ext_cell ext_frozen extC_cell extC_frozen Mix.calmUpon Mix.mUpon
/-- What At answers. -/
def AtD (C : List Dc) (i z : Int) : Prop := (∃ (k : Nat) (d : Dc), z = k ∧ C[k]? = some d ∧ d.id = i) ∨ (z = -1 ∧ ∀ d ∈ C, d.id ≠ i)
def RetAt (w : World) (C : List Dc) (i : Int) (e : Ending) (w' : World) : Prop := ∃ z, e = .returned (.int .i64 z) ∧ AtD C i z ∧ Below w.heap.size w w'
/-- A variable that holds a fraction. -/
def FB9 (w : World) (b : Nat) (n d : Int) : Prop := w.heap[b]? = some (.cells #[.int .i64 n, .int .i64 d] 42 (0, 0))
section
variable {w w' : World} {b : Nat} {n d : Int}
theorem FB9.made (w : World) (n d : Int) : FB9 (w.alloc (.cells #[.int .i64 n, .int .i64 d] 42)) w.heap.size n d := heap_alloc_new w _
theorem FB9.lt (h : FB9 w b n d) : b < w.heap.size := (Array.getElem?_eq_some_iff.1 h).1
theorem FB9.below (h : FB9 w b n d) (hb : Below w.heap.size w w') : FB9 w' b n d := (hb.block _ h.lt).trans h
theorem FB9.cells (h : FB9 w b n d) : w.cell? ⟨b, 0, none⟩ = some (.int .i64 n) ∧ w.cell? ⟨b, 1, none⟩ = some (.int .i64 d) := by unfold FB9 at h; simp [World.cell?, h]
theorem FB9.fz (h : FB9 w b n d) (o : Nat) : w.frozen? ⟨b, o, none⟩ = false := by unfold FB9 at h; simp [World.frozen?, h]
theorem FB9.set2 (h : FB9 w b n d) (n' d' : Int) : FB9 ((w.setCell ⟨b, 0, none⟩ (.int .i64 n')).setCell ⟨b, 1, none⟩ (.int .i64 d')) b n' d' := heap_setCell_at _ (heap_setCell_at _ h)
theorem FB9.load (h : FB9 w b n d) : (loadVar 42 ⟨b, 0, none⟩).run Tryz.prog w = .ok (F2 n d) w := by
  obtain ⟨x0, x1⟩ := h.cells
  simp [go_sem, x0, x1]
theorem res_fr9 {fn : Func} {tmps : Array Value} {p : Nat} (h : fn.results = #[.cell p 42]) (hp : tmps.getD p undef = .pointer (some ⟨b, 0, none⟩)) (hb : FB9 w b n d) :
    (results fn tmps).run Tryz.prog w = .ok (F2 n d) w := by
  simp only [results, h]
  have hp' : tmps[p]?.getD undef = .pointer (some ⟨b, 0, none⟩) := by simpa [Array.getD_eq_getD_getElem?] using hp
  simp [Sem.run_bind, Result.andThen, hp', asAddr, hb.load]
end
set_option maxRecDepth 100000 in
set_option maxHeartbeats 2000000 in
theorem rpart9 (T : Nat → Int) (a : Option Addr) (m k : Nat) (d : Dc) : Pure Tryz.prog 111 #[mv9 T (.slice a m k), dcval d] (F2 (dpl T d).n (dpl T d).d) := by
  intro w
  obtain ⟨dk, hdk⟩ : ∃ x, (domV d.c.s T).1 = x := ⟨_, rfl⟩
  obtain ⟨pn, hpn⟩ : ∃ x, (domV d.c.s T).2.1 = x := ⟨_, rfl⟩
  obtain ⟨pd, hpd⟩ : ∃ x, (domV d.c.s T).2.2 = x := ⟨_, rfl⟩
  have HD := Lib.hid (refdominant_any d.c.s T)
  rw [show (dpl T d).n = pn from hpn, show (dpl T d).d = pd from hpd]
  rw [hdk, hpn, hpd] at HD
  clear hdk hpn hpd
  obtain ⟨w3, hw3⟩ : ∃ w3, w3 = ((w.alloc (.cells (mcells9 T (.slice a m k)) 115)).alloc (.cells (dccells d) 117)).alloc (.cells #[.int .i64 0, .int .i64 0] 42) := ⟨_, rfl⟩
  obtain ⟨b0, hb0⟩ : ∃ b, b = w.heap.size := ⟨_, rfl⟩
  obtain ⟨b1, hb1⟩ : ∃ b, b = b0 + 1 := ⟨_, rfl⟩
  obtain ⟨b2, hb2⟩ : ∃ b, b = b1 + 1 := ⟨_, rfl⟩
  have s1 : (w.alloc (.cells (mcells9 T (.slice a m k)) 115)).heap.size = b1 := by rw [hb1, hb0]; simp
  have s2 : ((w.alloc (.cells (mcells9 T (.slice a m k)) 115)).alloc (.cells (dccells d) 117)).heap.size = b2 := by rw [hb2, hb1, hb0]; simp
  have HM := Lib.hid (show MB9 w3 b0 T (.slice a m k) from by rw [hw3, hb0]; exact (MB9.made w T _).below (ba (ba (Below.refl _ _) _) _))
  have HD1 := Lib.hid (show DB9 w3 b1 d from by rw [hw3, ← s1]; exact (DB9.made _ d).below (ba (Below.refl _ _) _))
  have HF2 := Lib.hid (show FB9 w3 b2 0 0 from by rw [hw3, ← s2]; exact FB9.made _ 0 0)
  have HB := Lib.hid (show Below w.heap.size w w3 from by rw [hw3]; exact ba (ba (ba (Below.refl _ _) _) _) _)
  have HBQ := Lib.hid (And.intro hb0 (And.intro hb1 hb2))
  clear s1 s2
  obtain ⟨m0, m1, m2, m3, m4⟩ := HM.out.cells
  have ml := HM.out.lt
  obtain ⟨d0, d1, d2, d3, d4, d5, d6⟩ := HD1.out.cells
  have dl := HD1.out.lt
  go_enter Tryz.func111, Tryz.ntmps111
  go_upto_region 1 with (fail)
  rw [← hb0, ← hb1, ← hb2, ← hw3]
  clear hw3 hb0 hb1 hb2
  go_wp2_with fail
  refine (HD.out w3).mono ?_
  rintro e w4 ⟨rfl, hb4⟩
  have hf4 := HF2.out.below hb4
  have HB4 := Lib.hid (bt HB.out hb4)
  have HB34 := Lib.hid hb4
  clear hb4 m0 m1 m2 m3 m4 ml d0 d1 d2 d3 d4 d5 d6 dl
  have hb5 := ba (Below.refl w4.heap.size w4) (.cells #[.int .i64 pn, .int .i64 pd] 42)
  have HF5 := Lib.hid (hf4.below hb5)
  have HG5 := Lib.hid (FB9.made w4 pn pd)
  have HB5 := Lib.hid (bt HB4.out hb5)
  clear hf4 hb5
  go_upto_region 2 with (fail)
  generalize w4.alloc (.cells #[.int .i64 pn, .int .i64 pd] 42) = w5 at *
  generalize w4.heap.size = b4 at *
  obtain ⟨g0, g1⟩ := HG5.out.cells
  have gl := HG5.out.lt
  obtain ⟨f0, f1⟩ := HF5.out.cells
  have fl := HF5.out.lt
  have ff0 := HF5.out.fz 0; have ff1 := HF5.out.fz 1
  have HR := Lib.hid (HF5.out.set2 pn pd)
  have HB6 := Lib.hid (show Below w.heap.size w ((w5.setCell ⟨b2, 0, none⟩ (.int .i64 pn)).setCell ⟨b2, 1, none⟩ (.int .i64 pd)) from
    ((HB5.out.setCell (p := ⟨b2, 0, none⟩) (show w.heap.size ≤ b2 by have := HBQ.out; omega) _).setCell (p := ⟨b2, 1, none⟩) (show w.heap.size ≤ b2 by have := HBQ.out; omega) _))
  go_wp2
  refine bodyPost_ret (res_fr9 Tryz.results111 rfl HR.out) rfl ?_
  exact ⟨rfl, HB6.out⟩
set_option maxRecDepth 100000 in
set_option maxHeartbeats 2000000 in
theorem rahead9 (T : Nat → Int) (a : Option Addr) (m k : Nat) (d d' : Dc) : Pure Tryz.prog 83 #[mv9 T (.slice a m k), dcval d, dcval d'] (.bool (ahd T d d')) := by
  intro w
  have hp := rpart9 T a m k d
  have hp' := rpart9 T a m k d'
  have hs := rscmp_any (dpl T d).n (dpl T d).d d.c.wt (dpl T d').n (dpl T d').d d'.c.wt
  have hz := plo_lt (dpl T d) (dpl T d')
  obtain ⟨z, hzq⟩ : ∃ z, scmp (dpl T d).n (dpl T d).d d.c.wt (dpl T d').n (dpl T d').d d'.c.wt = z := ⟨_, rfl⟩
  have hz2 : plo (dpl T d) (dpl T d') < 0 ↔ z < 0 ∨ z = 0 ∧ d.id < d'.id := by rw [← hzq]; exact hz
  rw [hzq] at hs
  have hq : ahd T d d' = decide (z < 0 ∨ z = 0 ∧ d.id < d'.id) := by unfold ahd; exact decide_eq_decide.2 hz2
  rw [hq]
  clear hz hzq hz2 hq
  obtain ⟨w3, hw3⟩ : ∃ w3, w3 = ((w.alloc (.cells (mcells9 T (.slice a m k)) 115)).alloc (.cells (dccells d) 117)).alloc (.cells (dccells d') 117) := ⟨_, rfl⟩
  obtain ⟨b0, hb0⟩ : ∃ b, b = w.heap.size := ⟨_, rfl⟩
  obtain ⟨b1, hb1⟩ : ∃ b, b = b0 + 1 := ⟨_, rfl⟩
  obtain ⟨b2, hb2⟩ : ∃ b, b = b1 + 1 := ⟨_, rfl⟩
  have s1 : (w.alloc (.cells (mcells9 T (.slice a m k)) 115)).heap.size = b1 := by rw [hb1, hb0]; simp
  have s2 : ((w.alloc (.cells (mcells9 T (.slice a m k)) 115)).alloc (.cells (dccells d) 117)).heap.size = b2 := by rw [hb2, hb1, hb0]; simp
  have HM := Lib.hid (show MB9 w3 b0 T (.slice a m k) from by rw [hw3, hb0]; exact (MB9.made w T _).below (ba (ba (Below.refl _ _) _) _))
  have HD1 := Lib.hid (show DB9 w3 b1 d from by rw [hw3, ← s1]; exact (DB9.made _ d).below (ba (Below.refl _ _) _))
  have HD2 := Lib.hid (show DB9 w3 b2 d' from by rw [hw3, ← s2]; exact DB9.made _ d')
  have HB := Lib.hid (show Below w.heap.size w w3 from by rw [hw3]; exact ba (ba (ba (Below.refl _ _) _) _) _)
  clear s1 s2
  generalize (dpl T d).n = pn at *
  generalize (dpl T d).d = pd at *
  generalize (dpl T d').n = qn at *
  generalize (dpl T d').d = qd at *
  have HP := Lib.hid hp; have HP' := Lib.hid hp'; have HS := Lib.hid hs
  clear hp hp' hs
  obtain ⟨m0, m1, m2, m3, m4⟩ := HM.out.cells
  have ml := HM.out.lt
  obtain ⟨d0, d1, d2, d3, d4, d5, d6⟩ := HD1.out.cells
  have dl := HD1.out.lt
  obtain ⟨e0, e1, e2, e3, e4, e5, e6⟩ := HD2.out.cells
  have el := HD2.out.lt
  go_enter Tryz.func83, Tryz.ntmps83
  go_upto_region 1 with (fail)
  rw [← hb0, ← hb1, ← hb2, ← hw3]
  clear hw3 hb0 hb1 hb2
  refine wp_region_pure (by kernel_rfl) (by kernel_rfl) ?_
  repeat (first | go_big_quiet_step (first | (go_at_call 111; first | with_reducible exact HP.out.quiet | with_reducible exact HP'.out.quiet) | (go_at_call 110; with_reducible exact HS.out.quiet)) | (quiet_step (first | (go_at_call 111; first | with_reducible exact HP.out.quiet | with_reducible exact HP'.out.quiet) | (go_at_call 110; with_reducible exact HS.out.quiet))))
  refine wpQuiet_nil ?_
  rintro w4 ⟨x4, hx4⟩
  have hb4 := ext_below _ x4
  rw [← hx4] at hb4
  have HB4 := Lib.hid (bt HB.out hb4)
  have hd4 := HD1.out.below hb4
  have he4 := HD2.out.below hb4
  clear hx4 x4 hb4 m0 m1 m2 m3 m4 ml d0 d1 d2 d3 d4 d5 d6 dl e0 e1 e2 e3 e4 e5 e6 el
  obtain ⟨d0, d1, d2, d3, d4, d5, d6⟩ := hd4.cells
  have dl := hd4.lt
  obtain ⟨e0, e1, e2, e3, e4, e5, e6⟩ := he4.cells
  have el := he4.lt
  clear hd4 he4 d1 d2 d3 d4 d5 d6 e1 e2 e3 e4 e5 e6
  by_cases h1 : z < 0
  · have hR := Lib.hid (show decide (z < 0 ∨ z = 0 ∧ d.id < d'.id) = true from decide_eq_true (.inl h1))
    have h0 : (z == 0) = false := by simp; omega
    go_wp2
    go_ret
    exact ⟨by first | rfl | (rw [hR.out]; rfl) | (rw [decide_eq_true h1]; rfl) | (rw [decide_eq_false (show ¬ z < 0 by omega)]; rfl), HB4.out⟩
  · by_cases h2 : z = 0
    · subst h2
      by_cases h3 : d.id < d'.id
      · have hR := Lib.hid (show decide ((0 : Int) < 0 ∨ (0 : Int) = 0 ∧ d.id < d'.id) = true from decide_eq_true (.inr ⟨rfl, h3⟩))
        go_wp2
        go_ret
        exact ⟨by first | rfl | (rw [hR.out]; rfl) | (rw [decide_eq_true h1]; rfl) | (rw [decide_eq_false (show ¬ z < 0 by omega)]; rfl), HB4.out⟩
      · have hR := Lib.hid (show decide ((0 : Int) < 0 ∨ (0 : Int) = 0 ∧ d.id < d'.id) = false from decide_eq_false (by omega))
        go_wp2
        go_ret
        exact ⟨by first | rfl | simp [h3], HB4.out⟩
    · have h0 : (z == 0) = false := by simpa using h2
      have hR := Lib.hid (show decide (z < 0 ∨ z = 0 ∧ d.id < d'.id) = false from decide_eq_false (by omega))
      go_wp2
      go_ret
      exact ⟨by first | rfl | (rw [hR.out]; rfl) | (rw [decide_eq_true h1]; rfl) | (rw [decide_eq_false (show ¬ z < 0 by omega)]; rfl), HB4.out⟩
end
section
open Go.RowKit Go.Maps
attribute [local go_sem] ext_cell ext_frozen extC_cell extC_frozen Mix.calmUpon Mix.mUpon
/-- How many of the first r stand ahead of d. -/
def cnt9 (T : Nat → Int) (C : List Dc) (d : Dc) (r : Nat) : Nat := ((C.take r).filter fun k => k.c.aw && ahd T k d).length
theorem cnt9_le (T : Nat → Int) (C : List Dc) (d : Dc) (r : Nat) : cnt9 T C d r ≤ r := Nat.le_trans (List.length_filter_le _ _) (List.length_take_le _ _)
theorem cnt9_next {T : Nat → Int} {C : List Dc} {d x : Dc} {r : Nat} (h : C[r]? = some x) : cnt9 T C d (r + 1) = cnt9 T C d r + (if (x.c.aw && ahd T x d) = true then 1 else 0) := by
  unfold cnt9
  rw [take_at h, List.filter_append, List.length_append]
  by_cases hq : (x.c.aw && ahd T x d) = true
  · rw [if_pos hq]; simp [hq]
  · rw [if_neg hq]; simp [hq]
theorem cnt9_all (T : Nat → Int) (C : List Dc) (d : Dc) : cnt9 T C d C.length = rank T C d := by unfold cnt9; rw [List.take_length]; rfl
theorem nth9_next {T : Nat → Int} {C : List Dc} {n i : Nat} {x : Dc} (h : C[i]? = some x) : nth9 T C n (C.take (i + 1)) = nth9 T C n (C.take i) ++ (if (x.c.aw && (rank T C x == n)) = true then [x.id] else []) := by
  unfold nth9
  rw [take_at h, List.filter_append, List.map_append]
  congr 1
  by_cases hq : (x.c.aw && (rank T C x == n)) = true
  · rw [if_pos hq]; simp [hq]
  · rw [if_neg hq]; simp [hq]
theorem nth9_len (T : Nat → Int) (C : List Dc) (n : Nat) (A : List Dc) : (nth9 T C n A).length ≤ A.length := by unfold nth9; rw [List.length_map]; exact List.length_filter_le _ _
theorem ord9_len (T : Nat → Int) (C : List Dc) : ∀ m, (ord9 T C m).length ≤ m * C.length
  | 0 => by simp [ord9]
  | m + 1 => by
    rw [ord9_succ, List.length_append]
    have := ord9_len T C m
    have := nth9_len T C m C
    rw [Nat.succ_mul]; omega
section
variable {w : World} {v : Value} {C : List Dc} {T : Nat → Int}
set_option maxRecDepth 100000 in
set_option maxHeartbeats 4000000 in
theorem rorder9 (h : RS 7 dcenc w v C) (hl : C.length < 900) : Calls Tryz.prog 60 #[mv9 T v] w (RetI (ord9 T C C.length) w) := by
  obtain ⟨a, n, cp, rfl, hn, hc, hm, hat⟩ := h.at_
  have hn9 : n < 900 := by omega
  have HM := Lib.hid (MB9.made w T (.slice a n cp))
  have HB := Lib.hid (ba (Below.refl w.heap.size w) (.cells (mcells9 T (.slice a n cp)) 115))
  have HAT := Lib.hid hat; have HN := Lib.hid hn
  have HAH := Lib.hid fun d d' => rahead9 T a n cp d d'
  have HLB := Lib.hid fun t (ht : t ≤ n) (s : Nat) => show (ord9 T C t ++ nth9 T C t (C.take s)).length < 1000000 by
    have h1 := ord9_len T C t
    have h2 := nth9_len T C t (C.take s)
    have h3 := List.length_take_le s C
    have h4 : t * C.length ≤ 900 * 900 := Nat.mul_le_mul (by omega) (by omega)
    have h5 : (C.take s).length ≤ C.length := by rw [List.length_take]; omega
    rw [List.length_append]; omega
  clear h hat hn hm hc
  rw [← HN.out]
  go_enter Tryz.func60, Tryz.ntmps60
  go_wp2
  generalize w.alloc (.cells (mcells9 T (.slice a n cp)) 115) = w1 at *
  obtain ⟨b, hbq⟩ : ∃ b, b = w.heap.size := ⟨_, rfl⟩
  rw [← hbq] at HM ⊢
  clear hbq
  go_loopw [3, 4, 5, 6, 7] (fun ov nv _ _ _ wr => ∃ t : Nat, t ≤ n ∧ nv = .int .i64 t ∧ Hid (OwnL 2 1 n1 wr w1.heap.size ov (ord9 T C t) ∧ Below w1.heap.size w1 wr)) (fun _ nv _ _ _ _ => n - (intOf nv).toNat)
  case atStart => exact ⟨0, Nat.zero_le _, rfl, Lib.hid ⟨OwnL.nil _ _ _ _ _, Below.refl _ _⟩⟩
  case round =>
    obtain ⟨t, ht, rfl, HQ⟩ := hrel
    obtain ⟨w2, rfl⟩ : ∃ w2, w2 = wr := ⟨_, rfl⟩
    have hm2 := HM.out.below HQ.out.2
    obtain ⟨m0, m1, m2, m3, m4⟩ := hm2.cells
    have ml := hm2.lt
    clear hm2 m0 m1 m2 m3
    by_cases hlt : t < n
    · have hts : (t : Int) < (n : Int) := by omega
      go_wp2
      clear m4 ml
      go_loopw [3, 5, 6, 7] (fun ov iv _ _ wr => ∃ s : Nat, s ≤ n ∧ iv = .int .i64 s ∧ Hid (OwnL 2 1 n1 wr w1.heap.size ov (ord9 T C t ++ nth9 T C t (C.take s)) ∧ Below w1.heap.size w1 wr)) (fun _ iv _ _ _ => n - (intOf iv).toNat)
      case atStart => exact ⟨0, Nat.zero_le _, rfl, Lib.hid ⟨by simpa [nth9] using HQ.out.1, HQ.out.2⟩⟩
      case round =>
        clear HQ
        obtain ⟨s, hs, rfl, HR⟩ := hrel
        obtain ⟨w3, rfl⟩ : ∃ w3, w3 = wr := ⟨_, rfl⟩
        have hm2 := HM.out.below HR.out.2
        obtain ⟨m0, m1, m2, m3, m4⟩ := hm2.cells
        have ml := hm2.lt
        clear hm2 m0 m1 m2 m3
        by_cases hls : s < n
        · have hss : (s : Int) < (n : Int) := by omega
          obtain ⟨d, hd⟩ := at_lt (l := C) (i := s) (by rw [← HN.out]; exact hls)
          obtain ⟨bs, off, rfl, hbs, hcell⟩ := HAT.out s d hd
          have HBS := Lib.hid hbs
          have HDC := Lib.hid hcell; have HD := Lib.hid hd
          clear hcell hd hbs
          go_wp2
          clear m4 ml
          go_loopw [6, 7] (fun cv kv wr => ∃ r : Nat, r ≤ n ∧ kv = .int .i64 r ∧ cv = .int .i64 (cnt9 T C d r : Nat) ∧ Hid (OwnL 2 1 n1 wr w1.heap.size u3 (ord9 T C t ++ nth9 T C t (C.take s)) ∧ Below w1.heap.size w1 wr)) (fun _ kv _ => n - (intOf kv).toNat)
          case atStart => exact ⟨0, Nat.zero_le _, rfl, by simp [cnt9], HR⟩
          case round =>
            clear HR
            obtain ⟨r, hr, rfl, rfl, HS⟩ := hrel
            obtain ⟨w4, rfl⟩ : ∃ w4, w4 = wr := ⟨_, rfl⟩
            have hm2 := HM.out.below HS.out.2
            obtain ⟨m0, m1, m2, m3, m4⟩ := hm2.cells
            have ml := hm2.lt
            clear hm2
            have hbw : Below w.heap.size w w4 := bt HB.out HS.out.2
            have d0 := (hbw.cell (p := ⟨bs, off + s * 7 + 0, none⟩) HBS.out).trans (HDC.out 0 _ rfl)
            have d1 := (hbw.cell (p := ⟨bs, off + s * 7 + 1, none⟩) HBS.out).trans (HDC.out 1 _ rfl)
            have d2 := (hbw.cell (p := ⟨bs, off + s * 7 + 2, none⟩) HBS.out).trans (HDC.out 2 _ rfl)
            have d3 := (hbw.cell (p := ⟨bs, off + s * 7 + 3, none⟩) HBS.out).trans (HDC.out 3 _ rfl)
            have d4 := (hbw.cell (p := ⟨bs, off + s * 7 + 4, none⟩) HBS.out).trans (HDC.out 4 _ rfl)
            have d5 := (hbw.cell (p := ⟨bs, off + s * 7 + 5, none⟩) HBS.out).trans (HDC.out 5 _ rfl)
            have d6 := (hbw.cell (p := ⟨bs, off + s * 7 + 6, none⟩) HBS.out).trans (HDC.out 6 _ rfl)
            simp only [Nat.add_zero] at d0
            have hbs4 : bs < w4.heap.size := Nat.lt_of_lt_of_le HBS.out hbw.size
            by_cases hlr : r < n
            · have hrs : (r : Int) < (n : Int) := by omega
              obtain ⟨x, hx⟩ := at_lt (l := C) (i := r) (by rw [← HN.out]; exact hlr)
              obtain ⟨bs', off', hbe, _, hcell⟩ := HAT.out r x hx
              cases hbe
              have e0 := (hbw.cell (p := ⟨bs, off + r * 7 + 0, none⟩) HBS.out).trans (hcell 0 _ rfl)
              have e1 := (hbw.cell (p := ⟨bs, off + r * 7 + 1, none⟩) HBS.out).trans (hcell 1 _ rfl)
              have e2 := (hbw.cell (p := ⟨bs, off + r * 7 + 2, none⟩) HBS.out).trans (hcell 2 _ rfl)
              have e3 := (hbw.cell (p := ⟨bs, off + r * 7 + 3, none⟩) HBS.out).trans (hcell 3 _ rfl)
              have e4 := (hbw.cell (p := ⟨bs, off + r * 7 + 4, none⟩) HBS.out).trans (hcell 4 _ rfl)
              have e5 := (hbw.cell (p := ⟨bs, off + r * 7 + 5, none⟩) HBS.out).trans (hcell 5 _ rfl)
              have e6 := (hbw.cell (p := ⟨bs, off + r * 7 + 6, none⟩) HBS.out).trans (hcell 6 _ rfl)
              simp only [Nat.add_zero] at e0
              have hnx := cnt9_next (T := T) (d := d) hx
              have had' := HAH.out x d
              have hcr := cnt9_le T C d r
              obtain ⟨ad, had⟩ : ∃ ad, ad = ahd T x d := ⟨_, rfl⟩
              rw [← had] at hnx had'
              obtain ⟨c, hc⟩ : ∃ c, c = cnt9 T C d r := ⟨_, rfl⟩
              rw [← hc] at hnx hcr ⊢
              clear hcell hx hbw had hc
              obtain ⟨xi, ⟨xw, xs, xa⟩⟩ := x
              simp only at e0 e1 e2 e3 e4 e5 e6 hnx
              have HAD := Lib.hid had'
              clear had'
              have hc9 : c < 900 := by omega
              cases xa with
              | false =>
                have HNX := Lib.hid (show cnt9 T C d (r + 1) = c from by rw [hnx]; simp)
                clear hnx
                go_upto_region 12 with (fail)
                refine wp_region_pure (by kernel_rfl) (by kernel_rfl) ?_
                repeat (first | go_big_quiet_step (fail) | (quiet_step (fail)))
                refine wpQuiet_nil ?_
                rintro w5 ⟨x5, hx5⟩
                have hb5 := ext_below _ x5
                rw [← hx5] at hb5
                have HS5 := Lib.hid (And.intro (HS.out.1.below hb5) (bt HS.out.2 hb5))
                clear hx5 x5 hb5 e0 e1 e2 e3 e4 e5 e6 d0 d1 d2 d3 d4 d5 d6 m0 m1 m2 m3 m4 ml hbs4 HAD
                go_wp2
                go_roundw
                case rel => exact ⟨r + 1, by omega, by go_num, by rw [HNX.out], HS5⟩
                case measure => simp [intOf]; omega
              | true =>
                simp only [Bool.true_and] at hnx
                cases ad with
                | false =>
                  have HNX := Lib.hid (show cnt9 T C d (r + 1) = c from by rw [hnx]; simp)
                  clear hnx
                  go_upto_region 12 with (fail)
                  refine wp_region_pure (by kernel_rfl) (by kernel_rfl) ?_
                  repeat (first | go_big_quiet_step (first | (go_at_call 83; with_reducible exact HAD.out.quiet)) | (quiet_step (first | (go_at_call 83; with_reducible exact HAD.out.quiet))))
                  refine wpQuiet_nil ?_
                  rintro w5 ⟨x5, hx5⟩
                  have hb5 := ext_below _ x5
                  rw [← hx5] at hb5
                  have HS5 := Lib.hid (And.intro (HS.out.1.below hb5) (bt HS.out.2 hb5))
                  clear hx5 x5 hb5 e0 e1 e2 e3 e4 e5 e6 d0 d1 d2 d3 d4 d5 d6 m0 m1 m2 m3 m4 ml hbs4 HAD
                  go_wp2
                  go_roundw
                  case rel => exact ⟨r + 1, by omega, by go_num, by rw [HNX.out], HS5⟩
                  case measure => simp [intOf]; omega
                | true =>
                  have HNX := Lib.hid (show cnt9 T C d (r + 1) = c + 1 from by rw [hnx]; simp)
                  clear hnx
                  go_upto_region 12 with (fail)
                  refine wp_region_pure (by kernel_rfl) (by kernel_rfl) ?_
                  repeat (first | go_big_quiet_step (first | (go_at_call 83; with_reducible exact HAD.out.quiet)) | (quiet_step (first | (go_at_call 83; with_reducible exact HAD.out.quiet))))
                  refine wpQuiet_nil ?_
                  rintro w5 ⟨x5, hx5⟩
                  have hb5 := ext_below _ x5
                  rw [← hx5] at hb5
                  have HS5 := Lib.hid (And.intro (HS.out.1.below hb5) (bt HS.out.2 hb5))
                  clear hx5 x5 hb5 e0 e1 e2 e3 e4 e5 e6 d0 d1 d2 d3 d4 d5 d6 m0 m1 m2 m3 m4 ml hbs4 HAD
                  go_wp2
                  go_roundw
                  case rel => exact ⟨r + 1, by omega, by go_num, by rw [HNX.out]; go_num, HS5⟩
                  case measure => simp [intOf]; omega
            · obtain rfl : n = r := by omega
              have HRK := Lib.hid (show cnt9 T C d n = rank T C d from by rw [HN.out]; exact cnt9_all T C d)
              have HNT := Lib.hid (nth9_next (T := T) (n := t) HD.out)
              rw [HRK.out]
              obtain ⟨rk, hrk⟩ : ∃ rk, rk = rank T C d := ⟨_, rfl⟩
              rw [← hrk] at HNT ⊢
              have hrkn : rk ≤ n := by have := cnt9_le T C d n; rw [hrk, ← HRK.out]; exact this
              clear hrk HRK hbw d1 d2 d3 d4 d5
              obtain ⟨di, ⟨dw, ds, da⟩⟩ := d
              simp only at d0 d6
              cases da with
              | false =>
                have HW := Lib.hid (show nth9 T C t (C.take (s + 1)) = nth9 T C t (C.take s) from by rw [HNT.out]; simp)
                go_wp2
                clear d0 d6 m4 ml
                go_roundw
                case rel => exact ⟨s + 1, by omega, by go_num, Lib.hid (by rw [HW.out]; exact HS.out)⟩
                case measure => simp [intOf]; omega
              | true =>
                by_cases hrt : rk = t
                · have hrb : ((rk : Int) == (t : Int)) = true := by simp; omega
                  have HW := Lib.hid (show ord9 T C t ++ nth9 T C t (C.take (s + 1)) = (ord9 T C t ++ nth9 T C t (C.take s)) ++ [di] from by rw [HNT.out]; simp [hrt])
                  obtain ⟨v2, w5, hrun, o2, g2, _⟩ := app_i64 (b := w4.heap.size) (HS.out.1.below (ba (Below.refl _ _) (.cells #[.int .i64 di] 2))) di (by simp [go_sem]) (HLB.out t (by omega) s) (by have := HS.out.2.size; simp; omega)
                  have HRA := Lib.hid hrun
                  have HB5 := Lib.hid (show Below w1.heap.size w1 w5 from (ba HS.out.2 _).grown g2 (by have := HS.out.2.size; simp; omega) (fun j hj => (HS.out.1.lt j hj).1))
                  have O2 := Lib.hid o2
                  clear hrun o2 g2
                  go_wp2_with (at_builtin; refine wpList_app_run rfl _ _ _ rfl rfl rfl HRA.out ?_)
                  clear d0 d6 m4 ml
                  go_roundw
                  case rel => exact ⟨s + 1, by omega, by go_num, Lib.hid ⟨by rw [HW.out]; exact O2.out, HB5.out⟩⟩
                  case measure => simp [intOf]; omega
                · have hrb : ((rk : Int) == (t : Int)) = false := by simp; omega
                  have HW := Lib.hid (show nth9 T C t (C.take (s + 1)) = nth9 T C t (C.take s) from by rw [HNT.out]; simp [hrt])
                  go_wp2
                  clear d0 d6 m4 ml
                  go_roundw
                  case rel => exact ⟨s + 1, by omega, by go_num, Lib.hid (by rw [HW.out]; exact HS.out)⟩
                  case measure => simp [intOf]; omega
        · obtain rfl : n = s := by omega
          have hq := HR.out
          rw [List.take_of_length_le (l := C) (by rw [HN.out]; exact Nat.le_refl _), ← ord9_succ] at hq
          have HR2 := Lib.hid hq
          clear hq HR
          go_wp2
          go_roundw
          case rel => exact ⟨t + 1, by omega, by go_num, HR2⟩
          case measure => simp [intOf]; omega
    · obtain rfl : n = t := by omega
      have HQ2 := Lib.hid HQ.out
      clear HQ
      go_wp2
      go_ret
      exact ⟨_, rfl, show OwnL _ _ _ _ _ _ _ from ownsRow_base HQ2.out.1 HB.out.size, bt HB.out HQ2.out.2⟩
end
end
section
open Go.RowKit Go.Maps
attribute [local go_sem] ext_cell ext_frozen extC_cell extC_frozen Mix.calmUpon Mix.mUpon
set_option maxHeartbeats 2000000 in
theorem rsmall9 (a : Nat → Int) : Pure Tryz.prog 23 #[S4 a] (.bool (decide (Sm4 a))) := by
  intro w
  go_enter Tryz.func23, Tryz.ntmps23
  go_wp2_with fail
  go_loop [3] (fun i => ∃ k : Nat, k ≤ 4 ∧ i = .int .i64 k ∧ Hid (∀ j, j < k → 0 ≤ a j ∧ a j ≤ 9007199254740992)) (fun i => 4 - (intOf i).toNat)
  case atStart => exact ⟨0, by omega, rfl, Lib.hid (fun j hj => by omega)⟩
  case round =>
    obtain ⟨k, hk, rfl, HK⟩ := hrel
    by_cases hlt : k < 4
    · have hks : (k : Int) < 4 := by omega
      have hc := c4_cell w a 25 k hlt
      by_cases h0 : 0 ≤ a k
      · by_cases h1 : a k ≤ 9007199254740992
        · have HN := Lib.hid (show ∀ j, j < k + 1 → 0 ≤ a j ∧ a j ≤ 9007199254740992 from fun j hj => by
            rcases Nat.lt_or_ge j k with h | h
            · exact HK.out j h
            · obtain rfl : j = k := by omega
              exact ⟨h0, h1⟩)
          go_wp2
          go_round
          case rel => exact ⟨k + 1, by omega, by go_num, HN⟩
          case measure => simp [intOf]; omega
        · have hn : ¬ Sm4 a := fun h => h1 (h k hlt).2
          have HN := Lib.hid hn
          have h2 : 9007199254740992 < a k := by omega
          clear hn h1
          go_wp2
          go_ret
          exact ⟨by rw [decide_eq_false HN.out]; rfl, ba (Below.refl _ _) _⟩
      · have hn : ¬ Sm4 a := fun h => h0 (h k hlt).1
        have HN := Lib.hid hn
        have h2 : a k < 0 := by omega
        clear hn h0
        go_wp2
        go_ret
        exact ⟨by rw [decide_eq_false HN.out]; rfl, ba (Below.refl _ _) _⟩
    · obtain rfl : k = 4 := by omega
      have HN := Lib.hid (show Sm4 a from HK.out)
      go_wp2
      go_ret
      exact ⟨by rw [decide_eq_true HN.out]; rfl, ba (Below.refl _ _) _⟩
theorem refadd9 (a n : Nat → Int) (ha : SOk a) : ∃ r q, Pure Tryz.prog 25 #[S4 a, S4 n] (.tuple #[S4 r, .bool q]) ∧ (q = true → r = fun k => a k + n k) ∧ (Gv a n ↔ q = true ∧ Sm4 r) := by
  by_cases hn : SOk n
  · cases hq : decide (SOk fun k => a k + n k) with
    | false =>
      refine ⟨Z4, false, ?_, fun h => (by cases h), ⟨fun h => ?_, fun h => (by cases h.1)⟩⟩
      · exact refadd_both a n false ha hn hq
      · have := h.2.ok; simp [this] at hq
    | true =>
      refine ⟨fun k => a k + n k, true, ?_, fun _ => rfl, ⟨fun h => ⟨rfl, h.2⟩, fun h => ⟨hn, h.2⟩⟩⟩
      exact refadd_both a n true ha hn hq
  · refine ⟨Z4, false, refadd_no2 a n ha hn, fun h => (by cases h), ⟨fun h => absurd h.1 hn, fun h => (by cases h.1)⟩⟩
end
end Go.Proofs.YtgfjmafdfbghnaaGreat
