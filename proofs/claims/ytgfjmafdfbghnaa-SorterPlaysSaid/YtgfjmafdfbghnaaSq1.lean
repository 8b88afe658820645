/- The document's sorter in memory: its clients by a list. -/
import Derived.Test.YtgfjmafdfbghnaaSq0
import Derived.Test.YtgfjmafdfbghnaaSCmp9
namespace Go.Proofs.Ytgfjmafdfbghnaa
open Go.RowKit Go.Maps
attribute [local go_sem] ext_cell ext_frozen extC_cell extC_frozen Mix.calmUpon Mix.mUpon
def dcenc (d : Dc) : List Value := [.int .i64 d.id, .int .i64 d.c.wt, .int .i64 (d.c.s 0), .int .i64 (d.c.s 1), .int .i64 (d.c.s 2), .int .i64 (d.c.s 3), .bool d.c.aw]
abbrev dcval (d : Dc) : Value := .agg #[.int .i64 d.id, .int .i64 d.c.wt, .int .i64 (d.c.s 0), .int .i64 (d.c.s 1), .int .i64 (d.c.s 2), .int .i64 (d.c.s 3), .bool d.c.aw]
abbrev dccells (d : Dc) : Array Value := #[.int .i64 d.id, .int .i64 d.c.wt, .int .i64 (d.c.s 0), .int .i64 (d.c.s 1), .int .i64 (d.c.s 2), .int .i64 (d.c.s 3), .bool d.c.aw]
/-- A variable that holds a client of the document's. -/
def DB9 (w : World) (b : Nat) (d : Dc) : Prop := w.heap[b]? = some (.cells (dccells d) 52 (0, 0))
section
variable {F : Nat → Prop} {w w' : World} {b : Nat} {d : Dc}
theorem DB9.made (w : World) (d : Dc) : DB9 (w.alloc (.cells (dccells d) 52)) w.heap.size d := heap_alloc_new w _
theorem DB9.lt (h : DB9 w b d) : b < w.heap.size := (Array.getElem?_eq_some_iff.1 h).1
theorem DB9.chg (h : DB9 w b d) (hb : Chg F w w') (hf : ¬ F b) : DB9 w' b d := (hb.block _ h.lt hf).trans h
theorem DB9.below (h : DB9 w b d) (hb : Below w.heap.size w w') : DB9 w' b d := (hb.block _ h.lt).trans h
theorem DB9.cells (h : DB9 w b d) : w.cell? ⟨b, 0, none⟩ = some (.int .i64 d.id) ∧ w.cell? ⟨b, 1, none⟩ = some (.int .i64 d.c.wt) ∧ w.cell? ⟨b, 2, none⟩ = some (.int .i64 (d.c.s 0)) ∧ w.cell? ⟨b, 3, none⟩ = some (.int .i64 (d.c.s 1)) ∧ w.cell? ⟨b, 4, none⟩ = some (.int .i64 (d.c.s 2)) ∧ w.cell? ⟨b, 5, none⟩ = some (.int .i64 (d.c.s 3)) ∧ w.cell? ⟨b, 6, none⟩ = some (.bool d.c.aw) := by
  unfold DB9 at h; simp [World.cell?, h]
theorem DB9.fz (h : DB9 w b d) (o : Nat) : w.frozen? ⟨b, o, none⟩ = false := by unfold DB9 at h; simp [World.frozen?, h]
end
theorem infoDc : (Try.prog.info? 52).map (fun i => (i.zero, i.size, i.bytes)) = some (some (.agg #[.int .i64 0, .int .i64 0, .int .i64 0, .int .i64 0, .int .i64 0, .int .i64 0, .bool false]), 7, 56) := by kernel_rfl
theorem own_appDc {w : World} {base : Nat} {v : Value} {l : List Dc} {b : Nat} (h : OwnL 52 7 dcenc w base v l) (x : Dc) (hx : DB9 w b x) (hl : l.length < 1000000) (hb : base ≤ w.heap.size) :
    ∃ v' w', (Builtin.append_ #[26, 26] 26 #[v, .slice (some ⟨b, 0, none⟩) 1 1]).run Try.prog w = .ok v' w' ∧ OwnL 52 7 dcenc w' base v' (l ++ [x]) ∧ w.grownBy w' v.ownBlock ∧ (v'.ownBlock = v.ownBlock ∨ v'.ownBlock = some w.heap.size) := by
  obtain ⟨i0, hi, hz0, hz1, hz2⟩ := info_parts infoDc
  obtain ⟨x0, x1, x2, x3, x4, x5, x6⟩ := hx.cells
  exact OwnL.app h Try.underlying26 hi hz0 hz1 hz2 rfl (by decide) (fun _ => rfl) x (fun j u hj => by
      rcases j with _ | _ | _ | _ | _ | _ | _ | j <;> simp [dcenc] at hj
      · subst hj; exact x0
      · subst hj; exact x1
      · subst hj; exact x2
      · subst hj; exact x3
      · subst hj; exact x4
      · subst hj; exact x5
      · subst hj; exact x6) (fun u hu => by simp [dcenc] at hu; rcases hu with rfl | rfl | rfl | rfl | rfl | rfl | rfl <;> rfl) (by omega) (by unfold maxLen; omega) hb
abbrev mv9 (T : Nat → Int) (v : Value) : Value := .agg #[.int .i64 (T 0), .int .i64 (T 1), .int .i64 (T 2), .int .i64 (T 3), v]
abbrev mcells9 (T : Nat → Int) (v : Value) : Array Value := #[.int .i64 (T 0), .int .i64 (T 1), .int .i64 (T 2), .int .i64 (T 3), v]
/-- A block that holds the document's sorter. -/
def MB9 (w : World) (b : Nat) (T : Nat → Int) (v : Value) : Prop := w.heap[b]? = some (.cells (mcells9 T v) 28 (0, 0))
section
variable {F : Nat → Prop} {w w' : World} {b : Nat} {T : Nat → Int} {v : Value}
theorem MB9.made (w : World) (T : Nat → Int) (v : Value) : MB9 (w.alloc (.cells (mcells9 T v) 28)) w.heap.size T v := heap_alloc_new w _
theorem MB9.lt (h : MB9 w b T v) : b < w.heap.size := (Array.getElem?_eq_some_iff.1 h).1
theorem MB9.chg (h : MB9 w b T v) (hb : Chg F w w') (hf : ¬ F b) : MB9 w' b T v := (hb.block _ h.lt hf).trans h
theorem MB9.below (h : MB9 w b T v) (hb : Below w.heap.size w w') : MB9 w' b T v := h.chg (.of_below (fun _ => False) hb) id
theorem MB9.cells (h : MB9 w b T v) : w.cell? ⟨b, 0, none⟩ = some (.int .i64 (T 0)) ∧ w.cell? ⟨b, 1, none⟩ = some (.int .i64 (T 1)) ∧ w.cell? ⟨b, 2, none⟩ = some (.int .i64 (T 2)) ∧ w.cell? ⟨b, 3, none⟩ = some (.int .i64 (T 3)) ∧ w.cell? ⟨b, 4, none⟩ = some v := by unfold MB9 at h; simp [World.cell?, h]
theorem MB9.fz (h : MB9 w b T v) (o : Nat) : w.frozen? ⟨b, o, none⟩ = false := by unfold MB9 at h; simp [World.frozen?, h]
theorem MB9.set4 (h : MB9 w b T v) (v' : Value) : MB9 (w.setCell ⟨b, 4, none⟩ v') b T v' := heap_setCell_at v' h
theorem MB9.load (h : MB9 w b T v) : (loadVar 28 ⟨b, 0, none⟩).run Try.prog w = .ok (mv9 T v) w := by
  obtain ⟨x0, x1, x2, x3, x4⟩ := h.cells
  simp [go_sem, x0, x1, x2, x3, x4]
theorem res_m9 {fn : Func} {tmps : Array Value} {p : Nat} (h : fn.results = #[.cell p 28]) (hp : tmps.getD p undef = .pointer (some ⟨b, 0, none⟩)) (hb : MB9 w b T v) :
    (results fn tmps).run Try.prog w = .ok (mv9 T v) w := by
  simp only [results, h]
  have hp' : tmps[p]?.getD undef = .pointer (some ⟨b, 0, none⟩) := by simpa [Array.getD_eq_getD_getElem?] using hp
  simp [Sem.run_bind, Result.andThen, hp', asAddr, hb.load]
end
/-- A list of the document's that a call makes in the variable b3, which was the newest of w3. -/
structure OC9 (w3 wr : World) (b3 : Nat) (T : Nat → Int) (vo : Value) (C : List Dc) : Prop where
  bel : Below b3 w3 wr
  lt : b3 < w3.heap.size
  m : MB9 wr b3 T vo
  own : OwnL 52 7 dcenc wr (b3 + 1) vo C
def OB9 (v : Value) : Nat → Prop := fun k => v.ownBlock = some k
section
variable {w w3 wr wr' : World} {b3 : Nat} {T : Nat → Int} {vo : Value} {C : List Dc} {x : Dc}
theorem OC9.no (h : OC9 w3 wr b3 T vo C) {k : Nat} (hk : k ≤ b3) : ¬ OB9 vo k := fun e => by have := (h.own.lt k e).1; omega
theorem OC9.sz (h : OC9 w3 wr b3 T vo C) : b3 < wr.heap.size := h.m.lt
theorem OC9.on (h : OC9 w3 wr b3 T vo C) (hb : Below wr.heap.size wr wr') : OC9 w3 wr' b3 T vo C :=
  ⟨h.bel.trans (hb.mono (by have := h.sz; omega)), h.lt, h.m.below hb, h.own.below hb⟩
/-- One more element, which lies in a new block. -/
theorem OC9.app (h : OC9 w3 wr b3 T vo C) (hl : C.length < 1000000) {w1 : World} (hb : Below wr.heap.size wr w1) {q : Nat} (hx : DB9 w1 q x) :
    ∃ a' m' c' w2, (Builtin.append_ #[26, 26] 26 #[vo, .slice (some ⟨q, 0, none⟩) 1 1]).run Try.prog w1 = .ok (.slice a' m' c') w2 ∧ Chg (OB9 vo) w1 w2 ∧ (∀ w4, Chg (OB9 vo) w1 w4 → Below w2.heap.size w2 w4 → OC9 w3 (w4.setCell ⟨b3, 4, none⟩ (.slice a' m' c')) b3 T (.slice a' m' c') (C ++ [x])) := by
  have h1 := h.on hb
  have hd := h1.sz
  obtain ⟨v', w2, hrun, o2, g2, hv2⟩ := own_appDc h1.own x hx hl (by omega)
  obtain ⟨a', m', c', rfl⟩ : ∃ a' m' c', v' = .slice a' m' c' := by
    rcases o2.2 with ⟨_, h0⟩ | ⟨g', cap', cur', rfl, _⟩
    · simp at h0
    · exact ⟨_, _, _, rfl⟩
  have hc : Chg (OB9 vo) w1 w2 := .of_grown g2 fun k e => e
  refine ⟨a', m', c', w2, hrun, hc, fun w4 hc3 hb3 => ?_⟩
  have hst : Chg (fun k => k = b3) w4 (w4.setCell ⟨b3, 4, none⟩ (.slice a' m' c')) := (Chg.refl (fun k => k = b3) w4).setCell (p := ⟨b3, 4, none⟩) (.inl rfl) _
  have own3 := o2.below hb3
  have hs3 := hc3.size
  have nb : ∀ k, Value.ownBlock (.slice a' m' c') = some k → k ≠ b3 := fun k hk e => by have := (o2.lt k hk).1; omega
  exact ⟨h1.bel.trans ((hc3.below (by omega) (fun k hk => by have := (h1.own.lt k hk).1; omega)).trans (hst.below (by omega) (fun k e => by rw [e]; omega))), h1.lt,
    (h1.m.chg hc3 (h1.no (by omega))).set4 _, own3.chg hst nb⟩
end
/-- What a call of the document's that answers a sorter gives. -/
def RetM9 (w : World) (T : Nat → Int) (C : List Dc) (e : Ending) (w' : World) : Prop := ∃ v, e = .returned (mv9 T v) ∧ OwnL 52 7 dcenc w' w.heap.size v C ∧ Below w.heap.size w w'
end Go.Proofs.Ytgfjmafdfbghnaa
