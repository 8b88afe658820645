/- pool: Events, and the document's. -/
import Derived.Test.YtnckjacbkhoppaaPo6
import Derived.Test.YtnckjacbkhoppaaEv1
namespace Go.Proofs.Ytnckjacbkhoppaa
open Go.RowKit Go.Maps
attribute [local go_sem] ext_cell ext_frozen extC_cell extC_frozen Mix.calmUpon Mix.mUpon
/-- What an operation tells. -/
def evOf (f g : Int) (o : Qo) : Option Pe := if o.1 = 1 then some (13, f, o.2.1, g, o.2.2) else if o.1 = 2 then some (18, f, 0, g, o.2.2) else if o.1 = 3 then some (19, f, 0, g, o.2.2) else none
def evsOf (f g : Int) (l : List Qo) : List Pe := l.filterMap (evOf f g)
theorem evs_take {f g : Int} {l : List Po} {t : Nat} {x : Po} (hx : l[t]? = some x) : evsOf f g ((l.take (t + 1)).map Po.pl) = evsOf f g ((l.take t).map Po.pl) ++ (match evOf f g x.pl with | some e => [e] | none => []) := by
  unfold evsOf
  rw [take_at hx, List.map_append, List.filterMap_append]
  congr 1
  simp only [List.map_cons, List.map_nil, List.filterMap_cons, List.filterMap_nil]
  split <;> simp_all
theorem infoEv : (Try.prog.info? 28).map (fun i => (i.zero, i.size, i.bytes)) = some (some (.agg #[.int .i64 0, .int .i64 0, .int .i64 0, .int .i64 0, .slice none 0 0]), 5, 56) := by kernel_rfl
/-- A block that holds an event. -/
def VB (w : World) (b : Nat) (k f i g : Int) (v : Value) : Prop := w.heap[b]? = some (.cells #[.int .i64 k, .int .i64 f, .int .i64 i, .int .i64 g, v] 28 (0, 0))
section
variable {w w' : World} {b : Nat} {k f i g : Int} {v : Value}
theorem VB.made (w : World) (k f i g : Int) (v : Value) : VB (w.alloc (.cells #[.int .i64 k, .int .i64 f, .int .i64 i, .int .i64 g, v] 28)) w.heap.size k f i g v := heap_alloc_new w _
theorem VB.lt (h : VB w b k f i g v) : b < w.heap.size := (Array.getElem?_eq_some_iff.1 h).1
theorem VB.below (h : VB w b k f i g v) (hb : Below w.heap.size w w') : VB w' b k f i g v := (hb.block b h.lt).trans h
theorem VB.cells (h : VB w b k f i g v) : w.cell? ⟨b, 0, none⟩ = some (.int .i64 k) ∧ w.cell? ⟨b, 1, none⟩ = some (.int .i64 f) ∧ w.cell? ⟨b, 2, none⟩ = some (.int .i64 i) ∧ w.cell? ⟨b, 3, none⟩ = some (.int .i64 g) ∧ w.cell? ⟨b, 4, none⟩ = some v := by unfold VB at h; simp [World.cell?, h]
theorem VB.fz (h : VB w b k f i g v) (o : Nat) : w.frozen? ⟨b, o, none⟩ = false := by unfold VB at h; simp [World.frozen?, h]
theorem VB.set0 (h : VB w b k f i g v) (k' : Int) : VB (w.setCell ⟨b, 0, none⟩ (.int .i64 k')) b k' f i g v := heap_setCell_at _ h
theorem VB.set2 (h : VB w b k f i g v) (i' : Int) : VB (w.setCell ⟨b, 2, none⟩ (.int .i64 i')) b k f i' g v := heap_setCell_at _ h
end
theorem own_appE {w : World} {base : Nat} {v : Value} {l : List Ev} {b : Nat} (h : OwnL 28 5 evenc w base v l) (x : Ev) (hx : VB w b x.kind x.frame x.id x.agent x.vv) (hv : x.vv.oneCell' = true) (hl : l.length < 1000000) (hb : base ≤ w.heap.size) :
    ∃ v' w', (Builtin.append_ #[24, 24] 24 #[v, .slice (some ⟨b, 0, none⟩) 1 1]).run Try.prog w = .ok v' w' ∧ OwnL 28 5 evenc w' base v' (l ++ [x]) ∧ w.grownBy w' v.ownBlock ∧ (v'.ownBlock = v.ownBlock ∨ v'.ownBlock = some w.heap.size) := by
  obtain ⟨i0, hi, hz0, hz1, hz2⟩ := info_parts infoEv
  obtain ⟨x0, x1, x2, x3, x4⟩ := hx.cells
  exact OwnL.app h Try.underlying24 hi hz0 hz1 hz2 rfl (by decide) (fun _ => rfl) x (fun j u hj => by
      rcases j with _ | _ | _ | _ | _ | j <;> simp [evenc] at hj
      · subst hj; exact x0
      · subst hj; exact x1
      · subst hj; exact x2
      · subst hj; exact x3
      · subst hj; exact x4) (fun u hu => by simp [evenc] at hu; rcases hu with rfl | rfl | rfl | rfl | rfl <;> first | rfl | exact hv) (by omega) (by unfold maxLen; omega) hb
/-- A list of events that a call builds; its vectors are new, or older than the call. -/
structure EG (W wr : World) (v : Value) (C : List Ev) : Prop where
  own : OwnL 28 5 evenc wr W.heap.size v C
  vec : ∀ x ∈ C, Vc W x.vv x.ps ∨ (OwnP wr W.heap.size x.vv x.ps ∧ ∀ b, x.vv.ownBlock = some b → v.ownBlock ≠ some b)
  bel : Below W.heap.size W wr
section
variable {W wr w4 : World} {v : Value} {C : List Ev}
theorem EG.on (h : EG W wr v C) (hb : Below wr.heap.size wr w4) : EG W w4 v C :=
  ⟨h.own.below hb, fun x hx => (h.vec x hx).imp id fun ⟨a, b⟩ => ⟨ownsRow_chg a (.of_below (fun _ => False) hb) fun _ _ => id, b⟩, h.bel.trans (hb.mono h.bel.size)⟩
theorem EG.el (h : EG W wr v C) : EL wr v C := ⟨h.own.rs (fun _ => rfl), fun x hx => by
  rcases h.vec x hx with h1 | ⟨h1, _⟩
  · exact h1.on h.bel
  · exact h1.vc⟩
theorem EG.add (h : EG W wr v C) (hl : C.length < 1000000) (hb4 : Below wr.heap.size wr w4) {b : Nat} (x : Ev) (hk : VB w4 b x.kind x.frame x.id x.agent x.vv) (h1 : x.vv.oneCell' = true)
    (hu : Vc W x.vv x.ps ∨ OwnP w4 wr.heap.size x.vv x.ps) :
    ∃ v' w5, (Builtin.append_ #[24, 24] 24 #[v, .slice (some ⟨b, 0, none⟩) 1 1]).run Try.prog w4 = .ok v' w5 ∧ EG W w5 v' (C ++ [x]) := by
  have hol := h.own.lt
  have hsz := hb4.size; have hsw := h.bel.size
  obtain ⟨v2, w5, hra, o5, g5, b5⟩ := own_appE (h.own.below hb4) x hk h1 hl (by omega)
  have hcg : Chg (fun k => v.ownBlock = some k) w4 w5 := .of_grown g5 fun k e => e
  refine ⟨v2, w5, hra, o5, fun y hy => ?_, h.bel.trans ((hb4.mono hsw).trans (hcg.below (by omega) fun k e => (hol k e).1))⟩
  have keep : ∀ z : Ev, OwnP w4 W.heap.size z.vv z.ps → (∀ b, z.vv.ownBlock = some b → v.ownBlock ≠ some b ∧ b < w4.heap.size) → OwnP w5 W.heap.size z.vv z.ps ∧ ∀ b, z.vv.ownBlock = some b → v2.ownBlock ≠ some b := fun z hz hn => by
    refine ⟨ownsRow_chg hz hcg fun b hb e => (hn b hb).1 e, fun b hb e => ?_⟩
    rcases b5 with e5 | e5
    · rw [e5] at e; exact (hn b hb).1 e
    · rw [e5] at e
      have : w4.heap.size = b := Option.some.inj e
      have := (hn b hb).2; omega
  rcases List.mem_append.1 hy with hy | hy
  · rcases h.vec y hy with h2 | ⟨h2, h3⟩
    · exact .inl h2
    · exact .inr (keep y (ownsRow_chg h2 (.of_below (fun _ => False) hb4) fun _ _ => id) fun b hb => ⟨h3 b hb, by have := (h2.lt b hb).2; omega⟩)
  · rw [List.mem_singleton.1 hy]
    rcases hu with h2 | h2
    · exact .inl h2
    · refine .inr (keep x (ownsRow_base h2 hsw) fun b hb => ⟨fun e => ?_, (h2.lt b hb).2⟩)
      have := (h2.lt b hb).1; have := (hol b e).2; omega
end
end Go.Proofs.Ytnckjacbkhoppaa
