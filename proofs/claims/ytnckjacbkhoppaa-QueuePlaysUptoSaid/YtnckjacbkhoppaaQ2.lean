/- queue: blocks that hold an event, or a queue; append. -/
import Derived.Test.YtnckjacbkhoppaaQ1
namespace Go.Proofs.Ytnckjacbkhoppaa
open Go.RowKit Go.Maps
attribute [local go_sem] ext_cell ext_frozen extC_cell extC_frozen Mix.calmUpon Mix.mUpon
/-- Block b holds the event e. -/
def EB (w : World) (b : Nat) (e : Ev) : Prop := w.heap[b]? = some (.cells #[.int .i64 e.kind, .int .i64 e.frame, .int .i64 e.id, .int .i64 e.agent, e.vv] 28 (0, 0))
section
variable {w w' : World} {b : Nat} {e : Ev}
theorem EB.made (w : World) (e : Ev) : EB (w.alloc (.cells #[.int .i64 e.kind, .int .i64 e.frame, .int .i64 e.id, .int .i64 e.agent, e.vv] 28)) w.heap.size e := heap_alloc_new w _
theorem EB.lt (h : EB w b e) : b < w.heap.size := (Array.getElem?_eq_some_iff.1 h).1
theorem EB.chg {F : Nat → Prop} (h : EB w b e) (hc : Chg F w w') (hf : ¬ F b) : EB w' b e := (hc.block b h.lt hf).trans h
theorem EB.below (h : EB w b e) (hb : Below w.heap.size w w') : EB w' b e := (hb.block b h.lt).trans h
theorem EB.cells (h : EB w b e) : w.cell? ⟨b, 0, none⟩ = some (.int .i64 e.kind) ∧ w.cell? ⟨b, 1, none⟩ = some (.int .i64 e.frame) ∧ w.cell? ⟨b, 2, none⟩ = some (.int .i64 e.id) ∧ w.cell? ⟨b, 3, none⟩ = some (.int .i64 e.agent) ∧ w.cell? ⟨b, 4, none⟩ = some e.vv := by
  unfold EB at h; simp [World.cell?, h]
theorem EB.fz (h : EB w b e) (o : Nat) : w.frozen? ⟨b, o, none⟩ = false := by unfold EB at h; simp [World.frozen?, h]
theorem EB.set (h : EB w b e) (u : Value) : EB (w.setCell ⟨b, 4, none⟩ u) b { e with vv := u } := by
  have := heap_setCell_at (o := 4) u h
  unfold EB; rw [this]; simp
end
/-- Block b holds a queue. -/
def RB (w : World) (b : Nat) (v : Value) (lost : Int) : Prop := w.heap[b]? = some (.cells #[v, .int .i64 lost] 172 (0, 0))
section
variable {w w' : World} {b : Nat} {v : Value} {lost : Int}
theorem RB.made (w : World) (v : Value) (lost : Int) : RB (w.alloc (.cells #[v, .int .i64 lost] 172)) w.heap.size v lost := heap_alloc_new w _
theorem RB.lt (h : RB w b v lost) : b < w.heap.size := (Array.getElem?_eq_some_iff.1 h).1
theorem RB.chg {F : Nat → Prop} (h : RB w b v lost) (hc : Chg F w w') (hf : ¬ F b) : RB w' b v lost := (hc.block b h.lt hf).trans h
theorem RB.below (h : RB w b v lost) (hb : Below w.heap.size w w') : RB w' b v lost := (hb.block b h.lt).trans h
theorem RB.cells (h : RB w b v lost) : w.cell? ⟨b, 0, none⟩ = some v ∧ w.cell? ⟨b, 1, none⟩ = some (.int .i64 lost) := by unfold RB at h; simp [World.cell?, h]
theorem RB.fz (h : RB w b v lost) (o : Nat) : w.frozen? ⟨b, o, none⟩ = false := by unfold RB at h; simp [World.frozen?, h]
theorem RB.set0 (h : RB w b v lost) (u : Value) : RB (w.setCell ⟨b, 0, none⟩ u) b u lost := by
  have := heap_setCell_at (o := 0) u h
  unfold RB; rw [this]; simp
theorem RB.set1 (h : RB w b v lost) (n : Int) : RB (w.setCell ⟨b, 1, none⟩ (.int .i64 n)) b v n := by
  have := heap_setCell_at (o := 1) (.int .i64 n) h
  unfold RB; rw [this]; simp
end
theorem infoEv : (Try.prog.info? 28).map (fun i => (i.zero, i.size, i.bytes)) = some (some (.agg #[.int .i64 0, .int .i64 0, .int .i64 0, .int .i64 0, .slice none 0 0]), 5, 56) := by kernel_rfl
theorem infoEvI : ∃ i, Try.prog.info? 28 = some i ∧ i.size = 5 := by
  obtain ⟨i0, hi, _, hz1, _⟩ := info_parts infoEv
  exact ⟨i0, hi, hz1⟩
theorem ownP_one {w : World} {B : Nat} {v : Value} {l : List Pt} (h : OwnP w B v l) : v.oneCell' = true := by
  rcases h.2 with ⟨rfl, _⟩ | ⟨g, cap, cur, rfl, _⟩ <;> rfl
theorem vc_one {w : World} {v : Value} {l : List Pt} (h : Vc w v l) : v.oneCell' = true := by
  obtain ⟨a, cap, rfl, _⟩ := h.form; rfl
theorem evapp {w : World} {base : Nat} {v : Value} {l : List Ev} (h : OwnO 5 evenc w base v l) (x : Ev) {b c : Nat} (hx : EB w b x) (h1 : x.vv.oneCell' = true) (hl : l.length < 1000000) (hb : base ≤ w.heap.size) (ty : TypeId) :
    ∃ v' w', (Builtin.append_ #[24, 24] ty #[v, .slice (some ⟨b, 0, none⟩) 1 c]).run Try.prog w = .ok v' w' ∧ OwnO 5 evenc w' base v' (l ++ [x]) ∧ w.grownBy w' v.ownBlock ∧ (v'.ownBlock = v.ownBlock ∨ v'.ownBlock = some w.heap.size) := by
  obtain ⟨i0, hi, hz0, hz1, hz2⟩ := info_parts infoEv
  obtain ⟨e0, e1, e2, e3, e4⟩ := hx.cells
  refine h.app (P := Try.prog) Try.underlying24 hi hz0 hz1 hz2 rfl (by decide) (fun _ => rfl) x (fun j u hu => ?_) (fun u hu => ?_) (by omega) (by unfold maxLen; omega) hb
  · match j, hu with
    | 0, hu => cases hu; exact e0
    | 1, hu => cases hu; exact e1
    | 2, hu => cases hu; exact e2
    | 3, hu => cases hu; exact e3
    | 4, hu => cases hu; exact e4
    | j + 5, hu => simp [evenc] at hu
  · simp only [evenc, List.mem_cons, List.not_mem_nil, or_false] at hu
    rcases hu with rfl | rfl | rfl | rfl | rfl <;> first | rfl | exact h1
/-- How many of the events are put in. -/
def cntM (most : Int) : List Pq → List Pe → Nat
  | _, [] => 0
  | T, e :: l => cnt1 T e + cntM most (put1 most T e) l
theorem cntM_snoc (most : Int) (e : Pe) : ∀ (l : List Pe) (T : List Pq), cntM most T (l ++ [e]) = cntM most T l + cnt1 (putM most T l) e
  | [], T => by simp [cntM, putM]
  | x :: l, T => by rw [List.cons_append, cntM, cntM, cntM_snoc most e l]; unfold putM; rw [List.foldl_cons]; omega
theorem putM_snoc (most : Int) (e : Pe) (l : List Pe) (T : List Pq) : putM most T (l ++ [e]) = put1 most (putM most T l) e := by unfold putM; rw [List.foldl_append]; rfl
theorem cntM_le (most : Int) : ∀ (l : List Pe) (T : List Pq), cntM most T l ≤ l.length
  | [], _ => Nat.le_refl _
  | x :: l, T => by
    have := cntM_le most l (put1 most T x)
    unfold cntM cnt1
    rw [List.length_cons]
    split <;> omega
end Go.Proofs.Ytnckjacbkhoppaa
