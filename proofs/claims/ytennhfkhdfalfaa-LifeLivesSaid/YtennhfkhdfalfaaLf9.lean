/- life: Of at any few events. -/
import Derived.Test.YtennhfkhdfalfaaLf8
import Derived.Test.YtennhfkhdfalfaaRev
namespace Go.Proofs.Ytennhfkhdfalfaa
open Go.RowKit Go.Maps
attribute [local go_sem] ext_cell ext_frozen extC_cell extC_frozen Mix.calmUpon Mix.mUpon
/-- The first event that closes a number: its place, its kind. -/
def firstC : List Ev → Nat → Int → Option (Nat × Int)
  | [], _, _ => none
  | e :: t, o, k => if cloK e.kind = true ∧ e.id = k then some (o, e.kind) else firstC t (o + 1) k
/-- The life of an offer. -/
structure Lf where
  id : Int
  frame : Int
  agent : Int
  fr : Int
  to : Int
  how : Int
  deriving DecidableEq
instance : Inhabited Lf := ⟨⟨0, 0, 0, 0, 0, 0⟩⟩
def lfenc (x : Lf) : List Value := [.int .i64 x.id, .int .i64 x.frame, .int .i64 x.agent, .int .i64 x.fr, .int .i64 x.to, .int .i64 x.how]
abbrev lfval (x : Lf) : Value := .agg #[.int .i64 x.id, .int .i64 x.frame, .int .i64 x.agent, .int .i64 x.fr, .int .i64 x.to, .int .i64 x.how]
theorem lfenc_len (x : Lf) : (lfenc x).length = 6 := rfl
def lfOf (e : Ev) (o : Nat) (c : Option (Nat × Int)) : Lf := ⟨e.id, e.frame, e.agent, o, (c.map fun p => (p.1 : Int)).getD (-1), (c.map (·.2)).getD 0⟩
def lvs : List Ev → Nat → List Lf
  | [], _ => []
  | e :: t, o => if e.kind = 6 then lfOf e o (firstC t (o + 1) e.id) :: lvs t (o + 1) else lvs t (o + 1)
theorem lvs_len : ∀ (l : List Ev) (o : Nat), (lvs l o).length ≤ l.length
  | [], _ => Nat.le_refl _
  | e :: t, o => by
    unfold lvs
    have := lvs_len t (o + 1)
    split <;> simp only [List.length_cons] <;> omega
theorem firstC_at : ∀ {l : List Ev} {o : Nat} {k : Int} {p : Nat × Int}, firstC l o k = some p → ∃ j x, p.1 = o + j ∧ l[j]? = some x ∧ x.kind = p.2 ∧ cloK x.kind = true ∧ x.id = k
  | [], o, k, p, h => by cases h
  | e :: t, o, k, p, h => by
    unfold firstC at h
    split at h
    · rename_i hh
      cases h
      exact ⟨0, e, rfl, rfl, rfl, hh.1, hh.2⟩
    · obtain ⟨j, x, h1, h2, h3⟩ := firstC_at h
      exact ⟨j + 1, x, by omega, by simpa using h2, h3⟩
theorem firstC_cons {l : List Ev} {t : Nat} {x : Ev} (h : l[t]? = some x) (k : Int) : firstC (l.drop t) t k = if cloK x.kind = true ∧ x.id = k then some (t, x.kind) else firstC (l.drop (t + 1)) (t + 1) k := by
  obtain ⟨hi, rfl⟩ := List.getElem?_eq_some_iff.1 h
  rw [List.drop_eq_getElem_cons hi]; rfl
theorem lvs_cons {l : List Ev} {t : Nat} {x : Ev} (h : l[t]? = some x) : lvs (l.drop t) t = if x.kind = 6 then lfOf x t (firstC (l.drop (t + 1)) (t + 1) x.id) :: lvs (l.drop (t + 1)) (t + 1) else lvs (l.drop (t + 1)) (t + 1) := by
  obtain ⟨hi, rfl⟩ := List.getElem?_eq_some_iff.1 h
  rw [List.drop_eq_getElem_cons hi]; rfl
/-- Block b holds a life. -/
def LB (w : World) (b : Nat) (x : Lf) : Prop := w.heap[b]? = some (.cells #[.int .i64 x.id, .int .i64 x.frame, .int .i64 x.agent, .int .i64 x.fr, .int .i64 x.to, .int .i64 x.how] 107 (0, 0))
section
variable {w w' : World} {b : Nat} {x : Lf}
theorem LB.made (w : World) (x : Lf) : LB (w.alloc (.cells #[.int .i64 x.id, .int .i64 x.frame, .int .i64 x.agent, .int .i64 x.fr, .int .i64 x.to, .int .i64 x.how] 107)) w.heap.size x := heap_alloc_new w _
theorem LB.lt (h : LB w b x) : b < w.heap.size := (Array.getElem?_eq_some_iff.1 h).1
theorem LB.below (h : LB w b x) (hb : Below w.heap.size w w') : LB w' b x := (hb.block b h.lt).trans h
theorem LB.chg {F : Nat → Prop} (h : LB w b x) (hc : Chg F w w') (hf : ¬ F b) : LB w' b x := (hc.block b h.lt hf).trans h
theorem LB.cells (h : LB w b x) : w.cell? ⟨b, 0, none⟩ = some (.int .i64 x.id) ∧ w.cell? ⟨b, 1, none⟩ = some (.int .i64 x.frame) ∧ w.cell? ⟨b, 2, none⟩ = some (.int .i64 x.agent) ∧ w.cell? ⟨b, 3, none⟩ = some (.int .i64 x.fr) ∧ w.cell? ⟨b, 4, none⟩ = some (.int .i64 x.to) ∧ w.cell? ⟨b, 5, none⟩ = some (.int .i64 x.how) := by
  unfold LB at h; simp [World.cell?, h]
theorem LB.fz (h : LB w b x) (o : Nat) : w.frozen? ⟨b, o, none⟩ = false := by unfold LB at h; simp [World.frozen?, h]
theorem LB.set45 (h : LB w b x) (a c : Int) : LB ((w.setCell ⟨b, 4, none⟩ (.int .i64 a)).setCell ⟨b, 5, none⟩ (.int .i64 c)) b ⟨x.id, x.frame, x.agent, x.fr, a, c⟩ := heap_setCell_at _ (heap_setCell_at _ h)
end
theorem infoLf : (Try.prog.info? 107).map (fun i => (i.zero, i.size, i.bytes)) = some (some (.agg #[.int .i64 0, .int .i64 0, .int .i64 0, .int .i64 0, .int .i64 0, .int .i64 0]), 6, 48) := by kernel_rfl
theorem own_appL {w : World} {base : Nat} {v : Value} {l : List Lf} {b : Nat} (h : OwnL 107 6 lfenc w base v l) (x : Lf) (hx : LB w b x) (hl : l.length < 1000000) (hb : base ≤ w.heap.size) :
    ∃ v' w', (Builtin.append_ #[96, 96] 96 #[v, .slice (some ⟨b, 0, none⟩) 1 1]).run Try.prog w = .ok v' w' ∧ OwnL 107 6 lfenc w' base v' (l ++ [x]) ∧ w.grownBy w' v.ownBlock ∧ (v'.ownBlock = v.ownBlock ∨ v'.ownBlock = some w.heap.size) := by
  obtain ⟨i0, hi, hz0, hz1, hz2⟩ := info_parts infoLf
  obtain ⟨x0, x1, x2, x3, x4, x5⟩ := hx.cells
  exact OwnL.app h Try.underlying96 hi hz0 hz1 hz2 rfl (by decide) lfenc_len x (fun j u hj => by
      rcases j with _ | _ | _ | _ | _ | _ | j <;> simp [lfenc] at hj
      · subst hj; exact x0
      · subst hj; exact x1
      · subst hj; exact x2
      · subst hj; exact x3
      · subst hj; exact x4
      · subst hj; exact x5) (fun u hu => by simp [lfenc] at hu; rcases hu with rfl | rfl | rfl | rfl | rfl | rfl <;> rfl) (by omega) (by unfold maxLen; omega) hb
theorem revL_any {w : World} {base : Nat} {v : Value} {l : List Lf} (h : OwnL 107 6 lfenc w base v l) (hl : l.length ≤ 9223372036854775807) :
    Calls Try.prog 97 #[v] w fun e w' => e = .returned (.tuple #[]) ∧ RS 6 lfenc w' v l.reverse ∧ Chg (fun b => v.ownBlock = some b) w w' := by
  have aE : ∀ w, (isAgg 107).run Try.prog w = .ok true w := Try.isAgg107
  have zE : ∀ w, (Go.sizeOf 107).run Try.prog w = .ok 6 w := Try.sizeOf107
  refine rev_own lfenc_len h hl (fun blk cap d hH hs => ?_) (fun a cap => ?_)
  · have := Go.Proofs.AnyQ.slices_Reverse Lb.Try.revL 6 aE zE lfenc lfenc_len (fun x v hv => by simp [lfenc] at hv; rcases hv with rfl | rfl | rfl | rfl | rfl | rfl <;> rfl) blk 0 cap d w hH hs
    exact this
  · exact Go.Proofs.AnyQ.slices_Reverse_empty Lb.Try.revL a cap w
end Go.Proofs.Ytennhfkhdfalfaa
