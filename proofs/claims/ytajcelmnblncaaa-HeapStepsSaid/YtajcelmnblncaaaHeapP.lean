/- The acts that came in; HeapPlays' walk. -/
import Derived.Test.YtajcelmnblncaaaHeapV
import Derived.Test.YtajcelmnblncaaaOpenRS
namespace Go.Proofs.Ytajcelmnblncaaa
open Go.RowKit Go.Maps Go.ChangeShapes Go.WideShapes Go.ChangeAt Go.Joins Go.Deep
attribute [local go_sem] ext_cell ext_frozen extC_cell extC_frozen Mix.calmUpon Mix.mUpon
abbrev Ac := Int × Int × Int
def aenc (a : Ac) : List Value := [.int .i64 a.1, .int .i64 a.2.1, .int .i64 a.2.2]
def AcOk (a : Ac) : Prop := J64 a.1 ∧ J64 a.2.1 ∧ J64 a.2.2
abbrev AV (w : World) (v : Value) (l : List Ac) : Prop := RS 3 aenc w v l
theorem j64_wf {x : Int} (h : (Lit.int .i64 x).wf = true) : J64 x := by
  simp [Lit.wf, IntKind.min, IntKind.max, IntKind.signed, IntKind.bits] at h
  exact ⟨by omega, by omega⟩
theorem c3a : Try.prog.cellsOf 54 = 3 := by kernel_rfl
set_option maxRecDepth 100000 in
theorem open_acts {H : Type} {enc : TypeId × Value → H} {W : World} {base : Nat} {sp : Nat → Bool} {held : Bool} {r : Reach} {b0 : Nat} {v : Value} {d : DataW H} {p : List MemPlace}
    (hv : Value.okWide Try.prog W r b0 47 v) (h : DataW.Trod enc Try.prog W base sp held 47 v d p) : ∃ l : List Ac, AV W v l ∧ (∀ x ∈ l, AcOk x) ∧ ∀ b, v.ownBlock = some b → b < W.heap.size := by
  refine open_rs (P := Try.prog) (k := 3) (enc := aenc) (ok := AcOk) Try.underlying47 c3a (fun _ => rfl) (fun m cs x hl hf => ?_) hv h
  match cs, hl with
  | [c0, c1, c2], _ =>
    obtain ⟨y0, y1, y2, n, _, _, h0, h1, h2⟩ := trod_struct3 Try.underlying54 hf
    have k0 : DataW.trod enc Try.prog W base sp held n 3 [c0] = some y0 := h0
    have k1 : DataW.trod enc Try.prog W base sp held n 2 [c1] = some y1 := h1
    have k2 : DataW.trod enc Try.prog W base sp held n 2 [c2] = some y2 := h2
    obtain ⟨a, ea, _, wa⟩ := DataW.trod_int Try.underlying3 k0
    obtain ⟨b, eb, _, wb⟩ := DataW.trod_int Try.underlying2 k1
    obtain ⟨c, ec, _, wc⟩ := DataW.trod_int Try.underlying2 k2
    simp at ea eb ec
    subst ea eb ec
    exact ⟨(a, b, c), rfl, j64_wf wa, j64_wf wb, j64_wf wc⟩
theorem lstep_len (l : List It) (k a t : Int) : (lstep l k a t).length ≤ l.length + 1 := by
  unfold lstep
  split
  · exact lput_le l _
  · split
    · have : (ldel l a).length ≤ l.length := List.length_filter_le _ _
      omega
    · split
      · simp; omega
      · have : (lfrom l t).length ≤ l.length := List.length_filter_le _ _
        omega
theorem lpl_at {l : List It} {k t : Int} (h : Lof l k = some t) : ∃ i : Nat, lpl l k = i ∧ l[i]? = some (k, t) := by
  induction l with
  | nil => simp [Lof] at h
  | cons p r ih =>
    rw [lof_cons] at h
    by_cases he : k = p.1
    · rw [if_pos he] at h
      refine ⟨0, by rw [lpl, if_pos he.symm]; rfl, ?_⟩
      simp at h ⊢; exact Prod.ext he.symm h
    · rw [if_neg he] at h
      obtain ⟨i, h1, h2⟩ := ih h
      exact ⟨i + 1, by rw [lpl, if_neg (fun e => he e.symm), h1, if_neg (by omega)]; rfl, by simpa using h2⟩
theorem lpl_no {l : List It} {k : Int} (h : Lof l k = none) : lpl l k = -1 := lpl_none (lof_none.1 h)
end Go.Proofs.Ytajcelmnblncaaa
