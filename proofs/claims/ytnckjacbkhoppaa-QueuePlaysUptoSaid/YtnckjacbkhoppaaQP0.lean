/- Acts that came in, with their bulk. -/
import Derived.Test.YtnckjacbkhoppaaBulk
import Derived.Test.YtnckjacbkhoppaaQP1
namespace Go.Proofs.Ytnckjacbkhoppaa
open Go.RowKit Go.ChangeShapes Go.WideShapes Go.ChangeAt Go.Joins Go.Deep
set_option maxRecDepth 100000 in
theorem vec_bulk {H : Type} {enc : TypeId × Value → H} {W : World} {base : Nat} {sp : Nat → Bool} {held : Bool} {m0 : Nat} {v : Value} {x : DataW H × List MemPlace} {l : List Pt}
    (hf : DataW.trod enc Try.prog W base sp held m0 26 [v] = some x) (hv : Vc W v l) : l.length + 1 ≤ Rows.uptoBulk x.1 := by
  rcases open_slice Try.underlying26 hf with ⟨hc, rfl⟩ | ⟨a, len, cap, m, k, D, Pl, hc, _, hl, hm, hmm, rfl, hall⟩
  · cases hc
    rcases hv with ⟨_, rfl⟩ | ⟨b, off, cap, h, _⟩
    · simp [Rows.uptoBulk]
    · cases h
  · cases hc
    have hn := bulkAll_len ((List.range len).map D)
    rw [List.length_map, List.length_range] at hn
    rcases hv with ⟨_, rfl⟩ | ⟨b, off, cap, h, _⟩
    · simp only [Rows.uptoBulk, List.length_nil]; omega
    · cases h
      simp only [Rows.uptoBulk]; omega
/-- What an event weighs. -/
def evW (e : Ev) : Nat := 1 + e.ps.length
def aW (a : Ac) : Nat := (a.l.map evW).sum
theorem c4ac : Try.prog.cellsOf 127 = 4 := by kernel_rfl
set_option maxRecDepth 100000 in
theorem evs_bulk {H : Type} {enc : TypeId × Value → H} {W : World} {base : Nat} {sp : Nat → Bool} {held : Bool} {m0 : Nat} {v : Value} {x : DataW H × List MemPlace}
    (hf : DataW.trod enc Try.prog W base sp held m0 24 [v] = some x) : ∃ l : List Ev, EL W v l ∧ (∀ x ∈ l, I64 x.frame) ∧ (l.map evW).sum + 1 ≤ Rows.uptoBulk x.1 ∧ (∃ a n c, v = .slice a n c) ∧ (l = [] ∨ ∀ b, v.ownBlock = some b → b < W.heap.size) := by
  obtain ⟨l, h1, h2, h3, _, h5, h6⟩ := open_rsb (ec := enc) (W := W) (base := base) (sp := sp) (held := held) (P := Try.prog) (k := 5) (enc := evenc) (ok := fun a => Vc W a.vv a.ps ∧ I64 a.frame) (wt := evW) Try.underlying24 c5ev (by omega) (fun _ => rfl) (by
    intro m cs x hl hf
    match cs, hl with
    | [c0, c1, c2, c3, c4], _ =>
      obtain ⟨xs, n, _, rfl, _, hlen, hff⟩ := DataW.trod_struct Try.underlying28 hf
      match xs, hlen with
      | [y0, y1, y2, y3, y4], _ =>
        have k0 : DataW.trod enc Try.prog W base sp held n 3 [c0] = some y0 := hff 0 _ rfl
        have k1 : DataW.trod enc Try.prog W base sp held n 2 [c1] = some y1 := hff 1 _ rfl
        have k2 : DataW.trod enc Try.prog W base sp held n 2 [c2] = some y2 := hff 2 _ rfl
        have k3 : DataW.trod enc Try.prog W base sp held n 2 [c3] = some y3 := hff 3 _ rfl
        have k4 : DataW.trod enc Try.prog W base sp held n 26 [c4] = some y4 := hff 4 _ rfl
        obtain ⟨a, ea, _, wa⟩ := DataW.trod_int Try.underlying3 k0
        obtain ⟨b, eb, _, wb⟩ := DataW.trod_int Try.underlying2 k1
        obtain ⟨c, ec, _, wc⟩ := DataW.trod_int Try.underlying2 k2
        obtain ⟨d, ed, _, wd⟩ := DataW.trod_int Try.underlying2 k3
        obtain ⟨l, hvc, hi⟩ := parts_field k4
        have hb := vec_bulk k4 hvc
        simp at ea eb ec ed
        subst ea eb ec ed
        refine ⟨⟨a, b, c, d, c4, l⟩, rfl, ⟨hvc, i64_wf' wb⟩, ?_⟩
        simp only [evW, Rows.uptoBulk, List.map_cons, List.map_nil, Rows.uptoBulkAll]
        omega) hf
  exact ⟨l, ⟨h1, fun x hx => (h2 x hx).1⟩, fun x hx => (h2 x hx).2, h3, h5, h6⟩
/-- An act that came in. -/
structure AOk (W : World) (a : Ac) : Prop where
  fr : I64 a.frame
  ki : I64 a.kind
  nn : I64 a.n
  ev : EL W (acv a) a.l
  own : a.l = [] ∨ ∀ b, (acv a).ownBlock = some b → b < W.heap.size
  ef : ∀ x ∈ a.l, I64 x.frame
set_option maxRecDepth 100000 in
theorem open_acts {H : Type} {enc : TypeId × Value → H} {W : World} {base : Nat} {sp : Nat → Bool} {held : Bool} {r : Reach} {b0 : Nat} {v : Value} {d : DataW H} {p : List MemPlace}
    (hv : Value.okWide Try.prog W r b0 117 v) (h : DataW.Trod enc Try.prog W base sp held 117 v d p) : ∃ l : List Ac, RS 4 acenc W v l ∧ (∀ x ∈ l, AOk W x) ∧ (l.map aW).sum ≤ Rows.uptoBulk d ∧ l.length ≤ Rows.uptoBulk d := by
  obtain ⟨a0, n0, c0, rfl⟩ := okWide_slice Try.underlying117 hv
  obtain ⟨m0, hf⟩ := h
  obtain ⟨l, h1, h2, h3, h4, _⟩ := open_rsb (ec := enc) (W := W) (base := base) (sp := sp) (held := held) (P := Try.prog) (k := 4) (enc := acenc) (ok := AOk W) (wt := aW) Try.underlying117 c4ac (by omega) (fun _ => rfl) (by
    intro m cs x hl hf
    match cs, hl with
    | [c0, c1, c2, c3], _ =>
      obtain ⟨xs, n, _, rfl, _, hlen, hff⟩ := DataW.trod_struct Try.underlying127 hf
      match xs, hlen with
      | [y0, y1, y2, y3], _ =>
        have k0 : DataW.trod enc Try.prog W base sp held n 3 [c0] = some y0 := hff 0 _ rfl
        have k1 : DataW.trod enc Try.prog W base sp held n 2 [c1] = some y1 := hff 1 _ rfl
        have k2 : DataW.trod enc Try.prog W base sp held n 3 [c2] = some y2 := hff 2 _ rfl
        have k3 : DataW.trod enc Try.prog W base sp held n 24 [c3] = some y3 := hff 3 _ rfl
        obtain ⟨a, ea, _, wa⟩ := DataW.trod_int Try.underlying3 k0
        obtain ⟨b, eb, _, wb⟩ := DataW.trod_int Try.underlying2 k1
        obtain ⟨c, ec, _, wc⟩ := DataW.trod_int Try.underlying3 k2
        obtain ⟨l, hel, hfr, hw, ⟨va, vn, vc, rfl⟩, ho⟩ := evs_bulk k3
        simp at ea eb ec
        subst ea eb ec
        refine ⟨⟨a, b, c, va, vn, vc, l⟩, rfl, ⟨i64_wf' wb, i64_wf' wa, i64_wf' wc, hel, ho, hfr⟩, ?_⟩
        simp only [aW, Rows.uptoBulk, List.map_cons, List.map_nil, Rows.uptoBulkAll]
        omega) hf
  simp only at h3 h4
  exact ⟨l, h1, h2, by omega, by omega⟩
end Go.Proofs.Ytnckjacbkhoppaa
