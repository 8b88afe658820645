/- alarm: keys that came in. -/
import Derived.Test.YtajcelmnblncaaaAl9
import Derived.Test.YtajcelmnblncaaaOpenRS
namespace Go.Proofs.Ytajcelmnblncaaa
open Go.RowKit Go.Maps Go.ChangeShapes Go.WideShapes Go.ChangeAt Go.Joins Go.Deep
abbrev KV (w : World) (v : Value) (l : List Ky) : Prop := RS 3 kenc w v l
theorem wf64 {x : Int} (h : (Lit.int .i64 x).wf = true) : J64 x := by
  simp [Lit.wf, IntKind.min, IntKind.max, IntKind.signed, IntKind.bits] at h
  exact ⟨by omega, by omega⟩
set_option maxRecDepth 100000 in
theorem open_keys {H : Type} {enc : TypeId × Value → H} {W : World} {base : Nat} {sp : Nat → Bool} {held : Bool} {r : Reach} {b0 : Nat} {v : Value} {d : DataW H} {p : List MemPlace}
    (hv : Value.okWide Try.prog W r b0 87 v) (h : DataW.Trod enc Try.prog W base sp held 87 v d p) : ∃ l : List Ky, KV W v l ∧ (∀ x ∈ l, KOk x) ∧ ∀ b, v.ownBlock = some b → b < W.heap.size := by
  refine open_rs (P := Try.prog) (k := 3) (enc := kenc) (ok := KOk) Try.underlying87 cellsKey (fun _ => rfl) (fun m cs x hl hf => ?_) hv h
  match cs, hl with
  | [c0, c1, c2], _ =>
    obtain ⟨y0, y1, y2, n, _, _, h0, h1, h2⟩ := trod_struct3 Try.underlying79 hf
    have k0 : DataW.trod enc Try.prog W base sp held n 3 [c0] = some y0 := h0
    have k1 : DataW.trod enc Try.prog W base sp held n 2 [c1] = some y1 := h1
    have k2 : DataW.trod enc Try.prog W base sp held n 2 [c2] = some y2 := h2
    obtain ⟨a, ea, _, wa⟩ := DataW.trod_int Try.underlying3 k0
    obtain ⟨b, eb, _, wb⟩ := DataW.trod_int Try.underlying2 k1
    obtain ⟨c, ec, _, wc⟩ := DataW.trod_int Try.underlying2 k2
    simp at ea eb ec
    subst ea eb ec
    exact ⟨(a, b, c), rfl, wf64 wa, wf64 wb, wf64 wc⟩
/-- Alarms of the call's own. -/
structure AW (W w : World) (ap : Nat) (G : Nat → Prop) (R : List Rc) (c : Nat) : Prop where
  as_ : AS w ap G R c
  bel : Below W.heap.size W w
  own : ∀ k, G k → W.heap.size ≤ k
theorem AW.step {W w w' : World} {ap : Nat} {G G' : Nat → Prop} {R R' : List Rc} {c c' : Nat} (h : AW W w ap G R c) (h1 : AS w' ap G' R' c') (h2 : Chg G w w') (h3 : ∀ k, G' k → G k ∨ w.heap.size ≤ k) : AW W w' ap G' R' c' :=
  ⟨h1, h.bel.trans (h2.below h.bel.size h.own), fun k hk => by
    rcases h3 k hk with e | e
    · exact h.own k e
    · have := h.bel.size; omega⟩
theorem AW.on {W w w' : World} {ap : Nat} {G : Nat → Prop} {R : List Rc} {c : Nat} (h : AW W w ap G R c) (hb : Below w.heap.size w w') : AW W w' ap G R c := ⟨h.as_.below hb, bt h.bel hb, h.own⟩
theorem AW.cell {W w : World} {ap : Nat} {G : Nat → Prop} {R : List Rc} {c : Nat} (h : AW W w ap G R c) {b o : Nat} (hb : b < W.heap.size) : w.cell? ⟨b, o, none⟩ = W.cell? ⟨b, o, none⟩ := h.bel.cell (p := ⟨b, o, none⟩) hb
theorem pR_len (R : List Rc) (x : Rc) : (pR R x).length ≤ R.length + 1 := Srt.put_le R x
end Go.Proofs.Ytajcelmnblncaaa
