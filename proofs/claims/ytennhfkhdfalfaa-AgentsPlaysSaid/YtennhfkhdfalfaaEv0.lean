/- Events: records that hold a vector; lists of them in memory. -/
import Derived.Test.YtennhfkhdfalfaaVecN
import Derived.Test.YtennhfkhdfalfaaOpenRS
namespace Go.Proofs.Ytennhfkhdfalfaa
open Go.RowKit Go.ChangeShapes Go.WideShapes Go.ChangeAt Go.Joins Go.Deep
/-- What a block must not be, for a vector to stay. -/
def VK (F : Nat → Prop) (v : Value) (l : List Pt) : Prop := l = [] ∨ ∀ b, v.ownBlock = some b → ¬ F b
theorem Vc.keep {F : Nat → Prop} {w w' : World} {v : Value} {l : List Pt} (h : Vc w v l) (hc : Chg F w w') (hk : VK F v l) : Vc w' v l := by
  rcases hk with rfl | hk
  · rcases h with h | ⟨b, off, cap, rfl, h2, h3, h4, h5⟩
    · exact .inl h
    · exact .inl ⟨⟨_, cap, rfl, h3, fun e => by cases e⟩, rfl⟩
  · exact h.chg hc hk
theorem Vc.old {w : World} {F : Nat → Prop} {v : Value} {l : List Pt} (h : Vc w v l) (hF : ∀ k, F k → w.heap.size ≤ k) : VK F v l := by
  rcases h with ⟨_, h⟩ | ⟨b, off, cap, rfl, h2, h3, h4, h5⟩
  · exact .inl h
  · exact .inr fun b' e hb => by cases e; have := hF _ hb; simp only at this; omega
theorem VK.mono {F G : Nat → Prop} {v : Value} {l : List Pt} (h : VK F v l) (hg : ∀ k, G k → F k) : VK G v l := h.imp id fun h b hb hf => h b hb (hg _ hf)
/-- A block of a vector that has a part was there. -/
theorem VK.more {w : World} {F G : Nat → Prop} {v : Value} {l : List Pt} (h : VK F v l) (hv : Vc w v l) (hg : ∀ k, G k → F k ∨ w.heap.size ≤ k) : VK G v l := by
  rcases hv with ⟨_, h⟩ | ⟨b, off, cap, rfl, h2, h3, h4, h5⟩
  · exact .inl h
  · rcases h with h | h
    · exact .inl h
    · exact .inr fun b' e hb => by
        cases e
        rcases hg _ hb with h' | h'
        · exact h _ rfl h'
        · simp only at h'; omega
structure Ev where
  kind : Int
  frame : Int
  id : Int
  agent : Int
  vv : Value
  ps : List Pt
instance : Inhabited Ev := ⟨⟨0, 0, 0, 0, .slice none 0 0, []⟩⟩
def evenc (e : Ev) : List Value := [.int .i64 e.kind, .int .i64 e.frame, .int .i64 e.id, .int .i64 e.agent, e.vv]
abbrev evval (e : Ev) : Value := .agg #[.int .i64 e.kind, .int .i64 e.frame, .int .i64 e.id, .int .i64 e.agent, e.vv]
/-- An event, plainly. -/
abbrev Pe := Int × Int × Int × Int × List Pt
def Ev.pl (e : Ev) : Pe := (e.kind, e.frame, e.id, e.agent, e.ps)
/-- A list of events that can be read. -/
structure EL (w : World) (v : Value) (l : List Ev) : Prop where
  rs : RS 5 evenc w v l
  vec : ∀ x ∈ l, Vc w x.vv x.ps
/-- Its blocks are none of F. -/
structure ED (F : Nat → Prop) (v : Value) (l : List Ev) : Prop where
  own : ∀ b, v.ownBlock = some b → ¬ F b
  vec : ∀ x ∈ l, VK F x.vv x.ps
section
variable {w w' : World} {v : Value} {l : List Ev} {F G : Nat → Prop}
theorem EL.keep (h : EL w v l) (hc : Chg F w w') (hd : ED F v l) : EL w' v l := ⟨h.rs.chg hc hd.own, fun x hx => (h.vec x hx).keep hc (hd.vec x hx)⟩
theorem EL.below (h : EL w v l) (hb : Below w.heap.size w w') : EL w' v l := h.keep (F := fun _ => False) (.of_below _ hb) ⟨fun _ _ => id, fun x hx => .inr fun _ _ => id⟩
theorem EL.nil (w : World) : EL w (.slice none 0 0) [] := ⟨RS.nil _ _ _, fun x hx => by cases hx⟩
theorem ED.mono (h : ED F v l) (hg : ∀ k, G k → F k) : ED G v l := ⟨fun b hb hf => h.own b hb (hg _ hf), fun x hx => (h.vec x hx).mono hg⟩
theorem ED.more (h : ED F v l) (hv : EL w v l) (ho : ∀ b, v.ownBlock = some b → b < w.heap.size) (hg : ∀ k, G k → F k ∨ w.heap.size ≤ k) : ED G v l :=
  ⟨fun b hb hf => by rcases hg _ hf with h' | h'; exact h.own b hb h'; have := ho b hb; omega, fun x hx => (h.vec x hx).more (hv.vec x hx) hg⟩
theorem EL.old (h : EL w v l) (ho : ∀ b, v.ownBlock = some b → b < w.heap.size) (hF : ∀ k, F k → w.heap.size ≤ k) : ED F v l :=
  ⟨fun b hb hf => by have := ho b hb; have := hF _ hf; omega, fun x hx => (h.vec x hx).old hF⟩
theorem EL.len (h : EL w v l) : l.length ≤ maxLen := h.rs.len
end
theorem evenc_len (x : Ev) : (evenc x).length = 5 := rfl
theorem c5ev : Try.prog.cellsOf 103 = 5 := by kernel_rfl
theorem lit64' {x : Int} (h : (Lit.int .i64 x).wf = true) : I64 x := i64_wf' h
set_option maxRecDepth 100000 in
theorem open_evs {H : Type} {enc : TypeId × Value → H} {W : World} {base : Nat} {sp : Nat → Bool} {held : Bool} {r : Reach} {b0 : Nat} {v : Value} {d : DataW H} {p : List MemPlace}
    (hv : Value.okWide Try.prog W r b0 94 v) (h : DataW.Trod enc Try.prog W base sp held 94 v d p) : ∃ l : List Ev, EL W v l ∧ (∀ x ∈ l, I64 x.frame ∧ I64s x.ps) ∧ ∀ b, v.ownBlock = some b → b < W.heap.size := by
  obtain ⟨l, h1, h2, h3⟩ := open_rs (P := Try.prog) (k := 5) (enc := evenc) (ok := fun a => Vc W a.vv a.ps ∧ I64 a.frame ∧ I64s a.ps) Try.underlying94 c5ev (fun _ => rfl) (by
  intro m cs x hl hf
  match cs, hl with
  | [c0, c1, c2, c3, c4], _ =>
    obtain ⟨xs, n, _, _, _, hlen, hff⟩ := DataW.trod_struct Try.underlying103 hf
    match xs, hlen with
    | [y0, y1, y2, y3, y4], _ =>
      have k0 : DataW.trod enc Try.prog W base sp held n 3 [c0] = some y0 := hff 0 _ rfl
      have k1 : DataW.trod enc Try.prog W base sp held n 2 [c1] = some y1 := hff 1 _ rfl
      have k2 : DataW.trod enc Try.prog W base sp held n 2 [c2] = some y2 := hff 2 _ rfl
      have k3 : DataW.trod enc Try.prog W base sp held n 2 [c3] = some y3 := hff 3 _ rfl
      have k4 : DataW.trod enc Try.prog W base sp held n 32 [c4] = some y4 := hff 4 _ rfl
      obtain ⟨a, ea, _, wa⟩ := DataW.trod_int Try.underlying3 k0
      obtain ⟨b, eb, _, wb⟩ := DataW.trod_int Try.underlying2 k1
      obtain ⟨c, ec, _, wc⟩ := DataW.trod_int Try.underlying2 k2
      obtain ⟨d, ed, _, wd⟩ := DataW.trod_int Try.underlying2 k3
      obtain ⟨l, hvc, hi⟩ := parts_field k4
      simp at ea eb ec ed
      subst ea eb ec ed
      exact ⟨⟨a, b, c, d, c4, l⟩, rfl, hvc, i64_wf' wb, hi⟩) hv h
  exact ⟨l, ⟨h1, fun x hx => (h2 x hx).1⟩, fun x hx => (h2 x hx).2, h3⟩
end Go.Proofs.Ytennhfkhdfalfaa
