/- The sorter and the document's list of clients, side by side. -/
import Derived.Test.YtgfjmafdfbghnaaSq6
import Derived.Test.YtgfjmafdfbghnaaSq3
import Derived.Test.YtgfjmafdfbghnaaSol
namespace Go.Proofs.Ytgfjmafdfbghnaa
open Go.RowKit Go.Maps
attribute [local go_sem] ext_cell ext_frozen extC_cell extC_frozen Mix.calmUpon Mix.mUpon
/-- The sorter in sp, and the document's list v in the variable mb. -/
structure PS9 (W w : World) (sp M tp mb : Nat) (T : Nat → Int) (G : Int → Option Cl) (X : List Pl) (v : Value) (C : List Dc) : Prop where
  sm : SM w sp M tp T G X
  s9 : S9 T G X
  bel : Below W.heap.size W w
  b1 : W.heap.size ≤ sp
  b2 : W.heap.size ≤ M
  b3 : W.heap.size ≤ tp
  b4 : W.heap.size ≤ mb
  nb : ¬ SF sp M tp mb
  m : MB9 w mb T v
  rs : RS 7 dcenc w v C
  dc : DC C G
  vb : ∀ b, v.ownBlock = some b → ¬ SF sp M tp b ∧ b ≠ mb ∧ b < w.heap.size
section
variable {W w w' : World} {sp M tp mb : Nat} {T : Nat → Int} {G : Int → Option Cl} {X : List Pl} {v : Value} {C : List Dc}
theorem PS9.on (h : PS9 W w sp M tp mb T G X v C) (hb : Below w.heap.size w w') : PS9 W w' sp M tp mb T G X v C where
  sm := h.sm.below hb
  s9 := h.s9
  bel := bt h.bel hb
  b1 := h.b1
  b2 := h.b2
  b3 := h.b3
  b4 := h.b4
  nb := h.nb
  m := h.m.below hb
  rs := h.rs.below hb
  dc := h.dc
  vb := fun b e => by have q := h.vb b e; exact ⟨q.1, q.2.1, Nat.lt_of_lt_of_le q.2.2 hb.size⟩
theorem PS9.few (h : PS9 W w sp M tp mb T G X v C) : X.length ≤ C.length := h.dc.len h.s9
theorem PS9.sml (h : PS9 W w sp M tp mb T G X v C) : ∀ i c, G i = some c → Sm4 c.s := fun i c hg => (h.s9.ok i c hg).sm
/-- The program has done an act at w (to w'), the document's answer v' lies there already: the variable mb takes it. -/
theorem PS9.next (h : PS9 W w sp M tp mb T G X v C) {s : St} {e : Ending} {v' : Value} {C' : List Dc} (hr : RD sp M tp s w e w') (hrs : RS 7 dcenc w v' C') (hd : DC C' s.2.2) (hv : ∀ b, v'.ownBlock = some b → ¬ SF sp M tp b ∧ b ≠ mb ∧ b < w.heap.size) :
    e = .returned (.int .i64 s.1) ∧ ∃ tq X', PS9 W (set5w w' mb s.2.1 v') sp M tq mb s.2.1 s.2.2 X' v' C' := by
  obtain ⟨he, tq, X', h1, h2, h3, h4⟩ := hr
  have hst : Chg (fun k => k = mb) w' (set5w w' mb s.2.1 v') := (((((Chg.refl (fun k => k = mb) w').setCell (p := ⟨mb, 0, none⟩) (.inl rfl) _).setCell (p := ⟨mb, 1, none⟩) (.inl rfl) _).setCell (p := ⟨mb, 2, none⟩) (.inl rfl) _).setCell (p := ⟨mb, 3, none⟩) (.inl rfl) _).setCell (p := ⟨mb, 4, none⟩) (.inl rfl) _
  have hmw : MB9 w' mb T v := h.m.chg h3 h.nb
  have hml := h.m.lt
  have hnq : ¬ SF sp M tq mb := fun e => by
    rcases e with e | e | e
    · exact h.nb (.inl e)
    · exact h.nb (.inr (.inl e))
    · rcases h4 with h4 | h4
      · exact h.nb (.inr (.inr (e.trans h4)))
      · omega
  refine ⟨he, tq, X', ⟨?_, ?_, ?_⟩, h2, ?_, h.b1, h.b2, ?_, h.b4, hnq, hmw.set5 _ _, ?_, hd, fun b e => ?_⟩
  · exact (hst.block sp h1.o.lt (fun e => h.nb (.inl e.symm))).trans h1.o
  · exact h1.m.chg hst (fun e => h.nb (.inr (.inl e.symm)))
  · refine h1.t.chg hst (fun e => hnq (.inr (.inr e.symm))) fun b hb cs e => ?_
    have hb : b = mb := hb
    subst hb
    unfold MB9 at hmw; rw [hmw] at e; injection e with e; injection e with _ e; cases e
  · exact h.bel.trans ((h3.below h.bel.size fun k e => by
      have q1 := h.b1; have q2 := h.b2; have q3 := h.b3
      rcases e with e | e | e <;> omega).trans (hst.below (by have q1 := h3.size; have q2 := h.bel.size; omega) fun k e => by have e : k = mb := e; have := h.b4; omega))
  · have := h.b3; have := h.bel.size; rcases h4 with h4 | h4 <;> omega
  · exact (hrs.chg h3 fun b e => (hv b e).1).chg hst fun b e => (hv b e).2.1
  · have q := hv b e
    refine ⟨fun e' => ?_, q.2.1, ?_⟩
    · rcases e' with e' | e' | e'
      · exact q.1 (.inl e')
      · exact q.1 (.inr (.inl e'))
      · rcases h4 with h4 | h4
        · exact q.1 (.inr (.inr (e'.trans h4)))
        · omega
    · have q1 := h3.size; have q2 := hst.size; omega
end
end Go.Proofs.Ytgfjmafdfbghnaa
