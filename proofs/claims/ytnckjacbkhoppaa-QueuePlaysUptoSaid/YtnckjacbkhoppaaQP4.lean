/- Queues and lists side by side, with the variable that holds the list. -/
import Derived.Test.YtnckjacbkhoppaaQP3
namespace Go.Proofs.Ytnckjacbkhoppaa
open Go.RowKit Go.Maps
/-- The queues, the list v' that tells them, and the variable at bm that holds v. -/
structure PN (W w : World) (qp M bm : Nat) (most : Int) (N L : Nat) (v v' : Value) (S : List On) (F V : Nat → Prop) : Prop where
  js : JS W w qp M most N L v' S F V
  mb : MB w bm most v
  mk_ : MK (fun k => k = bm) v' S
  nf : W.heap.size ≤ bm ∧ ¬ F bm ∧ ¬ V bm
/-- A block that nothing leans on. -/
structure FR (W : World) (bm : Nat) (v' : Value) (S : List On) (F V : Nat → Prop) (b : Nat) : Prop where
  nf : ¬ F b ∧ ¬ V b
  mk_ : MK (fun k => k = b) v' S
  ne : b ≠ bm ∧ W.heap.size ≤ b
section
variable {W w w' : World} {qp M bm : Nat} {most : Int} {N L : Nat} {v v' : Value} {S : List On} {F V : Nat → Prop}
theorem PN.on (h : PN W w qp M bm most N L v v' S F V) (hb : Below w.heap.size w w') : PN W w' qp M bm most N L v v' S F V := ⟨h.js.below hb, h.mb.below hb, h.mk_, h.nf⟩
theorem PN.new (h : PN W w qp M bm most N L v v' S F V) {b : Nat} (hb : w.heap.size ≤ b) : FR W bm v' S F V b :=
  ⟨⟨fun e => by have := (h.js.qt.fb.1 b e).2.1; omega, fun e => by have := (h.js.qt.fb.2 b e).2; omega⟩, h.js.ml.old fun k e => by rw [e]; exact hb, by have := h.mb.lt; have := h.js.bel.size; omega⟩
theorem PN.other (h : PN W w qp M bm most N L v v' S F V) {b : Nat} (hb : FR W bm v' S F V b) {G : Nat → Prop} (hG : ∀ k, G k → k = b) (hc : Chg G w w') : PN W w' qp M bm most N L v v' S F V :=
  ⟨h.js.chg hc (fun k hk e => hb.nf.1 (hG k e ▸ hk)) (fun k hk e => hb.nf.2 (hG k e ▸ hk)) ⟨fun b' e hg => hb.mk_.own b' e (hG _ hg), fun o ho => (hb.mk_.rec_ o ho).mono hG⟩ (fun k e => by rw [hG k e]; exact hb.ne.2),
    h.mb.chg hc (fun e => hb.ne.1 (hG _ e).symm), h.mk_, h.nf⟩
/-- The variable takes the list. -/
theorem PN.store (h : PN W w qp M bm most N L v v' S F V) : PN W ((w.setCell ⟨bm, 0, none⟩ (.int .i64 most)).setCell ⟨bm, 1, none⟩ v') qp M bm most N L v' v' S F V := by
  have hc : Chg (fun k => k = bm) w ((w.setCell ⟨bm, 0, none⟩ (.int .i64 most)).setCell ⟨bm, 1, none⟩ v') := ((Chg.refl (fun k => k = bm) w).setCell (p := ⟨bm, 0, none⟩) (.inl rfl) _).setCell (p := ⟨bm, 1, none⟩) (.inl rfl) _
  exact ⟨h.js.chg hc (fun k hk e => h.nf.2.1 (by have e : k = bm := e; rw [← e]; exact hk)) (fun k hk e => h.nf.2.2 (by have e : k = bm := e; rw [← e]; exact hk)) h.mk_ (fun k e => by have e : k = bm := e; rw [e]; exact h.nf.1), h.mb.set2 most v', h.mk_, h.nf⟩
/-- An act. -/
theorem PN.act (h : PN W w qp M bm most N L v v S F V) (hb : Below w.heap.size w w') (hL : L < 800000) (a : Ac) (ha : AOk W a) (hbig : ∀ x ∈ a.l, x.ps.length < 1000000) (hN : N + a.l.length < 100000) (hmo : 1 ≤ most) :
    Calls Try.prog 68 #[ptr qp, mval most v, acval a] w' fun e w'' => ∃ v' S' F' V', e = .returned (.tuple #[mval most v', .bool true]) ∧ PN W w'' qp M bm most (N + a.l.length) (L + 1) v v' S' F' V' ∧ Chg F w' w'' ∧ ∀ b, w.heap.size ≤ b → b < w'.heap.size → FR W bm v' S' F' V' b := by
  refine (does28 (h.js.below hb) hL a ha hbig hN hmo).mono ?_
  rintro e w'' ⟨v', S', F', V', rfl, hj, hc, hF, hV, hm⟩
  have hbm := h.mb.lt
  have hs := hb.size
  have hws := h.js.bel.size
  refine ⟨v', S', F', V', rfl, ⟨hj, (h.mb.below hb).chg hc h.nf.2.1, hm _ (fun k e => by have e : k = bm := e; rw [e]; exact ⟨h.nf.1, by omega⟩) h.mk_, h.nf.1, fun e => ?_, fun e => ?_⟩, hc, fun b h1 h2 => ⟨⟨fun e => ?_, fun e => ?_⟩, hm _ (fun k e => by have e : k = b := e; omega) (h.js.ml.old fun k e => by have e : k = b := e; omega), by omega⟩⟩
  · rcases hF _ e with h' | h'
    · exact h.nf.2.1 h'
    · omega
  · rcases hV _ e with h' | h'
    · exact h.nf.2.2 h'
    · omega
  · rcases hF _ e with h' | h'
    · have := (h.js.qt.fb.1 b h').2.1; omega
    · omega
  · rcases hV _ e with h' | h'
    · have := (h.js.qt.fb.2 b h').2; omega
    · omega
end
/-- How many events an act brings. -/
def aL (a : Ac) : Nat := a.l.length
theorem lens_le : ∀ l : List Ac, (l.map aL).sum ≤ (l.map aW).sum
  | [] => by simp
  | a :: l => by
    have h1 := lens_le l
    have h2 : aL a ≤ aW a := len_evW a.l
    simp only [List.map_cons, List.sum_cons]; omega
theorem vec_le {l : List Ac} {a : Ac} (ha : a ∈ l) {x : Ev} (hx : x ∈ a.l) : x.ps.length ≤ (l.map aW).sum := by
  have h1 : aW a ≤ (l.map aW).sum := mem_sum_le ha
  have h2 : evW x ≤ aW a := mem_sum_le (f := evW) hx
  have h3 : x.ps.length ≤ evW x := Nat.le_add_left _ _
  omega
end Go.Proofs.Ytnckjacbkhoppaa
