/- manciplelaw28.does at any act. -/
import Derived.Test.YtnckjacbkhoppaaQP2
namespace Go.Proofs.Ytnckjacbkhoppaa
open Go.RowKit Go.Maps
attribute [local go_sem] ext_cell ext_frozen extC_cell extC_frozen Mix.calmUpon Mix.mUpon
section
variable {W w : World} {qp M : Nat} {most : Int} {N L : Nat} {v : Value} {S : List On} {F V : Nat → Prop}
theorem JS.up {N' : Nat} (h : JS W w qp M most N L v S F V) (hN : N ≤ N') : JS W w qp M most N' L v S F V :=
  ⟨h.qt.up hN, h.ml, h.mk_, fun o ho => by obtain ⟨h1, h2, h3, h4⟩ := h.evl o ho; exact ⟨by omega, h2, by omega, h4⟩, h.bel, h.len, h.sm⟩
theorem JS.i64 (h : JS W w qp M most N L v S F V) : ∀ o ∈ S, I64 o.frame := fun o ho => by
  obtain ⟨S', L', hQ, he, _⟩ := h.qt
  have h1 : o.pl ∈ S'.map Qr.pl := by rw [he]; exact List.mem_map.2 ⟨o, ho, rfl⟩
  obtain ⟨r, hr, hro⟩ := List.mem_map.1 h1
  have h2 := (hQ.num r hr).1
  have h3 : r.pl.frame = o.pl.frame := by rw [hro]
  have h4 : r.frame = o.frame := h3
  rw [← h4]; exact h2
theorem JS.chg {G : Nat → Prop} {w' : World} (h : JS W w qp M most N L v S F V) (hc : Chg G w w') (h1 : ∀ k, F k → ¬ G k) (h2 : ∀ k, V k → ¬ G k) (h3 : MK G v S) (h4 : ∀ k, G k → W.heap.size ≤ k) : JS W w' qp M most N L v S F V :=
  ⟨h.qt.chg hc h1 h2, h.ml.keep hc h3, h.mk_, h.evl, h.bel.trans (hc.below h.bel.size h4), h.len, h.sm⟩
theorem JS.below {w' : World} (h : JS W w qp M most N L v S F V) (hb : Below w.heap.size w w') : JS W w' qp M most N L v S F V :=
  ⟨h.qt.below hb, h.ml.below hb, h.mk_, h.evl, bt h.bel hb, h.len, h.sm⟩
theorem JP.up {N' : Nat} {e : Ending} {w' : World} (h : JP W w v S F V qp M most N L e w') (hN : N ≤ N') : JP W w v S F V qp M most N' L e w' := by
  obtain ⟨v', S', F', V', h1, h2, h3⟩ := h
  exact ⟨v', S', F', V', h1, h2.up hN, h3⟩
theorem does28 (h : JS W w qp M most N L v S F V) (hL : L < 800000) (a : Ac) (ha : AOk W a) (hbig : ∀ x ∈ a.l, x.ps.length < 1000000) (hN : N + a.l.length < 100000) (hmo : 1 ≤ most) :
    Calls Try.prog 68 #[ptr qp, mval most v, acval a] w (JP W w v S F V qp M most (N + a.l.length) (L + 1)) := by
  by_cases h0 : a.kind = 0
  · exact (does_open h hL a h0 ha.fr hmo).mono fun _ _ hp => hp.up (Nat.le_add_right _ _)
  · by_cases h1 : a.kind = 1
    · exact (does_shut h hL a h1 ha.fr).mono fun _ _ hp => hp.up (Nat.le_add_right _ _)
    · by_cases h2 : a.kind = 2
      · exact does_put h hL a h2 ha.ev ha.own ha.ef hbig hN hmo
      · exact (does_take h hL (by omega) a ⟨h0, h1, h2⟩ ha.fr).mono fun _ _ hp => hp.up (Nat.le_add_right _ _)
end
theorem qnew_none (w : World) {most : Int} (hc : most < 1) : Calls Try.prog 66 #[.int .i64 most] w fun e w' => e = .returned (.pointer none) ∧ w' = w := by
  go_enter Try.func66, Try.ntmps66
  go_wp2
  go_ret
  exact ⟨rfl, rfl⟩
/-- The first state. -/
theorem JS.start {W w : World} {qp M : Nat} {most : Int} {F V : Nat → Prop} (h : QT w W.heap.size qp M most 0 [] F V) (hb : Below W.heap.size W w) : JS W w qp M most 0 0 (.slice none 0 0) [] F V :=
  ⟨h, ⟨RS.nil _ _ _, (fun o ho => by cases ho), (fun b hb => by cases hb), (fun o ho => by cases ho), Srt.In.nil⟩, ⟨fun b hb => (by cases hb), fun o ho => (by cases ho)⟩, fun o ho => (by cases ho), hb, Nat.le_refl _, fun q hq => by cases hq⟩
end Go.Proofs.Ytnckjacbkhoppaa
