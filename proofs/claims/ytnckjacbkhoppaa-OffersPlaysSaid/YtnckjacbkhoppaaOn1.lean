/- offers: the table and the document's list, side by side. -/
import Derived.Test.YtnckjacbkhoppaaOm3
import Derived.Test.YtnckjacbkhoppaaRSo
namespace Go.Proofs.Ytnckjacbkhoppaa
open Go.RowKit Go.Maps
attribute [local go_sem] ext_cell ext_frozen extC_cell extC_frozen Mix.calmUpon Mix.mUpon
theorem missue {w : World} {v : Value} {S : List Ofr} {g l : Int} (h : FL w v S) (hln : S.length < 900000) (hl : 0 ≤ l ∧ l ≤ g ∧ g ≤ 9007199254740992) (x : Ofr) (hx : Vc w x.vv x.ps) (hxl : x.ps.length < 1000000) : Calls Try.prog 37 #[mval g l v, .int .i64 x.frame, .int .i64 x.agent, x.vv, .int .i64 x.til] w
    (RetM w g (issL g l x.pl) v (if PfOk x.pl ∧ l < g then S ++ [{ x with id := l + 1 }] else S) (issN g l x.pl) (issE g l x.pl)) := by
  unfold issL issN issE
  by_cases hok : PfOk x.pl
  · by_cases hlt : l < g
    · simp only [hok, hlt, and_self, if_true]
      exact missue_ok h.rs h.vec hln x.id x.frame x.agent x.til hx hxl hok hlt hl.1 (by omega)
    · simp only [hok, hlt, and_false, if_true, if_false]
      exact missue_full h.rs x.id x.frame x.agent x.til hx hxl hok (by omega)
  · simp only [hok, false_and, if_false]
    exact missue_arg h.rs x.id x.frame x.agent x.til hx hxl hok
/-- A slice of one offer, made of a block that holds it. -/
theorem FL.made {w : World} {q : Nat} {x : Ofr} (hk : OfB w q x.id x.frame x.agent x.vv x.til) (hv : Vc w x.vv x.ps) : FL w (.slice (some ⟨q, 0, none⟩) 1 1) [x] := by
  refine ⟨⟨some ⟨q, 0, none⟩, 1, rfl, Nat.le_refl _, by decide, fun _ => ⟨q, 0, rfl, hk.lt, fun i hi j u hu => ?_⟩⟩, fun y hy => by rw [List.mem_singleton.1 hy]; exact hv⟩
  obtain rfl : i = 0 := by simpa using hi
  obtain ⟨h0, h1, h2, h3, h4⟩ := hk.cells
  rcases j with _ | _ | _ | _ | _ | j <;> simp [ofenc] at hu
  · subst hu; exact h0
  · subst hu; exact h1
  · subst hu; exact h2
  · subst hu; exact h3
  · subst hu; exact h4
theorem FL.one {w : World} {v : Value} {l : List Ofr} (h : FL w v l) {i : Nat} {x : Ofr} (hx : l[i]? = some x) {q : Int} (hq : q = ((i + 1 : Nat) : Int)) :
    ∃ v', (∀ w0, (Instr.slice 54 v (some (.int .i64 (i : Int))) (some (.int .i64 q)) none).run Try.prog w0 = .ok v' w0) ∧ FL w v' [x] := by
  obtain ⟨i0, hi, _, hz1, _⟩ := info_parts infoOf
  obtain ⟨v', h1, h2⟩ := h.rs.one hx hq Try.underlying54 hi hz1
  exact ⟨v', h1, h2 w h.rs, fun y hy => by rw [List.mem_singleton.1 hy]; exact h.vec x (mem_at hx)⟩
/-- A block that holds an act. -/
def AB (w : World) (b : Nat) (e : Bool) (i f a : Int) (v : Value) (u : Int) : Prop := w.heap[b]? = some (.cells #[.bool e, .int .i64 i, .int .i64 f, .int .i64 a, v, .int .i64 u] 58 (0, 0))
section
variable {w w' : World} {b : Nat} {e : Bool} {i f a u : Int} {v : Value}
theorem AB.made (w : World) (e : Bool) (i f a : Int) (v : Value) (u : Int) : AB (w.alloc (.cells #[.bool e, .int .i64 i, .int .i64 f, .int .i64 a, v, .int .i64 u] 58)) w.heap.size e i f a v u := heap_alloc_new w _
theorem AB.lt (h : AB w b e i f a v u) : b < w.heap.size := (Array.getElem?_eq_some_iff.1 h).1
theorem AB.chg {F : Nat → Prop} (h : AB w b e i f a v u) (hb : Chg F w w') (hf : ¬ F b) : AB w' b e i f a v u := (hb.block _ h.lt hf).trans h
theorem AB.below (h : AB w b e i f a v u) (hb : Below w.heap.size w w') : AB w' b e i f a v u := h.chg (.of_below (fun _ => False) hb) id
theorem AB.cells (h : AB w b e i f a v u) : w.cell? ⟨b, 0, none⟩ = some (.bool e) ∧ w.cell? ⟨b, 1, none⟩ = some (.int .i64 i) ∧ w.cell? ⟨b, 2, none⟩ = some (.int .i64 f) ∧ w.cell? ⟨b, 3, none⟩ = some (.int .i64 a) ∧ w.cell? ⟨b, 4, none⟩ = some v ∧ w.cell? ⟨b, 5, none⟩ = some (.int .i64 u) := by unfold AB at h; simp [World.cell?, h]
end
/-- The table and the document's list, after t acts. -/
structure PSt (w1 wr : World) (tp mb : Nat) (great last : Int) (P : List Pf) (K : Nat → Prop) (vm : Value) (L : List Ofr) (t : Nat) : Prop where
  os : OS w1 wr tp great last P K t
  m : MB wr mb great last vm
  ml : RS 5 ofenc wr vm L
  pl : L.map Ofr.pl = P
  vec : ∀ x ∈ L, Vc w1 x.vv x.ps
  own : ∀ b, vm.ownBlock = some b → ¬ K b ∧ mb < b ∧ b < wr.heap.size
  nK : ¬ K mb
  base : w1.heap.size ≤ mb
section
variable {w1 wr w' : World} {tp mb : Nat} {great last : Int} {P : List Pf} {K : Nat → Prop} {vm : Value} {L : List Ofr} {t : Nat}
theorem PSt.on (h : PSt w1 wr tp mb great last P K vm L t) (hb : Below wr.heap.size wr w') : PSt w1 w' tp mb great last P K vm L t :=
  ⟨h.os.on hb, h.m.below hb, h.ml.below hb, h.pl, h.vec, fun b hb' => ⟨(h.own b hb').1, (h.own b hb').2.1, Nat.lt_of_lt_of_le (h.own b hb').2.2 hb.size⟩, h.nK, h.base⟩
theorem PSt.fl (h : PSt w1 wr tp mb great last P K vm L t) : FL wr vm L := ⟨h.ml, fun x hx => (h.vec x hx).on h.os.bel⟩
theorem PSt.form (h : PSt w1 wr tp mb great last P K vm L t) : ∃ a n c, vm = .slice a n c := by obtain ⟨a, n, c, rfl, _⟩ := h.ml.at_; exact ⟨a, n, c, rfl⟩
theorem PSt.llen (h : PSt w1 wr tp mb great last P K vm L t) : L.length ≤ t := by have := h.os.len; have := congrArg List.length h.pl; rw [List.length_map] at this; omega
theorem PSt.fnd (h : PSt w1 wr tp mb great last P K vm L t) (k : Int) : fndP P k = (fndO L k).map Ofr.pl := by rw [← h.pl]; exact pl_fndO L k
theorem PSt.look (h : PSt w1 wr tp mb great last P K vm L t) (k : Int) : decide (0 ≤ Srt.pl Ofr.id L k) = (fndP P k).isSome := by rw [Srt.pl_fnd, h.fnd, Option.isSome_map]
/-- Behind an act on the table, the list as it was. -/
theorem PSt.act (h : PSt w1 wr tp mb great last P K vm L t) (hc : Chg K wr w') : MB w' mb great last vm ∧ RS 5 ofenc w' vm L ∧ Below w1.heap.size w1 w' :=
  ⟨h.m.chg hc h.nK, h.ml.chg hc fun b hb => (h.own b hb).1, h.os.bel.trans (hc.below h.os.bel.size fun k e => (h.os.ov.hK k e).1)⟩
/-- .. and the list turned with it. -/
theorem PSt.both {P' : List Pf} {K' : Nat → Prop} {v' v0 : Value} {L' : List Ofr} {w2 : World} {l' l0 : Int} (h : PSt w1 wr tp mb great last P K vm L t) (ht : OV w2 w1.heap.size tp great l' P' K') (hm : MB w2 mb great l0 v0) (hl : RS 5 ofenc w2 v' L') (hpl : L'.map Ofr.pl = P') (hvec : ∀ x ∈ L', Vc w1 x.vv x.ps) (hown : ∀ b, v'.ownBlock = some b → ¬ K' b ∧ mb < b ∧ b < w2.heap.size)
    (hnK : ¬ K' mb) (hbel : Below w1.heap.size w1 w2) (hlen : P'.length ≤ t + 1) : PSt w1 (((w2.setCell ⟨mb, 0, none⟩ (.int .i64 great)).setCell ⟨mb, 1, none⟩ (.int .i64 l')).setCell ⟨mb, 2, none⟩ v') tp mb great l' P' K' v' L' (t + 1) := by
  have hc := mb_chg w2 mb (.int .i64 great) (.int .i64 l') v'
  exact ⟨⟨ht.chg hc fun b hb e => by have e : b = mb := e; rw [e] at hb; exact hnK hb, hbel.trans (hc.below hbel.size fun k e => by have e : k = mb := e; rw [e]; exact h.base), hlen⟩, hm.set3 great l' v', hl.chg hc (fun b hb e => by have := (hown b hb).2.1; have e : b = mb := e; omega), hpl, hvec, fun b hb => ⟨(hown b hb).1, (hown b hb).2.1, Nat.lt_of_lt_of_le (hown b hb).2.2 hc.size⟩, hnK, h.base⟩
theorem got_len {P : List Pf} (hn : ∀ x ∈ P, VR x.2.2.2.1) {k : Int} {z : Ofr} (hz : z.pl = (fndP P k).getD (0, 0, 0, [], 0)) : z.ps.length < 1000000000 := by
  have h1 : z.ps = ((fndP P k).getD (0, 0, 0, [], 0)).2.2.2.1 := congrArg (fun p : Pf => p.2.2.2.1) hz
  rw [h1]
  cases h : fndP P k with
  | none => show (0 : Nat) < 1000000000; decide
  | some y =>
    have := vr_len (hn y (Srt.fnd_mem h).1)
    show y.2.2.2.1.length < 1000000000
    omega
theorem PSt.vr (h : PSt w1 wr tp mb great last P K vm L t) : ∀ x ∈ P, VR x.2.2.2.1 := fun x hx => (h.os.ov.num x hx).2.2.2.2.1
end
end Go.Proofs.Ytnckjacbkhoppaa
