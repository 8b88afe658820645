/- queue: New, find, Open, Shut, Long, Lost. -/
import Derived.Test.YtnckjacbkhoppaaQ0
import Derived.Test.YtnckjacbkhoppaaMixL
import Derived.RegionTactic
import Derived.ChangeAlike
import Derived.Outline
namespace Go.Proofs.Ytnckjacbkhoppaa
open Go.RowKit Go.Maps
open Go.ChangeMaps (setBlock)
attribute [local go_sem] ext_cell ext_frozen extC_cell extC_frozen Mix.calmUpon Mix.mUpon
section
variable {w w' : World} {B qp M : Nat} {most : Int} {N : Nat} {T : List Pq} {F V G : Nat → Prop}
theorem QT.lt (h : QT w B qp M most N T F V) : qp < w.heap.size ∧ M < w.heap.size := by obtain ⟨S, L, h, _⟩ := h; exact h.lt
theorem QT.chg (h : QT w B qp M most N T F V) (hc : Chg G w w') (h1 : ∀ k, F k → ¬ G k) (h2 : ∀ k, V k → ¬ G k) : QT w' B qp M most N T F V := by
  obtain ⟨S, L, h, e, a, b, c, d⟩ := h
  have hs := hc.size
  exact ⟨S, L, h.chg hc (fun k hk => h1 k (a k hk)) (fun k hk => h2 k (b k hk)), e, a, b, fun k hk => ⟨(c k hk).1, by have := (c k hk).2.1; omega, (c k hk).2.2⟩, fun k hk => ⟨(d k hk).1, by have := (d k hk).2; omega⟩⟩
theorem QT.below (h : QT w B qp M most N T F V) (hb : Below w.heap.size w w') : QT w' B qp M most N T F V := h.chg (G := fun _ => False) (.of_below _ hb) (fun _ _ => id) fun _ _ => id
/-- What an act leaves; the blocks of A are none that later acts write to. -/
def QX (A : Nat → Prop) (w : World) (B qp M : Nat) (most : Int) (N : Nat) (T : List Pq) (F V : Nat → Prop) (w' : World) : Prop :=
  ∃ F' V', QT w' B qp M most N T F' V' ∧ (∀ k, F' k → F k ∨ w.heap.size ≤ k) ∧ (∀ k, V' k → V k ∨ w.heap.size ≤ k) ∧ Chg F w w' ∧ (∀ k, V k → V' k) ∧ ∀ k, A k → ¬ F' k
abbrev QA := QX fun _ => False
theorem QA.refl (h : QT w B qp M most N T F V) (hb : Below w.heap.size w w') : QA w B qp M most N T F V w' := ⟨F, V, h.below hb, fun k => .inl, fun k => .inl, .of_below _ hb, fun k => id, fun k hk => hk.elim⟩
end
section
variable {w : World} {B qp M : Nat} {most : Int} {N : Nat} {S : List Qr} {L : List (Int × Value)}
/-- What find answers. -/
def qfA (S : List Qr) (k : Int) : Value := match fndR S k with | some r => .tuple #[qval r, .bool true] | none => .tuple #[qzero, .bool false]
set_option maxRecDepth 100000 in
theorem qfind (h : QB w B qp M most N S L) {k : Int} (hk : I64 k) : Calls Try.prog 108 #[ptr qp, .int .i64 k] w fun e w' => e = .returned (qfA S k) ∧ Below w.heap.size w w' := by
  have hl := h.lt
  have HF := Lib.hid (h.below (ba (Below.refl _ w) (.cells #[.slice none 0 0, .int .i64 0] 172)))
  have c1 := h.c1
  have hlook := HF.out.find hk true
  clear h
  unfold qfA
  cases hf : fndR S k with
  | some r =>
    obtain ⟨a, n, cap, hv, -⟩ := (HF.out.own r (Srt.fnd_mem hf).1).form
    obtain ⟨f, v, l, lost⟩ := r
    simp only at hv
    subst hv
    rw [hf] at hlook
    replace hlook := hlook.trans (show _ = .ok (.tuple #[.agg #[.slice a n cap, .int .i64 lost], .bool true]) _ from rfl)
    go_enter Try.func108, Try.ntmps108
    go_wp2
    refine bodyPost_ret (v := .tuple #[.agg #[.slice a n cap, .int .i64 lost], .bool true]) ?_ rfl ⟨rfl, ?_⟩
    · rw [results_cell_tmp Try.results108]
      simp [asAddr, Result.andThen, go_sem]
    · (repeat (first | assumption | exact Below.refl _ _ | refine ba ?_ _ | refine bd ?_ | refine bdn ?_ _ | refine bs ?_ (by first | omega | (simp; done) | (simp; omega)) _ | refine bt ?_ (by assumption)))
  | none =>
    rw [hf] at hlook
    replace hlook := hlook.trans (show _ = .ok (.tuple #[qzero, .bool false]) _ from rfl)
    go_enter Try.func108, Try.ntmps108
    go_wp2
    refine bodyPost_ret (v := .tuple #[qzero, .bool false]) ?_ rfl ⟨rfl, ?_⟩
    · rw [results_cell_tmp Try.results108]
      simp [asAddr, Result.andThen, go_sem]
    · (repeat (first | assumption | exact Below.refl _ _ | refine ba ?_ _ | refine bd ?_ | refine bdn ?_ _ | refine bs ?_ (by first | omega | (simp; done) | (simp; omega)) _ | refine bt ?_ (by assumption)))
theorem map_store {w : World} {M : Nat} {L : List (Int × Value)} (h : MapK K64 w M L) {k : Int} (hk : I64 k) (v : Value) :
    ∃ w', (Instr.mapUpdate 135 (.map (some M)) (.int .i64 k) v).run Try.prog w = .ok () w' ∧ MapK K64 w' M (mput L k v) ∧ Chg (fun b => b = M) w w' := by
  obtain ⟨o, hrun, h3⟩ := h.store key64 Try.underlying135 hk v
  exact ⟨_, hrun, h3, .of_grown (grown_setBlock w M o) fun b e => by cases e; rfl⟩
end
section
variable {w : World} {B qp M : Nat} {most : Int} {N : Nat} {T : List Pq} {F V : Nat → Prop}
/-- What a queue that is put in leaves. -/
theorem QT.put {A : Nat → Prop} {w1 w' : World} {S : List Qr} {L L' : List (Int × Value)} (hb : Below w.heap.size w w1) (h : QB w1 B qp M most N S L) (a : ∀ k, FQ M S k → F k) (b : ∀ k, FV qp S k → V k) (c : ∀ k, F k → B ≤ k ∧ k < w.heap.size ∧ ¬ V k) (d : ∀ k, V k → B ≤ k ∧ k < w.heap.size) (hBw : B ≤ w.heap.size)
    {N' : Nat} {x : Qr} (hx : QB w' B qp M most N' (putR S x) L') (hc : Chg (GQ M S x.frame) w1 w')
    (hbx : ∀ b, x.v.ownBlock = some b → (∃ y, fndR S x.frame = some y ∧ y.v.ownBlock = some b) ∨ w.heap.size ≤ b ∧ b < w'.heap.size)
    (hex : ∀ e ∈ x.l, (∃ y, fndR S x.frame = some y ∧ e ∈ y.l) ∨ ∀ c, e.vv.ownBlock = some c → w.heap.size ≤ c ∧ c < w'.heap.size ∧ x.v.ownBlock ≠ some c) (hA : ∀ k, A k → w.heap.size ≤ k ∧ x.v.ownBlock ≠ some k) :
    QX A w B qp M most N' ((putR S x).map Qr.pl) F V w' := by
  have hs := hb.size
  have hs' := hc.size
  refine ⟨fun k => F k ∨ (x.v.ownBlock = some k ∧ w.heap.size ≤ k ∧ k < w'.heap.size), fun k => V k ∨ (w.heap.size ≤ k ∧ k < w'.heap.size ∧ x.v.ownBlock ≠ some k), ⟨_, _, hx, rfl, fun k hk => ?_, fun k hk => ?_, fun k hk => ?_, fun k hk => ?_⟩, fun k hk => ?_, fun k hk => ?_, ?_, fun k => .inl, fun k hk => ?_⟩
  · rcases hk with hk | ⟨r, hr, hk⟩
    · exact .inl (a k (.inl hk))
    · rcases Srt.mem_put.1 hr with rfl | ⟨hr, hf⟩
      · rcases hbx k hk with ⟨y, hy, hyb⟩ | h'
        · exact .inl (a k (.inr ⟨y, (Srt.fnd_mem hy).1, hyb⟩))
        · exact .inr ⟨hk, h'⟩
      · exact .inl (a k (.inr ⟨r, hr, hk⟩))
  · rcases hk with hk | ⟨r, hr, e, he, hk⟩
    · exact .inl (b k (.inl hk))
    · rcases Srt.mem_put.1 hr with rfl | ⟨hr, hf⟩
      · rcases hex e he with ⟨y, hy, hye⟩ | h'
        · exact .inl (b k (.inr ⟨y, (Srt.fnd_mem hy).1, e, hye, hk⟩))
        · exact .inr (h' k hk)
      · exact .inl (b k (.inr ⟨r, hr, e, he, hk⟩))
  · rcases hk with hk | hk
    · have := c k hk
      exact ⟨this.1, by omega, fun h' => by rcases h' with h' | h'; exact this.2.2 h'; omega⟩
    · exact ⟨by omega, hk.2.2, fun h' => by rcases h' with h' | h'; have := d k h'; omega; exact h'.2.2 hk.1⟩
  · rcases hk with hk | hk
    · have := d k hk; omega
    · omega
  · rcases hk with hk | hk
    · exact .inl hk
    · exact .inr hk.2.1
  · rcases hk with hk | hk
    · exact .inl hk
    · exact .inr hk.1
  · exact (Chg.of_below F hb).same (hc.mono fun k hk => a k hk.fq)
  · rintro (h' | h')
    · have := c k h'; have := hA k hk; omega
    · exact (hA k hk).2 h'.1
set_option maxRecDepth 100000 in
theorem qopen (h : QT w B qp M most N T F V) (hBw : B ≤ w.heap.size) {k : Int} (hk : I64 k) : Calls Try.prog 72 #[ptr qp, .int .i64 k] w fun e w' => e = .returned (.bool (fndP T k).isNone) ∧ QA w B qp M most N (openM T k) F V w' := by
  obtain ⟨S, L, hQ, rfl, a, b, c, d⟩ := h
  have hl := hQ.lt
  have c1 := hQ.c1
  have hmn := fun w : World => Go.run_eql_map_nil (P := Try.prog) w 135 _ _ (some M) Try.underlying135
  have hlook := hQ.find hk true
  rw [pl_fndR]
  unfold openM
  rw [pl_fndR]
  have HQ := Lib.hid hQ
  clear hQ
  cases hf : fndR S k with
  | some r =>
    obtain ⟨ad, n, cap, hv, -⟩ := (HQ.out.own r (Srt.fnd_mem hf).1).form
    obtain ⟨f, v, l, lost⟩ := r
    simp only at hv
    subst hv
    rw [hf] at hlook
    replace hlook := hlook.trans (show _ = .ok (.tuple #[.agg #[.slice ad n cap, .int .i64 lost], .bool true]) _ from rfl)
    have HA := Lib.hid (show QT w B qp M most N (S.map Qr.pl) F V from ⟨S, L, HQ.out, rfl, a, b, c, d⟩)
    clear a b c d
    go_enter Try.func72, Try.ntmps72
    go_wp2
    go_ret
    exact ⟨rfl, .refl HA.out (by (repeat (first | assumption | exact Below.refl _ _ | refine ba ?_ _ | refine bd ?_ | refine bdn ?_ _ | refine bs ?_ (by first | omega | (simp; done) | (simp; omega)) _ | refine bt ?_ (by assumption))))⟩
  | none =>
    rw [hf] at hlook
    replace hlook := hlook.trans (show _ = .ok (.tuple #[qzero, .bool false]) _ from rfl)
    have hb1 : Below w.heap.size w (w.alloc (.cells #[.slice none 0 0, .int .i64 0] 172)) := ba (Below.refl _ _) _
    obtain ⟨w2, hrun, hm2, hc2⟩ := map_store (HQ.out.below hb1).map hk qzero
    have HB1 := Lib.hid hb1
    have HM2 := Lib.hid hm2; have HC2 := Lib.hid hc2
    have HX := Lib.hid (And.intro a (And.intro b (And.intro c d)))
    clear hb1 hm2 hc2 a b c d
    go_enter Try.func72, Try.ntmps72
    go_wp2
    go_ret
    have H1 := HQ.out.below HB1.out
    have hcg : Chg (GQ M S k) (w.alloc (.cells #[.slice none 0 0, .int .i64 0] 172)) w2 := HC2.out.mono fun b e => .inl e
    have hx := H1.put (x := ⟨k, .slice none 0 0, [], 0⟩) (N' := N) hk hcg HM2.out (OwnO.nil _ _ _ _) (fun e he => by cases he) (fun b hb => by cases hb) (fun e he => by cases he) ⟨Int.le_refl _, by simp⟩ (Nat.le_refl _)
    have := QT.put (x := ⟨k, .slice none 0 0, [], 0⟩) HB1.out H1 HX.out.1 HX.out.2.1 HX.out.2.2.1 HX.out.2.2.2 hBw hx hcg (fun b hb => by cases hb) (fun e he => by cases he) (A := fun _ => False) (fun k hk => hk.elim)
    rw [pl_put] at this
    exact ⟨rfl, this⟩
set_option maxRecDepth 100000 in
theorem qlong (h : QT w B qp M most N T F V) {k : Int} (hk : I64 k) : Calls Try.prog 70 #[ptr qp, .int .i64 k] w fun e w' => e = .returned (.int .i64 (((fndP T k).map fun x => x.evs.length).getD 0 : Nat)) ∧ Below w.heap.size w w' := by
  obtain ⟨S, L, hQ, rfl, -, -, -, -⟩ := h
  rw [pl_fndR]
  have HQ := Lib.hid hQ
  have HF := qfind hQ hk
  unfold qfA at HF
  clear hQ
  cases hf : fndR S k with
  | some r =>
    obtain ⟨ad, n, cap, hv, hn, -⟩ := (HQ.out.own r (Srt.fnd_mem hf).1).form
    obtain ⟨f, v, l, lost⟩ := r
    simp only at hv hn
    subst hv
    rw [hf] at HF
    have HF := Lib.hid HF
    have HN := Lib.hid (show ((((some (⟨f, .slice ad n cap, l, lost⟩ : Qr)).map Qr.pl).map fun x => x.evs.length).getD 0 : Nat) = n by simp [Qr.pl, hn])
    clear hn
    go_enter Try.func70, Try.ntmps70
    go_wp2_with fail
    refine HF.out.mono ?_
    rintro e w1 ⟨rfl, hb1⟩
    go_wp2
    go_ret
    exact ⟨by rw [HN.out]; rfl, by (repeat (first | assumption | exact Below.refl _ _ | refine ba ?_ _ | refine bd ?_ | refine bdn ?_ _ | refine bs ?_ (by first | omega | (simp; done) | (simp; omega)) _ | refine bt ?_ (by assumption)))⟩
  | none =>
    rw [hf] at HF
    have HF := Lib.hid HF
    go_enter Try.func70, Try.ntmps70
    go_wp2_with fail
    refine HF.out.mono ?_
    rintro e w1 ⟨rfl, hb1⟩
    go_wp2
    go_ret
    exact ⟨rfl, by (repeat (first | assumption | exact Below.refl _ _ | refine ba ?_ _ | refine bd ?_ | refine bdn ?_ _ | refine bs ?_ (by first | omega | (simp; done) | (simp; omega)) _ | refine bt ?_ (by assumption)))⟩
set_option maxRecDepth 100000 in
theorem qlost (h : QT w B qp M most N T F V) {k : Int} (hk : I64 k) : Calls Try.prog 71 #[ptr qp, .int .i64 k] w fun e w' => e = .returned (.int .i64 (((fndP T k).map fun x => x.lost).getD 0)) ∧ Below w.heap.size w w' := by
  obtain ⟨S, L, hQ, rfl, -, -, -, -⟩ := h
  rw [pl_fndR]
  have HQ := Lib.hid hQ
  have HF := qfind hQ hk
  unfold qfA at HF
  clear hQ
  cases hf : fndR S k with
  | some r =>
    obtain ⟨ad, n, cap, hv, hn, -⟩ := (HQ.out.own r (Srt.fnd_mem hf).1).form
    obtain ⟨f, v, l, lost⟩ := r
    simp only at hv hn
    subst hv
    rw [hf] at HF
    have HF := Lib.hid HF
    clear hn
    go_enter Try.func71, Try.ntmps71
    go_wp2_with fail
    refine HF.out.mono ?_
    rintro e w1 ⟨rfl, hb1⟩
    go_wp2
    go_ret
    exact ⟨rfl, by (repeat (first | assumption | exact Below.refl _ _ | refine ba ?_ _ | refine bd ?_ | refine bdn ?_ _ | refine bs ?_ (by first | omega | (simp; done) | (simp; omega)) _ | refine bt ?_ (by assumption)))⟩
  | none =>
    rw [hf] at HF
    have HF := Lib.hid HF
    go_enter Try.func71, Try.ntmps71
    go_wp2_with fail
    refine HF.out.mono ?_
    rintro e w1 ⟨rfl, hb1⟩
    go_wp2
    go_ret
    exact ⟨rfl, by (repeat (first | assumption | exact Below.refl _ _ | refine ba ?_ _ | refine bd ?_ | refine bdn ?_ _ | refine bs ?_ (by first | omega | (simp; done) | (simp; omega)) _ | refine bt ?_ (by assumption)))⟩
theorem makeQm (w : World) : (Instr.makeMap 135 none).run Try.prog w = .ok (.map (some w.heap.size)) (w.alloc (.map #[] 0)) := by kernel_rfl
set_option maxRecDepth 100000 in
theorem qnew (w : World) {most : Int} (hc : 1 ≤ most) : Calls Try.prog 66 #[.int .i64 most] w fun e w' => e = .returned (ptr (w.heap.size + 1)) ∧ QT w' w.heap.size (w.heap.size + 1) w.heap.size most 0 [] (fun k => k = w.heap.size) (fun k => k = w.heap.size + 1) ∧ Below w.heap.size w w' := by
  have n1 : ¬ most < 1 := by omega
  have hmm := makeQm
  go_enter Try.func66, Try.ntmps66
  go_wp2
  go_ret
  refine ⟨rfl, ⟨[], [], ⟨?_, ?_, fun k => rfl, rfl, Srt.In.nil, (fun r h => by cases h), (fun r h => by cases h), ⟨by omega, by omega, by omega⟩, (fun r h => by cases h), (fun r h => by cases h), fun r h => by cases h⟩, rfl, fun k hk => ?_, fun k hk => ?_, fun k hk => ?_, fun k hk => ?_⟩, by (repeat (first | assumption | exact Below.refl _ _ | refine ba ?_ _ | refine bd ?_ | refine bdn ?_ _ | refine bs ?_ (by first | omega | (simp; done) | (simp; omega)) _ | refine bt ?_ (by assumption)))⟩
  · have := heap_alloc_new (w.alloc (.map #[] 0)) (.cells #[.int .i64 most, .map (some w.heap.size)] 137)
    rw [show (w.alloc (.map #[] 0)).heap.size = w.heap.size + 1 by simp] at this
    exact this
  · exact (MapK.made w).below (ba (Below.refl _ _) _) (by simp)
  · rcases hk with hk | ⟨r, hr, _⟩
    · exact hk
    · cases hr
  · rcases hk with hk | ⟨r, hr, _⟩
    · exact hk
    · cases hr
  · subst hk; exact ⟨Nat.le_refl _, by simp; omega, by omega⟩
  · subst hk; exact ⟨by omega, by simp⟩
end
end Go.Proofs.Ytnckjacbkhoppaa
