/- filters: how a table stands behind a store. -/
import Derived.Test.YtennhfkhdfalfaaFi5
import Derived.Test.YtennhfkhdfalfaaMixL
namespace Go.Proofs.Ytennhfkhdfalfaa
open Go.RowKit Go.Maps
attribute [local go_sem] ext_cell ext_frozen extC_cell extC_frozen Mix.calmUpon Mix.mUpon
/-- The block of a slice's row. -/
def OBf (v : Value) (k : Nat) : Prop := v.ownBlock = some k
theorem infoFl : (Try.prog.info? 72).map (fun i => (i.zero, i.size, i.bytes)) = some (some (.agg #[.int .i64 0, .int .i64 0, .int .i64 0, .slice none 0 0]), 4, 48) := by kernel_rfl
theorem own_appF {w : World} {base : Nat} {v : Value} {l : List Fl} {b : Nat} (h : OwnL 72 4 flenc w base v l) (x : Fl) (hx : FB w b x.fr x.ag x.ti x.vv) (h1 : x.vv.oneCell' = true) (hl : l.length < 1000000) (hb : base ≤ w.heap.size) :
    ∃ v' w', (Builtin.append_ #[68, 68] 68 #[v, .slice (some ⟨b, 0, none⟩) 1 1]).run Try.prog w = .ok v' w' ∧ OwnL 72 4 flenc w' base v' (l ++ [x]) ∧ w.grownBy w' v.ownBlock ∧ (v'.ownBlock = v.ownBlock ∨ v'.ownBlock = some w.heap.size) := by
  obtain ⟨i0, hi, hz0, hz1, hz2⟩ := info_parts infoFl
  obtain ⟨x0, x1, x2, x3⟩ := hx.cells
  exact OwnL.app h Try.underlying68 hi hz0 hz1 hz2 rfl (by decide) (fun _ => rfl) x (fun j u hj => by
      rcases j with _ | _ | _ | _ | j <;> simp [flenc] at hj
      · subst hj; exact x0
      · subst hj; exact x1
      · subst hj; exact x2
      · subst hj; exact x3) (fun u hu => by simp [flenc] at hu; rcases hu with rfl | rfl | rfl | rfl; rfl; rfl; rfl; exact h1) (by omega) (by unfold maxLen; omega) hb
section
variable {W w w' : World} {tp M : Nat} {cap : Int} {F : K2 → Option Fx} {S : List Pf}
theorem FX.chg {base : Nat} {x : Fx} {G : Nat → Prop} (h : FX w base x) (hc : Chg G w w') (hb : ¬ G x.b) (ho : ∀ q, x.v.ownBlock = some q → ¬ G q) (hv : ∀ f ∈ x.l, ∀ q, f.vv.ownBlock = some q → ¬ G q) : FX w' base x :=
  ⟨h.lb.chg hc hb, h.new, h.own.chg hc ho, fun f hf => ownsRow_chg (h.vec f hf) hc (hv f hf)⟩
/-- The block of a row has cells of its element's type. -/
theorem row_obj {base : Nat} {e : TypeId} {size n : Nat} {v : Value} {xs : List Value} {q : Nat} (h : w.ownsRow base e size v n xs) (hq : v.ownBlock = some q) : ∃ c z, w.heap[q]? = some (.cells c e z) := by
  obtain ⟨_, ⟨rfl, _⟩ | ⟨g, cap, cur, rfl, _, hg, _⟩⟩ := h
  · cases hq
  · cases hq; exact ⟨_, _, hg⟩
/-- A list is none of the blocks that hold neither lists nor filters nor parts. -/
theorem FX.off {base : Nat} {x : Fx} (h : FX w base x) {q : Nat} {o : Obj} (hq : w.heap[q]? = some o) (h1 : ∀ c z, o ≠ .cells c 134 z) (h2 : ∀ c z, o ≠ .cells c 72 z) (h3 : ∀ c z, o ≠ .cells c 57 z) :
    x.b ≠ q ∧ (∀ k, x.v.ownBlock = some k → k ≠ q) ∧ ∀ f ∈ x.l, ∀ k, f.vv.ownBlock = some k → k ≠ q := by
  refine ⟨?_, fun k hk => ?_, fun f hf k hk => ?_⟩
  · rintro rfl
    have := h.lb
    unfold LB at this
    rw [hq] at this
    exact h1 _ _ (Option.some.inj this)
  · rintro rfl
    obtain ⟨c, z, e⟩ := row_obj h.own hk
    rw [hq] at e
    exact h2 _ _ (Option.some.inj e)
  · rintro rfl
    obtain ⟨c, z, e⟩ := row_obj (h.vec f hf) hk
    rw [hq] at e
    exact h3 _ _ (Option.some.inj e)
theorem MapF.obj {b : Nat} {f : K2 → Option Fx} (h : MapF KP w b f fxval) : ∃ es c, w.heap[b]? = some (.map es c) := by
  obtain ⟨L, ⟨es, c, h, _⟩, _⟩ := h
  exact ⟨es, c, h⟩
/-- A new list, empty as yet. -/
theorem FQ.fresh (h : FQ W w tp M cap F S) {k : K2} (hk : F k = none) {nb : Nat} (hc : Chg (fun b => b = M) w w') (hm : MapF KP w' M (upd F k (some ⟨nb, .slice none 0 0, []⟩)) fxval) (hl : LB w' nb (.slice none 0 0)) (hnb : w.heap.size ≤ nb) :
    FQ W w' tp M cap (upd F k (some ⟨nb, .slice none 0 0, []⟩)) S := by
  obtain ⟨es, cc, ho⟩ := MapF.obj h.map
  refine ⟨(hc.block tp h.lt.1 h.ne).trans h.obj, hm, h.bel.trans (hc.below h.bel.size fun k e => by rw [e]; exact h.new.2), h.new, h.ne, fun j x hx => ?_, fun j j' x x' hx hx' hne => ?_, fun j => ?_, h.ok, h.cp, h.c1⟩
  · unfold upd at hx
    split at hx
    · cases hx
      exact ⟨hl, by have := h.bel.size; show _ ≤ nb; omega, OwnL.nil _ _ _ _ _, fun f hf => by cases hf⟩
    · have := (h.lst j x hx).off ho (fun _ _ e => by cases e) (fun _ _ e => by cases e) (fun _ _ e => by cases e)
      exact (h.lst j x hx).chg hc this.1 this.2.1 this.2.2
  · unfold upd at hx hx'
    split at hx
    · cases hx
      split at hx'
      · rename_i e1 e2; exact absurd (e1.trans e2.symm) hne
      · have := (h.lst j' x' hx').lb.lt
        exact ⟨by show nb ≠ x'.b; omega, fun q hq => by cases hq⟩
    · split at hx'
      · cases hx'
        have := (h.lst j x hx).lb.lt
        exact ⟨by show x.b ≠ nb; omega, fun q hq e => by cases e⟩
      · exact h.one j j' x x' hx hx' hne
  · unfold upd
    by_cases hj : j = k
    · rw [if_pos hj]
      have := h.pl k
      rw [hk] at this
      rw [hj, this]; rfl
    · rw [if_neg hj]; exact h.pl j
theorem fk_snoc (S : List Pf) (f : Pf) (k : K2) : fk (S ++ [f]) k = fk S k ++ (if kx f = k then [f] else []) := by
  unfold fk
  rw [List.filter_append]
  by_cases h : kx f = k
  · rw [if_pos h]; simp [h]
  · rw [if_neg h]; simp [h]
/-- A filter put to the end of a list. -/
theorem FQ.put (h : FQ W w tp M cap F S) {k : K2} {y : Fx} (hF : F k = some y) (hn : ∀ j x, j ≠ k → F j = some x → x.l ≠ []) {x : Fl} (hk : kx x.pl = k) (hok : FOk x.pl) (hcap : (S.length : Int) < cap)
    {v' : Value} (hc : Chg (fun b => b = tp ∨ b = y.b ∨ OBf y.v b) w w') (ho : w'.heap[tp]? = some (.cells #[.int .i64 cap, .int .i64 ((S.length + 1 : Nat) : Int), .map (some M)] 92 (0, 0)))
    (hl : LB w' y.b v') (how : OwnL 72 4 flenc w' W.heap.size v' (y.l ++ [x])) (hxv : OwnP w' W.heap.size x.vv x.ps) (hnew : ∀ q, v'.ownBlock = some q → y.v.ownBlock = some q ∨ w.heap.size ≤ q) :
    FT W w' tp M cap (upd F k (some ⟨y.b, v', y.l ++ [x]⟩)) (S ++ [x.pl]) := by
  obtain ⟨es, cc, hmo⟩ := MapF.obj h.map
  have hy := h.lst k y hF
  have h1 : ¬ (M = tp ∨ M = y.b ∨ OBf y.v M) := by
    have := hy.off hmo (fun _ _ e => by cases e) (fun _ _ e => by cases e) (fun _ _ e => by cases e)
    rintro (e | e | e)
    · exact h.ne e.symm
    · exact this.1 e.symm
    · exact this.2.1 M e rfl
  have hfl : ∀ j z, j ≠ k → F j = some z → FX w' W.heap.size z := fun j z hj hz => by
    have hz' := h.lst j z hz
    have ht := hz'.off h.obj (fun _ _ e => absurd (Obj.cells.inj e).2.1 (by decide)) (fun _ _ e => absurd (Obj.cells.inj e).2.1 (by decide)) (fun _ _ e => absurd (Obj.cells.inj e).2.1 (by decide))
    have hyb := hz'
    have h2 := h.one j k z y hz hF hj
    refine hz'.chg hc ?_ (fun q hq => ?_) (fun f hf q hq => ?_)
    · rintro (e | e | e)
      · exact ht.1 e
      · exact h2.1 e
      · obtain ⟨c, zz, e2⟩ := row_obj hy.own e
        have := hz'.lb
        unfold LB at this
        rw [this] at e2
        exact absurd (Obj.cells.inj (Option.some.inj e2)).2.1 (by decide)
    · rintro (e | e | e)
      · exact ht.2.1 q hq e
      · obtain ⟨c, zz, e2⟩ := row_obj hz'.own hq
        have := hy.lb
        unfold LB at this
        rw [e, this] at e2
        exact absurd (Obj.cells.inj (Option.some.inj e2)).2.1 (by decide)
      · exact h2.2 q hq e
    · rintro (e | e | e)
      · exact ht.2.2 f hf q hq e
      · obtain ⟨c, zz, e2⟩ := row_obj (hz'.vec f hf) hq
        have := hy.lb
        unfold LB at this
        rw [e, this] at e2
        exact absurd (Obj.cells.inj (Option.some.inj e2)).2.1 (by decide)
      · obtain ⟨c, zz, e2⟩ := row_obj (hz'.vec f hf) hq
        obtain ⟨c', z', e3⟩ := row_obj hy.own e
        rw [e2] at e3
        exact absurd (Obj.cells.inj (Option.some.inj e3)).2.1 (by decide)
  have hnewv : ∀ f ∈ y.l, OwnP w' W.heap.size f.vv f.ps := fun f hf => by
    refine ownsRow_chg (hy.vec f hf) hc fun q hq => ?_
    obtain ⟨c, zz, e2⟩ := row_obj (hy.vec f hf) hq
    rintro (e | e | e)
    · rw [e, h.obj] at e2
      exact absurd (Obj.cells.inj (Option.some.inj e2)).2.1 (by decide)
    · have := hy.lb
      unfold LB at this
      rw [e, this] at e2
      exact absurd (Obj.cells.inj (Option.some.inj e2)).2.1 (by decide)
    · obtain ⟨c', z', e3⟩ := row_obj hy.own e
      rw [e2] at e3
      exact absurd (Obj.cells.inj (Option.some.inj e3)).2.1 (by decide)
  refine ⟨⟨by rw [List.length_append]; exact ho, ?_, h.bel.trans (hc.below h.bel.size fun q e => ?_), h.new, h.ne, fun j z hz => ?_, fun j j' z z' hz hz' hne => ?_, fun j => ?_, fun f hf => ?_, ?_, h.c1⟩, fun j z hz => ?_⟩
  · obtain ⟨L, hm, hlk⟩ := h.map.chg hc h1
    refine ⟨L, hm, fun j => ?_⟩
    rw [hlk j]; unfold upd
    by_cases hj : j = k
    · rw [if_pos hj, hj, hF]; rfl
    · rw [if_neg hj]
  · rcases e with e | e | e
    · rw [e]; exact h.new.1
    · rw [e]; exact hy.new
    · exact (hy.own.lt q e).1
  · unfold upd at hz
    by_cases hj : j = k
    · rw [if_pos hj] at hz
      cases hz
      exact ⟨hl, hy.new, how, fun f hf => by
        rcases List.mem_append.1 hf with hf | hf
        · exact hnewv f hf
        · rw [List.mem_singleton.1 hf]; exact hxv⟩
    · rw [if_neg hj] at hz
      exact hfl j z hj hz
  · unfold upd at hz hz'
    by_cases hj : j = k
    · have hj' : j' ≠ k := fun e => hne (hj.trans e.symm)
      rw [if_pos hj] at hz; rw [if_neg hj'] at hz'
      cases hz
      have h2 := h.one k j' y z' hF hz' (fun e => hj' e.symm)
      refine ⟨h2.1, fun q hq => ?_⟩
      rcases hnew q hq with e | e
      · exact h2.2 q e
      · intro e3
        have := (h.lst j' z' hz').own.lt q e3
        omega
    · rw [if_neg hj] at hz
      by_cases hj' : j' = k
      · rw [if_pos hj'] at hz'
        cases hz'
        have h2 := h.one j k z y hz hF hj
        refine ⟨h2.1, fun q hq e3 => ?_⟩
        rcases hnew q e3 with e | e
        · exact h2.2 q hq e
        · have := (h.lst j z hz).own.lt q hq
          omega
      · rw [if_neg hj'] at hz'
        exact h.one j j' z z' hz hz' hne
  · rw [fk_snoc, h.pl j]
    unfold upd
    by_cases hj : j = k
    · rw [if_pos hj, if_pos (by rw [hk, hj]), hj, hF]; simp
    · rw [if_neg hj, if_neg (by rw [hk]; exact fun e => hj e.symm), List.append_nil]
  · rcases List.mem_append.1 hf with hf | hf
    · exact h.ok f hf
    · rw [List.mem_singleton.1 hf]; exact hok
  · rw [List.length_append]; simp; omega
  · unfold upd at hz
    by_cases hj : j = k
    · rw [if_pos hj] at hz; cases hz; simp
    · rw [if_neg hj] at hz; exact hn j z hj hz
end
end Go.Proofs.Ytennhfkhdfalfaa
