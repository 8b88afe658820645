/- filters: how a table stands behind a cut of one of its lists. -/
import Derived.Test.YtennhfkhdfalfaaFi7
namespace Go.Proofs.Ytennhfkhdfalfaa
open Go.RowKit Go.Maps
section
variable {W w w' : World} {tp M : Nat} {cap : Int} {F F' : K2 → Option Fx} {S : List Pf}
/-- The unwanted filters at a key cut out. -/
def cutK (U : Pf → Bool) (k : K2) (S : List Pf) : List Pf := S.filter fun f => !(decide (kx f = k) && U f)
theorem cutK_at (U : Pf → Bool) (k : K2) (S : List Pf) : fk (cutK U k S) k = (fk S k).filter fun f => !U f := by
  unfold fk cutK
  rw [List.filter_filter, List.filter_filter]
  refine List.filter_congr fun f _ => ?_
  by_cases h : kx f = k <;> simp [h]
theorem cutK_off (U : Pf → Bool) {k j : K2} (S : List Pf) (h : j ≠ k) : fk (cutK U k S) j = fk S j := by
  unfold fk cutK
  rw [List.filter_filter]
  refine List.filter_congr fun f _ => ?_
  by_cases h2 : kx f = j
  · have : ¬ kx f = k := fun e => h (h2.symm.trans e)
    simp [h2, h]
  · simp [h2]
theorem cutK_len (U : Pf → Bool) (k : K2) (S : List Pf) : (cutK U k S).length + (fk S k).length = S.length + ((fk S k).filter fun f => !U f).length := by
  unfold fk cutK
  induction S with
  | nil => rfl
  | cons f t ih =>
    by_cases h : kx f = k
    · cases hu : U f <;> simp [h, hu] at ih ⊢ <;> omega
    · simp [h] at ih ⊢; omega
theorem FT.cut (h : FT W w tp M cap F S) {k : K2} {x : Fx} (hF : F k = some x) (U : Pf → Bool) {v' : Value}
    (hF' : ∀ j, F' j = if j = k then (if (x.l.filter fun f => !U f.pl) = [] then none else some ⟨x.b, v', x.l.filter fun f => !U f.pl⟩) else F j)
    (hc : Chg (fun b => b = tp ∨ b = M ∨ b = x.b ∨ OBf x.v b) w w') (ho : w'.heap[tp]? = some (.cells #[.int .i64 cap, .int .i64 ((cutK U k S).length : Nat), .map (some M)] 92 (0, 0))) (hm : MapF KP w' M F' fxval)
    (hl : LB w' x.b v') (how : OwnL 72 4 flenc w' W.heap.size v' (x.l.filter fun f => !U f.pl)) (hv' : ∀ q, v'.ownBlock = some q → x.v.ownBlock = some q) :
    FT W w' tp M cap F' (cutK U k S) := by
  obtain ⟨es, cc, hmo⟩ := MapF.obj h.map
  have hy := h.lst k x hF
  have hfl : ∀ j z, j ≠ k → F j = some z → FX w' W.heap.size z := fun j z hj hz => by
    have hz' := h.lst j z hz
    have ht := hz'.off h.obj (fun _ _ e => absurd (Obj.cells.inj e).2.1 (by decide)) (fun _ _ e => absurd (Obj.cells.inj e).2.1 (by decide)) (fun _ _ e => absurd (Obj.cells.inj e).2.1 (by decide))
    have hM := hz'.off hmo (fun _ _ e => by cases e) (fun _ _ e => by cases e) (fun _ _ e => by cases e)
    have h2 := h.one j k z x hz hF hj
    refine hz'.chg hc ?_ (fun q hq => ?_) (fun f hf q hq => ?_)
    · rintro (e | e | e | e)
      · exact ht.1 e
      · exact hM.1 e
      · exact h2.1 e
      · obtain ⟨c, zz, e2⟩ := row_obj hy.own e
        have := hz'.lb
        unfold LB at this
        rw [this] at e2
        exact absurd (Obj.cells.inj (Option.some.inj e2)).2.1 (by decide)
    · rintro (e | e | e | e)
      · exact ht.2.1 q hq e
      · exact hM.2.1 q hq e
      · obtain ⟨c, zz, e2⟩ := row_obj hz'.own hq
        have := hy.lb
        unfold LB at this
        rw [e, this] at e2
        exact absurd (Obj.cells.inj (Option.some.inj e2)).2.1 (by decide)
      · exact h2.2 q hq e
    · rintro (e | e | e | e)
      · exact ht.2.2 f hf q hq e
      · exact hM.2.2 f hf q hq e
      · obtain ⟨c, zz, e2⟩ := row_obj (hz'.vec f hf) hq
        have := hy.lb
        unfold LB at this
        rw [e, this] at e2
        exact absurd (Obj.cells.inj (Option.some.inj e2)).2.1 (by decide)
      · obtain ⟨c, zz, e2⟩ := row_obj (hz'.vec f hf) hq
        obtain ⟨c', z', e3⟩ := row_obj hy.own e
        rw [e2] at e3
        exact absurd (Obj.cells.inj (Option.some.inj e3)).2.1 (by decide)
  have hvec : ∀ f ∈ x.l, OwnP w' W.heap.size f.vv f.ps := fun f hf => by
    have hM := hy.off hmo (fun _ _ e => by cases e) (fun _ _ e => by cases e) (fun _ _ e => by cases e)
    refine ownsRow_chg (hy.vec f hf) hc fun q hq => ?_
    obtain ⟨c, zz, e2⟩ := row_obj (hy.vec f hf) hq
    rintro (e | e | e | e)
    · rw [e, h.obj] at e2
      exact absurd (Obj.cells.inj (Option.some.inj e2)).2.1 (by decide)
    · exact hM.2.2 f hf q hq e
    · have := hy.lb
      unfold LB at this
      rw [e, this] at e2
      exact absurd (Obj.cells.inj (Option.some.inj e2)).2.1 (by decide)
    · obtain ⟨c', z', e3⟩ := row_obj hy.own e
      rw [e2] at e3
      exact absurd (Obj.cells.inj (Option.some.inj e3)).2.1 (by decide)
  have hk : ∀ z, F' k = some z → z = ⟨x.b, v', x.l.filter fun f => !U f.pl⟩ ∧ z.l ≠ [] := fun z hz => by
    rw [hF' k, if_pos rfl] at hz
    split at hz
    · cases hz
    · rename_i hne; cases hz; exact ⟨rfl, hne⟩
  have hj' : ∀ j, j ≠ k → F' j = F j := fun j hj => by rw [hF' j, if_neg hj]
  have hle : (cutK U k S).length ≤ S.length := List.length_filter_le _ _
  refine ⟨⟨ho, hm, h.bel.trans (hc.below h.bel.size fun q e => ?_), h.new, h.ne, fun j z hz => ?_, fun j j' z z' hz hz' hne => ?_, fun j => ?_, fun f hf => h.ok f (List.mem_filter.1 hf).1, by have := h.cp; omega, h.c1⟩, fun j z hz => ?_⟩
  · rcases e with e | e | e | e
    · rw [e]; exact h.new.1
    · rw [e]; exact h.new.2
    · rw [e]; exact hy.new
    · exact (hy.own.lt q e).1
  · by_cases hj : j = k
    · subst hj
      obtain ⟨rfl, _⟩ := hk z hz
      exact ⟨hl, hy.new, how, fun f hf => hvec f (List.mem_filter.1 hf).1⟩
    · rw [hj' j hj] at hz; exact hfl j z hj hz
  · by_cases hj : j = k
    · have hj2 : j' ≠ k := fun e => hne (hj.trans e.symm)
      subst hj
      obtain ⟨rfl, _⟩ := hk z hz
      rw [hj' j' hj2] at hz'
      have h2 := h.one j j' x z' hF hz' hne
      exact ⟨h2.1, fun q hq => h2.2 q (hv' q hq)⟩
    · rw [hj' j hj] at hz
      by_cases hj2 : j' = k
      · subst hj2
        obtain ⟨rfl, _⟩ := hk z' hz'
        have h2 := h.one j j' z x hz hF hne
        exact ⟨h2.1, fun q hq e => h2.2 q hq (hv' q e)⟩
      · rw [hj' j' hj2] at hz'; exact h.one j j' z z' hz hz' hne
  · by_cases hj : j = k
    · subst hj
      have h1 := h.pl j
      rw [hF] at h1
      rw [cutK_at, h1, hF' j, if_pos rfl]
      have e : (x.l.map Fl.pl).filter (fun f => !U f) = (x.l.filter fun f => !U f.pl).map Fl.pl := by rw [List.filter_map]; rfl
      simp only
      rw [e]
      split
      · rename_i h0; split at h0
        · rename_i hn; rw [hn]; rfl
        · cases h0
      · rename_i z h0; split at h0
        · cases h0
        · cases h0; rfl
    · rw [cutK_off U S hj, hj' j hj]; exact h.pl j
  · by_cases hj : j = k
    · subst hj; exact (hk z hz).2
    · rw [hj' j hj] at hz; exact h.nem j z hz
end
end Go.Proofs.Ytennhfkhdfalfaa
