/- Regions that draw their order and whose last operation, which stands behind all others, may write whatever it likes: the class of worlds matters only until then. -/
import Derived.Test.YtennhfkhdfalfaaChg
namespace Go.Proofs.Ytennhfkhdfalfaa.Mix
open Go.RowKit
variable {P : Program} {md : Region.Mode} {ops : Array Oper} {C : World → Prop} {last : Nat}
/-- As mAny; the class is asked for only while the last operation is to come. -/
def mAnyL (P : Program) (md : Region.Mode) (ops : Array Oper) (C : World → Prop) (last : Nat) (Q : Act → World → Prop) : Nat → Array Bool → Act → World → Prop
  | 0, listed, a, w => (listed.getD last true = false → C w) ∧ Region.ready md ops listed = [] ∧ ∀ w', Grow w w' → Q a w'
  | fuel + 1, listed, a, w => (listed.getD last true = false → C w) ∧ (Region.ready md ops listed = [] → ∀ w', Grow w w' → Q a w') ∧
      ∀ i ∈ Region.ready md ops listed, ∀ w', Grow w w' → (listed.getD last true = false → C w') → mOp P ops i (mAnyL P md ops C last Q fuel (listed.setIfInBounds i true)) a w'
theorem mAnyL_C {Q : Act → World → Prop} {fuel : Nat} {listed : Array Bool} {a : Act} {w : World} (h : mAnyL P md ops C last Q fuel listed a w) : listed.getD last true = false → C w := by
  cases fuel <;> exact h.1
theorem mAnyL_grow {Q : Act → World → Prop} (hC : Closed C) {fuel : Nat} {listed : Array Bool} {a : Act} {w w' : World} (h : mAnyL P md ops C last Q fuel listed a w) (hg : Grow w w') : mAnyL P md ops C last Q fuel listed a w' := by
  cases fuel with
  | zero => exact ⟨fun e => hC _ _ (h.1 e) hg, h.2.1, fun w'' h' => h.2.2 _ (hg.trans h')⟩
  | succ fuel => exact ⟨fun e => hC _ _ (h.1 e) hg, fun h0 w'' h' => h.2.1 h0 _ (hg.trans h'), fun i hi w'' h' hc => h.2.2 i hi _ (hg.trans h') hc⟩
theorem mAnyL_any {Q : Act → World → Prop} {Q' : Exit → Act → World → Prop} (hQ : ∀ a w, Q a w → Q' .normal a w) : ∀ (fuel : Nat) (listed : Array Bool) (a : Act) (w : World),
    mAnyL P md ops C last Q fuel listed a w → wpAny P md ops Q' fuel listed a w
  | 0, _, _, w, h => ⟨h.2.1, hQ _ _ (h.2.2 w (.refl w))⟩
  | fuel + 1, _, _, w, h => ⟨fun h0 => hQ _ _ (h.2.1 h0 w (.refl w)), fun i hi => mOp_wpOp (mOp_mono (fun a' w' h' => mAnyL_any hQ fuel _ a' w' h') (h.2.2 i hi w (.refl w) h.1))⟩
theorem getD_set_other {l : Array Bool} {i j : Nat} (h : i ≠ j) (d : Bool) : (l.setIfInBounds i true).getD j d = l.getD j d := by
  simp [h]
theorem firstL {Q : Act → World → Prop} (hC : Closed C) {i : Nat} {oi ol : Oper} {v : Value} (hi : ops[i]? = some oi) (hl : ops[last]? = some ol) (hil : i ≠ last) (hdep : ∃ e ∈ ol.after, Region.binds md e = true ∧ e.on = i)
    (hsel : ∀ (j : Nat) (o : Oper) cs b, ops[j]? = some o → o.op ≠ .select cs b) :
    ∀ (fuel : Nat) (listed : Array Bool) (a : Act) (w : World),
      (∀ j oj, ops[j]? = some oj → j ≠ i → listed.getD j true = false → (∀ e ∈ oj.after, Region.binds md e = true → e.on ≠ i) → oi.apart ops oj = true) →
      i ∈ Region.ready md ops listed → listed.getD last true = false → Calm P ops C oi v a →
      mAnyL P md ops C last Q fuel (listed.setIfInBounds i true) (a.put oi.dst v) w → mAnyL P md ops C last Q (fuel + 1) listed a w := by
  intro fuel
  induction fuel with
  | zero =>
    intro listed a w _ hr hlast hy H
    have hlast' : (listed.setIfInBounds i true).getD last true = false := by rw [getD_set_other hil]; exact hlast
    refine ⟨fun _ => mAnyL_C H hlast', fun h => (by rw [h] at hr; cases hr), fun j hj w' hg hc => ?_⟩
    by_cases hji : j = i
    · subst hji; exact hy.mOp hi (hc hlast) fun w'' hg' => mAnyL_grow hC H (hg.trans hg')
    · have := ready_mono hj hji
      rw [H.2.1] at this
      cases this
  | succ fuel ih =>
    intro listed a w hfree hr hlast hy H
    have hlast' : (listed.setIfInBounds i true).getD last true = false := by rw [getD_set_other hil]; exact hlast
    refine ⟨fun _ => mAnyL_C H hlast', fun h => (by rw [h] at hr; cases hr), fun j hj w' hg hc => ?_⟩
    by_cases hji : j = i
    · subst hji; exact hy.mOp hi (hc hlast) fun w'' hg' => mAnyL_grow hC H (hg.trans hg')
    · have h1 := H.2.2 j (ready_mono hj hji) w' hg fun _ => hc hlast
      obtain ⟨hjun, oj, hoj, hall⟩ := mem_ready.1 hj
      have hnot : ∀ e ∈ oj.after, Region.binds md e = true → e.on ≠ i := fun e he hb heq => by
        have k1 := hall e he hb
        have k0 := (mem_ready.1 hr).1
        rw [heq] at k1
        rcases Nat.lt_or_ge i listed.size with h' | h'
        · simp [h'] at k0 k1; rw [k0] at k1; cases k1
        · simp [Array.getElem?_eq_none h'] at k1
      have hjl : j ≠ last := fun e => by
        subst e
        rw [hl] at hoj; cases hoj
        obtain ⟨e, he, hb, hon⟩ := hdep
        exact hnot e he hb hon
      have h2 := mOp_put hoj (hfree j oj hoj hji hjun hnot) (fun cs b => hsel i oi cs b hi) (fun cs b => hsel j oj cs b hoj) hy h1
      have hfree' : ∀ k ok, ops[k]? = some ok → k ≠ i → (listed.setIfInBounds j true).getD k true = false →
          (∀ e ∈ ok.after, Region.binds md e = true → e.on ≠ i) → oi.apart ops ok = true := fun k ok hk hki hun hno => by
        refine hfree k ok hk hki ?_ hno
        by_cases hjk : j = k
        · subst hjk; exact hjun
        · rw [getD_set_ne true hjk] at hun; exact hun
      refine mOp_mono (fun a' w'' h3 => ih (listed.setIfInBounds j true) a' w'' hfree' (ready_mono hr (Ne.symm hji)) (by rw [getD_set_other hjl]; exact hlast) h3.1 ?_) h2
      rw [Array.setIfInBounds_comm _ _ hji]
      exact h3.2
/-- Does the last operation stand behind operation i? -/
def behind (md : Region.Mode) (ops : Array Oper) (last i : Nat) : Bool := ((ops[last]?).map fun o => o.after.any fun e => Region.binds md e && e.on == i).getD false && i != last
theorem takeL {Q : Act → World → Prop} (hC : Closed C) (i : Nat) {oi : Oper} {v : Value} {fuel : Nat} {listed : Array Bool} {a : Act} {w : World} (hi : ops[i]? = some oi)
    (hs : Region.noSelect ops = true) (hf : Region.free md ops listed i = true) (hr : (Region.ready md ops listed).contains i = true) (hb : behind md ops last i = true) (hl : listed.getD last true = false) (hy : Calm P ops C oi v a)
    (h : mAnyL P md ops C last Q fuel (listed.setIfInBounds i true) (a.put oi.dst v) w) : mAnyL P md ops C last Q (fuel + 1) listed a w := by
  unfold behind at hb
  rw [Bool.and_eq_true] at hb
  obtain ⟨h1, h2⟩ := hb
  cases ho : ops[last]? with
  | none => rw [ho] at h1; cases h1
  | some ol =>
    rw [ho] at h1
    simp only [Option.map_some, Option.getD_some, Array.any_eq_true, Bool.and_eq_true, beq_iff_eq] at h1
    obtain ⟨k, hk, hk1, hk2⟩ := h1
    exact firstL hC hi ho (by simpa using h2) ⟨_, Array.getElem_mem hk, hk1, hk2⟩ (Region.noSelect_spec hs) fuel listed a w (Region.free_spec hi hf) (by simpa using hr) hl hy h
theorem allL {Q : Act → World → Prop} {rs : List Nat} {fuel : Nat} {listed : Array Bool} {a : Act} {w : World} (hr : Region.ready md ops listed = rs) (hne : rs ≠ []) (hw : C w)
    (hl : listed.getD last true = false) (h : ∀ i ∈ rs, ∀ w', Grow w w' → C w' → mOp P ops i (mAnyL P md ops C last Q fuel (listed.setIfInBounds i true)) a w') : mAnyL P md ops C last Q (fuel + 1) listed a w := by
  subst hr
  exact ⟨fun _ => hw, fun h0 => absurd h0 hne, fun i hi w' hg hc => h i hi w' hg (hc hl)⟩
theorem doneL {Q : Act → World → Prop} {listed : Array Bool} {a : Act} {w : World} (hr : Region.ready md ops listed = []) (hl : listed.getD last true = true) (h : ∀ w', Grow w w' → Q a w') : mAnyL P md ops C last Q 0 listed a w :=
  ⟨fun e => (by rw [hl] at e; cases e), hr, h⟩
theorem take_exL (W : World) (F : Nat → Prop) {Q : Act → World → Prop} (i : Nat) {oi : Oper} {fuel : Nat} {listed : Array Bool} {a : Act} {w : World} (hi : ops[i]? = some oi)
    (hs : Region.noSelect ops = true) (hf : Region.free md ops listed i = true) (hr : (Region.ready md ops listed).contains i = true) (hw : Region.wanted oi (yielded ops a.tmps) = true) (hb : behind md ops last i = true) (hl : listed.getD last true = false)
    (h : ∀ K : Act → Prop, (∀ a', mAnyL P md ops (OverC W F) last Q fuel (listed.setIfInBounds i true) a' w → K a') → ∃ v, (∀ x : ExtC W F, calmUpon P (extC W F x) v ((execOp a.eval oi).run P (extC W F x))) ∧ K (a.put oi.dst v)) :
    mAnyL P md ops (OverC W F) last Q (fuel + 1) listed a w := by
  obtain ⟨v, h1, h2⟩ := h _ (fun _ h => h)
  exact takeL (overC_closed W F) i hi hs hf hr hb hl (.inl ⟨hw, fun w hx => h1 ⟨w, hx⟩⟩) h2
theorem skip_L (W : World) (F : Nat → Prop) {Q : Act → World → Prop} (i : Nat) {oi : Oper} {fuel : Nat} {listed : Array Bool} {a : Act} {w : World} (hi : ops[i]? = some oi)
    (hs : Region.noSelect ops = true) (hf : Region.free md ops listed i = true) (hr : (Region.ready md ops listed).contains i = true) (hw : Region.wanted oi (yielded ops a.tmps) = false) (hb : behind md ops last i = true) (hl : listed.getD last true = false)
    (h : mAnyL P md ops (OverC W F) last Q fuel (listed.setIfInBounds i true) (a.put oi.dst undef) w) : mAnyL P md ops (OverC W F) last Q (fuel + 1) listed a w :=
  takeL (overC_closed W F) i hi hs hf hr hb hl (.inr ⟨hw, rfl⟩) h
theorem regionL {id : Nat} {Q : Exit → Act → World → Prop} {a : Act} {w : World} {l : List Oper} (F : Nat → Prop) (hm : P.follows .mixedOrders = true)
    (h : ∀ w', Grow w w' → mAnyL P .any l.toArray (OverC w F) (l.length - 1) (fun a w => Q .normal a w) l.length (Array.replicate l.length false) a w') : (Code.region id l.toArray true).wp P Q a w :=
  wp_region_any hm (mAnyL_any (fun _ _ h => h) _ _ _ _ (by simpa using h w.drew (bd (Below.refl _ _))))
end Go.Proofs.Ytennhfkhdfalfaa.Mix
