/- Regions that draw their order and in which some operations yield one value in each world of a class, and change nothing that was there, while others (a new variable, a store) change the world: the first kind may be taken first. Conditions: as each lemma says. -/
import Derived.Test.YtennhfkhdfalfaaMeta
import Derived.Orders
namespace Go.Proofs.Ytennhfkhdfalfaa.Mix
open Go.RowKit

abbrev Grow (w w' : World) : Prop := Below w.heap.size w w'
theorem Grow.refl (w : World) : Grow w w := Below.refl _ _
theorem Grow.trans {a b c : World} (h : Grow a b) (k : Grow b c) : Grow a c := bt h k

variable {P : Program} {md : Region.Mode} {ops : Array Oper} {C : World → Prop}

/-- A class of worlds that is closed under what extends a world. -/
def Closed (C : World → Prop) : Prop := ∀ w w', C w → Grow w w' → C w'

/-- One operation, without a panic. -/
def mUpon (P : Program) (o : Oper) (a : Act) (K : Act → World → Prop) : Result Next → Prop
  | .ok (.value v) w' => K (a.put o.dst v) w'
  | .ok .skip w' => K (a.put o.dst undef) w'
  | .ok (.enter f args) w' => Calls P f args w' fun e w'' => ∃ v, e = .returned v ∧ K (a.put o.dst v) w''
  | _ => False
theorem mUpon_mono {o : Oper} {a : Act} {K K' : Act → World → Prop} {r : Result Next} (h : ∀ a w, K a w → K' a w) (hh : mUpon P o a K r) : mUpon P o a K' r := by
  cases r with
  | ok n w' =>
    cases n <;> simp only [mUpon] at hh ⊢
    case value u => exact h _ _ hh
    case skip => exact h _ _ hh
    case enter f args => exact hh.mono fun _ _ ⟨v, hv, hk⟩ => ⟨v, hv, h _ _ hk⟩
  | halt x w' => simp only [mUpon] at hh
theorem mUpon_upon {o : Oper} {a : Act} {K : Act → World → Prop} {Q : Exit → Act → World → Prop} {r : Result Next} (hh : mUpon P o a K r) : o.upon P a K Q r := by
  cases r with
  | ok n w' =>
    cases n <;> simp only [mUpon] at hh
    case value u => exact hh
    case skip => exact hh
    case enter f args => exact hh.mono fun e w'' ⟨v, hv, hk⟩ => by subst hv; exact hk
  | halt x w' => simp only [mUpon] at hh

def mOp (P : Program) (ops : Array Oper) (i : Nat) (K : Act → World → Prop) (a : Act) (w : World) : Prop :=
  match ops[i]? with
  | none => K a w
  | some o => if Region.wanted o (yielded ops a.tmps) then mUpon P o a K ((execOp a.eval o).run P w) else K (a.put o.dst undef) w
theorem mOp_mono {i : Nat} {a : Act} {w : World} {K K' : Act → World → Prop} (h : ∀ a w, K a w → K' a w) (hh : mOp P ops i K a w) : mOp P ops i K' a w := by
  unfold mOp at *
  split
  · rename_i ho; simp only [ho] at hh; exact h _ _ hh
  · rename_i o ho
    simp only [ho] at hh
    split
    · rename_i hw; simp only [hw, if_true] at hh; exact mUpon_mono h hh
    · rename_i hw; simp only [hw] at hh; exact h _ _ hh
theorem mOp_wpOp {i : Nat} {a : Act} {w : World} {K : Act → World → Prop} {Q : Exit → Act → World → Prop} (hh : mOp P ops i K a w) : wpOp P ops Q i K a w := by
  unfold mOp at hh
  unfold wpOp
  split
  · rename_i ho; simp only [ho] at hh; exact hh
  · rename_i o ho
    simp only [ho] at hh
    split
    · rename_i hw; simp only [hw, if_true] at hh; exact .inl (mUpon_upon hh)
    · rename_i hw; simp only [hw] at hh; exact hh

/-- Whatever order is picked from here on, and whatever new memory is made between two operations. -/
def mAny (P : Program) (md : Region.Mode) (ops : Array Oper) (C : World → Prop) (Q : Act → World → Prop) : Nat → Array Bool → Act → World → Prop
  | 0, listed, a, w => C w ∧ Region.ready md ops listed = [] ∧ ∀ w', Grow w w' → Q a w'
  | fuel + 1, listed, a, w => C w ∧ (Region.ready md ops listed = [] → ∀ w', Grow w w' → Q a w') ∧
      ∀ i ∈ Region.ready md ops listed, ∀ w', Grow w w' → C w' → mOp P ops i (mAny P md ops C Q fuel (listed.setIfInBounds i true)) a w'

theorem mAny_C {Q : Act → World → Prop} {fuel : Nat} {listed : Array Bool} {a : Act} {w : World} (h : mAny P md ops C Q fuel listed a w) : C w := by
  cases fuel <;> exact h.1
theorem mAny_grow {Q : Act → World → Prop} (hC : Closed C) {fuel : Nat} {listed : Array Bool} {a : Act} {w w' : World} (h : mAny P md ops C Q fuel listed a w) (hg : Grow w w') : mAny P md ops C Q fuel listed a w' := by
  cases fuel with
  | zero => exact ⟨hC _ _ h.1 hg, h.2.1, fun w'' h' => h.2.2 _ (hg.trans h')⟩
  | succ fuel => exact ⟨hC _ _ h.1 hg, fun h0 w'' h' => h.2.1 h0 _ (hg.trans h'), fun i hi w'' h' hc => h.2.2 i hi _ (hg.trans h') hc⟩
theorem mAny_any {Q : Act → World → Prop} {Q' : Exit → Act → World → Prop} (hQ : ∀ a w, Q a w → Q' .normal a w) : ∀ (fuel : Nat) (listed : Array Bool) (a : Act) (w : World),
    mAny P md ops C Q fuel listed a w → wpAny P md ops Q' fuel listed a w
  | 0, _, _, w, h => ⟨h.2.1, hQ _ _ (h.2.2 w (.refl w))⟩
  | fuel + 1, _, _, w, h => ⟨fun h0 => hQ _ _ (h.2.1 h0 w (.refl w)), fun i hi => mOp_wpOp (mOp_mono (fun a' w' h' => mAny_any hQ fuel _ a' w' h') (h.2.2 i hi w (.refl w) h.1))⟩

/-- What an operation that changes nothing leaves: the value v. -/
def calmUpon (P : Program) (w : World) (v : Value) : Result Next → Prop
  | .ok (.value u) w' => w' = w ∧ u = v
  | .ok .skip w' => w' = w ∧ v = undef
  | .ok (.enter f args) w' => w' = w ∧ Calls P f args w (fun e w'' => e = .returned v ∧ Grow w w'')
  | _ => False

def Calm (P : Program) (ops : Array Oper) (C : World → Prop) (o : Oper) (v : Value) (a : Act) : Prop :=
  (Region.wanted o (yielded ops a.tmps) = true ∧ ∀ w, C w → calmUpon P w v ((execOp a.eval o).run P w)) ∨
  (Region.wanted o (yielded ops a.tmps) = false ∧ v = undef)

theorem Calm.of_same {o : Oper} {v : Value} {a a' : Act} (hy : Calm P ops C o v a) (he : execOp a'.eval o = execOp a.eval o)
    (hw : Region.wanted o (yielded ops a'.tmps) = Region.wanted o (yielded ops a.tmps)) : Calm P ops C o v a' := by
  unfold Calm at *
  rw [he, hw]
  exact hy
theorem Calm.mOp {i : Nat} {o : Oper} {v : Value} {a : Act} {w : World} {K : Act → World → Prop} (hi : ops[i]? = some o) (hy : Calm P ops C o v a) (hC : C w) (h : ∀ w', Grow w w' → K (a.put o.dst v) w') : mOp P ops i K a w := by
  unfold Mix.mOp
  simp only [hi]
  rcases hy with ⟨hw, hv⟩ | ⟨hw, rfl⟩
  · simp only [hw, if_true]
    have hv := hv w hC
    generalize (execOp a.eval o).run P w = r at *
    cases r with
    | ok n w' =>
      cases n <;> simp only [calmUpon] at hv <;> simp only [mUpon]
      case value u => obtain ⟨rfl, rfl⟩ := hv; exact h _ (.refl _)
      case skip => obtain ⟨rfl, rfl⟩ := hv; exact h _ (.refl _)
      case enter f args => obtain ⟨rfl, hc⟩ := hv; exact hc.mono fun e w'' ⟨he, hg⟩ => ⟨v, he, h _ hg⟩
    | halt x w' => simp only [calmUpon] at hv
  · simp only [hw, Bool.false_eq_true, if_false]; exact h _ (.refl _)

/-- An operation apart from 'oi': whether oi's value is in its place already makes no difference. -/
theorem mOp_put {j : Nat} {oi oj : Oper} {v : Value} (hj : ops[j]? = some oj) (hap : oi.apart ops oj = true)
    (hsi : ∀ cs b, oi.op ≠ .select cs b) (hsj : ∀ cs b, oj.op ≠ .select cs b) {K : Act → World → Prop} {a : Act} {w : World}
    (hy : Calm P ops C oi v a) (h : mOp P ops j K (a.put oi.dst v) w) :
    mOp P ops j (fun a' w' => Calm P ops C oi v a' ∧ K (a'.put oi.dst v) w') a w := by
  obtain ⟨h1, h2, h3⟩ := Oper.apart_spec hap
  have keep : ∀ u, Calm P ops C oi v (a.put oj.dst u) := fun u => hy.of_same (execOp_put oi hsi a oj.dst u h3) (wanted_put oi a oj.dst u h3)
  unfold mOp at *
  simp only [hj] at *
  rw [wanted_put oj a oi.dst v h1] at h
  split
  · rename_i hw
    simp only [hw, if_true] at h
    rw [execOp_put oj hsj a oi.dst v h1] at h
    generalize (execOp a.eval oj).run P w = r at *
    cases r with
    | ok n w' =>
      cases n <;> simp only [mUpon] at h ⊢
      case value u => exact ⟨keep u, by rw [← Act.put_comm a v u h2]; exact h⟩
      case skip => exact ⟨keep _, by rw [← Act.put_comm a v undef h2]; exact h⟩
      case enter f args => exact h.mono fun e w'' ⟨u, he, hk⟩ => ⟨u, he, keep u, by rw [← Act.put_comm a v u h2]; exact hk⟩
    | halt x w' => simp only [mUpon] at h
  · rename_i hw
    simp only [hw] at h
    exact ⟨keep _, by rw [← Act.put_comm a v undef h2]; exact h⟩

/-- A calm operation that may come up now may be taken first. -/
theorem first {Q : Act → World → Prop} (hC : Closed C) {i : Nat} {oi : Oper} {v : Value} (hi : ops[i]? = some oi) (hsel : ∀ (j : Nat) (o : Oper) cs b, ops[j]? = some o → o.op ≠ .select cs b) :
    ∀ (fuel : Nat) (listed : Array Bool) (a : Act) (w : World),
      (∀ j oj, ops[j]? = some oj → j ≠ i → listed.getD j true = false → (∀ e ∈ oj.after, Region.binds md e = true → e.on ≠ i) → oi.apart ops oj = true) →
      i ∈ Region.ready md ops listed → Calm P ops C oi v a →
      mAny P md ops C Q fuel (listed.setIfInBounds i true) (a.put oi.dst v) w → mAny P md ops C Q (fuel + 1) listed a w := by
  intro fuel
  induction fuel with
  | zero =>
    intro listed a w _ hr hy H
    refine ⟨mAny_C H, fun h => (by rw [h] at hr; cases hr), fun j hj w' hg hc => ?_⟩
    by_cases hji : j = i
    · subst hji; exact hy.mOp hi hc fun w'' hg' => mAny_grow hC H (hg.trans hg')
    · have := ready_mono hj hji
      rw [H.2.1] at this
      cases this
  | succ fuel ih =>
    intro listed a w hfree hr hy H
    refine ⟨mAny_C H, fun h => (by rw [h] at hr; cases hr), fun j hj w' hg hc => ?_⟩
    by_cases hji : j = i
    · subst hji; exact hy.mOp hi hc fun w'' hg' => mAny_grow hC H (hg.trans hg')
    · have h1 := H.2.2 j (ready_mono hj hji) w' hg hc
      obtain ⟨hjun, oj, hoj, hall⟩ := mem_ready.1 hj
      have hnot : ∀ e ∈ oj.after, Region.binds md e = true → e.on ≠ i := fun e he hb heq => by
        have k1 := hall e he hb
        have k0 := (mem_ready.1 hr).1
        rw [heq] at k1
        rcases Nat.lt_or_ge i listed.size with h' | h'
        · simp [h'] at k0 k1; rw [k0] at k1; cases k1
        · simp [Array.getElem?_eq_none h'] at k1
      have h2 := mOp_put hoj (hfree j oj hoj hji hjun hnot) (fun cs b => hsel i oi cs b hi) (fun cs b => hsel j oj cs b hoj) hy h1
      have hfree' : ∀ k ok, ops[k]? = some ok → k ≠ i → (listed.setIfInBounds j true).getD k true = false →
          (∀ e ∈ ok.after, Region.binds md e = true → e.on ≠ i) → oi.apart ops ok = true := fun k ok hk hki hun hno => by
        refine hfree k ok hk hki ?_ hno
        by_cases hjk : j = k
        · subst hjk; exact hjun
        · rw [getD_set_ne true hjk] at hun; exact hun
      refine mOp_mono (fun a' w'' h3 => ih (listed.setIfInBounds j true) a' w'' hfree' (ready_mono hr (Ne.symm hji)) h3.1 ?_) h2
      rw [Array.setIfInBounds_comm _ _ hji]
      exact h3.2

theorem take {Q : Act → World → Prop} (hC : Closed C) (i : Nat) {oi : Oper} {v : Value} {fuel : Nat} {listed : Array Bool} {a : Act} {w : World} (hi : ops[i]? = some oi)
    (hs : Region.noSelect ops = true) (hf : Region.free md ops listed i = true) (hr : (Region.ready md ops listed).contains i = true) (hy : Calm P ops C oi v a)
    (h : mAny P md ops C Q fuel (listed.setIfInBounds i true) (a.put oi.dst v) w) : mAny P md ops C Q (fuel + 1) listed a w :=
  first hC hi (Region.noSelect_spec hs) fuel listed a w (Region.free_spec hi hf) (by simpa using hr) hy h

/-- The operations that may come up now, one by one. -/
theorem all {Q : Act → World → Prop} {rs : List Nat} {fuel : Nat} {listed : Array Bool} {a : Act} {w : World} (hr : Region.ready md ops listed = rs) (hne : rs ≠ []) (hw : C w)
    (h : ∀ i ∈ rs, ∀ w', Grow w w' → C w' → mOp P ops i (mAny P md ops C Q fuel (listed.setIfInBounds i true)) a w') : mAny P md ops C Q (fuel + 1) listed a w := by
  subst hr
  exact ⟨hw, fun h0 => absurd h0 hne, h⟩
theorem done {Q : Act → World → Prop} {listed : Array Bool} {a : Act} {w : World} (hr : Region.ready md ops listed = []) (hw : C w) (h : ∀ w', Grow w w' → Q a w') : mAny P md ops C Q 0 listed a w := ⟨hw, hr, h⟩
theorem op {i : Nat} {o : Oper} {K : Act → World → Prop} {a : Act} {w : World} (hi : ops[i]? = some o) (hwt : Region.wanted o (yielded ops a.tmps) = true) (h : mUpon P o a K ((execOp a.eval o).run P w)) : mOp P ops i K a w := by
  unfold mOp; simp only [hi, hwt, if_true]; exact h

theorem region {id : Nat} {Q : Exit → Act → World → Prop} {a : Act} {w : World} (C : World → Prop) (hm : P.follows .mixedOrders = true)
    (h : mAny P .any ops C (fun a w => Q .normal a w) ops.size (Array.replicate ops.size false) a w.drew) : (Code.region id ops true).wp P Q a w :=
  wp_region_any hm (mAny_any (fun _ _ h => h) _ _ _ _ h)

abbrev Over (W : World) : World → Prop := fun w' => ∃ x, w' = ext W x
theorem over_closed (W : World) : Closed (Over W) := fun w w' ⟨x, hx⟩ hg => by subst hx; exact ext_of (bt (ext_below W x) hg)
theorem over_of {W w : World} (h : Below W.heap.size W w) : Over W w := ext_of h

theorem take_ex (W : World) {Q : Act → World → Prop} (i : Nat) {oi : Oper} {fuel : Nat} {listed : Array Bool} {a : Act} {w : World} (hi : ops[i]? = some oi)
    (hs : Region.noSelect ops = true) (hf : Region.free md ops listed i = true) (hr : (Region.ready md ops listed).contains i = true) (hw : Region.wanted oi (yielded ops a.tmps) = true)
    (h : ∀ K : Act → Prop, (∀ a', mAny P md ops (Over W) Q fuel (listed.setIfInBounds i true) a' w → K a') → ∃ v, (∀ x : Ext W, calmUpon P (ext W x) v ((execOp a.eval oi).run P (ext W x))) ∧ K (a.put oi.dst v)) :
    mAny P md ops (Over W) Q (fuel + 1) listed a w := by
  obtain ⟨v, h1, h2⟩ := h _ (fun _ h => h)
  exact take (over_closed W) i hi hs hf hr (.inl ⟨hw, fun w ⟨x, hx⟩ => by subst hx; exact h1 x⟩) h2
theorem take_skip (W : World) {Q : Act → World → Prop} (i : Nat) {oi : Oper} {fuel : Nat} {listed : Array Bool} {a : Act} {w : World} (hi : ops[i]? = some oi)
    (hs : Region.noSelect ops = true) (hf : Region.free md ops listed i = true) (hr : (Region.ready md ops listed).contains i = true) (hw : Region.wanted oi (yielded ops a.tmps) = false)
    (h : mAny P md ops (Over W) Q fuel (listed.setIfInBounds i true) (a.put oi.dst undef) w) :
    mAny P md ops (Over W) Q (fuel + 1) listed a w :=
  take (over_closed W) i hi hs hf hr (.inr ⟨hw, rfl⟩) h

theorem region0 {id : Nat} {Q : Exit → Act → World → Prop} {a : Act} {w : World} {l : List Oper} (hm : P.follows .mixedOrders = true)
    (h : ∀ w', Grow w w' → mAny P .any l.toArray (Over w) (fun a w => Q .normal a w) l.length (Array.replicate l.length false) a w') : (Code.region id l.toArray true).wp P Q a w :=
  region (Over w) hm (by simpa using h w.drew (bd (Below.refl _ _)))
end Go.Proofs.Ytennhfkhdfalfaa.Mix
