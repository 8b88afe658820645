/- Texts laid together: Meta,Mix,MapK,Chg,RS,MapF,MixL,Tp0. -/
import Derived.Test.YtgfjmafdfbghnaaGreatProg
import Derived.Below
import Derived.BigQuiet
import Derived.Deep.Quiet
import Derived.Deep.QuietTactic
import Derived.DeepKeys4
import Derived.Laws.MakeOwn
import Derived.Laws.OwnMore
import Derived.Lib.Hide
import Derived.Maps.Keyed
import Derived.Maps.Own
import Derived.Maps.OwnOps
import Derived.Maps.OwnSet
import Derived.Maps.RangeRun
import Derived.Orders
import Derived.OwnWalk
import Derived.WalkKit
import Derived.WalkSpells
namespace Go.Proofs.YtgfjmafdfbghnaaGreat
section
open Go.RowKit

theorem bcell {W w1 : World} (hb : Below W.heap.size W w1) : (∀ b o, b < W.heap.size → w1.cell? ⟨b, o, none⟩ = W.cell? ⟨b, o, none⟩) ∧ (∀ b o, b < W.heap.size → w1.frozen? ⟨b, o, none⟩ = W.frozen? ⟨b, o, none⟩) ∧ (∀ n, n < W.heap.size → n < w1.heap.size) :=
  ⟨fun b o h => hb.cell (p := ⟨b, o, none⟩) h, fun b o h => hb.frozen (p := ⟨b, o, none⟩) h, fun _ h => Nat.lt_of_lt_of_le h hb.size⟩
theorem ba {w1 w : World} (h : Below w1.heap.size w1 w) (o : Obj) : Below w1.heap.size w1 (w.alloc o) := h.alloc h.size o
theorem bd {w1 w : World} {B : Nat} (h : Below B w1 w) : Below B w1 w.drew := ⟨h.os, h.tape, h.output, h.size, h.block⟩
theorem bs {w1 w : World} {B : Nat} (h : Below B w1 w) {p : Addr} (hp : B ≤ p.block) (v : Value) : Below B w1 (w.setCell p v) := h.setCell hp v
theorem bt {w1 w2 w : World} (h : Below w1.heap.size w1 w2) (k : Below w2.heap.size w2 w) : Below w1.heap.size w1 w := h.trans (k.mono h.size)

theorem bdn {w1 w : World} {B : Nat} (h : Below B w1 w) (n : Nat) : Below B w1 (w.drewN n) := ⟨h.os, h.tape, h.output, h.size, h.block⟩
theorem bel {W w1 W1 w2 : World} (h : Below W.heap.size W w1) (k : Below W1.heap.size W1 w2) (m : Below w1.heap.size w1 W1) : Below W.heap.size W w2 := bt (bt h m) k

/-- A function that answers v, whatever the world, and changes nothing that was there. -/
abbrev Pure (P : Program) (f : Nat) (args : Array Value) (v : Value) : Prop :=
  ∀ w : World, Calls P f args w fun e w' => e = .returned v ∧ Below w.heap.size w w'

/-- What extends a world. -/
def Ext (W : World) : Type := { w : World // Below W.heap.size W w }
instance Ext.some (W : World) : Nonempty (Ext W) := ⟨⟨W, Below.refl _ _⟩⟩
def ext (W : World) (x : Ext W) : World := x.val
theorem ext_below (W : World) (x : Ext W) : Below W.heap.size W (ext W x) := x.property
theorem ext_size (W : World) (x : Ext W) : W.heap.size ≤ (ext W x).heap.size := (ext_below W x).size
theorem ext_cell (W : World) (x : Ext W) (b o : Nat) (h : b < W.heap.size) : (ext W x).cell? ⟨b, o, none⟩ = W.cell? ⟨b, o, none⟩ := (ext_below W x).cell (p := ⟨b, o, none⟩) h
theorem ext_frozen (W : World) (x : Ext W) (b o : Nat) (h : b < W.heap.size) : (ext W x).frozen? ⟨b, o, none⟩ = W.frozen? ⟨b, o, none⟩ := (ext_below W x).frozen (p := ⟨b, o, none⟩) h
theorem ext_of {W w : World} (h : Below W.heap.size W w) : ∃ x, w = ext W x := ⟨⟨w, h⟩, rfl⟩

theorem Pure.quiet {P : Program} {f : Nat} {args : Array Value} {v : Value} (h : Pure P f args v) {W : World} {x : Ext W} :
    Calls P f args (ext W x) fun e w'' => e = .returned v ∧ ∃ y, w'' = ext W y :=
  (h _).mono fun _ _ ⟨he, hb⟩ => ⟨he, ext_of (bt (ext_below W x) hb)⟩

theorem wp_region_pure {P : Program} {id : Nat} {Q : Exit → Act → World → Prop} {a : Act} {w : World} {l : List Oper} (hm : P.follows .mixedOrders = true) (hB : Region.lexB .any l.toArray = true)
    (h : wpQuiet P l.toArray (fun w' => ∃ x, w' = ext w x) (fun a' => ∀ w', (∃ x, w' = ext w x) → Q .normal a' w') l a) : (Code.region id l.toArray true).wp P Q a w :=
  wp_region_quiet (C := fun w' => ∃ x, w' = ext w x) hm hB (ext_of (bd (Below.refl _ _))) (by simpa using h)
end
end Go.Proofs.YtgfjmafdfbghnaaGreat
namespace Go.Proofs.YtgfjmafdfbghnaaGreat.Mix
open Go.RowKit

abbrev Grow (w w' : World) : Prop := Below w.heap.size w w'
theorem Grow.refl (w : World) : Grow w w := Below.refl _ _
theorem Grow.trans {a b c : World} (h : Grow a b) (k : Grow b c) : Grow a c := bt h k

variable {P : Program} {md : Region.Mode} {ops : Array Oper} {C : World → Prop}

/-- A class of worlds that is closed under what extends a world. -/
def Closed (C : World → Prop) : Prop := ∀ w w', C w → Grow w w' → C w'

/-- One operation, without a panic. -/
def mUpon (P : Program) (o : Oper) (a : Act) (K : Act → World → Prop) : Result Next → Prop
  | .ok (.value v) w' => K (a.put o.dst v) w'
  | .ok .skip w' => K (a.put o.dst undef) w'
  | .ok (.enter f args) w' => Calls P f args w' fun e w'' => ∃ v, e = .returned v ∧ K (a.put o.dst v) w''
  | _ => False
theorem mUpon_mono {o : Oper} {a : Act} {K K' : Act → World → Prop} {r : Result Next} (h : ∀ a w, K a w → K' a w) (hh : mUpon P o a K r) : mUpon P o a K' r := by
  cases r with
  | ok n w' =>
    cases n <;> simp only [mUpon] at hh ⊢
    case value u => exact h _ _ hh
    case skip => exact h _ _ hh
    case enter f args => exact hh.mono fun _ _ ⟨v, hv, hk⟩ => ⟨v, hv, h _ _ hk⟩
  | halt x w' => simp only [mUpon] at hh
theorem mUpon_upon {o : Oper} {a : Act} {K : Act → World → Prop} {Q : Exit → Act → World → Prop} {r : Result Next} (hh : mUpon P o a K r) : o.upon P a K Q r := by
  cases r with
  | ok n w' =>
    cases n <;> simp only [mUpon] at hh
    case value u => exact hh
    case skip => exact hh
    case enter f args => exact hh.mono fun e w'' ⟨v, hv, hk⟩ => by subst hv; exact hk
  | halt x w' => simp only [mUpon] at hh

def mOp (P : Program) (ops : Array Oper) (i : Nat) (K : Act → World → Prop) (a : Act) (w : World) : Prop :=
  match ops[i]? with
  | none => K a w
  | some o => if Region.wanted o (yielded ops a.tmps) then mUpon P o a K ((execOp a.eval o).run P w) else K (a.put o.dst undef) w
theorem mOp_mono {i : Nat} {a : Act} {w : World} {K K' : Act → World → Prop} (h : ∀ a w, K a w → K' a w) (hh : mOp P ops i K a w) : mOp P ops i K' a w := by
  unfold mOp at *
  split
  · rename_i ho; simp only [ho] at hh; exact h _ _ hh
  · rename_i o ho
    simp only [ho] at hh
    split
    · rename_i hw; simp only [hw, if_true] at hh; exact mUpon_mono h hh
    · rename_i hw; simp only [hw] at hh; exact h _ _ hh
theorem mOp_wpOp {i : Nat} {a : Act} {w : World} {K : Act → World → Prop} {Q : Exit → Act → World → Prop} (hh : mOp P ops i K a w) : wpOp P ops Q i K a w := by
  unfold mOp at hh
  unfold wpOp
  split
  · rename_i ho; simp only [ho] at hh; exact hh
  · rename_i o ho
    simp only [ho] at hh
    split
    · rename_i hw; simp only [hw, if_true] at hh; exact .inl (mUpon_upon hh)
    · rename_i hw; simp only [hw] at hh; exact hh

/-- Whatever order is picked from here on, and whatever new memory is made between two operations. -/
def mAny (P : Program) (md : Region.Mode) (ops : Array Oper) (C : World → Prop) (Q : Act → World → Prop) : Nat → Array Bool → Act → World → Prop
  | 0, listed, a, w => C w ∧ Region.ready md ops listed = [] ∧ ∀ w', Grow w w' → Q a w'
  | fuel + 1, listed, a, w => C w ∧ (Region.ready md ops listed = [] → ∀ w', Grow w w' → Q a w') ∧
      ∀ i ∈ Region.ready md ops listed, ∀ w', Grow w w' → C w' → mOp P ops i (mAny P md ops C Q fuel (listed.setIfInBounds i true)) a w'

theorem mAny_C {Q : Act → World → Prop} {fuel : Nat} {listed : Array Bool} {a : Act} {w : World} (h : mAny P md ops C Q fuel listed a w) : C w := by
  cases fuel <;> exact h.1
theorem mAny_grow {Q : Act → World → Prop} (hC : Closed C) {fuel : Nat} {listed : Array Bool} {a : Act} {w w' : World} (h : mAny P md ops C Q fuel listed a w) (hg : Grow w w') : mAny P md ops C Q fuel listed a w' := by
  cases fuel with
  | zero => exact ⟨hC _ _ h.1 hg, h.2.1, fun w'' h' => h.2.2 _ (hg.trans h')⟩
  | succ fuel => exact ⟨hC _ _ h.1 hg, fun h0 w'' h' => h.2.1 h0 _ (hg.trans h'), fun i hi w'' h' hc => h.2.2 i hi _ (hg.trans h') hc⟩
theorem mAny_any {Q : Act → World → Prop} {Q' : Exit → Act → World → Prop} (hQ : ∀ a w, Q a w → Q' .normal a w) : ∀ (fuel : Nat) (listed : Array Bool) (a : Act) (w : World),
    mAny P md ops C Q fuel listed a w → wpAny P md ops Q' fuel listed a w
  | 0, _, _, w, h => ⟨h.2.1, hQ _ _ (h.2.2 w (.refl w))⟩
  | fuel + 1, _, _, w, h => ⟨fun h0 => hQ _ _ (h.2.1 h0 w (.refl w)), fun i hi => mOp_wpOp (mOp_mono (fun a' w' h' => mAny_any hQ fuel _ a' w' h') (h.2.2 i hi w (.refl w) h.1))⟩

/-- What an operation that changes nothing leaves: the value v. -/
def calmUpon (P : Program) (w : World) (v : Value) : Result Next → Prop
  | .ok (.value u) w' => w' = w ∧ u = v
  | .ok .skip w' => w' = w ∧ v = undef
  | .ok (.enter f args) w' => w' = w ∧ Calls P f args w (fun e w'' => e = .returned v ∧ Grow w w'')
  | _ => False

def Calm (P : Program) (ops : Array Oper) (C : World → Prop) (o : Oper) (v : Value) (a : Act) : Prop :=
  (Region.wanted o (yielded ops a.tmps) = true ∧ ∀ w, C w → calmUpon P w v ((execOp a.eval o).run P w)) ∨
  (Region.wanted o (yielded ops a.tmps) = false ∧ v = undef)

theorem Calm.of_same {o : Oper} {v : Value} {a a' : Act} (hy : Calm P ops C o v a) (he : execOp a'.eval o = execOp a.eval o)
    (hw : Region.wanted o (yielded ops a'.tmps) = Region.wanted o (yielded ops a.tmps)) : Calm P ops C o v a' := by
  unfold Calm at *
  rw [he, hw]
  exact hy
theorem Calm.mOp {i : Nat} {o : Oper} {v : Value} {a : Act} {w : World} {K : Act → World → Prop} (hi : ops[i]? = some o) (hy : Calm P ops C o v a) (hC : C w) (h : ∀ w', Grow w w' → K (a.put o.dst v) w') : mOp P ops i K a w := by
  unfold Mix.mOp
  simp only [hi]
  rcases hy with ⟨hw, hv⟩ | ⟨hw, rfl⟩
  · simp only [hw, if_true]
    have hv := hv w hC
    generalize (execOp a.eval o).run P w = r at *
    cases r with
    | ok n w' =>
      cases n <;> simp only [calmUpon] at hv <;> simp only [mUpon]
      case value u => obtain ⟨rfl, rfl⟩ := hv; exact h _ (.refl _)
      case skip => obtain ⟨rfl, rfl⟩ := hv; exact h _ (.refl _)
      case enter f args => obtain ⟨rfl, hc⟩ := hv; exact hc.mono fun e w'' ⟨he, hg⟩ => ⟨v, he, h _ hg⟩
    | halt x w' => simp only [calmUpon] at hv
  · simp only [hw, Bool.false_eq_true, if_false]; exact h _ (.refl _)

/-- An operation apart from 'oi': whether oi's value is in its place already makes no difference. -/
theorem mOp_put {j : Nat} {oi oj : Oper} {v : Value} (hj : ops[j]? = some oj) (hap : oi.apart ops oj = true)
    (hsi : ∀ cs b, oi.op ≠ .select cs b) (hsj : ∀ cs b, oj.op ≠ .select cs b) {K : Act → World → Prop} {a : Act} {w : World}
    (hy : Calm P ops C oi v a) (h : mOp P ops j K (a.put oi.dst v) w) :
    mOp P ops j (fun a' w' => Calm P ops C oi v a' ∧ K (a'.put oi.dst v) w') a w := by
  obtain ⟨h1, h2, h3⟩ := Oper.apart_spec hap
  have keep : ∀ u, Calm P ops C oi v (a.put oj.dst u) := fun u => hy.of_same (execOp_put oi hsi a oj.dst u h3) (wanted_put oi a oj.dst u h3)
  unfold mOp at *
  simp only [hj] at *
  rw [wanted_put oj a oi.dst v h1] at h
  split
  · rename_i hw
    simp only [hw, if_true] at h
    rw [execOp_put oj hsj a oi.dst v h1] at h
    generalize (execOp a.eval oj).run P w = r at *
    cases r with
    | ok n w' =>
      cases n <;> simp only [mUpon] at h ⊢
      case value u => exact ⟨keep u, by rw [← Act.put_comm a v u h2]; exact h⟩
      case skip => exact ⟨keep _, by rw [← Act.put_comm a v undef h2]; exact h⟩
      case enter f args => exact h.mono fun e w'' ⟨u, he, hk⟩ => ⟨u, he, keep u, by rw [← Act.put_comm a v u h2]; exact hk⟩
    | halt x w' => simp only [mUpon] at h
  · rename_i hw
    simp only [hw] at h
    exact ⟨keep _, by rw [← Act.put_comm a v undef h2]; exact h⟩

/-- A calm operation that may come up now may be taken first. -/
theorem first {Q : Act → World → Prop} (hC : Closed C) {i : Nat} {oi : Oper} {v : Value} (hi : ops[i]? = some oi) (hsel : ∀ (j : Nat) (o : Oper) cs b, ops[j]? = some o → o.op ≠ .select cs b) :
    ∀ (fuel : Nat) (listed : Array Bool) (a : Act) (w : World),
      (∀ j oj, ops[j]? = some oj → j ≠ i → listed.getD j true = false → (∀ e ∈ oj.after, Region.binds md e = true → e.on ≠ i) → oi.apart ops oj = true) →
      i ∈ Region.ready md ops listed → Calm P ops C oi v a →
      mAny P md ops C Q fuel (listed.setIfInBounds i true) (a.put oi.dst v) w → mAny P md ops C Q (fuel + 1) listed a w := by
  intro fuel
  induction fuel with
  | zero =>
    intro listed a w _ hr hy H
    refine ⟨mAny_C H, fun h => (by rw [h] at hr; cases hr), fun j hj w' hg hc => ?_⟩
    by_cases hji : j = i
    · subst hji; exact hy.mOp hi hc fun w'' hg' => mAny_grow hC H (hg.trans hg')
    · have := ready_mono hj hji
      rw [H.2.1] at this
      cases this
  | succ fuel ih =>
    intro listed a w hfree hr hy H
    refine ⟨mAny_C H, fun h => (by rw [h] at hr; cases hr), fun j hj w' hg hc => ?_⟩
    by_cases hji : j = i
    · subst hji; exact hy.mOp hi hc fun w'' hg' => mAny_grow hC H (hg.trans hg')
    · have h1 := H.2.2 j (ready_mono hj hji) w' hg hc
      obtain ⟨hjun, oj, hoj, hall⟩ := mem_ready.1 hj
      have hnot : ∀ e ∈ oj.after, Region.binds md e = true → e.on ≠ i := fun e he hb heq => by
        have k1 := hall e he hb
        have k0 := (mem_ready.1 hr).1
        rw [heq] at k1
        rcases Nat.lt_or_ge i listed.size with h' | h'
        · simp [h'] at k0 k1; rw [k0] at k1; cases k1
        · simp [Array.getElem?_eq_none h'] at k1
      have h2 := mOp_put hoj (hfree j oj hoj hji hjun hnot) (fun cs b => hsel i oi cs b hi) (fun cs b => hsel j oj cs b hoj) hy h1
      have hfree' : ∀ k ok, ops[k]? = some ok → k ≠ i → (listed.setIfInBounds j true).getD k true = false →
          (∀ e ∈ ok.after, Region.binds md e = true → e.on ≠ i) → oi.apart ops ok = true := fun k ok hk hki hun hno => by
        refine hfree k ok hk hki ?_ hno
        by_cases hjk : j = k
        · subst hjk; exact hjun
        · rw [getD_set_ne true hjk] at hun; exact hun
      refine mOp_mono (fun a' w'' h3 => ih (listed.setIfInBounds j true) a' w'' hfree' (ready_mono hr (Ne.symm hji)) h3.1 ?_) h2
      rw [Array.setIfInBounds_comm _ _ hji]
      exact h3.2

theorem take {Q : Act → World → Prop} (hC : Closed C) (i : Nat) {oi : Oper} {v : Value} {fuel : Nat} {listed : Array Bool} {a : Act} {w : World} (hi : ops[i]? = some oi)
    (hs : Region.noSelect ops = true) (hf : Region.free md ops listed i = true) (hr : (Region.ready md ops listed).contains i = true) (hy : Calm P ops C oi v a)
    (h : mAny P md ops C Q fuel (listed.setIfInBounds i true) (a.put oi.dst v) w) : mAny P md ops C Q (fuel + 1) listed a w :=
  first hC hi (Region.noSelect_spec hs) fuel listed a w (Region.free_spec hi hf) (by simpa using hr) hy h

/-- The operations that may come up now, one by one. -/
theorem all {Q : Act → World → Prop} {rs : List Nat} {fuel : Nat} {listed : Array Bool} {a : Act} {w : World} (hr : Region.ready md ops listed = rs) (hne : rs ≠ []) (hw : C w)
    (h : ∀ i ∈ rs, ∀ w', Grow w w' → C w' → mOp P ops i (mAny P md ops C Q fuel (listed.setIfInBounds i true)) a w') : mAny P md ops C Q (fuel + 1) listed a w := by
  subst hr
  exact ⟨hw, fun h0 => absurd h0 hne, h⟩
theorem done {Q : Act → World → Prop} {listed : Array Bool} {a : Act} {w : World} (hr : Region.ready md ops listed = []) (hw : C w) (h : ∀ w', Grow w w' → Q a w') : mAny P md ops C Q 0 listed a w := ⟨hw, hr, h⟩
theorem op {i : Nat} {o : Oper} {K : Act → World → Prop} {a : Act} {w : World} (hi : ops[i]? = some o) (hwt : Region.wanted o (yielded ops a.tmps) = true) (h : mUpon P o a K ((execOp a.eval o).run P w)) : mOp P ops i K a w := by
  unfold mOp; simp only [hi, hwt, if_true]; exact h

theorem region {id : Nat} {Q : Exit → Act → World → Prop} {a : Act} {w : World} (C : World → Prop) (hm : P.follows .mixedOrders = true)
    (h : mAny P .any ops C (fun a w => Q .normal a w) ops.size (Array.replicate ops.size false) a w.drew) : (Code.region id ops true).wp P Q a w :=
  wp_region_any hm (mAny_any (fun _ _ h => h) _ _ _ _ h)

abbrev Over (W : World) : World → Prop := fun w' => ∃ x, w' = ext W x
theorem over_closed (W : World) : Closed (Over W) := fun w w' ⟨x, hx⟩ hg => by subst hx; exact ext_of (bt (ext_below W x) hg)
theorem over_of {W w : World} (h : Below W.heap.size W w) : Over W w := ext_of h

theorem take_ex (W : World) {Q : Act → World → Prop} (i : Nat) {oi : Oper} {fuel : Nat} {listed : Array Bool} {a : Act} {w : World} (hi : ops[i]? = some oi)
    (hs : Region.noSelect ops = true) (hf : Region.free md ops listed i = true) (hr : (Region.ready md ops listed).contains i = true) (hw : Region.wanted oi (yielded ops a.tmps) = true)
    (h : ∀ K : Act → Prop, (∀ a', mAny P md ops (Over W) Q fuel (listed.setIfInBounds i true) a' w → K a') → ∃ v, (∀ x : Ext W, calmUpon P (ext W x) v ((execOp a.eval oi).run P (ext W x))) ∧ K (a.put oi.dst v)) :
    mAny P md ops (Over W) Q (fuel + 1) listed a w := by
  obtain ⟨v, h1, h2⟩ := h _ (fun _ h => h)
  exact take (over_closed W) i hi hs hf hr (.inl ⟨hw, fun w ⟨x, hx⟩ => by subst hx; exact h1 x⟩) h2
theorem take_skip (W : World) {Q : Act → World → Prop} (i : Nat) {oi : Oper} {fuel : Nat} {listed : Array Bool} {a : Act} {w : World} (hi : ops[i]? = some oi)
    (hs : Region.noSelect ops = true) (hf : Region.free md ops listed i = true) (hr : (Region.ready md ops listed).contains i = true) (hw : Region.wanted oi (yielded ops a.tmps) = false)
    (h : mAny P md ops (Over W) Q fuel (listed.setIfInBounds i true) (a.put oi.dst undef) w) :
    mAny P md ops (Over W) Q (fuel + 1) listed a w :=
  take (over_closed W) i hi hs hf hr (.inr ⟨hw, rfl⟩) h

theorem region0 {id : Nat} {Q : Exit → Act → World → Prop} {a : Act} {w : World} {l : List Oper} (hm : P.follows .mixedOrders = true)
    (h : ∀ w', Grow w w' → mAny P .any l.toArray (Over w) (fun a w => Q .normal a w) l.length (Array.replicate l.length false) a w') : (Code.region id l.toArray true).wp P Q a w :=
  region (Over w) hm (by simpa using h w.drew (bd (Below.refl _ _)))
end Go.Proofs.YtgfjmafdfbghnaaGreat.Mix
namespace Go.Proofs.YtgfjmafdfbghnaaGreat
section
open Go.RowKit Go.MapKept Go.Maps
open Go.ChangeMaps (setBlock)
/-- How keys of a type are spelled. -/
structure KEnc (P : Program) (k : TypeId) (κ : Type) where
  enc : κ → Value
  ok : κ → Prop
  lit : ∀ x, ok x → ∃ l, keyOf P k (enc x) = some l
  inj : ∀ x y, ok x → ok y → enc x = enc y → x = y
section
variable {κ : Type} [DecidableEq κ]
/-- An entry put in: in the place of the one with its key, or at the end. -/
def mput (L : List (κ × Value)) (x : κ) (v : Value) : List (κ × Value) := if (L.lookup x).isSome then L.map (fun p => if p.1 = x then (x, v) else p) else L ++ [(x, v)]
def mdel (L : List (κ × Value)) (x : κ) : List (κ × Value) := L.filter fun p => decide (p.1 ≠ x)
theorem look_none {L : List (κ × Value)} {x : κ} : L.lookup x = none ↔ ∀ p ∈ L, p.1 ≠ x := by
  induction L with
  | nil => simp
  | cons p t ih =>
    obtain ⟨a, b⟩ := p
    by_cases h : x = a
    · subst h; simp
    · rw [List.lookup_cons, show (x == a) = false by simpa using h]
      simp only [ih, List.mem_cons]
      exact ⟨fun h' p hp => by rcases hp with rfl | hp; exact fun e => h e.symm; exact h' p hp, fun h' p hp => h' p (.inr hp)⟩
theorem look_mem {L : List (κ × Value)} {x : κ} {v : Value} (h : L.lookup x = some v) : (x, v) ∈ L := by
  induction L with
  | nil => simp at h
  | cons p t ih =>
    obtain ⟨a, b⟩ := p
    by_cases he : x = a
    · subst he; simp at h; subst h; simp
    · rw [List.lookup_cons, show (x == a) = false by simpa using he] at h
      exact List.mem_cons_of_mem _ (ih h)
theorem look_of_mem {L : List (κ × Value)} {x : κ} {v : Value} (hn : (L.map (·.1)).Nodup) (h : (x, v) ∈ L) : L.lookup x = some v := by
  induction L with
  | nil => cases h
  | cons p t ih =>
    obtain ⟨a, b⟩ := p
    rw [List.map_cons, List.nodup_cons] at hn
    by_cases he : x = a
    · subst he
      rcases List.mem_cons.1 h with e | h
      · simp at e; simp [e]
      · exact absurd (List.mem_map.2 ⟨_, h, rfl⟩) hn.1
    · rw [List.lookup_cons, show (x == a) = false by simpa using he]
      rcases List.mem_cons.1 h with e | h
      · simp at e; exact absurd e.1 he
      · exact ih hn.2 h
theorem look_append (L M : List (κ × Value)) (x : κ) : (L ++ M).lookup x = ((L.lookup x).or (M.lookup x)) := by
  induction L with
  | nil => simp
  | cons p t ih =>
    obtain ⟨a, b⟩ := p
    by_cases he : x = a
    · subst he; simp
    · rw [List.cons_append, List.lookup_cons, List.lookup_cons, show (x == a) = false by simpa using he, ih]
theorem look_mput (L : List (κ × Value)) (x y : κ) (v : Value) : (mput L x v).lookup y = if y = x then some v else L.lookup y := by
  unfold mput
  cases hx : L.lookup x with
  | none =>
    simp only [Option.isSome_none, Bool.false_eq_true, if_false]
    rw [look_append]
    by_cases h : y = x
    · subst h; rw [hx, if_pos rfl]; simp
    · rw [if_neg h, List.lookup_cons, show (y == x) = false by simpa using h]; simp
  | some u =>
    simp only [Option.isSome_some, if_true]
    by_cases h : y = x
    · subst h
      rw [if_pos rfl]
      induction L with
      | nil => simp at hx
      | cons p t ih =>
        obtain ⟨a, b⟩ := p
        by_cases he : y = a
        · subst he; simp
        · rw [List.lookup_cons, show (y == a) = false by simpa using he] at hx
          rw [List.map_cons, if_neg (fun e => he e.symm), List.lookup_cons, show (y == a) = false by simpa using he]
          exact ih hx
    · rw [if_neg h]
      clear hx
      induction L with
      | nil => simp
      | cons p t ih =>
        obtain ⟨a, b⟩ := p
        by_cases he : a = x
        · subst he
          rw [List.map_cons, if_pos rfl, List.lookup_cons, List.lookup_cons, show (y == a) = false by simpa using h]
          exact ih
        · rw [List.map_cons, if_neg he, List.lookup_cons, List.lookup_cons, ih]
theorem look_mdel (L : List (κ × Value)) (x y : κ) : (mdel L x).lookup y = if y = x then none else L.lookup y := by
  by_cases h : y = x
  · subst h
    rw [if_pos rfl, look_none]
    intro p hp
    unfold mdel at hp
    simpa using (List.mem_filter.1 hp).2
  · rw [if_neg h]
    unfold mdel
    induction L with
    | nil => rfl
    | cons p t ih =>
      obtain ⟨a, b⟩ := p
      by_cases he : a = x
      · subst he
        rw [List.filter_cons, if_neg (by simp), ih, List.lookup_cons, show (y == a) = false by simpa using h]
      · rw [List.filter_cons, if_pos (by simpa using he), List.lookup_cons, List.lookup_cons, ih]
theorem mput_keys_mem {L : List (κ × Value)} {x : κ} {v : Value} {p : κ × Value} (h : p ∈ mput L x v) : p = (x, v) ∨ (p ∈ L ∧ p.1 ≠ x) := by
  unfold mput at h
  cases hx : L.lookup x with
  | none =>
    rw [hx] at h
    simp only [Option.isSome_none, Bool.false_eq_true, if_false, List.mem_append, List.mem_singleton] at h
    rcases h with h | h
    · exact .inr ⟨h, look_none.1 hx p h⟩
    · exact .inl h
  | some u =>
    rw [hx] at h
    simp only [Option.isSome_some, if_true] at h
    obtain ⟨q, hq, rfl⟩ := List.mem_map.1 h
    by_cases he : q.1 = x
    · rw [if_pos he]; exact .inl rfl
    · rw [if_neg he]; exact .inr ⟨hq, he⟩
theorem mput_length (L : List (κ × Value)) (x : κ) (v : Value) : (mput L x v).length = if (L.lookup x).isSome then L.length else L.length + 1 := by
  unfold mput; split <;> simp
theorem mput_keys (L : List (κ × Value)) (x : κ) (v : Value) : (mput L x v).map (·.1) = if (L.lookup x).isSome then L.map (·.1) else L.map (·.1) ++ [x] := by
  unfold mput
  split
  · rw [List.map_map]
    refine List.map_congr_left fun p _ => ?_
    simp only [Function.comp]
    split
    · rename_i h; exact h.symm
    · rfl
  · simp
end
section
variable {P : Program} {k : TypeId} {κ : Type} {E : KEnc P k κ} {w : World} {b : Nat} {L : List (κ × Value)}
/-- Block b is a map with these entries, in the order in which their keys came. -/
def MapK (E : KEnc P k κ) (w : World) (b : Nat) (L : List (κ × Value)) : Prop :=
  ∃ es clock, w.heap[b]? = some (.map es clock) ∧ Stamped es clock ∧ (∀ p ∈ L, E.ok p.1) ∧ es.toList.map (fun e => (e.key, e.val)) = L.map (fun p => (E.enc p.1, p.2))
theorem MapK.lt (h : MapK E w b L) : b < w.heap.size := by obtain ⟨es, c, hb, _⟩ := h; exact (Array.getElem?_eq_some_iff.1 hb).1
theorem MapK.okk (h : MapK E w b L) : ∀ p ∈ L, E.ok p.1 := by obtain ⟨es, c, _, _, h1, _⟩ := h; exact h1
theorem MapK.nodup (h : MapK E w b L) : (L.map (·.1)).Nodup := by
  obtain ⟨es, c, _, ⟨_, _, h3⟩, h1, h2⟩ := h
  have e : es.toList.map (·.key) = L.map (fun p => E.enc p.1) := by
    have := congrArg (List.map Prod.fst) h2
    simpa [List.map_map, Function.comp_def] using this
  rw [e] at h3
  have : (L.map (fun p => E.enc p.1)) = (L.map (·.1)).map E.enc := by simp [List.map_map, Function.comp_def]
  rw [this] at h3
  exact List.Pairwise.of_map E.enc (fun a b hab e => hab (by rw [e])) h3
theorem MapK.made (w : World) : MapK E (w.alloc (.map #[] 0)) w.heap.size ([] : List (κ × Value)) := ⟨#[], 0, heap_alloc_new w _, stamped_empty 0, (fun p hp => by cases hp), rfl⟩
theorem MapK.kept {w' : World} {row : Option Nat} (h : MapK E w b L) (hg : w.grownBy w' row) (hne : some b ≠ row) : MapK E w' b L := by
  have hl := h.lt
  obtain ⟨es, c, hb, r⟩ := h; exact ⟨es, c, (hg.block b hl hne).trans hb, r⟩
theorem MapK.same {w' : World} (h : MapK E w b L) (hg : w'.heap[b]? = w.heap[b]?) : MapK E w' b L := by
  obtain ⟨es, c, hb, r⟩ := h; exact ⟨es, c, hg.trans hb, r⟩
theorem MapK.below {w' : World} {n : Nat} (h : MapK E w b L) (hb : Below n w w') (hn : b < n) : MapK E w' b L := h.same (hb.block b hn)
theorem MapK.lits (h : MapK E w b L) : ∀ es clock, w.heap[b]? = some (.map es clock) → ∀ e ∈ es.toList, ∃ l, keyOf P k e.key = some l := by
  obtain ⟨es, c, hb, _, h1, h2⟩ := h
  intro es' c' hb' e he
  rw [hb] at hb'; cases hb'
  have : (e.key, e.val) ∈ L.map (fun p => (E.enc p.1, p.2)) := by rw [← h2]; exact List.mem_map.2 ⟨e, he, rfl⟩
  obtain ⟨p, hp, hpe⟩ := List.mem_map.1 this
  simp at hpe
  rw [← hpe.1]; exact E.lit _ (h1 p hp)
/-- A key found among the entries, or not. -/
theorem MapK.find [DecidableEq κ] (h : MapK E w b L) (K : Keyed P k) {x : κ} (hx : E.ok x) : ∃ es clock, w.heap[b]? = some (.map es clock) ∧ Stamped es clock ∧ es.toList.map (fun e => (e.key, e.val)) = L.map (fun p => (E.enc p.1, p.2)) ∧
    (((Instr.findKey k (E.enc x) es.toList).run P w = .ok none w ∧ L.lookup x = none ∧ ∀ e ∈ es.toList, e.key ≠ E.enc x) ∨
     ∃ j v born, (Instr.findKey k (E.enc x) es.toList).run P w = .ok (some (j, v)) w ∧ L.lookup x = some v ∧ es[j]? = some ⟨E.enc x, v, born⟩) := by
  have hl := h.lits
  have hnd := h.nodup
  obtain ⟨es, c, hb, hs, h1, h2⟩ := h
  refine ⟨es, c, hb, hs, h2, ?_⟩
  obtain ⟨lx, hlx⟩ := E.lit x hx
  rcases K.find w hlx es.toList (hl es c hb) with ⟨r1, r2⟩ | ⟨j, e0, r1, r2, r3⟩
  · refine .inl ⟨r1, look_none.2 fun p hp he => ?_, r2⟩
    have : (E.enc p.1, p.2) ∈ es.toList.map (fun e => (e.key, e.val)) := by rw [h2]; exact List.mem_map.2 ⟨p, hp, rfl⟩
    obtain ⟨e, he1, he2⟩ := List.mem_map.1 this
    simp at he2
    exact r2 e he1 (by rw [he2.1, he])
  · have hm : e0 ∈ es.toList := List.mem_of_getElem? r2
    have : (e0.key, e0.val) ∈ L.map (fun p => (E.enc p.1, p.2)) := by rw [← h2]; exact List.mem_map.2 ⟨e0, hm, rfl⟩
    obtain ⟨p, hp, hpe⟩ := List.mem_map.1 this
    simp at hpe
    have hpx : p.1 = x := E.inj _ _ (h1 p hp) hx (by rw [hpe.1, r3])
    refine .inr ⟨j, e0.val, e0.born, r1, ?_, by rw [← r3]; simpa using r2⟩
    exact look_of_mem hnd (by rw [← hpx, ← hpe.2]; exact hp)
theorem MapK.look [DecidableEq κ] (h : MapK E w b L) (K : Keyed P k) {t e : TypeId} (ht : P.underlying t = some (.map k e)) {z : Value} (hz : (zeroValue e).run P w = .ok z w) {x : κ} (hx : E.ok x) (c : Bool) :
    (Instr.lookup t (.map (some b)) (E.enc x) c).run P w = .ok (if c then .tuple #[(L.lookup x).getD z, .bool (L.lookup x).isSome] else (L.lookup x).getD z) w := by
  obtain ⟨es, clock, hb, _, _, hf⟩ := h.find K hx
  obtain ⟨lx, hlx⟩ := E.lit x hx
  rcases hf with ⟨r1, r2, _⟩ | ⟨j, v, born, r1, r2, r3⟩
  · rw [r2]; simp [Instr.lookup, run_underlying ht, MapKept.run_getObj_map hb, K.check w _ hlx, r1, hz, Result.andThen]
  · rw [r2]; simp [Instr.lookup, run_underlying ht, MapKept.run_getObj_map hb, K.check w _ hlx, r1, Result.andThen]
theorem look_nilmap {t e : TypeId} (K : Keyed P k) (ht : P.underlying t = some (.map k e)) {z : Value} (hz : (zeroValue e).run P w = .ok z w) {x : κ} (hx : E.ok x) (c : Bool) :
    (Instr.lookup t (.map none) (E.enc x) c).run P w = .ok (if c then .tuple #[z, .bool false] else z) w := by
  obtain ⟨lx, hlx⟩ := E.lit x hx
  exact Maps.look_nil c K ht hz hlx
theorem grown_setBlock (w : World) (b : Nat) (o : Obj) : w.grownBy (setBlock w b o) (some b) := by
  refine ⟨rfl, rfl, rfl, by simp [setBlock], fun k hk hne => ?_⟩
  simp only [setBlock]
  rw [Array.getElem?_setIfInBounds_ne (fun e => hne (by rw [e]))]
theorem setBlock_at {w : World} {b : Nat} {o o' : Obj} (h : w.heap[b]? = some o) : (setBlock w b o').heap[b]? = some o' := by
  simp only [setBlock]
  rw [Array.getElem?_setIfInBounds_self, if_pos (Array.getElem?_eq_some_iff.1 h).1]
theorem map_set_val {α : Type} (f : α → Value × Value) : ∀ (l : List α) (j : Nat) (x : α), (l.set j x).map f = (l.map f).set j (f x)
  | [], _, _ => by simp
  | a :: t, 0, x => by simp
  | a :: t, j + 1, x => by simp [map_set_val f t j x]
theorem set_as_map [DecidableEq κ] {x : κ} {v : Value} : ∀ {L : List (κ × Value)} {j : Nat} {u : Value}, (L.map (·.1)).Nodup → L[j]? = some (x, u) → L.set j (x, v) = L.map (fun p => if p.1 = x then (x, v) else p)
  | [], j, u, _, h => by simp at h
  | p :: t, 0, u, hn, h => by
    simp at h; subst h
    rw [List.map_cons, List.nodup_cons] at hn
    simp only [List.set_cons_zero, List.map_cons, if_true]
    congr 1
    have h2 : t.map (fun p => if p.1 = x then (x, v) else p) = t.map (fun p => p) := List.map_congr_left fun q hq => by
      rw [if_neg fun e => hn.1 (List.mem_map.2 ⟨q, hq, e⟩)]
    rw [h2]; simp
  | p :: t, j + 1, u, hn, h => by
    rw [List.map_cons, List.nodup_cons] at hn
    have h' : t[j]? = some (x, u) := by simpa using h
    rw [List.set_cons_succ, List.map_cons, set_as_map hn.2 h', if_neg fun e => hn.1 (by rw [e]; exact List.mem_map.2 ⟨_, List.mem_of_getElem? h', rfl⟩)]
theorem MapK.store [DecidableEq κ] (h : MapK E w b L) (K : Keyed P k) {t e : TypeId} (ht : P.underlying t = some (.map k e)) {x : κ} (hx : E.ok x) (v : Value) :
    ∃ o, (Instr.mapUpdate t (.map (some b)) (E.enc x) v).run P w = .ok () (setBlock w b o) ∧ MapK E (setBlock w b o) b (mput L x v) := by
  have hnd := h.nodup
  have hok := h.okk
  obtain ⟨es, clock, hb, hs, hL, hf⟩ := h.find K hx
  obtain ⟨lx, hlx⟩ := E.lit x hx
  have okp : ∀ p ∈ mput L x v, E.ok p.1 := fun p hp => by
    rcases mput_keys_mem hp with rfl | ⟨hp, _⟩
    · exact hx
    · exact hok p hp
  rcases hf with ⟨r1, r2, r3⟩ | ⟨j, u, born, r1, r2, r3⟩
  · refine ⟨_, by simp [Instr.mapUpdate, run_underlying ht, MapKept.run_getObj_map hb, K.check w false hlx, r1, MapKept.run_setObj_map _ hb, Result.andThen, setBlock]; rfl, ?_⟩
    refine ⟨_, _, setBlock_at hb, stamped_push hs r3, okp, ?_⟩
    rw [Array.toList_push, List.map_append, hL, mput, r2]
    simp
  · have hj2 : es.toList[j]? = some ⟨E.enc x, u, born⟩ := by simpa using r3
    refine ⟨_, by simp [Instr.mapUpdate, run_underlying ht, MapKept.run_getObj_map hb, K.check w false hlx, r1, r3, K.stays w hlx, MapKept.run_setObj_map _ hb, Result.andThen, setBlock]; rfl, ?_⟩
    refine ⟨_, _, setBlock_at hb, stamped_modify hs _ _ (fun _ _ => rfl) (fun e' _ he' => by rw [r3] at he'; cases he'; rfl), okp, ?_⟩
    have hjl : j < L.length := by
      have := (List.getElem?_eq_some_iff.1 hj2).1
      have e := congrArg List.length hL
      simp at e; simp at this; omega
    have hLj : L[j]? = some (x, u) := by
      have e1 : (es.toList.map (fun e => (e.key, e.val)))[j]? = some (E.enc x, u) := by rw [List.getElem?_map, hj2]; rfl
      rw [hL, List.getElem?_map, List.getElem?_eq_getElem hjl] at e1
      simp at e1
      rw [List.getElem?_eq_getElem hjl]
      have := E.inj _ _ (hok _ (List.getElem_mem hjl)) hx e1.1
      rw [← this, ← e1.2]
    rw [Array.toList_modify, ChangeMaps.modify_eq_set _ _ _ _ hj2, map_set_val, hL, mput, r2]
    simp only [Option.isSome_some, if_true]
    rw [← set_as_map hnd hLj]
    exact (map_set_val (fun p : κ × Value => (E.enc p.1, p.2)) L j (x, v)).symm
theorem MapK.drop [DecidableEq κ] (h : MapK E w b L) (K : Keyed P k) {t e : TypeId} (ht : P.underlying t = some (.map k e)) (ty : TypeId) {x : κ} (hx : E.ok x) :
    ∃ o, (Builtin.delete_ #[t, k] ty #[.map (some b), E.enc x]).run P w = .ok (.tuple #[]) (setBlock w b o) ∧ MapK E (setBlock w b o) b (mdel L x) := by
  have hnd := h.nodup
  have hok := h.okk
  obtain ⟨es, clock, hb, hs, hL, hf⟩ := h.find K hx
  obtain ⟨lx, hlx⟩ := E.lit x hx
  have okp : ∀ p ∈ mdel L x, E.ok p.1 := fun p hp => hok p (List.mem_filter.1 hp).1
  rcases hf with ⟨r1, r2, r3⟩ | ⟨j, u, born, r1, r2, r3⟩
  · refine ⟨.map es clock, by simp [Builtin.delete_, run_underlying ht, MapKept.run_getObj_map hb, K.check w _ hlx, r1, MapKept.run_setObj_map _ hb, Result.andThen, setBlock], ?_⟩
    refine ⟨_, _, setBlock_at hb, hs, okp, ?_⟩
    rw [hL, mdel, List.filter_eq_self.2 fun p hp => by simpa using look_none.1 r2 p hp]
  · have hj2 : es.toList[j]? = some ⟨E.enc x, u, born⟩ := by simpa using r3
    have hjs : j < es.size := (Array.getElem?_eq_some_iff.1 r3).1
    refine ⟨_, by simp [Builtin.delete_, run_underlying ht, MapKept.run_getObj_map hb, K.check w _ hlx, r1, MapKept.run_setObj_map _ hb, Result.andThen, setBlock]; rfl, ?_⟩
    refine ⟨_, _, setBlock_at hb, stamped_erase hs j, okp, ?_⟩
    have hsub : (es.eraseIdxIfInBounds j).toList = es.toList.eraseIdx j := by
      unfold Array.eraseIdxIfInBounds
      rw [dif_pos hjs]
      simp
    have hjl : j < L.length := by
      have e := congrArg List.length hL
      simp at e; omega
    have hLj : L[j]? = some (x, u) := by
      have e1 : (es.toList.map (fun e => (e.key, e.val)))[j]? = some (E.enc x, u) := by rw [List.getElem?_map, hj2]; rfl
      rw [hL, List.getElem?_map, List.getElem?_eq_getElem hjl] at e1
      simp at e1
      rw [List.getElem?_eq_getElem hjl]
      have := E.inj _ _ (hok _ (List.getElem_mem hjl)) hx e1.1
      rw [← this, ← e1.2]
    rw [hsub, ChangeMaps.map_eraseIdx, hL, ← ChangeMaps.map_eraseIdx]
    congr 1
    clear hL hj2 hjs hjl hsub r1 r2 r3 okp hok h
    induction L generalizing j with
    | nil => simp at hLj
    | cons p t ih =>
      rw [List.map_cons, List.nodup_cons] at hnd
      cases j with
      | zero =>
        simp at hLj; subst hLj
        rw [mdel, List.filter_cons, if_neg (by simp), List.eraseIdx_cons_zero]
        exact (List.filter_eq_self.2 fun q hq => by
          simp only [ne_eq, decide_eq_true_eq]
          exact fun e => hnd.1 (List.mem_map.2 ⟨q, hq, e⟩)).symm
      | succ j =>
        have h' : t[j]? = some (x, u) := by simpa using hLj
        rw [mdel, List.filter_cons, if_pos (by simp only [ne_eq, decide_eq_true_eq]; exact fun e => hnd.1 (by rw [e]; exact List.mem_map.2 ⟨_, List.mem_of_getElem? h', rfl⟩)), List.eraseIdx_cons_succ, ih hnd.2 j h']
        rfl
theorem MapK.len (h : MapK E w b L) {t e : TypeId} (ht : P.underlying t = some (.map k e)) (ty : TypeId) : (Builtin.len_ #[t] ty #[.map (some b)]).run P w = .ok (.int .i64 L.length) w := by
  obtain ⟨es, clock, hb, _, _, hL⟩ := h
  have e := congrArg List.length hL
  simp at e
  simp [Builtin.len_, run_underlying ht, MapKept.run_getObj_map hb, Result.andThen, goInt, e]
end
end
section
open Go.RowKit
/-- All blocks that were there but some are as they were. -/
structure Chg (F : Nat → Prop) (w w' : World) : Prop where
  os : w'.os = w.os
  tape : w'.tape = w.tape
  output : w'.output = w.output
  size : w.heap.size ≤ w'.heap.size
  block : ∀ k, k < w.heap.size → ¬ F k → w'.heap[k]? = w.heap[k]?
theorem Chg.refl (F : Nat → Prop) (w : World) : Chg F w w := ⟨rfl, rfl, rfl, Nat.le_refl _, fun _ _ _ => rfl⟩
theorem Chg.trans {F G : Nat → Prop} {a b c : World} (h : Chg F a b) (k : Chg G b c) (hg : ∀ n, G n → F n ∨ a.heap.size ≤ n) : Chg F a c :=
  ⟨k.os.trans h.os, k.tape.trans h.tape, k.output.trans h.output, Nat.le_trans h.size k.size, fun n hn hf => (k.block n (Nat.lt_of_lt_of_le hn h.size) (fun e => by rcases hg n e with e | e; exact hf e; omega)).trans (h.block n hn hf)⟩
theorem Chg.same {F : Nat → Prop} {a b c : World} (h : Chg F a b) (k : Chg F b c) : Chg F a c := h.trans k fun _ h => .inl h
theorem Chg.mono {F G : Nat → Prop} {a b : World} (h : Chg F a b) (hg : ∀ n, F n → G n) : Chg G a b := ⟨h.os, h.tape, h.output, h.size, fun n hn hf => h.block n hn fun e => hf (hg n e)⟩
theorem Chg.of_below {w w' : World} (F : Nat → Prop) (h : Below w.heap.size w w') : Chg F w w' := ⟨h.os, h.tape, h.output, h.size, fun k hk _ => h.block k hk⟩
theorem Chg.then_below {F : Nat → Prop} {a b c : World} (h : Chg F a b) (k : Below b.heap.size b c) : Chg F a c := h.same (.of_below F k)
theorem Chg.below {F : Nat → Prop} {B : Nat} {w w' : World} (h : Chg F w w') (hB : B ≤ w.heap.size) (hf : ∀ k, F k → B ≤ k) : Below B w w' :=
  ⟨h.os, h.tape, h.output, h.size, fun k hk => h.block k (by omega) fun e => by have := hf k e; omega⟩
theorem Chg.of_grown {F : Nat → Prop} {w w' : World} {row : Option Nat} (h : w.grownBy w' row) (hr : ∀ k, row = some k → F k) : Chg F w w' :=
  ⟨h.os, h.tape, h.output, h.size, fun k hk hf => h.block k hk fun e => hf (hr k e.symm)⟩
theorem Chg.alloc {F : Nat → Prop} {a w : World} (h : Chg F a w) (o : Obj) : Chg F a (w.alloc o) := h.then_below (ba (Below.refl _ _) o)
theorem Chg.drew {F : Nat → Prop} {a w : World} (h : Chg F a w) : Chg F a w.drew := h.then_below (bd (Below.refl _ _))
theorem Chg.setCell {F : Nat → Prop} {a w : World} (h : Chg F a w) {p : Addr} (hp : F p.block ∨ a.heap.size ≤ p.block) (v : Value) : Chg F a (w.setCell p v) :=
  h.trans (G := fun k => k = p.block) ⟨rfl, rfl, rfl, by simp [World.setCell], fun k _ hne => Below.heap_setCell _ _ _ _ hne⟩ fun n e => by rw [e]; exact hp
theorem Chg.cell {F : Nat → Prop} {w w' : World} (h : Chg F w w') {b : Nat} (hb : b < w.heap.size) (hf : ¬ F b) (o : Nat) : w'.cell? ⟨b, o, none⟩ = w.cell? ⟨b, o, none⟩ := World.cell?_of_block (a := ⟨b, o, none⟩) (h.block b hb hf)
theorem Chg.frozen {F : Nat → Prop} {w w' : World} (h : Chg F w w') {b : Nat} (hb : b < w.heap.size) (hf : ¬ F b) (o : Nat) : w'.frozen? ⟨b, o, none⟩ = w.frozen? ⟨b, o, none⟩ := World.frozen?_of_block (a := ⟨b, o, none⟩) (h.block b hb hf)
theorem MapK.chg {P : Program} {k : TypeId} {κ : Type} {E : KEnc P k κ} {F : Nat → Prop} {w w' : World} {b : Nat} {L : List (κ × Value)} (h : MapK E w b L) (hc : Chg F w w') (hf : ¬ F b) : MapK E w' b L := h.same (hc.block b h.lt hf)
theorem ownsRow_chg {F : Nat → Prop} {w w' : World} {base : Nat} {e : TypeId} {size : Nat} {v : Value} {n : Nat} {xs : List Value} (h : w.ownsRow base e size v n xs) (hc : Chg F w w') (hf : ∀ b, v.ownBlock = some b → ¬ F b) : w'.ownsRow base e size v n xs := by
  refine ⟨h.1, ?_⟩
  rcases h.2 with hn | ⟨g, cap, cur, rfl, hb, hgg, rest⟩
  · exact .inl hn
  · exact .inr ⟨g, cap, cur, rfl, hb, by rw [hc.block g (Array.getElem?_eq_some_iff.1 hgg).1 (hf g rfl)]; exact hgg, rest⟩
theorem heap_setCell_at {w : World} {b o : Nat} {c : Array Value} {e : TypeId} {fz : Nat × Nat} (v : Value) (h : w.heap[b]? = some (.cells c e fz)) : (w.setCell ⟨b, o, none⟩ v).heap[b]? = some (.cells (c.setIfInBounds o v) e fz) := by
  simp [World.setCell, Array.getElem?_modify, h]
section
variable {P : Program} (w : World)
/-- 'append' to a row of the call's own: its block is the old one, or a new one. -/
theorem run_app (base : Nat) (t ty e : TypeId) (i : TypeInfo) (z : Value) (size bytes : Nat) (ht : P.underlying t = some (.slice e)) (hi : P.info? e = some i) (hz : i.zero = some z)
    (hsize : i.size = size) (hby : i.bytes = bytes) (hzs : z.cells.size = size) (hsz : 0 < size)
    (v : Value) (n : Nat) (xs : List Value) (hown : w.ownsRow base e size v n xs)
    (a : Addr) (m c : Nat) (news : List Value) (hl : news.length = m * size) (hnews : ∀ j u, news[j]? = some u → w.cell? (a.add j) = some u) (h1 : ∀ u ∈ news, u.oneCell' = true)
    (h63 : n + m ≤ maxLen) (hbytes : (n + m) * bytes ≤ 140737488355328) (hbase : base ≤ w.heap.size) :
    ∃ v' w', (Builtin.append_ #[t, t] ty #[v, .slice (some a) m c]).run P w = .ok v' w' ∧ w'.ownsRow base e size v' (n + m) (xs ++ news) ∧ w.grownBy w' v.ownBlock ∧ (v'.ownBlock = v.ownBlock ∨ v'.ownBlock = some w.heap.size) := by
  obtain ⟨v', w', hr, r1, r2, r3⟩ := run_append_own (P := P) w base t ty e i z size bytes ht hi hz hsize hby hzs hsz v n xs hown a m c news hl hnews h1 h63 hbytes hbase
  refine ⟨v', w', hr, r1, r2, ?_⟩
  subst hsize; subst hby
  have hsmall : n + m ≤ 9223372036854775807 := by simp only [maxLen] at h63; omega
  rcases hown.2 with ⟨rfl, rfl⟩ | ⟨g, cap, cur, rfl, hbg, hg, hnc, hcm, hcs, htake⟩
  · by_cases hm : m = 0
    · left; rw [r3.2 ⟨rfl, hm⟩]
    · have hr2 := run_append_nil (P := P) w t ty e i z ht hi hz a m c news hl hnews (by omega) (by omega) (by have hb := hbytes; simp only [Nat.zero_add] at hb; omega)
      rw [hr2] at hr
      injection hr with e1 e2
      right; rw [← e1]; rfl
  · by_cases hroom : n + m ≤ cap
    · have hfit : n * i.size + news.length ≤ cur.size := by rw [hl, hcs, ← Nat.add_mul]; exact Nat.mul_le_mul_right _ hroom
      have hr2 := run_append_room (P := P) w t ty e i ht hi g n cap cur hg a m c news hl hnews h1 hroom hfit
      rw [hr2] at hr
      injection hr with e1 e2
      left; rw [← e1]; rfl
    · have holds : ∀ j u, xs[j]? = some u → w.cell? ((⟨g, 0, none⟩ : Addr).add j) = some u := hown.cells (g := g) rfl
      have hr2 := run_append_grow (P := P) w t ty e i z ht hi hz ⟨g, 0, none⟩ n cap xs hown.1 holds a m c news hl hnews (by omega) (by omega) (growslice_fits (by omega) hbytes)
      rw [hr2] at hr
      injection hr with e1 e2
      right; rw [← e1]; rfl
end
/-- 'append', by what its run is known to be. -/
theorem wpList_app_run {P : Program} {w : World} {ops : Array Oper} {rest : List Oper} {o : Oper} {a : Act} {Q : Exit → Act → World → Prop} (hgd : o.guard = none) (s x : Operand) (t : TypeId)
    (ho : o.op = .call { callee := .builtin .append, args := #[s, x], argTypes := #[t, t] }) {vs vx : Value} (hs : a.eval s = vs) (hx : a.eval x = vx) {v' : Value} {w' : World} (hr : (Builtin.append_ #[t, t] o.type #[vs, vx]).run P w = .ok v' w')
    (h : wpList P ops Q rest (a.put o.dst v') w') : wpList P ops Q (o :: rest) a w := by
  refine wpList_plain hgd fun K' hK' => ?_
  unfold Oper.wp execOp
  simp only [ho, resolve, invoke, builtin, Sem.run_bind, Sem.run_pure, Result.andThen_ok, List.map_toArray, List.map_cons, List.map_nil, hs, hx, hr]
  exact hK' _ _ h
theorem ownsRow_base {w : World} {base base' : Nat} {e : TypeId} {size : Nat} {v : Value} {n : Nat} {xs : List Value} (h : w.ownsRow base e size v n xs) (hb : base' ≤ base) : w.ownsRow base' e size v n xs := by
  refine ⟨h.1, ?_⟩
  rcases h.2 with hn | ⟨g, cap, cur, rfl, h0, r⟩
  · exact .inl hn
  · exact .inr ⟨g, cap, cur, rfl, by omega, r⟩
/-- Worlds that differ in some blocks alone. -/
def ExtC (W : World) (F : Nat → Prop) : Type := { w : World // Chg F W w }
instance ExtC.some (W : World) (F : Nat → Prop) : Nonempty (ExtC W F) := ⟨⟨W, Chg.refl _ _⟩⟩
def extC (W : World) (F : Nat → Prop) (x : ExtC W F) : World := x.val
theorem extC_chg (W : World) (F : Nat → Prop) (x : ExtC W F) : Chg F W (extC W F x) := x.property
theorem extC_cell (W : World) (F : Nat → Prop) (x : ExtC W F) (b o : Nat) (h : b < W.heap.size) (hf : ¬ F b) : (extC W F x).cell? ⟨b, o, none⟩ = W.cell? ⟨b, o, none⟩ := (extC_chg W F x).cell h hf o
theorem extC_frozen (W : World) (F : Nat → Prop) (x : ExtC W F) (b o : Nat) (h : b < W.heap.size) (hf : ¬ F b) : (extC W F x).frozen? ⟨b, o, none⟩ = W.frozen? ⟨b, o, none⟩ := (extC_chg W F x).frozen h hf o
namespace Mix
variable {P : Program} {md : Region.Mode} {ops : Array Oper}
abbrev OverC (W : World) (F : Nat → Prop) : World → Prop := fun w => Chg F W w
theorem overC_closed (W : World) (F : Nat → Prop) : Closed (OverC W F) := fun _ _ h hg => h.then_below hg
theorem regionC {id : Nat} {Q : Exit → Act → World → Prop} {a : Act} {w : World} {l : List Oper} (F : Nat → Prop) (hm : P.follows .mixedOrders = true)
    (h : ∀ w', Grow w w' → mAny P .any l.toArray (OverC w F) (fun a w => Q .normal a w) l.length (Array.replicate l.length false) a w') : (Code.region id l.toArray true).wp P Q a w :=
  region (OverC w F) hm (by simpa using h w.drew (bd (Below.refl _ _)))
theorem take_exC (W : World) (F : Nat → Prop) {Q : Act → World → Prop} (i : Nat) {oi : Oper} {fuel : Nat} {listed : Array Bool} {a : Act} {w : World} (hi : ops[i]? = some oi)
    (hs : Region.noSelect ops = true) (hf : Region.free md ops listed i = true) (hr : (Region.ready md ops listed).contains i = true) (hw : Region.wanted oi (yielded ops a.tmps) = true)
    (h : ∀ K : Act → Prop, (∀ a', mAny P md ops (OverC W F) Q fuel (listed.setIfInBounds i true) a' w → K a') → ∃ v, (∀ x : ExtC W F, calmUpon P (extC W F x) v ((execOp a.eval oi).run P (extC W F x))) ∧ K (a.put oi.dst v)) :
    mAny P md ops (OverC W F) Q (fuel + 1) listed a w := by
  obtain ⟨v, h1, h2⟩ := h _ (fun _ h => h)
  exact take (overC_closed W F) i hi hs hf hr (.inl ⟨hw, fun w hx => h1 ⟨w, hx⟩⟩) h2
theorem skip_C (W : World) (F : Nat → Prop) {Q : Act → World → Prop} (i : Nat) {oi : Oper} {fuel : Nat} {listed : Array Bool} {a : Act} {w : World} (hi : ops[i]? = some oi)
    (hs : Region.noSelect ops = true) (hf : Region.free md ops listed i = true) (hr : (Region.ready md ops listed).contains i = true) (hw : Region.wanted oi (yielded ops a.tmps) = false)
    (h : mAny P md ops (OverC W F) Q fuel (listed.setIfInBounds i true) (a.put oi.dst undef) w) : mAny P md ops (OverC W F) Q (fuel + 1) listed a w :=
  take (overC_closed W F) i hi hs hf hr (.inr ⟨hw, rfl⟩) h
end Mix
end
section
open Go.RowKit
section
variable {α : Type} {k : Nat} {enc : α → List Value} {w w' : World} {v : Value} {l : List α}
/-- v is a slice whose elements, k cells each, are those of l. -/
def RS (k : Nat) (enc : α → List Value) (w : World) (v : Value) (l : List α) : Prop :=
  ∃ a cap, v = .slice a l.length cap ∧ l.length ≤ cap ∧ cap ≤ maxLen ∧
    (l ≠ [] → ∃ b off, a = some ⟨b, off, none⟩ ∧ b < w.heap.size ∧ ∀ i (hi : i < l.length) j u, (enc l[i])[j]? = some u → w.cell? ⟨b, off + i * k + j, none⟩ = some u)
theorem RS.nil (k : Nat) (enc : α → List Value) (w : World) : RS k enc w (.slice none 0 0) [] := ⟨none, 0, rfl, by simp, by simp [maxLen], fun h => absurd rfl h⟩
theorem RS.chg {F : Nat → Prop} (h : RS k enc w v l) (hc : Chg F w w') (hf : ∀ b, v.ownBlock = some b → ¬ F b) : RS k enc w' v l := by
  obtain ⟨a, cap, rfl, h1, h2, h3⟩ := h
  refine ⟨a, cap, rfl, h1, h2, fun hn => ?_⟩
  obtain ⟨b, off, rfl, hb, hc'⟩ := h3 hn
  exact ⟨b, off, rfl, Nat.lt_of_lt_of_le hb hc.size, fun i hi j u hu => by rw [hc.cell hb (hf b rfl)]; exact hc' i hi j u hu⟩
theorem RS.below (h : RS k enc w v l) (hb : Below w.heap.size w w') : RS k enc w' v l := h.chg (.of_below (fun _ => False) hb) fun _ _ => id
theorem RS.len (h : RS k enc w v l) : l.length ≤ maxLen := by obtain ⟨a, cap, _, h1, h2, _⟩ := h; omega
/-- The slice, spelled, and the element at i. -/
theorem RS.at_ (h : RS k enc w v l) : ∃ a n cap, v = .slice a n cap ∧ n = l.length ∧ n ≤ cap ∧ cap ≤ maxLen ∧ ∀ i x, l[i]? = some x → ∃ b off, a = some ⟨b, off, none⟩ ∧ b < w.heap.size ∧
    ∀ j u, (enc x)[j]? = some u → w.cell? ⟨b, off + i * k + j, none⟩ = some u := by
  obtain ⟨a, cap, rfl, h1, h2, h3⟩ := h
  refine ⟨a, _, cap, rfl, rfl, h1, h2, fun i x hx => ?_⟩
  obtain ⟨hi, rfl⟩ := List.getElem?_eq_some_iff.1 hx
  obtain ⟨b, off, rfl, hb, hc'⟩ := h3 (by intro e; rw [e] at hi; simp at hi)
  exact ⟨b, off, rfl, hb, fun j u hu => hc' i hi j u hu⟩
theorem at_lt {α : Type} {l : List α} {i : Nat} (h : i < l.length) : ∃ x, l[i]? = some x := ⟨_, List.getElem?_eq_getElem h⟩
theorem take_at {α : Type} {l : List α} {i : Nat} {x : α} (h : l[i]? = some x) : l.take (i + 1) = l.take i ++ [x] := by rw [List.take_add_one, h]; rfl
theorem parted_at {α : Type} {l : List α} {i : Nat} {x : α} (h : l[i]? = some x) : l = l.take i ++ x :: l.drop (i + 1) := by
  obtain ⟨hi, rfl⟩ := List.getElem?_eq_some_iff.1 h
  rw [← List.drop_eq_getElem_cons hi, List.take_append_drop]
theorem mem_at {α : Type} {l : List α} {i : Nat} {x : α} (h : l[i]? = some x) : x ∈ l := List.mem_of_getElem? h
/-- A slice of the call's own. -/
def OwnL (e k : Nat) (enc : α → List Value) (w : World) (base : Nat) (v : Value) (l : List α) : Prop := w.ownsRow base e k v l.length (l.flatMap enc)
theorem flat_at (hk : ∀ x, (enc x).length = k) : ∀ (l : List α) i (hi : i < l.length) j, j < k → (l.flatMap enc)[i * k + j]? = (enc l[i])[j]?
  | [], i, hi, _, _ => absurd hi (by simp)
  | x :: t, 0, _, j, hj => by
    rw [List.flatMap_cons, List.getElem?_append_left (by rw [hk]; omega)]; simp
  | x :: t, i + 1, hi, j, hj => by
    rw [List.flatMap_cons, List.getElem?_append_right (by rw [hk, Nat.add_mul]; omega), hk, show (i + 1) * k + j - k = i * k + j by rw [Nat.add_mul]; omega, flat_at hk t i (by simpa using hi) j hj]
    simp
theorem OwnL.nil (e k : Nat) (enc : α → List Value) (w : World) (base : Nat) : OwnL e k enc w base (.slice none 0 0) [] := World.ownsRow_nil _ _ _ _
theorem OwnL.rs {e base : Nat} (h : OwnL e k enc w base v l) (hk : ∀ x, (enc x).length = k) : RS k enc w v l := by
  have hc := fun g hg => World.ownsRow.cells h (g := g) hg
  rcases h.2 with ⟨rfl, h0⟩ | ⟨b, cap, cur, rfl, h0, hg, h1, h2, h3, h4⟩
  · have hl : l = [] := List.eq_nil_of_length_eq_zero h0
    subst hl; exact RS.nil _ _ _
  · refine ⟨_, cap, rfl, h1, h2, fun _ => ⟨b, 0, rfl, (Array.getElem?_eq_some_iff.1 hg).1, fun i hi j u hu => ?_⟩⟩
    have hj : j < k := by
      have := (List.getElem?_eq_some_iff.1 hu).1
      rw [hk] at this; exact this
    have e1 := hc b rfl (i * k + j) u ((flat_at hk l i hi j hj).trans hu)
    rw [Addr.add_lit] at e1
    rw [show 0 + i * k + j = 0 + (i * k + j) by omega]
    exact e1
theorem OwnL.chg {e base : Nat} {F : Nat → Prop} (h : OwnL e k enc w base v l) (hc : Chg F w w') (hf : ∀ b, v.ownBlock = some b → ¬ F b) : OwnL e k enc w' base v l := ownsRow_chg h hc hf
theorem OwnL.below {e base : Nat} (h : OwnL e k enc w base v l) (hb : Below w.heap.size w w') : OwnL e k enc w' base v l := h.chg (.of_below (fun _ => False) hb) fun _ _ => id
theorem OwnL.lt {e base : Nat} (h : OwnL e k enc w base v l) : ∀ b, v.ownBlock = some b → base ≤ b ∧ b < w.heap.size := World.ownsRow.lt h
/-- 'append' of one element, which lies in a new block. -/
theorem OwnL.app {P : Program} {e base t ty : Nat} (h : OwnL e k enc w base v l) {i : TypeInfo} {z : Value} {bytes : Nat} (ht : P.underlying t = some (.slice e)) (hi : P.info? e = some i) (hz : i.zero = some z)
    (hsize : i.size = k) (hby : i.bytes = bytes) (hzs : z.cells.size = k) (hk0 : 0 < k) (hk : ∀ x, (enc x).length = k) (x : α) {b c : Nat} (hx : ∀ j u, (enc x)[j]? = some u → w.cell? ⟨b, j, none⟩ = some u) (h1 : ∀ u ∈ enc x, u.oneCell' = true)
    (hl : (l.length + 1) * bytes ≤ 140737488355328) (hl2 : l.length + 1 ≤ maxLen) (hb : base ≤ w.heap.size) :
    ∃ v' w', (Builtin.append_ #[t, t] ty #[v, .slice (some ⟨b, 0, none⟩) 1 c]).run P w = .ok v' w' ∧ OwnL e k enc w' base v' (l ++ [x]) ∧ w.grownBy w' v.ownBlock ∧ (v'.ownBlock = v.ownBlock ∨ v'.ownBlock = some w.heap.size) := by
  obtain ⟨v', w', r1, r2, r3, r4⟩ := run_app (P := P) w base t ty e i z k bytes ht hi hz hsize hby hzs hk0 v l.length (l.flatMap enc) h ⟨b, 0, none⟩ 1 c (enc x) (by rw [hk]; omega)
    (fun j u' hj => by rw [Addr.add_lit]; simpa using hx j u' hj) h1 (by omega) hl hb
  refine ⟨v', w', r1, ?_, r3, r4⟩
  unfold OwnL
  rw [List.length_append, List.flatMap_append]
  simpa using r2
/-- v[i:]. -/
theorem RS.from_ {P : Program} {T e : Nat} (h : RS k enc w v l) {i : Nat} (hi : i ≤ l.length) (ht : P.underlying T = some (.slice e)) {inf : TypeInfo} (hinf : P.info? e = some inf) (hsz : inf.size = k) :
    ∃ v', (∀ w0, (Instr.slice T v (some (.int .i64 (i : Int))) none none).run P w0 = .ok v' w0) ∧ (∀ w0, RS k enc w0 v l → RS k enc w0 v' (l.drop i)) ∧ ∀ b, v'.ownBlock = some b → v.ownBlock = some b := by
  obtain ⟨a, cap, rfl, h1, h2, _⟩ := h
  refine ⟨.slice (if cap = i then a else a.map (·.add (i * k))) (l.length - i) (cap - i), fun w0 => ?_, fun w0 h0 => ?_, fun b hb => ?_⟩
  · simp [Instr.slice, Instr.sliceBounds, Instr.sliceBound, asIntOf, run_underlying ht, sizeOf, typeInfo, hinf, hsz, Result.andThen, hi]
  · obtain ⟨a', cap', e', _, _, h3⟩ := h0
    cases e'
    refine ⟨_, _, by rw [List.length_drop], by rw [List.length_drop]; omega, by omega, fun hn => ?_⟩
    have hil : i < l.length := by
      rcases Nat.lt_or_ge i l.length with h | h
      · exact h
      · exact absurd (List.drop_eq_nil_of_le h) hn
    obtain ⟨b, off, rfl, hb, hc⟩ := h3 (by intro e; rw [e] at hil; simp at hil)
    refine ⟨b, off + i * k, ?_, hb, fun j hj j2 u hu => ?_⟩
    · rw [if_neg (by omega)]
      show some (Addr.add ⟨b, off, none⟩ (i * k)) = _
      by_cases h0 : i * k = 0
      · rw [h0]; simp [Addr.add]
      · simp [Addr.add, h0]
    · rw [List.getElem_drop] at hu
      have := hc (i + j) (by rw [List.length_drop] at hj; omega) j2 u hu
      rw [Nat.add_mul] at this
      rw [show off + i * k + j * k + j2 = off + (i * k + j * k) + j2 by omega]
      exact this
  · split at hb
    · cases a with
      | none => cases hb
      | some a => exact hb
    · cases a with
      | none => cases hb
      | some a =>
        simp [Value.ownBlock] at hb ⊢
        rw [← hb]; unfold Addr.add; split <;> rfl
/-- v[:i]. -/
theorem RS.upto {P : Program} {T e : Nat} (h : RS k enc w v l) {i : Nat} (hi : i ≤ l.length) (ht : P.underlying T = some (.slice e)) {inf : TypeInfo} (hinf : P.info? e = some inf) (hsz : inf.size = k) :
    ∃ v', (∀ w0, (Instr.slice T v none (some (.int .i64 (i : Int))) none).run P w0 = .ok v' w0) ∧ (∀ w0, RS k enc w0 v l → RS k enc w0 v' (l.take i)) ∧ ∀ b, v'.ownBlock = some b → v.ownBlock = some b := by
  obtain ⟨a, cap, rfl, h1, h2, _⟩ := h
  have hi' : i ≤ cap := by omega
  refine ⟨.slice (if cap = 0 then a else a.map (·.add (0 * k))) (i - 0) (cap - 0), fun w0 => ?_, fun w0 h0 => ?_, fun b hb => ?_⟩
  · simp [Instr.slice, Instr.sliceBounds, Instr.sliceBound, asIntOf, run_underlying ht, sizeOf, typeInfo, hinf, hsz, Result.andThen, hi']
  · obtain ⟨a', cap', e', _, _, h3⟩ := h0
    cases e'
    have hl : (l.take i).length = i := by rw [List.length_take]; omega
    refine ⟨_, _, by rw [hl, Nat.sub_zero], by rw [hl]; omega, by omega, fun hn => ?_⟩
    obtain ⟨b, off, rfl, hb, hc⟩ := h3 (by intro e; rw [e] at hn; simp at hn)
    refine ⟨b, off, ?_, hb, fun j hj j2 u hu => ?_⟩
    · split
      · rfl
      · simp [Addr.add]
    · rw [List.getElem_take] at hu
      exact hc j (by rw [List.length_take] at hj; omega) j2 u hu
  · split at hb
    · cases a with
      | none => cases hb
      | some a => exact hb
    · cases a with
      | none => cases hb
      | some a =>
        simp [Value.ownBlock, Addr.add] at hb ⊢
        exact hb
end
end
section
open Go.RowKit Go.MapKept Go.Maps
open Go.ChangeMaps (setBlock)
section
variable {P : Program} {k : TypeId} {κ α : Type} [DecidableEq κ] {E : KEnc P k κ} {w w' : World} {b : Nat} {f : κ → Option α} {enc : α → Value}
/-- Block b is a map that has at each key what f says. -/
def MapF (E : KEnc P k κ) (w : World) (b : Nat) (f : κ → Option α) (enc : α → Value) : Prop := ∃ L, MapK E w b L ∧ ∀ x, L.lookup x = (f x).map enc
/-- Told otherwise at one key. -/
def upd (f : κ → Option α) (x : κ) (v : Option α) : κ → Option α := fun y => if y = x then v else f y
theorem MapF.lt (h : MapF E w b f enc) : b < w.heap.size := by obtain ⟨L, h, _⟩ := h; exact h.lt
theorem MapF.chg {G : Nat → Prop} (h : MapF E w b f enc) (hc : Chg G w w') (hf : ¬ G b) : MapF E w' b f enc := by obtain ⟨L, h, hl⟩ := h; exact ⟨L, h.chg hc hf, hl⟩
theorem MapF.made (w : World) : MapF E (w.alloc (.map #[] 0)) w.heap.size (fun _ => none) enc := ⟨[], MapK.made w, fun _ => rfl⟩
theorem MapF.look (h : MapF E w b f enc) (K : Keyed P k) {t e : TypeId} (ht : P.underlying t = some (.map k e)) {z : Value} (hz : (zeroValue e).run P w = .ok z w) {x : κ} (hx : E.ok x) (c : Bool) :
    (Instr.lookup t (.map (some b)) (E.enc x) c).run P w = .ok (if c then .tuple #[((f x).map enc).getD z, .bool (f x).isSome] else ((f x).map enc).getD z) w := by
  obtain ⟨L, h, hl⟩ := h
  have := h.look K ht hz hx c
  rw [hl, show ((f x).map enc).isSome = (f x).isSome by simp] at this
  exact this
theorem MapF.store (h : MapF E w b f enc) (K : Keyed P k) {t e : TypeId} (ht : P.underlying t = some (.map k e)) {x : κ} (hx : E.ok x) (v : α) :
    ∃ w', (Instr.mapUpdate t (.map (some b)) (E.enc x) (enc v)).run P w = .ok () w' ∧ MapF E w' b (upd f x (some v)) enc ∧ Chg (fun k => k = b) w w' := by
  obtain ⟨L, h, hl⟩ := h
  obtain ⟨o, h1, h2⟩ := h.store K ht hx (enc v)
  refine ⟨_, h1, ⟨_, h2, fun y => ?_⟩, .of_grown (grown_setBlock w b o) fun k e => by cases e; rfl⟩
  rw [look_mput]; unfold upd
  split
  · rfl
  · exact hl y
theorem MapF.drop (h : MapF E w b f enc) (K : Keyed P k) {t e : TypeId} (ht : P.underlying t = some (.map k e)) (ty : TypeId) {x : κ} (hx : E.ok x) :
    ∃ w', (Builtin.delete_ #[t, k] ty #[.map (some b), E.enc x]).run P w = .ok (.tuple #[]) w' ∧ MapF E w' b (upd f x none) enc ∧ Chg (fun k => k = b) w w' := by
  obtain ⟨L, h, hl⟩ := h
  obtain ⟨o, h1, h2⟩ := h.drop K ht ty hx
  refine ⟨_, h1, ⟨_, h2, fun y => ?_⟩, .of_grown (grown_setBlock w b o) fun k e => by cases e; rfl⟩
  rw [look_mdel]; unfold upd
  split
  · rfl
  · exact hl y
end
end
end Go.Proofs.YtgfjmafdfbghnaaGreat
namespace Go.Proofs.YtgfjmafdfbghnaaGreat.Mix
open Go.RowKit
variable {P : Program} {md : Region.Mode} {ops : Array Oper} {C : World → Prop} {last : Nat}
/-- As mAny; the class is asked for only while the last operation is to come. -/
def mAnyL (P : Program) (md : Region.Mode) (ops : Array Oper) (C : World → Prop) (last : Nat) (Q : Act → World → Prop) : Nat → Array Bool → Act → World → Prop
  | 0, listed, a, w => (listed.getD last true = false → C w) ∧ Region.ready md ops listed = [] ∧ ∀ w', Grow w w' → Q a w'
  | fuel + 1, listed, a, w => (listed.getD last true = false → C w) ∧ (Region.ready md ops listed = [] → ∀ w', Grow w w' → Q a w') ∧
      ∀ i ∈ Region.ready md ops listed, ∀ w', Grow w w' → (listed.getD last true = false → C w') → mOp P ops i (mAnyL P md ops C last Q fuel (listed.setIfInBounds i true)) a w'
theorem mAnyL_C {Q : Act → World → Prop} {fuel : Nat} {listed : Array Bool} {a : Act} {w : World} (h : mAnyL P md ops C last Q fuel listed a w) : listed.getD last true = false → C w := by
  cases fuel <;> exact h.1
theorem mAnyL_grow {Q : Act → World → Prop} (hC : Closed C) {fuel : Nat} {listed : Array Bool} {a : Act} {w w' : World} (h : mAnyL P md ops C last Q fuel listed a w) (hg : Grow w w') : mAnyL P md ops C last Q fuel listed a w' := by
  cases fuel with
  | zero => exact ⟨fun e => hC _ _ (h.1 e) hg, h.2.1, fun w'' h' => h.2.2 _ (hg.trans h')⟩
  | succ fuel => exact ⟨fun e => hC _ _ (h.1 e) hg, fun h0 w'' h' => h.2.1 h0 _ (hg.trans h'), fun i hi w'' h' hc => h.2.2 i hi _ (hg.trans h') hc⟩
theorem mAnyL_any {Q : Act → World → Prop} {Q' : Exit → Act → World → Prop} (hQ : ∀ a w, Q a w → Q' .normal a w) : ∀ (fuel : Nat) (listed : Array Bool) (a : Act) (w : World),
    mAnyL P md ops C last Q fuel listed a w → wpAny P md ops Q' fuel listed a w
  | 0, _, _, w, h => ⟨h.2.1, hQ _ _ (h.2.2 w (.refl w))⟩
  | fuel + 1, _, _, w, h => ⟨fun h0 => hQ _ _ (h.2.1 h0 w (.refl w)), fun i hi => mOp_wpOp (mOp_mono (fun a' w' h' => mAnyL_any hQ fuel _ a' w' h') (h.2.2 i hi w (.refl w) h.1))⟩
theorem getD_set_other {l : Array Bool} {i j : Nat} (h : i ≠ j) (d : Bool) : (l.setIfInBounds i true).getD j d = l.getD j d := by
  simp [h]
theorem firstL {Q : Act → World → Prop} (hC : Closed C) {i : Nat} {oi ol : Oper} {v : Value} (hi : ops[i]? = some oi) (hl : ops[last]? = some ol) (hil : i ≠ last) (hdep : ∃ e ∈ ol.after, Region.binds md e = true ∧ e.on = i)
    (hsel : ∀ (j : Nat) (o : Oper) cs b, ops[j]? = some o → o.op ≠ .select cs b) :
    ∀ (fuel : Nat) (listed : Array Bool) (a : Act) (w : World),
      (∀ j oj, ops[j]? = some oj → j ≠ i → listed.getD j true = false → (∀ e ∈ oj.after, Region.binds md e = true → e.on ≠ i) → oi.apart ops oj = true) →
      i ∈ Region.ready md ops listed → listed.getD last true = false → Calm P ops C oi v a →
      mAnyL P md ops C last Q fuel (listed.setIfInBounds i true) (a.put oi.dst v) w → mAnyL P md ops C last Q (fuel + 1) listed a w := by
  intro fuel
  induction fuel with
  | zero =>
    intro listed a w _ hr hlast hy H
    have hlast' : (listed.setIfInBounds i true).getD last true = false := by rw [getD_set_other hil]; exact hlast
    refine ⟨fun _ => mAnyL_C H hlast', fun h => (by rw [h] at hr; cases hr), fun j hj w' hg hc => ?_⟩
    by_cases hji : j = i
    · subst hji; exact hy.mOp hi (hc hlast) fun w'' hg' => mAnyL_grow hC H (hg.trans hg')
    · have := ready_mono hj hji
      rw [H.2.1] at this
      cases this
  | succ fuel ih =>
    intro listed a w hfree hr hlast hy H
    have hlast' : (listed.setIfInBounds i true).getD last true = false := by rw [getD_set_other hil]; exact hlast
    refine ⟨fun _ => mAnyL_C H hlast', fun h => (by rw [h] at hr; cases hr), fun j hj w' hg hc => ?_⟩
    by_cases hji : j = i
    · subst hji; exact hy.mOp hi (hc hlast) fun w'' hg' => mAnyL_grow hC H (hg.trans hg')
    · have h1 := H.2.2 j (ready_mono hj hji) w' hg fun _ => hc hlast
      obtain ⟨hjun, oj, hoj, hall⟩ := mem_ready.1 hj
      have hnot : ∀ e ∈ oj.after, Region.binds md e = true → e.on ≠ i := fun e he hb heq => by
        have k1 := hall e he hb
        have k0 := (mem_ready.1 hr).1
        rw [heq] at k1
        rcases Nat.lt_or_ge i listed.size with h' | h'
        · simp [h'] at k0 k1; rw [k0] at k1; cases k1
        · simp [Array.getElem?_eq_none h'] at k1
      have hjl : j ≠ last := fun e => by
        subst e
        rw [hl] at hoj; cases hoj
        obtain ⟨e, he, hb, hon⟩ := hdep
        exact hnot e he hb hon
      have h2 := mOp_put hoj (hfree j oj hoj hji hjun hnot) (fun cs b => hsel i oi cs b hi) (fun cs b => hsel j oj cs b hoj) hy h1
      have hfree' : ∀ k ok, ops[k]? = some ok → k ≠ i → (listed.setIfInBounds j true).getD k true = false →
          (∀ e ∈ ok.after, Region.binds md e = true → e.on ≠ i) → oi.apart ops ok = true := fun k ok hk hki hun hno => by
        refine hfree k ok hk hki ?_ hno
        by_cases hjk : j = k
        · subst hjk; exact hjun
        · rw [getD_set_ne true hjk] at hun; exact hun
      refine mOp_mono (fun a' w'' h3 => ih (listed.setIfInBounds j true) a' w'' hfree' (ready_mono hr (Ne.symm hji)) (by rw [getD_set_other hjl]; exact hlast) h3.1 ?_) h2
      rw [Array.setIfInBounds_comm _ _ hji]
      exact h3.2
/-- Does the last operation stand behind operation i? -/
def behind (md : Region.Mode) (ops : Array Oper) (last i : Nat) : Bool := ((ops[last]?).map fun o => o.after.any fun e => Region.binds md e && e.on == i).getD false && i != last
theorem takeL {Q : Act → World → Prop} (hC : Closed C) (i : Nat) {oi : Oper} {v : Value} {fuel : Nat} {listed : Array Bool} {a : Act} {w : World} (hi : ops[i]? = some oi)
    (hs : Region.noSelect ops = true) (hf : Region.free md ops listed i = true) (hr : (Region.ready md ops listed).contains i = true) (hb : behind md ops last i = true) (hl : listed.getD last true = false) (hy : Calm P ops C oi v a)
    (h : mAnyL P md ops C last Q fuel (listed.setIfInBounds i true) (a.put oi.dst v) w) : mAnyL P md ops C last Q (fuel + 1) listed a w := by
  unfold behind at hb
  rw [Bool.and_eq_true] at hb
  obtain ⟨h1, h2⟩ := hb
  cases ho : ops[last]? with
  | none => rw [ho] at h1; cases h1
  | some ol =>
    rw [ho] at h1
    simp only [Option.map_some, Option.getD_some, Array.any_eq_true, Bool.and_eq_true, beq_iff_eq] at h1
    obtain ⟨k, hk, hk1, hk2⟩ := h1
    exact firstL hC hi ho (by simpa using h2) ⟨_, Array.getElem_mem hk, hk1, hk2⟩ (Region.noSelect_spec hs) fuel listed a w (Region.free_spec hi hf) (by simpa using hr) hl hy h
theorem allL {Q : Act → World → Prop} {rs : List Nat} {fuel : Nat} {listed : Array Bool} {a : Act} {w : World} (hr : Region.ready md ops listed = rs) (hne : rs ≠ []) (hw : C w)
    (hl : listed.getD last true = false) (h : ∀ i ∈ rs, ∀ w', Grow w w' → C w' → mOp P ops i (mAnyL P md ops C last Q fuel (listed.setIfInBounds i true)) a w') : mAnyL P md ops C last Q (fuel + 1) listed a w := by
  subst hr
  exact ⟨fun _ => hw, fun h0 => absurd h0 hne, fun i hi w' hg hc => h i hi w' hg (hc hl)⟩
theorem doneL {Q : Act → World → Prop} {listed : Array Bool} {a : Act} {w : World} (hr : Region.ready md ops listed = []) (hl : listed.getD last true = true) (h : ∀ w', Grow w w' → Q a w') : mAnyL P md ops C last Q 0 listed a w :=
  ⟨fun e => (by rw [hl] at e; cases e), hr, h⟩
theorem take_exL (W : World) (F : Nat → Prop) {Q : Act → World → Prop} (i : Nat) {oi : Oper} {fuel : Nat} {listed : Array Bool} {a : Act} {w : World} (hi : ops[i]? = some oi)
    (hs : Region.noSelect ops = true) (hf : Region.free md ops listed i = true) (hr : (Region.ready md ops listed).contains i = true) (hw : Region.wanted oi (yielded ops a.tmps) = true) (hb : behind md ops last i = true) (hl : listed.getD last true = false)
    (h : ∀ K : Act → Prop, (∀ a', mAnyL P md ops (OverC W F) last Q fuel (listed.setIfInBounds i true) a' w → K a') → ∃ v, (∀ x : ExtC W F, calmUpon P (extC W F x) v ((execOp a.eval oi).run P (extC W F x))) ∧ K (a.put oi.dst v)) :
    mAnyL P md ops (OverC W F) last Q (fuel + 1) listed a w := by
  obtain ⟨v, h1, h2⟩ := h _ (fun _ h => h)
  exact takeL (overC_closed W F) i hi hs hf hr hb hl (.inl ⟨hw, fun w hx => h1 ⟨w, hx⟩⟩) h2
theorem skip_L (W : World) (F : Nat → Prop) {Q : Act → World → Prop} (i : Nat) {oi : Oper} {fuel : Nat} {listed : Array Bool} {a : Act} {w : World} (hi : ops[i]? = some oi)
    (hs : Region.noSelect ops = true) (hf : Region.free md ops listed i = true) (hr : (Region.ready md ops listed).contains i = true) (hw : Region.wanted oi (yielded ops a.tmps) = false) (hb : behind md ops last i = true) (hl : listed.getD last true = false)
    (h : mAnyL P md ops (OverC W F) last Q fuel (listed.setIfInBounds i true) (a.put oi.dst undef) w) : mAnyL P md ops (OverC W F) last Q (fuel + 1) listed a w :=
  takeL (overC_closed W F) i hi hs hf hr hb hl (.inr ⟨hw, rfl⟩) h
theorem regionL {id : Nat} {Q : Exit → Act → World → Prop} {a : Act} {w : World} {l : List Oper} (F : Nat → Prop) (hm : P.follows .mixedOrders = true)
    (h : ∀ w', Grow w w' → mAnyL P .any l.toArray (OverC w F) (l.length - 1) (fun a w => Q .normal a w) l.length (Array.replicate l.length false) a w') : (Code.region id l.toArray true).wp P Q a w :=
  wp_region_any hm (mAnyL_any (fun _ _ h => h) _ _ _ _ (by simpa using h w.drew (bd (Below.refl _ _))))
end Go.Proofs.YtgfjmafdfbghnaaGreat.Mix
namespace Go.Proofs.YtgfjmafdfbghnaaGreat
section
open Go.RowKit
/-- Where a client stands: its share (part, whole, weight), its number. -/
structure Pl where
  n : Int
  d : Int
  w : Int
  i : Int
  deriving DecidableEq
abbrev plv (p : Pl) : Value := .agg #[.int .i64 p.n, .int .i64 p.d, .int .i64 p.w, .int .i64 p.i]
inductive Tr where
  | lf : Tr
  | nd : Tr → Pl → Tr → Tr
def dp : Tr → Nat
  | .lf => 0
  | .nd l _ r => 1 + max (dp l) (dp r)
def sz : Tr → Nat
  | .lf => 0
  | .nd l _ r => 1 + sz l + sz r
def tl : Tr → List Pl
  | .lf => []
  | .nd l k r => tl l ++ k :: tl r
theorem tl_len : ∀ t, (tl t).length = sz t
  | .lf => rfl
  | .nd l k r => by simp only [tl, sz, List.length_append, List.length_cons, tl_len l, tl_len r]; omega
theorem dp_le : ∀ t, dp t ≤ sz t
  | .lf => Nat.le_refl _
  | .nd l k r => by have h1 := dp_le l; have h2 := dp_le r; simp only [dp, sz]; omega
theorem dp_pos {t : Tr} (h : 0 < dp t) : ∃ l k r, t = .nd l k r := by
  cases t with
  | lf => simp [dp] at h
  | nd l k r => exact ⟨l, k, r, rfl⟩
/-- An order on the numbers of J. -/
structure OA (J : Pl → Prop) (o : Pl → Pl → Int) : Prop where
  zero : ∀ a b, J a → J b → (o a b = 0 ↔ a = b)
  anti : ∀ a b, J a → J b → (o a b < 0 ↔ 0 < o b a)
  trans : ∀ a b c, J a → J b → J c → o a b < 0 → o b c < 0 → o a c < 0
  in64 : ∀ a b, J a → J b → -9223372036854775808 ≤ o a b ∧ o a b ≤ 9223372036854775807
/-- A list in order, all of J. -/
def SL (J : Pl → Prop) (o : Pl → Pl → Int) (L : List Pl) : Prop := (∀ x ∈ L, J x) ∧ L.Pairwise fun a b => o a b < 0
section
variable {J : Pl → Prop} {o : Pl → Pl → Int}
theorem SL.nil : SL J o [] := ⟨(fun _ h => by cases h), List.Pairwise.nil⟩
theorem SL.left {A B : List Pl} (h : SL J o (A ++ B)) : SL J o A := ⟨fun x hx => h.1 x (by simp [hx]), (List.pairwise_append.1 h.2).1⟩
theorem SL.right {A B : List Pl} (h : SL J o (A ++ B)) : SL J o B := ⟨fun x hx => h.1 x (by simp [hx]), (List.pairwise_append.1 h.2).2.1⟩
theorem SL.tail {x : Pl} {B : List Pl} (h : SL J o (x :: B)) : SL J o B := ⟨fun y hy => h.1 y (by simp [hy]), (List.pairwise_cons.1 h.2).2⟩
theorem SL.mid {A B : List Pl} {x : Pl} (h : SL J o (A ++ x :: B)) : J x ∧ (∀ y ∈ A, J y ∧ o y x < 0) ∧ ∀ y ∈ B, J y ∧ o x y < 0 :=
  ⟨h.1 x (by simp), fun y hy => ⟨h.1 y (by simp [hy]), (List.pairwise_append.1 h.2).2.2 y hy x (by simp)⟩, fun y hy => ⟨h.1 y (by simp [hy]), (List.pairwise_cons.1 (List.pairwise_append.1 h.2).2.1).1 y hy⟩⟩
/-- With a number, in its place. -/
def insL (o : Pl → Pl → Int) (k : Pl) : List Pl → List Pl
  | [] => [k]
  | x :: t => if o k x < 0 then k :: x :: t else if o k x = 0 then x :: t else x :: insL o k t
def delL (k : Pl) (L : List Pl) : List Pl := L.filter fun x => decide (x ≠ k)
/-- The place of a number; -1: it is not there. -/
def plL (L : List Pl) (k : Pl) : Int := if k ∈ L then (L.idxOf k : Nat) else -1
theorem insL_lt {k x : Pl} {B : List Pl} (h : o k x < 0) : ∀ A, insL o k (A ++ x :: B) = insL o k A ++ x :: B
  | [] => by simp [insL, h]
  | p :: A => by
    simp only [List.cons_append, insL, insL_lt h A]
    split
    · rfl
    · split <;> rfl
theorem insL_gt {k : Pl} {B : List Pl} : ∀ {A : List Pl}, (∀ y ∈ A, 0 < o k y) → insL o k (A ++ B) = A ++ insL o k B
  | [], _ => rfl
  | p :: A, h => by
    have h0 := h p (by simp)
    simp only [List.cons_append, insL]
    rw [if_neg (by omega), if_neg (by omega), insL_gt fun y hy => h y (by simp [hy])]
theorem mem_insL {k x : Pl} (hz : ∀ y, o k y = 0 → k = y) : ∀ {L : List Pl}, x ∈ insL o k L ↔ x = k ∨ x ∈ L
  | [] => by simp [insL]
  | p :: t => by
    simp only [insL]
    split
    · simp
    · split
      · rename_i h; have := hz p h; subst this; simp
      · simp only [List.mem_cons, mem_insL hz]; constructor <;> (rintro (h | h | h) <;> simp [h])
variable (O : OA J o) {A B : List Pl} {k x : Pl}
include O
theorem SL.gt (h : SL J o (A ++ x :: B)) (hk : J k) (hx : 0 ≤ o k x) : ∀ y ∈ A, 0 < o k y := fun y hy => by
  obtain ⟨jx, ha, _⟩ := h.mid
  obtain ⟨jy, hy'⟩ := ha y hy
  rcases Int.lt_or_le 0 (o k x) with h0 | h0
  · have h1 := (O.anti x k jx hk).2 h0
    exact (O.anti y k jy hk).1 (O.trans y x k jy jx hk hy' h1)
  · have e := (O.zero k x hk jx).1 (by omega)
    subst e
    exact (O.anti y k jy hk).1 hy'
theorem SL.lt (h : SL J o (A ++ x :: B)) (hk : J k) (hx : o k x ≤ 0) : ∀ y ∈ B, o k y < 0 := fun y hy => by
  obtain ⟨jx, _, hb⟩ := h.mid
  obtain ⟨jy, hy'⟩ := hb y hy
  rcases Int.lt_or_le (o k x) 0 with h0 | h0
  · exact O.trans k x y hk jx jy h0 hy'
  · have e := (O.zero k x hk jx).1 (by omega)
    subst e; exact hy'
theorem ne_of {a b : Pl} (ha : J a) (hb : J b) (h : o a b ≠ 0) : a ≠ b := fun e => h ((O.zero a b ha hb).2 e)
theorem SL.not_left (h : SL J o (A ++ x :: B)) (hk : J k) (hx : 0 ≤ o k x) : k ∉ A := fun hm => by
  have h1 := h.gt O hk hx k hm
  have := (O.zero k k hk hk).2 rfl
  omega
theorem SL.not_right (h : SL J o (A ++ x :: B)) (hk : J k) (hx : o k x ≤ 0) : k ∉ B := fun hm => by
  have h1 := h.lt O hk hx k hm
  have := (O.zero k k hk hk).2 rfl
  omega
theorem insL_here (h : SL J o (A ++ x :: B)) (hk : J k) (hx : o k x = 0) : insL o k (A ++ x :: B) = A ++ x :: B := by
  rw [insL_gt (h.gt O hk (by omega))]
  simp [insL, hx]
theorem insL_right (h : SL J o (A ++ x :: B)) (hk : J k) (hx : 0 < o k x) : insL o k (A ++ x :: B) = A ++ x :: insL o k B := by
  rw [insL_gt (h.gt O hk (by omega)), insL, if_neg (by omega), if_neg (by omega)]
theorem mem_lt (h : SL J o (A ++ x :: B)) (hk : J k) (hx : o k x < 0) : k ∈ A ++ x :: B ↔ k ∈ A := by
  have h1 := h.not_right O hk (by omega)
  have h2 := ne_of O hk h.mid.1 (by omega)
  simp [h1, h2]
theorem mem_gt (h : SL J o (A ++ x :: B)) (hk : J k) (hx : 0 < o k x) : k ∈ A ++ x :: B ↔ k ∈ B := by
  have h1 := h.not_left O hk (by omega)
  have h2 := ne_of O hk h.mid.1 (by omega)
  simp [h1, h2]
theorem mem_eq (h : SL J o (A ++ x :: B)) (hk : J k) (hx : o k x = 0) : k ∈ A ++ x :: B := by
  have := (O.zero k x hk h.mid.1).1 hx
  simp [this]
omit O in
theorem delL_not (h : k ∉ A) : delL k A = A := List.filter_eq_self.2 fun y hy => by
  have : y ≠ k := fun e => h (e ▸ hy)
  simpa using this
omit O in
theorem delL_app : delL k (A ++ B) = delL k A ++ delL k B := List.filter_append ..
theorem delL_lt (h : SL J o (A ++ x :: B)) (hk : J k) (hx : o k x < 0) : delL k (A ++ x :: B) = delL k A ++ x :: B := by
  have h2 := ne_of O hk h.mid.1 (by omega)
  rw [delL_app, delL_not (A := x :: B) (by simp [h2, h.not_right O hk (by omega)])]
theorem delL_gt (h : SL J o (A ++ x :: B)) (hk : J k) (hx : 0 < o k x) : delL k (A ++ x :: B) = A ++ x :: delL k B := by
  have h2 := ne_of O hk h.mid.1 (by omega)
  rw [delL_app, delL_not (h.not_left O hk (by omega))]
  congr 1
  unfold delL
  rw [List.filter_cons, if_pos (by simpa using fun e => h2 e.symm)]
theorem delL_here (h : SL J o (A ++ x :: B)) (hk : J k) (hx : o k x = 0) : delL k (A ++ x :: B) = A ++ B := by
  have e := (O.zero k x hk h.mid.1).1 hx
  rw [delL_app, delL_not (h.not_left O hk (by omega))]
  congr 1
  have h3 := h.not_right O hk (by omega)
  have : delL k (x :: B) = delL k B := by unfold delL; rw [List.filter_cons, if_neg (by simp [e])]
  rw [this, delL_not h3]
theorem SL.insL (h : SL J o A) (hk : J k) : SL J o (insL o k A) := by
  induction A with
  | nil => exact ⟨by simp [Proofs.YtgfjmafdfbghnaaGreat.insL, hk], by simp [Proofs.YtgfjmafdfbghnaaGreat.insL]⟩
  | cons p t ih =>
    have hp := h.1 p (by simp)
    have ht := (List.pairwise_cons.1 h.2).1
    simp only [Proofs.YtgfjmafdfbghnaaGreat.insL]
    split
    · rename_i hl
      refine ⟨fun y hy => ?_, List.pairwise_cons.2 ⟨fun y hy => ?_, h.2⟩⟩
      · rcases List.mem_cons.1 hy with rfl | hy
        · exact hk
        · exact h.1 y hy
      · rcases List.mem_cons.1 hy with rfl | hy
        · exact hl
        · exact O.trans k p y hk hp (h.1 y (by simp [hy])) hl (ht y hy)
    · split
      · exact h
      · rename_i h1 h2
        have ih := ih h.tail
        have hm : ∀ y ∈ Proofs.YtgfjmafdfbghnaaGreat.insL o k t, J y ∧ o p y < 0 := by
          have : ∀ (L : List Pl), (∀ y ∈ L, J y ∧ o p y < 0) → ∀ y ∈ Proofs.YtgfjmafdfbghnaaGreat.insL o k L, J y ∧ o p y < 0 := by
            intro L hL
            induction L with
            | nil => intro y hy; simp [Proofs.YtgfjmafdfbghnaaGreat.insL] at hy; subst hy; exact ⟨hk, (O.anti p y hp hk).2 (by omega)⟩
            | cons q s ihs =>
              intro y hy
              simp only [Proofs.YtgfjmafdfbghnaaGreat.insL] at hy
              split at hy
              · rcases List.mem_cons.1 hy with rfl | hy
                · exact ⟨hk, (O.anti p y hp hk).2 (by omega)⟩
                · exact hL y hy
              · split at hy
                · exact hL y hy
                · rcases List.mem_cons.1 hy with rfl | hy
                  · exact hL _ (by simp)
                  · exact ihs (fun z hz => hL z (by simp [hz])) y hy
          exact this t fun y hy => ⟨h.1 y (by simp [hy]), ht y hy⟩
        exact ⟨fun y hy => by
          rcases List.mem_cons.1 hy with rfl | hy
          · exact hp
          · exact (hm y hy).1, List.pairwise_cons.2 ⟨fun y hy => (hm y hy).2, ih.2⟩⟩
omit O in
theorem SL.delL (h : SL J o A) : SL J o (delL k A) := ⟨fun y hy => h.1 y (List.mem_filter.1 hy).1, h.2.filter _⟩
theorem pl_lt (h : SL J o (A ++ x :: B)) (hk : J k) (hx : o k x < 0) : plL (A ++ x :: B) k = plL A k := by
  unfold plL
  by_cases hm : k ∈ A
  · rw [if_pos ((mem_lt O h hk hx).2 hm), if_pos hm, List.idxOf_append, if_pos hm]
  · rw [if_neg (fun e => hm ((mem_lt O h hk hx).1 e)), if_neg hm]
theorem pl_here (h : SL J o (A ++ x :: B)) (hk : J k) (hx : o k x = 0) : plL (A ++ x :: B) k = A.length := by
  unfold plL
  rw [if_pos (mem_eq O h hk hx), List.idxOf_append, if_neg (h.not_left O hk (by omega))]
  have e := (O.zero k x hk h.mid.1).1 hx
  subst e; simp
theorem pl_gt (h : SL J o (A ++ x :: B)) (hk : J k) (hx : 0 < o k x) : plL (A ++ x :: B) k = if 0 ≤ plL B k then A.length + 1 + plL B k else -1 := by
  unfold plL
  by_cases hm : k ∈ B
  · have h2 := ne_of O hk h.mid.1 (by omega)
    rw [if_pos ((mem_gt O h hk hx).2 hm), if_pos hm, if_pos (by omega), List.idxOf_append, if_neg (h.not_left O hk (by omega)), List.idxOf_cons]
    have : (x == k) = false := by simpa using fun e => h2 e.symm
    rw [this]; simp; omega
  · rw [if_neg (fun e => hm ((mem_gt O h hk hx).1 e)), if_neg hm, if_neg (by omega)]
end
/-- A tree of nodes, read. -/
def Tn (w : World) : Value → Tr → Prop
  | v, .lf => v = .pointer none
  | v, .nd l k r => ∃ b lv rv, v = .pointer (some ⟨b, 0, none⟩) ∧ w.heap[b]? = some (.cells #[.int .i64 k.n, .int .i64 k.d, .int .i64 k.w, .int .i64 k.i, lv, rv, .int .i64 (dp (.nd l k r) : Nat), .int .i64 (sz (.nd l k r) : Nat)] 181 (0, 0)) ∧ Tn w lv l ∧ Tn w rv r
/-- Worlds in which no node has changed. -/
def NoNode (F : Nat → Prop) (w : World) : Prop := ∀ b, F b → ∀ cs, w.heap[b]? ≠ some (.cells cs 181 (0, 0))
theorem Tn.chg {F : Nat → Prop} {w w' : World} (hc : Chg F w w') (hF : NoNode F w) : ∀ {t : Tr} {v : Value}, Tn w v t → Tn w' v t
  | .lf, _, h => h
  | .nd l k r, _, ⟨b, lv, rv, hv, hb, hl, hr⟩ => ⟨b, lv, rv, hv, (hc.block b (Array.getElem?_eq_some_iff.1 hb).1 fun e => hF b e _ hb).trans hb, Tn.chg hc hF hl, Tn.chg hc hF hr⟩
theorem Tn.below {w w' : World} {t : Tr} {v : Value} (h : Tn w v t) (hb : Below w.heap.size w w') : Tn w' v t := h.chg (.of_below (fun _ => False) hb) (fun _ e => e.elim)
theorem Tn.lf_ {w : World} {v : Value} (h : Tn w v .lf) : v = .pointer none := h
theorem Tn.nd_ {w : World} {v : Value} {l r : Tr} {k : Pl} (h : Tn w v (.nd l k r)) : ∃ b lv rv, v = .pointer (some ⟨b, 0, none⟩) ∧ b < w.heap.size ∧ w.cell? ⟨b, 0, none⟩ = some (.int .i64 k.n) ∧ w.cell? ⟨b, 1, none⟩ = some (.int .i64 k.d) ∧ w.cell? ⟨b, 2, none⟩ = some (.int .i64 k.w) ∧ w.cell? ⟨b, 3, none⟩ = some (.int .i64 k.i) ∧ w.cell? ⟨b, 4, none⟩ = some lv ∧ w.cell? ⟨b, 5, none⟩ = some rv ∧
    w.cell? ⟨b, 6, none⟩ = some (.int .i64 (dp (.nd l k r) : Nat)) ∧ w.cell? ⟨b, 7, none⟩ = some (.int .i64 (sz (.nd l k r) : Nat)) ∧ Tn w lv l ∧ Tn w rv r := by
  obtain ⟨b, lv, rv, hv, hb, hl, hr⟩ := h
  refine ⟨b, lv, rv, hv, (Array.getElem?_eq_some_iff.1 hb).1, ?_, ?_, ?_, ?_, ?_, ?_, ?_, ?_, hl, hr⟩ <;> simp [World.cell?, hb]
/-- A node that has been made. -/
theorem Tn.made {w : World} {lv rv : Value} {l r : Tr} (k : Pl) (hl : Tn w lv l) (hr : Tn w rv r) :
    Tn (w.alloc (.cells #[.int .i64 k.n, .int .i64 k.d, .int .i64 k.w, .int .i64 k.i, lv, rv, .int .i64 (dp (.nd l k r) : Nat), .int .i64 (sz (.nd l k r) : Nat)] 181)) (.pointer (some ⟨w.heap.size, 0, none⟩)) (.nd l k r) :=
  ⟨_, lv, rv, rfl, heap_alloc_new w _, hl.below (ba (Below.refl _ _) _), hr.below (ba (Below.refl _ _) _)⟩
end
end Go.Proofs.YtgfjmafdfbghnaaGreat
