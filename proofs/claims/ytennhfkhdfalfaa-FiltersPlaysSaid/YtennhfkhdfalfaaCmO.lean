/- Comparisons that order: plain matters: numbers, one behind another, parts, vectors, filters. -/
import Derived.Test.YtennhfkhdfalfaaFi2
import Derived.Test.YtennhfkhdfalfaaSrt
import Derived.Shelf.SlSortCmp.NoneTotal
namespace Go.Proofs.Ytennhfkhdfalfaa
/-- A comparison that orders. -/
structure Cm {α : Type} (c : α → α → Int) : Prop where
  anti : ∀ a b, c a b < 0 ↔ 0 < c b a
  trans : ∀ a b d, c a b < 0 → c b d < 0 → c a d < 0
  eql : ∀ a b, c a b = 0 → ∀ d, c a d = c b d
  eqr : ∀ a b, c a b = 0 → ∀ d, c d a = c d b
theorem Cm.self {α : Type} {c : α → α → Int} (h : Cm c) (a : α) : c a a = 0 := by
  have := h.anti a a; omega
theorem Cm.sym {α : Type} {c : α → α → Int} (h : Cm c) {a b : α} : c a b = 0 ↔ c b a = 0 := by
  have := h.anti a b; have := h.anti b a; omega
theorem Cm.num {α : Type} (k : α → Int) : Cm fun a b => Go.Lib.compareInt (k a) (k b) where
  anti a b := by
    unfold Go.Lib.compareInt
    by_cases h1 : k a < k b <;> by_cases h2 : k b < k a <;> simp [h1, h2] <;> omega
  trans a b d h1 h2 := by
    have e : ∀ x y : Int, Go.Lib.compareInt x y < 0 → x < y := fun x y h => by
      unfold Go.Lib.compareInt at h
      by_cases h1 : x < y
      · exact h1
      · by_cases h2 : y < x <;> simp [h1, h2] at h
    have h3 : k a < k d := by have := e _ _ h1; have := e _ _ h2; omega
    simp [Go.Lib.compareInt, h3]
  eql a b h d := by
    have : k a = k b := (cmpI_zero _ _).1 h
    show Go.Lib.compareInt (k a) _ = Go.Lib.compareInt (k b) _
    rw [this]
  eqr a b h d := by
    have : k a = k b := (cmpI_zero _ _).1 h
    show Go.Lib.compareInt _ (k a) = Go.Lib.compareInt _ (k b)
    rw [this]
theorem Cm.of {α β : Type} {c : β → β → Int} (h : Cm c) (k : α → β) : Cm fun a b => c (k a) (k b) where
  anti a b := h.anti _ _
  trans a b d := h.trans _ _ _
  eql a b e d := h.eql _ _ e _
  eqr a b e d := h.eqr _ _ e _
/-- One comparison, then another. -/
theorem Cm.then_ {α : Type} {c d : α → α → Int} (h : Cm c) (g : Cm d) : Cm fun a b => if c a b ≠ 0 then c a b else d a b where
  anti a b := by
    have h1 := h.anti a b; have h2 := h.anti b a; have h3 := g.anti a b
    by_cases e : c a b = 0
    · have e2 : c b a = 0 := by omega
      simp [e, e2]; omega
    · have e2 : ¬ c b a = 0 := by omega
      simp [e, e2]; omega
  trans a b k h1 h2 := by
    by_cases e : c a b = 0
    · have e3 := h.eql a b e k
      by_cases e2 : c b k = 0
      · simp only [e, e2, ne_eq, not_true_eq_false, if_false, ite_false, not_false_eq_true] at h1 h2
        have e4 : c a k = 0 := by omega
        simp only [e4, ne_eq, not_true_eq_false, if_false]
        exact g.trans _ _ _ h1 h2
      · simp only [ne_eq, e2, not_false_eq_true, if_true] at h2
        have e4 : ¬ c a k = 0 := by omega
        simp only [ne_eq, e4, not_false_eq_true, if_true]
        omega
    · simp only [ne_eq, e, not_false_eq_true, if_true] at h1
      by_cases e2 : c b k = 0
      · have e3 := h.eqr b k e2 a
        have e4 : ¬ c a k = 0 := by omega
        simp only [ne_eq, e4, not_false_eq_true, if_true]
        omega
      · simp only [ne_eq, e2, not_false_eq_true, if_true] at h2
        have e3 := h.trans _ _ _ h1 h2
        have e4 : ¬ c a k = 0 := by omega
        simp only [ne_eq, e4, not_false_eq_true, if_true]
        exact e3
  eql a b e k := by
    by_cases e1 : c a b = 0
    · simp only [e1, ne_eq, not_true_eq_false, if_false] at e
      show (if c a k ≠ 0 then c a k else d a k) = (if c b k ≠ 0 then c b k else d b k)
      rw [h.eql a b e1 k, g.eql a b e k]
    · simp only [ne_eq, e1, not_false_eq_true, if_true] at e
  eqr a b e k := by
    by_cases e1 : c a b = 0
    · simp only [e1, ne_eq, not_true_eq_false, if_false] at e
      show (if c k a ≠ 0 then c k a else d k a) = (if c k b ≠ 0 then c k b else d k b)
      rw [h.eqr a b e1 k, g.eqr a b e k]
    · simp only [ne_eq, e1, not_false_eq_true, if_true] at e
theorem Cm.none {α : Type} : Cm fun _ _ : α => (0 : Int) where
  anti _ _ := by omega
  trans _ _ _ h := by omega
  eql _ _ _ _ := rfl
  eqr _ _ _ _ := rfl
theorem Cm.or {α : Type} {cs : Nat → α → α → Int} (h : ∀ j, Cm (cs j)) : ∀ n, Cm fun a b => orF (fun j => cs j a b) n
  | 0 => Cm.none
  | n + 1 => Cm.then_ (Cm.or h n) (h n)
theorem Cm.cong {α : Type} {c d : α → α → Int} (h : Cm c) (e : ∀ a b, d a b = c a b) : Cm d := by
  have : d = c := funext fun a => funext fun b => e a b
  rw [this]; exact h
theorem orF_congr {x y : Nat → Int} : ∀ {n : Nat}, (∀ j, j < n → x j = y j) → orF x n = orF y n
  | 0, _ => rfl
  | n + 1, h => by
    unfold orF
    rw [orF_congr (n := n) fun j hj => h j (by omega), h n (by omega)]
theorem cm_pcmp : Cm pcmp := by
  refine Cm.cong (Cm.or (cs := fun j (p q : Pt) => match j with | 0 => Go.Lib.compareInt p.1 q.1 | 1 => Go.Lib.compareInt p.2.1 q.2.1 | _ => Go.Lib.compareInt p.2.2 q.2.2) (fun j => ?_) 3) fun p q => ?_
  · rcases j with _ | _ | j
    · exact Cm.num fun p : Pt => p.1
    · exact Cm.num fun p : Pt => p.2.1
    · exact Cm.num fun p : Pt => p.2.2
  · exact orF_congr fun j hj => by
      rcases j with _ | _ | _ | j
      · rfl
      · rfl
      · rfl
      · omega
theorem vord_anti : ∀ l m : List Pt, vord l m < 0 ↔ 0 < vord m l
  | [], [] => by simp [vord]
  | [], _ :: _ => by simp [vord]
  | _ :: _, [] => by simp [vord]
  | p :: l, q :: m => by
    have h1 := cm_pcmp.anti p q; have h2 := cm_pcmp.anti q p; have h3 := vord_anti l m
    unfold vord
    by_cases e : pcmp p q = 0
    · have e2 : pcmp q p = 0 := by omega
      simp [e, e2]; exact h3
    · have e2 : ¬ pcmp q p = 0 := by omega
      simp [e, e2]; exact h1
theorem vord_trans : ∀ l m n : List Pt, vord l m < 0 → vord m n < 0 → vord l n < 0
  | [], [], _, h, _ => by simp [vord] at h
  | [], _ :: _, [], _, h => by simp [vord] at h
  | [], _ :: _, _ :: _, _, _ => by simp [vord]
  | _ :: _, [], _, h, _ => by simp [vord] at h
  | _ :: _, _ :: _, [], _, h => by simp [vord] at h
  | p :: l, q :: m, r :: n, h1, h2 => by
    have ih := vord_trans l m n
    unfold vord at h1 h2 ⊢
    by_cases e : pcmp p q = 0
    · have e3 := cm_pcmp.eql p q e r
      by_cases e2 : pcmp q r = 0
      · simp only [e, e2, ne_eq, not_true_eq_false, if_false] at h1 h2
        have e4 : pcmp p r = 0 := by omega
        simp only [e4, ne_eq, not_true_eq_false, if_false]
        exact ih h1 h2
      · simp only [ne_eq, e2, not_false_eq_true, if_true] at h2
        have e4 : ¬ pcmp p r = 0 := by omega
        simp only [ne_eq, e4, not_false_eq_true, if_true]
        omega
    · simp only [ne_eq, e, not_false_eq_true, if_true] at h1
      by_cases e2 : pcmp q r = 0
      · have e3 := cm_pcmp.eqr q r e2 p
        have e4 : ¬ pcmp p r = 0 := by omega
        simp only [ne_eq, e4, not_false_eq_true, if_true]
        omega
      · simp only [ne_eq, e2, not_false_eq_true, if_true] at h2
        have e3 := cm_pcmp.trans _ _ _ h1 h2
        have e4 : ¬ pcmp p r = 0 := by omega
        simp only [ne_eq, e4, not_false_eq_true, if_true]
        exact e3
theorem cm_vord : Cm vord where
  anti := vord_anti
  trans := vord_trans
  eql a b e d := by rw [(vord_zero a b).1 e]
  eqr a b e d := by rw [(vord_zero a b).1 e]
theorem cm_ford : Cm ford := by
  refine Cm.cong (Cm.or (cs := fun j (p q : Pf) => match j with | 0 => Go.Lib.compareInt p.1 q.1 | 1 => Go.Lib.compareInt p.2.1 q.2.1 | 2 => Go.Lib.compareInt p.2.2.1 q.2.2.1 | _ => vord p.2.2.2 q.2.2.2) (fun j => ?_) 4) fun p q => ?_
  · rcases j with _ | _ | _ | j
    · exact Cm.num fun p : Pf => p.1
    · exact Cm.num fun p : Pf => p.2.1
    · exact Cm.num fun p : Pf => p.2.2.1
    · exact cm_vord.of fun p : Pf => p.2.2.2
  · exact orF_congr fun j hj => by
      rcases j with _ | _ | _ | _ | j
      · rfl
      · rfl
      · rfl
      · rfl
      · omega
def flt (f g : Pf) : Bool := decide (ford f g < 0)
theorem ordF : Srt.Ord (fun f : Pf => f) flt where
  irr a := by unfold flt; rw [cm_ford.self]; rfl
  trans a b c h k := by unfold flt at *; rw [decide_eq_true_eq] at *; exact cm_ford.trans _ _ _ h k
  tot a b h hne := by
    have h1 := cm_ford.anti b a
    have h2 : ford a b ≠ 0 := fun e => hne ((ford_zero a b).1 e)
    unfold flt at *
    rw [decide_eq_false_iff_not] at h
    rw [decide_eq_true_eq]; omega
open Go.Sort Go.Shelf in
theorem swoF : SWO (ltOf ford) where
  irrefl x := ordF.irr x
  trans x y z h1 h2 := ordF.trans x y z h1 h2
  ntrans x y z h1 h2 := by
    have h1 : ¬ ford x y < 0 := of_decide_eq_false h1
    have h2 : ¬ ford y z < 0 := of_decide_eq_false h2
    refine decide_eq_false fun h3 => ?_
    -- x < z; y ≤ x; z ≤ y
    have a1 := cm_ford.anti y x; have a2 := cm_ford.anti x y; have a3 := cm_ford.anti z y; have a4 := cm_ford.anti y z; have a5 := cm_ford.anti x z; have a6 := cm_ford.anti z x
    by_cases e1 : ford x y = 0
    · have := cm_ford.eql x y e1 z; omega
    · by_cases e2 : ford y z = 0
      · have := cm_ford.eqr y z e2 x; omega
      · have := cm_ford.trans z y x (by omega) (by omega); omega
end Go.Proofs.Ytennhfkhdfalfaa
