/- Vectors as lists of parts: what merging, summing, holding are. No program in it. -/
import Derived.Test.YtennhfkhdfalfaaVecR
namespace Go.Proofs.Ytennhfkhdfalfaa
/-- A part: its kind, its role, its amount. -/
abbrev Pt := Int × Int × Int
/-- The place of a part among all. -/
def qy (p : Pt) : Int := p.1 * 33 + p.2.1
def POK (p : Pt) : Prop := LOk p.1 p.2.1 ∧ 1 ≤ p.2.2 ∧ p.2.2 ≤ 9007199254740992
instance (p : Pt) : Decidable (POK p) := by unfold POK; infer_instance
/-- A valid vector. -/
def VR (l : List Pt) : Prop := (∀ p ∈ l, POK p) ∧ l.Pairwise (fun x y => qy x < qy y)
instance (l : List Pt) : Decidable (VR l) := by unfold VR; infer_instance
/-- The amount of the first part with a place. -/
def gt : List Pt → Int → Int → Int
  | [], _, _ => 0
  | p :: t, k, r => if p.1 = k ∧ p.2.1 = r then p.2.2 else gt t k r
theorem VR.nil : VR [] := ⟨fun _ h => by simp at h, List.Pairwise.nil⟩
theorem VR.tail {p : Pt} {t : List Pt} (h : VR (p :: t)) : VR t := ⟨fun x hx => h.1 x (by simp [hx]), (List.pairwise_cons.1 h.2).2⟩
theorem VR.head {p : Pt} {t : List Pt} (h : VR (p :: t)) : POK p := h.1 p (by simp)
theorem VR.lt {p : Pt} {t : List Pt} (h : VR (p :: t)) : ∀ x ∈ t, qy p < qy x := (List.pairwise_cons.1 h.2).1
theorem VR.cons {p : Pt} {t : List Pt} (hp : POK p) (hl : ∀ x ∈ t, qy p < qy x) (h : VR t) : VR (p :: t) :=
  ⟨fun x hx => by rcases List.mem_cons.1 hx with rfl | hx; exact hp; exact h.1 x hx, List.pairwise_cons.2 ⟨hl, h.2⟩⟩
theorem qy_inj {x y : Pt} (hx : LOk x.1 x.2.1) (hy : LOk y.1 y.2.1) (h : qy x = qy y) : x.1 = y.1 ∧ x.2.1 = y.2.1 := by
  obtain ⟨a, b, c, d⟩ := hx; obtain ⟨a', b', c', d'⟩ := hy; unfold qy at h; omega
/-- A place that no part has. -/
theorem gt_none {l : List Pt} {k r : Int} (h : ∀ x ∈ l, ¬ (x.1 = k ∧ x.2.1 = r)) : gt l k r = 0 := by
  induction l with
  | nil => rfl
  | cons p t ih => rw [gt, if_neg (h p (by simp))]; exact ih fun x hx => h x (by simp [hx])
theorem gt_nn {l : List Pt} (h : VR l) (k r : Int) : 0 ≤ gt l k r ∧ gt l k r ≤ 9007199254740992 := by
  induction l with
  | nil => simp [gt]
  | cons p t ih =>
    rw [gt]; split
    · have := h.head.2; omega
    · exact ih h.tail
theorem gt_pos {l : List Pt} {k r : Int} (h : VR l) : 0 < gt l k r ↔ ∃ x ∈ l, x.1 = k ∧ x.2.1 = r := by
  induction l with
  | nil => simp [gt]
  | cons p t ih =>
    rw [gt]
    by_cases hp : p.1 = k ∧ p.2.1 = r
    · rw [if_pos hp]; have := h.head.2
      exact ⟨fun _ => ⟨p, by simp, hp⟩, fun _ => by omega⟩
    · rw [if_neg hp, ih h.tail]
      exact ⟨fun ⟨x, hx, e⟩ => ⟨x, by simp [hx], e⟩, fun ⟨x, hx, e⟩ => by
        rcases List.mem_cons.1 hx with rfl | hx
        · exact absurd e hp
        · exact ⟨x, hx, e⟩⟩
theorem gt_out {l : List Pt} {k r : Int} (h : VR l) (hn : ¬ LOk k r) : gt l k r = 0 :=
  gt_none fun x hx ⟨e1, e2⟩ => hn (e1 ▸ e2 ▸ (h.1 x hx).1)
/-- A place ahead of all parts. -/
theorem gt_ahead {l : List Pt} {k r : Int} (h : ∀ x ∈ l, k * 33 + r < qy x) : gt l k r = 0 :=
  gt_none fun x hx ⟨e1, e2⟩ => by have := h x hx; unfold qy at this; rw [e1, e2] at this; omega
/-- Two valid vectors that have the same of each slot are the same. -/
theorem vr_ext : ∀ {l m : List Pt}, VR l → VR m → (∀ k r, gt l k r = gt m k r) → l = m
  | [], [], _, _, _ => rfl
  | [], p :: t, _, hm, h => by
    have h1 := h p.1 p.2.1
    have := hm.head.2
    rw [gt, gt, if_pos ⟨rfl, rfl⟩] at h1; omega
  | p :: t, [], hl, _, h => by
    have h1 := h p.1 p.2.1
    have := hl.head.2
    rw [gt, gt, if_pos ⟨rfl, rfl⟩] at h1; omega
  | p :: t, x :: s, hl, hm, h => by
    have hp := hl.head; have hx := hm.head
    have h1 := h p.1 p.2.1
    have h2 := h x.1 x.2.1
    rw [gt, if_pos ⟨rfl, rfl⟩, gt] at h1
    have e : p = x := by
      by_cases he : x.1 = p.1 ∧ x.2.1 = p.2.1
      · rw [if_pos he] at h1
        obtain ⟨a, b, c⟩ := p; obtain ⟨a', b', c'⟩ := x
        simp only at he h1
        rw [he.1, he.2, h1]
      · exfalso
        rw [if_neg he] at h1
        rw [gt, gt, if_pos (⟨rfl, rfl⟩ : x.1 = x.1 ∧ x.2.1 = x.2.1), if_neg (fun e => he ⟨e.1.symm, e.2.symm⟩)] at h2
        have g1 : 0 < gt s p.1 p.2.1 := by have := hp.2; omega
        have g2 : 0 < gt t x.1 x.2.1 := by have := hx.2; omega
        obtain ⟨y, hy, e1, e2⟩ := (gt_pos hm.tail).1 g1
        obtain ⟨z, hz, f1, f2⟩ := (gt_pos hl.tail).1 g2
        have l1 := hm.lt y hy
        have l2 := hl.lt z hz
        unfold qy at l1 l2
        rw [e1, e2] at l1; rw [f1, f2] at l2
        omega
    subst e
    congr 1
    refine vr_ext hl.tail hm.tail fun k r => ?_
    have h3 := h k r
    by_cases he : p.1 = k ∧ p.2.1 = r
    · obtain ⟨rfl, rfl⟩ := he
      rw [gt_ahead (l := t) hl.lt, gt_ahead (l := s) hm.lt]
    · rw [gt, if_neg he, gt, if_neg he] at h3; exact h3
/-- The first place of two vectors one of which has a part. -/
def fst2 : List Pt → List Pt → Int × Int
  | [], [] => (0, 0)
  | p :: _, [] => (p.1, p.2.1)
  | [], x :: _ => (x.1, x.2.1)
  | p :: _, x :: _ => if lcmp p.1 p.2.1 x.1 x.2.1 < 0 then (p.1, p.2.1) else (x.1, x.2.1)
/-- The amount of a place if a vector begins with it; what follows. -/
def nxA : List Pt → Int × Int → Int
  | [], _ => 0
  | p :: _, s => if p.1 = s.1 ∧ p.2.1 = s.2 then p.2.2 else 0
def nxT : List Pt → Int × Int → List Pt
  | [], _ => []
  | p :: t, s => if p.1 = s.1 ∧ p.2.1 = s.2 then t else p :: t
/-- Two vectors merged. -/
def mg (g : Int → Int → Option Int) : Nat → List Pt → List Pt → Option (List Pt)
  | 0, _, _ => some []
  | n + 1, la, lb =>
    if la = [] ∧ lb = [] then some [] else
    match g (nxA la (fst2 la lb)) (nxA lb (fst2 la lb)) with
    | none => none
    | some z => (mg g n (nxT la (fst2 la lb)) (nxT lb (fst2 la lb))).map fun o => if 0 < z then ((fst2 la lb).1, (fst2 la lb).2, z) :: o else o
theorem lcmp_neg {k r k' r' : Int} (h : LOk k r) (h' : LOk k' r') : lcmp k r k' r' < 0 ↔ k * 33 + r < k' * 33 + r' := by
  obtain ⟨a, b, c, d⟩ := h; obtain ⟨a', b', c', d'⟩ := h'
  unfold lcmp cmpI
  split
  · split
    · omega
    · split <;> omega
  · split
    · omega
    · split <;> omega
theorem nxT_gt {l : List Pt} (h : VR l) (s : Int × Int) (hs : ∀ x ∈ l, s.1 * 33 + s.2 ≤ qy x) (hL : LOk s.1 s.2) : VR (nxT l s) ∧ nxA l s = gt l s.1 s.2 ∧ (∀ x ∈ nxT l s, s.1 * 33 + s.2 < qy x) ∧ (∀ k r, ¬ (k = s.1 ∧ r = s.2) → gt (nxT l s) k r = gt l k r) ∧ (nxT l s).length ≤ l.length := by
  cases l with
  | nil => exact ⟨VR.nil, rfl, fun x hx => by simp [nxT] at hx, fun _ _ _ => rfl, by simp [nxT]⟩
  | cons p t =>
    by_cases he : p.1 = s.1 ∧ p.2.1 = s.2
    · rw [nxT, if_pos he, nxA, if_pos he, gt, if_pos he]
      refine ⟨h.tail, rfl, fun x hx => ?_, fun k r hn => ?_, by simp⟩
      · have := h.lt x hx; unfold qy at this ⊢; rw [he.1, he.2] at this; exact this
      · rw [gt, if_neg (fun e => hn ⟨e.1.symm.trans he.1, e.2.symm.trans he.2⟩)]
    · rw [nxT, if_neg he, nxA, if_neg he]
      have hlt : s.1 * 33 + s.2 < qy p := by
        have h1 := hs p (by simp)
        rcases Int.lt_or_eq_of_le h1 with h2 | h2
        · exact h2
        · exact absurd (qy_inj (x := (s.1, s.2, 0)) hL h.head.1 h2) fun e => he ⟨e.1.symm, e.2.symm⟩
      have hall : ∀ x ∈ p :: t, s.1 * 33 + s.2 < qy x := fun x hx => by
        rcases List.mem_cons.1 hx with rfl | hx
        · exact hlt
        · have := h.lt x hx; omega
      exact ⟨h, (gt_ahead hall).symm, hall, fun _ _ _ => rfl, Nat.le_refl _⟩
theorem fst2_le {la lb : List Pt} (ha : VR la) (hb : VR lb) (hne : ¬ (la = [] ∧ lb = [])) : LOk (fst2 la lb).1 (fst2 la lb).2 ∧ (∀ x ∈ la, (fst2 la lb).1 * 33 + (fst2 la lb).2 ≤ qy x) ∧ (∀ x ∈ lb, (fst2 la lb).1 * 33 + (fst2 la lb).2 ≤ qy x) ∧ (nxT la (fst2 la lb)).length + (nxT lb (fst2 la lb)).length < la.length + lb.length := by
  have self : ∀ {p : Pt} {t : List Pt}, VR (p :: t) → ∀ x ∈ p :: t, p.1 * 33 + p.2.1 ≤ qy x := fun h x hx => by
    rcases List.mem_cons.1 hx with rfl | hx
    · exact Int.le_refl _
    · have := h.lt x hx; unfold qy at *; omega
  have len : ∀ (l : List Pt) s, (nxT l s).length ≤ l.length := fun l s => by
    cases l with
    | nil => simp [nxT]
    | cons p t => rw [nxT]; split <;> simp
  cases la with
  | nil =>
    cases lb with
    | nil => exact absurd ⟨rfl, rfl⟩ hne
    | cons x s =>
      refine ⟨hb.head.1, fun y hy => by simp at hy, self hb, ?_⟩
      rw [fst2, nxT, nxT, if_pos ⟨rfl, rfl⟩]; simp
  | cons p t =>
    cases lb with
    | nil =>
      refine ⟨ha.head.1, self ha, fun y hy => by simp at hy, ?_⟩
      rw [fst2, nxT, nxT, if_pos ⟨rfl, rfl⟩]; simp
    | cons x s =>
      by_cases hc : lcmp p.1 p.2.1 x.1 x.2.1 < 0
      · have e : fst2 (p :: t) (x :: s) = (p.1, p.2.1) := if_pos hc
        rw [e]
        have := (lcmp_neg ha.head.1 hb.head.1).1 hc
        refine ⟨ha.head.1, self ha, fun y hy => by have := self hb y hy; show p.1 * 33 + p.2.1 ≤ _; omega, ?_⟩
        have h2 := len (x :: s) (p.1, p.2.1)
        rw [nxT, if_pos ⟨rfl, rfl⟩]; simp at h2 ⊢; omega
      · have e : fst2 (p :: t) (x :: s) = (x.1, x.2.1) := if_neg hc
        rw [e]
        have := mt (lcmp_neg ha.head.1 hb.head.1).2 hc
        refine ⟨hb.head.1, fun y hy => by have := self ha y hy; show x.1 * 33 + x.2.1 ≤ _; omega, self hb, ?_⟩
        have h2 := len (p :: t) (x.1, x.2.1)
        rw [nxT.eq_def (x :: s)]; simp at h2 ⊢; omega
/-- What a merge is, slot by slot. -/
theorem mg_spec {g : Int → Int → Option Int} (g0 : g 0 0 = some 0) (gb : ∀ x y z, 0 ≤ x → x ≤ 9007199254740992 → 0 ≤ y → y ≤ 9007199254740992 → g x y = some z → 0 ≤ z ∧ z ≤ 9007199254740992) :
    ∀ (n : Nat) {la lb : List Pt}, VR la → VR lb → la.length + lb.length ≤ n →
      (∀ l, mg g n la lb = some l → VR l ∧ (∀ k r, g (gt la k r) (gt lb k r) = some (gt l k r))) ∧ (mg g n la lb = none → ∃ k r, g (gt la k r) (gt lb k r) = none)
  | 0, la, lb, ha, hb, hn => by
    have e1 : la = [] := List.eq_nil_of_length_eq_zero (by omega)
    have e2 : lb = [] := List.eq_nil_of_length_eq_zero (by omega)
    subst e1 e2
    exact ⟨fun l h => by cases h; exact ⟨VR.nil, fun _ _ => g0⟩, fun h => by cases h⟩
  | n + 1, la, lb, ha, hb, hn => by
    unfold mg
    by_cases hne : la = [] ∧ lb = []
    · rw [if_pos hne]
      obtain ⟨rfl, rfl⟩ := hne
      exact ⟨fun l h => by cases h; exact ⟨VR.nil, fun _ _ => g0⟩, fun h => by cases h⟩
    · rw [if_neg hne]
      obtain ⟨hL, hsa, hsb, hlen⟩ := fst2_le ha hb hne
      obtain ⟨a1, a2, a3, a4, _⟩ := nxT_gt ha _ hsa hL
      obtain ⟨b1, b2, b3, b4, _⟩ := nxT_gt hb _ hsb hL
      obtain ⟨ih1, ih2⟩ := mg_spec g0 gb n a1 b1 (by omega)
      generalize fst2 la lb = s at *
      rw [a2, b2]
      have na := gt_nn ha s.1 s.2; have nb := gt_nn hb s.1 s.2
      cases hg : g (gt la s.1 s.2) (gt lb s.1 s.2) with
      | none => exact ⟨fun l h => (by cases h), fun _ => ⟨s.1, s.2, hg⟩⟩
      | some z =>
        obtain ⟨z0, z1⟩ := gb _ _ _ na.1 na.2 nb.1 nb.2 hg
        cases hm : mg g n (nxT la s) (nxT lb s) with
        | none =>
          refine ⟨fun l h => (by cases h), fun _ => ?_⟩
          obtain ⟨k, r, hkr⟩ := ih2 hm
          by_cases he : k = s.1 ∧ r = s.2
          · rw [gt_ahead (l := nxT la s) (by rw [he.1, he.2]; exact a3), gt_ahead (l := nxT lb s) (by rw [he.1, he.2]; exact b3), g0] at hkr
            cases hkr
          · exact ⟨k, r, by rw [← a4 k r he, ← b4 k r he]; exact hkr⟩
        | some o =>
          obtain ⟨v1, v2⟩ := ih1 o hm
          refine ⟨fun l h => ?_, fun h => by cases h⟩
          have v3 : ∀ x ∈ o, s.1 * 33 + s.2 < qy x := fun x hx => by
            have hp : 0 < gt o x.1 x.2.1 := (gt_pos v1).2 ⟨x, hx, rfl, rfl⟩
            have h4 := v2 x.1 x.2.1
            by_cases q1 : 0 < gt (nxT la s) x.1 x.2.1
            · obtain ⟨y, hy, e1, e2⟩ := (gt_pos a1).1 q1
              have := a3 y hy; unfold qy at this ⊢; rw [e1, e2] at this; exact this
            · by_cases q2 : 0 < gt (nxT lb s) x.1 x.2.1
              · obtain ⟨y, hy, e1, e2⟩ := (gt_pos b1).1 q2
                have := b3 y hy; unfold qy at this ⊢; rw [e1, e2] at this; exact this
              · have p1 := gt_nn a1 x.1 x.2.1; have p2 := gt_nn b1 x.1 x.2.1
                rw [show gt (nxT la s) x.1 x.2.1 = 0 by omega, show gt (nxT lb s) x.1 x.2.1 = 0 by omega, g0] at h4
                have := Option.some.inj h4; omega
          have h5 : (if 0 < z then (s.1, s.2, z) :: o else o) = l := by simpa using h
          subst h5
          by_cases hz : 0 < z
          · rw [if_pos hz]
            refine ⟨VR.cons ⟨hL, by show 1 ≤ z; omega, z1⟩ v3 v1, fun k r => ?_⟩
            by_cases he : k = s.1 ∧ r = s.2
            · rw [gt, if_pos ⟨he.1.symm, he.2.symm⟩, he.1, he.2]; exact hg
            · rw [gt, if_neg (fun e => he ⟨e.1.symm, e.2.symm⟩), ← v2 k r, a4 k r he, b4 k r he]
          · rw [if_neg hz]
            obtain rfl : z = 0 := by omega
            refine ⟨v1, fun k r => ?_⟩
            by_cases he : k = s.1 ∧ r = s.2
            · rw [gt_ahead (l := o) (by rw [he.1, he.2]; exact v3), he.1, he.2]; exact hg
            · rw [← v2 k r, a4 k r he, b4 k r he]
def gAdd (x y : Int) : Option Int := if x + y ≤ 9007199254740992 then some (x + y) else none
def gSub (x y : Int) : Option Int := if y ≤ x then some (x - y) else none
def gMin (x y : Int) : Option Int := some (if x ≤ y then x else y)
theorem gAdd0 : gAdd 0 0 = some 0 := rfl
theorem gSub0 : gSub 0 0 = some 0 := rfl
theorem gMin0 : gMin 0 0 = some 0 := rfl
theorem gAddB (x y z : Int) (h1 : 0 ≤ x) (h2 : x ≤ 9007199254740992) (h3 : 0 ≤ y) (h4 : y ≤ 9007199254740992) (h : gAdd x y = some z) : 0 ≤ z ∧ z ≤ 9007199254740992 := by
  unfold gAdd at h; split at h
  · cases h; omega
  · cases h
theorem gSubB (x y z : Int) (h1 : 0 ≤ x) (h2 : x ≤ 9007199254740992) (h3 : 0 ≤ y) (h4 : y ≤ 9007199254740992) (h : gSub x y = some z) : 0 ≤ z ∧ z ≤ 9007199254740992 := by
  unfold gSub at h; split at h
  · cases h; omega
  · cases h
theorem gMinB (x y z : Int) (h1 : 0 ≤ x) (h2 : x ≤ 9007199254740992) (h3 : 0 ≤ y) (h4 : y ≤ 9007199254740992) (h : gMin x y = some z) : 0 ≤ z ∧ z ≤ 9007199254740992 := by
  unfold gMin at h; cases h; split <;> omega
/-- What vec.Add, vec.Sub, vec.Least answer at any two vectors. -/
def mrg (g : Int → Int → Option Int) (a b : List Pt) : Option (List Pt) := if VR a ∧ VR b then mg g (a.length + b.length) a b else none
theorem mrg_some {g : Int → Int → Option Int} (g0 : g 0 0 = some 0) (gb : ∀ x y z, 0 ≤ x → x ≤ 9007199254740992 → 0 ≤ y → y ≤ 9007199254740992 → g x y = some z → 0 ≤ z ∧ z ≤ 9007199254740992) {a b l : List Pt} (h : mrg g a b = some l) :
    VR a ∧ VR b ∧ VR l ∧ ∀ k r, g (gt a k r) (gt b k r) = some (gt l k r) := by
  unfold mrg at h; split at h
  · rename_i hv
    have := (mg_spec g0 gb _ hv.1 hv.2 (Nat.le_refl _)).1 l h
    exact ⟨hv.1, hv.2, this.1, this.2⟩
  · cases h
theorem mrg_of {g : Int → Int → Option Int} (g0 : g 0 0 = some 0) (gb : ∀ x y z, 0 ≤ x → x ≤ 9007199254740992 → 0 ≤ y → y ≤ 9007199254740992 → g x y = some z → 0 ≤ z ∧ z ≤ 9007199254740992) {a b : List Pt} (ha : VR a) (hb : VR b)
    (h : ∀ k r, g (gt a k r) (gt b k r) ≠ none) : ∃ l, mrg g a b = some l := by
  have := (mg_spec g0 gb _ ha hb (Nat.le_refl _)).2
  unfold mrg; rw [if_pos ⟨ha, hb⟩]
  cases hm : mg g (a.length + b.length) a b with
  | some l => exact ⟨l, rfl⟩
  | none => obtain ⟨k, r, h'⟩ := this hm; exact absurd h' (h k r)
/-- The first vector has of each slot at least as much as the second one. -/
def HLD (a b : List Pt) : Prop := VR a ∧ VR b ∧ ∀ k r, gt b k r ≤ gt a k r
theorem sub_iff (a b : List Pt) : (mrg gSub a b).isSome = true ↔ HLD a b := by
  constructor
  · intro h
    cases hm : mrg gSub a b with
    | none => rw [hm] at h; cases h
    | some l =>
      obtain ⟨ha, hb, _, hg⟩ := mrg_some gSub0 gSubB hm
      refine ⟨ha, hb, fun k r => ?_⟩
      have := hg k r
      unfold gSub at this; split at this
      · assumption
      · cases this
  · rintro ⟨ha, hb, hg⟩
    obtain ⟨l, hl⟩ := mrg_of gSub0 gSubB ha hb fun k r h => by
      unfold gSub at h; rw [if_pos (hg k r)] at h; cases h
    rw [hl]; rfl
theorem hld_self {a : List Pt} : HLD a a ↔ VR a := ⟨fun h => h.1, fun h => ⟨h, h, fun _ _ => Int.le_refl _⟩⟩
theorem hld_anti {a b : List Pt} (h : HLD a b) (h' : HLD b a) : a = b := vr_ext h.1 h.2.1 fun k r => Int.le_antisymm (h'.2.2 k r) (h.2.2 k r)
theorem hld_trans {a b c : List Pt} (h : HLD a b) (h' : HLD b c) : HLD a c := ⟨h.1, h'.2.1, fun k r => Int.le_trans (h'.2.2 k r) (h.2.2 k r)⟩
theorem mrg_comm {g : Int → Int → Option Int} (g0 : g 0 0 = some 0) (gb : ∀ x y z, 0 ≤ x → x ≤ 9007199254740992 → 0 ≤ y → y ≤ 9007199254740992 → g x y = some z → 0 ≤ z ∧ z ≤ 9007199254740992) (gc : ∀ x y, g x y = g y x) (a b : List Pt) : mrg g a b = mrg g b a := by
  cases h1 : mrg g a b with
  | some l =>
    obtain ⟨ha, hb, hl, hg⟩ := mrg_some g0 gb h1
    obtain ⟨m, hm⟩ := mrg_of g0 gb hb ha fun k r h => by rw [gc, hg k r] at h; cases h
    obtain ⟨_, _, hm', hg'⟩ := mrg_some g0 gb hm
    rw [hm, vr_ext hl hm' fun k r => Option.some.inj ((hg k r).symm.trans ((gc _ _).trans (hg' k r)))]
  | none =>
    cases h2 : mrg g b a with
    | none => rfl
    | some l =>
      obtain ⟨hb, ha, hl, hg⟩ := mrg_some g0 gb h2
      obtain ⟨m, hm⟩ := mrg_of g0 gb ha hb fun k r h => by rw [gc, hg k r] at h; cases h
      rw [h1] at hm; cases hm
theorem add_comm' (a b : List Pt) : mrg gAdd a b = mrg gAdd b a := mrg_comm gAdd0 gAddB (fun x y => by unfold gAdd; rw [Int.add_comm]) a b
theorem min_comm' (a b : List Pt) : mrg gMin a b = mrg gMin b a := mrg_comm gMin0 gMinB (fun x y => by unfold gMin; congr 1; split <;> split <;> omega) a b
theorem min_some {a b : List Pt} (ha : VR a) (hb : VR b) : ∃ l, mrg gMin a b = some l := mrg_of gMin0 gMinB ha hb fun k r h => by unfold gMin at h; cases h
theorem mrg_bad {g : Int → Int → Option Int} {a b : List Pt} (h : ¬ (VR a ∧ VR b)) : mrg g a b = none := if_neg h
/-- A sum without one of its summands is the other one. -/
theorem add_sub {a b s : List Pt} (h : mrg gAdd a b = some s) : mrg gSub s b = some a ∧ HLD s a ∧ VR s := by
  obtain ⟨ha, hb, hs, hg⟩ := mrg_some gAdd0 gAddB h
  have hv : ∀ k r, gt s k r = gt a k r + gt b k r := fun k r => by
    have := hg k r; unfold gAdd at this; split at this
    · exact (Option.some.inj this).symm
    · cases this
  have hd : HLD s b := ⟨hs, hb, fun k r => by have := gt_nn ha k r; rw [hv]; omega⟩
  obtain ⟨x, hx⟩ := Option.isSome_iff_exists.1 ((sub_iff s b).2 hd)
  obtain ⟨_, _, hxv, hxg⟩ := mrg_some gSub0 gSubB hx
  refine ⟨?_, ⟨hs, ha, fun k r => by have := gt_nn hb k r; rw [hv]; omega⟩, hs⟩
  rw [hx, vr_ext hxv ha fun k r => ?_]
  have := hxg k r
  unfold gSub at this
  rw [if_pos (hd.2.2 k r)] at this
  have := Option.some.inj this
  rw [hv] at this; omega
theorem vr_empty {l : List Pt} (h : VR l) (h0 : ∀ k r, gt l k r = 0) : l = [] := vr_ext h VR.nil fun k r => h0 k r
/-- What both have at least is held by both, and without it nothing is left that both have. -/
theorem least_rest {a b l : List Pt} (h : mrg gMin a b = some l) : ∃ x y, mrg gSub a l = some x ∧ mrg gSub b l = some y ∧ mrg gMin x y = some [] := by
  obtain ⟨ha, hb, hl, hg⟩ := mrg_some gMin0 gMinB h
  have hv : ∀ k r, gt l k r = if gt a k r ≤ gt b k r then gt a k r else gt b k r := fun k r => (Option.some.inj (hg k r)).symm
  have h1 : HLD a l := ⟨ha, hl, fun k r => by rw [hv]; split <;> omega⟩
  have h2 : HLD b l := ⟨hb, hl, fun k r => by rw [hv]; split <;> omega⟩
  obtain ⟨x, hx⟩ := Option.isSome_iff_exists.1 ((sub_iff a l).2 h1)
  obtain ⟨y, hy⟩ := Option.isSome_iff_exists.1 ((sub_iff b l).2 h2)
  obtain ⟨_, _, xv, xg⟩ := mrg_some gSub0 gSubB hx
  obtain ⟨_, _, yv, yg⟩ := mrg_some gSub0 gSubB hy
  obtain ⟨z, hz⟩ := min_some xv yv
  obtain ⟨_, _, zv, zg⟩ := mrg_some gMin0 gMinB hz
  refine ⟨x, y, hx, hy, ?_⟩
  rw [hz, vr_empty zv fun k r => ?_]
  have e1 := xg k r; have e2 := yg k r; have e3 := zg k r
  unfold gSub at e1 e2
  rw [if_pos (h1.2.2 k r)] at e1; rw [if_pos (h2.2.2 k r)] at e2
  unfold gMin at e3
  have e1 := Option.some.inj e1; have e2 := Option.some.inj e2; have e3 := Option.some.inj e3
  have := hv k r
  rw [← e3, ← e1, ← e2, this]
  split <;> split <;> omega
/-- A valid vector has at most 132 parts. -/
theorem vr_len_lt : ∀ (l : List Pt) (m : Int), VR l → (∀ x ∈ l, m ≤ qy x) → (l.length : Int) + m ≤ 132 ∨ l = []
  | [], _, _, _ => Or.inr rfl
  | p :: t, m, h, hm => by
    left
    have h1 := hm p (by simp)
    obtain ⟨k0, k1, r0, r1⟩ := h.head.1
    rcases vr_len_lt t (qy p + 1) h.tail (fun x hx => by have := h.lt x hx; omega) with h2 | rfl
    · simp at h2 ⊢; omega
    · simp; unfold qy at h1; omega
theorem vr_len {l : List Pt} (h : VR l) : l.length ≤ 132 := by
  rcases vr_len_lt l 0 h (fun x hx => by obtain ⟨k0, k1, r0, r1⟩ := (h.1 x hx).1; unfold qy; omega) with h2 | rfl
  · omega
  · simp
/-- The sum of the amounts of a place. -/
def sl : List Pt → Int → Int → Int
  | [], _, _ => 0
  | p :: t, k, r => (if p.1 = k ∧ p.2.1 = r then p.2.2 else 0) + sl t k r
theorem sl_snoc (l : List Pt) (p : Pt) (k r : Int) : sl (l ++ [p]) k r = sl l k r + if p.1 = k ∧ p.2.1 = r then p.2.2 else 0 := by
  induction l with
  | nil => simp [sl]
  | cons x t ih => rw [List.cons_append, sl, ih, sl]; omega
/-- Which parts have a vector. -/
def OfOk (l : List Pt) : Prop := (∀ p ∈ l, LOk p.1 p.2.1 ∧ 0 ≤ p.2.2) ∧ ∀ k r, sl l k r ≤ 9007199254740992
theorem sl_nn {l : List Pt} (h : ∀ p ∈ l, LOk p.1 p.2.1 ∧ 0 ≤ p.2.2) (k r : Int) : 0 ≤ sl l k r := by
  induction l with
  | nil => simp [sl]
  | cons p t ih =>
    have := ih fun x hx => h x (by simp [hx])
    have := (h p (by simp)).2
    rw [sl]; split <;> omega
theorem sl_out {l : List Pt} (h : ∀ p ∈ l, LOk p.1 p.2.1 ∧ 0 ≤ p.2.2) {k r : Int} (hn : ¬ LOk k r) : sl l k r = 0 := by
  induction l with
  | nil => rfl
  | cons p t ih =>
    have hp : ¬ (p.1 = k ∧ p.2.1 = r) := fun e => hn (e.1 ▸ e.2 ▸ (h p (by simp)).1)
    rw [sl, ih fun x hx => h x (by simp [hx]), if_neg hp]; rfl
theorem OfOk.nil : OfOk [] := ⟨fun _ h => by simp at h, fun _ _ => by simp [sl]⟩
theorem OfOk.snoc {l : List Pt} {p : Pt} (h : OfOk l) (hp : LOk p.1 p.2.1) (h0 : 0 ≤ p.2.2) (h1 : sl l p.1 p.2.1 + p.2.2 ≤ 9007199254740992) : OfOk (l ++ [p]) :=
  ⟨fun x hx => by
    rcases List.mem_append.1 hx with hx | hx
    · exact h.1 x hx
    · rw [List.mem_singleton.1 hx]; exact ⟨hp, h0⟩,
   fun k r => by
    rw [sl_snoc]; split
    · rename_i e; rw [← e.1, ← e.2]; exact h1
    · have := h.2 k r; omega⟩
theorem sl_mono {l m : List Pt} (h : ∀ p ∈ l ++ m, LOk p.1 p.2.1 ∧ 0 ≤ p.2.2) (k r : Int) : sl l k r ≤ sl (l ++ m) k r := by
  induction l with
  | nil => exact sl_nn h k r
  | cons p t ih =>
    have := ih fun x hx => h x (by simp at hx ⊢; right; exact hx)
    rw [List.cons_append, sl, sl]; omega
theorem OfOk.pre {l m : List Pt} (h : OfOk (l ++ m)) : OfOk l :=
  ⟨fun p hp => h.1 p (by simp [hp]), fun k r => Int.le_trans (sl_mono h.1 k r) (h.2 k r)⟩
theorem OfOk.last {l m : List Pt} {p : Pt} (h : OfOk (l ++ p :: m)) : LOk p.1 p.2.1 ∧ 0 ≤ p.2.2 ∧ sl l p.1 p.2.1 + p.2.2 ≤ 9007199254740992 := by
  have h1 := h.1 p (by simp)
  have h2 : OfOk (l ++ [p]) := OfOk.pre (m := m) (by simpa using h)
  have h3 := h2.2 p.1 p.2.1
  rw [sl_snoc, if_pos ⟨rfl, rfl⟩] at h3
  exact ⟨h1.1, h1.2, h3⟩
/-- The parts of the first n places. -/
def ofL (S : Int → Int → Int) : Nat → List Pt
  | 0 => []
  | n + 1 => ofL S n ++ (if 0 < S (n / 33 : Nat) (n % 33 : Nat) then [(((n / 33 : Nat) : Int), ((n % 33 : Nat) : Int), S (n / 33 : Nat) (n % 33 : Nat))] else [])
theorem ofL_lt (S : Int → Int → Int) : ∀ n, ∀ x ∈ ofL S n, qy x < n
  | 0, x, hx => by simp [ofL] at hx
  | n + 1, x, hx => by
    rw [ofL] at hx
    rcases List.mem_append.1 hx with hx | hx
    · have := ofL_lt S n x hx; omega
    · split at hx
      · rw [List.mem_singleton.1 hx]; unfold qy; simp only; omega
      · simp at hx
theorem ofL_vr {S : Int → Int → Int} (hS : ∀ k r, S k r ≤ 9007199254740992) : ∀ n, n ≤ 132 → VR (ofL S n)
  | 0, _ => VR.nil
  | n + 1, hn => by
    have h := ofL_vr hS n (by omega)
    rw [ofL]
    split
    · rename_i hp
      refine ⟨fun x hx => ?_, List.pairwise_append.2 ⟨h.2, by simp, fun x hx y hy => ?_⟩⟩
      · rcases List.mem_append.1 hx with hx | hx
        · exact h.1 x hx
        · rw [List.mem_singleton.1 hx]
          refine ⟨⟨?_, ?_, ?_, ?_⟩, ?_, hS _ _⟩
          · simp only; omega
          · simp only; omega
          · simp only; omega
          · simp only; omega
          · simp only; omega
      · have := ofL_lt S n x hx
        rw [List.mem_singleton.1 hy]
        show qy x < (n / 33 : Nat) * 33 + (n % 33 : Nat)
        omega
    · simpa using h
theorem gt_append {l m : List Pt} {k r : Int} (h : ∀ x ∈ l, ¬ (x.1 = k ∧ x.2.1 = r)) : gt (l ++ m) k r = gt m k r := by
  induction l with
  | nil => rfl
  | cons p t ih => rw [List.cons_append, gt, if_neg (h p (by simp)), ih fun x hx => h x (by simp [hx])]
theorem gt_first {l m : List Pt} {k r : Int} (h : ∀ x ∈ m, ¬ (x.1 = k ∧ x.2.1 = r)) : gt (l ++ m) k r = gt l k r := by
  induction l with
  | nil => exact gt_none h
  | cons p t ih => rw [List.cons_append, gt, gt, ih]
theorem ofL_gt {S : Int → Int → Int} (h0 : ∀ k r, 0 ≤ S k r) : ∀ (n : Nat) (k r : Int), n ≤ 132 → LOk k r → k * 33 + r < n → gt (ofL S n) k r = S k r
  | 0, k, r, _, h, hn => by obtain ⟨a, b, c, d⟩ := h; omega
  | n + 1, k, r, hn, h, hlt => by
    obtain ⟨a, b, c, d⟩ := h
    rw [ofL]
    by_cases he : k * 33 + r < n
    · rw [gt_first, ofL_gt h0 n k r (by omega) ⟨a, b, c, d⟩ he]
      intro x hx e
      split at hx
      · rw [List.mem_singleton.1 hx] at e; simp only at e; omega
      · simp at hx
    · have e1 : ((n / 33 : Nat) : Int) = k := by omega
      have e2 : ((n % 33 : Nat) : Int) = r := by omega
      rw [gt_append fun x hx e => by have := ofL_lt S n x hx; unfold qy at this; rw [e.1, e.2] at this; omega, e1, e2]
      split
      · rw [gt, if_pos ⟨rfl, rfl⟩]
      · rename_i hz; have := h0 k r; rw [gt]; omega
/-- What vec.Of answers. -/
def ofV (l : List Pt) : List Pt := ofL (sl l) 132
theorem ofV_vr {l : List Pt} (h : OfOk l) : VR (ofV l) := by
  unfold ofV; exact ofL_vr h.2 132 (Nat.le_refl _)
theorem ofV_gt {l : List Pt} (h : OfOk l) (k r : Int) : gt (ofV l) k r = sl l k r := by
  by_cases hL : LOk k r
  · unfold ofV; exact ofL_gt (sl_nn h.1) 132 k r (Nat.le_refl _) hL (by obtain ⟨a, b, c, d⟩ := hL; omega)
  · rw [gt_out (ofV_vr h) hL, sl_out h.1 hL]
end Go.Proofs.Ytennhfkhdfalfaa
