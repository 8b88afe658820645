/- Texts laid together: Ti0,Ti1,Ti4,Ti2,Ti3,Ti5,MapI9,MapN9. -/
import Derived.Test.YtgfjmafdfbghnaaGreatSgP
namespace Go.Proofs.YtgfjmafdfbghnaaGreat
section
open Go.RowKit Go.Maps
/-- A framework. -/
structure Fd where
  id : Int
  wt : Int
  role : Int
  s : Nat → Int
  aw : Bool
instance : Inhabited Fd := ⟨⟨0, 0, 0, fun _ => 0, false⟩⟩
def inR (D : List Fd) (r : Int) : List Fd := D.filter fun d => d.role == r
/-- The clients of a role's sorter. -/
def GO (D : List Fd) (r : Int) : Int → Option Cl := fun i => ((inR D r).find? fun d => d.id == i).map fun d => ⟨1, d.s, d.aw⟩
def SU (L : List Fd) : Nat → Int := fun k => (L.map fun d => d.s k).sum
/-- The clients of the sorter of roles. -/
def GT (D : List Fd) : Int → Option Cl := fun r => match inR D r with | [] => none | d :: L => some ⟨d.wt, SU (d :: L), true⟩
/-- The role of each framework. -/
def FR (D : List Fd) : Int → Option Int := fun i => (D.find? fun d => d.id == i).map (·.role)
/-- Frameworks that may be. -/
structure TOk (D : List Fd) : Prop where
  nd : (D.map (·.id)).Nodup
  r1 : ∀ d ∈ D, 1 ≤ d.role ∧ d.role ≤ 32
  w1 : ∀ d ∈ D, 1 ≤ d.wt ∧ d.wt ≤ 1000
  ww : ∀ d ∈ D, ∀ e ∈ D, d.role = e.role → d.wt = e.wt
  i64 : ∀ d ∈ D, I64 d.id
  sm : ∀ d ∈ D, Sm4 d.s
  su : ∀ r, Sm4 (SU (inR D r))
theorem SU_nil : SU [] = fun _ => 0 := rfl
theorem SU_cons (d : Fd) (L : List Fd) : SU (d :: L) = fun k => d.s k + SU L k := by funext k; simp [SU]
theorem SU_app (A B : List Fd) : SU (A ++ B) = fun k => SU A k + SU B k := by funext k; simp [SU]
section
variable {D : List Fd} {d e : Fd} {i r : Int}
theorem TOk.find (h : TOk D) (hd : d ∈ D) : (D.find? fun x => x.id == d.id) = some d := by
  have := h.nd
  clear h
  induction D with
  | nil => cases hd
  | cons a t ih =>
    rw [List.map_cons, List.nodup_cons] at this
    rw [List.find?_cons]
    rcases List.mem_cons.1 hd with rfl | hd
    · simp
    · have hne : a.id ≠ d.id := fun e => this.1 (e ▸ List.mem_map_of_mem hd)
      have hb : (a.id == d.id) = false := by simpa using hne
      rw [hb]; exact ih hd this.2
theorem TOk.one (h : TOk D) (hd : d ∈ D) (he : e ∈ D) (hi : d.id = e.id) : d = e := by
  have h1 := h.find hd; have h2 := h.find he
  rw [hi, h2] at h1
  exact (Option.some.inj h1).symm
theorem TOk.ndR (h : TOk D) (r : Int) : ((inR D r).map (·.id)).Nodup := h.nd.sublist (List.filter_sublist.map _)
theorem find_nodup : ∀ {L : List Fd}, (L.map (·.id)).Nodup → d ∈ L → (L.find? fun x => x.id == d.id) = some d
  | [], _, hd => by cases hd
  | a :: t, hn, hd => by
    rw [List.map_cons, List.nodup_cons] at hn
    rw [List.find?_cons]
    rcases List.mem_cons.1 hd with rfl | hd
    · simp
    · have hne : a.id ≠ d.id := fun e => hn.1 (e ▸ List.mem_map_of_mem hd)
      have hb : (a.id == d.id) = false := by simpa using hne
      rw [hb]; exact find_nodup hn.2 hd
theorem find_mem {L : List Fd} (h : (L.find? fun x => x.id == i) = some d) : d ∈ L ∧ d.id = i := ⟨List.mem_of_find?_eq_some h, by have := List.find?_some h; simpa using this⟩
theorem mem_inR : d ∈ inR D r ↔ d ∈ D ∧ d.role = r := by unfold inR; rw [List.mem_filter]; simp
theorem GO_some (h : TOk D) {c : Cl} : GO D r i = some c ↔ ∃ d, d ∈ D ∧ d.role = r ∧ d.id = i ∧ c = ⟨1, d.s, d.aw⟩ := by
  unfold GO
  constructor
  · intro hc
    obtain ⟨d, hd, rfl⟩ := Option.map_eq_some_iff.1 hc
    obtain ⟨h1, h2⟩ := find_mem hd
    obtain ⟨h3, h4⟩ := mem_inR.1 h1
    exact ⟨d, h3, h4, h2, rfl⟩
  · rintro ⟨d, hd, hr, rfl, rfl⟩
    rw [find_nodup (h.ndR r) (mem_inR.2 ⟨hd, hr⟩)]; rfl
theorem GO_none (h : TOk D) : GO D r i = none ↔ ∀ d ∈ D, d.role = r → d.id ≠ i := by
  constructor
  · intro hn d hd hr hi
    have := (GO_some h (c := ⟨1, d.s, d.aw⟩)).2 ⟨d, hd, hr, hi, rfl⟩
    rw [hn] at this; cases this
  · intro hh
    cases hg : GO D r i with
    | none => rfl
    | some c =>
      obtain ⟨d, h1, h2, h3, _⟩ := (GO_some h).1 hg
      exact absurd h3 (hh d h1 h2)
theorem FR_some (h : TOk D) : FR D i = some r ↔ ∃ d, d ∈ D ∧ d.role = r ∧ d.id = i := by
  unfold FR
  constructor
  · intro hc
    obtain ⟨d, hd, rfl⟩ := Option.map_eq_some_iff.1 hc
    obtain ⟨h1, h2⟩ := find_mem hd
    exact ⟨d, h1, rfl, h2⟩
  · rintro ⟨d, hd, hr, rfl⟩
    rw [h.find hd]; simp [hr]
theorem FR_none (h : TOk D) : FR D i = none ↔ ∀ d ∈ D, d.id ≠ i := by
  constructor
  · intro hn d hd hi
    have := (FR_some h (r := d.role)).2 ⟨d, hd, rfl, hi⟩
    rw [hn] at this; cases this
  · intro hh
    cases hg : FR D i with
    | none => rfl
    | some c =>
      obtain ⟨d, h1, _, h3⟩ := (FR_some h).1 hg
      exact absurd h3 (hh d h1)
theorem GT_none : GT D r = none ↔ ∀ d ∈ D, d.role ≠ r := by
  unfold GT
  constructor
  · intro h d hd hr
    have := mem_inR.2 ⟨hd, hr⟩
    split at h
    · rename_i e; rw [e] at this; cases this
    · cases h
  · intro h
    have : inR D r = [] := List.eq_nil_iff_forall_not_mem.2 fun d hd => h d (mem_inR.1 hd).1 (mem_inR.1 hd).2
    rw [this]
theorem GT_some (h : TOk D) {c : Cl} : GT D r = some c ↔ ∃ d, d ∈ D ∧ d.role = r ∧ c = ⟨d.wt, SU (inR D r), true⟩ := by
  unfold GT
  constructor
  · intro hc
    split at hc
    · cases hc
    · rename_i d L e
      have hm : d ∈ inR D r := by rw [e]; simp
      obtain ⟨h1, h2⟩ := mem_inR.1 hm
      cases hc
      exact ⟨d, h1, h2, by rw [e]⟩
  · rintro ⟨d, hd, hr, rfl⟩
    have hm := mem_inR.2 ⟨hd, hr⟩
    split
    · rename_i e; rw [e] at hm; cases hm
    · rename_i a L e
      have ha : a ∈ inR D r := by rw [e]; simp
      obtain ⟨h1, h2⟩ := mem_inR.1 ha
      rw [h.ww a h1 d hd (h2.trans hr.symm), e]
theorem TOk.nil : TOk [] := ⟨List.nodup_nil, by simp, by simp, by simp, by simp, by simp, fun r k _ => by simp [inR, SU]⟩
theorem SU_nonneg (h : ∀ d ∈ D, Sm4 d.s) {k : Nat} (hk : k < 4) : 0 ≤ SU D k := by
  induction D with
  | nil => simp [SU]
  | cons a t ih =>
    rw [SU_cons]
    have h1 := (h a (by simp) k hk).1
    have h2 := ih fun d hd => h d (by simp [hd])
    show 0 ≤ a.s k + SU t k
    omega
/-- A role has at least what each of its frameworks has. -/
theorem le_SU (h : TOk D) (hd : d ∈ D) {k : Nat} (hk : k < 4) : d.s k ≤ SU (inR D d.role) k := by
  have hm : d ∈ inR D d.role := mem_inR.2 ⟨hd, rfl⟩
  have hs : ∀ e ∈ inR D d.role, Sm4 e.s := fun e he => h.sm e (mem_inR.1 he).1
  generalize inR D d.role = L at hm hs
  induction L with
  | nil => cases hm
  | cons a t ih =>
    rw [SU_cons]
    show d.s k ≤ a.s k + SU t k
    rcases List.mem_cons.1 hm with rfl | hm
    · have := SU_nonneg (D := t) (fun e he => hs e (by simp [he])) hk; omega
    · have := ih hm fun e he => hs e (by simp [he])
      have := (hs a (by simp) k hk).1
      omega
end
end
section
open Go.RowKit Go.Maps
def clF (d : Fd) : Cl := ⟨1, d.s, d.aw⟩
/-- A and B with one framework between them, or none. -/
def sg (A : List Fd) (y : Option Fd) (B : List Fd) : List Fd := A ++ (y.toList ++ B)
section
variable {A B : List Fd} {x y : Option Fd} {i0 r0 i r : Int}
theorem inR_app (A B : List Fd) (r : Int) : inR (A ++ B) r = inR A r ++ inR B r := List.filter_append ..
theorem find_out {L : List Fd} (h : ∀ d ∈ L, d.id ≠ i) : (L.find? fun d => d.id == i) = none := List.find?_eq_none.2 fun d hd => by simpa using h d hd
theorem inR_out {L : List Fd} (h : ∀ d ∈ L, d.id ≠ i) : ((inR L r).find? fun d => d.id == i) = none := find_out fun d hd => h d (mem_inR.1 hd).1
/-- What stands between them is seen at its number and its role alone. -/
theorem GO_sg (hA : ∀ d ∈ A ++ B, d.id ≠ i0) (hy : ∀ d, y = some d → d.id = i0 ∧ d.role = r0) : GO (sg A y B) r = if r = r0 then upd (GO (A ++ B) r) i0 (y.map clF) else GO (A ++ B) r := by
  have hAi : ∀ d ∈ A, d.id ≠ i0 := fun d hd => hA d (by simp [hd])
  have hBi : ∀ d ∈ B, d.id ≠ i0 := fun d hd => hA d (by simp [hd])
  cases y with
  | none =>
    simp only [sg, Option.toList_none, List.nil_append, Option.map_none]
    split
    · funext i
      unfold upd
      split
      · rename_i e
        subst e
        unfold GO
        rw [inR_out hA]; rfl
      · rfl
    · rfl
  | some d =>
    obtain ⟨h1, h2⟩ := hy d rfl
    simp only [sg, Option.toList_some, List.singleton_append, Option.map_some]
    by_cases hr : r = r0
    · rw [if_pos hr]
      funext i
      unfold upd GO
      rw [inR_app, inR_app]
      have hd : inR (d :: B) r = d :: inR B r := by unfold inR; rw [List.filter_cons, if_pos (by simp [h2, hr])]
      rw [hd, List.find?_append, List.find?_append, List.find?_cons]
      by_cases hi : i = i0
      · subst hi
        rw [if_pos rfl, inR_out hAi]
        simp [h1, clF]
      · have hne : (d.id == i) = false := by simp; rw [h1]; exact fun e => hi e.symm
        rw [if_neg hi, hne]
    · rw [if_neg hr]
      unfold GO
      rw [inR_app, inR_app]
      have hd : inR (d :: B) r = inR B r := by unfold inR; rw [List.filter_cons, if_neg (by simp [h2]; exact fun e => hr e.symm)]
      rw [hd]
theorem FR_sg (hA : ∀ d ∈ A ++ B, d.id ≠ i0) (hy : ∀ d, y = some d → d.id = i0 ∧ d.role = r0) : FR (sg A y B) = upd (FR (A ++ B)) i0 (y.map fun _ => r0) := by
  have hAi : ∀ d ∈ A, d.id ≠ i0 := fun d hd => hA d (by simp [hd])
  cases y with
  | none =>
    simp only [sg, Option.toList_none, List.nil_append, Option.map_none]
    funext i
    unfold upd
    split
    · rename_i e
      subst e
      unfold FR
      rw [find_out hA]; rfl
    · rfl
  | some d =>
    obtain ⟨h1, h2⟩ := hy d rfl
    simp only [sg, Option.toList_some, List.singleton_append, Option.map_some]
    funext i
    unfold upd FR
    rw [List.find?_append, List.find?_append, List.find?_cons]
    by_cases hi : i = i0
    · subst hi
      rw [if_pos rfl, find_out hAi]
      simp [h1, h2]
    · have hne : (d.id == i) = false := by simp; rw [h1]; exact fun e => hi e.symm
      rw [if_neg hi, hne]
def so (y : Option Fd) (k : Nat) : Int := match y with | some d => d.s k | none => 0
theorem inR_sg (hy : ∀ d, y = some d → d.role = r0) : inR (sg A y B) r = inR A r ++ ((if r = r0 then y.toList else []) ++ inR B r) := by
  unfold sg
  rw [inR_app, inR_app]
  congr 2
  cases y with
  | none => simp [inR]
  | some d =>
    have := hy d rfl
    unfold inR
    simp only [Option.toList_some, List.filter_cons, List.filter_nil]
    by_cases hr : r = r0
    · rw [if_pos (by simp [this, hr]), if_pos hr]
    · rw [if_neg (by simp [this]; exact fun e => hr e.symm), if_neg hr]
theorem SU_sg (hy : ∀ d, y = some d → d.role = r0) (k : Nat) : SU (inR (sg A y B) r) k = SU (inR (A ++ B) r) k + if r = r0 then so y k else 0 := by
  rw [inR_sg hy, inR_app, SU_app, SU_app, SU_app]
  have : SU (if r = r0 then y.toList else []) k = if r = r0 then so y k else 0 := by
    split
    · cases y <;> simp [SU, so]
    · simp [SU]
  simp only [this]
  omega
/-- The frameworks of a role are none, where there are none. -/
theorem GT_sg_ne (hy : ∀ d, y = some d → d.role = r0) (hr : r ≠ r0) : GT (sg A y B) r = GT (A ++ B) r := by
  unfold GT
  rw [inR_sg hy, if_neg hr, inR_app]; rfl
theorem GT_cons_out {L : List Fd} (h : inR (A ++ B) r0 = []) : inR A r0 = [] ∧ inR B r0 = [] := by
  rw [inR_app] at h; exact List.append_eq_nil_iff.1 h
end
end
section
open Go.RowKit Go.Maps
section
variable {A B D : List Fd} {x x' : Fd} {i r : Int}
theorem sg_some (A B : List Fd) (x : Fd) : sg A (some x) B = A ++ x :: B := by simp [sg]
theorem sg_none (A B : List Fd) : sg A none B = A ++ B := by simp [sg]
theorem TOk.apart (h : TOk (A ++ x :: B)) : ∀ d ∈ A ++ B, d.id ≠ x.id := fun d hd e => by
  have hn := h.nd
  rw [List.map_append, List.map_cons] at hn
  have h1 := List.nodup_append.1 hn
  have h2 := List.nodup_cons.1 h1.2.1
  rcases List.mem_append.1 hd with hd | hd
  · exact h1.2.2 d.id (List.mem_map_of_mem hd) x.id (by simp) e
  · have hm : d.id ∈ B.map (·.id) := List.mem_map_of_mem hd
    rw [e] at hm; exact h2.1 hm
/-- x' in the place of x: the same framework, of the same role and weight. -/
structure Alike (x x' : Fd) : Prop where
  id : x'.id = x.id
  role : x'.role = x.role
  wt : x'.wt = x.wt
theorem GO_set (h : TOk (A ++ x :: B)) (ha : Alike x x') : GO (A ++ x' :: B) r = if r = x.role then upd (GO (A ++ x :: B) r) x.id (some (clF x')) else GO (A ++ x :: B) r := by
  have h0 := h.apart
  have h1 := GO_sg (A := A) (B := B) (y := some x) (i0 := x.id) (r0 := x.role) (r := r) h0 (fun d e => by cases e; exact ⟨rfl, rfl⟩)
  have h2 := GO_sg (A := A) (B := B) (y := some x') (i0 := x.id) (r0 := x.role) (r := r) h0 (fun d e => by cases e; exact ⟨ha.id, ha.role⟩)
  rw [sg_some] at h1 h2
  rw [h1, h2]
  split
  · simp only [Option.map_some, upd_upd]
  · rfl
theorem FR_set (h : TOk (A ++ x :: B)) (ha : Alike x x') : FR (A ++ x' :: B) = FR (A ++ x :: B) := by
  have h0 := h.apart
  have h1 := FR_sg (A := A) (B := B) (y := some x) (i0 := x.id) (r0 := x.role) h0 (fun d e => by cases e; exact ⟨rfl, rfl⟩)
  have h2 := FR_sg (A := A) (B := B) (y := some x') (i0 := x.id) (r0 := x.role) h0 (fun d e => by cases e; exact ⟨ha.id, ha.role⟩)
  rw [sg_some] at h1 h2
  rw [h1, h2]; rfl
theorem SU_set (ha : Alike x x') (k : Nat) : SU (inR (A ++ x' :: B) r) k = SU (inR (A ++ x :: B) r) k + if r = x.role then x'.s k - x.s k else 0 := by
  have h1 := SU_sg (A := A) (B := B) (y := some x) (r0 := x.role) (r := r) (fun d e => by cases e; rfl) k
  have h2 := SU_sg (A := A) (B := B) (y := some x') (r0 := x.role) (r := r) (fun d e => by cases e; exact ha.role) k
  rw [sg_some] at h1 h2
  rw [h1, h2]
  split
  · simp only [so]; omega
  · omega
theorem TOk.set (h : TOk (A ++ x :: B)) (ha : Alike x x') (hs : Sm4 x'.s) (hu : Sm4 (SU (inR (A ++ x' :: B) x.role))) : TOk (A ++ x' :: B) := by
  have hm : ∀ d, d ∈ A ++ x' :: B → d = x' ∨ d ∈ A ++ x :: B := fun d hd => by
    rcases List.mem_append.1 hd with hd | hd
    · exact .inr (by simp [hd])
    · rcases List.mem_cons.1 hd with rfl | hd
      · exact .inl rfl
      · exact .inr (by simp [hd])
  have hx : x ∈ A ++ x :: B := by simp
  refine ⟨?_, fun d hd => ?_, fun d hd => ?_, fun d hd e he hr => ?_, fun d hd => ?_, fun d hd => ?_, fun r => ?_⟩
  · have := h.nd
    rw [List.map_append, List.map_cons] at this ⊢
    rw [ha.id]; exact this
  · rcases hm d hd with rfl | hd
    · rw [ha.role]; exact h.r1 x hx
    · exact h.r1 d hd
  · rcases hm d hd with rfl | hd
    · rw [ha.wt]; exact h.w1 x hx
    · exact h.w1 d hd
  · rcases hm d hd with d1 | d1 <;> rcases hm e he with e1 | e1
    · rw [d1, e1]
    · rw [d1] at hr ⊢; rw [ha.wt]; exact h.ww x hx e e1 (ha.role.symm.trans hr)
    · rw [e1] at hr ⊢; rw [ha.wt]; exact h.ww d d1 x hx (hr.trans ha.role)
    · exact h.ww d d1 e e1 hr
  · rcases hm d hd with rfl | hd
    · rw [ha.id]; exact h.i64 x hx
    · exact h.i64 d hd
  · rcases hm d hd with rfl | hd
    · exact hs
    · exact h.sm d hd
  · by_cases hr : r = x.role
    · rw [hr]; exact hu
    · have := h.su r
      intro k hk
      rw [SU_set ha, if_neg hr, Int.add_zero]
      exact this k hk
theorem GT_set (h : TOk (A ++ x :: B)) (ha : Alike x x') (hs : Sm4 x'.s) (hu : Sm4 (SU (inR (A ++ x' :: B) x.role))) : GT (A ++ x' :: B) = upd (GT (A ++ x :: B)) x.role (some ⟨x.wt, SU (inR (A ++ x' :: B) x.role), true⟩) := by
  funext r
  unfold upd
  split
  · rename_i hr
    rw [hr]
    exact (GT_some (h.set ha hs hu)).2 ⟨x', by simp, ha.role, by rw [ha.wt]⟩
  · rename_i hr
    have h1 := GT_sg_ne (A := A) (B := B) (y := some x) (r0 := x.role) (r := r) (fun d e => by cases e; rfl) hr
    have h2 := GT_sg_ne (A := A) (B := B) (y := some x') (r0 := x.role) (r := r) (fun d e => by cases e; exact ha.role) hr
    rw [sg_some] at h1 h2
    rw [h1, h2]
/-- Awake or not, a role has what it has. -/
theorem SU_same (ha : Alike x x') (hs : x'.s = x.s) : SU (inR (A ++ x' :: B) r) = SU (inR (A ++ x :: B) r) := by
  funext k
  rw [SU_set ha, hs]
  split <;> omega
theorem GT_here (h : TOk (A ++ x :: B)) : GT (A ++ x :: B) x.role = some ⟨x.wt, SU (inR (A ++ x :: B) x.role), true⟩ := (GT_some h).2 ⟨x, by simp, rfl, rfl⟩
theorem GO_here (h : TOk (A ++ x :: B)) : GO (A ++ x :: B) x.role x.id = some (clF x) := (GO_some h).2 ⟨x, by simp, rfl, rfl, rfl⟩
theorem parted {D : List Fd} (h : x ∈ D) : ∃ A B, D = A ++ x :: B := List.append_of_mem h
-- taken out
theorem GO_del (h : TOk (A ++ x :: B)) : GO (A ++ B) r = if r = x.role then upd (GO (A ++ x :: B) r) x.id none else GO (A ++ x :: B) r := by
  have h0 := h.apart
  have h1 := GO_sg (A := A) (B := B) (y := some x) (i0 := x.id) (r0 := x.role) (r := r) h0 (fun d e => by cases e; exact ⟨rfl, rfl⟩)
  have h2 := GO_sg (A := A) (B := B) (y := none) (i0 := x.id) (r0 := x.role) (r := r) h0 (fun d e => by cases e)
  rw [sg_some] at h1
  rw [sg_none] at h2
  rw [h1]
  split at h2
  · rename_i hr
    rw [if_pos hr, if_pos hr, upd_upd]; exact h2
  · rename_i hr
    rw [if_neg hr, if_neg hr]
theorem FR_del (h : TOk (A ++ x :: B)) : FR (A ++ B) = upd (FR (A ++ x :: B)) x.id none := by
  have h0 := h.apart
  have h1 := FR_sg (A := A) (B := B) (y := some x) (i0 := x.id) (r0 := x.role) h0 (fun d e => by cases e; exact ⟨rfl, rfl⟩)
  have h2 := FR_sg (A := A) (B := B) (y := none) (i0 := x.id) (r0 := x.role) h0 (fun d e => by cases e)
  rw [sg_some] at h1
  rw [sg_none] at h2
  rw [h1]
  funext j
  have := congrFun h2 j
  unfold upd at this ⊢
  split
  · rename_i e; rw [if_pos e] at this; exact this
  · rfl
theorem SU_del (k : Nat) : SU (inR (A ++ B) r) k = SU (inR (A ++ x :: B) r) k - if r = x.role then x.s k else 0 := by
  have h1 := SU_sg (A := A) (B := B) (y := some x) (r0 := x.role) (r := r) (fun d e => by cases e; rfl) k
  rw [sg_some] at h1
  rw [h1]
  split
  · simp only [so]; omega
  · omega
theorem TOk.del (h : TOk (A ++ x :: B)) : TOk (A ++ B) := by
  have hsub : (A ++ B).Sublist (A ++ x :: B) := List.Sublist.append (List.Sublist.refl _) (List.sublist_cons_self ..)
  have hm : ∀ d ∈ A ++ B, d ∈ A ++ x :: B := fun d hd => hsub.subset hd
  refine ⟨h.nd.sublist (hsub.map _), fun d hd => h.r1 d (hm d hd), fun d hd => h.w1 d (hm d hd), fun d hd e he => h.ww d (hm d hd) e (hm e he), fun d hd => h.i64 d (hm d hd), fun d hd => h.sm d (hm d hd), fun r k hk => ?_⟩
  have h1 := h.su r k hk
  have h2 := SU_nonneg (D := inR (A ++ B) r) (fun d hd => h.sm d (hm d (mem_inR.1 hd).1)) hk
  have h3 := SU_del (A := A) (B := B) (x := x) (r := r) k
  have h4 := (h.sm x (by simp) k hk).1
  refine ⟨h2, ?_⟩
  rw [h3]
  split <;> omega
theorem GT_del_ne (hr : r ≠ x.role) : GT (A ++ B) r = GT (A ++ x :: B) r := by
  have h1 := GT_sg_ne (A := A) (B := B) (y := some x) (r0 := x.role) (r := r) (fun d e => by cases e; rfl) hr
  rw [sg_some] at h1
  exact h1.symm
/-- Behind the removal the role is gone, or has what is left. -/
theorem GT_del (h : TOk (A ++ x :: B)) : GT (A ++ B) = upd (GT (A ++ x :: B)) x.role (if inR (A ++ B) x.role = [] then none else some ⟨x.wt, SU (inR (A ++ B) x.role), true⟩) := by
  funext r
  unfold upd
  split
  · rename_i hr
    rw [hr]
    split
    · rename_i e
      unfold GT; rw [e]
    · rename_i e
      obtain ⟨d, L, hd⟩ := List.exists_cons_of_ne_nil e
      have hm : d ∈ inR (A ++ B) x.role := by rw [hd]; simp
      obtain ⟨h1, h2⟩ := mem_inR.1 hm
      refine (GT_some h.del).2 ⟨d, h1, h2, ?_⟩
      have hsub : (A ++ B).Sublist (A ++ x :: B) := List.Sublist.append (List.Sublist.refl _) (List.sublist_cons_self ..)
      rw [h.ww d (hsub.subset h1) x (by simp) h2]
  · rename_i hr
    exact GT_del_ne hr
-- put in, behind all
theorem GO_put (h : TOk D) (hn : ∀ d ∈ D, d.id ≠ x.id) : GO (D ++ [x]) r = if r = x.role then upd (GO D r) x.id (some (clF x)) else GO D r := by
  have h2 := GO_sg (A := D) (B := []) (y := some x) (i0 := x.id) (r0 := x.role) (r := r) (by simpa using hn) (fun d e => by cases e; exact ⟨rfl, rfl⟩)
  rw [sg_some, List.append_nil] at h2
  exact h2
theorem FR_put (hn : ∀ d ∈ D, d.id ≠ x.id) : FR (D ++ [x]) = upd (FR D) x.id (some x.role) := by
  have h2 := FR_sg (A := D) (B := []) (y := some x) (i0 := x.id) (r0 := x.role) (by simpa using hn) (fun d e => by cases e; exact ⟨rfl, rfl⟩)
  rw [sg_some, List.append_nil] at h2
  exact h2
theorem SU_put (k : Nat) : SU (inR (D ++ [x]) r) k = SU (inR D r) k + if r = x.role then x.s k else 0 := by
  have h1 := SU_sg (A := D) (B := []) (y := some x) (r0 := x.role) (r := r) (fun d e => by cases e; rfl) k
  rw [sg_some, List.append_nil] at h1
  exact h1
/-- A framework that may be put in: it is new, and has nothing. -/
structure New (D : List Fd) (x : Fd) : Prop where
  id : ∀ d ∈ D, d.id ≠ x.id
  r1 : 1 ≤ x.role ∧ x.role ≤ 32
  w1 : 1 ≤ x.wt ∧ x.wt ≤ 1000
  ww : ∀ d ∈ D, d.role = x.role → d.wt = x.wt
  i64 : I64 x.id
  s0 : x.s = fun _ => 0
theorem SU_new (hx : New D x) : SU (inR (D ++ [x]) r) = SU (inR D r) := by
  funext k
  rw [SU_put, hx.s0]
  split
  · show _ + (0 : Int) = _; omega
  · omega
theorem TOk.put (h : TOk D) (hx : New D x) : TOk (D ++ [x]) := by
  have hm : ∀ d, d ∈ D ++ [x] → d ∈ D ∨ d = x := fun d hd => by simpa using hd
  refine ⟨?_, fun d hd => ?_, fun d hd => ?_, fun d hd e he hr => ?_, fun d hd => ?_, fun d hd => ?_, fun r => ?_⟩
  · rw [List.map_append]
    refine List.nodup_append.2 ⟨h.nd, by simp, fun a ha b hb e => ?_⟩
    simp at hb
    obtain ⟨d, hd, rfl⟩ := List.mem_map.1 ha
    exact hx.id d hd (e.trans hb)
  · rcases hm d hd with hd | rfl
    · exact h.r1 d hd
    · exact hx.r1
  · rcases hm d hd with hd | rfl
    · exact h.w1 d hd
    · exact hx.w1
  · rcases hm d hd with d1 | d1 <;> rcases hm e he with e1 | e1
    · exact h.ww d d1 e e1 hr
    · rw [e1] at hr ⊢; exact hx.ww d d1 hr
    · rw [d1] at hr ⊢; exact (hx.ww e e1 hr.symm).symm
    · rw [d1, e1]
  · rcases hm d hd with hd | rfl
    · exact h.i64 d hd
    · exact hx.i64
  · rcases hm d hd with hd | rfl
    · exact h.sm d hd
    · rw [hx.s0]; exact fun k _ => ⟨Int.le_refl 0, show (0 : Int) ≤ 9007199254740992 by decide⟩
  · rw [SU_new hx]; exact h.su r
theorem GT_put (h : TOk D) (hx : New D x) : GT (D ++ [x]) = upd (GT D) x.role (some ⟨x.wt, SU (inR D x.role), true⟩) := by
  funext r
  unfold upd
  split
  · rename_i hr
    rw [hr]
    exact (GT_some (h.put hx)).2 ⟨x, by simp, rfl, by rw [SU_new hx]⟩
  · rename_i hr
    have h1 := GT_sg_ne (A := D) (B := []) (y := some x) (r0 := x.role) (r := r) (fun d e => by cases e; rfl) hr
    rw [sg_some, List.append_nil] at h1
    exact h1
end
end
section
open Go.RowKit Go.Maps
attribute [local go_sem] ext_cell ext_frozen extC_cell extC_frozen Mix.calmUpon Mix.mUpon
theorem keyI : Keyed Tryz.prog 3 := int_keyed Tryz.underlying3
/-- Roles as keys. -/
def KI : KEnc Tryz.prog 3 Int where
  enc := fun x => .int .i64 x
  ok := I64
  lit := fun x h => ⟨.int .i64 x, by simp [keyOf, mapKey, Tryz.underlying3, j64_lit h]⟩
  inj := fun x y _ _ h => by injection h
/-- A sorter in memory. -/
structure Hd where
  sp : Nat
  M : Nat
  tp : Nat
  T : Nat → Int
  g : Int → Option Cl
  L : List Pl
/-- The object's own block. -/
def TB (w : World) (p : Nat) (T : Nat → Int) (sp MR MF : Nat) : Prop := w.heap[p]? = some (.cells #[.int .i64 (T 0), .int .i64 (T 1), .int .i64 (T 2), .int .i64 (T 3), .pointer (some ⟨sp, 0, none⟩), .map (some MR), .map (some MF)] 69 (0, 0))
section
variable {w w' : World} {p sp MR MF : Nat} {T : Nat → Int} {F : Nat → Prop}
theorem TB.lt (h : TB w p T sp MR MF) : p < w.heap.size := (Array.getElem?_eq_some_iff.1 h).1
theorem TB.chg (h : TB w p T sp MR MF) (hc : Chg F w w') (hf : ¬ F p) : TB w' p T sp MR MF := (hc.block _ h.lt hf).trans h
theorem TB.below (h : TB w p T sp MR MF) (hb : Below w.heap.size w w') : TB w' p T sp MR MF := (hb.block _ h.lt).trans h
theorem TB.cells (h : TB w p T sp MR MF) : w.cell? ⟨p, 0, none⟩ = some (.int .i64 (T 0)) ∧ w.cell? ⟨p, 1, none⟩ = some (.int .i64 (T 1)) ∧ w.cell? ⟨p, 2, none⟩ = some (.int .i64 (T 2)) ∧ w.cell? ⟨p, 3, none⟩ = some (.int .i64 (T 3)) ∧ w.cell? ⟨p, 4, none⟩ = some (.pointer (some ⟨sp, 0, none⟩)) ∧ w.cell? ⟨p, 5, none⟩ = some (.map (some MR)) ∧ w.cell? ⟨p, 6, none⟩ = some (.map (some MF)) := by
  unfold TB at h; simp [World.cell?, h]
theorem TB.fz (h : TB w p T sp MR MF) (o : Nat) : w.frozen? ⟨p, o, none⟩ = false := by unfold TB at h; simp [World.frozen?, h]
theorem TB.set4 (h : TB w p T sp MR MF) (n : Nat → Int) : TB ((((w.setCell ⟨p, 0, none⟩ (.int .i64 (n 0))).setCell ⟨p, 1, none⟩ (.int .i64 (n 1))).setCell ⟨p, 2, none⟩ (.int .i64 (n 2))).setCell ⟨p, 3, none⟩ (.int .i64 (n 3))) p n sp MR MF := heap_setCell_at _ (heap_setCell_at _ (heap_setCell_at _ (heap_setCell_at _ h)))
end
/-- The sorter d stands in memory; its blocks bear the label r. -/
structure HM (W w : World) (lab : Nat → Int) (r : Int) (d : Hd) : Prop where
  sm : SM w d.sp d.M d.tp d.T d.g d.L
  s9 : S9 d.T d.g d.L
  l1 : lab d.sp = r
  l2 : lab d.M = r
  l3 : lab d.tp = r
  b1 : W.heap.size ≤ d.sp
  b2 : W.heap.size ≤ d.M
  b3 : W.heap.size ≤ d.tp
section
variable {W w w' : World} {lab lab' : Nat → Int} {r q : Int} {d d' : Hd} {F : Nat → Prop}
theorem SM.nonode {sp M tp : Nat} {T : Nat → Int} {G : Int → Option Cl} {L : List Pl} (h : SM w sp M tp T G L) : NoNode (SF sp M tp) w := fun b hb cs e => by
  rcases hb with hb | hb | hb
  · exact h.nonodeS b hb cs e
  · exact h.nonodeM b hb cs e
  · exact h.t.nonode b hb cs e
theorem SM.chgF {sp M tp : Nat} {T : Nat → Int} {G : Int → Option Cl} {L : List Pl} (h : SM w sp M tp T G L) (hc : Chg F w w') (n1 : ¬ F sp) (n2 : ¬ F M) (n3 : ¬ F tp) (hF : NoNode F w) : SM w' sp M tp T G L := ⟨h.o.chg hc n1, h.m.chg hc n2, h.t.chg hc n3 hF⟩
theorem HM.lt (h : HM W w lab r d) : d.sp < w.heap.size ∧ d.M < w.heap.size ∧ d.tp < w.heap.size := ⟨h.sm.o.lt, h.sm.m.lt, h.sm.t.lt⟩
theorem HM.chg (h : HM W w lab r d) (hc : Chg F w w') (hn : ∀ b, lab b = r → b < w.heap.size → ¬ F b) (hF : NoNode F w) : HM W w' lab r d :=
  ⟨h.sm.chgF hc (hn _ h.l1 h.lt.1) (hn _ h.l2 h.lt.2.1) (hn _ h.l3 h.lt.2.2) hF, h.s9, h.l1, h.l2, h.l3, h.b1, h.b2, h.b3⟩
theorem HM.below (h : HM W w lab r d) (hb : Below w.heap.size w w') : HM W w' lab r d := ⟨h.sm.below hb, h.s9, h.l1, h.l2, h.l3, h.b1, h.b2, h.b3⟩
theorem HM.relab (h : HM W w lab r d) (hl : ∀ b, b < w.heap.size → lab' b = lab b) : HM W w lab' r d :=
  ⟨h.sm, h.s9, (hl _ h.lt.1).trans h.l1, (hl _ h.lt.2.1).trans h.l2, (hl _ h.lt.2.2).trans h.l3, h.b1, h.b2, h.b3⟩
/-- What a call on one sorter leaves of it. -/
theorem HM.rd (h : HM W w lab r d) (hW : W.heap.size ≤ w.heap.size) {s : St} {e : Ending} (hr : RD d.sp d.M d.tp s w e w') :
    e = .returned (.int .i64 s.1) ∧ ∃ d', d'.sp = d.sp ∧ d'.T = s.2.1 ∧ d'.g = s.2.2 ∧ HM W w' (fun b => if b < w.heap.size then lab b else if b = d'.tp then r else lab b) r d' ∧ Chg (SF d.sp d.M d.tp) w w' := by
  obtain ⟨he, tq, X, h1, h2, h3, h4⟩ := hr
  have hl := h.lt
  refine ⟨he, ⟨d.sp, d.M, tq, s.2.1, s.2.2, X⟩, rfl, rfl, rfl, ⟨h1, h2, ?_, ?_, ?_, h.b1, h.b2, ?_⟩, h3⟩
  · show (if d.sp < w.heap.size then _ else _) = r
    rw [if_pos hl.1]; exact h.l1
  · show (if d.M < w.heap.size then _ else _) = r
    rw [if_pos hl.2.1]; exact h.l2
  · show (if tq < w.heap.size then _ else if tq = tq then r else _) = r
    rw [if_pos rfl]
    split
    · rcases h4 with h4 | h4
      · rw [h4]; exact h.l3
      · omega
    · rfl
  · show W.heap.size ≤ tq
    have := h.b3
    rcases h4 with h4 | h4 <;> omega
end
/-- The whole object. -/
structure TN (W w : World) (p MR MF : Nat) (lab : Nat → Int) (T : Nat → Int) (t : Hd) (Q : Int → Option Hd) (fr : Int → Option Int) : Prop where
  bel : Below W.heap.size W w
  b : TB w p T t.sp MR MF
  t : HM W w lab 0 t
  q : MapF KI w MR Q (fun h => ptr h.sp)
  f : MapF K64 w MF fr (fun r => .int .i64 r)
  each : ∀ r h, Q r = some h → HM W w lab r h ∧ 1 ≤ r
  l0 : lab p = -1 ∧ lab MR = -1 ∧ lab MF = -1 ∧ MR ≠ MF
  b0 : W.heap.size ≤ p ∧ W.heap.size ≤ MR ∧ W.heap.size ≤ MF
section
variable {W w w' : World} {p MR MF : Nat} {lab lab' : Nat → Int} {T : Nat → Int} {t d d' : Hd} {Q : Int → Option Hd} {fr : Int → Option Int} {r : Int} {F : Nat → Prop}
theorem TN.lt (h : TN W w p MR MF lab T t Q fr) : p < w.heap.size ∧ MR < w.heap.size ∧ MF < w.heap.size := ⟨h.b.lt, h.q.lt, h.f.lt⟩
theorem TN.below (h : TN W w p MR MF lab T t Q fr) (hb : Below w.heap.size w w') : TN W w' p MR MF lab T t Q fr where
  bel := bt h.bel hb
  b := h.b.below hb
  t := h.t.below hb
  q := h.q.chg (.of_below (fun _ => False) hb) id
  f := h.f.chg (.of_below (fun _ => False) hb) id
  each := fun r d e => ⟨(h.each r d e).1.below hb, (h.each r d e).2⟩
  l0 := h.l0
  b0 := h.b0
theorem TN.relab (h : TN W w p MR MF lab T t Q fr) (hl : ∀ b, b < w.heap.size → lab' b = lab b) : TN W w p MR MF lab' T t Q fr where
  bel := h.bel
  b := h.b
  t := h.t.relab hl
  q := h.q
  f := h.f
  each := fun r d e => ⟨(h.each r d e).1.relab hl, (h.each r d e).2⟩
  l0 := ⟨(hl _ h.lt.1).trans h.l0.1, (hl _ h.lt.2.1).trans h.l0.2.1, (hl _ h.lt.2.2).trans h.l0.2.2.1, h.l0.2.2.2⟩
  b0 := h.b0
/-- Blocks of other labels than r's change nothing but r's sorter. -/
theorem SF_lab (h : HM W w lab r d) {b : Nat} (e : SF d.sp d.M d.tp b) : lab b = r := by
  rcases e with e | e | e
  · rw [e]; exact h.l1
  · rw [e]; exact h.l2
  · rw [e]; exact h.l3
/-- A call on the sorter of roles. -/
theorem TN.tier (h : TN W w p MR MF lab T t Q fr) {s : St} {e : Ending} (hr : RD t.sp t.M t.tp s w e w') :
    e = .returned (.int .i64 s.1) ∧ ∃ t' lab', t'.T = s.2.1 ∧ t'.g = s.2.2 ∧ TN W w' p MR MF lab' T t' Q fr ∧ (∀ b, b < w.heap.size → lab' b = lab b) ∧ Chg (fun b => lab b = 0) w w' := by
  obtain ⟨he, t', h1, h2, h3, h4, h5⟩ := h.t.rd h.bel.size hr
  have hc : Chg (fun b => lab b = 0) w w' := h5.mono fun b e => SF_lab h.t e
  have hlab : ∀ b, b < w.heap.size → (fun b => if b < w.heap.size then lab b else if b = t'.tp then (0 : Int) else lab b) b = lab b := fun b hb => if_pos hb
  refine ⟨he, t', _, h2, h3, ⟨?_, ?_, h4, ?_, ?_, fun r d hq => ?_, ?_, h.b0⟩, hlab, hc⟩
  · exact h.bel.trans (h5.below h.bel.size fun k e => by
      have q1 := h.t.b1; have q2 := h.t.b2; have q3 := h.t.b3
      rcases e with e | e | e <;> omega)
  · rw [h1]; exact h.b.chg hc fun e => by have := h.l0.1; omega
  · exact h.q.chg hc fun e => by have := h.l0.2.1; omega
  · exact h.f.chg hc fun e => by have := h.l0.2.2.1; omega
  · have hd := h.each r d hq
    have := (hd.1.chg h5 (fun b e hb e' => by have := SF_lab h.t e'; omega) h.t.sm.nonode)
    refine ⟨⟨this.sm, this.s9, ?_, ?_, ?_, this.b1, this.b2, this.b3⟩, hd.2⟩
    · exact (hlab _ hd.1.lt.1).trans hd.1.l1
    · exact (hlab _ hd.1.lt.2.1).trans hd.1.l2
    · exact (hlab _ hd.1.lt.2.2).trans hd.1.l3
  · exact ⟨(hlab _ h.lt.1).trans h.l0.1, (hlab _ h.lt.2.1).trans h.l0.2.1, (hlab _ h.lt.2.2).trans h.l0.2.2.1, h.l0.2.2.2⟩
/-- A call on the sorter of the role r. -/
theorem TN.role' (h : TN W w p MR MF lab T t Q fr) (hq : Q r = some d) {s : St} {e : Ending} (hr : RD d.sp d.M d.tp s w e w') :
    e = .returned (.int .i64 s.1) ∧ ∃ d' lab', d'.T = s.2.1 ∧ d'.g = s.2.2 ∧ TN W w' p MR MF lab' T t (upd Q r (some d')) fr ∧ (∀ b, b < w.heap.size → lab' b = lab b) ∧ Chg (fun b => lab b = r) w w' ∧ d'.sp = d.sp := by
  have hd0 := h.each r d hq
  obtain ⟨he, d', h1, h2, h3, h4, h5⟩ := hd0.1.rd h.bel.size hr
  have hc : Chg (fun b => lab b = r) w w' := h5.mono fun b e => SF_lab hd0.1 e
  have hlab : ∀ b, b < w.heap.size → (fun b => if b < w.heap.size then lab b else if b = d'.tp then r else lab b) b = lab b := fun b hb => if_pos hb
  refine ⟨he, d', _, h2, h3, ⟨?_, ?_, ?_, ?_, ?_, fun q x hx => ?_, ?_, h.b0⟩, hlab, hc, h1⟩
  · exact h.bel.trans (h5.below h.bel.size fun k e => by
      have q1 := hd0.1.b1; have q2 := hd0.1.b2; have q3 := hd0.1.b3
      rcases e with e | e | e <;> omega)
  · exact h.b.chg hc fun e => by have := h.l0.1; have := hd0.2; omega
  · have := h.t.chg h5 (fun b e hb e' => by have := SF_lab hd0.1 e'; have := hd0.2; omega) hd0.1.sm.nonode
    exact ⟨this.sm, this.s9, (hlab _ h.t.lt.1).trans h.t.l1, (hlab _ h.t.lt.2.1).trans h.t.l2, (hlab _ h.t.lt.2.2).trans h.t.l3, this.b1, this.b2, this.b3⟩
  · obtain ⟨L, hL, hx⟩ := h.q.chg hc fun e => by have := h.l0.2.1; have := hd0.2; omega
    refine ⟨L, hL, fun x => ?_⟩
    rw [hx x]
    unfold upd
    split
    · rename_i e
      rw [e, hq]
      simp [h1]
    · rfl
  · exact h.f.chg hc fun e => by have := h.l0.2.2.1; have := hd0.2; omega
  · unfold upd at hx
    split at hx
    · rename_i e
      cases hx
      subst e
      exact ⟨h4, hd0.2⟩
    · rename_i hne
      have hd := h.each q x hx
      have := hd.1.chg h5 (fun b e hb e' => by have := SF_lab hd0.1 e'; exact hne (e.symm.trans this)) hd0.1.sm.nonode
      exact ⟨⟨this.sm, this.s9, (hlab _ hd.1.lt.1).trans hd.1.l1, (hlab _ hd.1.lt.2.1).trans hd.1.l2, (hlab _ hd.1.lt.2.2).trans hd.1.l3, this.b1, this.b2, this.b3⟩, hd.2⟩
  · exact ⟨(hlab _ h.lt.1).trans h.l0.1, (hlab _ h.lt.2.1).trans h.l0.2.1, (hlab _ h.lt.2.2).trans h.l0.2.2.1, h.l0.2.2.2⟩
theorem TN.role (h : TN W w p MR MF lab T t Q fr) (hq : Q r = some d) {s : St} {e : Ending} (hr : RD d.sp d.M d.tp s w e w') :
    e = .returned (.int .i64 s.1) ∧ ∃ d' lab', d'.T = s.2.1 ∧ d'.g = s.2.2 ∧ TN W w' p MR MF lab' T t (upd Q r (some d')) fr ∧ (∀ b, b < w.heap.size → lab' b = lab b) ∧ Chg (fun b => lab b = r) w w' := by
  obtain ⟨he, d', l, h1, h2, h3, h4, h5, _⟩ := h.role' hq hr
  exact ⟨he, d', l, h1, h2, h3, h4, h5⟩
end
end
section
open Go.RowKit Go.Maps
attribute [local go_sem] ext_cell ext_frozen extC_cell extC_frozen Mix.calmUpon Mix.mUpon
/-- What stands in memory is T and the frameworks D. -/
structure TD (T : Nat → Int) (D : List Fd) (t : Hd) (Q : Int → Option Hd) (fr : Int → Option Int) : Prop where
  ok : TOk D
  tT : t.T = T
  tg : t.g = GT D
  dom : ∀ r, (Q r).isSome = (GT D r).isSome
  each : ∀ r h, Q r = some h → h.T = T ∧ h.g = GO D r
  fr : fr = FR D
section
variable {W w w' : World} {p MR MF : Nat} {lab : Nat → Int} {T : Nat → Int} {t d : Hd} {Q : Int → Option Hd} {fr : Int → Option Int} {D : List Fd} {i r : Int}
theorem TD.role (h : TD T D t Q fr) (hf : fr i = some r) : ∃ d, Q r = some d ∧ d.T = T ∧ d.g = GO D r ∧ ∃ c, GO D r i = some c := by
  rw [h.fr] at hf
  obtain ⟨x, hx, hr, hi⟩ := (FR_some h.ok).1 hf
  have hs : (GT D r).isSome = true := by rw [(GT_some h.ok).2 ⟨x, hx, hr, rfl⟩]; rfl
  obtain ⟨d, hd⟩ := Option.isSome_iff_exists.1 ((h.dom r).trans hs)
  exact ⟨d, hd, (h.each r d hd).1, (h.each r d hd).2, _, (GO_some h.ok).2 ⟨x, hx, hr, hi, rfl⟩⟩
theorem TD.role64 (h : TD T D t Q fr) (hf : fr i = some r) : 1 ≤ r ∧ r ≤ 32 := by
  rw [h.fr] at hf
  obtain ⟨x, hx, hr, hi⟩ := (FR_some h.ok).1 hf
  rw [← hr]; exact h.ok.r1 x hx
theorem i64_role {r : Int} (h : 1 ≤ r ∧ r ≤ 32) : I64 r := ⟨by omega, by omega⟩
set_option maxRecDepth 100000 in
set_option maxHeartbeats 1000000 in
theorem timade {sp : Nat} (h : TB w p T sp MR MF) : Calls Tryz.prog 39 #[ptr p] w fun e w' => e = .returned (.bool true) ∧ w' = w := by
  have hl := h.lt
  obtain ⟨x0, x1, x2, x3, x4, x5, x6⟩ := h.cells
  clear h
  go_enter Tryz.func39, Tryz.ntmps39
  go_wp2
  go_ret
  exact ⟨rfl, rfl⟩
theorem look_f (h : TN W w p MR MF lab T t Q fr) (hi : I64 i) (c : Bool) : (Instr.lookup 66 (.map (some MF)) (.int .i64 i) c).run Tryz.prog w = .ok (if c then .tuple #[((fr i).map fun r => .int .i64 r).getD (.int .i64 0), .bool (fr i).isSome] else ((fr i).map fun r => .int .i64 r).getD (.int .i64 0)) w := by
  have hz : (zeroValue 3).run Tryz.prog w = .ok (.int .i64 0) w := Tryz.zeroValue3 w
  exact h.f.look key64 Tryz.underlying66 hz (x := i) hi c
theorem look_q (h : TN W w p MR MF lab T t Q fr) (hr : I64 r) (c : Bool) : (Instr.lookup 65 (.map (some MR)) (.int .i64 r) c).run Tryz.prog w = .ok (if c then .tuple #[((Q r).map fun h => ptr h.sp).getD (.pointer none), .bool (Q r).isSome] else ((Q r).map fun h => ptr h.sp).getD (.pointer none)) w := by
  have hz : (zeroValue 63).run Tryz.prog w = .ok (.pointer none) w := Tryz.zeroValue63 w
  exact h.q.look keyI Tryz.underlying65 hz (x := r) hr c
set_option maxRecDepth 100000 in
set_option maxHeartbeats 1000000 in
theorem tifind_none (h : TN W w p MR MF lab T t Q fr) (hi : I64 i) (hf : fr i = none) : Calls Tryz.prog 36 #[ptr p, .int .i64 i] w fun e w' => e = .returned (.tuple #[.int .i64 0, .pointer none, .int .i64 43]) ∧ Below w.heap.size w w' := by
  have hlook := look_f h hi true
  rw [hf] at hlook
  replace hlook := hlook.trans (show _ = .ok (.tuple #[.int .i64 0, .bool false]) w from rfl)
  obtain ⟨x0, x1, x2, x3, x4, x5, x6⟩ := h.b.cells
  have xl := h.b.lt
  have H := Lib.hid h
  clear h hf hi
  go_enter Tryz.func36, Tryz.ntmps36
  go_wp2_with fail
  refine (timade H.out.b).mono ?_
  rintro e w1 ⟨rfl, rfl⟩
  go_wp2
  go_ret3
  exact ⟨rfl, Below.refl _ _⟩
set_option maxRecDepth 100000 in
set_option maxHeartbeats 1000000 in
theorem tifind_some (h : TN W w p MR MF lab T t Q fr) (hi : I64 i) (hf : fr i = some r) (hq : Q r = some d) (hr : I64 r) : Calls Tryz.prog 36 #[ptr p, .int .i64 i] w fun e w' => e = .returned (.tuple #[.int .i64 r, ptr d.sp, .int .i64 0]) ∧ Below w.heap.size w w' := by
  have hlook := look_f h hi true
  rw [hf] at hlook
  replace hlook := hlook.trans (show _ = .ok (.tuple #[.int .i64 r, .bool true]) w from rfl)
  have hlk : ∀ y : ExtC w (fun _ => False), (Instr.lookup 65 (.map (some MR)) (.int .i64 r) false).run Tryz.prog (extC w (fun _ => False) y) = .ok (ptr d.sp) (extC w (fun _ => False) y) := fun y => by
    have := look_q (h.below ((extC_chg w _ y).below (Nat.le_refl _) fun k h => h.elim)) hr false
    rw [hq] at this
    exact this
  obtain ⟨x0, x1, x2, x3, x4, x5, x6⟩ := h.b.cells
  have xl := h.b.lt
  have H := Lib.hid h
  obtain ⟨ds, hds⟩ : ∃ x, x = d.sp := ⟨_, rfl⟩
  rw [← hds] at hlk ⊢
  clear h hf hi hq hds
  go_enter Tryz.func36, Tryz.ntmps36
  go_wp2_with fail
  refine (timade H.out.b).mono ?_
  rintro e w1 ⟨rfl, rfl⟩
  go_upto_region 6 with (fail)
  refine Mix.regionC (fun _ => False) (by kernel_rfl) ?_
  intro w2 hb2
  refine Mix.take_exC _ _ 0 rfl (by kernel_rfl) (by kernel_rfl) (by kernel_rfl) (by kernel_rfl) (fun K hK => ?_)
  go_simp
  first | (refine hK _ ?_; clear hK K) | (apply Exists.intro; refine ⟨fun x => ?_, hK _ ?_⟩; (fail); clear hK K)
  refine Mix.take_exC _ _ 1 rfl (by kernel_rfl) (by kernel_rfl) (by kernel_rfl) (by kernel_rfl) (fun K hK => ?_)
  go_simp
  first | (refine hK _ ?_; clear hK K) | (apply Exists.intro; refine ⟨fun x => ?_, hK _ ?_⟩; (fail); clear hK K)
  refine Mix.take_exC _ _ 2 rfl (by kernel_rfl) (by kernel_rfl) (by kernel_rfl) (by kernel_rfl) (fun K hK => ?_)
  go_simp
  first | (refine hK _ ?_; clear hK K) | (apply Exists.intro; refine ⟨fun x => ?_, hK _ ?_⟩; (fail); clear hK K)
  refine Mix.take_exC _ _ 3 rfl (by kernel_rfl) (by kernel_rfl) (by kernel_rfl) (by kernel_rfl) (fun K hK => ?_)
  go_simp
  first | (refine hK _ ?_; clear hK K) | (apply Exists.intro; refine ⟨fun x => ?_, hK _ ?_⟩; (fail); clear hK K)
  refine Mix.take_exC _ _ 4 rfl (by kernel_rfl) (by kernel_rfl) (by kernel_rfl) (by kernel_rfl) (fun K hK => ?_)
  go_simp
  first | (refine hK _ ?_; clear hK K) | (apply Exists.intro; refine ⟨fun x => ?_, hK _ ?_⟩; (fail); clear hK K)
  refine Mix.take_exC _ _ 5 rfl (by kernel_rfl) (by kernel_rfl) (by kernel_rfl) (by kernel_rfl) (fun K hK => ?_)
  go_simp
  first | (refine hK _ ?_; clear hK K) | (apply Exists.intro; refine ⟨fun x => ?_, hK _ ?_⟩; (fail); clear hK K)
  refine Mix.take_exC _ _ 6 rfl (by kernel_rfl) (by kernel_rfl) (by kernel_rfl) (by kernel_rfl) (fun K hK => ?_)
  go_simp
  first | (refine hK _ ?_; clear hK K) | (apply Exists.intro; refine ⟨fun x => ?_, hK _ ?_⟩; (fail); clear hK K)
  refine Mix.take_exC _ _ 7 rfl (by kernel_rfl) (by kernel_rfl) (by kernel_rfl) (by kernel_rfl) (fun K hK => ?_)
  go_simp
  first | (refine hK _ ?_; clear hK K) | (apply Exists.intro; refine ⟨fun x => ?_, hK _ ?_⟩; (fail); clear hK K)
  refine Mix.take_exC _ _ 8 rfl (by kernel_rfl) (by kernel_rfl) (by kernel_rfl) (by kernel_rfl) (fun K hK => ?_)
  go_simp
  first | (refine hK _ ?_; clear hK K) | (apply Exists.intro; refine ⟨fun x => ?_, hK _ ?_⟩; (fail); clear hK K)
  refine Mix.take_exC _ _ 9 rfl (by kernel_rfl) (by kernel_rfl) (by kernel_rfl) (by kernel_rfl) (fun K hK => ?_)
  go_simp
  first | (refine hK _ ?_; clear hK K) | (apply Exists.intro; refine ⟨fun x => ?_, hK _ ?_⟩; (fail); clear hK K)
  refine Mix.done (by kernel_rfl) (.of_below _ hb2) ?_
  intro w3 hb3
  have HB3 := Lib.hid (bt hb2 hb3)
  clear hb2 hb3 hlk hlook x0 x1 x2 x3 x4 x5 x6 xl
  go_wp2
  go_ret3
  exact ⟨rfl, HB3.out⟩
end
end
section
open Go.RowKit Go.Maps
attribute [local go_sem] ext_cell ext_frozen extC_cell extC_frozen Mix.calmUpon Mix.mUpon
section
variable {W w w' : World} {p MR MF : Nat} {lab : Nat → Int} {T : Nat → Int} {t d : Hd} {Q : Int → Option Hd} {fr : Int → Option Int} {D : List Fd} {i r : Int} {c : Cl}
set_option maxRecDepth 100000 in
set_option maxHeartbeats 1000000 in
theorem tirole_none (h : TN W w p MR MF lab T t Q fr) (hi : I64 i) (hf : fr i = none) : Calls Tryz.prog 12 #[ptr p, .int .i64 i] w fun e w' => e = .returned (.tuple #[.int .i64 0, .bool false]) ∧ Below w.heap.size w w' := by
  have HF := Lib.hid (tifind_none h hi hf)
  clear h hi hf
  go_enter Tryz.func12, Tryz.ntmps12
  go_wp2_with fail
  refine HF.out.mono ?_
  rintro e w1 ⟨rfl, hb1⟩
  have HB1 := Lib.hid hb1
  clear hb1
  go_wp2
  go_ret2
  exact ⟨rfl, HB1.out⟩
set_option maxRecDepth 100000 in
set_option maxHeartbeats 1000000 in
theorem tirole_some (h : TN W w p MR MF lab T t Q fr) (hi : I64 i) (hf : fr i = some r) (hq : Q r = some d) (hr : I64 r) : Calls Tryz.prog 12 #[ptr p, .int .i64 i] w fun e w' => e = .returned (.tuple #[.int .i64 r, .bool true]) ∧ Below w.heap.size w w' := by
  have HF := Lib.hid (tifind_some h hi hf hq hr)
  have hw : wrap64 r = r := IntWalk.wrap64_in _ hr
  clear h hi hf hq hr
  go_enter Tryz.func12, Tryz.ntmps12
  go_wp2_with fail
  refine HF.out.mono ?_
  rintro e w1 ⟨rfl, hb1⟩
  have HB1 := Lib.hid hb1
  clear hb1
  go_wp2
  go_ret2
  exact ⟨rfl, HB1.out⟩
set_option maxRecDepth 100000 in
set_option maxHeartbeats 1000000 in
theorem tishare_none (h : TN W w p MR MF lab T t Q fr) (hr : I64 r) (hg : t.g r = none) : Calls Tryz.prog 17 #[ptr p, .int .i64 r] w fun e w' => e = .returned (.tuple #[S3 0 0 0, .bool false]) ∧ Below w.heap.size w w' := by
  have HS := Lib.hid fun w' (h' : HM W w' lab 0 t) => sshare_none h'.sm hr hg
  have hw : wrap64 r = r := IntWalk.wrap64_in _ hr
  clear hr hg
  have hb := ba (Below.refl w.heap.size w) (.cells #[.int .i64 0, .int .i64 0, .int .i64 0] 44)
  have H := Lib.hid (h.below hb)
  have HB := Lib.hid hb
  have HN := Lib.hid (HB3.made w 0 0 0)
  clear h hb
  go_enter Tryz.func17, Tryz.ntmps17
  go_upto_region 1 with (fail)
  generalize w.alloc (.cells #[.int .i64 0, .int .i64 0, .int .i64 0] 44) = w1 at *
  obtain ⟨nb, hnb⟩ : ∃ b, b = w.heap.size := ⟨_, rfl⟩
  rw [← hnb] at HN ⊢
  have HNL := Lib.hid (show w.heap.size ≤ nb from Nat.le_of_eq hnb.symm)
  clear hnb
  obtain ⟨x0, x1, x2, x3, x4, x5, x6⟩ := H.out.b.cells
  have xl := H.out.b.lt
  go_wp2_with fail
  refine (timade H.out.b).mono ?_
  rintro e w2 ⟨rfl, rfl⟩
  go_wp2_with fail
  refine (HS.out _ H.out.t).mono ?_
  rintro e w4 ⟨rfl, hb4⟩
  have HB4 := Lib.hid (bt HB.out hb4)
  have HN4 := Lib.hid (HN.out.below hb4)
  clear hb4 x0 x1 x2 x3 x4 x5 x6 xl
  obtain ⟨n0, n1, n2⟩ := HN4.out.cells
  have nl := HN4.out.lt
  have nf0 := HN4.out.fz 0; have nf1 := HN4.out.fz 1; have nf2 := HN4.out.fz 2
  have HS := Lib.hid (HN4.out.set3 (0) (0) (0))
  have HBS := Lib.hid (show Below w.heap.size w (((w4.setCell ⟨nb, 0, none⟩ (.int .i64 (0))).setCell ⟨nb, 1, none⟩ (.int .i64 (0))).setCell ⟨nb, 2, none⟩ (.int .i64 (0))) from ((HB4.out.setCell (p := ⟨nb, 0, none⟩) HNL.out _).setCell (p := ⟨nb, 1, none⟩) HNL.out _).setCell (p := ⟨nb, 2, none⟩) HNL.out _)
  go_wp2
  refine bodyPost_ret (res_hb Tryz.results17 rfl rfl HS.out) rfl ?_
  exact ⟨rfl, HBS.out⟩
set_option maxRecDepth 100000 in
set_option maxHeartbeats 1000000 in
theorem tishare_some (h : TN W w p MR MF lab T t Q fr) (hr : I64 r) (hg : t.g r = some c) : Calls Tryz.prog 17 #[ptr p, .int .i64 r] w fun e w' => e = .returned (.tuple #[S3 (domV c.s t.T).2.1 (domV c.s t.T).2.2 c.wt, .bool true]) ∧ Below w.heap.size w w' := by
  have hs := fun w' (h' : HM W w' lab 0 t) => sshare_some h'.sm hr hg
  obtain ⟨pn, hpn⟩ : ∃ x, (domV c.s t.T).2.1 = x := ⟨_, rfl⟩
  obtain ⟨pd, hpd⟩ : ∃ x, (domV c.s t.T).2.2 = x := ⟨_, rfl⟩
  simp only [hpn, hpd] at hs ⊢
  have HS := Lib.hid hs
  have hw : wrap64 r = r := IntWalk.wrap64_in _ hr
  clear hr hg hs hpn hpd
  have hb := ba (Below.refl w.heap.size w) (.cells #[.int .i64 0, .int .i64 0, .int .i64 0] 44)
  have H := Lib.hid (h.below hb)
  have HB := Lib.hid hb
  have HN := Lib.hid (HB3.made w 0 0 0)
  clear h hb
  go_enter Tryz.func17, Tryz.ntmps17
  go_upto_region 1 with (fail)
  generalize w.alloc (.cells #[.int .i64 0, .int .i64 0, .int .i64 0] 44) = w1 at *
  obtain ⟨nb, hnb⟩ : ∃ b, b = w.heap.size := ⟨_, rfl⟩
  rw [← hnb] at HN ⊢
  have HNL := Lib.hid (show w.heap.size ≤ nb from Nat.le_of_eq hnb.symm)
  clear hnb
  obtain ⟨x0, x1, x2, x3, x4, x5, x6⟩ := H.out.b.cells
  have xl := H.out.b.lt
  go_wp2_with fail
  refine (timade H.out.b).mono ?_
  rintro e w2 ⟨rfl, rfl⟩
  go_wp2_with fail
  refine (HS.out _ H.out.t).mono ?_
  rintro e w4 ⟨rfl, hb4⟩
  have HB4 := Lib.hid (bt HB.out hb4)
  have HN4 := Lib.hid (HN.out.below hb4)
  clear hb4 x0 x1 x2 x3 x4 x5 x6 xl
  obtain ⟨n0, n1, n2⟩ := HN4.out.cells
  have nl := HN4.out.lt
  have nf0 := HN4.out.fz 0; have nf1 := HN4.out.fz 1; have nf2 := HN4.out.fz 2
  have HS := Lib.hid (HN4.out.set3 (pn) (pd) (c.wt))
  have HBS := Lib.hid (show Below w.heap.size w (((w4.setCell ⟨nb, 0, none⟩ (.int .i64 (pn))).setCell ⟨nb, 1, none⟩ (.int .i64 (pd))).setCell ⟨nb, 2, none⟩ (.int .i64 (c.wt))) from ((HB4.out.setCell (p := ⟨nb, 0, none⟩) HNL.out _).setCell (p := ⟨nb, 1, none⟩) HNL.out _).setCell (p := ⟨nb, 2, none⟩) HNL.out _)
  go_wp2
  refine bodyPost_ret (res_hb Tryz.results17 rfl rfl HS.out) rfl ?_
  exact ⟨rfl, HBS.out⟩
set_option maxRecDepth 100000 in
set_option maxHeartbeats 1000000 in
theorem tiown_none (h : TN W w p MR MF lab T t Q fr) (hi : I64 i) (hf : fr i = none) : Calls Tryz.prog 13 #[ptr p, .int .i64 i] w fun e w' => e = .returned (.tuple #[S3 0 0 0, .bool false]) ∧ Below w.heap.size w w' := by
  have HF := Lib.hid fun w' (h' : TN W w' p MR MF lab T t Q fr) => tifind_none h' hi hf
  clear hi hf
  have hb := ba (Below.refl w.heap.size w) (.cells #[.int .i64 0, .int .i64 0, .int .i64 0] 44)
  have H := Lib.hid (h.below hb)
  have HB := Lib.hid hb
  have HN := Lib.hid (HB3.made w 0 0 0)
  clear h hb
  go_enter Tryz.func13, Tryz.ntmps13
  go_upto_region 1 with (fail)
  generalize w.alloc (.cells #[.int .i64 0, .int .i64 0, .int .i64 0] 44) = w1 at *
  obtain ⟨nb, hnb⟩ : ∃ b, b = w.heap.size := ⟨_, rfl⟩
  rw [← hnb] at HN ⊢
  have HNL := Lib.hid (show w.heap.size ≤ nb from Nat.le_of_eq hnb.symm)
  clear hnb
  go_wp2_with fail
  refine (HF.out _ H.out).mono ?_
  rintro e w4 ⟨rfl, hb4⟩
  have HB4 := Lib.hid (bt HB.out hb4)
  have HN4 := Lib.hid (HN.out.below hb4)
  clear hb4
  obtain ⟨n0, n1, n2⟩ := HN4.out.cells
  have nl := HN4.out.lt
  have nf0 := HN4.out.fz 0; have nf1 := HN4.out.fz 1; have nf2 := HN4.out.fz 2
  have HS := Lib.hid (HN4.out.set3 (0) (0) (0))
  have HBS := Lib.hid (show Below w.heap.size w (((w4.setCell ⟨nb, 0, none⟩ (.int .i64 (0))).setCell ⟨nb, 1, none⟩ (.int .i64 (0))).setCell ⟨nb, 2, none⟩ (.int .i64 (0))) from ((HB4.out.setCell (p := ⟨nb, 0, none⟩) HNL.out _).setCell (p := ⟨nb, 1, none⟩) HNL.out _).setCell (p := ⟨nb, 2, none⟩) HNL.out _)
  go_wp2
  refine bodyPost_ret (res_hb Tryz.results13 rfl rfl HS.out) rfl ?_
  exact ⟨rfl, HBS.out⟩
set_option maxRecDepth 100000 in
set_option maxHeartbeats 1000000 in
theorem tiown_some (h : TN W w p MR MF lab T t Q fr) (hi : I64 i) (hf : fr i = some r) (hq : Q r = some d) (hr : I64 r) (hg : d.g i = some c) : Calls Tryz.prog 13 #[ptr p, .int .i64 i] w fun e w' => e = .returned (.tuple #[S3 (domV c.s d.T).2.1 (domV c.s d.T).2.2 c.wt, .bool true]) ∧ Below w.heap.size w w' := by
  have HF := Lib.hid fun w' (h' : TN W w' p MR MF lab T t Q fr) => tifind_some h' hi hf hq hr
  have hs := fun w' (h' : TN W w' p MR MF lab T t Q fr) => sshare_some (h'.each r d hq).1.sm hi hg
  obtain ⟨pn, hpn⟩ : ∃ x, (domV c.s d.T).2.1 = x := ⟨_, rfl⟩
  obtain ⟨pd, hpd⟩ : ∃ x, (domV c.s d.T).2.2 = x := ⟨_, rfl⟩
  obtain ⟨ds, hds⟩ : ∃ x, x = d.sp := ⟨_, rfl⟩
  rw [← hds] at hs
  simp only [hpn, hpd, ← hds] at hs HF ⊢
  have HS := Lib.hid hs
  clear hi hf hq hr hg hs hpn hpd hds
  have hb := ba (Below.refl w.heap.size w) (.cells #[.int .i64 0, .int .i64 0, .int .i64 0] 44)
  have H := Lib.hid (h.below hb)
  have HB := Lib.hid hb
  have HN := Lib.hid (HB3.made w 0 0 0)
  clear h hb
  go_enter Tryz.func13, Tryz.ntmps13
  go_upto_region 1 with (fail)
  generalize w.alloc (.cells #[.int .i64 0, .int .i64 0, .int .i64 0] 44) = w1 at *
  obtain ⟨nb, hnb⟩ : ∃ b, b = w.heap.size := ⟨_, rfl⟩
  rw [← hnb] at HN ⊢
  have HNL := Lib.hid (show w.heap.size ≤ nb from Nat.le_of_eq hnb.symm)
  clear hnb
  go_wp2_with fail
  refine (HF.out _ H.out).mono ?_
  rintro e w3 ⟨rfl, hb3⟩
  have HB3 := Lib.hid (bt HB.out hb3)
  have H3 := Lib.hid (H.out.below hb3)
  have HN3 := Lib.hid (HN.out.below hb3)
  clear hb3
  go_wp2_with fail
  refine (HS.out _ H3.out).mono ?_
  rintro e w4 ⟨rfl, hb4⟩
  have HB4 := Lib.hid (bt HB3.out hb4)
  have HN4 := Lib.hid (HN3.out.below hb4)
  clear hb4
  obtain ⟨n0, n1, n2⟩ := HN4.out.cells
  have nl := HN4.out.lt
  have nf0 := HN4.out.fz 0; have nf1 := HN4.out.fz 1; have nf2 := HN4.out.fz 2
  have HS := Lib.hid (HN4.out.set3 (pn) (pd) (c.wt))
  have HBS := Lib.hid (show Below w.heap.size w (((w4.setCell ⟨nb, 0, none⟩ (.int .i64 (pn))).setCell ⟨nb, 1, none⟩ (.int .i64 (pd))).setCell ⟨nb, 2, none⟩ (.int .i64 (c.wt))) from ((HB4.out.setCell (p := ⟨nb, 0, none⟩) HNL.out _).setCell (p := ⟨nb, 1, none⟩) HNL.out _).setCell (p := ⟨nb, 2, none⟩) HNL.out _)
  go_wp2
  refine bodyPost_ret (res_hb Tryz.results13 rfl rfl HS.out) rfl ?_
  exact ⟨rfl, HBS.out⟩
end
end
section
open Go.RowKit Go.MapKept Go.Maps
open Go.ChangeMaps (setBlock)
section
variable {P : Program} {k : TypeId} {κ : Type} {E : KEnc P k κ} {w : World} {M it : Nat} {L todo : List (κ × Value)}
/-- Block M is a map with the entries L; block it ranges over it, and todo is still to come. -/
def MapI (E : KEnc P k κ) (w : World) (M it : Nat) (L todo : List (κ × Value)) : Prop :=
  ∃ (es : Array MapEntry) (clock since c0 : Nat) (seen : Array Nat), w.heap[M]? = some (.map es clock) ∧ Stamped es clock ∧ (∀ p ∈ L, E.ok p.1) ∧ es.toList.map (fun e => (e.key, e.val)) = L.map (fun p => (E.enc p.1, p.2)) ∧
    w.heap[it]? = some (.mapIter (some M) since seen c0) ∧ (∀ e ∈ es.toList, e.born < since) ∧ (since ≤ c0 ∧ since ≤ clock) ∧ todo = ((es.toList.zip L).filter fun z => !seen.contains z.1.born).map (·.2)
theorem MapI.map (h : MapI E w M it L todo) : MapK E w M L := by
  obtain ⟨es, c, _, _, _, h1, h2, h3, h4, _⟩ := h; exact ⟨es, c, h1, h2, h3, h4⟩
theorem MapI.lt (h : MapI E w M it L todo) : M < w.heap.size ∧ it < w.heap.size := by
  obtain ⟨es, c, _, _, _, h1, _, _, _, h2, _⟩ := h
  exact ⟨(Array.getElem?_eq_some_iff.1 h1).1, (Array.getElem?_eq_some_iff.1 h2).1⟩
theorem MapI.same {w' : World} (h : MapI E w M it L todo) (h1 : w'.heap[M]? = w.heap[M]?) (h2 : w'.heap[it]? = w.heap[it]?) : MapI E w' M it L todo := by
  obtain ⟨es, c, s, c0, seen, a1, a2, a3, a4, a5, r⟩ := h
  exact ⟨es, c, s, c0, seen, h1.trans a1, a2, a3, a4, h2.trans a5, r⟩
theorem MapI.chg {F : Nat → Prop} {w' : World} (h : MapI E w M it L todo) (hc : Chg F w w') (h1 : ¬ F M) (h2 : ¬ F it) : MapI E w' M it L todo :=
  h.same (hc.block M h.lt.1 h1) (hc.block it h.lt.2 h2)
theorem MapI.below {w' : World} (h : MapI E w M it L todo) (hb : Below w.heap.size w w') : MapI E w' M it L todo := h.chg (.of_below (fun _ => False) hb) id id
theorem zip_len {es : Array MapEntry} {L : List (κ × Value)} (h : es.toList.map (fun e => (e.key, e.val)) = L.map (fun p => (E.enc p.1, p.2))) : es.toList.length = L.length := by
  have := congrArg List.length h; simpa using this
theorem zip_at {es : Array MapEntry} {L : List (κ × Value)} (h : es.toList.map (fun e => (e.key, e.val)) = L.map (fun p => (E.enc p.1, p.2))) {z : MapEntry × κ × Value} (hz : z ∈ es.toList.zip L) : z.1.key = E.enc z.2.1 ∧ z.1.val = z.2.2 := by
  obtain ⟨i, hi, rfl⟩ := List.getElem_of_mem hz
  rw [List.getElem_zip]
  have h1 : i < es.toList.length := by rw [List.length_zip] at hi; omega
  have h2 : i < L.length := by rw [List.length_zip] at hi; omega
  have e1 : (es.toList.map (fun e => (e.key, e.val)))[i]? = some (es.toList[i].key, es.toList[i].val) := by rw [List.getElem?_map, List.getElem?_eq_getElem h1]; rfl
  rw [h, List.getElem?_map, List.getElem?_eq_getElem h2] at e1
  simp at e1
  exact ⟨e1.1.symm, e1.2.symm⟩
/-- 'range m'. -/
theorem MapK.range {t e : TypeId} (h : MapK E w M L) (ht : P.underlying t = some (.map k e)) : ∃ o, (Instr.range t (.map (some M))).run P w = .ok (.pointer (some ⟨w.heap.size, 0, none⟩)) (w.alloc o) ∧ MapI E (w.alloc o) M w.heap.size L L := by
  have hl := h.lt
  obtain ⟨es, clock, h1, h2, h3, h4⟩ := h
  refine ⟨.mapIter (some M) clock #[] clock, by simp only [Instr.range, Sem.run_bind, run_underlying ht, MapKept.run_getObj_map h1, Result.andThen]; rfl, es, clock, clock, clock, #[], ?_, h2, h3, h4, heap_alloc_new _ _, h2.1, ⟨Nat.le_refl _, Nat.le_refl _⟩, ?_⟩
  · rw [heap_alloc_old _ _ hl]; exact h1
  · have : ((es.toList.zip L).filter fun z => !(#[] : Array Nat).contains z.1.born) = es.toList.zip L := List.filter_eq_self.2 fun z _ => by simp
    rw [this, List.map_snd_zip]
    rw [zip_len h4]; exact Nat.le_refl _
theorem mem_left {es : Array MapEntry} {L : List (κ × Value)} {seen : Array Nat} (h : es.toList.map (fun e => (e.key, e.val)) = L.map (fun p => (E.enc p.1, p.2))) {e : MapEntry} (he : e ∈ (leftOf es seen).toList) :
    ∃ p, (e, p) ∈ (es.toList.zip L).filter (fun z => !seen.contains z.1.born) := by
  unfold leftOf at he
  rw [Array.toList_filter] at he
  obtain ⟨h1, h2⟩ := List.mem_filter.1 he
  obtain ⟨i, hi, rfl⟩ := List.getElem_of_mem h1
  have hL : i < L.length := by rw [← zip_len h]; exact hi
  refine ⟨L[i], List.mem_filter.2 ⟨?_, h2⟩⟩
  have := List.getElem_zip (l := es.toList) (l' := L) (i := i) (h := by rw [List.length_zip]; omega)
  rw [← this]; exact List.getElem_mem _
theorem left_none {es : Array MapEntry} {L : List (κ × Value)} {seen : Array Nat} (h : (leftOf es seen).size = 0) : ((es.toList.zip L).filter fun z => !seen.contains z.1.born) = [] := by
  have h0 : (leftOf es seen).toList = [] := List.eq_nil_of_length_eq_zero (by simpa using h)
  unfold leftOf at h0
  rw [Array.toList_filter, List.filter_eq_nil_iff] at h0
  exact List.filter_eq_nil_iff.2 fun z hz => h0 z.1 (List.of_mem_zip hz).1
theorem eraseIdx_filter {α : Type} {p : α → Bool} : ∀ {l : List α} {j : Nat} {x : α}, l[j]? = some x → p x = false → (∀ i y, l[i]? = some y → i ≠ j → p y = true) → l.filter p = l.eraseIdx j
  | [], j, x, h, _, _ => by simp at h
  | a :: t, 0, x, h, hx, ho => by
    simp at h; subst h
    rw [List.filter_cons, if_neg (by rw [hx]; simp), List.eraseIdx_cons_zero]
    exact List.filter_eq_self.2 fun y hy => by
      obtain ⟨i, hi, rfl⟩ := List.getElem_of_mem hy
      exact ho (i + 1) _ (by simp) (by omega)
  | a :: t, j + 1, x, h, hx, ho => by
    rw [List.filter_cons, if_pos (ho 0 a rfl (by omega)), List.eraseIdx_cons_succ]
    rw [eraseIdx_filter (j := j) (by simpa using h) hx fun i y hy hi => ho (i + 1) y (by simpa using hy) (by omega)]
/-- A step of the range: nothing is left, or some entry comes. -/
theorem MapI.next (h : MapI E w M it L todo) (ty : TypeId) :
    (todo = [] ∧ (Instr.next (.pointer (some ⟨it, 0, none⟩)) false ty).run P w = .ok (.tuple #[.bool false]) w) ∨
    ∃ (p : κ × Value) (j : Nat) (w' : World), todo[j]? = some p ∧ p ∈ L ∧ (Instr.next (.pointer (some ⟨it, 0, none⟩)) false ty).run P w = .ok (.tuple #[.bool true, E.enc p.1, p.2]) w' ∧
      (Instr.entry (.pointer (some ⟨it, 0, none⟩))).run P w' = .ok (.tuple #[E.enc p.1, p.2]) w' ∧ MapI E w' M it L (todo.eraseIdx j) ∧ Chg (fun b => b = it) w w' := by
  have hlt := h.lt
  obtain ⟨es, clock, since, c0, seen, hb, hs, hok, heq, hr, hold, hsc, htd⟩ := h
  have hMi : M ≠ it := fun e => by rw [e, hr] at hb; cases hb
  rcases run_next_at (P := P) w ty it M since c0 seen es clock hr hb hold hsc.1 with ⟨h0, hrun⟩ | ⟨e, he, w1, hw1, hrun⟩
  · exact .inl ⟨by rw [htd, left_none h0]; rfl, hrun⟩
  · right
    obtain ⟨p, hp⟩ := mem_left heq he
    obtain ⟨hz, hun⟩ := List.mem_filter.1 hp
    obtain ⟨e1, e2⟩ := zip_at heq hz
    obtain ⟨j, hj, hjz⟩ := List.getElem_of_mem hp
    have hb1 : w1.heap = w.heap := by rcases hw1 with rfl | rfl <;> rfl
    have hem : e ∈ es.toList := (List.of_mem_zip hz).1
    have hM' : (setBlock w1 it (.mapIter (some M) since (seen.push e.born) clock)).heap[M]? = some (.map es clock) := by
      simp only [setBlock, hb1]
      rw [Array.getElem?_setIfInBounds_ne (Ne.symm hMi)]; exact hb
    have hi' : (setBlock w1 it (.mapIter (some M) since (seen.push e.born) clock)).heap[it]? = some (.mapIter (some M) since (seen.push e.born) clock) := by
      simp only [setBlock, hb1]
      rw [Array.getElem?_setIfInBounds_self, if_pos hlt.2]
    refine ⟨p, j, _, by rw [htd, List.getElem?_map, List.getElem?_eq_getElem hj, hjz]; rfl, (List.of_mem_zip hz).2, by rw [← e1, ← e2]; exact hrun, ?_, ?_, ?_⟩
    · rw [← e1, ← e2]
      exact run_entry_at _ it M since seen es clock e hi' hM' hem hs.2.1
    · refine ⟨es, clock, since, clock, seen.push e.born, hM', hs, hok, heq, hi', hold, ⟨hsc.2, hsc.2⟩, ?_⟩
      rw [htd, ← ChangeMaps.map_eraseIdx]
      congr 1
      have hnb : ((es.toList.zip L).map (·.1.born)).Nodup := by
        have : (es.toList.zip L).map (·.1.born) = es.toList.map (·.born) := by
          rw [show ((fun z : MapEntry × κ × Value => z.1.born)) = (fun e : MapEntry => e.born) ∘ Prod.fst from rfl, ← List.map_map, List.map_fst_zip]
          rw [zip_len heq]; exact Nat.le_refl _
        rw [this]; exact hs.2.1
      have hsub : (((es.toList.zip L).filter fun z => !seen.contains z.1.born).map (·.1.born)).Nodup := (List.Sublist.map _ List.filter_sublist).nodup hnb
      have hq : ∀ z : MapEntry × κ × Value, (!(seen.push e.born).contains z.1.born) = ((!seen.contains z.1.born) && !(z.1.born == e.born)) := fun z => by
        rw [Bool.eq_iff_iff]; simp
      rw [show (fun z : MapEntry × κ × Value => !(seen.push e.born).contains z.1.born) = fun z => ((!seen.contains z.1.born) && !(z.1.born == e.born)) from funext hq]
      rw [show (fun z : MapEntry × κ × Value => ((!seen.contains z.1.born) && !(z.1.born == e.born))) = fun z => ((!(z.1.born == e.born)) && (!seen.contains z.1.born)) from funext fun z => Bool.and_comm _ _, ← List.filter_filter]
      refine (eraseIdx_filter (p := fun z : MapEntry × κ × Value => !(z.1.born == e.born)) (x := (e, p)) (by rw [List.getElem?_eq_getElem hj, hjz]) (by show (!(e.born == e.born)) = false; rw [beq_self_eq_true]; rfl) fun i y hy hij => ?_).symm
      have h1 : (((es.toList.zip L).filter fun z => !seen.contains z.1.born).map (·.1.born))[i]? = some y.1.born := by rw [List.getElem?_map, hy]; rfl
      have h2 : (((es.toList.zip L).filter fun z => !seen.contains z.1.born).map (·.1.born))[j]? = some e.born := by rw [List.getElem?_map, List.getElem?_eq_getElem hj, hjz]; rfl
      show (!(y.1.born == e.born)) = true
      rw [Bool.not_eq_true']
      refine beq_eq_false_iff_ne.2 ?_
      intro heb
      rw [heb, ← h2] at h1
      have hi := (List.getElem?_eq_some_iff.1 (h1.trans h2)).1
      exact hij ((List.getElem?_inj hi hsub).1 h1)
    · refine ⟨by rcases hw1 with rfl | rfl <;> rfl, by rcases hw1 with rfl | rfl <;> rfl, by rcases hw1 with rfl | rfl <;> rfl, by simp [setBlock, hb1], fun b hb2 hne => ?_⟩
      simp only [setBlock, hb1]
      rw [Array.getElem?_setIfInBounds_ne (fun e => hne e.symm)]
theorem MapI.mem (h : MapI E w M it L todo) : ∀ p ∈ todo, p ∈ L := by
  obtain ⟨es, c, s, c0, seen, _, _, _, _, _, _, _, rfl⟩ := h
  intro p hp
  obtain ⟨z, hz, rfl⟩ := List.mem_map.1 hp
  exact (List.of_mem_zip (List.mem_filter.1 hz).1).2
theorem zip_erase {α β : Type} : ∀ (l : List α) (m : List β) (j : Nat), (l.eraseIdx j).zip (m.eraseIdx j) = (l.zip m).eraseIdx j
  | [], m, j => by simp
  | a :: l, [], j => by
    cases j <;> simp
  | a :: l, b :: m, 0 => by simp
  | a :: l, b :: m, j + 1 => by simp [zip_erase l m j]
/-- 'delete(m, x)' while m is ranged over: it does not come any more. -/
theorem MapI.drop [DecidableEq κ] (h : MapI E w M it L todo) (K : Keyed P k) {t e : TypeId} (ht : P.underlying t = some (.map k e)) (ty : TypeId) {x : κ} (hx : E.ok x) :
    ∃ o, (Builtin.delete_ #[t, k] ty #[.map (some M), E.enc x]).run P w = .ok (.tuple #[]) (setBlock w M o) ∧ MapI E (setBlock w M o) M it (mdel L x) (todo.filter fun p => decide (p.1 ≠ x)) := by
  have hm := h.map
  have hnd := hm.nodup
  have hl := h.lt
  obtain ⟨es, clock, since, c0, seen, hb, hs, hok, hL, hr, hold, hsc, htd⟩ := h
  have hMi : M ≠ it := fun e => by rw [e, hr] at hb; cases hb
  have hit : ∀ o, (setBlock w M o).heap[it]? = some (.mapIter (some M) since seen c0) := fun o => by
    simp only [setBlock]
    rw [Array.getElem?_setIfInBounds_ne hMi]; exact hr
  obtain ⟨es', clock', hb', _, hL', hf⟩ := hm.find K hx
  rw [hb] at hb'; cases hb'
  obtain ⟨lx, hlx⟩ := E.lit x hx
  have okp : ∀ p ∈ mdel L x, E.ok p.1 := fun p hp => hok p (List.mem_filter.1 hp).1
  rcases hf with ⟨r1, r2, r3⟩ | ⟨j, u, born, r1, r2, r3⟩
  · refine ⟨.map es clock, by simp [Builtin.delete_, run_underlying ht, MapKept.run_getObj_map hb, K.check w _ hlx, r1, MapKept.run_setObj_map _ hb, Result.andThen, setBlock], ?_⟩
    have hd : mdel L x = L := List.filter_eq_self.2 fun p hp => by simpa using look_none.1 r2 p hp
    refine ⟨es, clock, since, c0, seen, setBlock_at hb, hs, by rw [hd]; exact hok, by rw [hd]; exact hL, hit _, hold, hsc, ?_⟩
    rw [hd, htd]
    refine List.filter_eq_self.2 fun p hp => ?_
    obtain ⟨z, hz, rfl⟩ := List.mem_map.1 hp
    simpa using look_none.1 r2 _ (List.of_mem_zip (List.mem_filter.1 hz).1).2
  · have hj2 : es.toList[j]? = some ⟨E.enc x, u, born⟩ := by simpa using r3
    have hjs : j < es.size := (Array.getElem?_eq_some_iff.1 r3).1
    have hsub : (es.eraseIdxIfInBounds j).toList = es.toList.eraseIdx j := by
      unfold Array.eraseIdxIfInBounds
      rw [dif_pos hjs]
      simp
    have hjl : j < L.length := by rw [← zip_len hL]; simpa using hjs
    have hLj : L[j]? = some (x, u) := by
      have e1 : (es.toList.map (fun e => (e.key, e.val)))[j]? = some (E.enc x, u) := by rw [List.getElem?_map, hj2]; rfl
      rw [hL, List.getElem?_map, List.getElem?_eq_getElem hjl] at e1
      simp at e1
      rw [List.getElem?_eq_getElem hjl]
      have := E.inj _ _ (hok _ (List.getElem_mem hjl)) hx e1.1
      rw [← this, ← e1.2]
    have hdL : mdel L x = L.eraseIdx j := by
      refine eraseIdx_filter (x := (x, u)) hLj (by simp) fun i y hy hij => ?_
      simp only [ne_eq, decide_eq_true_eq]
      intro e
      have k1 : (L.map (·.1))[i]? = some x := by rw [List.getElem?_map, hy]; simp [e]
      have k2 : (L.map (·.1))[j]? = some x := by rw [List.getElem?_map, hLj]; rfl
      exact hij ((List.getElem?_inj (List.getElem?_eq_some_iff.1 k1).1 hnd).1 (k1.trans k2.symm))
    have hdz : ((es.toList.zip L).filter fun z => decide (z.2.1 ≠ x)) = (es.toList.zip L).eraseIdx j := by
      have hzj : (es.toList.zip L)[j]? = some (⟨E.enc x, u, born⟩, (x, u)) := by
        rw [List.getElem?_zip_eq_some]; exact ⟨hj2, hLj⟩
      refine eraseIdx_filter hzj (by simp) fun i y hy hij => ?_
      simp only [ne_eq, decide_eq_true_eq]
      intro e
      have hyL := (List.getElem?_zip_eq_some.1 hy).2
      have k1 : (L.map (·.1))[i]? = some x := by rw [List.getElem?_map, hyL]; simp [e]
      have k2 : (L.map (·.1))[j]? = some x := by rw [List.getElem?_map, hLj]; rfl
      exact hij ((List.getElem?_inj (List.getElem?_eq_some_iff.1 k1).1 hnd).1 (k1.trans k2.symm))
    refine ⟨_, by simp [Builtin.delete_, run_underlying ht, MapKept.run_getObj_map hb, K.check w _ hlx, r1, MapKept.run_setObj_map _ hb, Result.andThen, setBlock]; rfl, ?_⟩
    refine ⟨_, _, since, c0, seen, setBlock_at hb, stamped_erase hs j, okp, ?_, hit _, fun e he => hold e ?_, hsc, ?_⟩
    · rw [hsub, ChangeMaps.map_eraseIdx, hL, ← ChangeMaps.map_eraseIdx, hdL]
    · rw [hsub] at he; exact List.mem_of_mem_eraseIdx he
    · rw [hsub, hdL, zip_erase, ← hdz, htd, List.filter_filter, List.filter_map]
      rw [List.filter_filter]
      congr 1
      refine List.filter_congr fun z _ => ?_
      simp [Bool.and_comm]
end
end
section
open Go.RowKit Go.MapKept Go.Maps
/-- How many entries are still to come. -/
def leftN (w : World) (M it : Nat) : Nat :=
  match w.heap[M]?, w.heap[it]? with
  | some (.map es _), some (.mapIter _ _ seen _) => (es.toList.filter fun e => !seen.contains e.born).length
  | _, _ => 0
theorem MapI.left {P : Program} {k : TypeId} {κ : Type} {E : KEnc P k κ} {w : World} {M it : Nat} {L todo : List (κ × Value)} (h : MapI E w M it L todo) : leftN w M it = todo.length := by
  obtain ⟨es, clock, since, c0, seen, hb, _, _, heq, hr, _, _, htd⟩ := h
  have e1 : (es.toList.zip L).map Prod.fst = es.toList := by
    rw [List.map_fst_zip]; rw [zip_len heq]; exact Nat.le_refl _
  have e2 : (es.toList.filter fun e => !seen.contains e.born) = ((es.toList.zip L).filter fun z => !seen.contains z.1.born).map Prod.fst := by
    conv => lhs; rw [← e1]
    rw [List.filter_map]; rfl
  unfold leftN
  rw [hb, hr, htd]
  show (es.toList.filter fun e => !seen.contains e.born).length = _
  rw [e2, List.length_map, List.length_map]
theorem erase_perm' {α : Type} : ∀ {l : List α} {j : Nat} {x : α}, l[j]? = some x → (x :: l.eraseIdx j).Perm l
  | [], j, x, h => by simp at h
  | a :: t, 0, x, h => by
    simp at h; subst h; exact .refl _
  | a :: t, j + 1, x, h => by
    rw [List.eraseIdx_cons_succ]
    exact (List.Perm.swap a x _).trans ((erase_perm' (by simpa using h)).cons a)
/-- Entries told by a function of some list: so is what is left when one is taken. -/
theorem map_at {α β : Type} {f : α → β} {l : List α} {j : Nat} {p : β} (h : (l.map f)[j]? = some p) : ∃ x, l[j]? = some x ∧ p = f x := by
  rw [List.getElem?_map] at h
  cases hx : l[j]? with
  | none => rw [hx] at h; cases h
  | some x => rw [hx] at h; exact ⟨x, rfl, (Option.some.inj h).symm⟩
end
end Go.Proofs.YtgfjmafdfbghnaaGreat
