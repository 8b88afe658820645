/- Tiers: what Pick finds, plainly; a nil object. -/
import Derived.Test.YtgfjmafdfbghnaaGreatTix
namespace Go.Proofs.YtgfjmafdfbghnaaGreat
open Go.RowKit Go.Maps
/-- The one share is at most the other. -/
def sle (T : Nat → Int) (a b : Cl) : Prop := scmp (domV a.s T).2.1 (domV a.s T).2.2 a.wt (domV b.s T).2.1 (domV b.s T).2.2 b.wt ≤ 0
theorem sle_self (T : Nat → Int) (a : Cl) : sle T a a := by unfold sle; rw [scmp_self]; exact Int.le_refl 0
section
variable {T : Nat → Int} {G : Int → Option Cl} {L : List Pl} {D : List Fd}
theorem s9_pairs (h : S9 T G L) : (ids L).Pairwise fun i j => ∃ a b, G i = some a ∧ G j = some b ∧ sle T a b := by
  unfold ids
  rw [List.pairwise_map]
  refine List.Pairwise.imp_of_mem (fun {p q} hp hq hlt => ?_) h.sl.2
  obtain ⟨a, ga, -, ea⟩ := (h.mem p).1 hp
  obtain ⟨b, gb, -, eb⟩ := (h.mem q).1 hq
  refine ⟨a, b, ga, gb, ?_⟩
  have hp1 : p.n = (domV a.s T).2.1 := congrArg Pl.n ea
  have hp2 : p.d = (domV a.s T).2.2 := congrArg Pl.d ea
  have hp3 : p.w = a.wt := congrArg Pl.w ea
  have hq1 : q.n = (domV b.s T).2.1 := congrArg Pl.n eb
  have hq2 : q.d = (domV b.s T).2.2 := congrArg Pl.d eb
  have hq3 : q.w = b.wt := congrArg Pl.w eb
  unfold sle
  rw [← hp1, ← hp2, ← hp3, ← hq1, ← hq2, ← hq3]
  rcases (plo_lt p q).1 hlt with h | h <;> omega
/-- Of two pairs the one that comes first stands not behind the other. -/
def wkR (T : Nat → Int) (D : List Fd) (a b : Int × Int) : Prop := (∃ c e, GT D a.1 = some c ∧ GT D b.1 = some e ∧ sle T c e) ∧ (a.1 = b.1 → ∃ c e, GO D a.1 a.2 = some c ∧ GO D b.1 b.2 = some e ∧ sle T c e)
theorem wk_pairs (T : Nat → Int) (D : List Fd) : ∀ R : List Int, (R.Pairwise fun i j => ∃ a b, GT D i = some a ∧ GT D j = some b ∧ sle T a b) → R.Nodup → (∀ r ∈ R, (GT D r).isSome = true) → (∀ r ∈ R, (ownO T D r).Pairwise fun i j => ∃ a b, GO D r i = some a ∧ GO D r j = some b ∧ sle T a b) → (wkD T D R).Pairwise (wkR T D)
  | [], _, _, _, _ => List.Pairwise.nil
  | r :: R, h1, h2, h3, h4 => by
    have e : wkD T D (r :: R) = (ownO T D r).map (fun i => (r, i)) ++ wkD T D R := rfl
    rw [e]
    have q1 := List.pairwise_cons.1 h1
    have q2 := List.nodup_cons.1 h2
    obtain ⟨c, hc⟩ := Option.isSome_iff_exists.1 (h3 r (by simp))
    refine List.pairwise_append.2 ⟨?_, wk_pairs T D R q1.2 q2.2 (fun s hs => h3 s (by simp [hs])) (fun s hs => h4 s (by simp [hs])), fun a ha b hb => ?_⟩
    · rw [List.pairwise_map]
      exact (h4 r (by simp)).imp fun {i j} hij => ⟨⟨c, c, hc, hc, sle_self T c⟩, fun _ => hij⟩
    · obtain ⟨i, -, rfl⟩ := List.mem_map.1 ha
      unfold wkD at hb
      obtain ⟨s, hs, hb2⟩ := List.mem_flatMap.1 hb
      obtain ⟨j, -, rfl⟩ := List.mem_map.1 hb2
      exact ⟨q1.1 s hs, fun e => absurd (show r = s from e) fun e => q2.1 (e ▸ hs)⟩
end
section
variable {W w w' : World} {p : Nat} {T : Nat → Int} {D A B : List Fd} {P : Nat → Prop} {x y : Fd} {i r : Int} {c : Cl} {l : List Int} {q : Int × Int}
theorem px_pairs (h : PX W w p T D P) : (wkO T D).Pairwise (wkR T D) := by
  obtain ⟨MR, MF, lab, t, Q, fr, h1, h2, -⟩ := h.tn
  have h9 := h1.t.s9
  rw [h2.tT, h2.tg] at h9
  rw [← wk_is h1 h2]
  refine wk_pairs T D _ (s9_pairs h9) h9.ids (fun r hr => ?_) (fun r hr => ?_)
  · obtain ⟨q, hq, rfl⟩ := List.mem_map.1 hr
    obtain ⟨c, hc, -, -⟩ := (h9.mem q).1 hq
    rw [hc]; rfl
  · obtain ⟨-, d, hd, ho⟩ := own_at h1 h2 hr
    have g9 := (h1.each r d hd).1.s9
    rw [(h2.each r d hd).1, (h2.each r d hd).2] at g9
    rw [← ho]
    exact s9_pairs g9
theorem px_mem (h : PX W w p T D P) : (r, i) ∈ wkO T D ↔ ∃ x ∈ D, x.role = r ∧ x.id = i ∧ x.aw = true := by
  obtain ⟨MR, MF, lab, t, Q, fr, h1, h2, -⟩ := h.tn
  have h9 := h1.t.s9
  rw [h2.tT, h2.tg] at h9
  rw [← wk_is h1 h2]
  unfold wkD
  rw [List.mem_flatMap]
  constructor
  · rintro ⟨s, hs, hi⟩
    obtain ⟨j, hj, e⟩ := List.mem_map.1 hi
    cases e
    obtain ⟨-, d, hd, ho⟩ := own_at h1 h2 hs
    have g9 := (h1.each r d hd).1.s9
    rw [(h2.each r d hd).1, (h2.each r d hd).2] at g9
    rw [← ho] at hj
    obtain ⟨q, hq, rfl⟩ := List.mem_map.1 hj
    obtain ⟨c, hc, ha, -⟩ := (g9.mem q).1 hq
    obtain ⟨x, hx, hr, hi, rfl⟩ := (GO_some h2.ok).1 hc
    exact ⟨x, hx, hr, hi, ha⟩
  · rintro ⟨x, hx, rfl, rfl, ha⟩
    have hg := (GT_some (r := x.role) h2.ok).2 ⟨x, hx, rfl, rfl⟩
    have hr : x.role ∈ t.L.map (·.i) := List.mem_map.2 ⟨plOf T x.role _, (h9.mem _).2 ⟨_, hg, rfl, rfl⟩, rfl⟩
    refine ⟨x.role, hr, List.mem_map.2 ⟨x.id, ?_, rfl⟩⟩
    obtain ⟨-, d, hd, ho⟩ := own_at h1 h2 hr
    have g9 := (h1.each x.role d hd).1.s9
    rw [(h2.each x.role d hd).1, (h2.each x.role d hd).2] at g9
    rw [← ho]
    have hgo := (GO_some (r := x.role) (i := x.id) h2.ok).2 ⟨x, hx, rfl, rfl, rfl⟩
    exact List.mem_map.2 ⟨plOf T x.id _, (g9.mem _).2 ⟨_, hgo, ha, rfl⟩, rfl⟩
/-- What is picked. -/
theorem pick_is (h : PX W w p T D P) (hO : pickO T D l = some q) : (∃ x ∈ D, x.role = q.1 ∧ x.id = q.2 ∧ x.aw = true) ∧ q.2 ∈ l ∧ ∀ y ∈ D, y.aw = true → y.id ∈ l → wkR T D q (y.role, y.id) := by
  unfold pickO at hO
  obtain ⟨hp, us, bs, he, has⟩ := List.find?_eq_some_iff_append.1 hO
  have hq : q ∈ wkO T D := by rw [he]; simp
  obtain ⟨q1, q2⟩ := q
  obtain ⟨x, hx, hr, hi, ha⟩ := (px_mem h).1 hq
  refine ⟨⟨x, hx, hr, hi, ha⟩, by simpa using hp, fun y hy hya hyl => ?_⟩
  have hm : (y.role, y.id) ∈ wkO T D := (px_mem h).2 ⟨y, hy, rfl, rfl, hya⟩
  have hpw := px_pairs h
  rw [he] at hm hpw
  have hpw2 := (List.pairwise_cons.1 (List.pairwise_append.1 hpw).2.1).1
  rcases List.mem_append.1 hm with hm | hm
  · have := has _ hm
    simp [hyl] at this
  · rcases List.mem_cons.1 hm with hm | hm
    · rw [hm]
      subst hr; subst hi
      exact ⟨⟨_, _, (GT_some h.ok).2 ⟨x, hx, rfl, rfl⟩, (GT_some h.ok).2 ⟨x, hx, rfl, rfl⟩, sle_self _ _⟩, fun _ => ⟨_, _, (GO_some h.ok).2 ⟨x, hx, rfl, rfl, rfl⟩, (GO_some h.ok).2 ⟨x, hx, rfl, rfl, rfl⟩, sle_self _ _⟩⟩
    · exact hpw2 _ hm
theorem pick_no (h : PX W w p T D P) (hO : pickO T D l = none) : ∀ y ∈ D, y.aw = true → y.id ∉ l := fun y hy ha hl => by
  unfold pickO at hO
  have := List.find?_eq_none.1 hO (y.role, y.id) ((px_mem h).2 ⟨y, hy, rfl, rfl, ha⟩)
  simp [hl] at this
end
end Go.Proofs.YtgfjmafdfbghnaaGreat
