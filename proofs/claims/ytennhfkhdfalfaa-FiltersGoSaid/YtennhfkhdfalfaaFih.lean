/- filters: what is blocked, plainly. -/
import Derived.Test.YtennhfkhdfalfaaFi6
namespace Go.Proofs.Ytennhfkhdfalfaa
open Go.RowKit Go.Maps
theorem blk_iff {S : List Pf} {fr ag : Int} {vs : List Pt} : blk S fr ag vs = true ↔ ∃ f ∈ S, kx f = ⟨fr, ag⟩ ∧ HLD f.2.2.2 vs := by
  unfold blk fk
  rw [List.any_eq_true]
  constructor
  · rintro ⟨f, hf, h⟩
    obtain ⟨h1, h2⟩ := List.mem_filter.1 hf
    exact ⟨f, h1, of_decide_eq_true h2, (sub_iff _ _).1 h⟩
  · rintro ⟨f, hf, hk, h⟩
    exact ⟨f, List.mem_filter.2 ⟨hf, decide_eq_true hk⟩, (sub_iff _ _).2 h⟩
theorem put_sub {cap : Int} {S : List Pf} {f g : Pf} (h : g ∈ S) : g ∈ putP cap S f := by
  unfold putP
  split
  · split
    · exact h
    · split
      · exact h
      · exact List.mem_append.2 (.inl h)
  · exact h
theorem put_in {cap : Int} {S : List Pf} {f : Pf} (h : putE cap S f = 0) : PArg f ∧ f ∈ putP cap S f := by
  unfold putE at h
  unfold putP
  by_cases h1 : PArg f
  · rw [if_pos h1] at h ⊢
    refine ⟨h1, ?_⟩
    by_cases h2 : f ∈ S
    · rw [if_pos h2]; exact h2
    · rw [if_neg h2] at h ⊢
      by_cases h3 : cap ≤ (S.length : Int)
      · rw [if_pos h3] at h; cases h
      · rw [if_neg h3]; exact List.mem_append.2 (.inr List.mem_cons_self)
  · rw [if_neg h1] at h; cases h
/-- One filter more blocks no less. -/
theorem blk_put {cap : Int} {S : List Pf} {f : Pf} {fr ag : Int} {vs : List Pt} (h : blk S fr ag vs = true) : blk (putP cap S f) fr ag vs = true := by
  obtain ⟨g, hg, hk, hh⟩ := blk_iff.1 h
  exact blk_iff.2 ⟨g, put_sub hg, hk, hh⟩
theorem gt_nil (k r : Int) : gt [] k r = 0 := rfl
/-- The least of two is held by what holds the first. -/
theorem held_less {h u l : List Pt} (hh : HLD h u) (hge : ∀ k r, 0 ≤ gt h k r) : HLD h ((mrg gMin u l).getD []) := by
  cases hm : mrg gMin u l with
  | none => exact ⟨hh.1, VR.nil, fun k r => by show gt [] k r ≤ _; rw [gt_nil]; exact hge k r⟩
  | some x =>
    obtain ⟨ha, hb, hl, hg⟩ := mrg_some gMin0 gMinB hm
    refine ⟨hh.1, hl, fun k r => ?_⟩
    have h1 : gt x k r = if gt u k r ≤ gt l k r then gt u k r else gt l k r := (Option.some.inj (hg k r)).symm
    have h2 := hh.2.2 k r
    show gt x k r ≤ _
    rw [h1]; split <;> omega
/-- .. and by the second. -/
theorem held_less2 {u l : List Pt} (hl : VR l) (hge : ∀ k r, 0 ≤ gt l k r) : HLD l ((mrg gMin u l).getD []) := by
  cases hm : mrg gMin u l with
  | none => exact ⟨hl, VR.nil, fun k r => by show gt [] k r ≤ _; rw [gt_nil]; exact hge k r⟩
  | some x =>
    obtain ⟨ha, hb, hx, hg⟩ := mrg_some gMin0 gMinB hm
    refine ⟨hl, hx, fun k r => ?_⟩
    have h1 : gt x k r = if gt u k r ≤ gt l k r then gt u k r else gt l k r := (Option.some.inj (hg k r)).symm
    show gt x k r ≤ _
    rw [h1]; split <;> omega
/-- A filter put in blocks its own parts. -/
theorem blk_own {cap : Int} {S : List Pf} {f : Pf} (h : putE cap S f = 0) : blk (putP cap S f) f.1 f.2.1 f.2.2.2 = true := by
  obtain ⟨h1, h2⟩ := put_in h
  exact blk_iff.2 ⟨f, h2, rfl, h1.2.2.2.2, h1.2.2.2.2, fun _ _ => Int.le_refl _⟩
end Go.Proofs.Ytennhfkhdfalfaa
