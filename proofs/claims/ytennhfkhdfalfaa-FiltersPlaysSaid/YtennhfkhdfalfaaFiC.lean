/- filters: what is blocked, plainly; vec.Least in new memory; what works makes. Laid together out of XFih, XFii, XFij. -/
import Derived.Test.YtennhfkhdfalfaaFi6
import Derived.Test.YtennhfkhdfalfaaFig
namespace Go.Proofs.Ytennhfkhdfalfaa
section
open Go.RowKit Go.Maps
theorem blk_iff {S : List Pf} {fr ag : Int} {vs : List Pt} : blk S fr ag vs = true ↔ ∃ f ∈ S, kx f = ⟨fr, ag⟩ ∧ HLD f.2.2.2 vs := by
  unfold blk fk
  rw [List.any_eq_true]
  constructor
  · rintro ⟨f, hf, h⟩
    obtain ⟨h1, h2⟩ := List.mem_filter.1 hf
    exact ⟨f, h1, of_decide_eq_true h2, (sub_iff _ _).1 h⟩
  · rintro ⟨f, hf, hk, h⟩
    exact ⟨f, List.mem_filter.2 ⟨hf, decide_eq_true hk⟩, (sub_iff _ _).2 h⟩
theorem put_sub {cap : Int} {S : List Pf} {f g : Pf} (h : g ∈ S) : g ∈ putP cap S f := by
  unfold putP
  split
  · split
    · exact h
    · split
      · exact h
      · exact List.mem_append.2 (.inl h)
  · exact h
theorem put_in {cap : Int} {S : List Pf} {f : Pf} (h : putE cap S f = 0) : PArg f ∧ f ∈ putP cap S f := by
  unfold putE at h
  unfold putP
  by_cases h1 : PArg f
  · rw [if_pos h1] at h ⊢
    refine ⟨h1, ?_⟩
    by_cases h2 : f ∈ S
    · rw [if_pos h2]; exact h2
    · rw [if_neg h2] at h ⊢
      by_cases h3 : cap ≤ (S.length : Int)
      · rw [if_pos h3] at h; cases h
      · rw [if_neg h3]; exact List.mem_append.2 (.inr List.mem_cons_self)
  · rw [if_neg h1] at h; cases h
/-- One filter more blocks no less. -/
theorem blk_put {cap : Int} {S : List Pf} {f : Pf} {fr ag : Int} {vs : List Pt} (h : blk S fr ag vs = true) : blk (putP cap S f) fr ag vs = true := by
  obtain ⟨g, hg, hk, hh⟩ := blk_iff.1 h
  exact blk_iff.2 ⟨g, put_sub hg, hk, hh⟩
theorem gt_nil (k r : Int) : gt [] k r = 0 := rfl
/-- The least of two is held by what holds the first. -/
theorem held_less {h u l : List Pt} (hh : HLD h u) (hge : ∀ k r, 0 ≤ gt h k r) : HLD h ((mrg gMin u l).getD []) := by
  cases hm : mrg gMin u l with
  | none => exact ⟨hh.1, VR.nil, fun k r => by show gt [] k r ≤ _; rw [gt_nil]; exact hge k r⟩
  | some x =>
    obtain ⟨ha, hb, hl, hg⟩ := mrg_some gMin0 gMinB hm
    refine ⟨hh.1, hl, fun k r => ?_⟩
    have h1 : gt x k r = if gt u k r ≤ gt l k r then gt u k r else gt l k r := (Option.some.inj (hg k r)).symm
    have h2 := hh.2.2 k r
    show gt x k r ≤ _
    rw [h1]; split <;> omega
/-- .. and by the second. -/
theorem held_less2 {u l : List Pt} (hl : VR l) (hge : ∀ k r, 0 ≤ gt l k r) : HLD l ((mrg gMin u l).getD []) := by
  cases hm : mrg gMin u l with
  | none => exact ⟨hl, VR.nil, fun k r => by show gt [] k r ≤ _; rw [gt_nil]; exact hge k r⟩
  | some x =>
    obtain ⟨ha, hb, hx, hg⟩ := mrg_some gMin0 gMinB hm
    refine ⟨hl, hx, fun k r => ?_⟩
    have h1 : gt x k r = if gt u k r ≤ gt l k r then gt u k r else gt l k r := (Option.some.inj (hg k r)).symm
    show gt x k r ≤ _
    rw [h1]; split <;> omega
/-- A filter put in blocks its own parts. -/
theorem blk_own {cap : Int} {S : List Pf} {f : Pf} (h : putE cap S f = 0) : blk (putP cap S f) f.1 f.2.1 f.2.2.2 = true := by
  obtain ⟨h1, h2⟩ := put_in h
  exact blk_iff.2 ⟨f, h2, rfl, h1.2.2.2.2, h1.2.2.2.2, fun _ _ => Int.le_refl _⟩
end
section
open Go.RowKit Go.Maps
attribute [local go_sem] ext_cell ext_frozen extC_cell extC_frozen Mix.calmUpon Mix.mUpon
theorem minc_any (x y : Int) : Pure Try.prog 88 #[.int .i64 x, .int .i64 y] (.tuple #[.int .i64 (if x ≤ y then x else y), .bool true]) := by
  intro W
  rw [show (if x ≤ y then x else y) = min x y from (Int.min_def x y).symm]
  go_enter Try.func88, Try.ntmps88
  go_wp2
  go_ret2
  refine ⟨rfl, ?_⟩
  (repeat (first | assumption | exact Below.refl _ _ | refine ba ?_ _ | refine bd ?_ | refine bdn ?_ _ | refine bs ?_ (by first | omega | (simp; done) | (simp; omega)) _ | refine bt ?_ (by assumption)))
theorem mfMin : MF 88 gMin where
  z := gMin0
  b := gMinB
  cf := fun x y w => by go_simp
  yes := fun x y z x0 x1 y0 y1 h => by
    unfold gMin at h; cases h; exact minc_any x y
  no := fun x y x0 x1 y0 y1 h => by unfold gMin at h; cases h
section
variable (va vb : Value) (la lb : List Pt) (hl : la.length < 1000000000) (hl' : lb.length < 1000000000) (W : World) (hA : Vc W va la) (hB : Vc W vb lb)
include hl hl' hA hB
theorem vleast_w : Calls Try.prog 43 #[va, vb] W fun e w' => ∃ v, e = .returned v ∧ OwnP w' W.heap.size v ((mrg gMin la lb).getD []) ∧ Below W.heap.size W w' := by
  have HM := Lib.hid fun w (h : Below W.heap.size W w) => merge_w _ _ mfMin va vb la lb hl hl' w (hA.on h) (hB.on h)
  generalize mrg gMin la lb = o at *
  clear hA hB hl hl'
  go_enter Try.func43, Try.ntmps43
  go_wp2_with fail
  refine (HM.out _ (by (repeat (first | assumption | exact Below.refl _ _ | refine ba ?_ _ | refine bd ?_ | refine bdn ?_ _ | refine bs ?_ (by first | omega | (simp; done) | (simp; omega)) _ | refine bt ?_ (by assumption))))).mono ?_
  rintro e w1 ⟨v, rfl, hv, hb1⟩
  have HV := Lib.hid hv
  clear hv
  go_wp2
  go_ret
  exact ⟨v, rfl, HV.out, by (repeat (first | assumption | exact Below.refl _ _ | refine ba ?_ _ | refine bd ?_ | refine bdn ?_ _ | refine bs ?_ (by first | omega | (simp; done) | (simp; omega)) _ | refine bt ?_ (by assumption)))⟩
end
end
section
open Go.RowKit Go.Maps
attribute [local go_sem] ext_cell ext_frozen extC_cell extC_frozen Mix.calmUpon Mix.mUpon
abbrev wv : List Pt := [(0, 0, 2), (1, 0, 4)]
abbrev wf : Pf := (1, 5, 9, wv)
theorem two_parts {w : World} {q : Nat} {k r a k' r' a' : Int} (h : w.heap[q]? = some (.cells #[.int .i64 k, .int .i64 r, .int .i64 a, .int .i64 k', .int .i64 r', .int .i64 a'] 57 (0, 0))) : Vc w (.slice (some ⟨q, 0, none⟩) 2 2) [(k, r, a), (k', r', a')] := by
  refine .inr ⟨q, 0, 2, rfl, Nat.le_refl _, by decide, (Array.getElem?_eq_some_iff.1 h).1, fun i hi => ?_⟩
  have : i = 0 ∨ i = 1 := by simp at hi; omega
  rcases this with rfl | rfl <;> simp [World.cell?, h, kk, rr, aa]
theorem one_part26 {w : World} {q : Nat} {k r a : Int} (h : w.heap[q]? = some (.cells #[.int .i64 k, .int .i64 r, .int .i64 a] 57 (0, 0))) : Vc w (.slice (some ⟨q, 0, none⟩) 1 1) [(k, r, a)] := by
  refine .inr ⟨q, 0, 1, rfl, Nat.le_refl _, by decide, (Array.getElem?_eq_some_iff.1 h).1, fun i hi => ?_⟩
  obtain rfl : i = 0 := by simpa using hi
  simp [World.cell?, h, kk, rr, aa]
theorem w_arg : PArg wf := ⟨by decide, by decide, by decide, by simp, by decide⟩
theorem w_put1 : putE 2 [] wf = 0 ∧ putP 2 [] wf = [wf] := by
  unfold putE putP
  rw [if_pos w_arg, if_pos w_arg, if_neg (by simp), if_neg (by simp), if_neg (by simp), if_neg (by simp)]
  exact ⟨rfl, rfl⟩
theorem w_put2 : putE 2 [wf] wf = 0 ∧ putP 2 [wf] wf = [wf] := by
  unfold putE putP
  rw [if_pos w_arg, if_pos w_arg, if_pos (by simp), if_pos (by simp)]
  exact ⟨rfl, rfl⟩
theorem w_blk1 : blk [wf] 1 5 [(0, 0, 2), (1, 0, 3)] = true := by decide
theorem w_blk2 : blk [wf] 1 5 [(0, 0, 3)] = false := by decide
theorem w_exp8 : ([wf].filter fun f => !(decide (f.2.2.1 ≤ 8))) = [wf] := rfl
theorem w_exp9 : ([wf].filter fun f => !(decide (f.2.2.1 ≤ 9))) = [] := rfl
end
end Go.Proofs.Ytennhfkhdfalfaa
