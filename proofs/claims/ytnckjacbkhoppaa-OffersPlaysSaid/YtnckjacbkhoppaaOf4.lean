/- offers: Issue. -/
import Derived.Test.YtnckjacbkhoppaaOf3
import Derived.Test.YtnckjacbkhoppaaVecV
namespace Go.Proofs.Ytnckjacbkhoppaa
open Go.RowKit Go.Maps Go.MapKept
open Go.ChangeMaps (setBlock)
attribute [local go_sem] ext_cell ext_frozen extC_cell extC_frozen Mix.calmUpon Mix.mUpon
section
variable {w : World} {B tp Mo Mf Ma : Nat} {great last : Int} {S : List Ofr} {L : List (Int × Value)} {F A : Nat → Prop}
set_option maxRecDepth 100000 in
set_option maxHeartbeats 4000000 in
theorem oissue_arg (h : OT w B tp Mo Mf Ma great last S L F A) (i f a u : Int) {v : Value} {ps : List Pt} (hV : Vc w v ps) (hL : ps.length < 1000000) (hno : ¬ PfOk (i, f, a, ps, u)) : Calls Try.prog 38 #[ptr tp, .int .i64 f, .int .i64 a, v, .int .i64 u] w fun e w' => e = .returned (.tuple #[.int .i64 0, .int .i64 41]) ∧ Below w.heap.size w w' := by
  have HNO := Lib.hid hno
  clear hno
  obtain ⟨va, vc, hvv, -, -⟩ := hV.form
  subst hvv
  have H := Lib.hid h; have HV := Lib.hid hV; have HL := Lib.hid hL
  clear h hV hL
  obtain ⟨n, hn⟩ : ∃ n, n = ps.length := ⟨_, rfl⟩
  have HN := Lib.hid hn
  rw [← hn] at HV ⊢
  clear hn
  go_enter Try.func38, Try.ntmps38
  go_wp2_with fail
  refine (omade H.out).mono ?_
  rintro e w2 ⟨rfl, rfl⟩
  by_cases q0 : f < 1
  · go_wp2
    go_ret2
    exact ⟨rfl, Below.refl _ _⟩
  by_cases q1 : a < 1
  · go_wp2
    go_ret2
    exact ⟨rfl, Below.refl _ _⟩
  by_cases q3 : n = 0
  · have q3b : ((n : Int) == 0) = true := by simp [q3]
    go_wp2
    go_ret2
    exact ⟨rfl, Below.refl _ _⟩
  have q3b : ((n : Int) == 0) = false := by simp [q3]
  by_cases hvr : VR ps
  · have hu : u < 0 := Classical.byContradiction fun hu => HNO.out ⟨by show 1 ≤ f; omega, by show 1 ≤ a; omega, fun e => q3 (by rw [HN.out]; exact congrArg List.length e), hvr, by show 0 ≤ u; omega⟩
    have hR := vecright_v (.slice va n vc) ps (by have := HL.out; omega) w2 HV.out
    rw [decide_eq_true hvr] at hR
    have HR := Lib.hid hR
    clear hvr hR
    go_wp2_with fail
    refine HR.out.mono ?_
    rintro e w3 ⟨rfl, hb3⟩
    have HB3 := Lib.hid hb3
    clear hb3
    go_wp2
    go_ret2
    exact ⟨rfl, HB3.out⟩
  · have hR := vecright_v (.slice va n vc) ps (by have := HL.out; omega) w2 HV.out
    rw [decide_eq_false hvr] at hR
    have HR := Lib.hid hR
    clear hvr hR
    go_wp2_with fail
    refine HR.out.mono ?_
    rintro e w3 ⟨rfl, hb3⟩
    have HB3 := Lib.hid hb3
    clear hb3
    go_wp2
    go_ret2
    exact ⟨rfl, HB3.out⟩
set_option maxRecDepth 100000 in
set_option maxHeartbeats 4000000 in
theorem oissue_full (h : OT w B tp Mo Mf Ma great last S L F A) (i f a u : Int) {v : Value} {ps : List Pt} (hV : Vc w v ps) (hL : ps.length < 1000000) (hok : PfOk (i, f, a, ps, u)) (hfull : great ≤ last) : Calls Try.prog 38 #[ptr tp, .int .i64 f, .int .i64 a, v, .int .i64 u] w fun e w' => e = .returned (.tuple #[.int .i64 0, .int .i64 34]) ∧ Below w.heap.size w w' := by
  have HOK := Lib.hid hok
  clear hok
  obtain ⟨va, vc, hvv, -, -⟩ := hV.form
  subst hvv
  have H := Lib.hid h; have HV := Lib.hid hV; have HL := Lib.hid hL
  clear h hV hL
  obtain ⟨n, hn⟩ : ∃ n, n = ps.length := ⟨_, rfl⟩
  have HN := Lib.hid hn
  rw [← hn] at HV ⊢
  clear hn
  go_enter Try.func38, Try.ntmps38
  go_wp2_with fail
  refine (omade H.out).mono ?_
  rintro e w2 ⟨rfl, rfl⟩
  have hok := HOK.out
  unfold PfOk at hok
  simp only at hok
  have q0 : ¬ f < 1 := by omega
  have q1 : ¬ a < 1 := by omega
  have q3b : ((n : Int) == 0) = false := by
    have : n ≠ 0 := fun e => hok.2.2.1 (List.eq_nil_of_length_eq_zero (by rw [← HN.out]; exact e))
    simp [this]
  have q4 : ¬ u < 0 := by omega
  have hR := vecright_v (.slice va n vc) ps (by have := HL.out; omega) w2 HV.out
  rw [decide_eq_true hok.2.2.2.1] at hR
  have HR := Lib.hid hR
  clear hR hok
  go_wp2_with fail
  refine HR.out.mono ?_
  rintro e w3 ⟨rfl, hb3⟩
  have HB3 := Lib.hid hb3
  have H3 := Lib.hid (H.out.below hb3)
  clear hb3
  obtain ⟨c0, c1, c2, c3, c4⟩ := H3.out.cells
  have hl := H3.out.lt.1
  have hge : decide (great ≤ last) = true := decide_eq_true hfull
  go_wp2
  refine Mix.regionC (fun _ => False) (by kernel_rfl) ?_
  intro w11 hb11
  refine Mix.take_exC _ _ 0 rfl (by kernel_rfl) (by kernel_rfl) (by kernel_rfl) (by kernel_rfl) (fun K hK => ?_)
  go_simp
  first | (refine hK _ ?_; clear hK K) | (apply Exists.intro; refine ⟨fun x => ?_, hK _ ?_⟩; (fail); clear hK K)
  refine Mix.take_exC _ _ 1 rfl (by kernel_rfl) (by kernel_rfl) (by kernel_rfl) (by kernel_rfl) (fun K hK => ?_)
  go_simp
  first | (refine hK _ ?_; clear hK K) | (apply Exists.intro; refine ⟨fun x => ?_, hK _ ?_⟩; (fail); clear hK K)
  refine Mix.take_exC _ _ 2 rfl (by kernel_rfl) (by kernel_rfl) (by kernel_rfl) (by kernel_rfl) (fun K hK => ?_)
  go_simp
  first | (refine hK _ ?_; clear hK K) | (apply Exists.intro; refine ⟨fun x => ?_, hK _ ?_⟩; (fail); clear hK K)
  refine Mix.take_exC _ _ 3 rfl (by kernel_rfl) (by kernel_rfl) (by kernel_rfl) (by kernel_rfl) (fun K hK => ?_)
  go_simp
  first | (refine hK _ ?_; clear hK K) | (apply Exists.intro; refine ⟨fun x => ?_, hK _ ?_⟩; (fail); clear hK K)
  refine Mix.take_exC _ _ 4 rfl (by kernel_rfl) (by kernel_rfl) (by kernel_rfl) (by kernel_rfl) (fun K hK => ?_)
  go_simp
  first | (refine hK _ ?_; clear hK K) | (apply Exists.intro; refine ⟨fun x => ?_, hK _ ?_⟩; (fail); clear hK K)
  refine Mix.take_exC _ _ 5 rfl (by kernel_rfl) (by kernel_rfl) (by kernel_rfl) (by kernel_rfl) (fun K hK => ?_)
  go_simp
  first | (refine hK _ ?_; clear hK K) | (apply Exists.intro; refine ⟨fun x => ?_, hK _ ?_⟩; (fail); clear hK K)
  refine Mix.take_exC _ _ 6 rfl (by kernel_rfl) (by kernel_rfl) (by kernel_rfl) (by kernel_rfl) (fun K hK => ?_)
  go_simp
  first | (refine hK _ ?_; clear hK K) | (apply Exists.intro; refine ⟨fun x => ?_, hK _ ?_⟩; (fail); clear hK K)
  refine Mix.take_exC _ _ 7 rfl (by kernel_rfl) (by kernel_rfl) (by kernel_rfl) (by kernel_rfl) (fun K hK => ?_)
  go_simp
  first | (refine hK _ ?_; clear hK K) | (apply Exists.intro; refine ⟨fun x => ?_, hK _ ?_⟩; (fail); clear hK K)
  refine Mix.take_exC _ _ 8 rfl (by kernel_rfl) (by kernel_rfl) (by kernel_rfl) (by kernel_rfl) (fun K hK => ?_)
  go_simp
  first | (refine hK _ ?_; clear hK K) | (apply Exists.intro; refine ⟨fun x => ?_, hK _ ?_⟩; (fail); clear hK K)
  refine Mix.done (by kernel_rfl) (.of_below _ hb11) ?_
  intro w12 hb12
  have HB12 := Lib.hid (bt HB3.out (bt hb11 hb12))
  clear hb11 hb12
  go_wp2
  go_ret2
  exact ⟨rfl, HB12.out⟩
end
end Go.Proofs.Ytnckjacbkhoppaa
