/- vec.Add, vec.Sub, vec.Least, vec.Holds at any two slices of parts. -/
import Derived.Test.YtennhfkhdfalfaaVecG
namespace Go.Proofs.Ytennhfkhdfalfaa
open Go.RowKit
attribute [local go_sem] ext_cell ext_frozen Mix.calmUpon Mix.mUpon eqL2 eqP3
theorem merge_w (f : Nat) (g : Int → Int → Option Int) (hf : MF f g) (va vb : Value) (la lb : List Pt) (hl : la.length < 1000000000) (hl' : lb.length < 1000000000) (W : World) (hA : Vc W va la) (hB : Vc W vb lb) :
    Calls Try.prog 87 #[va, vb, .func (.func f) #[] #[]] W (RetW W (mrg g la lb)) := by
  by_cases h1 : VR la
  · by_cases h2 : VR lb
    · unfold mrg; rw [if_pos ⟨h1, h2⟩]; exact merge_good f g hf va vb la lb h1 h2 W hA hB
    · rw [mrg_bad fun h => h2 h.2]
      exact (merge_bad2 f va vb la lb h1 h2 hl hl' W hA hB).mono fun e w' ⟨he, hb⟩ => by subst he; exact RetW.none rfl hb
  · rw [mrg_bad fun h => h1 h.1]
    exact (merge_bad1 f va vb la h1 hl W hA).mono fun e w' ⟨he, hb⟩ => by subst he; exact RetW.none rfl hb
theorem merge_v (f : Nat) (g : Int → Int → Option Int) (hf : MF f g) (va vb : Value) (la lb : List Pt) (hl : la.length < 1000000000) (hl' : lb.length < 1000000000) (W : World) (hA : Vc W va la) (hB : Vc W vb lb) :
    Calls Try.prog 87 #[va, vb, .func (.func f) #[] #[]] W (RetO W (mrg g la lb)) := (merge_w f g hf va vb la lb hl hl' W hA hB).mono fun _ _ h => h.o
theorem addc_yes (x y : Int) (h : QA x y 9007199254740992) : Pure Try.prog 112 #[.int .i64 x, .int .i64 y] (.tuple #[.int .i64 (x + y), .bool true]) := by
  intro W
  have HQ := Lib.hid (qadd_yes x y 9007199254740992 h ⟨by omega, by omega⟩)
  clear h
  go_enter Try.func112, Try.ntmps112
  go_wp2_with fail
  (with_reducible refine (HQ.out _).mono ?_)
  rintro e w1 ⟨rfl, hb1⟩
  have hs1 : W.heap.size + 0 ≤ w1.heap.size := (by have h := hb1.size; first | omega | (simp at h; omega))
  obtain ⟨hc1, hf1, hl1⟩ := bcell hb1
  clear hl1
  go_wp2
  go_ret2
  refine ⟨rfl, ?_⟩
  (repeat (first | assumption | exact Below.refl _ _ | refine ba ?_ _ | refine bd ?_ | refine bdn ?_ _ | refine bs ?_ (by first | omega | (simp; done) | (simp; omega)) _ | refine bt ?_ (by assumption)))
theorem addc_no (x y : Int) (h : ¬ QA x y 9007199254740992) : Pure Try.prog 112 #[.int .i64 x, .int .i64 y] (.tuple #[.int .i64 0, .bool false]) := by
  intro W
  have HQ := Lib.hid (qadd_no x y 9007199254740992 h ⟨by omega, by omega⟩)
  clear h
  go_enter Try.func112, Try.ntmps112
  go_wp2_with fail
  (with_reducible refine (HQ.out _).mono ?_)
  rintro e w1 ⟨rfl, hb1⟩
  have hs1 : W.heap.size + 0 ≤ w1.heap.size := (by have h := hb1.size; first | omega | (simp at h; omega))
  obtain ⟨hc1, hf1, hl1⟩ := bcell hb1
  clear hl1
  go_wp2
  go_ret2
  refine ⟨rfl, ?_⟩
  (repeat (first | assumption | exact Below.refl _ _ | refine ba ?_ _ | refine bd ?_ | refine bdn ?_ _ | refine bs ?_ (by first | omega | (simp; done) | (simp; omega)) _ | refine bt ?_ (by assumption)))
theorem mfAdd : MF 112 gAdd where
  z := gAdd0
  b := gAddB
  cf := fun x y w => by go_simp
  yes := fun x y z x0 x1 y0 y1 h => by
    unfold gAdd at h; split at h
    · cases h; exact addc_yes x y ⟨x0, y0, by assumption⟩
    · cases h
  no := fun x y x0 x1 y0 y1 h => by
    unfold gAdd at h; split at h
    · cases h
    · exact ⟨0, addc_no x y fun h => absurd h.2.2 (by assumption)⟩
theorem mfSub : MF 111 gSub where
  z := gSub0
  b := gSubB
  cf := fun x y w => by go_simp
  yes := fun x y z x0 x1 y0 y1 h => by
    unfold gSub at h; split at h
    · cases h; exact qsub_yes x y y0 (by assumption) ⟨by omega, by omega⟩
    · cases h
  no := fun x y x0 x1 y0 y1 h => by
    unfold gSub at h; split at h
    · cases h
    · exact ⟨0, qsub_no x y fun h => absurd h.2 (by assumption)⟩
section
variable (va vb : Value) (la lb : List Pt) (hl : la.length < 1000000000) (hl' : lb.length < 1000000000) (W : World) (hA : Vc W va la) (hB : Vc W vb lb)
include hl hl' hA hB
theorem vadd_w : Calls Try.prog 76 #[va, vb] W (RetW W (mrg gAdd la lb)) := by
  have HM := Lib.hid fun w (h : Below W.heap.size W w) => merge_w _ _ mfAdd va vb la lb hl hl' w (hA.on h) (hB.on h)
  generalize mrg gAdd la lb = o at *
  clear hA hB hl hl'
  go_enter Try.func76, Try.ntmps76
  go_wp2_with fail
  refine (HM.out _ (by (repeat (first | assumption | exact Below.refl _ _ | refine ba ?_ _ | refine bd ?_ | refine bdn ?_ _ | refine bs ?_ (by first | omega | (simp; done) | (simp; omega)) _ | refine bt ?_ (by assumption))))).mono ?_
  rintro e w1 ⟨v, rfl, hv, hb1⟩
  have HV := Lib.hid hv
  clear hv
  go_wp2
  go_ret2
  exact ⟨v, rfl, HV.out, by (repeat (first | assumption | exact Below.refl _ _ | refine ba ?_ _ | refine bd ?_ | refine bdn ?_ _ | refine bs ?_ (by first | omega | (simp; done) | (simp; omega)) _ | refine bt ?_ (by assumption)))⟩
theorem vsub_w : Calls Try.prog 72 #[va, vb] W (RetW W (mrg gSub la lb)) := by
  have HM := Lib.hid fun w (h : Below W.heap.size W w) => merge_w _ _ mfSub va vb la lb hl hl' w (hA.on h) (hB.on h)
  generalize mrg gSub la lb = o at *
  clear hA hB hl hl'
  go_enter Try.func72, Try.ntmps72
  go_wp2_with fail
  refine (HM.out _ (by (repeat (first | assumption | exact Below.refl _ _ | refine ba ?_ _ | refine bd ?_ | refine bdn ?_ _ | refine bs ?_ (by first | omega | (simp; done) | (simp; omega)) _ | refine bt ?_ (by assumption))))).mono ?_
  rintro e w1 ⟨v, rfl, hv, hb1⟩
  have HV := Lib.hid hv
  clear hv
  go_wp2
  go_ret2
  exact ⟨v, rfl, HV.out, by (repeat (first | assumption | exact Below.refl _ _ | refine ba ?_ _ | refine bd ?_ | refine bdn ?_ _ | refine bs ?_ (by first | omega | (simp; done) | (simp; omega)) _ | refine bt ?_ (by assumption)))⟩
theorem vadd_any : Calls Try.prog 76 #[va, vb] W (RetO W (mrg gAdd la lb)) := (vadd_w va vb la lb hl hl' W hA hB).mono fun _ _ h => h.o
theorem vsub_any : Calls Try.prog 72 #[va, vb] W (RetO W (mrg gSub la lb)) := (vsub_w va vb la lb hl hl' W hA hB).mono fun _ _ h => h.o
theorem vholds_at : Calls Try.prog 23 #[va, vb] W fun e w' => e = .returned (.bool (mrg gSub la lb).isSome) ∧ Below W.heap.size W w' := by
  have HM := Lib.hid fun w (h : Below W.heap.size W w) => vsub_any va vb la lb hl hl' w (hA.on h) (hB.on h)
  generalize mrg gSub la lb = o at *
  clear hA hB hl hl'
  go_enter Try.func23, Try.ntmps23
  go_wp2_with fail
  refine (HM.out _ (by (repeat (first | assumption | exact Below.refl _ _ | refine ba ?_ _ | refine bd ?_ | refine bdn ?_ _ | refine bs ?_ (by first | omega | (simp; done) | (simp; omega)) _ | refine bt ?_ (by assumption))))).mono ?_
  rintro e w1 ⟨v, rfl, hv, hb1⟩
  clear hv
  go_wp2
  go_ret
  exact ⟨rfl, by (repeat (first | assumption | exact Below.refl _ _ | refine ba ?_ _ | refine bd ?_ | refine bdn ?_ _ | refine bs ?_ (by first | omega | (simp; done) | (simp; omega)) _ | refine bt ?_ (by assumption)))⟩
end
theorem vholds_any (va vb : Value) (la lb : List Pt) (hl : la.length < 1000000000) (hl' : lb.length < 1000000000) : PureOn (fun w => Vc w va la ∧ Vc w vb lb) Try.prog 23 #[va, vb] (.bool (mrg gSub la lb).isSome) :=
  fun W h => vholds_at va vb la lb hl hl' W h.1 h.2
end Go.Proofs.Ytennhfkhdfalfaa
