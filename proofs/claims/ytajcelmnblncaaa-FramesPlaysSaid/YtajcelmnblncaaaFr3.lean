/- frames: Subscribe. -/
import Derived.Test.YtajcelmnblncaaaFr2
import Derived.WideShapes
namespace Go.Proofs.Ytajcelmnblncaaa
open Go.RowKit Go.Maps
open Go.ChangeMaps (setBlock)
attribute [local go_sem] ext_cell ext_frozen extC_cell extC_frozen Mix.calmUpon Mix.mUpon
/-- When two frameworks are the same. -/
def eqF (a b : Fr) : Bool := a.id == b.id && (a.role == b.role && (a.weight == b.weight && (a.up == b.up && (a.quiet == b.quiet && (a.time == b.time && a.til == b.til)))))
set_option maxRecDepth 100000 in
set_option maxHeartbeats 1000000 in
theorem eqFr (a0 a1 a2 : Int) (a3 a4 : Bool) (a5 a6 : Int) (b0 b1 b2 : Int) (b3 b4 : Bool) (b5 b6 : Int) (w : World) : (Op.equalIn 10000 114 (.agg #[.int .i64 a0, .int .i64 a1, .int .i64 a2, .bool a3, .bool a4, .int .i64 a5, .int .i64 a6]) (.agg #[.int .i64 b0, .int .i64 b1, .int .i64 b2, .bool b3, .bool b4, .int .i64 b5, .int .i64 b6])).run Try.prog w =
    .ok (a0 == b0 && (a1 == b1 && (a2 == b2 && (a3 == b3 && (a4 == b4 && (a5 == b5 && a6 == b6)))))) w := by
  have u1 := Try.underlying2
  have u2 := Try.underlying3
  have u3 := Try.underlying4
  have i1 := Try.isAgg2
  have i2 := Try.isAgg3
  have i3 := Try.isAgg4
  have z1 := Try.sizeOf2
  have z2 := Try.sizeOf3
  have z3 := Try.sizeOf4
  rw [show (10000 : Nat) = 9999 + 1 from rfl, Op.equalIn]
  simp only [Sem.run_bind, run_underlying Try.underlying114, Result.andThen_ok]
  go_simp
  by_cases h0 : a0 = b0
  · by_cases h1 : a1 = b1
    · by_cases h2 : a2 = b2
      · by_cases h3 : a3 = b3
        · by_cases h4 : a4 = b4
          · by_cases h5 : a5 = b5
            · by_cases h6 : a6 = b6 <;> simp [h0, h1, h2, h3, h4, h5, h6]
            · simp [h0, h1, h2, h3, h4, h5]
          · simp [h0, h1, h2, h3, h4]
        · simp [h0, h1, h2, h3]
      · simp [h0, h1, h2]
    · simp [h0, h1]
  · simp [h0]
attribute [local go_sem] eqFr
section
variable {w : World} {tp M : Nat} {cap : Int} {S : List Fr}
/-- What Subscribe leaves. -/
def SubPost (w : World) (tp M : Nat) (cap : Int) (S : List Fr) (a : FAct) : Ending → World → Prop := TP w tp M cap (fsub cap S a).1 (.tuple #[.bool (fsub cap S a).2.1, .int .i64 (fsub cap S a).2.2])
theorem sub_bad {a : FAct} (h : subBad a) : fsub cap S a = (S, false, 41) := by unfold fsub; rw [if_pos h]
set_option maxRecDepth 100000 in
set_option maxHeartbeats 1000000 in
theorem fsub_bad (h : TS w tp M cap S) (a : FAct) (hb : subBad a) : Calls Try.prog 70 #[ptr tp, .int .i64 a.id, .int .i64 a.role, .int .i64 a.weight, .int .i64 a.time] w (SubPost w tp M cap S a) := by
  have H := Lib.hid h
  have HR := Lib.hid (fright a.role)
  unfold SubPost
  rw [sub_bad hb]
  clear h
  obtain ⟨ak, ai, ar, aw, at_⟩ := a
  unfold subBad at hb
  simp only at hb HR ⊢
  go_enter Try.func70, Try.ntmps70
  go_wp2_with fail
  refine (fmade H.out).mono ?_
  rintro e w1 ⟨rfl, hb1⟩
  by_cases h1 : ai < 1
  · go_wp2
    go_ret2
    exact ⟨rfl, H.out.below hb1, .of_below _ hb1⟩
  · by_cases hr : 1 ≤ ar ∧ ar ≤ 32
    · rw [decide_eq_true hr.1, decide_eq_true hr.2] at HR
      by_cases h2 : aw < 1
      · go_wp2_with fail
        refine (HR.out w1).mono ?_
        rintro e w2 ⟨rfl, hb2⟩
        have hB := bt hb1 hb2
        go_wp2
        go_ret2
        exact ⟨rfl, H.out.below hB, .of_below _ hB⟩
      · by_cases h3 : 1000 < aw
        · go_wp2_with fail
          refine (HR.out w1).mono ?_
          rintro e w2 ⟨rfl, hb2⟩
          have hB := bt hb1 hb2
          go_wp2
          go_ret2
          exact ⟨rfl, H.out.below hB, .of_below _ hB⟩
        · by_cases h4 : at_ < 0
          · go_wp2_with fail
            refine (HR.out w1).mono ?_
            rintro e w2 ⟨rfl, hb2⟩
            have hB := bt hb1 hb2
            go_wp2
            go_ret2
            exact ⟨rfl, H.out.below hB, .of_below _ hB⟩
          · have h5 : 9007199254740992 < at_ := by omega
            clear hb
            go_wp2_with fail
            refine (HR.out w1).mono ?_
            rintro e w2 ⟨rfl, hb2⟩
            have hB := bt hb1 hb2
            go_wp2
            go_ret2
            exact ⟨rfl, H.out.below hB, .of_below _ hB⟩
    · have e1 : (decide (1 ≤ ar) && decide (ar ≤ 32)) = false := by
        rw [Bool.and_eq_false_iff]
        by_cases h1 : 1 ≤ ar
        · exact .inr (decide_eq_false fun h2 => hr ⟨h1, h2⟩)
        · exact .inl (decide_eq_false h1)
      rw [e1] at HR
      clear e1 hr
      go_wp2_with fail
      refine (HR.out w1).mono ?_
      rintro e w2 ⟨rfl, hb2⟩
      have hB := bt hb1 hb2
      go_wp2
      go_ret2
      exact ⟨rfl, H.out.below hB, .of_below _ hB⟩
end
end Go.Proofs.Ytajcelmnblncaaa
