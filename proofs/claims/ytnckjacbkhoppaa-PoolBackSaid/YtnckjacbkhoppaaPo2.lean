/- pool: check, without, the steps. -/
import Derived.Test.YtnckjacbkhoppaaPo1
namespace Go.Proofs.Ytnckjacbkhoppaa
open Go.RowKit Go.Maps
attribute [local go_sem] ext_cell ext_frozen extC_cell extC_frozen Mix.calmUpon Mix.mUpon
abbrev ptrP (b : Nat) : Value := .pointer (some ⟨b, 0, none⟩)
/-- An operation that is right. -/
def okO (o : Qo) : Bool := decide (1 ≤ o.1 ∧ o.1 ≤ 3 ∧ o.2.2 ≠ [] ∧ VR o.2.2)
def chkE (P : List Pt) (role : Int) (l : List Qo) : Int := if VR P ∧ 1 ≤ role ∧ role ≤ 32 then (if l.all okO then (if forB role l then 27 else 0) else 41) else 41
/-- A vector and a number that a call answers. -/
def RetS (w : World) (r : List Pt × Int) (e : Ending) (w' : World) : Prop := ∃ v, e = .returned (.tuple #[v, .int .i64 r.2]) ∧ Vc w' v r.1 ∧ Below w.heap.size w w'
def wo (P v : List Pt) : List Pt × Int := match mrg gSub P v with | some r => (r, 0) | none => ([], 30)
theorem res_2 {fn : Func} {tmps : Array Value} {w : World} {p q : Nat} (h : fn.results = #[.tmp p, .tmp q]) : (results fn tmps).run Try.prog w = .ok (.tuple #[tmps.getD p undef, tmps.getD q undef]) w := by
  simp only [results, h]
  simp [Sem.run_bind, Result.andThen]
theorem without_any {W : World} {va vb : Value} {la lb : List Pt} (hl : la.length < 1000000000) (hl' : lb.length < 1000000000) (hA : Vc W va la) (hB : Vc W vb lb) : Calls Try.prog 133 #[va, vb] W (RetS W (wo la lb)) := by
  have HS := Lib.hid (vsub_any va vb la lb hl hl' W hA hB)
  obtain ⟨a, c, rfl, -, -⟩ := hA.form
  obtain ⟨a', c', rfl, -, -⟩ := hB.form
  generalize la.length = n at *
  generalize lb.length = n' at *
  clear hA hB hl hl'
  go_enter Try.func133, Try.ntmps133
  go_wp2_with fail
  refine HS.out.mono ?_
  rintro e w1 ⟨v, rfl, hv, hb⟩
  cases ho : mrg gSub la lb with
  | none =>
    have HW := Lib.hid (show wo la lb = ([], 30) by unfold wo; rw [ho])
    have HB := Lib.hid hb
    clear hv hb
    go_wp2
    refine bodyPost_ret (res_2 Try.results133) rfl ?_
    rw [HW.out]
    exact ⟨_, rfl, Vc.nil _, HB.out⟩
  | some r =>
    have HW := Lib.hid (show wo la lb = (r, 0) by unfold wo; rw [ho])
    rw [ho] at hv
    obtain ⟨b, cb, rfl, -, -⟩ := hv.form
    have HB := Lib.hid hb; have HV := Lib.hid hv
    generalize ((some r).getD []).length = m at *
    clear hv hb
    go_wp2
    refine bodyPost_ret (res_2 Try.results133) rfl ?_
    rw [HW.out]
    exact ⟨_, rfl, HV.out, HB.out⟩
theorem wo_len {P v : List Pt} : (wo P v).1.length ≤ 132 := by
  unfold wo
  split
  · rename_i r h
    exact vr_len (mrg_some gSub0 gSubB h).2.2.1
  · exact Nat.zero_le _
/-- What turning a vector from one role to another one leaves. -/
def tuS (P ps : List Pt) (f t : Int) : List Pt × Int :=
  match mrg gSub P ps with
  | none => ([], 30)
  | some r => match mrg gAdd r ((mvO ps f t).getD []) with
    | none => ([], 31)
    | some s => (s, 0)
theorem mvO_len {ps : List Pt} {f t : Int} : ((mvO ps f t).getD []).length ≤ 132 := by
  unfold mvO
  split
  · unfold ofO
    split
    · rename_i h; exact vr_len (ofV_vr h)
    · exact Nat.zero_le _
  · exact Nat.zero_le _
theorem tuS_len {P ps : List Pt} {f t : Int} : (tuS P ps f t).1.length ≤ 132 := by
  unfold tuS
  split
  · exact Nat.zero_le _
  · split
    · exact Nat.zero_le _
    · rename_i s h
      exact vr_len (mrg_some gAdd0 gAddB h).2.2.1
set_option maxRecDepth 100000 in
set_option maxHeartbeats 2000000 in
theorem turn1 {W : World} {pv vv : Value} {P ps : List Pt} {b1 b2 b3 : Nat} {f t : Int} (hP : P.length < 1000000000) (hA : Vc W pv P) (hB : Vc W vv ps) (hI : I64s ps) (hps : ps.length < 1000000)
    (hc1 : W.cell? ⟨b1, 0, none⟩ = some vv) (hc2 : W.cell? ⟨b2, 0, none⟩ = some (.int .i64 f)) (hc3 : W.cell? ⟨b3, 0, none⟩ = some (.int .i64 t)) (hl : b1 < W.heap.size ∧ b2 < W.heap.size ∧ b3 < W.heap.size) :
    Calls Try.prog 150 #[pv, ptrP b1, ptrP b2, ptrP b3] W (RetS W (tuS P ps f t)) := by
  have HWO := Lib.hid (without_any hP (by omega) hA hB)
  have HB := Lib.hid hB
  have HMV := Lib.hid fun w (hb : Below W.heap.size W w) => vmove_any vv ps f t hI hps w (hB.on hb)
  obtain ⟨a, c, rfl, -, -⟩ := hA.form
  obtain ⟨a', c', rfl, -, -⟩ := hB.form
  have HC := Lib.hid (And.intro hc1 (And.intro hc2 hc3))
  obtain ⟨l1, l2, l3⟩ := hl
  have HL := Lib.hid (And.intro l1 (And.intro l2 l3))
  generalize P.length = n at *
  generalize ps.length = n' at *
  clear hA hB hP hI hps
  go_enter Try.func150, Try.ntmps150
  go_wp2_with fail
  refine HWO.out.mono ?_
  rintro e w1 ⟨v1, rfl, hv1, hb1⟩
  obtain ⟨a1, c1, rfl, -, -⟩ := hv1.form
  cases ho : mrg gSub P ps with
  | none =>
    have HW := Lib.hid (show tuS P ps f t = ([], 30) by unfold tuS; rw [ho])
    have hw : wo P ps = ([], 30) := by unfold wo; rw [ho]
    rw [hw] at hv1 ⊢
    have HB1 := Lib.hid hb1
    clear hv1 hb1 hw
    go_wp2
    refine bodyPost_ret (res_2 Try.results150) rfl ?_
    rw [HW.out]
    exact ⟨_, rfl, Vc.nil _, HB1.out⟩
  | some r =>
    have hw : wo P ps = (r, 0) := by unfold wo; rw [ho]
    rw [hw] at hv1 ⊢
    have hrl : r.length ≤ 132 := vr_len (mrg_some gSub0 gSubB ho).2.2.1
    have k1 := (hb1.cell (p := ⟨b1, 0, none⟩) HL.out.1).trans HC.out.1
    have k2 := (hb1.cell (p := ⟨b2, 0, none⟩) HL.out.2.1).trans HC.out.2.1
    have k3 := (hb1.cell (p := ⟨b3, 0, none⟩) HL.out.2.2).trans HC.out.2.2
    have l1 := Nat.lt_of_lt_of_le HL.out.1 hb1.size
    have l2 := Nat.lt_of_lt_of_le HL.out.2.1 hb1.size
    have l3 := Nat.lt_of_lt_of_le HL.out.2.2 hb1.size
    have HB1 := Lib.hid hb1; have HV1 := Lib.hid hv1; have HRL := Lib.hid hrl
    have HO := Lib.hid ho
    clear hv1 hb1 hw ho hc1 hc2 hc3
    simp only at HV1
    generalize hrn : r.length = rn at *
    go_wp2_with fail
    refine (HMV.out w1 HB1.out).mono ?_
    rintro e w2 ⟨v2, rfl, hv2, hb2⟩
    obtain ⟨a2, c2, rfl, -, -⟩ := hv2.form
    have HAD := Lib.hid (vadd_any (.slice a1 r.length c1) (.slice a2 ((mvO ps f t).getD []).length c2) r ((mvO ps f t).getD []) (by have := HRL.out; omega) (by have := mvO_len (ps := ps) (f := f) (t := t); omega) w2 (by rw [hrn]; exact HV1.out.on hb2) hv2)
    have HB2 := Lib.hid (bt HB1.out hb2)
    rw [hrn] at HAD
    clear k1 k2 k3 l1 l2 l3 hv2 hb2 hrl
    have HRN := Lib.hid hrn
    clear hrn
    generalize ((mvO ps f t).getD []).length = mn at *
    generalize hmq : (mvO ps f t).isSome = mq at *
    clear hmq
    go_wp2_with fail
    refine HAD.out.mono ?_
    rintro e w3 ⟨v3, rfl, hv3, hb3⟩
    obtain ⟨a3, c3, rfl, -, -⟩ := hv3.form
    have HB3 := Lib.hid (bt HB2.out hb3)
    cases hq : mrg gAdd r ((mvO ps f t).getD []) with
    | none =>
      have HW := Lib.hid (show tuS P ps f t = ([], 31) by unfold tuS; rw [HO.out]; simp only; rw [hq])
      clear hv3 hb3 hq
      go_wp2
      refine bodyPost_ret (res_2 Try.results150) rfl ?_
      rw [HW.out]
      exact ⟨_, rfl, Vc.nil _, HB3.out⟩
    | some s =>
      have HW := Lib.hid (show tuS P ps f t = (s, 0) by unfold tuS; rw [HO.out]; simp only; rw [hq])
      rw [hq] at hv3
      have HV3 := Lib.hid hv3
      clear hv3 hb3 hq
      go_wp2
      refine bodyPost_ret (res_2 Try.results150) rfl ?_
      rw [HW.out]
      exact ⟨_, rfl, HV3.out, HB3.out⟩
end Go.Proofs.Ytnckjacbkhoppaa
