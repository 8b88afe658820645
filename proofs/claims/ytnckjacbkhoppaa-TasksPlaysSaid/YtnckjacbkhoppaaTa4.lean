/- tasks: Launch. -/
import Derived.Test.YtnckjacbkhoppaaTa3
import Derived.Test.YtnckjacbkhoppaaVecV
namespace Go.Proofs.Ytnckjacbkhoppaa
open Go.RowKit Go.Maps
open Go.ChangeMaps (setBlock)
attribute [local go_sem] ext_cell ext_frozen extC_cell extC_frozen Mix.calmUpon Mix.mUpon
/-- A task that may be launched. -/
def TOk (x : Tk) : Prop := 1 ≤ x.frame ∧ 1 ≤ x.id ∧ 1 ≤ x.agent ∧ x.ps ≠ [] ∧ VR x.ps
section
variable {w : World} {B tp M : Nat} {cap : Int} {S : List Tk} {L : List (K2 × Value)}
set_option maxRecDepth 100000 in
set_option maxHeartbeats 4000000 in
theorem tlaunch_arg (h : TT w B tp M cap S L) (x : Tk) (hV : Vc w x.vv x.ps) (hL : x.ps.length < 1000000) (hno : ¬ TOk x) : Calls Try.prog 57 #[ptr tp, tkval x] w fun e w' => e = .returned (.int .i64 41) ∧ Below w.heap.size w w' := by
  have HNO := Lib.hid hno
  clear hno
  obtain ⟨va, vc, hvv, -, -⟩ := hV.form
  obtain ⟨f, i, a, vv, ps⟩ := x
  simp only at hvv hV hL
  subst hvv
  have hz := KB.made w f i a (.slice va ps.length vc)
  have hb := ba (Below.refl w.heap.size w) (.cells #[.int .i64 f, .int .i64 i, .int .i64 a, .slice va ps.length vc] 95)
  have hs : w.heap.size < (w.alloc (.cells #[.int .i64 f, .int .i64 i, .int .i64 a, .slice va ps.length vc] 95)).heap.size := by simp
  have H := Lib.hid (h.below hb); have HZ := Lib.hid hz; have HB := Lib.hid hb
  have HV := Lib.hid (hV.on hb); have HL := Lib.hid hL; have HV0 := Lib.hid hV
  have HS := Lib.hid hs
  clear h hz hb hV hL hs
  obtain ⟨n, hn⟩ : ∃ n, n = ps.length := ⟨_, rfl⟩
  have HN := Lib.hid hn
  rw [← hn] at HZ HB HV H HV0 HS ⊢
  clear hn
  go_enter Try.func57, Try.ntmps57
  go_wp2_with fail
  generalize w.alloc (.cells #[.int .i64 f, .int .i64 i, .int .i64 a, .slice va n vc] 95) = w1 at *
  generalize hbq : w.heap.size = b at *
  refine (tmade H.out).mono ?_
  rintro e w2 ⟨rfl, rfl⟩
  obtain ⟨x0, x1, x2, x3⟩ := HZ.out.cells
  have x4 := HZ.out.lt
  by_cases q0 : f < 1
  · go_wp2
    go_ret
    exact ⟨rfl, by rw [hbq]; exact HB.out⟩
  have q0' : ¬ f < 1 := q0
  by_cases q1 : i < 1
  · go_wp2
    go_ret
    exact ⟨rfl, by rw [hbq]; exact HB.out⟩
  by_cases q2 : a < 1
  · go_wp2
    go_ret
    exact ⟨rfl, by rw [hbq]; exact HB.out⟩
  by_cases q3 : n = 0
  · have q3b : ((n : Int) == 0) = true := by simp [q3]
    go_wp2
    go_ret
    exact ⟨rfl, by rw [hbq]; exact HB.out⟩
  have q3b : ((n : Int) == 0) = false := by simp [q3]
  have hvr : ¬ VR ps := fun hv => HNO.out ⟨by show 1 ≤ f; omega, by show 1 ≤ i; omega, by show 1 ≤ a; omega, fun e => q3 (by rw [HN.out]; exact congrArg List.length e), hv⟩
  have hR := vecright_v (.slice va n vc) ps (by have := HL.out; omega) w2 HV.out
  rw [decide_eq_false hvr] at hR
  have HR := Lib.hid hR
  clear hvr hR
  go_wp2_with fail
  refine HR.out.mono ?_
  rintro e w3 ⟨rfl, hb3⟩
  have HB3 := Lib.hid hb3
  clear hb3
  go_wp2
  go_ret
  exact ⟨rfl, by rw [hbq]; exact HB.out.trans (HB3.out.mono (Nat.le_of_lt HS.out))⟩
end
end Go.Proofs.Ytnckjacbkhoppaa
