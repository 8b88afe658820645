/- tasks: Long. -/
import Derived.Test.YtnckjacbkhoppaaTa6
namespace Go.Proofs.Ytnckjacbkhoppaa
open Go.RowKit Go.Maps
attribute [local go_sem] ext_cell ext_frozen extC_cell extC_frozen Mix.calmUpon Mix.mUpon
section
variable {w : World} {B tp M : Nat} {cap : Int} {S : List Tk} {L : List (K2 × Value)}
set_option maxRecDepth 100000 in
theorem tlong (h : TT w B tp M cap S L) : Calls Try.prog 59 #[ptr tp] w fun e w' => e = .returned (.int .i64 (S.length : Nat)) ∧ w' = w := by
  have HM := Lib.hid (tmade h)
  have hl := h.lt.1
  have c1 := h.c1
  have hlen := h.map.len Try.underlying112 3
  rw [h.len] at hlen
  clear h
  go_enter Try.func59, Try.ntmps59
  go_wp2_with fail
  refine HM.out.mono ?_
  rintro e w1 ⟨rfl, rfl⟩
  go_wp2
  go_ret
  exact ⟨rfl, rfl⟩
end
end Go.Proofs.Ytnckjacbkhoppaa
