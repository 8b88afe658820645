/- Sums that came in. -/
import Derived.Test.YtgfjmafdfbghnaaSgO
import Derived.OpenShut
import Derived.ChangeOld
import Derived.Lib.SmallJoins
import Derived.Laws.IdiomArrays
namespace Go.Proofs.Ytgfjmafdfbghnaa
open Go.RowKit Go.ChangeShapes Go.WideShapes Go.ChangeAt Go.Joins
def four (a0 a1 a2 a3 : Int) : Nat → Int | 0 => a0 | 1 => a1 | 2 => a2 | _ => a3
theorem c1i : Try.prog.cellsOf 2 = 1 := by kernel_rfl
theorem c4s : Try.prog.cellsOf 40 = 4 := by kernel_rfl
set_option maxRecDepth 100000 in
/-- Sums that came in: four numbers. -/
theorem open_sums {H : Type} {enc : TypeId × Value → H} {W : World} {base : Nat} {sp : Nat → Bool} {held : Bool} {r : Reach} {b0 : Nat} {v : Value} {d : DataW H} {p : List MemPlace}
    (hv : Value.okWide Try.prog W r b0 40 v) (h : DataW.Trod enc Try.prog W base sp held 40 v d p) : ∃ a : Nat → Int, v = S4 a ∧ I64 (a 0) := by
  simp only [Value.okWide, Try.underlying40] at hv
  obtain ⟨cs, rfl, hsz, _⟩ := hv
  obtain ⟨c0, c1, c2, c3, rfl⟩ := array4 (hsz.trans c4s)
  obtain ⟨fuel, hf⟩ := h
  obtain ⟨y0, y1, y2, y3, n, _, h0, h1, h2, h3⟩ := trod_array4 Try.underlying40 c1i hf
  obtain ⟨a, ea, _, wa⟩ := DataW.trod_int Try.underlying2 h0
  obtain ⟨b, eb, _, wb⟩ := DataW.trod_int Try.underlying2 h1
  obtain ⟨c, ec, _, wc⟩ := DataW.trod_int Try.underlying2 h2
  obtain ⟨e, ee, _, we⟩ := DataW.trod_int Try.underlying2 h3
  simp at ea eb ec ee
  subst ea eb ec ee
  exact ⟨four a b c e, rfl, i64_of_wf wa⟩
end Go.Proofs.Ytgfjmafdfbghnaa
