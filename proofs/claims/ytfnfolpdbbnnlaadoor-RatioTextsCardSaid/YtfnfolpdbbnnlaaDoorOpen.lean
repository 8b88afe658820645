/- What a row over listed variables leans on: the ties, the cards; arguments opened. -/
import Derived.Test.YtfnfolpdbbnnlaaDoorCards
import Derived.Test.YtfnfolpdbbnnlaaDoorTie
import Derived.Test.YtfnfolpdbbnnlaaDoorRat1
import Derived.Test.YtfnfolpdbbnnlaaDoorOn
import Derived.Test.YtfnfolpdbbnnlaaDoorShare1
import Derived.SevenTiedAt
import Derived.ChangeSame
import Derived.LaidMore
import Derived.LaidHandle
import Derived.LaidLaws
import Derived.MakeChecks
import Derived.OpenShut
import Derived.ChangeOld
import Derived.Lib.SmallJoins
import Derived.Deep.Strs
import Derived.Stop.LaidErr
namespace Go.Proofs.YtfnfolpdbbnnlaaDoor
open Go.RowKit Go.ChangeShapes Go.WideShapes Go.ChangeAt Go.Joins
theorem i64_wf {x : Int} (h : (Lit.int .i64 x).wf = true) : I64 x := by
  simp [Lit.wf, IntKind.min, IntKind.max, IntKind.signed, IntKind.bits] at h
  exact ⟨by omega, by omega⟩
set_option maxRecDepth 100000 in
/-- A share that came in: its three numbers. -/
theorem open_share {H : Type} {enc : TypeId × Value → H} {W : World} {base : Nat} {sp : Nat → Bool} {held : Bool} {r : Reach} {b0 : Nat} {v : Value} {d : DataW H} {p : List MemPlace}
    (hv : Value.okWide Tryd.prog W r b0 63 v) (h : DataW.Trod enc Tryd.prog W base sp held 63 v d p) : ∃ n d' w, v = S3 n d' w ∧ I64 n ∧ I64 d' ∧ I64 w := by
  obtain ⟨cs, rfl, hsz⟩ := okWide_struct Tryd.underlying63 hv
  obtain ⟨c0, c1, c2, rfl⟩ := array3 (hsz.trans (show Tryd.prog.cellsOf 63 = 3 by kernel_rfl))
  obtain ⟨fuel, hf⟩ := h
  obtain ⟨y0, y1, n, _, _, h0, h1⟩ := trod_struct2 Tryd.underlying63 hf
  have h0' : DataW.trod enc Tryd.prog W base sp held n 23 [c0, c1] = some y0 := h0
  have h1' : DataW.trod enc Tryd.prog W base sp held n 2 [c2] = some y1 := h1
  obtain ⟨z0, z1, n', _, _, k0, k1⟩ := trod_struct2 Tryd.underlying23 h0'
  have k0' : DataW.trod enc Tryd.prog W base sp held n' 2 [c0] = some z0 := k0
  have k1' : DataW.trod enc Tryd.prog W base sp held n' 2 [c1] = some z1 := k1
  obtain ⟨a, ea, _, wa⟩ := DataW.trod_int Tryd.underlying2 k0'
  obtain ⟨b, eb, _, wb⟩ := DataW.trod_int Tryd.underlying2 k1'
  obtain ⟨c, ec, _, wc⟩ := DataW.trod_int Tryd.underlying2 h1'
  simp at ea eb ec
  subst ea eb ec
  exact ⟨a, b, c, rfl, i64_wf wa, i64_wf wb, i64_wf wc⟩
theorem gT10 : Tryd.prog.globalNamed "internal/strconv.uint64pow10" = some 2 := by kernel_rfl
theorem gT10t : (Tryd.prog.globals[2]?).map (·.type) = some 150 := by kernel_rfl
theorem c64 : Tryd.prog.cellsOf 100 = 1 := by kernel_rfl
theorem c20 : Tryd.prog.cellsOf 150 = 20 := by kernel_rfl
/-- The table of powers of ten stands third on the row's list. -/
theorem t10_third {x y : String × DataW Unit} {rest : List (String × DataW Unit)} {W : World} (h : laidMet Tryd.prog (x :: y :: ("internal/strconv.uint64pow10", Rows.laid_internal_strconv_uint64pow10) :: rest) W) : T10 W :=
  Lib.tabIs_of_head (rest := rest) gT10 gT10t Tryd.underlying150 Tryd.underlying100 c64 c20 (h.tail.tail)
end Go.Proofs.YtfnfolpdbbnnlaaDoor
