/- The error values of strconv, as a row lists them. -/
import Derived.Test.YtfnfolpdbbnnlaaDoorOpen
import Derived.Test.YtfnfolpdbbnnlaaDoorNum
namespace Go.Proofs.YtfnfolpdbbnnlaaDoor
open Go.RowKit Go.ChangeShapes
theorem c1sE : Tryd.prog.cellsOf 9 = 1 := by kernel_rfl
theorem gER : Tryd.prog.globalNamed "strconv.ErrRange" = some 4 := by kernel_rfl
theorem gERt : (Tryd.prog.globals[4]?).map (·.type) = some 96 := by kernel_rfl
theorem gES : Tryd.prog.globalNamed "strconv.ErrSyntax" = some 3 := by kernel_rfl
theorem gESt : (Tryd.prog.globals[3]?).map (·.type) = some 96 := by kernel_rfl
theorem cES : Tryd.prog.cellsOf 168 = 1 := by kernel_rfl
theorem starES : "*" ++ "errors.errorString" = "*errors.errorString" := by decide
theorem rowES (u : TypeId) (h : Tryd.prog.typeName? 3 u = some "*errors.errorString") : u = 166 :=
  typeName_ptr_named (nm := "errors.errorString") (by rw [starES]; kernel_rfl) (by kernel_rfl) (by decide) u (by rw [starES]; exact h)
theorem ev_fourth {a b c : String × DataW Unit} {rest : List (String × DataW Unit)} {W : World} (h : laidMet Tryd.prog (a :: b :: c :: ("strconv.ErrRange", Rows.laid_strconv_ErrRange) :: ("strconv.ErrSyntax", Rows.laid_strconv_ErrSyntax) :: rest) W) : EV W := by
  obtain ⟨a1, s1, h1, _⟩ := laid_sentinel h.tail.tail.tail gER gERt Tryd.underlying96 rowES Tryd.underlying166 Tryd.underlying168 rfl rfl Tryd.underlying9 cES c1sE
  obtain ⟨a2, s2, h2, _⟩ := laid_sentinel h.tail.tail.tail.tail gES gESt Tryd.underlying96 rowES Tryd.underlying166 Tryd.underlying168 rfl rfl Tryd.underlying9 cES c1sE
  exact ⟨⟨_, _, h2⟩, ⟨_, _, h1⟩⟩
end Go.Proofs.YtfnfolpdbbnnlaaDoor
