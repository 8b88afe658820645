/- Pairs of numbers as keys of maps. -/
import Derived.Test.YtennhfkhdfalfaaKey
import Derived.WideKeyPair
namespace Go.Proofs.Ytennhfkhdfalfaa
open Go.RowKit Go.Maps Go.MapKept
theorem arrP : WideMaps.ArrKey Try.prog 109 2 2 := ⟨Try.underlying109, by kernel_rfl, by kernel_rfl, by kernel_rfl⟩
theorem keyP : Keyed Try.prog 109 := Keyed.of_law arrP.law
/-- Pairs (a type of their own: one way alone to compare them). -/
structure K2 where
  a : Int
  b : Int
  deriving DecidableEq
/-- A pair, spelled. -/
abbrev pval (x : K2) : Value := .agg #[.int .i64 x.a, .int .i64 x.b]
/-- Pairs as keys. -/
def KP : KEnc Try.prog 109 K2 where
  enc := pval
  ok := fun x => I64 x.a ∧ I64 x.b
  lit := fun x h => ⟨_, WideMaps.keyOf_pair arrP Try.underlying2 ⟨Try.prog.types.size - 1, by kernel_rfl⟩ (j64_lit h.1) (j64_lit h.2)⟩
  inj := fun x y _ _ h => by
    obtain ⟨a, b⟩ := x; obtain ⟨c, d⟩ := y
    simp [pval] at h
    rw [h.1, h.2]
end Go.Proofs.Ytennhfkhdfalfaa
