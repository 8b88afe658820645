/- Numbers as keys of maps. -/
import Derived.Test.YtennhfkhdfalfaaMapK
import Derived.Test.YtennhfkhdfalfaaVecR
namespace Go.Proofs.Ytennhfkhdfalfaa
open Go.RowKit Go.Maps Go.MapKept
theorem j64_lit {x : Int} (h : I64 x) : (Lit.int .i64 x).wf = true := by
  obtain ⟨a, b⟩ := h
  simp [Lit.wf, IntKind.min, IntKind.max, IntKind.signed, IntKind.bits]; omega
theorem key64 : Keyed Try.prog 2 := int_keyed Try.underlying2
/-- Numbers as keys. -/
def K64 : KEnc Try.prog 2 Int where
  enc := fun x => .int .i64 x
  ok := I64
  lit := fun x h => ⟨.int .i64 x, by simp [keyOf, mapKey, Try.underlying2, j64_lit h]⟩
  inj := fun x y _ _ h => by injection h
abbrev ptr (hp : Nat) : Value := .pointer (some ⟨hp, 0, none⟩)
end Go.Proofs.Ytennhfkhdfalfaa
