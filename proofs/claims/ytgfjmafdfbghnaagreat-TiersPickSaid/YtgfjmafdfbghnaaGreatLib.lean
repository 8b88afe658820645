/- Contracts of the library, laid at this translation (out of the kit's own plain mode). -/
import Derived.Shelf.SlGeneric
import Derived.Shelf.SlicesG.Cmp
import Derived.Ground.SlgcProg
import Derived.Test.YtgfjmafdfbghnaaGreatProg
namespace Go.Proofs.YtgfjmafdfbghnaaGreat.Lb
open Go.Proofs
open Go.Shelf
def Try.cmp_Compare_int64_ren : Go.Shelf.Ren := ⟨fun | 5 => 78 | 7 => 99 | n => n, fun | 22 => 2 | 3 => 3 | 4 => 4 | n => n, fun | n => n⟩
theorem Try.cmp_Compare_int64 : Go.Proofs.SlLaysC2.n5 Tryz.prog Try.cmp_Compare_int64_ren := {
  mixed := by kernel_rfl
  f5 := ⟨Tryz.f78.name, by decide, Tryz.func78.trans (congrArg some (by kernel_rfl))⟩
  f7 := ⟨Tryz.f99.name, by decide, Tryz.func99.trans (congrArg some (by kernel_rfl))⟩
  t3 := Tryz.underlying3
  a3 := Tryz.isAgg3
  z3 := Tryz.sizeOf3
  v3 := Tryz.zeroValue3
  t4 := Tryz.underlying4
  a4 := Tryz.isAgg4
  z4 := Tryz.sizeOf4
  v4 := Tryz.zeroValue4
  t22 := Tryz.underlying2
  a22 := Tryz.isAgg2
  z22 := Tryz.sizeOf2
  v22 := Tryz.zeroValue2 }
end Go.Proofs.YtgfjmafdfbghnaaGreat.Lb
