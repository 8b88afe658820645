/- Contracts of the library, laid at this translation (out of the kit's own plain mode). -/
import Derived.Shelf.SlGeneric
import Derived.Shelf.SortG.Plain
import Derived.Shelf.SortG.SortNone
import Derived.Ground.SlgnProg
import Derived.Test.YtnckjacbkhoppaaProg
namespace Go.Proofs.Ytnckjacbkhoppaa.Lb
open Go.Proofs
open Go.Shelf
def Try.sortI_ren : Go.Shelf.Ren := ⟨fun | 53 => 107 | 64 => 130 | 63 => 129 | 78 => 148 | 79 => 149 | 70 => 139 | 71 => 140 | 72 => 141 | 73 => 142 | 74 => 143 | 75 => 144 | 59 => 145 | 76 => 146 | 77 => 147 | 88 => 161 | 89 => 162 | 90 => 163 | 91 => 164 | 92 => 165 | 68 => 138 | 96 => 170 | n => n, fun | 22 => 73 | 23 => 2 | 3 => 3 | 51 => 197 | 0 => 0 | 67 => 215 | 69 => 217 | 4 => 4 | 61 => 207 | 60 => 206 | 44 => 212 | 5 => 5 | 9 => 9 | 75 => 224 | 79 => 228 | 83 => 232 | 84 => 233 | n => n, fun | n => n⟩
theorem Try.sortI : Go.Proofs.SlLaysN.n53 Try.prog Try.sortI_ren := {
  mixed := by kernel_rfl
  f53 := ⟨Try.f107.name, by decide, Try.func107.trans (congrArg some (by kernel_rfl))⟩
  f59 := ⟨Try.f145.name, by decide, Try.func145.trans (congrArg some (by kernel_rfl))⟩
  f63 := ⟨Try.f129.name, by decide, Try.func129.trans (congrArg some (by kernel_rfl))⟩
  f64 := Try.func130.trans (congrArg some (by kernel_rfl))
  f68 := ⟨Try.f138.name, by decide, Try.func138.trans (congrArg some (by kernel_rfl))⟩
  f70 := ⟨Try.f139.name, by decide, Try.func139.trans (congrArg some (by kernel_rfl))⟩
  f71 := ⟨Try.f140.name, by decide, Try.func140.trans (congrArg some (by kernel_rfl))⟩
  f72 := ⟨Try.f141.name, by decide, Try.func141.trans (congrArg some (by kernel_rfl))⟩
  f73 := ⟨Try.f142.name, by decide, Try.func142.trans (congrArg some (by kernel_rfl))⟩
  f74 := ⟨Try.f143.name, by decide, Try.func143.trans (congrArg some (by kernel_rfl))⟩
  f75 := ⟨Try.f144.name, by decide, Try.func144.trans (congrArg some (by kernel_rfl))⟩
  f76 := ⟨Try.f146.name, by decide, Try.func146.trans (congrArg some (by kernel_rfl))⟩
  f77 := ⟨Try.f147.name, by decide, Try.func147.trans (congrArg some (by kernel_rfl))⟩
  f78 := Try.func148.trans (congrArg some (by kernel_rfl))
  f79 := Try.func149.trans (congrArg some (by kernel_rfl))
  f88 := ⟨Try.f161.name, by decide, Try.func161.trans (congrArg some (by kernel_rfl))⟩
  f89 := Try.func162.trans (congrArg some (by kernel_rfl))
  f90 := Try.func163.trans (congrArg some (by kernel_rfl))
  f91 := ⟨Try.f164.name, by decide, Try.func164.trans (congrArg some (by kernel_rfl))⟩
  f92 := ⟨Try.f165.name, by decide, Try.func165.trans (congrArg some (by kernel_rfl))⟩
  f96 := ⟨Try.f170.name, by decide, Try.func170.trans (congrArg some (by kernel_rfl))⟩
  t0 := Try.underlying0
  a0 := Try.isAgg0
  z0 := Try.sizeOf0
  v0 := Try.zeroValue0
  t3 := Try.underlying3
  a3 := Try.isAgg3
  z3 := Try.sizeOf3
  v3 := Try.zeroValue3
  t4 := Try.underlying4
  a4 := Try.isAgg4
  z4 := Try.sizeOf4
  v4 := Try.zeroValue4
  t5 := Try.underlying5
  a5 := Try.isAgg5
  z5 := Try.sizeOf5
  v5 := Try.zeroValue5
  t9 := Try.underlying9
  a9 := Try.isAgg9
  z9 := Try.sizeOf9
  v9 := Try.zeroValue9
  t22 := Try.underlying73
  a22 := Try.isAgg73
  z22 := Try.sizeOf73
  v22 := Try.zeroValue73
  t23 := Try.underlying2
  a23 := Try.isAgg2
  z23 := Try.sizeOf2
  v23 := Try.zeroValue2
  t44 := Try.underlying212
  a44 := Try.isAgg212
  z44 := Try.sizeOf212
  v44 := Try.zeroValue212
  t51 := Try.underlying197
  a51 := Try.isAgg197
  z51 := Try.sizeOf197
  v51 := Try.zeroValue197
  t60 := Try.underlying206
  a60 := Try.isAgg206
  z60 := Try.sizeOf206
  v60 := Try.zeroValue206
  t61 := Try.underlying207
  a61 := Try.isAgg207
  z61 := Try.sizeOf207
  v61 := Try.zeroValue207
  t67 := Try.underlying215
  a67 := Try.isAgg215
  z67 := Try.sizeOf215
  v67 := Try.zeroValue215
  t69 := Try.underlying217
  a69 := Try.isAgg217
  z69 := Try.sizeOf217
  v69 := Try.zeroValue217
  t75 := Try.underlying224
  a75 := Try.isAgg224
  z75 := Try.sizeOf224
  v75 := Try.zeroValue224
  t79 := Try.underlying228
  a79 := Try.isAgg228
  z79 := Try.sizeOf228
  v79 := Try.zeroValue228
  t83 := Try.underlying232
  a83 := Try.isAgg232
  z83 := Try.sizeOf232
  v83 := Try.zeroValue232
  t84 := Try.underlying233
  a84 := Try.isAgg233
  z84 := Try.sizeOf233
  v84 := Try.zeroValue233 }
end Go.Proofs.Ytnckjacbkhoppaa.Lb
