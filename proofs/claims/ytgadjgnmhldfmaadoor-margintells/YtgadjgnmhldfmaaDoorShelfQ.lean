/- Contracts of Go's library at this translation's numbers: each is one application of a theorem of the kit's shelf. Written by program. -/
import Derived.Shelf.SlicesQ.IndexFunc
import Derived.Test.YtgadjgnmhldfmaaDoorProg
namespace Go.Proofs
open Go.Shelf
def Tryd.lh8_ren : Go.Shelf.Ren := ⟨fun | 8 => 33 | 6 => 40 | n => n, fun | 22 => 60 | 23 => 52 | 25 => 62 | 4 => 4 | 3 => 3 | 0 => 0 | n => n, fun | n => n⟩
theorem Tryd.lh8 : Go.Proofs.SlLaysH0.n8 Tryd.prog Tryd.lh8_ren := {
  mixed := by kernel_rfl
  f6 := ⟨Tryd.f40.name, by decide, Tryd.func40.trans (congrArg some (by kernel_rfl))⟩
  f8 := ⟨Tryd.f33.name, by decide, Tryd.func33.trans (congrArg some (by kernel_rfl))⟩
  t0 := Tryd.underlying0
  a0 := Tryd.isAgg0
  z0 := Tryd.sizeOf0
  v0 := Tryd.zeroValue0
  t3 := Tryd.underlying3
  a3 := Tryd.isAgg3
  z3 := Tryd.sizeOf3
  v3 := Tryd.zeroValue3
  t4 := Tryd.underlying4
  a4 := Tryd.isAgg4
  z4 := Tryd.sizeOf4
  v4 := Tryd.zeroValue4
  t22 := Tryd.underlying60
  a22 := Tryd.isAgg60
  z22 := Tryd.sizeOf60
  v22 := Tryd.zeroValue60
  t25 := Tryd.underlying62
  a25 := Tryd.isAgg62
  z25 := Tryd.sizeOf62
  v25 := Tryd.zeroValue62 }
end Go.Proofs
