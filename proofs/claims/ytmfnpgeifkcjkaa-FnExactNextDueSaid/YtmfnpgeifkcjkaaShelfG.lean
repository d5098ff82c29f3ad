/- Generic contracts of the library at this seat's dump, laid by its command, in plain words. -/
import Derived.Shelf.SlGeneric
import Derived.Ground.SlgfProg
import Derived.Shelf.SlicesQ.IndexFunc
import Derived.Test.YtmfnpgeifkcjkaaProg
namespace Go.Proofs
open Go.Shelf
def Try.laysIdxAuthority_ren : Go.Shelf.Ren := ⟨fun | 6 => 109 | n => n, fun | 22 => 36 | 23 => 110 | 25 => 190 | 3 => 3 | 0 => 0 | 4 => 4 | n => n, fun | n => n⟩
theorem Try.laysIdxAuthority : Go.Proofs.SlLaysH0.n6 Try.prog Try.laysIdxAuthority_ren := {
  mixed := by kernel_rfl
  f6 := ⟨Try.f109.name, by decide, Try.func109.trans (congrArg some (by kernel_rfl))⟩
  t0 := Try.underlying0
  a0 := Try.isAgg0
  z0 := Try.sizeOf0
  v0 := Try.zeroValue0
  t3 := Try.underlying3
  a3 := Try.isAgg3
  z3 := Try.sizeOf3
  v3 := Try.zeroValue3
  t4 := Try.underlying4
  a4 := Try.isAgg4
  z4 := Try.sizeOf4
  v4 := Try.zeroValue4
  t22 := Try.underlying36
  a22 := Try.isAgg36
  z22 := Try.sizeOf36
  v22 := Try.zeroValue36
  t25 := Try.underlying190
  a25 := Try.isAgg190
  z25 := Try.sizeOf190
  v25 := Try.zeroValue190 }
end Go.Proofs
