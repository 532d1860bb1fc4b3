/-
  The library's contract of slices.Delete at this program.
-/
import Derived.Shelf.SlicesE.Delete
import Derived.Ground.SlgnProg
import Derived.Test.YtojmcfkbekodpaaProg
namespace Go.Proofs
open Go.Shelf
def Try.del_ren : Go.Shelf.Ren := ⟨fun | 45 => 71 | n => n, fun | 22 => 96 | 23 => 100 | 3 => 3 | 4 => 4 | 0 => 0 | n => n, fun | n => n⟩
theorem Try.del : Go.Proofs.SlLaysE.n45 Try.prog Try.del_ren := {
  mixed := by kernel_rfl
  f45 := ⟨Try.f71.name, by decide, Try.func71.trans (congrArg some (by kernel_rfl))⟩
  t0 := Try.underlying0
  a0 := Try.isAgg0
  z0 := Try.sizeOf0
  v0 := Try.zeroValue0
  t3 := Try.underlying3
  a3 := Try.isAgg3
  z3 := Try.sizeOf3
  v3 := Try.zeroValue3
  t4 := Try.underlying4
  a4 := Try.isAgg4
  z4 := Try.sizeOf4
  v4 := Try.zeroValue4
  t22 := Try.underlying96
  a22 := Try.isAgg96
  z22 := Try.sizeOf96
  v22 := Try.zeroValue96
  a23 := Try.isAgg100
  z23 := Try.sizeOf100 }
end Go.Proofs
