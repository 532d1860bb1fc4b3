/-
  Shelf
-/
import Derived.Shelf.SlicesE.Delete
import Derived.Ground.SlgnProg
import Derived.Test.YtalgndgoedlpoaaProg
namespace Go.Proofs
open Go.Shelf
def Try.del_ren : Go.Shelf.Ren := ⟨fun | 45 => 63 | n => n, fun | 22 => 87 | 23 => 92 | 3 => 3 | 4 => 4 | 0 => 0 | n => n, fun | n => n⟩
theorem Try.del : Go.Proofs.SlLaysE.n45 Try.prog Try.del_ren := {
 mixed := by kernel_rfl
 f45 := ⟨Try.f63.name, by decide, Try.func63.trans (congrArg some (by kernel_rfl))⟩
 t0 := Try.underlying0
 a0 := Try.isAgg0
 z0 := Try.sizeOf0
 v0 := Try.zeroValue0
 t3 := Try.underlying3
 a3 := Try.isAgg3
 z3 := Try.sizeOf3
 v3 := Try.zeroValue3
 t4 := Try.underlying4
 a4 := Try.isAgg4
 z4 := Try.sizeOf4
 v4 := Try.zeroValue4
 t22 := Try.underlying87
 a22 := Try.isAgg87
 z22 := Try.sizeOf87
 v22 := Try.zeroValue87
 a23 := Try.isAgg92
 z23 := Try.sizeOf92 }
end Go.Proofs
