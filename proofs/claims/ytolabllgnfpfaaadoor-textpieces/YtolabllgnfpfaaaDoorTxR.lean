/-
  The document's Decimal, Kind, isTag, there, isValue, field, three.
-/
import Derived.Test.YtolabllgnfpfaaaDoorTxL
import Derived.Deep.RegionWith
namespace Go.Proofs.YtolabllgnfpfaaaDoor
open Go.RowKit Go.Deep Go.Lib Go.Shelf Go.Sort
set_option linter.unusedVariables false

theorem run_conv1 (w : World) (b : Nat) (c : UInt8) (h : w.cell? ⟨b, 0, none⟩ = some (.int .u8 (c.toNat : Int))) :
    (convert 26 9 (.slice (some ⟨b, 0, none⟩) 1 1)).run Tryd.prog w = .ok (.string ⟨#[c]⟩) w :=
  run_convert_bytes_back (P := Tryd.prog) w 26 9 5 ⟨b, 0, none⟩ 1 [c] Tryd.underlying26 Tryd.underlying5 Tryd.underlying9 (fun j hj => by
    obtain rfl : j = 0 := by simpa using hj
    rw [Addr.add_mid]
    simpa using h)
theorem cell_newD {w w1 : World} {cs : Array Value} {T : TypeId} (j : Nat) {u : Value} (hb : Below (w.alloc (.cells cs T)).drew.heap.size (w.alloc (.cells cs T)).drew w1) (h : cs[j]? = some u) : w1.cell? ⟨w.heap.size, j, none⟩ = some u :=
  cell_new j (w := w) (cs := cs) (T := T) ⟨hb.os, hb.tape, hb.output, hb.size, hb.block⟩ h
end Go.Proofs.YtolabllgnfpfaaaDoor
