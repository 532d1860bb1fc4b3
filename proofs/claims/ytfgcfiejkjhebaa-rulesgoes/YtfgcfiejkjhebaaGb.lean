/-
  The library's contract of slices.Delete at this program.
-/
import Derived.Shelf.SlicesE.Delete
import Derived.Ground.SlgnProg
import Derived.Test.YtfgcfiejkjhebaaProg
import Derived.Test.YtfgcfiejkjhebaaGa
import Derived.Lib.OwnBridge
namespace Go.Proofs
open Go.Shelf
def Try.del_ren : Go.Shelf.Ren := ⟨fun | 45 => 55 | n => n, fun | 22 => 64 | 23 => 87 | 3 => 3 | 4 => 4 | 0 => 0 | n => n, fun | n => n⟩
theorem Try.del : Go.Proofs.SlLaysE.n45 Try.prog Try.del_ren := {
  mixed := by kernel_rfl
  f45 := ⟨Try.f55.name, by decide, Try.func55.trans (congrArg some (by kernel_rfl))⟩
  t0 := Try.underlying0
  a0 := Try.isAgg0
  z0 := Try.sizeOf0
  v0 := Try.zeroValue0
  t3 := Try.underlying3
  a3 := Try.isAgg3
  z3 := Try.sizeOf3
  v3 := Try.zeroValue3
  t4 := Try.underlying4
  a4 := Try.isAgg4
  z4 := Try.sizeOf4
  v4 := Try.zeroValue4
  t22 := Try.underlying64
  a22 := Try.isAgg64
  z22 := Try.sizeOf64
  v22 := Try.zeroValue64
  a23 := Try.isAgg87
  z23 := Try.sizeOf87 }
end Go.Proofs
namespace Go.Proofs.Ytfgcfiejkjhebaa
open Go.RowKit Go.Deep Go.Shelf Go.Sort
set_option linter.unusedVariables false
set_option linter.unusedSimpArgs false
set_option maxHeartbeats 1000000
set_option maxRecDepth 100000
def pas (l : LO) : List (Option Addr) := l.map fun x => some ⟨x.1, 0, none⟩
theorem pas_enc (l : LO) : (pas l).map Value.pointer = pvs l := by simp [pas, pvs, pv]
theorem pas_len (l : LO) : (pas l).length = l.length := by simp [pas]
theorem kp_putRow {w : World} {g q : Nat} {d : Array (Option Addr)} : Kp (fun b => b = g) w (putRow Value.pointer (Sort.ahead w q) g 0 d) :=
  ⟨rfl, rfl, rfl, by simp [putRow, mapBlock, Sort.ahead], fun b hb hN => by
    have : g ≠ b := fun e => hN e.symm
    simp [putRow, mapBlock, Sort.ahead, Array.getElem?_modify, this]⟩
theorem zero92 : ∀ w, (zeroValue 87).run Try.prog w = .ok (Value.pointer none) w := Try.zeroValue87
theorem info92all : (Try.prog.info? 87).map (fun i => (i.zero, i.size, i.bytes)) = some (some (.pointer none), 1, 8) := by kernel_rfl
theorem info92 : ∃ i0, Try.prog.info? 87 = some i0 ∧ i0.zero = some (.pointer none) ∧ i0.size = 1 ∧ i0.bytes = 8 := by
  have h := info92all
  cases hq : Try.prog.info? 87 with
  | none => rw [hq] at h; cases h
  | some i =>
    rw [hq] at h
    simp only [Option.map_some, Option.some.injEq, Prod.mk.injEq] at h
    exact ⟨i, rfl, h.1, h.2.1, h.2.2⟩
theorem delete_any (p : Option Addr) (c : Nat) (l : LO) (i : Nat) (w : World) (h : Li w p c l) (hi : i < l.length) (hnd : (l.map (·.1)).Nodup) :
    Calls Try.prog 55 #[.slice p l.length c, .int .i64 i, .int .i64 ((i : Int) + 1)] w fun e w' => e = .returned (.slice p (l.eraseIdx i).length c) ∧ Li w' p c (l.eraseIdx i) ∧ Kp (OfP p) w w' := by
  obtain ⟨g, cur, rfl, hr, hcs, hlc, hcm, hcell⟩ := h.some (by omega)
  obtain ⟨i0, hi0, _, hs0, _⟩ := info92
  have ho := h.own
  rw [← pas_enc] at ho
  have hH : Holds Value.pointer w g 0 (pas l).toArray := by
    obtain ⟨g', cap', e, _, _, _, _, _, hh⟩ := Lib.holds_of_ownsRow ho (by intro e; cases e)
    injection e with e1 _ _
    injection e1 with e1
    injection e1 with e1
    rw [e1]; exact hh
  have C := AnyE.slices_Delete Try.del Value.pointer (fun _ => rfl) none zero92 i0 hi0 hs0 g 0 c i (i + 1) (pas l).toArray w hH (by simp [pas_len]; exact hlc) (by unfold maxLen at hcm; omega) (by omega) (by simp [pas_len]; omega)
  change Calls Try.prog 55 #[.slice (some ⟨g, 0, none⟩) (pas l).toArray.size c, .int .i64 i, .int .i64 ((i + 1 : Nat) : Int)] w _ at C
  have e1 : (pas l).toArray.size = l.length := by simp [pas_len]
  rw [e1] at C
  have e2 : ((i + 1 : Nat) : Int) = (i : Int) + 1 := by omega
  rw [e2] at C
  refine C.mono ?_
  rintro e w' ⟨rfl, q, rfl⟩
  have e3 : l.length - (i + 1 - i) = (l.eraseIdx i).length := by rw [List.length_eraseIdx]; simp [hi]
  rw [e3]
  have hk : Kp (fun b => b = g) w _ := kp_putRow (q := q) (d := ((pas l).toArray.toList.take i ++ (pas l).toArray.toList.drop (i + 1) ++ List.replicate (i + 1 - i) none).toArray)
  refine ⟨rfl, ⟨?_, fun x hx => ?_⟩, hk.mono (fun b _ e => by rw [e]; exact OfP.mk g)⟩
  · have := Lib.ownsRow_putRow (q := q) (k := (l.eraseIdx i).length) (ys := (pas l).toArray.toList.take i ++ (pas l).toArray.toList.drop (i + 1) ++ List.replicate (i + 1 - i) none) ho (by simp [pas_len]; omega) (by rw [← e3]; omega)
    have e4 : (((pas l).toArray.toList.take i ++ (pas l).toArray.toList.drop (i + 1) ++ List.replicate (i + 1 - i) none).take (l.eraseIdx i).length).map Value.pointer = pvs (l.eraseIdx i) := by
      have e5 : (pas l).toArray.toList.take i ++ (pas l).toArray.toList.drop (i + 1) = pas (l.eraseIdx i) := by
        simp only [pas, List.eraseIdx_eq_take_drop_succ, List.map_append, List.map_take, List.map_drop]
      rw [e5, List.take_append_of_le_length (by rw [pas_len]; exact Nat.le_refl _), List.take_of_length_le (by rw [pas_len]; exact Nat.le_refl _), pas_enc]
    rw [e4] at this
    exact this
  · have hx' := h.at' x (List.mem_of_mem_eraseIdx hx)
    exact hk.row hx' (fun e => row_ne hx' hr (by decide) e)
end Go.Proofs.Ytfgcfiejkjhebaa
