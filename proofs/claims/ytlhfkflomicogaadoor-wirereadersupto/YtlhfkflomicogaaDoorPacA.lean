/-
  WirePacks: the walk.
-/
import Derived.Test.YtlhfkflomicogaaDoorRefB
import Derived.Test.YtlhfkflomicogaaDoorEqB
namespace Go.Proofs.YtlhfkflomicogaaDoor
open Go.RowKit Go.Deep Crc
set_option linter.unusedVariables false

set_option maxHeartbeats 2000000 in
set_option maxRecDepth 100000 in
theorem packs_walk (k w0 w1 w2 w3 w4 w5 w6 : Nat) (w : World) (hk : k < 256) (hw : ∀ x ∈ [w0, w1, w2, w3, w4, w5, w6], x < 18446744073709551616) (hL : Laid w) :
    Calls Tryd.prog 4 #[fv k w0 w1 w2 w3 w4 w5 w6] w fun e w' => e = .returned (.bool true) ∧ Below w.heap.size w w' := by
  have HL := hid hL
  have HW := hid hw
  clear hL hw
  have CP := hid (show ∀ w : World, Laid w → Calls Tryd.prog 13 #[.agg #[.int .u8 (k : Nat), .int .u64 (w0 : Nat), .int .u64 (w1 : Nat), .int .u64 (w2 : Nat), .int .u64 (w3 : Nat), .int .u64 (w4 : Nat), .int .u64 (w5 : Nat), .int .u64 (w6 : Nat)]] w fun e w' => e = .returned (.agg (bv (frame k [w0, w1, w2, w3, w4, w5, w6])).toArray) ∧ Below w.heap.size w w' from fun w hL =>
    pack_any k w0 w1 w2 w3 w4 w5 w6 w hL hk (HW.out _ (by simp)) (HW.out _ (by simp)) (HW.out _ (by simp)) (HW.out _ (by simp)) (HW.out _ (by simp)) (HW.out _ (by simp)) (HW.out _ (by simp)))
  have CR := hid (show ∀ w : World, Calls Tryd.prog 14 #[.agg #[.int .u8 (k : Nat), .int .u64 (w0 : Nat), .int .u64 (w1 : Nat), .int .u64 (w2 : Nat), .int .u64 (w3 : Nat), .int .u64 (w4 : Nat), .int .u64 (w5 : Nat), .int .u64 (w6 : Nat)]] w fun e w' => e = .returned (.agg (bv (frame k [w0, w1, w2, w3, w4, w5, w6])).toArray) ∧ Below w.heap.size w w' from fun w =>
    rpack_any k w0 w1 w2 w3 w4 w5 w6 w hk HW.out)
  have heq : ∀ w : World, (Op.equalIn 10000 32 (.agg (bv (frame k [w0, w1, w2, w3, w4, w5, w6])).toArray) (.agg (bv (frame k [w0, w1, w2, w3, w4, w5, w6])).toArray)).run Tryd.prog w = .ok true w := fun w => by
    have h := eq_bytes 32 64 Tryd.underlying32 (frame k [w0, w1, w2, w3, w4, w5, w6]) (frame k [w0, w1, w2, w3, w4, w5, w6]) (frame_len _ _ rfl) (frame_len _ _ rfl) w
    rw [decide_eq_true rfl] at h
    exact h
  obtain ⟨W, hW⟩ : ∃ W, w.alloc (.cells #[.int .u8 (k : Nat), .int .u64 (w0 : Nat), .int .u64 (w1 : Nat), .int .u64 (w2 : Nat), .int .u64 (w3 : Nat), .int .u64 (w4 : Nat), .int .u64 (w5 : Nat), .int .u64 (w6 : Nat)] 31) = W := ⟨_, rfl⟩
  have HR := hid (show W.heap[w.heap.size]? = some (.cells #[.int .u8 (k : Nat), .int .u64 (w0 : Nat), .int .u64 (w1 : Nat), .int .u64 (w2 : Nat), .int .u64 (w3 : Nat), .int .u64 (w4 : Nat), .int .u64 (w5 : Nat), .int .u64 (w6 : Nat)] 31 (0, 0)) by rw [← hW]; exact heap_alloc_new w _)
  have HB := hid (show Below w.heap.size w W by rw [← hW]; exact bal (Below.refl _ _) _)
  have HLW := hid (laid_to HL.out HB.out)
  have keep : ∀ w' : World, Below W.heap.size W w' → (w'.cell? ⟨w.heap.size, 0, none⟩ = some (.int .u8 (k : Nat)) ∧ w'.cell? ⟨w.heap.size, 1, none⟩ = some (.int .u64 (w0 : Nat)) ∧ w'.cell? ⟨w.heap.size, 2, none⟩ = some (.int .u64 (w1 : Nat)) ∧ w'.cell? ⟨w.heap.size, 3, none⟩ = some (.int .u64 (w2 : Nat)) ∧ w'.cell? ⟨w.heap.size, 4, none⟩ = some (.int .u64 (w3 : Nat)) ∧ w'.cell? ⟨w.heap.size, 5, none⟩ = some (.int .u64 (w4 : Nat)) ∧ w'.cell? ⟨w.heap.size, 6, none⟩ = some (.int .u64 (w5 : Nat)) ∧ w'.cell? ⟨w.heap.size, 7, none⟩ = some (.int .u64 (w6 : Nat))) ∧ Below W.heap.size W w' := by
    intro w' hb
    have cc : ∀ {a : Addr} {v : Value}, W.cell? a = some v → w'.cell? a = some v := fun h => (hb.cell (block_lt_of_cell h)).trans h
    exact ⟨⟨cc (by rw [cell_of_row W _ _ _ _ _ HR.out]; rfl), cc (by rw [cell_of_row W _ _ _ _ _ HR.out]; rfl), cc (by rw [cell_of_row W _ _ _ _ _ HR.out]; rfl), cc (by rw [cell_of_row W _ _ _ _ _ HR.out]; rfl), cc (by rw [cell_of_row W _ _ _ _ _ HR.out]; rfl), cc (by rw [cell_of_row W _ _ _ _ _ HR.out]; rfl), cc (by rw [cell_of_row W _ _ _ _ _ HR.out]; rfl), cc (by rw [cell_of_row W _ _ _ _ _ HR.out]; rfl)⟩, hb⟩
  have KEEP := hid keep
  clear keep
  unfold fv
  go_enter Tryd.func4, Tryd.ntmps4
  go_wp2
  (try rw [hW])
  clear hW
  go_region_held3 (fun w' => (w'.cell? ⟨w.heap.size, 0, none⟩ = some (.int .u8 (k : Nat)) ∧ w'.cell? ⟨w.heap.size, 1, none⟩ = some (.int .u64 (w0 : Nat)) ∧ w'.cell? ⟨w.heap.size, 2, none⟩ = some (.int .u64 (w1 : Nat)) ∧ w'.cell? ⟨w.heap.size, 3, none⟩ = some (.int .u64 (w2 : Nat)) ∧ w'.cell? ⟨w.heap.size, 4, none⟩ = some (.int .u64 (w3 : Nat)) ∧ w'.cell? ⟨w.heap.size, 5, none⟩ = some (.int .u64 (w4 : Nat)) ∧ w'.cell? ⟨w.heap.size, 6, none⟩ = some (.int .u64 (w5 : Nat)) ∧ w'.cell? ⟨w.heap.size, 7, none⟩ = some (.int .u64 (w6 : Nat))) ∧ Below W.heap.size W w')
    (first | exact KEEP.out _ (Below.drew (Below.refl _ _)) | exact KEEP.out _ HK.out)
    (first
    | (go_at_call 13; refine (CP.out _ (by first | exact laid_to HLW.out (Below.drew (Below.refl _ _)) | exact laid_to HLW.out HK.out)).mono ?_; rintro e wx ⟨rfl, hbk⟩; have HK := hid (show Below W.heap.size W wx from (by first | exact btr HK.out hbk | exact btr (Below.drew (Below.refl _ _)) hbk)); clear hbk)
    | (go_at_call 14; refine (CR.out _).mono ?_; rintro e wx ⟨rfl, hbk⟩; have HK := hid (show Below W.heap.size W wx from (by first | exact btr HK.out hbk | exact btr (Below.drew (Below.refl _ _)) hbk)); clear hbk))
  all_goals
    go_wp2
    go_ret
    exact ⟨rfl, btr HB.out HK.out⟩
end Go.Proofs.YtlhfkflomicogaaDoor
