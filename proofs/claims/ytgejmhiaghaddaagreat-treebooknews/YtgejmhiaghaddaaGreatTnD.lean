/-
  A book is opened: Fill of nothing, opened.
-/
import Derived.Test.YtgejmhiaghaddaaGreatTnC
namespace Go.Proofs.YtgejmhiaghaddaaGreat
open Go.RowKit Go.Deep
set_option linter.unusedVariables false
set_option linter.unusedSimpArgs false
set_option maxHeartbeats 4000000
set_option maxRecDepth 100000
theorem fill_none (f : Value) (cap meet : Int) (w : World) : Calls Tryz.prog 48 #[f, .agg #[.int .i64 cap, .int .i64 meet, .slice none 0 0, .slice none 0 0, .int .u64 0, .int .u64 0]] w fun e w' => e = .returned (.tuple #[]) ∧ Below w.heap.size w w' := by
  obtain ⟨R, hR⟩ : ∃ R, w.heap.size = R := ⟨_, rfl⟩
  obtain ⟨W, hW⟩ : ∃ U, w.alloc (.cells #[.int .i64 cap, .int .i64 meet, .slice none 0 0, .slice none 0 0, .int .u64 0, .int .u64 0] 31) = U := ⟨_, rfl⟩
  have b0 : Below w.heap.size w W := by rw [← hW]; exact ball _ _
  have HBW := hid b0
  have HR0 := hid (show W.heap[R]? = some (.cells #[.int .i64 cap, .int .i64 meet, .slice none 0 0, .slice none 0 0, .int .u64 0, .int .u64 0] 31 (0, 0)) from (by rw [← hW, ← hR]; exact World.alloc_heap_new _ _))
  have HW := hid hW
  have HRR := hid hR
  clear hR hW  b0
  have HS0 := hid (fun (U : World) (hU : Below W.heap.size W U) => row6 (row_on HR0.out hU))
  obtain ⟨k_0, k_1, k_2, k_3, k_4, k_5⟩ := row6 HR0.out
  go_enter Tryz.func48, Tryz.ntmps48
  go_upto_region 1 with fail
  rw [HW.out, HRR.out]
  go_wp2
  clear k_0 k_1 k_2 k_3 k_4 k_5
  go_loopw [11] (fun iv wr => iv = .int .i64 0 ∧ Hid (Below W.heap.size W wr)) (fun iv _ => 1 - (intOf iv).toNat)
  case atStart => exact ⟨rfl, hid (Below.refl _ _)⟩
  case round =>
    obtain ⟨rfl, HB⟩ := hrel
    obtain ⟨k_0, k_1, k_2, k_3, k_4, k_5⟩ := HS0.out _ HB.out
    go_wp2
    clear k_0 k_1 k_2 k_3 k_4 k_5
    go_loopw [22] (fun iv wr => iv = .int .i64 0 ∧ Hid (Below W.heap.size W wr)) (fun iv _ => 1 - (intOf iv).toNat)
    case atStart => exact ⟨rfl, HB⟩
    case round =>
      obtain ⟨rfl, HB2⟩ := hrel
      go_wp2
      go_end0
      exact ⟨rfl, btr HBW.out HB2.out⟩
theorem alloc2_new (W : World) (o o2 : Obj) : ((W.alloc o).alloc o2).heap[W.heap.size + 1]? = some o2 := by
  have := World.alloc_heap_new (W.alloc o) o2
  rwa [show (W.alloc o).heap.size = W.heap.size + 1 from by simp] at this
/-- a book without orders lies at B. -/
def Bk (w : World) (B : Nat) (cap meet : Int) : Prop := ∃ M : Nat, w.heap[B]? = some (.cells #[.int .i64 cap, .int .i64 meet, .int .u64 0, .int .u64 0, .pointer none, .pointer none, .map (some M)] 84 (0, 0)) ∧ w.heap[M]? = some (.map #[] 0)
theorem Bk.on {w w' : World} {B : Nat} {cap meet : Int} (h : Bk w B cap meet) (hb : Below w.heap.size w w') : Bk w' B cap meet := by
  obtain ⟨M, h1, h2⟩ := h
  exact ⟨M, row_on h1 hb, row_on h2 hb⟩
theorem Bk.lt {w : World} {B : Nat} {cap meet : Int} (h : Bk w B cap meet) : B < w.heap.size := by
  obtain ⟨M, h1, h2⟩ := h
  exact row_lt h1
theorem opened_none (cap meet : Int) (w : World) : Calls Tryz.prog 27 #[.agg #[.int .i64 cap, .int .i64 meet, .slice none 0 0, .slice none 0 0, .int .u64 0, .int .u64 0]] w fun e w' => ∃ B : Nat, e = .returned (.pointer (some ⟨B, 0, none⟩)) ∧ Hid (w.heap.size ≤ B) ∧ Hid (Bk w' B cap meet) ∧ Hid (Below w.heap.size w w') := by
  have CF := hid (fun f U => fill_none f cap meet U)
  obtain ⟨R, hR⟩ : ∃ R, w.heap.size = R := ⟨_, rfl⟩
  obtain ⟨W, hW⟩ : ∃ U, w.alloc (.cells #[.int .i64 cap, .int .i64 meet, .slice none 0 0, .slice none 0 0, .int .u64 0, .int .u64 0] 31) = U := ⟨_, rfl⟩
  have b0 : Below w.heap.size w W := by rw [← hW]; exact ball _ _
  have HBW := hid b0
  have HR0 := hid (show W.heap[R]? = some (.cells #[.int .i64 cap, .int .i64 meet, .slice none 0 0, .slice none 0 0, .int .u64 0, .int .u64 0] 31 (0, 0)) from (by rw [← hW, ← hR]; exact World.alloc_heap_new _ _))
  have HW := hid hW
  have HRR := hid hR
  clear hR hW  b0
  have HS0 := hid (fun (U : World) (hU : Below W.heap.size W U) => row6 (row_on HR0.out hU))
  obtain ⟨k_0, k_1, k_2, k_3, k_4, k_5⟩ := row6 HR0.out
  have hmm := @run_makeMap Tryz.prog
  go_enter Tryz.func27, Tryz.ntmps27
  go_upto_region 1 with fail
  rw [HW.out, HRR.out]
  go_upto_region 3 with fail
  clear k_0 k_1 k_2 k_3 k_4 k_5
  have hsz : ∀ o : Obj, (W.alloc o).heap.size = W.heap.size + 1 := fun o => by simp
  have bw := HBW.out.size
  obtain ⟨W2, hW2, HB2, HK2⟩ : ∃ W2, (W.alloc (.cells #[.int .i64 cap, .int .i64 meet, .int .u64 0, .int .u64 0, .pointer none, .pointer none, .map (some (W.heap.size + 1))] 84)).alloc (.map #[] 0) = W2 ∧ Hid (Below W.heap.size W W2) ∧ Hid (Bk W2 W.heap.size cap meet) :=
    ⟨_, rfl, hid (btr (ball _ _) (ball _ _)), hid ⟨W.heap.size + 1, row_on (World.alloc_heap_new _ _) (ball _ _), alloc2_new _ _ _⟩⟩
  rw [hW2]
  clear hW2 hsz hmm
  obtain ⟨B, hB⟩ : ∃ B, W.heap.size = B := ⟨_, rfl⟩
  have HBE := hid hB
  rw [hB] at HK2 ⊢
  clear hB
  obtain ⟨k_0, k_1, k_2, k_3, k_4, k_5⟩ := HS0.out _ HB2.out
  go_region_with (go_at_call 48; with_reducible refine (CF.out _ _).mono ?_; rintro e w3 ⟨rfl, hb3⟩; have HB3 := hid hb3; clear hb3)
  go_wp2
  go_ret
  exact ⟨B, rfl, hid (by rw [← HBE.out]; exact bw), hid (HK2.out.on (btr (bdrew1 _) HB3.out)), hid (btr (btr HBW.out HB2.out) (btr (bdrew1 _) HB3.out))⟩
end Go.Proofs.YtgejmhiaghaddaaGreat
