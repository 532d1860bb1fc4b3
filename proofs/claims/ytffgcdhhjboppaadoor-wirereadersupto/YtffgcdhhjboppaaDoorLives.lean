/-
  'lives'.
-/
import Derived.Test.YtffgcdhhjboppaaDoorBack
import Derived.Laws.BytesArg
import Derived.Lib.SlBytesConst
namespace Go.Proofs.YtffgcdhhjboppaaDoor
open Go.RowKit Go.Deep Crc
set_option linter.unusedVariables false

/-- bytes as a text. -/
def txt (xs : List Nat) : ByteArray := strOfNums (xs.map fun x => ((x : Nat) : Int))
theorem conv_bytes (w : World) (b o cap : Nat) (xs : List Nat) (n : Nat) (hn : xs.length = n) (h : Bs w b o xs) :
    (convert 22 9 (.slice (some ⟨b, o, none⟩) n cap)).run Tryd.prog w = .ok (.string (txt xs)) w := by
  refine run_convert_bytes_arg w 22 5 Tryd.underlying22 Tryd.underlying5 b o n cap _ (by simpa using hn) ?_ 9 Tryd.underlying9
  intro i hi
  rw [h i (by omega)]
  simp [List.getD, show i < xs.length by omega]

theorem bs_arr (w : World) (b : Nat) (t : TypeId) (xs : List Nat) (h : w.heap[b]? = some (.cells (bv xs).toArray t (0, 0))) : Bs w b 0 xs :=
  bs_row w b t xs [] (by rw [List.append_nil]; exact h)
theorem bs_fr (w : World) (b : Nat) (t : TypeId) (fr : Nat × Nat) (xs : List Nat) (h : w.heap[b]? = some (.cells (bv xs).toArray t fr)) : Bs w b 0 xs := by
  intro i hi
  rw [cell_of_row w b _ _ t _ h, List.getElem?_toArray, Nat.zero_add]
  simp [bv, hi]
theorem crc_nine : crc [49, 50, 51, 52, 53, 54, 55, 56, 57] = 3421780262 := by decide
set_option maxHeartbeats 1000000 in
set_option maxRecDepth 100000 in
theorem lives_any (w : World) (hL : Laid w) :
    Calls Tryd.prog 22 #[] w fun e w' => e = .returned (.bool true) ∧ Below w.heap.size w w' := by
  have HL := hid hL
  clear hL
  go_enter Tryd.func22, Tryd.ntmps22
  go_wp2_with fail
  have SM : ∀ x ∈ [258, 0, 0, 0, 0, 0, 0], x < 18446744073709551616 := by decide
  have HSM := hid SM
  clear SM
  refine (pack_any 1 258 0 0 0 0 0 0 w HL.out (by decide) (by decide) (by decide) (by decide) (by decide) (by decide) (by decide) (by decide)).mono ?_
  rintro e wa ⟨rfl, hb⟩
  have HBa := hid hb
  clear hb
  obtain ⟨F, hF⟩ : ∃ F, (bv (frame 1 [258, 0, 0, 0, 0, 0, 0])).toArray = F := ⟨_, rfl⟩
  have F64 : F.size = 64 := by rw [← hF]; simp [bv_len, frame_len]
  have i64 := hid (show (Tryd.prog.info? 32).map (·.size) = some F.size by rw [F64]; exact info32)
  have F1 := hid (show F.all (·.oneCell') = true by rw [← hF]; exact all_oneCell_toArray (bv_one _))
  have FZ := hid (show (zs 64).toArray.size = F.size by rw [F64]; simp [zs])
  have HF := hid hF
  rw [hF]
  clear hF F64
  go_wp2_with (refine wpList_store_row (by rfl) 32 (.tmp 1) (.tmp 8) (by rfl) wa.heap.size F (by rfl) (by rfl) 32 (zs 64).toArray (heap_alloc_new _ _) i64.out FZ.out F1.out ?_)
  have HR1 := hid (show ((wa.alloc (.cells (zs 64).toArray 32)).setRow wa.heap.size F).heap[wa.heap.size]? = some (.cells F 32 (0, 0)) from setRow_heap _ _ _ _ 32 (0, 0) (heap_alloc_new _ _))
  have HB1 := hid (show Below wa.heap.size wa ((wa.alloc (.cells (zs 64).toArray 32)).setRow wa.heap.size F) from below_setRow ((Below.refl _ _).alloc (Nat.le_refl _) _) (Nat.le_refl _) _)
  obtain ⟨W1, hW1⟩ : ∃ W, (wa.alloc (.cells (zs 64).toArray 32)).setRow wa.heap.size F = W := ⟨_, rfl⟩
  rw [hW1] at HR1 HB1
  have C1 := hid (show Calls Tryd.prog 15 #[.slice (some ⟨wa.heap.size, 0, none⟩) 64 64] W1 fun e w' => e = .returned (.tuple #[.agg #[.int .u8 1, .int .u64 258, .int .u64 0, .int .u64 0, .int .u64 0, .int .u64 0, .int .u64 0, .int .u64 0], .int .i64 0]) ∧ Below W1.heap.size W1 w' from
    unpack_frame 1 258 0 0 0 0 0 0 wa.heap.size 0 64 W1 (by decide) HSM.out (bs_arr W1 _ 32 _ (by rw [HF.out]; exact HR1.out)) (laid_to (laid_to HL.out HBa.out) HB1.out))
  rw [← hW1] at C1
  refine C1.out.mono ?_
  rw [hW1]
  clear C1 hW1
  rintro e w2 ⟨rfl, hb⟩
  have HB2 := hid hb
  have C2 := hid (show ∀ w : World, Calls Tryd.prog 15 #[.slice none 0 0] w fun e w' => e = .returned (.tuple #[.agg #[.int .u8 0, .int .u64 0, .int .u64 0, .int .u64 0, .int .u64 0, .int .u64 0, .int .u64 0, .int .u64 0], .int .i64 20]) ∧ Below w.heap.size w w' from fun w => unpack_short none 0 0 w (by decide))
  clear hb
  go_wp2_with fail
  refine (C2.out _).mono ?_
  rintro e w3 ⟨rfl, hb⟩
  have hl2 : wa.heap.size < W1.heap.size := (Array.getElem?_eq_some_iff.1 HR1.out).1
  have hl3 : wa.heap.size < w2.heap.size := Nat.lt_of_lt_of_le hl2 HB2.out.size
  have HBx := hid (show Below w2.heap.size w2 w3 from btr ((Below.refl _ _).alloc (Nat.le_refl _) _) hb)
  have HG3 := hid (show w3.heap[w2.heap.size]? = some (.cells #[.int .u8 1, .int .u64 258, .int .u64 0, .int .u64 0, .int .u64 0, .int .u64 0, .int .u64 0, .int .u64 0] 31 (0, 0)) by
    rw [blk_to hb (by simp)]
    exact heap_alloc_new w2 _)
  have HR3 := hid (show w3.heap[wa.heap.size]? = some (.cells F 32 (0, 0)) by
    rw [blk_to HBx.out hl3, blk_to HB2.out hl2]; exact HR1.out)
  have HBw := hid (btr (btr (btr HBa.out HB1.out) HB2.out) HBx.out)
  clear hb C2 HBa HB1 HB2 HBx HR1
  have hz3 : wa.heap.size < w3.heap.size := (Array.getElem?_eq_some_iff.1 HR3.out).1
  have hz4 : w2.heap.size < w3.heap.size := (Array.getElem?_eq_some_iff.1 HG3.out).1
  have HBz := hid (bal (bal HBw.out (.cells #[.int .u8 0, .int .u64 0, .int .u64 0, .int .u64 0, .int .u64 0, .int .u64 0, .int .u64 0, .int .u64 0] 31)) (.cells #[.int .u8 49, .int .u8 50, .int .u8 51, .int .u8 52, .int .u8 53, .int .u8 54, .int .u8 55, .int .u8 56, .int .u8 57] 5 (9, 10)))
  obtain ⟨W4, hW4⟩ : ∃ W, (w3.alloc (.cells #[.int .u8 0, .int .u64 0, .int .u64 0, .int .u64 0, .int .u64 0, .int .u64 0, .int .u64 0, .int .u64 0] 31)).alloc (.cells #[.int .u8 49, .int .u8 50, .int .u8 51, .int .u8 52, .int .u8 53, .int .u8 54, .int .u8 55, .int .u8 56, .int .u8 57] 5 (9, 10)) = W := ⟨_, rfl⟩
  have C3 := hid (show Calls Tryd.prog 10 #[.slice (some ⟨w3.heap.size + 1, 0, none⟩) 9 9] W4 fun e w' => e = .returned (.int .u32 3421780262) ∧ w' = W4 from by
    have h := wsum_some [49, 50, 51, 52, 53, 54, 55, 56, 57] (w3.heap.size + 1) 0 9 W4 (by decide) (by unfold Oct; decide) (bs_fr W4 _ 5 (9, 10) _ (by rw [← hW4]; exact heap_alloc2_new w3 _ _)) (laid_to HL.out (by rw [← hW4]; exact HBz.out))
    rw [crc_nine] at h
    exact h)
  have HR4 := hid (show W4.heap[wa.heap.size]? = some (.cells F 32 (0, 0)) by rw [← hW4, heap_alloc_old _ _ (by simp; omega), heap_alloc_old _ _ hz3]; exact HR3.out)
  have HG4 := hid (show W4.heap[w2.heap.size]? = some (.cells #[.int .u8 1, .int .u64 258, .int .u64 0, .int .u64 0, .int .u64 0, .int .u64 0, .int .u64 0, .int .u64 0] 31 (0, 0)) by rw [← hW4, heap_alloc_old _ _ (by simp; omega), heap_alloc_old _ _ hz4]; exact HG3.out)
  have cs : (convert 22 22 (.slice (some ⟨w3.heap.size + 1, 0, none⟩) 9 9)).run Tryd.prog ((w3.alloc (.cells #[.int .u8 0, .int .u64 0, .int .u64 0, .int .u64 0, .int .u64 0, .int .u64 0, .int .u64 0, .int .u64 0] 31)).alloc (.cells #[.int .u8 49, .int .u8 50, .int .u8 51, .int .u8 52, .int .u8 53, .int .u8 54, .int .u8 55, .int .u8 56, .int .u8 57] 5)) = .ok (.slice (some ⟨w3.heap.size + 1, 0, none⟩) 9 9) W4 := by
    have h := Lib.run_convert_bytes_const (P := Tryd.prog) (w3.alloc (.cells #[.int .u8 0, .int .u64 0, .int .u64 0, .int .u64 0, .int .u64 0, .int .u64 0, .int .u64 0, .int .u64 0] 31)) 22 5 #[.int .u8 49, .int .u8 50, .int .u8 51, .int .u8 52, .int .u8 53, .int .u8 54, .int .u8 55, .int .u8 56, .int .u8 57] 9 9 Tryd.underlying22 Tryd.underlying5
    have e : (w3.alloc (.cells #[.int .u8 0, .int .u64 0, .int .u64 0, .int .u64 0, .int .u64 0, .int .u64 0, .int .u64 0, .int .u64 0] 31)).heap.size = w3.heap.size + 1 := by simp
    rw [e] at h
    exact h.trans (by rw [← hW4]; rfl)
  rw [hW4] at HBz
  clear hW4
  go_wp2_with fail
  clear cs
  refine C3.out.mono ?_
  rintro e w5 ⟨rfl, rfl⟩
  have cv := conv_bytes w5 wa.heap.size 0 64 [66, 70, 1, 0, 2, 1] 6 rfl (bs_take (bs_arr w5 _ 32 _ (by rw [HF.out]; exact HR4.out)) 6)
  have tx : txt [66, 70, 1, 0, 2, 1] = ⟨#[66, 70, 1, 0, 2, 1]⟩ := rfl
  rw [tx] at cv
  have cg : w5.cell? ⟨w2.heap.size, 1, none⟩ = some (.int .u64 258) := by rw [cell_of_row w5 _ _ _ _ _ HG4.out]; rfl
  go_wp2
  go_ret
  exact ⟨rfl, HBz.out⟩
end Go.Proofs.YtffgcdhhjboppaaDoor
