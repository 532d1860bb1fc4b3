/-
  Contract: bourseref02.Pack.
-/
import Derived.Test.YtehaomjfhiiifaaDoorRefA
import Derived.Test.YtehaomjfhiiifaaDoorUnpA
namespace Go.Proofs.YtehaomjfhiiifaaDoor
open Go.RowKit Go.Deep Crc
set_option linter.unusedVariables false

theorem zs_cons (n : Nat) : zs (n + 1) = .int .u8 0 :: zs n := by simp [zs, List.replicate_succ]
/-- one byte more. -/
theorem fill_step (A : List Nat) (m x n : Nat) (hn : n = A.length) : (bv A ++ zs (m + 1)).set n (.int .u8 (x : Nat)) = bv (A ++ [x]) ++ zs m := by
  rw [zs_cons, set_mid _ _ _ _ n (by rw [bv_len]; exact hn), bv_append]
  simp [bv]
theorem fill_at (A : List Nat) (m n : Nat) (hn : n = A.length) : (bv A ++ zs (m + 1))[n]? = some (.int .u8 0) := by
  rw [zs_cons, List.getElem?_append_right (by rw [bv_len]; omega), bv_len, hn]
  simp

set_option maxHeartbeats 2000000 in
set_option maxRecDepth 100000 in
theorem rpack_any (k w0 w1 w2' w3 w4 w5 w6 : Nat) (w : World) (hk : k < 256) (hw : ∀ x ∈ [w0, w1, w2', w3, w4, w5, w6], x < 18446744073709551616) :
    Calls Tryd.prog 14 #[fv k w0 w1 w2' w3 w4 w5 w6] w fun e w' => e = .returned (.agg (bv (frame k [w0, w1, w2', w3, w4, w5, w6])).toArray) ∧ Below w.heap.size w w' := by
  have HW := hid hw
  clear hw
  obtain ⟨L, hL⟩ : ∃ L, body k [w0, w1, w2', w3, w4, w5, w6] = L := ⟨_, rfl⟩
  have L60 : L.length = 60 := by rw [← hL]; exact body_len k _ rfl
  have LO := hid (show Oct L by rw [← hL]; exact body_oct k _ hk)
  have HLB := hid hL
  obtain ⟨S, hS⟩ : ∃ S, crc L = S := ⟨_, rfl⟩
  have lS : S < 4294967296 := by rw [← hS]; exact crc_lt _
  have HS := hid hS
  clear hL hS
  have hA := hid (show ((w.alloc (.cells #[.int .u8 (k : Nat), .int .u64 (w0 : Nat), .int .u64 (w1 : Nat), .int .u64 (w2' : Nat), .int .u64 (w3 : Nat), .int .u64 (w4 : Nat), .int .u64 (w5 : Nat), .int .u64 (w6 : Nat)] 31)).alloc (.cells (zs 64).toArray 32)).heap[w.heap.size + 1]? = some (.cells (zs 64).toArray 32 (0, 0)) from heap_alloc2_new w _ _)
  have hB := hid (show Below w.heap.size w ((w.alloc (.cells #[.int .u8 (k : Nat), .int .u64 (w0 : Nat), .int .u64 (w1 : Nat), .int .u64 (w2' : Nat), .int .u64 (w3 : Nat), .int .u64 (w4 : Nat), .int .u64 (w5 : Nat), .int .u64 (w6 : Nat)] 31)).alloc (.cells (zs 64).toArray 32)) from bal (bal (Below.refl _ _) _) _)
  unfold fv
  go_enter Tryd.func14, Tryd.ntmps14
  go_wp2_with fail
  refine (bytes_any k w0 w1 w2' w3 w4 w5 w6 _ HW.out).mono ?_
  rintro e w2 ⟨v, rfl, hown, hb⟩
  have HR := hid (show w2.heap[w.heap.size + 1]? = some (.cells (zs 64).toArray 32 (0, 0)) by rw [blk_to hb (by simp)]; exact hA.out)
  have HBw := hid (btr hB.out hb)
  rw [HLB.out] at hown
  rcases hown.2 with ⟨_, h0⟩ | ⟨g, cap, cur, rfl, hbg, hg, hn, _⟩
  · exact absurd h0 (by decide)
  have gl : g < w2.heap.size := (Array.getElem?_eq_some_iff.1 hg).1
  have gH : w.heap.size + 1 < g := by simp at hbg; omega
  have hBs : Bs w2 g 0 L := by
    intro i hi
    have := hown.cells (g := g) rfl i (.int .u8 ((L[i] : Nat) : Int)) (by simp [bv, hi])
    rw [Addr.add_mid] at this
    exact this
  have HBs := hid hBs
  have HBW := hid (bal HBw.out (.cells (zs 64).toArray 32))
  clear hb hown hbg hg hn hA hB hBs
  have CS := hid (show Calls Tryd.prog 11 #[.slice (some ⟨g, 0, none⟩) 60 cap] w2 fun e w' => e = .returned (.int .u32 (S : Nat)) ∧ w' = w2 from by
    have h := rsum_some L g 0 cap w2 (by omega) LO.out HBs.out
    rw [L60, HS.out] at h
    exact h)
  go_wp2_with fail
  refine CS.out.mono ?_
  rintro e wq ⟨rfl, hq⟩
  rw [hq]
  clear CS hq
  have HB0 := hid (show (w2.alloc (.cells (zs 64).toArray 32)).heap[w2.heap.size]? = some (.cells (zs 64).toArray 32 (0, 0)) from heap_alloc_new _ _)
  have HR0 := hid (show (w2.alloc (.cells (zs 64).toArray 32)).heap[w.heap.size + 1]? = some (.cells (zs 64).toArray 32 (0, 0)) by rw [heap_alloc_old _ _ (by omega)]; exact HR.out)
  have HBs0 := hid (show Bs (w2.alloc (.cells (zs 64).toArray 32)) g 0 L from bs_to HBs.out ((Below.refl _ _).alloc (Nat.le_refl _) _))
  obtain ⟨W3, hW3⟩ : ∃ W, w2.alloc (.cells (zs 64).toArray 32) = W := ⟨_, rfl⟩
  rw [hW3] at HB0 HR0 HBs0 HBW
  clear HBs HR HBw
  go_wp2_with fail
  go_loopw [6] (fun iv wr => ∃ i : Nat, i ≤ 60 ∧ iv = .int .i64 i ∧ wr = W3.setRow w2.heap.size (bv (L.take i) ++ zs (64 - i)).toArray) (fun iv _ => 60 - (intOf iv).toNat)
  case atStart => exact ⟨0, by omega, rfl, hW3.trans (setRow_self W3 w2.heap.size (zs 64).toArray 32 (0, 0) HB0.out).symm⟩
  case round =>
    obtain ⟨i, hi, rfl, hwr⟩ := hrel
    have HROW := hid (show wr.heap[w2.heap.size]? = some (.cells (bv (L.take i) ++ zs (64 - i)).toArray 32 (0, 0)) by rw [hwr]; exact setRow_heap W3 _ _ _ 32 _ HB0.out)
    have HWR := hid hwr
    clear hwr
    by_cases h60 : i < 60
    · obtain ⟨x, hx⟩ : ∃ x, L[i] = x := ⟨_, rfl⟩
      have hcell : wr.cell? ⟨g, i, none⟩ = some (.int .u8 (x : Nat)) := by
        rw [HWR.out, cell_setRow_other _ _ _ _ (by show g ≠ w2.heap.size; omega)]
        have := HBs0.out i (by omega)
        rw [Nat.zero_add, hx] at this
        exact this
      have hlt : (L.take i).length = i := by simp; omega
      have cf : wr.cell? ⟨w2.heap.size, i, none⟩ = some (.int .u8 0) := by
        rw [cell_of_row wr _ _ _ _ _ HROW.out, List.getElem?_toArray, show 64 - i = (63 - i) + 1 by omega]
        exact fill_at _ _ _ hlt.symm
      have ff : wr.frozen? ⟨w2.heap.size, i, none⟩ = false := frozen_of_row wr _ _ _ _ HROW.out
      have HN := hid (show wr.setCell ⟨w2.heap.size, i, none⟩ (.int .u8 (x : Nat)) = W3.setRow w2.heap.size (bv (L.take (i + 1)) ++ zs (64 - (i + 1))).toArray by
        rw [setCell_eq_setRow wr _ _ _ _ _ _ HROW.out, HWR.out, setRow_setRow, List.setIfInBounds_toArray, show 64 - i = (64 - (i + 1)) + 1 by omega, fill_step _ _ _ _ hlt.symm, List.take_succ_eq_append_getElem (by omega), hx])
      have i0 : (0 : Int) ≤ (i : Int) := by omega
      have i1 : (i : Int) < 60 := by omega
      have i2 : (i : Int) < 64 := by omega
      clear hx HWR
      go_wp2
      go_roundw
      case rel => exact ⟨i + 1, by omega, by go_num, HN.out⟩
      case measure => simp [intOf]; omega
    · have hi60 : i = 60 := by omega
      subst hi60
      have HW60 := hid (show wr = W3.setRow w2.heap.size (bv (L ++ le 0 S) ++ zs (4 - 0)).toArray by rw [HWR.out, List.take_of_length_le (by omega)]; simp [le])
      clear HROW HWR
      go_wp2_with fail
      go_loopw [7] (fun jv wr => ∃ j : Nat, j ≤ 4 ∧ jv = .int .i64 j ∧ wr = W3.setRow w2.heap.size (bv (L ++ le j S) ++ zs (4 - j)).toArray) (fun jv _ => 4 - (intOf jv).toNat)
      case atStart => exact ⟨0, by omega, rfl, HW60.out⟩
      case round =>
        obtain ⟨j, hj, rfl, hwr⟩ := hrel
        rename_i wr0 _
        have HROW := hid (show wr.heap[w2.heap.size]? = some (.cells (bv (L ++ le j S) ++ zs (4 - j)).toArray 32 (0, 0)) by rw [hwr]; exact setRow_heap W3 _ _ _ 32 _ HB0.out)
        have HWR := hid hwr
        clear hwr
        by_cases h4 : j < 4
        · have hlen : (L ++ le j S).length = 60 + j := by rw [List.length_append, le_len, L60]
          obtain ⟨q, hq⟩ : ∃ q, S / 2 ^ (8 * j) = q := ⟨_, rfl⟩
          have q1 : q < 4294967296 := by rw [← hq]; exact Nat.lt_of_le_of_lt (Nat.div_le_self _ _) lS
          obtain ⟨y, hy⟩ : ∃ y, q % 256 = y := ⟨_, rfl⟩
          have e2 : IntKind.u8.wrap (q : Int) = (y : Int) := by
            have b : IntKind.u8.wrap (q : Int) = (q : Int) % 256 := by simp [IntKind.wrap, IntKind.bits, IntKind.signed]
            rw [b]; omega
          have HAT := hid (show (bv (L ++ le j S) ++ zs (4 - j))[60 + j]? = some (.int .u8 0) by
            rw [show 4 - j = (3 - j) + 1 by omega]; exact fill_at _ _ _ hlen.symm)
          have HN := hid (show wr.setCell ⟨w2.heap.size, 60 + j, none⟩ (.int .u8 (y : Nat)) = W3.setRow w2.heap.size (bv (L ++ le (j + 1) S) ++ zs (4 - (j + 1))).toArray by
            rw [setCell_eq_setRow wr _ _ _ _ _ _ HROW.out, HWR.out, setRow_setRow, List.setIfInBounds_toArray, show 4 - j = (4 - (j + 1)) + 1 by omega, fill_step _ _ _ _ hlen.symm, le_snoc, ← List.append_assoc]
            have e : S / 256 ^ j % 256 = y := by rw [← hy, ← hq, Nat.pow_mul]
            rw [e])
          have HQ := hid hq
          have : j = 0 ∨ j = 1 ∨ j = 2 ∨ j = 3 := by omega
          clear hq hy hlen HWR hj h4
          rcases this with rfl | rfl | rfl | rfl
          · have e1 : (S : Int) = (q : Int) := by rw [← HQ.out]; simp
            have cf : wr.cell? ⟨w2.heap.size, 60, none⟩ = some (.int .u8 0) := by rw [cell_of_row wr _ _ _ _ _ HROW.out, List.getElem?_toArray]; exact HAT.out
            have ff : wr.frozen? ⟨w2.heap.size, 60, none⟩ = false := frozen_of_row wr _ _ _ _ HROW.out
            go_wp2
            go_roundw
            case rel => exact ⟨1, by omega, by go_num, HN.out⟩
            case measure => simp [intOf]
          · have e1 : (S : Int) / 256 = (q : Int) := by rw [← HQ.out]; simp
            have cf : wr.cell? ⟨w2.heap.size, 61, none⟩ = some (.int .u8 0) := by rw [cell_of_row wr _ _ _ _ _ HROW.out, List.getElem?_toArray]; exact HAT.out
            have ff : wr.frozen? ⟨w2.heap.size, 61, none⟩ = false := frozen_of_row wr _ _ _ _ HROW.out
            go_wp2
            go_roundw
            case rel => exact ⟨2, by omega, by go_num, HN.out⟩
            case measure => simp [intOf]
          · have e1 : (S : Int) / 65536 = (q : Int) := by rw [← HQ.out]; simp
            have cf : wr.cell? ⟨w2.heap.size, 62, none⟩ = some (.int .u8 0) := by rw [cell_of_row wr _ _ _ _ _ HROW.out, List.getElem?_toArray]; exact HAT.out
            have ff : wr.frozen? ⟨w2.heap.size, 62, none⟩ = false := frozen_of_row wr _ _ _ _ HROW.out
            go_wp2
            go_roundw
            case rel => exact ⟨3, by omega, by go_num, HN.out⟩
            case measure => simp [intOf]
          · have e1 : (S : Int) / 16777216 = (q : Int) := by rw [← HQ.out]; simp
            have cf : wr.cell? ⟨w2.heap.size, 63, none⟩ = some (.int .u8 0) := by rw [cell_of_row wr _ _ _ _ _ HROW.out, List.getElem?_toArray]; exact HAT.out
            have ff : wr.frozen? ⟨w2.heap.size, 63, none⟩ = false := frozen_of_row wr _ _ _ _ HROW.out
            go_wp2
            go_roundw
            case rel => exact ⟨4, by omega, by go_num, HN.out⟩
            case measure => simp [intOf]
        · have hj4 : j = 4 := by omega
          subst hj4
          have HFR := hid (show L ++ le 4 S = frame k [w0, w1, w2', w3, w4, w5, w6] by unfold frame; rw [HLB.out, HS.out])
          obtain ⟨F, hF⟩ : ∃ F, (bv (frame k [w0, w1, w2', w3, w4, w5, w6])).toArray = F := ⟨_, rfl⟩
          have F64 : F.size = 64 := by rw [← hF]; simp [bv_len, frame_len]
          have i64 := hid (show (Tryd.prog.info? 32).map (·.size) = some F.size by rw [F64]; exact info32)
          have F1 := hid (show F.all (·.oneCell') = true by rw [← hF]; exact all_oneCell_toArray (bv_one _))
          have FZ := hid (show (zs 64).toArray.size = F.size by rw [F64]; simp [zs])
          have HR9 := hid (show wr.heap[w2.heap.size]? = some (.cells F 32 (0, 0)) by rw [HROW.out, HFR.out, ← hF]; simp [zs])
          have HZ9 := hid (show wr.heap[w.heap.size + 1]? = some (.cells (zs 64).toArray 32 (0, 0)) by rw [HWR.out, setRow_other _ _ _ _ (by omega)]; exact HR0.out)
          have HB9 := hid (show Below w.heap.size w wr by rw [HWR.out]; exact below_setRow HBW.out (by omega) _)
          have HF := hid hF
          clear hF F64 HROW HWR HFR
          go_wp2_with (first | (refine wpList_load_row (by rfl) 32 (.tmp 5) (by rfl) w2.heap.size (by rfl) 32 F (0, 0) _ HR9.out Tryd.underlying32 rfl i64.out ?_) | (refine wpList_store_row (by rfl) 32 (.tmp 2) (.tmp 38) (by rfl) (w.heap.size + 1) F (by rfl) (by rfl) 32 (zs 64).toArray HZ9.out i64.out FZ.out F1.out ?_))
          refine bodyPost_ret (v := .agg F) (results_cell_row (fn := Tryd.f14) Tryd.results14 _ _ (w.heap.size + 1) 32 F (0, 0) _ (by rfl) (setRow_heap _ _ _ _ 32 (0, 0) HZ9.out) Tryd.underlying32 rfl i64.out) rfl ⟨by rw [HF.out], below_setRow HB9.out (by omega) _⟩
end Go.Proofs.YtehaomjfhiiifaaDoor
