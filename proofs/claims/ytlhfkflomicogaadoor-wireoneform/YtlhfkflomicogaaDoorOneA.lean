/-
  WireOneForm: the walk.
-/
import Derived.Test.YtlhfkflomicogaaDoorLives
import Derived.Test.YtlhfkflomicogaaDoorEqF
import Derived.BigQuiet
namespace Go.Proofs.YtlhfkflomicogaaDoor
open Go.RowKit Go.Deep Crc
set_option linter.unusedVariables false
set_option linter.unusedSimpArgs false

theorem Sl.to {w w' : World} {v : Value} {xs : List Nat} (h : Sl w v xs) (hb : Below w.heap.size w w') : Sl w' v xs := by
  rcases h with h | ⟨b, o, cap, e, h⟩
  · exact Or.inl h
  · exact Or.inr ⟨b, o, cap, e, bs_to h hb⟩
/-- what comes of any bytes. -/
def UnpQ (xs : List Nat) (e : Ending) : Prop :=
  (∃ E : Int, (E == 0) = false ∧ e = .returned (.tuple #[.agg #[.int .u8 0, .int .u64 0, .int .u64 0, .int .u64 0, .int .u64 0, .int .u64 0, .int .u64 0, .int .u64 0], .int .i64 E])) ∨ (xs.length = 64 ∧ xs = again xs ∧ e = .returned (.tuple #[readV xs, .int .i64 0]))
theorem unpack_any (v : Value) (xs : List Nat) (w : World) (hl : xs.length < 9223372036854775808) (hx : Oct xs) (hS : Sl w v xs) (hL : Laid w) :
    Calls Tryd.prog 15 #[v] w fun e w' => UnpQ xs e ∧ Below w.heap.size w w' := by
  have short : ∀ p cap, xs.length < 64 → Calls Tryd.prog 15 #[.slice p xs.length cap] w fun e w' => UnpQ xs e ∧ Below w.heap.size w w' := by
    intro p cap h
    refine (unpack_short p xs.length cap w h).mono ?_
    rintro e w' ⟨rfl, hb⟩
    exact ⟨Or.inl ⟨20, rfl, rfl⟩, hb⟩
  rcases hS with ⟨rfl, p, cap, rfl⟩ | ⟨b, o, cap, rfl, hB⟩
  · exact short p cap (by decide)
  · by_cases h1 : xs.length < 64
    · exact short _ cap h1
    · by_cases h2 : 64 < xs.length
      · refine (unpack_long (some ⟨b, o, none⟩) xs.length cap w h2 (by omega)).mono ?_
        rintro e w' ⟨rfl, hb⟩
        exact ⟨Or.inl ⟨2, rfl, rfl⟩, hb⟩
      · have h64 : xs.length = 64 := by omega
        rw [h64]
        refine (unpack_whole xs b o cap w h64 hx hB hL).mono ?_
        rintro e w' ⟨h, hb⟩
        refine ⟨?_, hb⟩
        rcases h with ⟨_, rfl⟩ | ⟨_, _, rfl⟩ | ⟨_, h, rfl⟩
        · exact Or.inl ⟨22, rfl, rfl⟩
        · exact Or.inl ⟨21, rfl, rfl⟩
        · exact Or.inr ⟨h64, h, rfl⟩

set_option maxHeartbeats 2000000 in
set_option maxRecDepth 100000 in
theorem oneForm_walk (k w0 w1 w2 w3 w4 w5 w6 : Nat) (v : Value) (xs : List Nat) (w : World) (hk : k < 256) (hw : ∀ x ∈ [w0, w1, w2, w3, w4, w5, w6], x < 18446744073709551616)
    (hl : xs.length < 9223372036854775808) (hx : Oct xs) (hS : Sl w v xs) (hL : Laid w) :
    Calls Tryd.prog 8 #[fv k w0 w1 w2 w3 w4 w5 w6, v] w fun e w' => e = .returned (.bool true) ∧ Below w.heap.size w w' := by
  have HL := hid hL
  have HX := hid hx
  have HS := hid hS
  have HW := hid hw
  clear hL hx hS hw
  unfold fv
  go_enter Tryd.func8, Tryd.ntmps8
  go_wp2_with fail
  refine (lives_any _ (laid_to HL.out ((Below.refl _ _).alloc (Nat.le_refl _) _))).mono ?_
  rintro e wa ⟨rfl, hb⟩
  have HBa := hid (btr ((Below.refl w.heap.size w).alloc (Nat.le_refl _) _) hb)
  have HGa := hid (show wa.heap[w.heap.size]? = some (.cells #[.int .u8 (k : Nat), .int .u64 (w0 : Nat), .int .u64 (w1 : Nat), .int .u64 (w2 : Nat), .int .u64 (w3 : Nat), .int .u64 (w4 : Nat), .int .u64 (w5 : Nat), .int .u64 (w6 : Nat)] 31 (0, 0)) by rw [blk_to hb (by simp)]; exact heap_alloc_new w _)
  clear hb
  have c0 : wa.cell? ⟨w.heap.size, 0, none⟩ = some (.int .u8 (k : Nat)) := by rw [cell_of_row wa _ _ _ _ _ HGa.out]; rfl
  have c1 : wa.cell? ⟨w.heap.size, 1, none⟩ = some (.int .u64 (w0 : Nat)) := by rw [cell_of_row wa _ _ _ _ _ HGa.out]; rfl
  have c2 : wa.cell? ⟨w.heap.size, 2, none⟩ = some (.int .u64 (w1 : Nat)) := by rw [cell_of_row wa _ _ _ _ _ HGa.out]; rfl
  have c3 : wa.cell? ⟨w.heap.size, 3, none⟩ = some (.int .u64 (w2 : Nat)) := by rw [cell_of_row wa _ _ _ _ _ HGa.out]; rfl
  have c4 : wa.cell? ⟨w.heap.size, 4, none⟩ = some (.int .u64 (w3 : Nat)) := by rw [cell_of_row wa _ _ _ _ _ HGa.out]; rfl
  have c5 : wa.cell? ⟨w.heap.size, 5, none⟩ = some (.int .u64 (w4 : Nat)) := by rw [cell_of_row wa _ _ _ _ _ HGa.out]; rfl
  have c6 : wa.cell? ⟨w.heap.size, 6, none⟩ = some (.int .u64 (w5 : Nat)) := by rw [cell_of_row wa _ _ _ _ _ HGa.out]; rfl
  have c7 : wa.cell? ⟨w.heap.size, 7, none⟩ = some (.int .u64 (w6 : Nat)) := by rw [cell_of_row wa _ _ _ _ _ HGa.out]; rfl
  have CP := hid (show ∀ w : World, Laid w → Calls Tryd.prog 13 #[.agg #[.int .u8 (k : Nat), .int .u64 (w0 : Nat), .int .u64 (w1 : Nat), .int .u64 (w2 : Nat), .int .u64 (w3 : Nat), .int .u64 (w4 : Nat), .int .u64 (w5 : Nat), .int .u64 (w6 : Nat)]] w fun e w' => e = .returned (.agg (bv (frame k [w0, w1, w2, w3, w4, w5, w6])).toArray) ∧ Below w.heap.size w w' from fun w hL =>
    pack_any k w0 w1 w2 w3 w4 w5 w6 w hL hk (HW.out _ (by simp)) (HW.out _ (by simp)) (HW.out _ (by simp)) (HW.out _ (by simp)) (HW.out _ (by simp)) (HW.out _ (by simp)) (HW.out _ (by simp)))
  go_wp2_with fail
  refine (CP.out _ (laid_to HL.out HBa.out)).mono ?_
  rintro e wb ⟨rfl, hb⟩
  have HBb := hid (btr HBa.out hb)
  have HGb := hid (show wb.heap[w.heap.size]? = some (.cells #[.int .u8 (k : Nat), .int .u64 (w0 : Nat), .int .u64 (w1 : Nat), .int .u64 (w2 : Nat), .int .u64 (w3 : Nat), .int .u64 (w4 : Nat), .int .u64 (w5 : Nat), .int .u64 (w6 : Nat)] 31 (0, 0)) by rw [blk_to hb (Array.getElem?_eq_some_iff.1 HGa.out).1]; exact HGa.out)
  clear hb c0 c1 c2 c3 c4 c5 c6 c7 CP HGa HBa
  obtain ⟨F, hF⟩ : ∃ F, (bv (frame k [w0, w1, w2, w3, w4, w5, w6])).toArray = F := ⟨_, rfl⟩
  have F64 : F.size = 64 := by rw [← hF]; simp [bv_len, frame_len]
  have i64 := hid (show (Tryd.prog.info? 32).map (·.size) = some F.size by rw [F64]; exact info32)
  have F1 := hid (show F.all (·.oneCell') = true by rw [← hF]; exact all_oneCell_toArray (bv_one _))
  have FZ := hid (show (zs 64).toArray.size = F.size by rw [F64]; simp [zs])
  have HF := hid hF
  rw [hF]
  clear hF F64
  go_wp2_with (refine wpList_store_row (by rfl) 32 (.tmp 5) (.tmp 13) (by rfl) wb.heap.size F (by rfl) (by rfl) 32 (zs 64).toArray (heap_alloc_new _ _) i64.out FZ.out F1.out ?_)
  have HR1 := hid (show ((wb.alloc (.cells (zs 64).toArray 32)).setRow wb.heap.size F).heap[wb.heap.size]? = some (.cells F 32 (0, 0)) from setRow_heap _ _ _ _ 32 (0, 0) (heap_alloc_new _ _))
  have HB1 := hid (show Below wb.heap.size wb ((wb.alloc (.cells (zs 64).toArray 32)).setRow wb.heap.size F) from below_setRow ((Below.refl _ _).alloc (Nat.le_refl _) _) (Nat.le_refl _) _)
  obtain ⟨W1, hW1⟩ : ∃ W, (wb.alloc (.cells (zs 64).toArray 32)).setRow wb.heap.size F = W := ⟨_, rfl⟩
  rw [hW1] at HR1 HB1
  have HBW := hid (btr HBb.out HB1.out)
  have C1 := hid (show Calls Tryd.prog 15 #[.slice (some ⟨wb.heap.size, 0, none⟩) 64 64] W1 fun e w' => e = .returned (.tuple #[.agg #[.int .u8 (k : Nat), .int .u64 (w0 : Nat), .int .u64 (w1 : Nat), .int .u64 (w2 : Nat), .int .u64 (w3 : Nat), .int .u64 (w4 : Nat), .int .u64 (w5 : Nat), .int .u64 (w6 : Nat)], .int .i64 0]) ∧ Below W1.heap.size W1 w' from
    unpack_frame k w0 w1 w2 w3 w4 w5 w6 wb.heap.size 0 64 W1 hk HW.out (bs_arr W1 _ 32 _ (by rw [HF.out]; exact HR1.out)) (laid_to HL.out HBW.out))
  rw [← hW1] at C1
  refine C1.out.mono ?_
  rw [hW1]
  clear C1 hW1
  rintro e wc ⟨rfl, hb⟩
  have hlb : w.heap.size < wb.heap.size := (Array.getElem?_eq_some_iff.1 HGb.out).1
  have hl1 : wb.heap.size < W1.heap.size := (Array.getElem?_eq_some_iff.1 HR1.out).1
  have hlc : W1.heap.size ≤ wc.heap.size := hb.size
  have HBc := hid (bal (btr HBW.out hb) (.cells #[.int .u8 (k : Nat), .int .u64 (w0 : Nat), .int .u64 (w1 : Nat), .int .u64 (w2 : Nat), .int .u64 (w3 : Nat), .int .u64 (w4 : Nat), .int .u64 (w5 : Nat), .int .u64 (w6 : Nat)] 31))
  have HRc := hid (show (wc.alloc (.cells #[.int .u8 (k : Nat), .int .u64 (w0 : Nat), .int .u64 (w1 : Nat), .int .u64 (w2 : Nat), .int .u64 (w3 : Nat), .int .u64 (w4 : Nat), .int .u64 (w5 : Nat), .int .u64 (w6 : Nat)] 31)).heap[wb.heap.size]? = some (.cells F 32 (0, 0)) by rw [heap_alloc_old _ _ (by omega), blk_to hb hl1]; exact HR1.out)
  have HGc := hid (show (wc.alloc (.cells #[.int .u8 (k : Nat), .int .u64 (w0 : Nat), .int .u64 (w1 : Nat), .int .u64 (w2 : Nat), .int .u64 (w3 : Nat), .int .u64 (w4 : Nat), .int .u64 (w5 : Nat), .int .u64 (w6 : Nat)] 31)).heap[w.heap.size]? = some (.cells #[.int .u8 (k : Nat), .int .u64 (w0 : Nat), .int .u64 (w1 : Nat), .int .u64 (w2 : Nat), .int .u64 (w3 : Nat), .int .u64 (w4 : Nat), .int .u64 (w5 : Nat), .int .u64 (w6 : Nat)] 31 (0, 0)) by rw [heap_alloc_old _ _ (by omega), blk_to hb (by omega), blk_to HB1.out hlb]; exact HGb.out)
  have HHc := hid (show (wc.alloc (.cells #[.int .u8 (k : Nat), .int .u64 (w0 : Nat), .int .u64 (w1 : Nat), .int .u64 (w2 : Nat), .int .u64 (w3 : Nat), .int .u64 (w4 : Nat), .int .u64 (w5 : Nat), .int .u64 (w6 : Nat)] 31)).heap[wc.heap.size]? = some (.cells #[.int .u8 (k : Nat), .int .u64 (w0 : Nat), .int .u64 (w1 : Nat), .int .u64 (w2 : Nat), .int .u64 (w3 : Nat), .int .u64 (w4 : Nat), .int .u64 (w5 : Nat), .int .u64 (w6 : Nat)] 31 (0, 0)) from heap_alloc_new _ _)
  obtain ⟨W2, hW2⟩ : ∃ W, wc.alloc (.cells #[.int .u8 (k : Nat), .int .u64 (w0 : Nat), .int .u64 (w1 : Nat), .int .u64 (w2 : Nat), .int .u64 (w3 : Nat), .int .u64 (w4 : Nat), .int .u64 (w5 : Nat), .int .u64 (w6 : Nat)] 31) = W := ⟨_, rfl⟩
  rw [hW2] at HBc HRc HGc HHc
  have c0 : W2.cell? ⟨w.heap.size, 0, none⟩ = some (.int .u8 (k : Nat)) := by rw [cell_of_row W2 _ _ _ _ _ HGc.out]; rfl
  have d0 : W2.cell? ⟨wc.heap.size, 0, none⟩ = some (.int .u8 (k : Nat)) := by rw [cell_of_row W2 _ _ _ _ _ HHc.out]; rfl
  have c1 : W2.cell? ⟨w.heap.size, 1, none⟩ = some (.int .u64 (w0 : Nat)) := by rw [cell_of_row W2 _ _ _ _ _ HGc.out]; rfl
  have d1 : W2.cell? ⟨wc.heap.size, 1, none⟩ = some (.int .u64 (w0 : Nat)) := by rw [cell_of_row W2 _ _ _ _ _ HHc.out]; rfl
  have c2 : W2.cell? ⟨w.heap.size, 2, none⟩ = some (.int .u64 (w1 : Nat)) := by rw [cell_of_row W2 _ _ _ _ _ HGc.out]; rfl
  have d2 : W2.cell? ⟨wc.heap.size, 2, none⟩ = some (.int .u64 (w1 : Nat)) := by rw [cell_of_row W2 _ _ _ _ _ HHc.out]; rfl
  have c3 : W2.cell? ⟨w.heap.size, 3, none⟩ = some (.int .u64 (w2 : Nat)) := by rw [cell_of_row W2 _ _ _ _ _ HGc.out]; rfl
  have d3 : W2.cell? ⟨wc.heap.size, 3, none⟩ = some (.int .u64 (w2 : Nat)) := by rw [cell_of_row W2 _ _ _ _ _ HHc.out]; rfl
  have c4 : W2.cell? ⟨w.heap.size, 4, none⟩ = some (.int .u64 (w3 : Nat)) := by rw [cell_of_row W2 _ _ _ _ _ HGc.out]; rfl
  have d4 : W2.cell? ⟨wc.heap.size, 4, none⟩ = some (.int .u64 (w3 : Nat)) := by rw [cell_of_row W2 _ _ _ _ _ HHc.out]; rfl
  have c5 : W2.cell? ⟨w.heap.size, 5, none⟩ = some (.int .u64 (w4 : Nat)) := by rw [cell_of_row W2 _ _ _ _ _ HGc.out]; rfl
  have d5 : W2.cell? ⟨wc.heap.size, 5, none⟩ = some (.int .u64 (w4 : Nat)) := by rw [cell_of_row W2 _ _ _ _ _ HHc.out]; rfl
  have c6 : W2.cell? ⟨w.heap.size, 6, none⟩ = some (.int .u64 (w5 : Nat)) := by rw [cell_of_row W2 _ _ _ _ _ HGc.out]; rfl
  have d6 : W2.cell? ⟨wc.heap.size, 6, none⟩ = some (.int .u64 (w5 : Nat)) := by rw [cell_of_row W2 _ _ _ _ _ HHc.out]; rfl
  have c7 : W2.cell? ⟨w.heap.size, 7, none⟩ = some (.int .u64 (w6 : Nat)) := by rw [cell_of_row W2 _ _ _ _ _ HGc.out]; rfl
  have d7 : W2.cell? ⟨wc.heap.size, 7, none⟩ = some (.int .u64 (w6 : Nat)) := by rw [cell_of_row W2 _ _ _ _ _ HHc.out]; rfl
  have q := eqF (k : Nat) (w0 : Nat) (w1 : Nat) (w2 : Nat) (w3 : Nat) (w4 : Nat) (w5 : Nat) (w6 : Nat)
  clear hb HB1 HBW HBb HGb HR1
  go_wp2_with fail
  clear q hW2 c0 c1 c2 c3 c4 c5 c6 c7 d0 d1 d2 d3 d4 d5 d6 d7
  refine (unpack_any v xs W2 hl HX.out (HS.out.to HBc.out) (laid_to HL.out HBc.out)).mono ?_
  rintro e wd ⟨hQ, hb⟩
  have hl2 : wb.heap.size < W2.heap.size := (Array.getElem?_eq_some_iff.1 HRc.out).1
  have hld : W2.heap.size ≤ wd.heap.size := hb.size
  rcases hQ with ⟨E, hE, rfl⟩ | ⟨h64, hA, rfl⟩
  · have q0 := eqF 0 0 0 0 0 0 0 0
    have HBd := hid (bal (btr HBc.out hb) (.cells #[.int .u8 0, .int .u64 0, .int .u64 0, .int .u64 0, .int .u64 0, .int .u64 0, .int .u64 0, .int .u64 0] 31))
    clear hb
    go_wp2
    go_ret
    exact ⟨rfl, HBd.out⟩
  · obtain ⟨j, hj⟩ : ∃ a, xs.getD 2 0 = a := ⟨_, rfl⟩
    obtain ⟨a0, ha0⟩ : ∃ a, wordOf xs 0 = a := ⟨_, rfl⟩
    obtain ⟨a1, ha1⟩ : ∃ a, wordOf xs 1 = a := ⟨_, rfl⟩
    obtain ⟨a2, ha2⟩ : ∃ a, wordOf xs 2 = a := ⟨_, rfl⟩
    obtain ⟨a3, ha3⟩ : ∃ a, wordOf xs 3 = a := ⟨_, rfl⟩
    obtain ⟨a4, ha4⟩ : ∃ a, wordOf xs 4 = a := ⟨_, rfl⟩
    obtain ⟨a5, ha5⟩ : ∃ a, wordOf xs 5 = a := ⟨_, rfl⟩
    obtain ⟨a6, ha6⟩ : ∃ a, wordOf xs 6 = a := ⟨_, rfl⟩
    have hj2 : j < 256 := by
      have h2 : 2 < xs.length := (by omega)
      have e2 : xs.getD 2 0 = xs[2] := (by simp [List.getD, h2])
      rw [← hj, e2]
      exact HX.out _ (List.getElem_mem h2)
    have CP := hid (show ∀ w : World, Laid w → Calls Tryd.prog 13 #[.agg #[.int .u8 (j : Nat), .int .u64 (a0 : Nat), .int .u64 (a1 : Nat), .int .u64 (a2 : Nat), .int .u64 (a3 : Nat), .int .u64 (a4 : Nat), .int .u64 (a5 : Nat), .int .u64 (a6 : Nat)]] w fun e w' => e = .returned (.agg (bv xs).toArray) ∧ Below w.heap.size w w' from fun w hL => by
      have h := pack_any j a0 a1 a2 a3 a4 a5 a6 w hL hj2 (ha0 ▸ word_lt xs HX.out 0) (ha1 ▸ word_lt xs HX.out 1) (ha2 ▸ word_lt xs HX.out 2) (ha3 ▸ word_lt xs HX.out 3) (ha4 ▸ word_lt xs HX.out 4) (ha5 ▸ word_lt xs HX.out 5) (ha6 ▸ word_lt xs HX.out 6)
      have e : frame j [a0, a1, a2, a3, a4, a5, a6] = xs := by
        have := hA
        unfold again at this
        rw [hj, ha0, ha1, ha2, ha3, ha4, ha5, ha6] at this
        exact this.symm
      rw [e] at h
      exact h)
    unfold readV
    rw [hj, ha0, ha1, ha2, ha3, ha4, ha5, ha6]
    unfold fv
    clear hA hj ha0 ha1 ha2 ha3 ha4 ha5 ha6 hj2
    have HBd := hid (bal (btr HBc.out hb) (.cells #[.int .u8 (j : Nat), .int .u64 (a0 : Nat), .int .u64 (a1 : Nat), .int .u64 (a2 : Nat), .int .u64 (a3 : Nat), .int .u64 (a4 : Nat), .int .u64 (a5 : Nat), .int .u64 (a6 : Nat)] 31))
    have HRd := hid (show (wd.alloc (.cells #[.int .u8 (j : Nat), .int .u64 (a0 : Nat), .int .u64 (a1 : Nat), .int .u64 (a2 : Nat), .int .u64 (a3 : Nat), .int .u64 (a4 : Nat), .int .u64 (a5 : Nat), .int .u64 (a6 : Nat)] 31)).heap[wb.heap.size]? = some (.cells F 32 (0, 0)) by rw [heap_alloc_old _ _ (by omega), blk_to hb hl2]; exact HRc.out)
    have HGd := hid (show (wd.alloc (.cells #[.int .u8 (j : Nat), .int .u64 (a0 : Nat), .int .u64 (a1 : Nat), .int .u64 (a2 : Nat), .int .u64 (a3 : Nat), .int .u64 (a4 : Nat), .int .u64 (a5 : Nat), .int .u64 (a6 : Nat)] 31)).heap[wd.heap.size]? = some (.cells #[.int .u8 (j : Nat), .int .u64 (a0 : Nat), .int .u64 (a1 : Nat), .int .u64 (a2 : Nat), .int .u64 (a3 : Nat), .int .u64 (a4 : Nat), .int .u64 (a5 : Nat), .int .u64 (a6 : Nat)] 31 (0, 0)) from heap_alloc_new _ _)
    obtain ⟨W3, hW3⟩ : ∃ W, wd.alloc (.cells #[.int .u8 (j : Nat), .int .u64 (a0 : Nat), .int .u64 (a1 : Nat), .int .u64 (a2 : Nat), .int .u64 (a3 : Nat), .int .u64 (a4 : Nat), .int .u64 (a5 : Nat), .int .u64 (a6 : Nat)] 31) = W := ⟨_, rfl⟩
    rw [hW3] at HBd HRd HGd
    have c0 : W3.cell? ⟨wd.heap.size, 0, none⟩ = some (.int .u8 (j : Nat)) := by rw [cell_of_row W3 _ _ _ _ _ HGd.out]; rfl
    have c1 : W3.cell? ⟨wd.heap.size, 1, none⟩ = some (.int .u64 (a0 : Nat)) := by rw [cell_of_row W3 _ _ _ _ _ HGd.out]; rfl
    have c2 : W3.cell? ⟨wd.heap.size, 2, none⟩ = some (.int .u64 (a1 : Nat)) := by rw [cell_of_row W3 _ _ _ _ _ HGd.out]; rfl
    have c3 : W3.cell? ⟨wd.heap.size, 3, none⟩ = some (.int .u64 (a2 : Nat)) := by rw [cell_of_row W3 _ _ _ _ _ HGd.out]; rfl
    have c4 : W3.cell? ⟨wd.heap.size, 4, none⟩ = some (.int .u64 (a3 : Nat)) := by rw [cell_of_row W3 _ _ _ _ _ HGd.out]; rfl
    have c5 : W3.cell? ⟨wd.heap.size, 5, none⟩ = some (.int .u64 (a4 : Nat)) := by rw [cell_of_row W3 _ _ _ _ _ HGd.out]; rfl
    have c6 : W3.cell? ⟨wd.heap.size, 6, none⟩ = some (.int .u64 (a5 : Nat)) := by rw [cell_of_row W3 _ _ _ _ _ HGd.out]; rfl
    have c7 : W3.cell? ⟨wd.heap.size, 7, none⟩ = some (.int .u64 (a6 : Nat)) := by rw [cell_of_row W3 _ _ _ _ _ HGd.out]; rfl
    clear hb HRc HGc HHc
    go_wp2_with fail
    refine (CP.out _ (laid_to HL.out HBd.out)).mono ?_
    rintro e we ⟨rfl, hb⟩
    have HBe := hid (btr HBd.out hb)
    have HRe := hid (show we.heap[wb.heap.size]? = some (.cells F 32 (0, 0)) by rw [blk_to hb (Array.getElem?_eq_some_iff.1 HRd.out).1]; exact HRd.out)
    clear hb c0 c1 c2 c3 c4 c5 c6 c7 HBd HRd HGd CP hW3
    obtain ⟨D, hD⟩ : ∃ D, (bv xs).toArray = D := ⟨_, rfl⟩
    have D64 : D.size = 64 := by rw [← hD]; simp [bv_len, h64]
    have j64 := hid (show (Tryd.prog.info? 32).map (·.size) = some D.size by rw [D64]; exact info32)
    have D1 := hid (show D.all (·.oneCell') = true by rw [← hD]; exact all_oneCell_toArray (bv_one _))
    have DZ := hid (show F.size = D.size by rw [← HF.out, ← hD]; simp [bv_len, frame_len, h64])
    have HD := hid hD
    rw [hD]
    clear hD D64
    go_wp2_with (refine wpList_store_row (by rfl) 32 (.tmp 5) (.tmp 37) (by rfl) wb.heap.size D (by rfl) (by rfl) 32 F HRe.out j64.out DZ.out D1.out ?_)
    have HR9 := hid (show (we.setRow wb.heap.size D).heap[wb.heap.size]? = some (.cells D 32 (0, 0)) from setRow_heap _ _ _ _ 32 (0, 0) HRe.out)
    have HB9 := hid (show Below w.heap.size w (we.setRow wb.heap.size D) from below_setRow HBe.out (by omega) _)
    obtain ⟨W9, hW9⟩ : ∃ W, we.setRow wb.heap.size D = W := ⟨_, rfl⟩
    rw [hW9] at HR9 HB9 ⊢
    clear hW9
    have cv1 : (convert 22 9 (.slice (some ⟨wb.heap.size, 0, none⟩) 64 64)).run Tryd.prog W9.drew = .ok (.string (txt xs)) W9.drew := conv_bytes W9.drew _ 0 64 xs 64 h64 (bs_arr W9.drew _ 32 _ (by rw [HD.out]; exact HR9.out))
    have hS9 : Sl W9 v xs := HS.out.to HB9.out
    rcases hS9 with ⟨h0, _⟩ | ⟨b, o, cap, rfl, hB⟩
    · rw [h0] at h64; simp at h64
    have cv2 : (convert 22 9 (.slice (some ⟨b, o, none⟩) 64 cap)).run Tryd.prog W9.drew = .ok (.string (txt xs)) W9.drew := conv_bytes W9.drew b o cap xs 64 h64 hB
    clear hB
    (try simp only [Act.put, List.setIfInBounds_toArray, List.set_cons_zero, List.set_cons_succ])
    go_region
    all_goals
      go_wp2
      go_ret
      exact ⟨by simp, Below.drew HB9.out⟩
end Go.Proofs.YtlhfkflomicogaaDoor
