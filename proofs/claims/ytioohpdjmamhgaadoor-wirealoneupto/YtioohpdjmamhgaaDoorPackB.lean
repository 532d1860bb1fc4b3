/-
  Contract: wire.Pack.
-/
import Derived.Test.YtioohpdjmamhgaaDoorPackA
import Derived.Deep.RegionHeld3
namespace Go.Proofs.YtioohpdjmamhgaaDoor
open Go.RowKit Go.Deep Crc
set_option linter.unusedVariables false

/-- a frame's bytes, without the check sum, and with it. -/
def body (k : Nat) (ws : List Nat) : List Nat := [66, 70, k, 0] ++ ws.flatMap (le 8)
def frame (k : Nat) (ws : List Nat) : List Nat := body k ws ++ le 4 (crc (body k ws))
/-- a frame as a value. -/
def fv (k w0 w1 w2 w3 w4 w5 w6 : Nat) : Value := .agg #[.int .u8 (k : Nat), .int .u64 (w0 : Nat), .int .u64 (w1 : Nat), .int .u64 (w2 : Nat), .int .u64 (w3 : Nat), .int .u64 (w4 : Nat), .int .u64 (w5 : Nat), .int .u64 (w6 : Nat)]

theorem laid_to {w w' : World} (h : Laid w) (hb : Below w.heap.size w w') : Laid w' := by
  intro k hk
  have := h k hk
  exact (hb.cell (block_lt_of_cell this)).trans this
theorem bal {w w' : World} (h : Below w.heap.size w w') (o : Obj) : Below w.heap.size w (w'.alloc o) := h.alloc h.size o
theorem btr {w w' w1 : World} (h : Below w.heap.size w w') (k : Below w'.heap.size w' w1) : Below w.heap.size w w1 := h.trans (k.mono h.size)
theorem blk_to {w w' : World} {n b : Nat} (hb : Below n w w') (h : b < n) : w'.heap[b]? = w.heap[b]? := hb.block b h
def zs (n : Nat) : List Value := List.replicate n (.int .u8 0)
/-- what is written so far. -/
def pre (k : Nat) (ws : List Nat) (i : Nat) : List Nat := [66, 70, k, 0] ++ (ws.take i).flatMap (le 8)
theorem pre_len (k : Nat) (ws : List Nat) (i : Nat) (h : i ≤ ws.length) : (pre k ws i).length = 4 + 8 * i := by
  have : ∀ l : List Nat, (l.flatMap (le 8)).length = 8 * l.length := by
    intro l
    induction l with
    | nil => rfl
    | cons x l ih => simp [le_len, ih]; omega
  unfold pre
  rw [List.length_append, this]
  simp
  omega
theorem pre_step (k : Nat) (ws : List Nat) (i : Nat) (h : i < ws.length) (m : Nat) (hm : 8 ≤ m) :
    splice (bv (pre k ws i) ++ zs m) (4 + 8 * i) (bv (le 8 ws[i])) = bv (pre k ws (i + 1)) ++ zs (m - 8) := by
  have hl := pre_len k ws i (by omega)
  have := splice_at (bv (pre k ws i)) (zs m) (bv (le 8 ws[i])) (by simp [bv_len, le_len, zs]; omega)
  rw [bv_len, hl] at this
  rw [this]
  have e : pre k ws (i + 1) = pre k ws i ++ le 8 ws[i] := by
    unfold pre
    rw [List.take_succ_eq_append_getElem h, List.flatMap_append, List.append_assoc]
    congr 1
  rw [e, bv_append, List.append_assoc]
  congr 2
  simp [zs, bv_len, le_len]
theorem info32 : (Tryd.prog.info? 32).map (·.size) = some 64 := by kernel_rfl
theorem info5 : (Tryd.prog.info? 5).map (·.size) = some 1 := by kernel_rfl

theorem len_pz (k : Nat) (ws : List Nat) (i : Nat) (h : ws.length = 7) (hi : i ≤ 7) : (bv (pre k ws i) ++ zs (60 - 8 * i)).length = 64 := by
  rw [List.length_append, bv_len, pre_len k ws i (by omega)]
  simp [zs]
  omega
theorem body_pre (k : Nat) (ws : List Nat) (h : ws.length = 7) : pre k ws 7 = body k ws := by
  unfold pre body
  rw [List.take_of_length_le (by omega)]
theorem body_len (k : Nat) (ws : List Nat) (h : ws.length = 7) : (body k ws).length = 60 := by
  rw [← body_pre k ws h, pre_len k ws 7 (by omega)]
theorem frame_len (k : Nat) (ws : List Nat) (h : ws.length = 7) : (frame k ws).length = 64 := by
  unfold frame; rw [List.length_append, body_len k ws h, le_len]
theorem body_oct (k : Nat) (ws : List Nat) (hk : k < 256) : Oct (body k ws) := by
  intro x hx
  unfold body at hx
  rw [List.mem_append, List.mem_flatMap] at hx
  rcases hx with hx | ⟨y, _, hx⟩
  · simp at hx; omega
  · exact le_oct _ _ x hx
theorem frame_oct (k : Nat) (ws : List Nat) (hk : k < 256) : Oct (frame k ws) := by
  intro x hx
  unfold frame at hx
  rw [List.mem_append] at hx
  rcases hx with hx | hx
  · exact body_oct k ws hk x hx
  · exact le_oct _ _ x hx
/-- bytes that stand at the beginning of a block. -/
theorem bs_row (w : World) (b : Nat) (t : TypeId) (xs : List Nat) (R : List Value) (h : w.heap[b]? = some (.cells (bv xs ++ R).toArray t (0, 0))) : Bs w b 0 xs := by
  intro i hi
  rw [cell_of_row w b _ _ t _ h, List.getElem?_toArray, Nat.zero_add, List.getElem?_append_left (by rw [bv_len]; exact hi)]
  simp [bv, hi]
/-- a word of seven, by its place. -/
theorem index7 (a : Array Value) (i : Nat) (v : Value) (w : World) (hi : i < 7) (hv : a[i]? = some v) : (Instr.index 29 (.agg a) (.int .i64 (i : Int))).run Tryd.prog w = .ok v w := by
  have u29 := Tryd.underlying29
  have a28 := Tryd.isAgg28
  have z28 := Tryd.sizeOf28
  simp [Instr.index, asIntOf, run_underlying u29, part, a28, z28, hv, hi, Sem.run_bind, Result.andThen]
theorem new_cells (wa : World) (xs : List Nat) (t : TypeId) (j : Nat) (v : Value) (h : (bv xs)[j]? = some v) : (wa.alloc (.cells (bv xs).toArray t)).cell? ((⟨wa.heap.size, 0, none⟩ : Addr).add j) = some v := by
  rw [Addr.add_mid, World.cell?_alloc_at _ _ _ _ rfl, Nat.zero_add]
  simpa using h
set_option maxHeartbeats 1000000 in
set_option maxRecDepth 100000 in
theorem pack_any (k w0 w1 w2 w3 w4 w5 w6 : Nat) (w : World) (hL : Laid w) (hk : k < 256)
    (l0 : w0 < 18446744073709551616) (l1 : w1 < 18446744073709551616) (l2 : w2 < 18446744073709551616) (l3 : w3 < 18446744073709551616) (l4 : w4 < 18446744073709551616) (l5 : w5 < 18446744073709551616) (l6 : w6 < 18446744073709551616) :
    Calls Tryd.prog 13 #[fv k w0 w1 w2 w3 w4 w5 w6] w fun e w' => e = .returned (.agg (bv (frame k [w0, w1, w2, w3, w4, w5, w6])).toArray) ∧ Below w.heap.size w w' := by
  have HL := hid hL
  clear hL
  unfold fv
  go_enter Tryd.func13, Tryd.ntmps13
  go_wp2_with fail
  refine (headOf_any _ _).mono ?_
  rintro e wa ⟨rfl, hb⟩
  obtain ⟨O0, hO0⟩ : ∃ O, Obj.cells #[.int .u8 (k : Nat), .int .u64 (w0 : Nat), .int .u64 (w1 : Nat), .int .u64 (w2 : Nat), .int .u64 (w3 : Nat), .int .u64 (w4 : Nat), .int .u64 (w5 : Nat), .int .u64 (w6 : Nat)] 31 = O := ⟨_, rfl⟩
  obtain ⟨O1, hO1⟩ : ∃ O, Obj.cells (zs 64).toArray 32 = O := ⟨_, rfl⟩
  have hb' : Below (w.heap.size + 3) (((w.alloc O0).alloc O1).alloc O1) wa := by
    rw [← hO0, ← hO1]
    have := hb.mono (show w.heap.size + 3 ≤ _ by simp)
    exact this
  have K0 : wa.heap[w.heap.size]? = some O0 := by
    rw [blk_to hb' (by omega), heap_alloc_old _ _ (by simp; omega), heap_alloc_old _ _ (by simp), heap_alloc_new]
  have K1 : wa.heap[w.heap.size + 1]? = some O1 := by
    rw [blk_to hb' (by omega), heap_alloc_old _ _ (by simp)]
    exact heap_alloc2_new w O0 O1
  have K2 : wa.heap[w.heap.size + 2]? = some O1 := by
    rw [blk_to hb' (by omega)]
    have := heap_alloc2_new (w.alloc O0) O1 O1
    simpa using this
  have KB : Below w.heap.size w wa := by
    have h1 : Below w.heap.size w (((w.alloc O0).alloc O1).alloc O1) := (((Below.refl w.heap.size w).alloc (Nat.le_refl _) _).alloc (by simp) _).alloc (by simp; omega) _
    exact h1.trans (hb'.mono (by omega))
  have hz : w.heap.size + 3 ≤ wa.heap.size := by have := hb'.size; simp at this; omega
  clear hb hb'
  have HK0 := hid K0
  have HK1 := hid K1
  have HK2 := hid K2
  have HKB := hid KB
  have HO0 := hid hO0
  have HO1 := hid hO1
  clear K0 K1 K2 KB hO0 hO1
  go_wp2
  go_region_law (refine step_copy_splice (by rfl) (.tmp 10) (.tmp 11) 22 22 (by rfl) 5 Tryd.underlying22 info5 (some ⟨w.heap.size + 2, 0, none⟩) (some ⟨wa.heap.size, 0, none⟩) 64 64 4 4 (by rfl) (by rfl) (w.heap.size + 2) 0 (zs 64) 32 (by first | (rw [heap_alloc_old _ _ (by omega), HK2.out, HO1.out]) | (show (wa.alloc _).heap[w.heap.size + 2]? = _; rw [heap_alloc_old _ _ (by omega), HK2.out, HO1.out])) (bv [66, 70, k, 0]) (by rfl) (fun _ => ⟨rfl, _, rfl, fun j v hj => new_cells wa [66, 70, k, 0] 65 j v hj⟩) (by simp [bv_len, zs]) (bv_one _) (w.heap.size + 2) wa (by exact ((Below.refl _ wa).alloc (by omega) _).drew) (by omega) ?_; intro wb hgb hbb)
  all_goals
    have hg2 : wb.heap[w.heap.size + 2]? = some (.cells (bv (pre k [w0, w1, w2, w3, w4, w5, w6] 0) ++ zs 60).toArray 32 (0, 0)) := hgb
    have hg1 : wb.heap[w.heap.size + 1]? = some (.cells (zs 64).toArray 32 (0, 0)) := by rw [blk_to hbb (by omega), HK1.out, ← HO1.out]
    have hg0 : wb.heap[w.heap.size]? = some (.cells #[.int .u8 (k : Nat), .int .u64 (w0 : Nat), .int .u64 (w1 : Nat), .int .u64 (w2 : Nat), .int .u64 (w3 : Nat), .int .u64 (w4 : Nat), .int .u64 (w5 : Nat), .int .u64 (w6 : Nat)] 31 (0, 0)) := by rw [blk_to hbb (by omega), HK0.out, ← HO0.out]
    have hkb : Below w.heap.size w wb := HKB.out.trans (hbb.mono (by omega))
    have hsz : w.heap.size + 3 ≤ wb.heap.size := by have := hbb.size; omega
    have HLb := hid (laid_to HL.out hkb)
    have HG2 := hid hg2
    have HG1 := hid hg1
    have HKb := hid hkb
    have q1 : wb.cell? ⟨w.heap.size, 1, none⟩ = some (.int .u64 (w0 : Nat)) := by rw [cell_of_row wb _ 1 _ _ _ hg0]; rfl
    have q2 : wb.cell? ⟨w.heap.size, 2, none⟩ = some (.int .u64 (w1 : Nat)) := by rw [cell_of_row wb _ 2 _ _ _ hg0]; rfl
    have q3 : wb.cell? ⟨w.heap.size, 3, none⟩ = some (.int .u64 (w2 : Nat)) := by rw [cell_of_row wb _ 3 _ _ _ hg0]; rfl
    have q4 : wb.cell? ⟨w.heap.size, 4, none⟩ = some (.int .u64 (w3 : Nat)) := by rw [cell_of_row wb _ 4 _ _ _ hg0]; rfl
    have q5 : wb.cell? ⟨w.heap.size, 5, none⟩ = some (.int .u64 (w4 : Nat)) := by rw [cell_of_row wb _ 5 _ _ _ hg0]; rfl
    have q6 : wb.cell? ⟨w.heap.size, 6, none⟩ = some (.int .u64 (w5 : Nat)) := by rw [cell_of_row wb _ 6 _ _ _ hg0]; rfl
    have q7 : wb.cell? ⟨w.heap.size, 7, none⟩ = some (.int .u64 (w6 : Nat)) := by rw [cell_of_row wb _ 7 _ _ _ hg0]; rfl
    clear hg0 hg1 hg2 hkb hgb hbb HK0 HK1 HK2 HKB HO0 HO1 HL hz
    go_wp2
    go_loopw [5, 6, 15] (fun _ _ iv wr => ∃ i : Nat, i ≤ 7 ∧ iv = .int .i64 i ∧ wr = wb.setRow (w.heap.size + 2) (bv (pre k [w0, w1, w2, w3, w4, w5, w6] i) ++ zs (60 - 8 * i)).toArray) (fun _ _ iv _ => 7 - (intOf iv).toNat)
    case atStart => exact ⟨0, by omega, rfl, (setRow_self wb _ _ 32 (0, 0) HG2.out).symm⟩
    case round =>
      obtain ⟨i, hi, rfl, hwr⟩ := hrel
      have hrow : wr.heap[w.heap.size + 2]? = some (.cells (bv (pre k [w0, w1, w2, w3, w4, w5, w6] i) ++ zs (60 - 8 * i)).toArray 32 (0, 0)) := by rw [hwr]; exact setRow_heap wb _ _ _ 32 _ HG2.out
      have HROW := hid hrow
      have HWR := hid hwr
      clear hrow hwr
      by_cases h7 : i = 7
      · subst h7
        have HL9 := hid (show Laid wr by
          rw [HWR.out]
          intro j hj
          have h0 := HLb.out j hj
          rw [cell_setRow_other _ _ _ _ (by show 0 ≠ w.heap.size + 2; omega)]
          exact h0)
        have HB9 := hid (bs_row wr _ 32 (body k [w0, w1, w2, w3, w4, w5, w6]) (zs 4) (by rw [← body_pre k _ rfl]; exact HROW.out))
        have hlen := body_len k [w0, w1, w2, w3, w4, w5, w6] rfl
        obtain ⟨S, hS⟩ : ∃ S, crc (body k [w0, w1, w2, w3, w4, w5, w6]) = S := ⟨_, rfl⟩
        have lS : S < 4294967296 := by rw [← hS]; exact crc_lt _
        have C1 := hid (show ∀ cap : Nat, Calls Tryd.prog 10 #[.slice (some ⟨w.heap.size + 1 + 1, 0, none⟩) 60 cap] wr.drew fun e w' => e = .returned (.int .u32 (S : Nat)) ∧ w' = wr.drew from by
          intro cap
          have := wsum_some (body k [w0, w1, w2, w3, w4, w5, w6]) (w.heap.size + 2) 0 cap wr.drew (by rw [hlen]; decide) (body_oct _ _ hk) HB9.out HL9.out
          rw [hlen, hS] at this
          exact this)
        have C2 := hid (show ∀ cap : Nat, Calls Tryd.prog 25 #[.slice (some ⟨w.heap.size + 1 + 1, 60, none⟩) 4 cap, .int .u64 (S : Nat)] wr.drew fun e w' => e = .returned (.tuple #[]) ∧ w' = wr.drew.setRow (w.heap.size + 2) (bv (frame k [w0, w1, w2, w3, w4, w5, w6])).toArray from by
          intro cap
          refine (putLowest_any _ 32 (w.heap.size + 2) 60 4 cap S wr.drew HROW.out (by rw [len_pz _ _ _ rfl (by decide)]; decide) (by decide) (by omega)).mono ?_
          rintro e w' ⟨rfl, rfl⟩
          refine ⟨rfl, ?_⟩
          congr 2
          rw [body_pre k _ rfl]
          have := splice_at (bv (body k [w0, w1, w2, w3, w4, w5, w6])) (zs 4) (bv (le 4 S)) (by simp [bv_len, le_len, zs])
          rw [bv_len, hlen] at this
          rw [this]
          unfold frame
          rw [hS, bv_append]
          simp [bv_len, le_len, zs])
        have eS := hid (show IntKind.u64.wrap (S : Int) = (S : Int) by rw [IntKind.wrap_u64]; omega)
        clear HL9 HB9 hlen
        go_wp2
        go_region_held3 (fun w' => w'.Alike wr ∨ True) (exact Or.inr trivial)
          (first | (go_at_call 10; refine (C1.out _).mono ?_; rintro e wc ⟨rfl, rfl⟩) | (go_at_call 25; rw [eS.out]; refine (C2.out _).mono ?_; rintro e wc ⟨rfl, rfl⟩))
        have HR1 := hid (show (wr.drew.setRow (w.heap.size + 2) (bv (frame k [w0, w1, w2, w3, w4, w5, w6])).toArray).heap[w.heap.size + 1]? = some (.cells (zs 64).toArray 32 (0, 0)) by
          rw [setRow_other _ _ _ _ (by omega), heap_drew, HWR.out, setRow_other _ _ _ _ (by omega)]
          exact HG1.out)
        have HR2 := hid (show (wr.drew.setRow (w.heap.size + 2) (bv (frame k [w0, w1, w2, w3, w4, w5, w6])).toArray).heap[w.heap.size + 2]? = some (.cells (bv (frame k [w0, w1, w2, w3, w4, w5, w6])).toArray 32 (0, 0)) from
          setRow_heap _ _ _ _ 32 (0, 0) (by rw [heap_drew]; exact HROW.out))
        have HB9 := hid (show Below w.heap.size w (wr.drew.setRow (w.heap.size + 2) (bv (frame k [w0, w1, w2, w3, w4, w5, w6])).toArray) from
          below_setRow (Below.drew (by rw [HWR.out]; exact below_setRow HKb.out (by omega) _)) (by omega) _)
        obtain ⟨W9, hW9⟩ : ∃ W, wr.drew.setRow (w.heap.size + 2) (bv (frame k [w0, w1, w2, w3, w4, w5, w6])).toArray = W := ⟨_, rfl⟩
        rw [hW9] at HR1 HR2 HB9 ⊢
        obtain ⟨F, hF⟩ : ∃ F, (bv (frame k [w0, w1, w2, w3, w4, w5, w6])).toArray = F := ⟨_, rfl⟩
        have F64 : F.size = 64 := by rw [← hF]; simp [bv_len, frame_len]
        have F1 : F.all (·.oneCell') = true := by rw [← hF]; exact all_oneCell_toArray (bv_one _)
        rw [hF] at HR2
        have HF := hid hF
        clear hW9 hF HROW HWR C1 C2 eS HG1 HG2 HLb HKb
        have i64 : (Tryd.prog.info? 32).map (·.size) = some F.size := by rw [F64]; exact info32
        go_wp2_with (first | (refine wpList_load_row (by rfl) 32 (.tmp 3) (by rfl) (w.heap.size + 2) (by rfl) 32 F (0, 0) _ HR2.out Tryd.underlying32 rfl i64 ?_) | (refine wpList_store_row (by rfl) 32 (.tmp 2) (.tmp 32) (by rfl) (w.heap.size + 1) F (by rfl) (by rfl) 32 (zs 64).toArray HR1.out i64 (by rw [F64]; simp [zs]) F1 ?_))
        refine bodyPost_ret (v := .agg F) (results_cell_row (fn := Tryd.f13) Tryd.results13 _ _ (w.heap.size + 1) 32 F (0, 0) _ (by rfl) (setRow_heap _ _ _ _ 32 (0, 0) HR1.out) Tryd.underlying32 rfl i64) rfl ⟨by rw [HF.out], below_setRow HB9.out (by omega) _⟩
      · have : i = 0 ∨ i = 1 ∨ i = 2 ∨ i = 3 ∨ i = 4 ∨ i = 5 ∨ i = 6 := by omega
        clear h7 hi
        rcases this with rfl | rfl | rfl | rfl | rfl | rfl | rfl
        · have ix : (Instr.index 29 (.agg #[.int .u64 (w0 : Nat), .int .u64 (w1 : Nat), .int .u64 (w2 : Nat), .int .u64 (w3 : Nat), .int .u64 (w4 : Nat), .int .u64 (w5 : Nat), .int .u64 (w6 : Nat)]) (.int .i64 0)).run Tryd.prog wr = .ok (.int .u64 (w0 : Nat)) wr := index7 _ 0 _ wr (by decide) rfl
          go_wp2_with fail
          refine (putLowest_any _ 32 (w.heap.size + 2) 4 8 60 w0 wr HROW.out (by rw [len_pz _ _ _ rfl (by decide)]; decide) (by decide) l0).mono ?_
          rintro e wc ⟨rfl, rfl⟩
          go_wp2
          go_roundw
          case rel => exact ⟨1, by omega, by go_num, by rw [HWR.out, setRow_setRow]; exact congrArg (fun l => wb.setRow (w.heap.size + 2) (List.toArray l)) (pre_step k [w0, w1, w2, w3, w4, w5, w6] 0 (by simp) _ (by decide))⟩
          case measure => simp [intOf]
        · have ix : (Instr.index 29 (.agg #[.int .u64 (w0 : Nat), .int .u64 (w1 : Nat), .int .u64 (w2 : Nat), .int .u64 (w3 : Nat), .int .u64 (w4 : Nat), .int .u64 (w5 : Nat), .int .u64 (w6 : Nat)]) (.int .i64 1)).run Tryd.prog wr = .ok (.int .u64 (w1 : Nat)) wr := index7 _ 1 _ wr (by decide) rfl
          go_wp2_with fail
          refine (putLowest_any _ 32 (w.heap.size + 2) 12 8 52 w1 wr HROW.out (by rw [len_pz _ _ _ rfl (by decide)]; decide) (by decide) l1).mono ?_
          rintro e wc ⟨rfl, rfl⟩
          go_wp2
          go_roundw
          case rel => exact ⟨2, by omega, by go_num, by rw [HWR.out, setRow_setRow]; exact congrArg (fun l => wb.setRow (w.heap.size + 2) (List.toArray l)) (pre_step k [w0, w1, w2, w3, w4, w5, w6] 1 (by simp) _ (by decide))⟩
          case measure => simp [intOf]
        · have ix : (Instr.index 29 (.agg #[.int .u64 (w0 : Nat), .int .u64 (w1 : Nat), .int .u64 (w2 : Nat), .int .u64 (w3 : Nat), .int .u64 (w4 : Nat), .int .u64 (w5 : Nat), .int .u64 (w6 : Nat)]) (.int .i64 2)).run Tryd.prog wr = .ok (.int .u64 (w2 : Nat)) wr := index7 _ 2 _ wr (by decide) rfl
          go_wp2_with fail
          refine (putLowest_any _ 32 (w.heap.size + 2) 20 8 44 w2 wr HROW.out (by rw [len_pz _ _ _ rfl (by decide)]; decide) (by decide) l2).mono ?_
          rintro e wc ⟨rfl, rfl⟩
          go_wp2
          go_roundw
          case rel => exact ⟨3, by omega, by go_num, by rw [HWR.out, setRow_setRow]; exact congrArg (fun l => wb.setRow (w.heap.size + 2) (List.toArray l)) (pre_step k [w0, w1, w2, w3, w4, w5, w6] 2 (by simp) _ (by decide))⟩
          case measure => simp [intOf]
        · have ix : (Instr.index 29 (.agg #[.int .u64 (w0 : Nat), .int .u64 (w1 : Nat), .int .u64 (w2 : Nat), .int .u64 (w3 : Nat), .int .u64 (w4 : Nat), .int .u64 (w5 : Nat), .int .u64 (w6 : Nat)]) (.int .i64 3)).run Tryd.prog wr = .ok (.int .u64 (w3 : Nat)) wr := index7 _ 3 _ wr (by decide) rfl
          go_wp2_with fail
          refine (putLowest_any _ 32 (w.heap.size + 2) 28 8 36 w3 wr HROW.out (by rw [len_pz _ _ _ rfl (by decide)]; decide) (by decide) l3).mono ?_
          rintro e wc ⟨rfl, rfl⟩
          go_wp2
          go_roundw
          case rel => exact ⟨4, by omega, by go_num, by rw [HWR.out, setRow_setRow]; exact congrArg (fun l => wb.setRow (w.heap.size + 2) (List.toArray l)) (pre_step k [w0, w1, w2, w3, w4, w5, w6] 3 (by simp) _ (by decide))⟩
          case measure => simp [intOf]
        · have ix : (Instr.index 29 (.agg #[.int .u64 (w0 : Nat), .int .u64 (w1 : Nat), .int .u64 (w2 : Nat), .int .u64 (w3 : Nat), .int .u64 (w4 : Nat), .int .u64 (w5 : Nat), .int .u64 (w6 : Nat)]) (.int .i64 4)).run Tryd.prog wr = .ok (.int .u64 (w4 : Nat)) wr := index7 _ 4 _ wr (by decide) rfl
          go_wp2_with fail
          refine (putLowest_any _ 32 (w.heap.size + 2) 36 8 28 w4 wr HROW.out (by rw [len_pz _ _ _ rfl (by decide)]; decide) (by decide) l4).mono ?_
          rintro e wc ⟨rfl, rfl⟩
          go_wp2
          go_roundw
          case rel => exact ⟨5, by omega, by go_num, by rw [HWR.out, setRow_setRow]; exact congrArg (fun l => wb.setRow (w.heap.size + 2) (List.toArray l)) (pre_step k [w0, w1, w2, w3, w4, w5, w6] 4 (by simp) _ (by decide))⟩
          case measure => simp [intOf]
        · have ix : (Instr.index 29 (.agg #[.int .u64 (w0 : Nat), .int .u64 (w1 : Nat), .int .u64 (w2 : Nat), .int .u64 (w3 : Nat), .int .u64 (w4 : Nat), .int .u64 (w5 : Nat), .int .u64 (w6 : Nat)]) (.int .i64 5)).run Tryd.prog wr = .ok (.int .u64 (w5 : Nat)) wr := index7 _ 5 _ wr (by decide) rfl
          go_wp2_with fail
          refine (putLowest_any _ 32 (w.heap.size + 2) 44 8 20 w5 wr HROW.out (by rw [len_pz _ _ _ rfl (by decide)]; decide) (by decide) l5).mono ?_
          rintro e wc ⟨rfl, rfl⟩
          go_wp2
          go_roundw
          case rel => exact ⟨6, by omega, by go_num, by rw [HWR.out, setRow_setRow]; exact congrArg (fun l => wb.setRow (w.heap.size + 2) (List.toArray l)) (pre_step k [w0, w1, w2, w3, w4, w5, w6] 5 (by simp) _ (by decide))⟩
          case measure => simp [intOf]
        · have ix : (Instr.index 29 (.agg #[.int .u64 (w0 : Nat), .int .u64 (w1 : Nat), .int .u64 (w2 : Nat), .int .u64 (w3 : Nat), .int .u64 (w4 : Nat), .int .u64 (w5 : Nat), .int .u64 (w6 : Nat)]) (.int .i64 6)).run Tryd.prog wr = .ok (.int .u64 (w6 : Nat)) wr := index7 _ 6 _ wr (by decide) rfl
          go_wp2_with fail
          refine (putLowest_any _ 32 (w.heap.size + 2) 52 8 12 w6 wr HROW.out (by rw [len_pz _ _ _ rfl (by decide)]; decide) (by decide) l6).mono ?_
          rintro e wc ⟨rfl, rfl⟩
          go_wp2
          go_roundw
          case rel => exact ⟨7, by omega, by go_num, by rw [HWR.out, setRow_setRow]; exact congrArg (fun l => wb.setRow (w.heap.size + 2) (List.toArray l)) (pre_step k [w0, w1, w2, w3, w4, w5, w6] 6 (by simp) _ (by decide))⟩
          case measure => simp [intOf]
end Go.Proofs.YtioohpdjmamhgaaDoor
