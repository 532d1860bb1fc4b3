/-
  Contract: bourseref02.Unpack.
-/
import Derived.Test.YtioohpdjmamhgaaDoorRefB
import Derived.Test.YtioohpdjmamhgaaDoorLives
import Derived.Test.YtioohpdjmamhgaaDoorSuA
namespace Go.Proofs.YtioohpdjmamhgaaDoor
open Go.RowKit Go.Deep Crc
set_option linter.unusedVariables false
set_option linter.unusedSimpArgs false

/-- words as values. -/
def wv (ws : List Nat) : List Value := ws.map fun x => .int .u64 ((x : Nat) : Int)
theorem wv_len (ws : List Nat) : (wv ws).length = ws.length := by simp [wv]
theorem wv_set (ws : List Nat) (j y : Nat) : (wv ws).set j (.int .u64 (y : Nat)) = wv (ws.set j y) := by
  unfold wv
  rw [List.map_set]
/-- what of a word is read so far. -/
def wpart (xs : List Nat) (i j : Nat) : Nat := num (((xs.drop (4 + 8 * j)).take 8).take (i - 8 * j))
theorem wpart_all (xs : List Nat) (j : Nat) (h : j < 7) : wpart xs 56 j = wordOf xs j := by
  unfold wpart wordOf
  rw [List.take_of_length_le (by simp; omega)]
theorem wpart_zero (xs : List Nat) (j : Nat) : wpart xs 0 j = 0 := by unfold wpart; simp [num]
theorem wpart_other (xs : List Nat) (i j j' r : Nat) (hi : i = 8 * j + r) (hr : r < 8) (hne : ¬ j' = j) : wpart xs (i + 1) j' = wpart xs i j' := by
  unfold wpart
  have tk : ∀ (L : List Nat) (m : Nat), 8 ≤ m → (L.take 8).take m = L.take 8 := fun L m hm => List.take_of_length_le (by simp; omega)
  by_cases h : j' < j
  · rw [tk _ _ (by omega), tk _ _ (by omega)]
  · rw [show i + 1 - 8 * j' = 0 by omega, show i - 8 * j' = 0 by omega]
theorem wpart_step (xs : List Nat) (i j r x : Nat) (hl : xs.length = 64) (hi : i = 8 * j + r) (hr : r < 8) (hj : j < 7) (hx : xs[4 + i]? = some x) : wpart xs (i + 1) j = wpart xs i j + 256 ^ r * x := by
  unfold wpart
  have e1 : i + 1 - 8 * j = r + 1 := by omega
  have e2 : i - 8 * j = r := by omega
  rw [e1, e2]
  have hlt : r < ((xs.drop (4 + 8 * j)).take 8).length := by simp; omega
  rw [List.take_succ_eq_append_getElem hlt, num_snoc]
  have e3 : (((xs.drop (4 + 8 * j)).take 8)[r]'hlt) = x := by
    have h4 : 4 + i < xs.length := by omega
    rw [List.getElem?_eq_getElem h4] at hx
    simp only [Option.some.injEq] at hx
    rw [← hx, List.getElem_take, List.getElem_drop]
    congr 1
    omega
  have hlen : (((xs.drop (4 + 8 * j)).take 8).take r).length = r := by simp; omega
  rw [e3, hlen]
theorem wpart_lt (xs : List Nat) (i j r : Nat) (ho : Oct xs) (hi : i = 8 * j + r) (hr : r < 8) : wpart xs i j < 256 ^ r := by
  unfold wpart
  have h := num_lt (((xs.drop (4 + 8 * j)).take 8).take (i - 8 * j)) (fun y hy => oct_part xs (4 + 8 * j) 8 ho y (List.mem_of_mem_take hy))
  have h2 : 256 ^ (((xs.drop (4 + 8 * j)).take 8).take (i - 8 * j)).length ≤ 256 ^ r := Nat.pow_le_pow_right (by decide) (by simp; omega)
  omega

theorem list7 (l m : List Nat) (h : l.length = 7) (hm : ∀ j, j < 7 → l[j]? = m[j]?) (h7 : m.length = 7 := by rfl) : l = m := by
  apply List.ext_getElem?
  intro j
  by_cases hj : j < 7
  · exact hm j hj
  · rw [List.getElem?_eq_none (by omega), List.getElem?_eq_none (by omega)]
theorem txt_ne (a b : List Nat) (ha : Oct a) (hb : Oct b) (h : ¬ a = b) : ((txt a).toList == (txt b).toList) = false := by
  rw [ByteArray.toList_eq, ByteArray.toList_eq]
  simp only [beq_eq_false_iff_ne, ne_eq]
  intro e
  apply h
  have e2 : a.map (fun x => UInt8.ofNat ((x : Nat) : Int).toNat) = b.map (fun x => UInt8.ofNat ((x : Nat) : Int).toNat) := by
    simpa [txt, strOfNums, Function.comp_def] using e
  have go : ∀ (a b : List Nat), Oct a → Oct b → a.map (fun x => UInt8.ofNat ((x : Nat) : Int).toNat) = b.map (fun x => UInt8.ofNat ((x : Nat) : Int).toNat) → a = b := by
    intro a
    induction a with
    | nil => intro b _ _ h; cases b with
      | nil => rfl
      | cons y b => simp at h
    | cons x a ih =>
      intro b ho hp h
      cases b with
      | nil => simp at h
      | cons y b =>
        simp only [List.map_cons, List.cons.injEq] at h
        have h1 := congrArg UInt8.toNat h.1
        have hx := ho x (by simp)
        have hy := hp y (by simp)
        simp at h1
        have e3 : x = y := by omega
        rw [e3, ih b (fun z hz => ho z (by simp [hz])) (fun z hz => hp z (by simp [hz])) h.2]
  exact go a b ha hb e2
/-- the words read so far, in memory. -/
def Rdg (w : World) (B : Nat) (k : Nat) (xs : List Nat) (i : Nat) (ws : List Nat) (wr : World) : Prop :=
  ws.length = 7 ∧ (∀ j, j < 7 → ws[j]? = some (wpart xs i j)) ∧ wr.heap[B]? = some (.cells (.int .u8 ((k : Nat) : Int) :: wv ws).toArray 31 (0, 0)) ∧ wr.heap[w.heap.size]? = some (.cells fz 31 (0, 0)) ∧ Below w.heap.size w wr
theorem Rdg.step {w wr : World} {B k i j r x y : Nat} {xs ws : List Nat} (h : Rdg w B k xs i ws wr) (hl : xs.length = 64) (hi : i = 8 * j + r) (hr : r < 8) (hj : j < 7) (hx : xs[4 + i]? = some x) (hy : wpart xs i j + 256 ^ r * x = y) (hB : w.heap.size < B) :
    Rdg w B k xs (i + 1) (ws.set j y) (wr.drew.setCell ⟨B, 1 + j, none⟩ (.int .u64 (y : Nat))) := by
  obtain ⟨h1, h2, h3, h4, h5⟩ := h
  refine ⟨by simpa using h1, ?_, ?_, ?_, ?_⟩
  · intro j' hj'
    by_cases e : j' = j
    · subst e
      rw [List.getElem?_set_self (by omega), wpart_step xs i j' r x hl hi hr hj hx, hy]
    · rw [List.getElem?_set_ne (fun h => e h.symm), h2 j' hj', wpart_other xs i j j' r hi hr e]
  · have h3' : wr.drew.heap[B]? = some (.cells (.int .u8 ((k : Nat) : Int) :: wv ws).toArray 31 (0, 0)) := h3
    rw [heap_setCell_same wr.drew B (1 + j) _ 31 _ h3', List.setIfInBounds_toArray, Nat.add_comm 1 j, List.set_cons_succ, wv_set]
  · rw [heap_setCell_other _ _ _ _ (by show w.heap.size ≠ B; omega)]
    exact h4
  · exact (Below.drew h5).setCell (by show w.heap.size ≤ B; omega) _

set_option maxHeartbeats 400000 in
theorem runpack_short (p : Option Addr) (n cap : Nat) (w : World) (h : n < 64) :
    Calls Tryd.prog 16 #[.slice p n cap] w fun e w' => e = .returned (.tuple #[.agg fz, .int .i64 20]) ∧ Below w.heap.size w w' := by
  have h' : (n : Int) < 64 := by omega
  have hz : (w.alloc (.cells fz 31)).heap[w.heap.size]? = some (.cells fz 31 (0, 0)) := heap_alloc_new _ _
  go_enter Tryd.func16, Tryd.ntmps16
  go_wp2_with (first | (refine wpList_store_row (by rfl) 31 (.tmp 2) (.tmp 11) (by rfl) w.heap.size fz (by rfl) (by rfl) 31 fz hz fz_info rfl fz_one ?_))
  exact bodyPost_ret (res_row Tryd.f16 2 3 Tryd.results16 _ _ w.heap.size fz _ (by rfl) (by rfl) (setRow_heap _ _ _ _ 31 (0, 0) hz) fz_info) rfl ⟨rfl, below_setRow ((Below.refl w.heap.size w).alloc (Nat.le_refl _) _) (Nat.le_refl _) _⟩
set_option maxHeartbeats 400000 in
theorem runpack_long (p : Option Addr) (n cap : Nat) (w : World) (h : 64 < n) (hn : n < 9223372036854775808) :
    Calls Tryd.prog 16 #[.slice p n cap] w fun e w' => e = .returned (.tuple #[.agg fz, .int .i64 2]) ∧ Below w.heap.size w w' := by
  have h' : (64 : Int) < (n : Int) := by omega
  have hz : (w.alloc (.cells fz 31)).heap[w.heap.size]? = some (.cells fz 31 (0, 0)) := heap_alloc_new _ _
  go_enter Tryd.func16, Tryd.ntmps16
  go_wp2_with (first | (refine wpList_store_row (by rfl) 31 (.tmp 2) (.tmp 16) (by rfl) w.heap.size fz (by rfl) (by rfl) 31 fz hz fz_info rfl fz_one ?_))
  exact bodyPost_ret (res_row Tryd.f16 2 3 Tryd.results16 _ _ w.heap.size fz _ (by rfl) (by rfl) (setRow_heap _ _ _ _ 31 (0, 0) hz) fz_info) rfl ⟨rfl, below_setRow ((Below.refl w.heap.size w).alloc (Nat.le_refl _) _) (Nat.le_refl _) _⟩

set_option maxHeartbeats 2000000 in
set_option maxRecDepth 100000 in
theorem runpack_whole (xs : List Nat) (b o cap : Nat) (w : World) (hl : xs.length = 64) (hx : Oct xs) (hB : Bs w b o xs) :
    Calls Tryd.prog 16 #[.slice (some ⟨b, o, none⟩) 64 cap] w fun e w' => UnpP xs e ∧ Below w.heap.size w w' := by
  have HX := hid hx
  have HB := hid (bs_to hB ((Below.refl w.heap.size w).alloc (Nat.le_refl _) (.cells fz 31)))
  have HB0 := hid (show Below w.heap.size w (w.alloc (.cells fz 31)) from (Below.refl w.heap.size w).alloc (Nat.le_refl _) _)
  have HZ := hid (show (w.alloc (.cells fz 31)).heap[w.heap.size]? = some (.cells fz 31 (0, 0)) from heap_alloc_new _ _)
  have HBO := hid hB
  clear hx hB
  obtain ⟨W1, hW1⟩ : ∃ W, w.alloc (.cells fz 31) = W := ⟨_, rfl⟩
  rw [hW1] at HB HB0 HZ
  have hWZ : w.alloc (.cells #[.int .u8 0, .int .u64 0, .int .u64 0, .int .u64 0, .int .u64 0, .int .u64 0, .int .u64 0, .int .u64 0] 31) = W1 := hW1
  clear hW1
  have getc : ∀ i, i < 64 → W1.cell? ⟨b, o + i, none⟩ = some (.int .u8 ((xs.getD i 0 : Nat) : Int)) := by
    intro i hi
    have h := HB.out i (by omega)
    rw [h]
    simp [List.getD, show i < xs.length by omega]
  obtain ⟨x0, hx0⟩ : ∃ x, xs.getD 0 0 = x := ⟨_, rfl⟩
  obtain ⟨x1, hx1⟩ : ∃ x, xs.getD 1 0 = x := ⟨_, rfl⟩
  obtain ⟨x2, hx2⟩ : ∃ x, xs.getD 2 0 = x := ⟨_, rfl⟩
  obtain ⟨x3, hx3⟩ : ∃ x, xs.getD 3 0 = x := ⟨_, rfl⟩
  have g0 := getc 0 (by decide)
  have g1 := getc 1 (by decide)
  have g2 := getc 2 (by decide)
  have g3 := getc 3 (by decide)
  rw [hx0, Nat.add_zero] at g0
  rw [hx1] at g1
  rw [hx2] at g2
  rw [hx3] at g3
  have GETC := hid getc
  have X0 := hid hx0
  have X1 := hid hx1
  have X2 := hid hx2
  have X3 := hid hx3
  clear getc hx0 hx1 hx2 hx3
  by_cases hh : headed xs
  · have e0 : ((x0 : Int) == 66) = true := by have := hh.1; rw [X0.out] at this; simp; omega
    have e1 : ((x1 : Int) == 70) = true := by have := hh.2.1; rw [X1.out] at this; simp; omega
    have e3 : ((x3 : Int) == 0) = true := by have := hh.2.2; rw [X3.out] at this; simp; omega
    have HH := hid hh
    clear hh
    have n0 : ((x0 : Int) != 66) = false := by simp only [bne, e0]; rfl
    have n1 : ((x1 : Int) != 70) = false := by simp only [bne, e1]; rfl
    have n3 : ((x3 : Int) != 0) = false := by simp only [bne, e3]; rfl
    clear e0 e1 e3
    go_enter Tryd.func16, Tryd.ntmps16
    go_wp2_with fail
    have hB1 : w.heap.size < W1.heap.size := (Array.getElem?_eq_some_iff.1 HZ.out).1
    have HST := hid (show Rdg w W1.heap.size x2 xs 0 [0, 0, 0, 0, 0, 0, 0] (W1.alloc (.cells (.int .u8 ((x2 : Nat) : Int) :: wv [0, 0, 0, 0, 0, 0, 0]).toArray 31)) from
      ⟨rfl, fun j hj => by
        rw [wpart_zero]
        have : j = 0 ∨ j = 1 ∨ j = 2 ∨ j = 3 ∨ j = 4 ∨ j = 5 ∨ j = 6 := by omega
        rcases this with rfl | rfl | rfl | rfl | rfl | rfl | rfl <;> rfl, heap_alloc_new _ _, by rw [heap_alloc_old _ _ hB1]; exact HZ.out, bal HB0.out _⟩)
    obtain ⟨B, hBB⟩ : ∃ B, W1.heap.size = B := ⟨_, rfl⟩
    rw [hBB] at HST hB1
    go_loopw [5] (fun iv wr => ∃ (i : Nat) (ws : List Nat), i ≤ 56 ∧ iv = .int .i64 i ∧ Hid (Rdg w B x2 xs i ws wr)) (fun iv _ => 56 - (intOf iv).toNat)
    case atStart => exact ⟨0, _, by omega, rfl, HST.out⟩
    case round =>
      obtain ⟨i, ws, hi, rfl, HR⟩ := hrel
      by_cases h56 : i < 56
      · obtain ⟨j, hj⟩ : ∃ j, i / 8 = j := ⟨_, rfl⟩
        obtain ⟨r, hr⟩ : ∃ r, i % 8 = r := ⟨_, rfl⟩
        have HIJ := hid (show i = 8 * j + r by omega)
        have r8 : r < 8 := by omega
        have j7 : j < 7 := by omega
        have h4 : 4 + i < xs.length := by omega
        obtain ⟨x, hx⟩ : ∃ x, xs[4 + i]? = some x := ⟨_, List.getElem?_eq_getElem h4⟩
        have x1 : x < 256 := HX.out x (List.mem_of_getElem? hx)
        obtain ⟨a, ha⟩ : ∃ a, wpart xs i j = a := ⟨_, rfl⟩
        obtain ⟨y, hy⟩ : ∃ y, a + 256 ^ r * x = y := ⟨_, rfl⟩
        have HA1 := hid (show a < 256 ^ r by rw [← ha]; exact wpart_lt xs i j r HX.out HIJ.out r8)
        have y1 : y < 18446744073709551616 := by
          have h1 : 256 ^ r * x ≤ 256 ^ r * 255 := Nat.mul_le_mul_left _ (by omega)
          have h2 : 256 ^ r ≤ 256 ^ 7 := Nat.pow_le_pow_right (by decide) (by omega)
          have h3 := HA1.out
          omega
        have HY := hid hy
        have HN := hid (HR.out.step (y := y) hl HIJ.out r8 j7 hx (by rw [ha]; exact hy) hB1)
        have hcw : wr.cell? ⟨B, 1 + j, none⟩ = some (.int .u64 (a : Nat)) := by
          have h2 := HR.out.2.1 j j7
          rw [cell_of_row wr _ _ _ _ _ HR.out.2.2.1, List.getElem?_toArray, Nat.add_comm 1 j, List.getElem?_cons_succ, ← ha]
          simp [wv, h2]
        have hfw : wr.frozen? ⟨B, 1 + j, none⟩ = false := frozen_of_row wr _ _ _ _ HR.out.2.2.1
        have hcb : wr.cell? ⟨b, o + (4 + i), none⟩ = some (.int .u8 (x : Nat)) := by
          have h2 := (bs_to HBO.out HR.out.2.2.2.2) (4 + i) h4
          rw [h2]
          rw [List.getElem?_eq_getElem h4] at hx
          simp only [Option.some.injEq] at hx
          rw [hx]
        have q1 : (i : Int) / 8 = (j : Int) := by omega
        have q2 : Int.tdiv (i : Int) 8 = (j : Int) := by rw [Int.tdiv_eq_ediv_of_nonneg (by omega)]; exact q1
        have b0 : (0 : Int) ≤ (j : Int) := by omega
        have b1 : (j : Int) < 7 := by omega
        have b2 : (0 : Int) ≤ 4 + (i : Int) := by omega
        have b3 : 4 + (i : Int) < 64 := by omega
        have b4 : (i : Int) < 56 := by omega
        clear hx ha hy HR h4 hj
        have : r = 0 ∨ r = 1 ∨ r = 2 ∨ r = 3 ∨ r = 4 ∨ r = 5 ∨ r = 6 ∨ r = 7 := by omega
        rcases this with rfl | rfl | rfl | rfl | rfl | rfl | rfl | rfl
        · have e7 : (a : Int) + (x : Int) = (y : Int) := by have := HY.out; simp at this; omega
          have a1 : a < 1 := by have := HA1.out; simpa using this
          have q3 : (i : Int) % 8 = 0 := by omega
          have q4 : Int.tmod (i : Int) 8 = 0 := by rw [Int.tmod_eq_emod_of_nonneg (by omega)]; exact q3
          clear HY HA1
          go_wp2
          go_region
          all_goals
            go_wp2
            go_roundw
            case rel => exact ⟨i + 1, ws.set j y, by omega, by go_num, HN.out⟩
            case measure => simp [intOf]; omega
        · have e7 : (a : Int) + ((x : Int) * 256) = (y : Int) := by have := HY.out; simp at this; omega
          have a1 : a < 256 := by have := HA1.out; simpa using this
          have q3 : (i : Int) % 8 = 1 := by omega
          have q4 : Int.tmod (i : Int) 8 = 1 := by rw [Int.tmod_eq_emod_of_nonneg (by omega)]; exact q3
          clear HY HA1
          go_wp2
          go_region
          all_goals
            go_wp2
            go_roundw
            case rel => exact ⟨i + 1, ws.set j y, by omega, by go_num, HN.out⟩
            case measure => simp [intOf]; omega
        · have e7 : (a : Int) + ((x : Int) * 65536) = (y : Int) := by have := HY.out; simp at this; omega
          have a1 : a < 65536 := by have := HA1.out; simpa using this
          have q3 : (i : Int) % 8 = 2 := by omega
          have q4 : Int.tmod (i : Int) 8 = 2 := by rw [Int.tmod_eq_emod_of_nonneg (by omega)]; exact q3
          clear HY HA1
          go_wp2
          go_region
          all_goals
            go_wp2
            go_roundw
            case rel => exact ⟨i + 1, ws.set j y, by omega, by go_num, HN.out⟩
            case measure => simp [intOf]; omega
        · have e7 : (a : Int) + ((x : Int) * 16777216) = (y : Int) := by have := HY.out; simp at this; omega
          have a1 : a < 16777216 := by have := HA1.out; simpa using this
          have q3 : (i : Int) % 8 = 3 := by omega
          have q4 : Int.tmod (i : Int) 8 = 3 := by rw [Int.tmod_eq_emod_of_nonneg (by omega)]; exact q3
          clear HY HA1
          go_wp2
          go_region
          all_goals
            go_wp2
            go_roundw
            case rel => exact ⟨i + 1, ws.set j y, by omega, by go_num, HN.out⟩
            case measure => simp [intOf]; omega
        · have e7 : (a : Int) + ((x : Int) * 4294967296) = (y : Int) := by have := HY.out; simp at this; omega
          have a1 : a < 4294967296 := by have := HA1.out; simpa using this
          have q3 : (i : Int) % 8 = 4 := by omega
          have q4 : Int.tmod (i : Int) 8 = 4 := by rw [Int.tmod_eq_emod_of_nonneg (by omega)]; exact q3
          clear HY HA1
          go_wp2
          go_region
          all_goals
            go_wp2
            go_roundw
            case rel => exact ⟨i + 1, ws.set j y, by omega, by go_num, HN.out⟩
            case measure => simp [intOf]; omega
        · have e7 : (a : Int) + ((x : Int) * 1099511627776) = (y : Int) := by have := HY.out; simp at this; omega
          have a1 : a < 1099511627776 := by have := HA1.out; simpa using this
          have q3 : (i : Int) % 8 = 5 := by omega
          have q4 : Int.tmod (i : Int) 8 = 5 := by rw [Int.tmod_eq_emod_of_nonneg (by omega)]; exact q3
          clear HY HA1
          go_wp2
          go_region
          all_goals
            go_wp2
            go_roundw
            case rel => exact ⟨i + 1, ws.set j y, by omega, by go_num, HN.out⟩
            case measure => simp [intOf]; omega
        · have e7 : (a : Int) + ((x : Int) * 281474976710656) = (y : Int) := by have := HY.out; simp at this; omega
          have a1 : a < 281474976710656 := by have := HA1.out; simpa using this
          have q3 : (i : Int) % 8 = 6 := by omega
          have q4 : Int.tmod (i : Int) 8 = 6 := by rw [Int.tmod_eq_emod_of_nonneg (by omega)]; exact q3
          clear HY HA1
          go_wp2
          go_region
          all_goals
            go_wp2
            go_roundw
            case rel => exact ⟨i + 1, ws.set j y, by omega, by go_num, HN.out⟩
            case measure => simp [intOf]; omega
        · have e7 : (a : Int) + ((x : Int) * 72057594037927936) = (y : Int) := by have := HY.out; simp at this; omega
          have a1 : a < 72057594037927936 := by have := HA1.out; simpa using this
          have q3 : (i : Int) % 8 = 7 := by omega
          have q4 : Int.tmod (i : Int) 8 = 7 := by rw [Int.tmod_eq_emod_of_nonneg (by omega)]; exact q3
          clear HY HA1
          go_wp2
          go_region
          all_goals
            go_wp2
            go_roundw
            case rel => exact ⟨i + 1, ws.set j y, by omega, by go_num, HN.out⟩
            case measure => simp [intOf]; omega
      · have hi56 : i = 56 := by omega
        subst hi56
        obtain ⟨r1, r2, r3, r4, r5⟩ := HR.out
        obtain ⟨a0, ha0⟩ : ∃ a, wordOf xs 0 = a := ⟨_, rfl⟩
        obtain ⟨a1, ha1⟩ : ∃ a, wordOf xs 1 = a := ⟨_, rfl⟩
        obtain ⟨a2, ha2⟩ : ∃ a, wordOf xs 2 = a := ⟨_, rfl⟩
        obtain ⟨a3, ha3⟩ : ∃ a, wordOf xs 3 = a := ⟨_, rfl⟩
        obtain ⟨a4, ha4⟩ : ∃ a, wordOf xs 4 = a := ⟨_, rfl⟩
        obtain ⟨a5, ha5⟩ : ∃ a, wordOf xs 5 = a := ⟨_, rfl⟩
        obtain ⟨a6, ha6⟩ : ∃ a, wordOf xs 6 = a := ⟨_, rfl⟩
        have hws : ws = [a0, a1, a2, a3, a4, a5, a6] := by
          refine list7 ws _ r1 (fun j hj => ?_)
          rw [r2 j hj, wpart_all xs j hj]
          have : j = 0 ∨ j = 1 ∨ j = 2 ∨ j = 3 ∨ j = 4 ∨ j = 5 ∨ j = 6 := by omega
          rcases this with rfl | rfl | rfl | rfl | rfl | rfl | rfl
          · rw [ha0]; rfl
          · rw [ha1]; rfl
          · rw [ha2]; rfl
          · rw [ha3]; rfl
          · rw [ha4]; rfl
          · rw [ha5]; rfl
          · rw [ha6]; rfl
        subst hws
        have HRW := hid (show wr.heap[B]? = some (.cells #[.int .u8 (x2 : Nat), .int .u64 (a0 : Nat), .int .u64 (a1 : Nat), .int .u64 (a2 : Nat), .int .u64 (a3 : Nat), .int .u64 (a4 : Nat), .int .u64 (a5 : Nat), .int .u64 (a6 : Nat)] 31 (0, 0)) from r3)
        have HZ5 := hid r4
        have HB5 := hid r5
        have HRV := hid (show readV xs = fv x2 a0 a1 a2 a3 a4 a5 a6 by unfold readV; rw [X2.out, ha0, ha1, ha2, ha3, ha4, ha5, ha6])
        have hx2 : x2 < 256 := by
          have h2 : 2 < xs.length := (by omega)
          have e2 : xs.getD 2 0 = xs[2] := (by simp [List.getD, h2])
          rw [← X2.out, e2]
          exact HX.out _ (List.getElem_mem h2)
        have CP := hid (show ∀ w : World, Calls Tryd.prog 14 #[.agg #[.int .u8 (x2 : Nat), .int .u64 (a0 : Nat), .int .u64 (a1 : Nat), .int .u64 (a2 : Nat), .int .u64 (a3 : Nat), .int .u64 (a4 : Nat), .int .u64 (a5 : Nat), .int .u64 (a6 : Nat)]] w fun e w' => e = .returned (.agg (bv (again xs)).toArray) ∧ Below w.heap.size w w' from fun w => by
          unfold again
          rw [X2.out, ha0, ha1, ha2, ha3, ha4, ha5, ha6]
          refine rpack_any x2 a0 a1 a2 a3 a4 a5 a6 w hx2 ?_
          intro z hz
          simp only [List.mem_cons, List.not_mem_nil, or_false] at hz
          rcases hz with rfl | rfl | rfl | rfl | rfl | rfl | rfl
          · rw [← ha0]; exact word_lt xs HX.out 0
          · rw [← ha1]; exact word_lt xs HX.out 1
          · rw [← ha2]; exact word_lt xs HX.out 2
          · rw [← ha3]; exact word_lt xs HX.out 3
          · rw [← ha4]; exact word_lt xs HX.out 4
          · rw [← ha5]; exact word_lt xs HX.out 5
          · rw [← ha6]; exact word_lt xs HX.out 6
          )
        have agl : (again xs).length = 64 := frame_len _ _ rfl
        clear r1 r2 r3 r4 r5 HR ha0 ha1 ha2 ha3 ha4 ha5 ha6 hx2
        have c0 : wr.cell? ⟨B, 0, none⟩ = some (.int .u8 (x2 : Nat)) := by rw [cell_of_row wr _ _ _ _ _ HRW.out]; rfl
        have c1 : wr.cell? ⟨B, 1, none⟩ = some (.int .u64 (a0 : Nat)) := by rw [cell_of_row wr _ _ _ _ _ HRW.out]; rfl
        have c2 : wr.cell? ⟨B, 2, none⟩ = some (.int .u64 (a1 : Nat)) := by rw [cell_of_row wr _ _ _ _ _ HRW.out]; rfl
        have c3 : wr.cell? ⟨B, 3, none⟩ = some (.int .u64 (a2 : Nat)) := by rw [cell_of_row wr _ _ _ _ _ HRW.out]; rfl
        have c4 : wr.cell? ⟨B, 4, none⟩ = some (.int .u64 (a3 : Nat)) := by rw [cell_of_row wr _ _ _ _ _ HRW.out]; rfl
        have c5 : wr.cell? ⟨B, 5, none⟩ = some (.int .u64 (a4 : Nat)) := by rw [cell_of_row wr _ _ _ _ _ HRW.out]; rfl
        have c6 : wr.cell? ⟨B, 6, none⟩ = some (.int .u64 (a5 : Nat)) := by rw [cell_of_row wr _ _ _ _ _ HRW.out]; rfl
        have c7 : wr.cell? ⟨B, 7, none⟩ = some (.int .u64 (a6 : Nat)) := by rw [cell_of_row wr _ _ _ _ _ HRW.out]; rfl
        go_wp2_with fail
        refine (CP.out _).mono ?_
        rintro e w5 ⟨rfl, hb⟩
        have HB6 := hid (btr HB5.out hb)
        have HZ6 := hid (show w5.heap[w.heap.size]? = some (.cells fz 31 (0, 0)) by rw [blk_to hb (Array.getElem?_eq_some_iff.1 HZ5.out).1]; exact HZ5.out)
        have HG6 := hid (show w5.heap[B]? = some (.cells #[.int .u8 (x2 : Nat), .int .u64 (a0 : Nat), .int .u64 (a1 : Nat), .int .u64 (a2 : Nat), .int .u64 (a3 : Nat), .int .u64 (a4 : Nat), .int .u64 (a5 : Nat), .int .u64 (a6 : Nat)] 31 (0, 0)) by rw [blk_to hb (Array.getElem?_eq_some_iff.1 HRW.out).1]; exact HRW.out)
        clear hb c0 c1 c2 c3 c4 c5 c6 c7 HRW HZ5 HB5 CP
        obtain ⟨F, hF⟩ : ∃ F, (bv (again xs)).toArray = F := ⟨_, rfl⟩
        have F64 : F.size = 64 := by rw [← hF]; simp [bv_len, agl]
        have i64 := hid (show (Tryd.prog.info? 32).map (·.size) = some F.size by rw [F64]; exact info32)
        have F1 := hid (show F.all (·.oneCell') = true by rw [← hF]; exact all_oneCell_toArray (bv_one _))
        have FZ := hid (show (zs 64).toArray.size = F.size by rw [F64]; simp [zs])
        have HF := hid hF
        rw [hF]
        clear hF F64
        go_wp2_with (refine wpList_store_row (by rfl) 32 (.tmp 6) (.tmp 64) (by rfl) w5.heap.size F (by rfl) (by rfl) 32 (zs 64).toArray (heap_alloc_new _ _) i64.out FZ.out F1.out ?_)
        have hl5 : w.heap.size < w5.heap.size := (Array.getElem?_eq_some_iff.1 HZ6.out).1
        have hlB : B < w5.heap.size := (Array.getElem?_eq_some_iff.1 HG6.out).1
        have HR7 := hid (show ((w5.alloc (.cells (zs 64).toArray 32)).setRow w5.heap.size F).heap[w5.heap.size]? = some (.cells F 32 (0, 0)) from setRow_heap _ _ _ _ 32 (0, 0) (heap_alloc_new _ _))
        have HB7 := hid (show Below w.heap.size w ((w5.alloc (.cells (zs 64).toArray 32)).setRow w5.heap.size F) from btr HB6.out (below_setRow ((Below.refl _ _).alloc (Nat.le_refl _) _) (Nat.le_refl _) _))
        have HZ7 := hid (show ((w5.alloc (.cells (zs 64).toArray 32)).setRow w5.heap.size F).heap[w.heap.size]? = some (.cells fz 31 (0, 0)) by rw [setRow_other _ _ _ _ (by omega), heap_alloc_old _ _ hl5]; exact HZ6.out)
        have HG7 := hid (show ((w5.alloc (.cells (zs 64).toArray 32)).setRow w5.heap.size F).heap[B]? = some (.cells #[.int .u8 (x2 : Nat), .int .u64 (a0 : Nat), .int .u64 (a1 : Nat), .int .u64 (a2 : Nat), .int .u64 (a3 : Nat), .int .u64 (a4 : Nat), .int .u64 (a5 : Nat), .int .u64 (a6 : Nat)] 31 (0, 0)) by rw [setRow_other _ _ _ _ (by omega), heap_alloc_old _ _ hlB]; exact HG6.out)
        have HW7 : ∃ W, (w5.alloc (.cells (zs 64).toArray 32)).setRow w5.heap.size F = W := ⟨_, rfl⟩
        obtain ⟨W7, hW7⟩ := HW7
        rw [hW7] at HR7 HB7 HZ7 HG7
        have cv1 : (convert 22 9 (.slice (some ⟨w5.heap.size, 0, none⟩) 64 64)).run Tryd.prog W7.drew = .ok (.string (txt (again xs))) W7.drew := conv_bytes W7.drew _ 0 64 (again xs) 64 agl (bs_arr W7.drew _ 32 _ (by rw [HF.out]; exact HR7.out))
        have cv2 : (convert 22 9 (.slice (some ⟨b, o, none⟩) 64 cap)).run Tryd.prog W7.drew = .ok (.string (txt xs)) W7.drew := conv_bytes W7.drew b o cap xs 64 hl (bs_to HBO.out (Below.drew HB7.out))
        change Code.wp _ _ _ _ ((w5.alloc (.cells (zs 64).toArray 32)).setRow w5.heap.size F)
        rw [hW7]
        clear hW7
        (try simp only [Act.put, List.setIfInBounds_toArray, List.set_cons_zero, List.set_cons_succ])
        by_cases hE : xs = again xs
        · have hs : ((txt (again xs)).toList == (txt xs).toList) = true := by rw [← hE]; simp
          have HE := hid hE
          clear hE
          go_region
          all_goals
            obtain ⟨G, hG⟩ : ∃ G : Array Value, #[.int .u8 (x2 : Nat), .int .u64 (a0 : Nat), .int .u64 (a1 : Nat), .int .u64 (a2 : Nat), .int .u64 (a3 : Nat), .int .u64 (a4 : Nat), .int .u64 (a5 : Nat), .int .u64 (a6 : Nat)] = G := ⟨_, rfl⟩
            have HGG := hid hG
            have G31 := hid (show (Tryd.prog.info? 31).map (·.size) = some G.size by rw [← hG]; exact info31)
            have G1 := hid (show G.all (·.oneCell') = true by rw [← hG]; exact all_oneCell_toArray (rowF_one x2 [a0, a1, a2, a3, a4, a5, a6] 7))
            have GZ := hid (show fz.size = G.size by rw [← hG]; rfl)
            have HG8 := hid (show W7.drew.heap[B]? = some (.cells G 31 (0, 0)) by rw [← hG]; exact HG7.out)
            have HZ8 := hid (show W7.drew.heap[w.heap.size]? = some (.cells fz 31 (0, 0)) from HZ7.out)
            clear hG
            go_wp2_with (first | (refine wpList_load_row (by rfl) 31 (.tmp 4) (by rfl) B (by rfl) 31 G (0, 0) _ HG8.out Tryd.underlying31 rfl G31.out ?_) | (refine wpList_store_row (by rfl) 31 (.tmp 2) (.tmp 71) (by rfl) w.heap.size G (by rfl) (by rfl) 31 fz HZ8.out G31.out GZ.out G1.out ?_))
            exact bodyPost_ret (res_row Tryd.f16 2 3 Tryd.results16 _ _ w.heap.size G _ (by rfl) (by rfl) (setRow_heap _ _ _ _ 31 (0, 0) HZ8.out) G31.out) rfl ⟨Or.inr (Or.inr ⟨HH.out, HE.out, by rw [HRV.out, ← HGG.out]; rfl⟩), below_setRow (Below.drew HB7.out) (Nat.le_refl _) _⟩
        · have hs : ((txt (again xs)).toList == (txt xs).toList) = false := txt_ne _ _ (frame_oct _ _ (by
            have h2 : 2 < xs.length := (by omega)
            have e2 : xs.getD 2 0 = xs[2] := (by simp [List.getD, h2])
            rw [e2]
            exact HX.out _ (List.getElem_mem h2))) HX.out (fun h => hE h.symm)
          have HE := hid hE
          clear hE
          have HZ8 := hid (show W7.drew.heap[w.heap.size]? = some (.cells fz 31 (0, 0)) from HZ7.out)
          go_region
          all_goals
            go_wp2_with (first | (refine wpList_store_row (by rfl) 31 (.tmp 2) (.tmp 70) (by rfl) w.heap.size fz (by rfl) (by rfl) 31 fz HZ8.out fz_info rfl fz_one ?_))
            exact bodyPost_ret (res_row Tryd.f16 2 3 Tryd.results16 _ _ w.heap.size fz _ (by rfl) (by rfl) (setRow_heap _ _ _ _ 31 (0, 0) HZ8.out) fz_info) rfl ⟨Or.inr (Or.inl ⟨HH.out, HE.out, rfl⟩), below_setRow (Below.drew HB7.out) (Nat.le_refl _) _⟩
  · have hb : ((x0 : Int) == 66) = false ∨ (((x0 : Int) == 66) = true ∧ ((x1 : Int) == 70) = false) ∨ (((x0 : Int) == 66) = true ∧ ((x1 : Int) == 70) = true ∧ ((x3 : Int) == 0) = false) := by
      unfold headed at hh
      rw [X0.out, X1.out, X3.out] at hh
      by_cases a0 : x0 = 66
      · have e0 : ((x0 : Int) == 66) = true := by simp; omega
        by_cases a1 : x1 = 70
        · have e1 : ((x1 : Int) == 70) = true := by simp; omega
          by_cases a3 : x3 = 0
          · exact absurd ⟨a0, a1, a3⟩ hh
          · exact Or.inr (Or.inr ⟨e0, e1, by simp; omega⟩)
        · exact Or.inr (Or.inl ⟨e0, by simp; omega⟩)
      · exact Or.inl (by simp; omega)
    have HH := hid hh
    clear hh
    have hb2 : ((x0 : Int) != 66) = true ∨ (((x0 : Int) != 66) = false ∧ ((x1 : Int) != 70) = true) ∨ (((x0 : Int) != 66) = false ∧ ((x1 : Int) != 70) = false ∧ ((x3 : Int) != 0) = true) := by
      rcases hb with e0 | ⟨e0, e1⟩ | ⟨e0, e1, e3⟩
      · exact Or.inl (by simp only [bne, e0]; rfl)
      · exact Or.inr (Or.inl ⟨by simp only [bne, e0]; rfl, by simp only [bne, e1]; rfl⟩)
      · exact Or.inr (Or.inr ⟨by simp only [bne, e0]; rfl, by simp only [bne, e1]; rfl, by simp only [bne, e3]; rfl⟩)
    clear hb
    rcases hb2 with n0 | ⟨n0, n1⟩ | ⟨n0, n1, n3⟩
    all_goals
      go_enter Tryd.func16, Tryd.ntmps16
      go_wp2_with (first | (refine wpList_store_row (by rfl) 31 (.tmp 2) (.tmp 34) (by rfl) w.heap.size fz (by rfl) (by rfl) 31 fz HZ.out fz_info rfl fz_one ?_))
      all_goals exact bodyPost_ret (res_row Tryd.f16 2 3 Tryd.results16 _ _ w.heap.size fz _ (by rfl) (by rfl) (setRow_heap _ _ _ _ 31 (0, 0) HZ.out) fz_info) rfl ⟨Or.inl ⟨HH.out, rfl⟩, below_setRow HB0.out (Nat.le_refl _) _⟩
end Go.Proofs.YtioohpdjmamhgaaDoor
