/-
  WireBurst: the walk.
-/
import Derived.Test.YtnkkkbpbolincaaDoorLives
import Derived.Test.YtnkkkbpbolincaaDoorBurM
namespace Go.Proofs.YtnkkkbpbolincaaDoor
open Go.RowKit Go.Deep Crc
set_option linter.unusedVariables false
set_option linter.unusedSimpArgs false

set_option maxHeartbeats 1000000 in
set_option maxRecDepth 100000 in
theorem burst_out (k w0 w1 w2 w3 w4 w5 w6 tn : Nat) (fr : Int) (w : World) (hL : Laid w)
    (hc : ((tn : Int) == 0) = true ∨ (((tn : Int) == 0) = false ∧ fr < 0) ∨ (((tn : Int) == 0) = false ∧ 0 ≤ fr ∧ 512 ≤ fr)) :
    Calls Tryd.prog 8 #[fv k w0 w1 w2 w3 w4 w5 w6, .int .i64 fr, .int .u32 (tn : Nat)] w fun e w' => e = .returned (.bool true) ∧ Below w.heap.size w w' := by
  have HL := hid hL
  clear hL
  unfold fv
  rcases hc with h1 | ⟨h1, h2⟩ | ⟨h1, h2, h3⟩
  all_goals
    go_enter Tryd.func8, Tryd.ntmps8
    go_wp2_with fail
    refine (lives_any _ (laid_to HL.out ((Below.refl _ _).alloc (Nat.le_refl _) _))).mono ?_
    rintro e wa ⟨rfl, hb⟩
    have HBa := hid (btr ((Below.refl w.heap.size w).alloc (Nat.le_refl _) _) hb)
    clear hb
    go_wp2_with fail
    refine (lives_any _ (laid_to HL.out HBa.out)).mono ?_
    rintro e wb ⟨rfl, hb⟩
    have HBb := hid (btr HBa.out hb)
    clear hb
    go_wp2
    go_ret
    exact ⟨rfl, HBb.out⟩

/-- what is turned so far. -/
def Turned (w : World) (B f : Nat) (l : List Nat) (T i : Nat) (xs : List Nat) (wr : World) : Prop :=
  T < 2 ^ i ∧ xs.length = 64 ∧ Oct xs ∧ num xs = num l ^^^ (T * 2 ^ f) ∧ wr.heap[B]? = some (.cells (bv xs).toArray 32 (0, 0)) ∧ Below w.heap.size w wr
theorem Turned.on {w wr : World} {B f T i : Nat} {l xs : List Nat} (h : Turned w B f l T i xs wr) : Turned w B f l T (i + 1) xs wr := by
  obtain ⟨h1, h2⟩ := h
  exact ⟨Nat.lt_of_lt_of_le h1 (Nat.pow_le_pow_right (by decide) (by omega)), h2⟩
theorem bv_set (xs : List Nat) (j y : Nat) : (bv xs).set j (.int .u8 (y : Nat)) = bv (xs.set j y) := by
  unfold bv
  rw [List.map_set]
theorem Turned.turn {w wr : World} {B f T i j r : Nat} {l xs : List Nat} (h : Turned w B f l T i xs wr) (hj : j < 64) (hr : r < 8) (e : 8 * j + r = f + i) (hB : w.heap.size ≤ B) (x y : Nat) (hx : xs[j]? = some x) (hy : x ^^^ 2 ^ r = y) :
    Turned w B f l (T ^^^ 2 ^ i) (i + 1) (xs.set j y) (wr.drew.setCell ⟨B, j, none⟩ (.int .u8 (y : Nat))) := by
  obtain ⟨h1, h2, h3, h4, h5, h6⟩ := h
  have hj' : j < xs.length := by omega
  have hxx : xs[j] = x := by rw [List.getElem?_eq_getElem hj'] at hx; simpa using hx
  have u := turn_up T i f h1
  have n := num_turn xs j r hr hj' h3
  rw [hxx, hy] at n
  refine ⟨u.2.1, by simpa using h2, ?_, ?_, ?_, ?_⟩
  · intro z hz
    rcases List.mem_or_eq_of_mem_set hz with hz | rfl
    · exact h3 z hz
    · rw [← hy]
      have a1 : x < 256 := by rw [← hxx]; exact h3 _ (List.getElem_mem hj')
      have a2 : 2 ^ r ≤ 2 ^ 7 := Nat.pow_le_pow_right (by decide) (by omega)
      exact Nat.xor_lt_two_pow (n := 8) a1 (by omega)
  · rw [n, h4, u.1, e, Nat.xor_assoc]
  · have h5' : wr.drew.heap[B]? = some (.cells (bv xs).toArray 32 (0, 0)) := h5
    rw [heap_setCell_same wr.drew B j _ 32 _ h5', List.setIfInBounds_toArray, bv_set]
  · exact (Below.drew h6).setCell hB _

set_option maxHeartbeats 2000000 in
set_option maxRecDepth 100000 in
theorem burst_in (k w0 w1 w2 w3 w4 w5 w6 tn f : Nat) (w : World) (hk : k < 256) (hw : ∀ x ∈ [w0, w1, w2, w3, w4, w5, w6], x < 18446744073709551616) (hL : Laid w) (htn : tn < 4294967296) (hf : f < 512) (hc : ((tn : Int) == 0) = false) :
    Calls Tryd.prog 8 #[fv k w0 w1 w2 w3 w4 w5 w6, .int .i64 (f : Nat), .int .u32 (tn : Nat)] w fun e w' => e = .returned (.bool true) ∧ Below w.heap.size w w' := by
  have HL := hid hL
  have HW := hid hw
  clear hL hw
  have hf0 : ¬ ((f : Int) < 0) := by omega
  have hf1 : ¬ (512 ≤ (f : Int)) := by omega
  have hf2 : (f : Int) < 512 := by omega
  unfold fv
  go_enter Tryd.func8, Tryd.ntmps8
  go_wp2_with fail
  refine (lives_any _ (laid_to HL.out ((Below.refl _ _).alloc (Nat.le_refl _) _))).mono ?_
  rintro e wa ⟨rfl, hb⟩
  have HBa := hid (btr ((Below.refl w.heap.size w).alloc (Nat.le_refl _) _) hb)
  have HGa := hid (show wa.heap[w.heap.size]? = some (.cells #[.int .u8 (k : Nat), .int .u64 (w0 : Nat), .int .u64 (w1 : Nat), .int .u64 (w2 : Nat), .int .u64 (w3 : Nat), .int .u64 (w4 : Nat), .int .u64 (w5 : Nat), .int .u64 (w6 : Nat)] 31 (0, 0)) by rw [blk_to hb (by simp)]; exact heap_alloc_new w _)
  clear hb
  have c0 : wa.cell? ⟨w.heap.size, 0, none⟩ = some (.int .u8 (k : Nat)) := by rw [cell_of_row wa _ _ _ _ _ HGa.out]; rfl
  have c1 : wa.cell? ⟨w.heap.size, 1, none⟩ = some (.int .u64 (w0 : Nat)) := by rw [cell_of_row wa _ _ _ _ _ HGa.out]; rfl
  have c2 : wa.cell? ⟨w.heap.size, 2, none⟩ = some (.int .u64 (w1 : Nat)) := by rw [cell_of_row wa _ _ _ _ _ HGa.out]; rfl
  have c3 : wa.cell? ⟨w.heap.size, 3, none⟩ = some (.int .u64 (w2 : Nat)) := by rw [cell_of_row wa _ _ _ _ _ HGa.out]; rfl
  have c4 : wa.cell? ⟨w.heap.size, 4, none⟩ = some (.int .u64 (w3 : Nat)) := by rw [cell_of_row wa _ _ _ _ _ HGa.out]; rfl
  have c5 : wa.cell? ⟨w.heap.size, 5, none⟩ = some (.int .u64 (w4 : Nat)) := by rw [cell_of_row wa _ _ _ _ _ HGa.out]; rfl
  have c6 : wa.cell? ⟨w.heap.size, 6, none⟩ = some (.int .u64 (w5 : Nat)) := by rw [cell_of_row wa _ _ _ _ _ HGa.out]; rfl
  have c7 : wa.cell? ⟨w.heap.size, 7, none⟩ = some (.int .u64 (w6 : Nat)) := by rw [cell_of_row wa _ _ _ _ _ HGa.out]; rfl
  have CP := hid (show ∀ w : World, Laid w → Calls Tryd.prog 13 #[.agg #[.int .u8 (k : Nat), .int .u64 (w0 : Nat), .int .u64 (w1 : Nat), .int .u64 (w2 : Nat), .int .u64 (w3 : Nat), .int .u64 (w4 : Nat), .int .u64 (w5 : Nat), .int .u64 (w6 : Nat)]] w fun e w' => e = .returned (.agg (bv (frame k [w0, w1, w2, w3, w4, w5, w6])).toArray) ∧ Below w.heap.size w w' from fun w hL =>
    pack_any k w0 w1 w2 w3 w4 w5 w6 w hL hk (HW.out _ (by simp)) (HW.out _ (by simp)) (HW.out _ (by simp)) (HW.out _ (by simp)) (HW.out _ (by simp)) (HW.out _ (by simp)) (HW.out _ (by simp)))
  go_wp2_with fail
  refine (CP.out _ (laid_to HL.out HBa.out)).mono ?_
  rintro e wb ⟨rfl, hb⟩
  have HBb := hid (btr HBa.out hb)
  have hlb : w.heap.size < wb.heap.size := Nat.lt_of_lt_of_le (Array.getElem?_eq_some_iff.1 HGa.out).1 hb.size
  clear hb c0 c1 c2 c3 c4 c5 c6 c7 CP HGa HBa
  obtain ⟨F, hF⟩ : ∃ F, (bv (frame k [w0, w1, w2, w3, w4, w5, w6])).toArray = F := ⟨_, rfl⟩
  have F64 : F.size = 64 := by rw [← hF]; simp [bv_len, frame_len]
  have i64 := hid (show (Tryd.prog.info? 32).map (·.size) = some F.size by rw [F64]; exact info32)
  have F1 := hid (show F.all (·.oneCell') = true by rw [← hF]; exact all_oneCell_toArray (bv_one _))
  have FZ := hid (show (zs 64).toArray.size = F.size by rw [F64]; simp [zs])
  have HF := hid hF
  rw [hF]
  clear hF F64
  go_wp2_with (refine wpList_store_row (by rfl) 32 (.tmp 7) (.tmp 29) (by rfl) wb.heap.size F (by rfl) (by rfl) 32 (zs 64).toArray (heap_alloc_new _ _) i64.out FZ.out F1.out ?_)
  have HR1 := hid (show ((wb.alloc (.cells (zs 64).toArray 32)).setRow wb.heap.size F).heap[wb.heap.size]? = some (.cells (bv (frame k [w0, w1, w2, w3, w4, w5, w6])).toArray 32 (0, 0)) by
    rw [HF.out]; exact setRow_heap _ _ _ _ 32 (0, 0) (heap_alloc_new _ _))
  have HB1 := hid (show Below w.heap.size w ((wb.alloc (.cells (zs 64).toArray 32)).setRow wb.heap.size F) from btr HBb.out (below_setRow ((Below.refl _ _).alloc (Nat.le_refl _) _) (Nat.le_refl _) _))
  obtain ⟨W1, hW1⟩ : ∃ W, (wb.alloc (.cells (zs 64).toArray 32)).setRow wb.heap.size F = W := ⟨_, rfl⟩
  rw [hW1] at HR1 HB1
  obtain ⟨B, hB⟩ : ∃ B, wb.heap.size = B := ⟨_, rfl⟩
  rw [hB] at HR1 hlb
  have hwB : w.heap.size ≤ B := by omega
  go_loopw [8, 9, 10] (fun av iv _ wr => ∃ (i T : Nat) (xs : List Nat), i ≤ 32 ∧ iv = .int .i64 i ∧ av = .bool (decide (0 < T)) ∧ Hid (Turned w B f (frame k [w0, w1, w2, w3, w4, w5, w6]) T i xs wr)) (fun _ iv _ _ => 32 - (intOf iv).toNat)
  case atStart =>
    refine ⟨0, 0, frame k [w0, w1, w2, w3, w4, w5, w6], by omega, rfl, rfl, ?_⟩
    have h : Turned w B f (frame k [w0, w1, w2, w3, w4, w5, w6]) 0 0 (frame k [w0, w1, w2, w3, w4, w5, w6]) W1 := ⟨by decide, frame_len k _ rfl, frame_oct k _ hk, by simp, HR1.out, HB1.out⟩
    rw [← hW1] at h
    exact h
  case round =>
    obtain ⟨i, T, xs, hi, rfl, rfl, HT⟩ := hrel
    by_cases h32 : i < 32
    · have i0 : (0 : Int) ≤ (i : Int) := by omega
      have i1 : (i : Int) < 32 := by omega
      have i2 : (i : Int) ≤ 32 := by omega
      obtain ⟨q, hq⟩ : ∃ q, tn / 2 ^ i = q := ⟨_, rfl⟩
      have eq1 : (tn : Int) / (2 : Int) ^ i = (q : Int) := by
        rw [← hq]
        simp
      clear hq
      by_cases od : q % 2 = 1
      · have e3 : (q : Int) % 2 = 1 := by omega
        have e2 : ((q : Int) % 2 == 1) = true := by rw [e3]; rfl
        by_cases hk5 : f + i < 512
        · have k1 : (f : Int) + (i : Int) < 512 := by omega
          obtain ⟨j, hj⟩ : ∃ j, (f + i) / 8 = j := ⟨_, rfl⟩
          obtain ⟨r, hr⟩ : ∃ r, (f + i) % 8 = r := ⟨_, rfl⟩
          have j1 : j < 64 := by omega
          have r1 : r < 8 := by omega
          have q1 : ((f : Int) + (i : Int)) / 8 = (j : Int) := by omega
          have q2 : Int.tdiv ((f : Int) + (i : Int)) 8 = (j : Int) := by rw [Int.tdiv_eq_ediv_of_nonneg (by omega)]; exact q1
          have q3 : ((f : Int) + (i : Int)) % 8 = (r : Int) := by omega
          have q4 : Int.tmod ((f : Int) + (i : Int)) 8 = (r : Int) := by rw [Int.tmod_eq_emod_of_nonneg (by omega)]; exact q3
          have HE := hid (show 8 * j + r = f + i by omega)
          have r0' : (0 : Int) ≤ (r : Int) := by omega
          have r1' : (r : Int) ≤ 8 := by omega
          have r2' : (r : Int) < 8 := by omega
          have j0' : (0 : Int) ≤ (j : Int) := by omega
          have j1' : (j : Int) < 64 := by omega
          obtain ⟨p, hp⟩ : ∃ p, 2 ^ r = p := ⟨_, rfl⟩
          have p1 : p < 256 := by
            have : 2 ^ r ≤ 2 ^ 7 := Nat.pow_le_pow_right (by decide) (by omega)
            omega
          have e5 : IntKind.u8.wrap ((2 : Int) ^ r) = (p : Int) := by
            have a : ((2 : Int) ^ r) = (p : Int) := by rw [← hp]; simp
            rw [a]
            have b : IntKind.u8.wrap (p : Int) = (p : Int) % 256 := by simp [IntKind.wrap, IntKind.bits, IntKind.signed]
            rw [b]; omega
          have h64 := HT.out.2.1
          obtain ⟨x, hx⟩ : ∃ x, xs[j]? = some x := ⟨_, List.getElem?_eq_getElem (by omega)⟩
          have x1 : x < 256 := HT.out.2.2.1 x (List.mem_of_getElem? hx)
          obtain ⟨y, hy⟩ : ∃ y, x ^^^ p = y := ⟨_, rfl⟩
          have e6 : bits .xor .u8 (x : Int) (p : Int) = (y : Int) := by rw [u8_xor_nat x p x1 p1, hy]
          have hrow := HT.out.2.2.2.2.1
          have hcell : wr.cell? ⟨B, j, none⟩ = some (.int .u8 (x : Nat)) := by
            rw [cell_of_row wr B j _ 32 _ hrow, List.getElem?_toArray]
            simp [bv, hx]
          have hfz : wr.frozen? ⟨B, j, none⟩ = false := frozen_of_row wr B j _ 32 hrow
          have HT2 := hid (HT.out.turn j1 r1 HE.out hwB x y hx (by rw [hp]; exact hy))
          have HT3 := hid (turn_up T i f HT.out.1).2.2
          clear hrow hx hy hp hj hr od HT HE
          go_wp2
          go_region
          all_goals
            go_wp2
            go_roundw
            case rel => exact ⟨i + 1, T ^^^ 2 ^ i, xs.set j y, by omega, by go_num, by rw [decide_eq_true HT3.out], HT2.out⟩
            case measure => simp [intOf]; omega
        · have k1 : ¬ ((f : Int) + (i : Int) < 512) := by omega
          go_wp2
          go_roundw
          case rel => exact ⟨i + 1, T, xs, by omega, by go_num, rfl, HT.out.on⟩
          case measure => simp [intOf]; omega
      · have e3 : (q : Int) % 2 = 0 := by omega
        have e2 : ((q : Int) % 2 == 1) = false := by rw [e3]; rfl
        go_wp2
        go_roundw
        case rel => exact ⟨i + 1, T, xs, by omega, by go_num, rfl, HT.out.on⟩
        case measure => simp [intOf]; omega
    · have h32' : i = 32 := by omega
      subst h32'
      obtain ⟨t1, t2, t3, t4, t5, t6⟩ := HT.out
      have HBs := hid (bs_arr wr B 32 xs t5)
      have HB6 := hid t6
      have key : (T = 0 ∧ xs = frame k [w0, w1, w2, w3, w4, w5, w6]) ∨ (0 < T ∧ ¬ xs = again xs) := by
        by_cases hT : T = 0
        · left
          refine ⟨hT, num_inj xs _ t3 (frame_oct k _ hk) (by rw [t2, frame_len k _ rfl]) ?_⟩
          rw [t4, hT]; simp
        · right
          refine ⟨by omega, fun ha => hT ?_⟩
          have h2 : 2 < xs.length := by omega
          have e2 : xs.getD 2 0 = xs[2] := by simp [List.getD, h2]
          have hk2 : xs.getD 2 0 < 256 := by rw [e2]; exact t3 _ (List.getElem_mem h2)
          have hn := t4
          rw [ha] at hn
          exact no_burst k (xs.getD 2 0) [w0, w1, w2, w3, w4, w5, w6] [wordOf xs 0, wordOf xs 1, wordOf xs 2, wordOf xs 3, wordOf xs 4, wordOf xs 5, wordOf xs 6] hk hk2 rfl rfl T f (by simpa using t1) (by omega) hn
      have CU := hid (show Calls Tryd.prog 15 #[.slice (some ⟨B, 0, none⟩) 64 64] wr fun e w' => ((T = 0 ∧ e = .returned (.tuple #[.agg #[.int .u8 (k : Nat), .int .u64 (w0 : Nat), .int .u64 (w1 : Nat), .int .u64 (w2 : Nat), .int .u64 (w3 : Nat), .int .u64 (w4 : Nat), .int .u64 (w5 : Nat), .int .u64 (w6 : Nat)], .int .i64 0])) ∨ (0 < T ∧ ∃ E : Int, (E == 0) = false ∧ e = .returned (.tuple #[.agg #[.int .u8 0, .int .u64 0, .int .u64 0, .int .u64 0, .int .u64 0, .int .u64 0, .int .u64 0, .int .u64 0], .int .i64 E]))) ∧ Below wr.heap.size wr w' from by
        refine (unpack_whole xs B 0 64 wr t2 t3 HBs.out (laid_to HL.out HB6.out)).mono ?_
        rintro e w' ⟨hu, hb⟩
        refine ⟨?_, hb⟩
        rcases key with ⟨h0, hxs⟩ | ⟨h0, hna⟩
        · left
          have ha := frame_again k w0 w1 w2 w3 w4 w5 w6 HW.out
          rw [← hxs] at ha
          have hh : headed xs := by rw [hxs]; exact frame_headed k _
          rcases hu with ⟨h, _⟩ | ⟨_, h, _⟩ | ⟨_, _, h⟩
          · exact absurd hh h
          · exact absurd ha.1.symm h
          · rw [ha.2] at h
            exact ⟨h0, h⟩
        · right
          rcases hu with ⟨_, h⟩ | ⟨_, _, h⟩ | ⟨_, h, _⟩
          · exact ⟨h0, 22, rfl, h⟩
          · exact ⟨h0, 21, rfl, h⟩
          · exact absurd h hna)
      clear t1 t2 t3 t4 t5 t6 key HBs HT
      go_wp2_with fail
      rw [hB]
      refine CU.out.mono ?_
      clear CU
      rintro e w9 ⟨h, hb⟩
      have HB9 := hid (btr HB6.out hb)
      clear hb
      rcases h with ⟨h0, rfl⟩ | ⟨h0, E, hE, rfl⟩
      · subst h0
        have HBf := hid (bal HB9.out (.cells #[.int .u8 (k : Nat), .int .u64 (w0 : Nat), .int .u64 (w1 : Nat), .int .u64 (w2 : Nat), .int .u64 (w3 : Nat), .int .u64 (w4 : Nat), .int .u64 (w5 : Nat), .int .u64 (w6 : Nat)] 31))
        go_wp2
        go_ret
        exact ⟨rfl, HBf.out⟩
      · have hd : decide (0 < T) = true := decide_eq_true h0
        have HBf := hid (bal HB9.out (.cells #[.int .u8 0, .int .u64 0, .int .u64 0, .int .u64 0, .int .u64 0, .int .u64 0, .int .u64 0, .int .u64 0] 31))
        go_wp2
        go_ret
        exact ⟨by simp [hE, h0], HBf.out⟩
theorem burst_walk (k w0 w1 w2 w3 w4 w5 w6 tn : Nat) (fr : Int) (w : World) (hk : k < 256) (hw : ∀ x ∈ [w0, w1, w2, w3, w4, w5, w6], x < 18446744073709551616) (hL : Laid w) (htn : tn < 4294967296) :
    Calls Tryd.prog 8 #[fv k w0 w1 w2 w3 w4 w5 w6, .int .i64 fr, .int .u32 (tn : Nat)] w fun e w' => e = .returned (.bool true) ∧ Below w.heap.size w w' := by
  by_cases h0 : tn = 0
  · exact burst_out k w0 w1 w2 w3 w4 w5 w6 tn fr w hL (Or.inl (by simp [h0]))
  · have h0' : ((tn : Int) == 0) = false := by simp; omega
    by_cases h1 : fr < 0
    · exact burst_out k w0 w1 w2 w3 w4 w5 w6 tn fr w hL (Or.inr (Or.inl ⟨h0', h1⟩))
    · by_cases h2 : 512 ≤ fr
      · exact burst_out k w0 w1 w2 w3 w4 w5 w6 tn fr w hL (Or.inr (Or.inr ⟨h0', by omega, h2⟩))
      · obtain ⟨f, rfl⟩ : ∃ f : Nat, fr = (f : Int) := ⟨fr.toNat, by omega⟩
        exact burst_in k w0 w1 w2 w3 w4 w5 w6 tn f w hk hw hL htn (by omega) h0'
end Go.Proofs.YtnkkkbpbolincaaDoor
