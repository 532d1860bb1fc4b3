/-
  Contracts and plain facts, part 3.
-/
import Derived.Test.YtacdjioieclggaaDoorYb
namespace Go.Proofs.YtacdjioieclggaaDoor.Wi
open Go.RowKit Go.Deep Crc
set_option linter.unusedVariables false
/-- the number whose bytes, lowest first, these are. -/
def num : List Nat → Nat
  | [] => 0
  | x :: l => x + 256 * num l
theorem num_snoc (l : List Nat) (x : Nat) : num (l ++ [x]) = num l + 256 ^ l.length * x := by
  induction l with
  | nil => simp [num]
  | cons y l ih => simp [num, ih, Nat.pow_succ, Nat.mul_add]; rw [← Nat.mul_assoc, Nat.mul_comm 256 (256 ^ l.length)]; omega
theorem num_lt (l : List Nat) (h : Oct l) : num l < 256 ^ l.length := by
  induction l with
  | nil => simp [num]
  | cons y l ih =>
    have h1 := h y (by simp)
    have h2 := ih (fun x hx => h x (by simp [hx]))
    simp only [num, List.length_cons, Nat.pow_succ]
    omega
theorem num_le (k v : Nat) (h : v < 256 ^ k) : num (le k v) = v := by
  induction k generalizing v with
  | zero => simp at h; simp [le, num, h]
  | succ k ih =>
    rw [Nat.pow_succ] at h
    simp only [le, num]
    rw [ih (v / 256) (by omega)]
    omega
theorem or_add (n x k : Nat) (h : n < 2 ^ k) : n ||| (x * 2 ^ k) = n + x * 2 ^ k := by
  rw [Nat.or_comm, Nat.mul_comm, ← Nat.two_pow_add_eq_or_of_lt h]
  omega

set_option maxHeartbeats 1000000 in
set_option maxRecDepth 100000 in
theorem lowest_any (xs : List Nat) (b o cap : Nat) (w : World) (hl : xs.length = 8) (hx : Oct xs) (hB : Bs w b o xs) :
    Calls Tryd.prog 72 #[.slice (some ⟨b, o, none⟩) 8 cap] w fun e w' => e = .returned (.int .u64 (num xs : Nat)) ∧ w' = w := by
  have HB := hid hB
  have HX := hid hx
  clear hB hx
  go_enter Tryd.func72, Tryd.ntmps72
  go_wp2_with fail
  go_loopw [3, 4, 5, 8] (fun nv _ _ iv wr => ∃ (k n : Nat), k ≤ 8 ∧ iv = .int .i64 k ∧ nv = .int .u64 n ∧ n < 2 ^ (8 * k) ∧ Hid (num (xs.take k) = n) ∧ wr = w) (fun _ _ _ iv _ => 8 - (RowKit.intOf iv).toNat)
  case atStart => exact ⟨0, 0, Nat.zero_le _, rfl, rfl, by decide, rfl, rfl⟩
  case round =>
    obtain ⟨k, n, hk, rfl, rfl, hn, HR, rfl⟩ := hrel
    by_cases hlt : k < 8
    · obtain ⟨x, hx⟩ : ∃ x, xs[k] = x := ⟨_, rfl⟩
      have x1 : x < 256 := by rw [← hx]; exact HX.out _ (List.getElem_mem _)
      have hcell := HB.out k (by omega)
      rw [hx] at hcell
      obtain ⟨n2, hn2⟩ : ∃ m, n ||| (x * 2 ^ (8 * k)) = m := ⟨_, rfl⟩
      have HR2 := hid (show num (xs.take (k + 1)) = n2 by
        rw [List.take_succ_eq_append_getElem (by omega), num_snoc, HR.out, hx, ← hn2, or_add n x (8 * k) hn]
        simp
        rw [Nat.min_eq_left (by omega), Nat.pow_mul, Nat.mul_comm])
      have l2 : n2 < 2 ^ (8 * (k + 1)) := by
        rw [← hn2, or_add n x (8 * k) hn, Nat.mul_add, Nat.pow_add]
        have : x * 2 ^ (8 * k) ≤ 255 * 2 ^ (8 * k) := Nat.mul_le_mul_right _ (by omega)
        omega
      have sq : x * 2 ^ (8 * k) < 18446744073709551616 := by
        have h1 : x * 2 ^ (8 * k) < 256 * 2 ^ (8 * k) := Nat.mul_lt_mul_of_pos_right x1 (Nat.pow_pos (by decide))
        have h2 : 256 * 2 ^ (8 * k) ≤ 256 * 2 ^ 56 := Nat.mul_le_mul_left _ (Nat.pow_le_pow_right (by decide) (by omega))
        omega
      have sn : n < 18446744073709551616 := Nat.lt_of_lt_of_le hn ((Nat.pow_le_pow_right (i := 8 * k) (j := 64) (by decide) (by omega) : 2 ^ (8 * k) ≤ 2 ^ 64))
      have e2 := bits_or_u64_nat n (x * 2 ^ (8 * k)) sn sq
      rw [hn2] at e2
      have E2 := hid e2
      have HC := hid hcell
      have HL2 := hid l2
      have : k = 0 ∨ k = 1 ∨ k = 2 ∨ k = 3 ∨ k = 4 ∨ k = 5 ∨ k = 6 ∨ k = 7 := by omega
      clear hx hcell e2 l2 hn hn2 sq hk hlt HR
      rcases this with rfl | rfl | rfl | rfl | rfl | rfl | rfl | rfl
      · have e3 : bits .or .u64 (n : Int) (x : Int) = (n2 : Int) := by simpa using E2.out
        have hc : wr.cell? ⟨b, o, none⟩ = some (.int .u8 (x : Int)) := HC.out
        clear E2 HC
        go_wp2
        go_roundw
        case rel => exact ⟨1, n2, by omega, by go_num, rfl, HL2.out, HR2, trivial⟩
        case measure => simp [RowKit.intOf]
      · have e3 : bits .or .u64 (n : Int) ((x : Int) * 256) = (n2 : Int) := by simpa using E2.out
        have hc : wr.cell? ⟨b, o + 1, none⟩ = some (.int .u8 (x : Int)) := HC.out
        clear E2 HC
        go_wp2
        go_roundw
        case rel => exact ⟨2, n2, by omega, by go_num, rfl, HL2.out, HR2, trivial⟩
        case measure => simp [RowKit.intOf]
      · have e3 : bits .or .u64 (n : Int) ((x : Int) * 65536) = (n2 : Int) := by simpa using E2.out
        have hc : wr.cell? ⟨b, o + 2, none⟩ = some (.int .u8 (x : Int)) := HC.out
        clear E2 HC
        go_wp2
        go_roundw
        case rel => exact ⟨3, n2, by omega, by go_num, rfl, HL2.out, HR2, trivial⟩
        case measure => simp [RowKit.intOf]
      · have e3 : bits .or .u64 (n : Int) ((x : Int) * 16777216) = (n2 : Int) := by simpa using E2.out
        have hc : wr.cell? ⟨b, o + 3, none⟩ = some (.int .u8 (x : Int)) := HC.out
        clear E2 HC
        go_wp2
        go_roundw
        case rel => exact ⟨4, n2, by omega, by go_num, rfl, HL2.out, HR2, trivial⟩
        case measure => simp [RowKit.intOf]
      · have e3 : bits .or .u64 (n : Int) ((x : Int) * 4294967296) = (n2 : Int) := by simpa using E2.out
        have hc : wr.cell? ⟨b, o + 4, none⟩ = some (.int .u8 (x : Int)) := HC.out
        clear E2 HC
        go_wp2
        go_roundw
        case rel => exact ⟨5, n2, by omega, by go_num, rfl, HL2.out, HR2, trivial⟩
        case measure => simp [RowKit.intOf]
      · have e3 : bits .or .u64 (n : Int) ((x : Int) * 1099511627776) = (n2 : Int) := by simpa using E2.out
        have hc : wr.cell? ⟨b, o + 5, none⟩ = some (.int .u8 (x : Int)) := HC.out
        clear E2 HC
        go_wp2
        go_roundw
        case rel => exact ⟨6, n2, by omega, by go_num, rfl, HL2.out, HR2, trivial⟩
        case measure => simp [RowKit.intOf]
      · have e3 : bits .or .u64 (n : Int) ((x : Int) * 281474976710656) = (n2 : Int) := by simpa using E2.out
        have hc : wr.cell? ⟨b, o + 6, none⟩ = some (.int .u8 (x : Int)) := HC.out
        clear E2 HC
        go_wp2
        go_roundw
        case rel => exact ⟨7, n2, by omega, by go_num, rfl, HL2.out, HR2, trivial⟩
        case measure => simp [RowKit.intOf]
      · have e3 : bits .or .u64 (n : Int) ((x : Int) * 72057594037927936) = (n2 : Int) := by simpa using E2.out
        have hc : wr.cell? ⟨b, o + 7, none⟩ = some (.int .u8 (x : Int)) := HC.out
        clear E2 HC
        go_wp2
        go_roundw
        case rel => exact ⟨8, n2, by omega, by go_num, rfl, HL2.out, HR2, trivial⟩
        case measure => simp [RowKit.intOf]
    · have h8 : k = 8 := by omega
      subst h8
      obtain rfl : n = num xs := by have := HR.out; rw [List.take_of_length_le (by omega)] at this; exact this.symm
      clear hn
      go_wp2
      go_ret
      exact ⟨rfl, rfl⟩
/-- a word of a frame's bytes. -/
def wordOf (l : List Nat) (i : Nat) : Nat := num ((l.drop (4 + 8 * i)).take 8)
def rowF (k : Nat) (ws : List Nat) (i : Nat) : List Value := .int .u8 ((k : Nat) : Int) :: ((ws.take i ++ List.replicate (7 - i) 0).map fun x => .int .u64 ((x : Nat) : Int))
theorem bs_mid (w : World) (b : Nat) (t : TypeId) (xs : List Nat) (o n : Nat) (h : w.heap[b]? = some (.cells (bv xs).toArray t (0, 0))) (hl : o + n ≤ xs.length) : Bs w b o ((xs.drop o).take n) := by
  intro i hi
  simp at hi
  rw [cell_of_row w b _ _ t _ h, List.getElem?_toArray]
  simp [bv]
  rw [List.getElem?_eq_getElem (by omega)]
  simp
theorem oct_part (xs : List Nat) (o n : Nat) (h : Oct xs) : Oct ((xs.drop o).take n) := fun x hx => h x (List.mem_of_mem_drop (List.mem_of_mem_take hx))

theorem rowF_one (k : Nat) (ws : List Nat) (i : Nat) : ∀ v ∈ rowF k ws i, v.oneCell' = true := by
  intro v hv
  simp only [rowF, List.mem_cons, List.mem_map] at hv
  rcases hv with rfl | ⟨x, _, rfl⟩ <;> rfl
theorem info31 : (Tryd.prog.info? 40).map (·.size) = some 8 := by kernel_rfl
set_option maxHeartbeats 1000000 in
set_option maxRecDepth 100000 in
theorem read_any (l : List Nat) (F : Array Value) (w : World) (hl : l.length = 64) (hx : Oct l) (hF : (bv l).toArray = F) :
    Calls Tryd.prog 48 #[.agg F] w fun e w' => e = .returned (fv (l.getD 2 0) (wordOf l 0) (wordOf l 1) (wordOf l 2) (wordOf l 3) (wordOf l 4) (wordOf l 5) (wordOf l 6)) ∧ Below w.heap.size w w' := by
  have HX := hid hx
  have F64 := hid (show F.size = 64 by rw [← hF]; simp [bv_len, hl])
  obtain ⟨k, hk⟩ : ∃ k, l.getD 2 0 = k := ⟨_, rfl⟩
  rw [hk]
  have F2 : F[2]? = some (.int .u8 (k : Nat)) := by rw [← hF]; simp [bv, ← hk, hl]
  have HF := hid hF
  clear hx hF
  go_enter Tryd.func48, Tryd.ntmps48
  go_wp2_with fail
  obtain ⟨W, hW⟩ : ∃ W, (((w.alloc (.cells F 53)).alloc (.cells (rowF 0 [] 0).toArray 40)).alloc (.cells (rowF k [] 0).toArray 40)) = W := ⟨_, rfl⟩
  have g0 := hid (show W.heap[w.heap.size]? = some (.cells F 53 (0, 0)) by
    rw [← hW, heap_alloc_old _ _ (by simp; omega), heap_alloc_old _ _ (by simp), heap_alloc_new])
  have g1 := hid (show W.heap[w.heap.size + 1]? = some (.cells (rowF 0 [] 0).toArray 40 (0, 0)) by
    rw [← hW, heap_alloc_old _ _ (by simp)]
    exact heap_alloc2_new w _ _)
  have g2 := hid (show W.heap[w.heap.size + 2]? = some (.cells (rowF k [] 0).toArray 40 (0, 0)) by
    rw [← hW]
    have := heap_alloc2_new (w.alloc (.cells F 53)) (.cells (rowF 0 [] 0).toArray 40) (.cells (rowF k [] 0).toArray 40)
    simpa using this)
  have hb := hid (show Below w.heap.size w W by
    rw [← hW]
    exact (((Below.refl w.heap.size w).alloc (Nat.le_refl _) _).alloc (by simp) _).alloc (by simp; omega) _)
  have hWd := hid hW
  clear hW
  have h0 : w.heap.size + 2 < W.heap.size := by
    have := (Array.getElem?_eq_some_iff.1 g2.out).1
    omega
  go_loopw [4, 8] (fun _ iv wr => ∃ i : Nat, i ≤ 7 ∧ iv = .int .i64 i ∧ wr = W.setRow (w.heap.size + 2) (rowF k [wordOf l 0, wordOf l 1, wordOf l 2, wordOf l 3, wordOf l 4, wordOf l 5, wordOf l 6] i).toArray) (fun _ iv _ => 7 - (RowKit.intOf iv).toNat)
  case atStart =>
    refine ⟨0, by omega, rfl, ?_⟩
    have e := (setRow_self W _ _ 40 (0, 0) g2.out).symm
    refine Eq.trans ?_ e
    rw [← hWd.out]
    rfl
  case round =>
    obtain ⟨i, hi, rfl, hwr⟩ := hrel
    have HROW := hid (show wr.heap[w.heap.size + 2]? = some (.cells (rowF k [wordOf l 0, wordOf l 1, wordOf l 2, wordOf l 3, wordOf l 4, wordOf l 5, wordOf l 6] i).toArray 40 (0, 0)) by rw [hwr]; exact setRow_heap W _ _ _ 40 _ g2.out)
    have HA := hid (show wr.heap[w.heap.size]? = some (.cells F 53 (0, 0)) by rw [hwr, setRow_other _ _ _ _ (by omega)]; exact g0.out)
    have HZ := hid (show wr.heap[w.heap.size + 1]? = some (.cells (rowF 0 [] 0).toArray 40 (0, 0)) by rw [hwr, setRow_other _ _ _ _ (by omega)]; exact g1.out)
    have HWR := hid hwr
    have HBl := hid (show Below w.heap.size w wr by rw [hwr]; exact below_setRow hb.out (by omega) _)
    clear hwr F2
    by_cases h7 : i = 7
    · subst h7
      obtain ⟨G, hG⟩ : ∃ G, (rowF k [wordOf l 0, wordOf l 1, wordOf l 2, wordOf l 3, wordOf l 4, wordOf l 5, wordOf l 6] 7).toArray = G := ⟨_, rfl⟩
      have HG := hid hG
      rw [hG] at HROW
      have i31 : (Tryd.prog.info? 40).map (·.size) = some G.size := by rw [← hG]; exact info31
      have G1 : G.all (·.oneCell') = true := by rw [← hG]; exact all_oneCell_toArray (rowF_one _ _ _)
      have G8 : (rowF 0 [] 0).toArray.size = G.size := by rw [← hG]; rfl
      clear hG
      go_wp2_with (first | (refine wpList_load_row (by rfl) 40 (.tmp 3) (by rfl) (w.heap.size + 2) (by rfl) 40 G (0, 0) _ HROW.out Tryd.underlying40 rfl i31 ?_) | (refine wpList_store_row (by rfl) 40 (.tmp 2) (.tmp 21) (by rfl) (w.heap.size + 1) G (by rfl) (by rfl) 40 (rowF 0 [] 0).toArray HZ.out i31 G8 G1 ?_))
      refine bodyPost_ret (v := .agg G) (results_cell_row (fn := Tryd.f48) Tryd.results48 _ _ (w.heap.size + 1) 40 G (0, 0) _ (by rfl) (setRow_heap _ _ _ _ 40 (0, 0) HZ.out) Tryd.underlying40 rfl i31) rfl ⟨by rw [← HG.out]; rfl, below_setRow HBl.out (by omega) _⟩
    · have : i = 0 ∨ i = 1 ∨ i = 2 ∨ i = 3 ∨ i = 4 ∨ i = 5 ∨ i = 6 := by omega
      clear h7 hi
      rcases this with rfl | rfl | rfl | rfl | rfl | rfl | rfl
      · have cf : wr.cell? ⟨w.heap.size + 1 + 1, 1, none⟩ = some (.int .u64 0) := by rw [cell_of_row wr _ _ _ _ _ HROW.out]; rfl
        have ff : wr.frozen? ⟨w.heap.size + 1 + 1, 1, none⟩ = false := frozen_of_row wr _ _ _ _ HROW.out
        have HN := hid (show wr.setCell ⟨w.heap.size + 1 + 1, 1, none⟩ (.int .u64 (num ((l.drop 4).take 8) : Nat)) = W.setRow (w.heap.size + 2) (rowF k [wordOf l 0, wordOf l 1, wordOf l 2, wordOf l 3, wordOf l 4, wordOf l 5, wordOf l 6] 1).toArray by
          rw [setCell_eq_setRow wr _ _ _ _ _ _ HROW.out, HWR.out, setRow_setRow]
          rfl)
        go_wp2_with fail
        refine (lowest_any ((l.drop 4).take 8) w.heap.size 4 60 wr (by simp [hl]) (oct_part l _ _ HX.out) (bs_mid wr _ 53 l 4 8 (by rw [HF.out]; exact HA.out) (by omega))).mono ?_
        rintro e wc ⟨rfl, rfl⟩
        go_wp2
        go_roundw
        case rel => exact ⟨1, by omega, by go_num, HN.out⟩
        case measure => simp [RowKit.intOf]
      · have cf : wr.cell? ⟨w.heap.size + 1 + 1, 2, none⟩ = some (.int .u64 0) := by rw [cell_of_row wr _ _ _ _ _ HROW.out]; rfl
        have ff : wr.frozen? ⟨w.heap.size + 1 + 1, 2, none⟩ = false := frozen_of_row wr _ _ _ _ HROW.out
        have HN := hid (show wr.setCell ⟨w.heap.size + 1 + 1, 2, none⟩ (.int .u64 (num ((l.drop 12).take 8) : Nat)) = W.setRow (w.heap.size + 2) (rowF k [wordOf l 0, wordOf l 1, wordOf l 2, wordOf l 3, wordOf l 4, wordOf l 5, wordOf l 6] 2).toArray by
          rw [setCell_eq_setRow wr _ _ _ _ _ _ HROW.out, HWR.out, setRow_setRow]
          rfl)
        go_wp2_with fail
        refine (lowest_any ((l.drop 12).take 8) w.heap.size 12 52 wr (by simp [hl]) (oct_part l _ _ HX.out) (bs_mid wr _ 53 l 12 8 (by rw [HF.out]; exact HA.out) (by omega))).mono ?_
        rintro e wc ⟨rfl, rfl⟩
        go_wp2
        go_roundw
        case rel => exact ⟨2, by omega, by go_num, HN.out⟩
        case measure => simp [RowKit.intOf]
      · have cf : wr.cell? ⟨w.heap.size + 1 + 1, 3, none⟩ = some (.int .u64 0) := by rw [cell_of_row wr _ _ _ _ _ HROW.out]; rfl
        have ff : wr.frozen? ⟨w.heap.size + 1 + 1, 3, none⟩ = false := frozen_of_row wr _ _ _ _ HROW.out
        have HN := hid (show wr.setCell ⟨w.heap.size + 1 + 1, 3, none⟩ (.int .u64 (num ((l.drop 20).take 8) : Nat)) = W.setRow (w.heap.size + 2) (rowF k [wordOf l 0, wordOf l 1, wordOf l 2, wordOf l 3, wordOf l 4, wordOf l 5, wordOf l 6] 3).toArray by
          rw [setCell_eq_setRow wr _ _ _ _ _ _ HROW.out, HWR.out, setRow_setRow]
          rfl)
        go_wp2_with fail
        refine (lowest_any ((l.drop 20).take 8) w.heap.size 20 44 wr (by simp [hl]) (oct_part l _ _ HX.out) (bs_mid wr _ 53 l 20 8 (by rw [HF.out]; exact HA.out) (by omega))).mono ?_
        rintro e wc ⟨rfl, rfl⟩
        go_wp2
        go_roundw
        case rel => exact ⟨3, by omega, by go_num, HN.out⟩
        case measure => simp [RowKit.intOf]
      · have cf : wr.cell? ⟨w.heap.size + 1 + 1, 4, none⟩ = some (.int .u64 0) := by rw [cell_of_row wr _ _ _ _ _ HROW.out]; rfl
        have ff : wr.frozen? ⟨w.heap.size + 1 + 1, 4, none⟩ = false := frozen_of_row wr _ _ _ _ HROW.out
        have HN := hid (show wr.setCell ⟨w.heap.size + 1 + 1, 4, none⟩ (.int .u64 (num ((l.drop 28).take 8) : Nat)) = W.setRow (w.heap.size + 2) (rowF k [wordOf l 0, wordOf l 1, wordOf l 2, wordOf l 3, wordOf l 4, wordOf l 5, wordOf l 6] 4).toArray by
          rw [setCell_eq_setRow wr _ _ _ _ _ _ HROW.out, HWR.out, setRow_setRow]
          rfl)
        go_wp2_with fail
        refine (lowest_any ((l.drop 28).take 8) w.heap.size 28 36 wr (by simp [hl]) (oct_part l _ _ HX.out) (bs_mid wr _ 53 l 28 8 (by rw [HF.out]; exact HA.out) (by omega))).mono ?_
        rintro e wc ⟨rfl, rfl⟩
        go_wp2
        go_roundw
        case rel => exact ⟨4, by omega, by go_num, HN.out⟩
        case measure => simp [RowKit.intOf]
      · have cf : wr.cell? ⟨w.heap.size + 1 + 1, 5, none⟩ = some (.int .u64 0) := by rw [cell_of_row wr _ _ _ _ _ HROW.out]; rfl
        have ff : wr.frozen? ⟨w.heap.size + 1 + 1, 5, none⟩ = false := frozen_of_row wr _ _ _ _ HROW.out
        have HN := hid (show wr.setCell ⟨w.heap.size + 1 + 1, 5, none⟩ (.int .u64 (num ((l.drop 36).take 8) : Nat)) = W.setRow (w.heap.size + 2) (rowF k [wordOf l 0, wordOf l 1, wordOf l 2, wordOf l 3, wordOf l 4, wordOf l 5, wordOf l 6] 5).toArray by
          rw [setCell_eq_setRow wr _ _ _ _ _ _ HROW.out, HWR.out, setRow_setRow]
          rfl)
        go_wp2_with fail
        refine (lowest_any ((l.drop 36).take 8) w.heap.size 36 28 wr (by simp [hl]) (oct_part l _ _ HX.out) (bs_mid wr _ 53 l 36 8 (by rw [HF.out]; exact HA.out) (by omega))).mono ?_
        rintro e wc ⟨rfl, rfl⟩
        go_wp2
        go_roundw
        case rel => exact ⟨5, by omega, by go_num, HN.out⟩
        case measure => simp [RowKit.intOf]
      · have cf : wr.cell? ⟨w.heap.size + 1 + 1, 6, none⟩ = some (.int .u64 0) := by rw [cell_of_row wr _ _ _ _ _ HROW.out]; rfl
        have ff : wr.frozen? ⟨w.heap.size + 1 + 1, 6, none⟩ = false := frozen_of_row wr _ _ _ _ HROW.out
        have HN := hid (show wr.setCell ⟨w.heap.size + 1 + 1, 6, none⟩ (.int .u64 (num ((l.drop 44).take 8) : Nat)) = W.setRow (w.heap.size + 2) (rowF k [wordOf l 0, wordOf l 1, wordOf l 2, wordOf l 3, wordOf l 4, wordOf l 5, wordOf l 6] 6).toArray by
          rw [setCell_eq_setRow wr _ _ _ _ _ _ HROW.out, HWR.out, setRow_setRow]
          rfl)
        go_wp2_with fail
        refine (lowest_any ((l.drop 44).take 8) w.heap.size 44 20 wr (by simp [hl]) (oct_part l _ _ HX.out) (bs_mid wr _ 53 l 44 8 (by rw [HF.out]; exact HA.out) (by omega))).mono ?_
        rintro e wc ⟨rfl, rfl⟩
        go_wp2
        go_roundw
        case rel => exact ⟨6, by omega, by go_num, HN.out⟩
        case measure => simp [RowKit.intOf]
      · have cf : wr.cell? ⟨w.heap.size + 1 + 1, 7, none⟩ = some (.int .u64 0) := by rw [cell_of_row wr _ _ _ _ _ HROW.out]; rfl
        have ff : wr.frozen? ⟨w.heap.size + 1 + 1, 7, none⟩ = false := frozen_of_row wr _ _ _ _ HROW.out
        have HN := hid (show wr.setCell ⟨w.heap.size + 1 + 1, 7, none⟩ (.int .u64 (num ((l.drop 52).take 8) : Nat)) = W.setRow (w.heap.size + 2) (rowF k [wordOf l 0, wordOf l 1, wordOf l 2, wordOf l 3, wordOf l 4, wordOf l 5, wordOf l 6] 7).toArray by
          rw [setCell_eq_setRow wr _ _ _ _ _ _ HROW.out, HWR.out, setRow_setRow]
          rfl)
        go_wp2_with fail
        refine (lowest_any ((l.drop 52).take 8) w.heap.size 52 12 wr (by simp [hl]) (oct_part l _ _ HX.out) (bs_mid wr _ 53 l 52 8 (by rw [HF.out]; exact HA.out) (by omega))).mono ?_
        rintro e wc ⟨rfl, rfl⟩
        go_wp2
        go_roundw
        case rel => exact ⟨7, by omega, by go_num, HN.out⟩
        case measure => simp [RowKit.intOf]
end Go.Proofs.YtacdjioieclggaaDoor.Wi
namespace Go.Proofs.YtacdjioieclggaaDoor.Wi
open Go.RowKit Go.Deep Crc
set_option linter.unusedVariables false
theorem part_byte (xs : List Nat) (i : Nat) (h : i < xs.length) (w : World) : (part 5 (bv xs).toArray i).run Tryd.prog w = .ok (.int .u8 ((xs[i] : Nat) : Int)) w := by
  have a5 := Tryd.isAgg5
  have hv : (bv xs).toArray[i]? = some (.int .u8 ((xs[i] : Nat) : Int)) := by simp [bv, h]
  simp only [part, Sem.run_bind, a5, Result.andThen_ok, hv]
  simp

theorem eq_byte (d : Nat) (a b : Int) (w : World) : (Op.equalIn (d + 1) 5 (.int .u8 a) (.int .u8 b)).run Tryd.prog w = .ok (a == b) w := by
  have u5 := Tryd.underlying5
  rw [Op.equalIn]
  simp [Sem.run_bind, run_underlying u5]
theorem eq_loop (xs ys : List Nat) (n d : Nat) (hx : xs.length = n) (hy : ys.length = n) (w : World) : ∀ m s, s + m = n →
    (Sem.run Tryd.prog (forIn (List.range' s m) (none, ()) fun i (__s : Option Bool × Unit) => do
      let __do_lift ← part 5 (bv xs).toArray (i * 1)
      let __do_lift_1 ← part 5 (bv ys).toArray (i * 1)
      let __do_lift ← Op.equalIn (d + 1) 5 __do_lift __do_lift_1
      if (!__do_lift) = true then pure (ForInStep.done (some false, ())) else pure (ForInStep.yield (none, ()))) w) =
    .ok (if xs.drop s = ys.drop s then (none, ()) else (some false, ())) w := by
  intro m
  induction m with
  | zero =>
    intro s h
    have e1 : xs.drop s = [] := List.drop_eq_nil_of_le (by omega)
    have e2 : ys.drop s = [] := List.drop_eq_nil_of_le (by omega)
    simp [e1, e2]
  | succ m ih =>
    intro s h
    have h1 : s < xs.length := by omega
    have h2 : s < ys.length := by omega
    have e1 : xs.drop s = xs[s] :: xs.drop (s + 1) := List.drop_eq_getElem_cons h1
    have e2 : ys.drop s = ys[s] :: ys.drop (s + 1) := List.drop_eq_getElem_cons h2
    have hd : (xs.drop s = ys.drop s) ↔ (xs[s] = ys[s] ∧ xs.drop (s + 1) = ys.drop (s + 1)) := by rw [e1, e2, List.cons.injEq]
    clear e1 e2
    rw [List.range'_succ, List.forIn_cons]
    simp only [Sem.run_bind, Nat.mul_one, part_byte xs s h1, part_byte ys s h2, Result.andThen_ok, eq_byte, Sem.run_ite]
    by_cases hc : xs[s] = ys[s]
    · have := ih (s + 1) (by omega)
      simp only [Nat.mul_one] at this
      simp [hd, hc]
      simpa using this
    · have hb : (((xs[s] : Nat) : Int) == ((ys[s] : Nat) : Int)) = false := by simp; omega
      simp [hd, hc]
      intro e
      exact absurd (by omega) hc
theorem eq_bytes (t : TypeId) (n : Nat) (ht : Tryd.prog.underlying t = some (.array n 5)) (xs ys : List Nat) (hx : xs.length = n) (hy : ys.length = n) (w : World) :
    (Op.equalIn 10000 t (.agg (bv xs).toArray) (.agg (bv ys).toArray)).run Tryd.prog w = .ok (decide (xs = ys)) w := by
  have z5 := Tryd.sizeOf5
  have u5 := Tryd.underlying5
  rw [show (10000 : Nat) = 9999 + 1 from rfl, Op.equalIn]
  simp only [Sem.run_bind, run_underlying ht, Result.andThen_ok, z5]
  simp only [Std.Legacy.Range.forIn_eq_forIn_range', Std.Legacy.Range.size, Nat.sub_zero, Nat.add_sub_cancel, Nat.div_one]
  have := eq_loop xs ys n 9998 hx hy w n 0 (by omega)
  rw [this]
  simp only [Result.andThen_ok, List.drop_zero]
  by_cases h : xs = ys <;> simp [h]
end Go.Proofs.YtacdjioieclggaaDoor.Wi
namespace Go.Proofs.YtacdjioieclggaaDoor.Wi
open Go.RowKit Go.Deep Crc
set_option linter.unusedVariables false
/-- a frame in memory, as cells. -/
def fz : Array Value := (rowF 0 [] 0).toArray
theorem fz_one : fz.all (·.oneCell') = true := all_oneCell_toArray (rowF_one _ _ _)
theorem fz_info : (Tryd.prog.info? 40).map (·.size) = some fz.size := info31
theorem res_row (fn : Func) (p u : Tmp) (h : fn.results = #[.cell p 40, .tmp u]) (tmps : Array Value) (w : World) (g : Nat) (cs : Array Value) (e : Value)
    (hp : tmps.getD p undef = .pointer (some ⟨g, 0, none⟩)) (hu : tmps.getD u undef = e) (hg : w.heap[g]? = some (.cells cs 40 (0, 0))) (hi : (Tryd.prog.info? 40).map (·.size) = some cs.size) :
    (results fn tmps).run Tryd.prog w = .ok (.tuple #[.agg cs, e]) w := by
  rw [results_cell_tmp h, hp, hu]
  simp [asAddr, run_loadVar_row w g 40 40 cs (0, 0) _ hg Tryd.underlying40 rfl hi]

theorem eq4 (a b c d a' b' c' d' : Int) (w : World) : (Op.equalIn 10000 94 (.agg #[.int .u8 a, .int .u8 b, .int .u8 c, .int .u8 d]) (.agg #[.int .u8 a', .int .u8 b', .int .u8 c', .int .u8 d'])).run Tryd.prog w = .ok (a == a' && (b == b' && (c == c' && d == d'))) w := by
  have u3 := Tryd.underlying5
  have a3 := Tryd.isAgg5
  have z3 := Tryd.sizeOf5
  rw [show (10000 : Nat) = 9999 + 1 from rfl, Op.equalIn]
  simp only [Sem.run_bind, run_underlying Tryd.underlying94, Result.andThen_ok]
  simp only [Std.Legacy.Range.forIn_eq_forIn_range', Std.Legacy.Range.size, Nat.sub_zero, Nat.add_sub_cancel, Nat.div_one, List.range'_succ, List.range'_zero, List.forIn_cons, List.forIn_nil]
  go_simp
  by_cases h1 : a = a' <;> by_cases h2 : b = b' <;> by_cases h3 : c = c' <;> by_cases h4 : d = d' <;> simp [h1, h2, h3, h4]

/-- the head, in memory: what is copied in lies there. -/
theorem splice_all {α : Type} (L X : List α) (h : X.length = L.length) : splice L 0 X = X := by
  unfold splice
  rw [h]
  simp
/-- do the bytes begin as a frame? -/
def headed (xs : List Nat) : Prop := xs.getD 0 0 = 66 ∧ xs.getD 1 0 = 70 ∧ xs.getD 3 0 = 0
theorem bs_add {w : World} {b o : Nat} {xs : List Nat} (h : Bs w b o xs) (j : Nat) (v : Value) (hj : (bv xs)[j]? = some v) : w.cell? ((⟨b, o, none⟩ : Addr).add j) = some v := by
  rw [Addr.add_mid]
  have hl : j < xs.length := by
    have := (List.getElem?_eq_some_iff.1 hj).1
    rwa [bv_len] at this
  rw [h j hl, ← hj]
  simp [bv, hl]
theorem bs_to {w w' : World} {b o : Nat} {xs : List Nat} (h : Bs w b o xs) (hb : Below w.heap.size w w') : Bs w' b o xs := by
  intro i hi
  have := h i hi
  exact (hb.cell (block_lt_of_cell this)).trans this
theorem bs_take {w : World} {b o : Nat} {xs : List Nat} (h : Bs w b o xs) (n : Nat) : Bs w b o (xs.take n) := by
  intro i hi
  simp at hi
  have := h i (by omega)
  simpa using this

/-- the frame that bytes say, and its bytes. -/
def readV (xs : List Nat) : Value := fv (xs.getD 2 0) (wordOf xs 0) (wordOf xs 1) (wordOf xs 2) (wordOf xs 3) (wordOf xs 4) (wordOf xs 5) (wordOf xs 6)
def again (xs : List Nat) : List Nat := frame (xs.getD 2 0) [wordOf xs 0, wordOf xs 1, wordOf xs 2, wordOf xs 3, wordOf xs 4, wordOf xs 5, wordOf xs 6]
/-- what comes of bytes of a frame's number. -/
def UnpP (xs : List Nat) (e : Ending) : Prop :=
  (¬ headed xs ∧ e = .returned (.tuple #[.agg fz, .int .i64 22])) ∨ (headed xs ∧ ¬ xs = again xs ∧ e = .returned (.tuple #[.agg fz, .int .i64 21])) ∨ (headed xs ∧ xs = again xs ∧ e = .returned (.tuple #[readV xs, .int .i64 0]))
theorem word_lt (xs : List Nat) (h : Oct xs) (i : Nat) : wordOf xs i < 18446744073709551616 := by
  have := num_lt _ (oct_part xs (4 + 8 * i) 8 h)
  have h2 : 256 ^ ((xs.drop (4 + 8 * i)).take 8).length ≤ 256 ^ 8 := Nat.pow_le_pow_right (by decide) (by simp; omega)
  unfold wordOf
  omega
theorem take4 (xs : List Nat) (h : 4 ≤ xs.length) : xs.take 4 = [xs.getD 0 0, xs.getD 1 0, xs.getD 2 0, xs.getD 3 0] := by
  match xs, h with
  | a :: b :: c :: d :: r, _ => rfl
/-- five cells, and what was there. -/
def Five (W w' : World) (h r : Nat) (x0 x1 x2 x3 : Nat) : Prop :=
  (w'.cell? ⟨h, 0, none⟩ = some (.int .u8 (x0 : Nat)) ∧ w'.cell? ⟨h, 1, none⟩ = some (.int .u8 (x1 : Nat)) ∧ w'.cell? ⟨h, 2, none⟩ = some (.int .u8 (x2 : Nat)) ∧ w'.cell? ⟨h, 3, none⟩ = some (.int .u8 (x3 : Nat)) ∧ w'.cell? ⟨r, 2, none⟩ = some (.int .u8 (x2 : Nat))) ∧ Below W.heap.size W w'
theorem Five.to {W w' : World} {h r x0 x1 x2 x3 : Nat} (k : Five W W h r x0 x1 x2 x3) (hb : Below W.heap.size W w') : Five W w' h r x0 x1 x2 x3 := by
  obtain ⟨⟨c0, c1, c2, c3, c4⟩, _⟩ := k
  exact ⟨⟨(hb.cell (block_lt_of_cell c0)).trans c0, (hb.cell (block_lt_of_cell c1)).trans c1, (hb.cell (block_lt_of_cell c2)).trans c2, (hb.cell (block_lt_of_cell c3)).trans c3, (hb.cell (block_lt_of_cell c4)).trans c4⟩, hb⟩
set_option maxHeartbeats 1000000 in
set_option maxRecDepth 100000 in
theorem unpack_whole (xs : List Nat) (b o cap : Nat) (w : World) (hl : xs.length = 64) (hx : Oct xs) (hB : Bs w b o xs) (hL : Laid w) :
    Calls Tryd.prog 21 #[.slice (some ⟨b, o, none⟩) 64 cap] w fun e w' => UnpP xs e ∧ Below w.heap.size w w' := by
  have HX := hid hx
  have HB := hid hB
  have HL := hid hL
  clear hx hB hL
  have hz0 := hid (show ((w.alloc (.cells fz 40)).alloc (.cells (zs 64).toArray 53)).heap[w.heap.size + 1]? = some (.cells (zs 64).toArray 53 (0, 0)) from heap_alloc2_new w _ _)
  have hz1 := hid (show (w.alloc (.cells fz 40)).heap[w.heap.size]? = some (.cells fz 40 (0, 0)) from heap_alloc_new w _)
  have hb0 := hid (show Below w.heap.size w ((w.alloc (.cells fz 40)).alloc (.cells (zs 64).toArray 53)) from ((Below.refl w.heap.size w).alloc (Nat.le_refl _) _).alloc (by simp) _)
  have hb1 := hid (show Below (w.heap.size + 1) (w.alloc (.cells fz 40)) ((w.alloc (.cells fz 40)).alloc (.cells (zs 64).toArray 53)) from (Below.refl _ _).alloc (by simp) _)
  have hB1 := hid (bs_to HB.out hb0.out)
  have hn1 := hid (show (bv xs).length = Nat.min 64 64 by rw [bv_len, hl]; decide)
  have hf1 := hid (show 0 + (bv xs).length ≤ (zs 64).length by rw [bv_len, hl]; simp [zs])
  go_enter Tryd.func21, Tryd.ntmps21
  go_wp2_with (first
    | (refine wpList_copy_splice (by rfl) (.tmp 15) (.tmp 16) 31 31 (by rfl) 5 Tryd.underlying31 info5 (some ⟨w.heap.size + 1, 0, none⟩) (some ⟨b, o, none⟩) 64 64 64 cap (by rfl) (by rfl) (w.heap.size + 1) 0 (zs 64) 53 hz0.out (bv xs) hn1.out (fun _ => ⟨rfl, _, rfl, bs_add hB1.out⟩) hf1.out (bv_one _) (w.heap.size + 1) (w.alloc (.cells fz 40)) hb1.out (Nat.le_refl _) ?_; intro w1 hg1 hbb; rw [splice_all (zs 64) (bv xs) (by simp [bv_len, hl, zs])] at hg1; have hr := hid (show w1.heap[w.heap.size]? = some (.cells fz 40 (0, 0)) by rw [blk_to hbb (by omega)]; exact hz1.out); have hbw := hid (show Below w.heap.size w w1 from ((Below.refl w.heap.size w).alloc (Nat.le_refl _) _).trans (hbb.mono (by omega))); have hB2 := hid (bs_take (bs_to HB.out hbw.out) 4); have hsz : w.heap.size + 1 < w1.heap.size := (Array.getElem?_eq_some_iff.1 hg1.out).1; have HG1 := hid hg1.out; clear hb0 hb1 hB1 hz0 hz1 hbb hg1; have l4 : (bv (xs.take 4)).length = 4 := (by simp [bv_len, hl]); have hz4 := hid (show (w1.alloc (.cells (zs 4).toArray 94)).heap[w1.heap.size]? = some (.cells (zs 4).toArray 94 (0, 0)) from heap_alloc_new w1 _); have hb4 := hid (show Below w1.heap.size w1 (w1.alloc (.cells (zs 4).toArray 94)) from (Below.refl _ _).alloc (Nat.le_refl _) _); have hB4 := hid (bs_to hB2.out hb4.out); have hn4 := hid (show (bv (xs.take 4)).length = Nat.min 64 4 by rw [l4]; decide); have hf4 := hid (show 0 + (bv (xs.take 4)).length ≤ (zs 4).length by rw [l4]; simp [zs]))
    | (refine wpList_copy_splice (by rfl) (.tmp 18) (.tmp 19) 31 31 (by rfl) 5 Tryd.underlying31 info5 (some ⟨w1.heap.size, 0, none⟩) (some ⟨b, o, none⟩) 4 4 64 cap (by rfl) (by rfl) w1.heap.size 0 (zs 4) 94 hz4.out (bv (xs.take 4)) hn4.out (fun _ => ⟨rfl, _, rfl, bs_add hB4.out⟩) hf4.out (bv_one _) w1.heap.size w1 hb4.out (Nat.le_refl _) ?_; intro w2 hg2 hbb))
  rw [splice_all (zs 4) (bv (xs.take 4)) (by rw [l4]; simp [zs]), take4 xs (by omega)] at hg2
  obtain ⟨x0, hx0⟩ : ∃ x, xs.getD 0 0 = x := ⟨_, rfl⟩
  obtain ⟨x1, hx1⟩ : ∃ x, xs.getD 1 0 = x := ⟨_, rfl⟩
  obtain ⟨x2, hx2⟩ : ∃ x, xs.getD 2 0 = x := ⟨_, rfl⟩
  obtain ⟨x3, hx3⟩ : ∃ x, xs.getD 3 0 = x := ⟨_, rfl⟩
  rw [hx0, hx1, hx2, hx3] at hg2
  have HR2 := hid (show w2.heap[w.heap.size]? = some (.cells fz 40 (0, 0)) by rw [blk_to hbb (by omega)]; exact hr.out)
  have HW2 := hid (show w2.heap[w.heap.size + 1]? = some (.cells (bv xs).toArray 53 (0, 0)) by rw [blk_to hbb (by omega)]; exact HG1.out)
  have HBw2 := hid (hbw.out.trans (hbb.mono (by omega)))
  have H5 := hid (show Five w2 w2 w1.heap.size (w.heap.size + 1) x0 x1 x2 x3 from ⟨⟨by rw [cell_of_row w2 _ _ _ _ _ hg2.out]; rfl, by rw [cell_of_row w2 _ _ _ _ _ hg2.out]; rfl, by rw [cell_of_row w2 _ _ _ _ _ hg2.out]; rfl, by rw [cell_of_row w2 _ _ _ _ _ hg2.out]; rfl, by rw [cell_of_row w2 _ _ _ _ _ HW2.out, ← hx2]; simp [bv, hl]⟩, Below.refl _ _⟩)
  have hsz2 : w.heap.size + 1 < w2.heap.size := Nat.lt_of_lt_of_le hsz hbb.size
  have hq := eq4
  have X0 := hid hx0
  have X1 := hid hx1
  have X2 := hid hx2
  have X3 := hid hx3
  clear hg2 hbb hz4 hb4 hB4 hn4 hf4 l4 hB2 hr hbw HG1 hn1 hf1 hx0 hx1 hx2 hx3 hsz
  (try simp only [Act.put, List.setIfInBounds_toArray, List.set_cons_zero, List.set_cons_succ])
  go_region_held3 (fun w' => (w'.cell? ⟨w1.heap.size, 0, none⟩ = some (.int .u8 (x0 : Nat)) ∧ w'.cell? ⟨w1.heap.size, 1, none⟩ = some (.int .u8 (x1 : Nat)) ∧ w'.cell? ⟨w1.heap.size, 2, none⟩ = some (.int .u8 (x2 : Nat)) ∧ w'.cell? ⟨w1.heap.size, 3, none⟩ = some (.int .u8 (x3 : Nat)) ∧ w'.cell? ⟨w.heap.size + 1, 2, none⟩ = some (.int .u8 (x2 : Nat))) ∧ Below w2.heap.size w2 w')
    (first | exact H5.out.to (Below.drew (Below.refl _ _)) | exact H5.out.to HK.out)
    ((go_at_call 45; refine (headOf_any _ _).mono ?_; rintro e w3 ⟨rfl, hbk⟩; have HK := hid (show Below w2.heap.size w2 w3 from (btr (Below.drew (Below.refl _ _)) hbk)); clear hbk))
  have HR3 := hid (show w3.heap[w.heap.size]? = some (.cells fz 40 (0, 0)) by rw [blk_to HK.out (by omega)]; exact HR2.out)
  have HW3 := hid (show w3.heap[w.heap.size + 1]? = some (.cells (bv xs).toArray 53 (0, 0)) by rw [blk_to HK.out (by omega)]; exact HW2.out)
  have HB3 := hid (btr HBw2.out HK.out)
  have hsz3 : w.heap.size + 1 < w3.heap.size := Nat.lt_of_lt_of_le hsz2 HK.out.size
  clear hq H5 HK HR2 HW2 HBw2 hsz2
  by_cases hh : headed xs
  · have hx0 : (x0 : Int) = 66 := by have := hh.1; rw [X0.out] at this; omega
    have hx1 : (x1 : Int) = 70 := by have := hh.2.1; rw [X1.out] at this; omega
    have hx3 : (x3 : Int) = 0 := by have := hh.2.2; rw [X3.out] at this; omega
    have e0 : ((x0 : Int) == 66) = true := by simpa using hx0
    have e1 : ((x1 : Int) == 70) = true := by simpa using hx1
    have e3 : ((x3 : Int) == 0) = true := by simpa using hx3
    have HH := hid hh
    have hv : (!((x0 : Int) == 66) || (!((x1 : Int) == 70) || !((x3 : Int) == 0))) = false := by rw [e0, e1, e3]; rfl
    rw [hv]
    clear hh hx0 hx1 hx3 e0 e1 e3 hv
    obtain ⟨F, hF⟩ : ∃ F, (bv xs).toArray = F := ⟨_, rfl⟩
    have F64 := hid (show F.size = 64 by rw [← hF]; simp [bv_len, hl])
    rw [hF] at HW3
    have HF := hid hF
    have i64 := hid (show (Tryd.prog.info? 53).map (·.size) = some F.size by rw [F64.out]; exact info32)
    clear hF
    obtain ⟨a0, ha0⟩ : ∃ a, wordOf xs 0 = a := ⟨_, rfl⟩
    obtain ⟨a1, ha1⟩ : ∃ a, wordOf xs 1 = a := ⟨_, rfl⟩
    obtain ⟨a2, ha2⟩ : ∃ a, wordOf xs 2 = a := ⟨_, rfl⟩
    obtain ⟨a3, ha3⟩ : ∃ a, wordOf xs 3 = a := ⟨_, rfl⟩
    obtain ⟨a4, ha4⟩ : ∃ a, wordOf xs 4 = a := ⟨_, rfl⟩
    obtain ⟨a5, ha5⟩ : ∃ a, wordOf xs 5 = a := ⟨_, rfl⟩
    obtain ⟨a6, ha6⟩ : ∃ a, wordOf xs 6 = a := ⟨_, rfl⟩
    have HRV := hid (show readV xs = fv x2 a0 a1 a2 a3 a4 a5 a6 by unfold readV; rw [X2.out, ha0, ha1, ha2, ha3, ha4, ha5, ha6])
    have CR := hid (show ∀ w : World, Calls Tryd.prog 48 #[.agg F] w fun e w' => e = .returned (.agg #[.int .u8 (x2 : Nat), .int .u64 (a0 : Nat), .int .u64 (a1 : Nat), .int .u64 (a2 : Nat), .int .u64 (a3 : Nat), .int .u64 (a4 : Nat), .int .u64 (a5 : Nat), .int .u64 (a6 : Nat)]) ∧ Below w.heap.size w w' from fun w => by
      have h := read_any xs F w hl HX.out HF.out
      rw [X2.out, ha0, ha1, ha2, ha3, ha4, ha5, ha6] at h
      exact h)
    have hx2 : x2 < 256 := by
      have h2 : 2 < xs.length := (by omega)
      have e2 : xs.getD 2 0 = xs[2] := (by simp [List.getD, h2])
      rw [← X2.out, e2]
      exact HX.out _ (List.getElem_mem h2)
    have CP := hid (show ∀ w : World, Laid w → Calls Tryd.prog 20 #[.agg #[.int .u8 (x2 : Nat), .int .u64 (a0 : Nat), .int .u64 (a1 : Nat), .int .u64 (a2 : Nat), .int .u64 (a3 : Nat), .int .u64 (a4 : Nat), .int .u64 (a5 : Nat), .int .u64 (a6 : Nat)]] w fun e w' => e = .returned (.agg (bv (again xs)).toArray) ∧ Below w.heap.size w w' from fun w hL => by
      unfold again
      rw [X2.out, ha0, ha1, ha2, ha3, ha4, ha5, ha6]
      exact pack_any x2 a0 a1 a2 a3 a4 a5 a6 w hL hx2 (ha0 ▸ word_lt xs HX.out 0) (ha1 ▸ word_lt xs HX.out 1) (ha2 ▸ word_lt xs HX.out 2) (ha3 ▸ word_lt xs HX.out 3) (ha4 ▸ word_lt xs HX.out 4) (ha5 ▸ word_lt xs HX.out 5) (ha6 ▸ word_lt xs HX.out 6))
    have HEQ := hid (show ∀ w : World, (Op.equalIn 10000 53 (.agg (bv xs).toArray) (.agg (bv (again xs)).toArray)).run Tryd.prog w = .ok (decide (xs = again xs)) w from fun w => eq_bytes 53 64 Tryd.underlying53 xs (again xs) hl (frame_len _ _ rfl) w)
    clear ha0 ha1 ha2 ha3 ha4 ha5 ha6 hx2
    go_wp2_with (first | (refine wpList_load_row (by rfl) 53 (.tmp 4) (by rfl) (w.heap.size + 1) (by rfl) 53 F (0, 0) _ HW3.out Tryd.underlying53 rfl i64.out ?_) | (go_at_call 48; refine (CR.out _).mono ?_; rintro e w4 ⟨rfl, hbk⟩; have HK4 := hid hbk; clear hbk))
    have HR4 := hid (show (w4.alloc (.cells #[.int .u8 (x2 : Nat), .int .u64 (a0 : Nat), .int .u64 (a1 : Nat), .int .u64 (a2 : Nat), .int .u64 (a3 : Nat), .int .u64 (a4 : Nat), .int .u64 (a5 : Nat), .int .u64 (a6 : Nat)] 40)).heap[w.heap.size]? = some (.cells fz 40 (0, 0)) by
      rw [heap_alloc_old _ _ (by have := HK4.out.size; omega), blk_to HK4.out (by omega)]; exact HR3.out)
    have HW4 := hid (show (w4.alloc (.cells #[.int .u8 (x2 : Nat), .int .u64 (a0 : Nat), .int .u64 (a1 : Nat), .int .u64 (a2 : Nat), .int .u64 (a3 : Nat), .int .u64 (a4 : Nat), .int .u64 (a5 : Nat), .int .u64 (a6 : Nat)] 40)).heap[w.heap.size + 1]? = some (.cells (bv xs).toArray 53 (0, 0)) by
      rw [heap_alloc_old _ _ (by have := HK4.out.size; omega), blk_to HK4.out (by omega), HF.out]; exact HW3.out)
    have HG4 := hid (show (w4.alloc (.cells #[.int .u8 (x2 : Nat), .int .u64 (a0 : Nat), .int .u64 (a1 : Nat), .int .u64 (a2 : Nat), .int .u64 (a3 : Nat), .int .u64 (a4 : Nat), .int .u64 (a5 : Nat), .int .u64 (a6 : Nat)] 40)).heap[w4.heap.size]? = some (.cells #[.int .u8 (x2 : Nat), .int .u64 (a0 : Nat), .int .u64 (a1 : Nat), .int .u64 (a2 : Nat), .int .u64 (a3 : Nat), .int .u64 (a4 : Nat), .int .u64 (a5 : Nat), .int .u64 (a6 : Nat)] 40 (0, 0)) from heap_alloc_new _ _)
    have HB4 := hid (bal (btr HB3.out HK4.out) (.cells #[.int .u8 (x2 : Nat), .int .u64 (a0 : Nat), .int .u64 (a1 : Nat), .int .u64 (a2 : Nat), .int .u64 (a3 : Nat), .int .u64 (a4 : Nat), .int .u64 (a5 : Nat), .int .u64 (a6 : Nat)] 40))
    have hz4 : w.heap.size + 1 < w4.heap.size := Nat.lt_of_lt_of_le hsz3 HK4.out.size
    obtain ⟨W5, hW5⟩ : ∃ W, w4.alloc (.cells #[.int .u8 (x2 : Nat), .int .u64 (a0 : Nat), .int .u64 (a1 : Nat), .int .u64 (a2 : Nat), .int .u64 (a3 : Nat), .int .u64 (a4 : Nat), .int .u64 (a5 : Nat), .int .u64 (a6 : Nat)] 40) = W := ⟨_, rfl⟩
    rw [hW5] at HR4 HW4 HG4 HB4 ⊢
    clear hW5 HK4 HR3 HW3 HB3 hsz3
    have HL5 := hid (laid_to HL.out HB4.out)
    have k0 : W5.cell? ⟨w4.heap.size, 0, none⟩ = some (.int .u8 (x2 : Nat)) := by rw [cell_of_row W5 _ _ _ _ _ HG4.out]; rfl
    have k1 : W5.cell? ⟨w4.heap.size, 1, none⟩ = some (.int .u64 (a0 : Nat)) := by rw [cell_of_row W5 _ _ _ _ _ HG4.out]; rfl
    have k2 : W5.cell? ⟨w4.heap.size, 2, none⟩ = some (.int .u64 (a1 : Nat)) := by rw [cell_of_row W5 _ _ _ _ _ HG4.out]; rfl
    have k3 : W5.cell? ⟨w4.heap.size, 3, none⟩ = some (.int .u64 (a2 : Nat)) := by rw [cell_of_row W5 _ _ _ _ _ HG4.out]; rfl
    have k4 : W5.cell? ⟨w4.heap.size, 4, none⟩ = some (.int .u64 (a3 : Nat)) := by rw [cell_of_row W5 _ _ _ _ _ HG4.out]; rfl
    have k5 : W5.cell? ⟨w4.heap.size, 5, none⟩ = some (.int .u64 (a4 : Nat)) := by rw [cell_of_row W5 _ _ _ _ _ HG4.out]; rfl
    have k6 : W5.cell? ⟨w4.heap.size, 6, none⟩ = some (.int .u64 (a5 : Nat)) := by rw [cell_of_row W5 _ _ _ _ _ HG4.out]; rfl
    have k7 : W5.cell? ⟨w4.heap.size, 7, none⟩ = some (.int .u64 (a6 : Nat)) := by rw [cell_of_row W5 _ _ _ _ _ HG4.out]; rfl
    have HS5 := hid (show (W5.rangeAt (w.heap.size + 1) 0 (bv xs) ∧ W5.cell? ⟨w4.heap.size, 0, none⟩ = some (.int .u8 (x2 : Nat)) ∧ W5.cell? ⟨w4.heap.size, 1, none⟩ = some (.int .u64 (a0 : Nat)) ∧ W5.cell? ⟨w4.heap.size, 2, none⟩ = some (.int .u64 (a1 : Nat)) ∧ W5.cell? ⟨w4.heap.size, 3, none⟩ = some (.int .u64 (a2 : Nat)) ∧ W5.cell? ⟨w4.heap.size, 4, none⟩ = some (.int .u64 (a3 : Nat)) ∧ W5.cell? ⟨w4.heap.size, 5, none⟩ = some (.int .u64 (a4 : Nat)) ∧ W5.cell? ⟨w4.heap.size, 6, none⟩ = some (.int .u64 (a5 : Nat)) ∧ W5.cell? ⟨w4.heap.size, 7, none⟩ = some (.int .u64 (a6 : Nat))) from ⟨fun j v hj => by rw [cell_of_row W5 _ _ _ _ _ HW4.out, Nat.zero_add]; simpa using hj, k0, k1, k2, k3, k4, k5, k6, k7⟩)
    clear k0 k1 k2 k3 k4 k5 k6 k7
    have keep : ∀ w' : World, Below W5.heap.size W5 w' → (w'.rangeAt (w.heap.size + 1) 0 (bv xs) ∧ w'.cell? ⟨w4.heap.size, 0, none⟩ = some (.int .u8 (x2 : Nat)) ∧ w'.cell? ⟨w4.heap.size, 1, none⟩ = some (.int .u64 (a0 : Nat)) ∧ w'.cell? ⟨w4.heap.size, 2, none⟩ = some (.int .u64 (a1 : Nat)) ∧ w'.cell? ⟨w4.heap.size, 3, none⟩ = some (.int .u64 (a2 : Nat)) ∧ w'.cell? ⟨w4.heap.size, 4, none⟩ = some (.int .u64 (a3 : Nat)) ∧ w'.cell? ⟨w4.heap.size, 5, none⟩ = some (.int .u64 (a4 : Nat)) ∧ w'.cell? ⟨w4.heap.size, 6, none⟩ = some (.int .u64 (a5 : Nat)) ∧ w'.cell? ⟨w4.heap.size, 7, none⟩ = some (.int .u64 (a6 : Nat))) ∧ Below W5.heap.size W5 w' := by
      intro w' hb
      obtain ⟨r, k0, k1, k2, k3, k4, k5, k6, k7⟩ := HS5.out
      have cc : ∀ {a : Addr} {v : Value}, W5.cell? a = some v → w'.cell? a = some v := fun h => (hb.cell (block_lt_of_cell h)).trans h
      exact ⟨⟨fun j v hj => cc (r j v hj), cc k0, cc k1, cc k2, cc k3, cc k4, cc k5, cc k6, cc k7⟩, hb⟩
    have KEEP := hid keep
    clear keep HS5
    have hu := Tryd.underlying53
    have hi : (Tryd.prog.info? 53).map (·.size) = some (bv xs).length := by rw [bv_len, hl]; exact info32
    have heq := HEQ.out
    (try simp only [Act.put, List.setIfInBounds_toArray, List.set_cons_zero, List.set_cons_succ])
    go_region_held3 (fun w' => (w'.rangeAt (w.heap.size + 1) 0 (bv xs) ∧ w'.cell? ⟨w4.heap.size, 0, none⟩ = some (.int .u8 (x2 : Nat)) ∧ w'.cell? ⟨w4.heap.size, 1, none⟩ = some (.int .u64 (a0 : Nat)) ∧ w'.cell? ⟨w4.heap.size, 2, none⟩ = some (.int .u64 (a1 : Nat)) ∧ w'.cell? ⟨w4.heap.size, 3, none⟩ = some (.int .u64 (a2 : Nat)) ∧ w'.cell? ⟨w4.heap.size, 4, none⟩ = some (.int .u64 (a3 : Nat)) ∧ w'.cell? ⟨w4.heap.size, 5, none⟩ = some (.int .u64 (a4 : Nat)) ∧ w'.cell? ⟨w4.heap.size, 6, none⟩ = some (.int .u64 (a5 : Nat)) ∧ w'.cell? ⟨w4.heap.size, 7, none⟩ = some (.int .u64 (a6 : Nat))) ∧ Below W5.heap.size W5 w')
      (first | exact KEEP.out _ (Below.drew (Below.refl _ _)) | exact KEEP.out _ HK.out)
      ((go_at_call 20; refine (CP.out _ (laid_to HL5.out (Below.drew (Below.refl _ _)))).mono ?_; rintro e w6 ⟨rfl, hbk⟩; have HK := hid (show Below W5.heap.size W5 w6 from (btr (Below.drew (Below.refl _ _)) hbk)); clear hbk))
    have HR6 := hid (show w6.heap[w.heap.size]? = some (.cells fz 40 (0, 0)) by rw [blk_to HK.out (by have := (Array.getElem?_eq_some_iff.1 HR4.out).1; omega)]; exact HR4.out)
    have HG6 := hid (show w6.heap[w4.heap.size]? = some (.cells #[.int .u8 (x2 : Nat), .int .u64 (a0 : Nat), .int .u64 (a1 : Nat), .int .u64 (a2 : Nat), .int .u64 (a3 : Nat), .int .u64 (a4 : Nat), .int .u64 (a5 : Nat), .int .u64 (a6 : Nat)] 40 (0, 0)) by rw [blk_to HK.out (by have := (Array.getElem?_eq_some_iff.1 HG4.out).1; omega)]; exact HG4.out)
    have HB6 := hid (btr HB4.out HK.out)
    clear heq hu hi KEEP HEQ HL5 HG4 HR4 HW4 CR CP HB4
    by_cases hE : xs = again xs
    · have hd : decide (xs = again xs) = true := decide_eq_true hE
      rw [hd]
      have HE := hid hE
      clear hd hE
      obtain ⟨G, hG⟩ : ∃ G : Array Value, #[.int .u8 (x2 : Nat), .int .u64 (a0 : Nat), .int .u64 (a1 : Nat), .int .u64 (a2 : Nat), .int .u64 (a3 : Nat), .int .u64 (a4 : Nat), .int .u64 (a5 : Nat), .int .u64 (a6 : Nat)] = G := ⟨_, rfl⟩
      have HGG := hid hG
      have G31 := hid (show (Tryd.prog.info? 40).map (·.size) = some G.size by rw [← hG]; exact info31)
      have G1 := hid (show G.all (·.oneCell') = true by rw [← hG]; exact all_oneCell_toArray (rowF_one x2 [a0, a1, a2, a3, a4, a5, a6] 7))
      have GZ := hid (show fz.size = G.size by rw [← hG]; rfl)
      rw [hG] at HG6
      clear hG
      go_wp2_with (first | (refine wpList_load_row (by rfl) 40 (.tmp 6) (by rfl) w4.heap.size (by rfl) 40 G (0, 0) _ HG6.out Tryd.underlying40 rfl G31.out ?_) | (refine wpList_store_row (by rfl) 40 (.tmp 2) (.tmp 34) (by rfl) w.heap.size G (by rfl) (by rfl) 40 fz HR6.out G31.out GZ.out G1.out ?_))
      exact bodyPost_ret (res_row Tryd.f21 2 3 Tryd.results21 _ _ w.heap.size G _ (by rfl) (by rfl) (setRow_heap _ _ _ _ 40 (0, 0) HR6.out) G31.out) rfl ⟨Or.inr (Or.inr ⟨HH.out, HE.out, by rw [HRV.out, ← HGG.out]; rfl⟩), below_setRow HB6.out (Nat.le_refl _) _⟩
    · have hd : decide (xs = again xs) = false := decide_eq_false hE
      rw [hd]
      have HE := hid hE
      clear hd hE
      go_wp2_with (first | (refine wpList_store_row (by rfl) 40 (.tmp 2) (.tmp 33) (by rfl) w.heap.size fz (by rfl) (by rfl) 40 fz HR6.out fz_info rfl fz_one ?_))
      exact bodyPost_ret (res_row Tryd.f21 2 3 Tryd.results21 _ _ w.heap.size fz _ (by rfl) (by rfl) (setRow_heap _ _ _ _ 40 (0, 0) HR6.out) fz_info) rfl ⟨Or.inr (Or.inl ⟨HH.out, HE.out, rfl⟩), below_setRow HB6.out (Nat.le_refl _) _⟩
  · have hb : ((x0 : Int) == 66) = false ∨ (((x0 : Int) == 66) = true ∧ ((x1 : Int) == 70) = false) ∨ (((x0 : Int) == 66) = true ∧ ((x1 : Int) == 70) = true ∧ ((x3 : Int) == 0) = false) := by
      unfold headed at hh
      rw [X0.out, X1.out, X3.out] at hh
      by_cases a0 : x0 = 66
      · have e0 : ((x0 : Int) == 66) = true := by simp; omega
        by_cases a1 : x1 = 70
        · have e1 : ((x1 : Int) == 70) = true := by simp; omega
          by_cases a3 : x3 = 0
          · exact absurd ⟨a0, a1, a3⟩ hh
          · exact Or.inr (Or.inr ⟨e0, e1, by simp; omega⟩)
        · exact Or.inr (Or.inl ⟨e0, by simp; omega⟩)
      · exact Or.inl (by simp; omega)
    have HH := hid hh
    clear hh
    have hv : (!((x0 : Int) == 66) || (!((x1 : Int) == 70) || !((x3 : Int) == 0))) = true := by
      rcases hb with e0 | ⟨e0, e1⟩ | ⟨e0, e1, e3⟩
      · rw [e0]; rfl
      · rw [e0, e1]; rfl
      · rw [e0, e1, e3]; rfl
    rw [hv]
    clear hv hb
    go_wp2_with (first | (refine wpList_store_row (by rfl) 40 (.tmp 2) (.tmp 26) (by rfl) w.heap.size fz (by rfl) (by rfl) 40 fz HR3.out fz_info rfl fz_one ?_))
    exact bodyPost_ret (res_row Tryd.f21 2 3 Tryd.results21 _ _ w.heap.size fz _ (by rfl) (by rfl) (setRow_heap _ _ _ _ 40 (0, 0) HR3.out) fz_info) rfl ⟨Or.inl ⟨HH.out, rfl⟩, below_setRow HB3.out (Nat.le_refl _) _⟩
end Go.Proofs.YtacdjioieclggaaDoor.Wi
namespace Go.Proofs.YtacdjioieclggaaDoor.Wi
open Go.RowKit Go.Deep Crc
set_option linter.unusedVariables false
theorem word_frame (k : Nat) (ws : List Nat) (i : Nat) (h : ws.length = 7) (hi : i < 7) (hw : ∀ x ∈ ws, x < 18446744073709551616) : wordOf (frame k ws) i = ws[i]'(by omega) := by
  match ws, h with
  | [w0, w1, w2, w3, w4, w5, w6], _ =>
    have e : frame k [w0, w1, w2, w3, w4, w5, w6] = [66, 70, k, 0] ++ (le 8 w0 ++ (le 8 w1 ++ (le 8 w2 ++ (le 8 w3 ++ (le 8 w4 ++ (le 8 w5 ++ (le 8 w6 ++ le 4 (crc (body k [w0, w1, w2, w3, w4, w5, w6]))))))))) := by
      unfold frame body; simp [List.append_assoc]
    unfold wordOf
    rw [e]
    have go : ∀ (x : Nat) (R : List Nat), x < 18446744073709551616 → num ((le 8 x ++ R).take 8) = x := by
      intro x R hx
      rw [List.take_left' (le_len 8 x)]
      exact num_le 8 x (by simpa using hx)
    have st : ∀ (x n : Nat) (R : List Nat), ((le 8 x ++ R).drop (8 + n)) = R.drop n := by
      intro x n R
      rw [List.drop_append]
      simp [le_len]
    have hd : ∀ (n : Nat) (R : List Nat), (([66, 70, k, 0] ++ R).drop (4 + n)) = R.drop n := by
      intro n R
      rw [List.drop_append]
      simp
    rw [hd]
    have : i = 0 ∨ i = 1 ∨ i = 2 ∨ i = 3 ∨ i = 4 ∨ i = 5 ∨ i = 6 := by omega
    rcases this with rfl | rfl | rfl | rfl | rfl | rfl | rfl
    · exact go _ _ (hw _ (by simp))
    · rw [show 8 * 1 = 8 + 0 by omega, st]; exact go _ _ (hw _ (by simp))
    · rw [show 8 * 2 = 8 + (8 + 0) by omega, st, st]; exact go _ _ (hw _ (by simp))
    · rw [show 8 * 3 = 8 + (8 + (8 + 0)) by omega, st, st, st]; exact go _ _ (hw _ (by simp))
    · rw [show 8 * 4 = 8 + (8 + (8 + (8 + 0))) by omega, st, st, st, st]; exact go _ _ (hw _ (by simp))
    · rw [show 8 * 5 = 8 + (8 + (8 + (8 + (8 + 0)))) by omega, st, st, st, st, st]; exact go _ _ (hw _ (by simp))
    · rw [show 8 * 6 = 8 + (8 + (8 + (8 + (8 + (8 + 0))))) by omega, st, st, st, st, st, st]; exact go _ _ (hw _ (by simp))
theorem frame_getD (k : Nat) (ws : List Nat) : (frame k ws).getD 0 0 = 66 ∧ (frame k ws).getD 1 0 = 70 ∧ (frame k ws).getD 2 0 = k ∧ (frame k ws).getD 3 0 = 0 := by
  unfold frame body
  simp
theorem frame_headed (k : Nat) (ws : List Nat) : headed (frame k ws) := ⟨(frame_getD k ws).1, (frame_getD k ws).2.1, (frame_getD k ws).2.2.2⟩
theorem frame_again (k w0 w1 w2 w3 w4 w5 w6 : Nat) (hw : ∀ x ∈ [w0, w1, w2, w3, w4, w5, w6], x < 18446744073709551616) :
    again (frame k [w0, w1, w2, w3, w4, w5, w6]) = frame k [w0, w1, w2, w3, w4, w5, w6] ∧ readV (frame k [w0, w1, w2, w3, w4, w5, w6]) = fv k w0 w1 w2 w3 w4 w5 w6 := by
  have f := fun i hi => word_frame k [w0, w1, w2, w3, w4, w5, w6] i rfl hi hw
  unfold again readV
  rw [(frame_getD k _).2.2.1, f 0 (by decide), f 1 (by decide), f 2 (by decide), f 3 (by decide), f 4 (by decide), f 5 (by decide), f 6 (by decide)]
  exact ⟨rfl, rfl⟩
/-- Unpack of a frame's bytes. -/
theorem unpack_frame (k w0 w1 w2 w3 w4 w5 w6 : Nat) (b o cap : Nat) (w : World) (hk : k < 256) (hw : ∀ x ∈ [w0, w1, w2, w3, w4, w5, w6], x < 18446744073709551616) (hB : Bs w b o (frame k [w0, w1, w2, w3, w4, w5, w6])) (hL : Laid w) :
    Calls Tryd.prog 21 #[.slice (some ⟨b, o, none⟩) 64 cap] w fun e w' => e = .returned (.tuple #[fv k w0 w1 w2 w3 w4 w5 w6, .int .i64 0]) ∧ Below w.heap.size w w' := by
  refine (unpack_whole _ b o cap w (frame_len k _ rfl) (frame_oct k _ hk) hB hL).mono ?_
  rintro e w' ⟨h, hb⟩
  have ha := frame_again k w0 w1 w2 w3 w4 w5 w6 hw
  rcases h with ⟨h, _⟩ | ⟨_, h, _⟩ | ⟨_, _, h⟩
  · exact absurd (frame_headed k _) h
  · exact absurd ha.1.symm h
  · rw [ha.2] at h
    exact ⟨h, hb⟩
end Go.Proofs.YtacdjioieclggaaDoor.Wi
