/-
  Contracts: wire.lowest, wire.read.
-/
import Derived.Test.YtffgcdhhjboppaaDoorPackB
namespace Go.Proofs.YtffgcdhhjboppaaDoor
open Go.RowKit Go.Deep Crc
set_option linter.unusedVariables false

/-- the number whose bytes, lowest first, these are. -/
def num : List Nat → Nat
  | [] => 0
  | x :: l => x + 256 * num l
theorem num_snoc (l : List Nat) (x : Nat) : num (l ++ [x]) = num l + 256 ^ l.length * x := by
  induction l with
  | nil => simp [num]
  | cons y l ih => simp [num, ih, Nat.pow_succ, Nat.mul_add]; rw [← Nat.mul_assoc, Nat.mul_comm 256 (256 ^ l.length)]; omega
theorem num_lt (l : List Nat) (h : Oct l) : num l < 256 ^ l.length := by
  induction l with
  | nil => simp [num]
  | cons y l ih =>
    have h1 := h y (by simp)
    have h2 := ih (fun x hx => h x (by simp [hx]))
    simp only [num, List.length_cons, Nat.pow_succ]
    omega
theorem num_le (k v : Nat) (h : v < 256 ^ k) : num (le k v) = v := by
  induction k generalizing v with
  | zero => simp at h; simp [le, num, h]
  | succ k ih =>
    rw [Nat.pow_succ] at h
    simp only [le, num]
    rw [ih (v / 256) (by omega)]
    omega
theorem le_num (l : List Nat) (h : Oct l) : le l.length (num l) = l := by
  induction l with
  | nil => rfl
  | cons y l ih =>
    have h1 := h y (by simp)
    simp only [num, List.length_cons, le]
    rw [show (y + 256 * num l) % 256 = y by omega, show (y + 256 * num l) / 256 = num l by omega, ih (fun x hx => h x (by simp [hx]))]
theorem or_add (n x k : Nat) (h : n < 2 ^ k) : n ||| (x * 2 ^ k) = n + x * 2 ^ k := by
  rw [Nat.or_comm, Nat.mul_comm, ← Nat.two_pow_add_eq_or_of_lt h]
  omega

set_option maxHeartbeats 1000000 in
set_option maxRecDepth 100000 in
theorem lowest_any (xs : List Nat) (b o cap : Nat) (w : World) (hl : xs.length = 8) (hx : Oct xs) (hB : Bs w b o xs) :
    Calls Tryd.prog 32 #[.slice (some ⟨b, o, none⟩) 8 cap] w fun e w' => e = .returned (.int .u64 (num xs : Nat)) ∧ w' = w := by
  have HB := hid hB
  have HX := hid hx
  clear hB hx
  go_enter Tryd.func32, Tryd.ntmps32
  go_wp2_with fail
  go_loopw [3, 4, 5, 8] (fun nv _ _ iv wr => ∃ (k n : Nat), k ≤ 8 ∧ iv = .int .i64 k ∧ nv = .int .u64 n ∧ n < 2 ^ (8 * k) ∧ Hid (num (xs.take k) = n) ∧ wr = w) (fun _ _ _ iv _ => 8 - (intOf iv).toNat)
  case atStart => exact ⟨0, 0, Nat.zero_le _, rfl, rfl, by decide, rfl, rfl⟩
  case round =>
    obtain ⟨k, n, hk, rfl, rfl, hn, HR, rfl⟩ := hrel
    by_cases hlt : k < 8
    · obtain ⟨x, hx⟩ : ∃ x, xs[k] = x := ⟨_, rfl⟩
      have x1 : x < 256 := by rw [← hx]; exact HX.out _ (List.getElem_mem _)
      have hcell := HB.out k (by omega)
      rw [hx] at hcell
      obtain ⟨n2, hn2⟩ : ∃ m, n ||| (x * 2 ^ (8 * k)) = m := ⟨_, rfl⟩
      have HR2 := hid (show num (xs.take (k + 1)) = n2 by
        rw [List.take_succ_eq_append_getElem (by omega), num_snoc, HR.out, hx, ← hn2, or_add n x (8 * k) hn]
        simp
        rw [Nat.min_eq_left (by omega), Nat.pow_mul, Nat.mul_comm])
      have l2 : n2 < 2 ^ (8 * (k + 1)) := by
        rw [← hn2, or_add n x (8 * k) hn, Nat.mul_add, Nat.pow_add]
        have : x * 2 ^ (8 * k) ≤ 255 * 2 ^ (8 * k) := Nat.mul_le_mul_right _ (by omega)
        omega
      have sq : x * 2 ^ (8 * k) < 18446744073709551616 := by
        have h1 : x * 2 ^ (8 * k) < 256 * 2 ^ (8 * k) := Nat.mul_lt_mul_of_pos_right x1 (Nat.pow_pos (by decide))
        have h2 : 256 * 2 ^ (8 * k) ≤ 256 * 2 ^ 56 := Nat.mul_le_mul_left _ (Nat.pow_le_pow_right (by decide) (by omega))
        omega
      have sn : n < 18446744073709551616 := Nat.lt_of_lt_of_le hn ((Nat.pow_le_pow_right (i := 8 * k) (j := 64) (by decide) (by omega) : 2 ^ (8 * k) ≤ 2 ^ 64))
      have e2 := bits_or_u64_nat n (x * 2 ^ (8 * k)) sn sq
      rw [hn2] at e2
      have E2 := hid e2
      have HC := hid hcell
      have HL2 := hid l2
      have : k = 0 ∨ k = 1 ∨ k = 2 ∨ k = 3 ∨ k = 4 ∨ k = 5 ∨ k = 6 ∨ k = 7 := by omega
      clear hx hcell e2 l2 hn hn2 sq hk hlt HR
      rcases this with rfl | rfl | rfl | rfl | rfl | rfl | rfl | rfl
      · have e3 : bits .or .u64 (n : Int) (x : Int) = (n2 : Int) := by simpa using E2.out
        have hc : wr.cell? ⟨b, o, none⟩ = some (.int .u8 (x : Int)) := HC.out
        clear E2 HC
        go_wp2
        go_roundw
        case rel => exact ⟨1, n2, by omega, by go_num, rfl, HL2.out, HR2, trivial⟩
        case measure => simp [intOf]
      · have e3 : bits .or .u64 (n : Int) ((x : Int) * 256) = (n2 : Int) := by simpa using E2.out
        have hc : wr.cell? ⟨b, o + 1, none⟩ = some (.int .u8 (x : Int)) := HC.out
        clear E2 HC
        go_wp2
        go_roundw
        case rel => exact ⟨2, n2, by omega, by go_num, rfl, HL2.out, HR2, trivial⟩
        case measure => simp [intOf]
      · have e3 : bits .or .u64 (n : Int) ((x : Int) * 65536) = (n2 : Int) := by simpa using E2.out
        have hc : wr.cell? ⟨b, o + 2, none⟩ = some (.int .u8 (x : Int)) := HC.out
        clear E2 HC
        go_wp2
        go_roundw
        case rel => exact ⟨3, n2, by omega, by go_num, rfl, HL2.out, HR2, trivial⟩
        case measure => simp [intOf]
      · have e3 : bits .or .u64 (n : Int) ((x : Int) * 16777216) = (n2 : Int) := by simpa using E2.out
        have hc : wr.cell? ⟨b, o + 3, none⟩ = some (.int .u8 (x : Int)) := HC.out
        clear E2 HC
        go_wp2
        go_roundw
        case rel => exact ⟨4, n2, by omega, by go_num, rfl, HL2.out, HR2, trivial⟩
        case measure => simp [intOf]
      · have e3 : bits .or .u64 (n : Int) ((x : Int) * 4294967296) = (n2 : Int) := by simpa using E2.out
        have hc : wr.cell? ⟨b, o + 4, none⟩ = some (.int .u8 (x : Int)) := HC.out
        clear E2 HC
        go_wp2
        go_roundw
        case rel => exact ⟨5, n2, by omega, by go_num, rfl, HL2.out, HR2, trivial⟩
        case measure => simp [intOf]
      · have e3 : bits .or .u64 (n : Int) ((x : Int) * 1099511627776) = (n2 : Int) := by simpa using E2.out
        have hc : wr.cell? ⟨b, o + 5, none⟩ = some (.int .u8 (x : Int)) := HC.out
        clear E2 HC
        go_wp2
        go_roundw
        case rel => exact ⟨6, n2, by omega, by go_num, rfl, HL2.out, HR2, trivial⟩
        case measure => simp [intOf]
      · have e3 : bits .or .u64 (n : Int) ((x : Int) * 281474976710656) = (n2 : Int) := by simpa using E2.out
        have hc : wr.cell? ⟨b, o + 6, none⟩ = some (.int .u8 (x : Int)) := HC.out
        clear E2 HC
        go_wp2
        go_roundw
        case rel => exact ⟨7, n2, by omega, by go_num, rfl, HL2.out, HR2, trivial⟩
        case measure => simp [intOf]
      · have e3 : bits .or .u64 (n : Int) ((x : Int) * 72057594037927936) = (n2 : Int) := by simpa using E2.out
        have hc : wr.cell? ⟨b, o + 7, none⟩ = some (.int .u8 (x : Int)) := HC.out
        clear E2 HC
        go_wp2
        go_roundw
        case rel => exact ⟨8, n2, by omega, by go_num, rfl, HL2.out, HR2, trivial⟩
        case measure => simp [intOf]
    · have h8 : k = 8 := by omega
      subst h8
      obtain rfl : n = num xs := by have := HR.out; rw [List.take_of_length_le (by omega)] at this; exact this.symm
      clear hn
      go_wp2
      go_ret
      exact ⟨rfl, rfl⟩
/-- a word of a frame's bytes. -/
def wordOf (l : List Nat) (i : Nat) : Nat := num ((l.drop (4 + 8 * i)).take 8)
def rowF (k : Nat) (ws : List Nat) (i : Nat) : List Value := .int .u8 ((k : Nat) : Int) :: ((ws.take i ++ List.replicate (7 - i) 0).map fun x => .int .u64 ((x : Nat) : Int))
theorem bs_mid (w : World) (b : Nat) (t : TypeId) (xs : List Nat) (o n : Nat) (h : w.heap[b]? = some (.cells (bv xs).toArray t (0, 0))) (hl : o + n ≤ xs.length) : Bs w b o ((xs.drop o).take n) := by
  intro i hi
  simp at hi
  rw [cell_of_row w b _ _ t _ h, List.getElem?_toArray]
  simp [bv]
  rw [List.getElem?_eq_getElem (by omega)]
  simp
theorem oct_part (xs : List Nat) (o n : Nat) (h : Oct xs) : Oct ((xs.drop o).take n) := fun x hx => h x (List.mem_of_mem_drop (List.mem_of_mem_take hx))

theorem rowF_one (k : Nat) (ws : List Nat) (i : Nat) : ∀ v ∈ rowF k ws i, v.oneCell' = true := by
  intro v hv
  simp only [rowF, List.mem_cons, List.mem_map] at hv
  rcases hv with rfl | ⟨x, _, rfl⟩ <;> rfl
theorem info31 : (Tryd.prog.info? 31).map (·.size) = some 8 := by kernel_rfl
set_option maxHeartbeats 1000000 in
set_option maxRecDepth 100000 in
theorem read_any (l : List Nat) (F : Array Value) (w : World) (hl : l.length = 64) (hx : Oct l) (hF : (bv l).toArray = F) :
    Calls Tryd.prog 26 #[.agg F] w fun e w' => e = .returned (fv (l.getD 2 0) (wordOf l 0) (wordOf l 1) (wordOf l 2) (wordOf l 3) (wordOf l 4) (wordOf l 5) (wordOf l 6)) ∧ Below w.heap.size w w' := by
  have HX := hid hx
  have F64 := hid (show F.size = 64 by rw [← hF]; simp [bv_len, hl])
  obtain ⟨k, hk⟩ : ∃ k, l.getD 2 0 = k := ⟨_, rfl⟩
  rw [hk]
  have F2 : F[2]? = some (.int .u8 (k : Nat)) := by rw [← hF]; simp [bv, ← hk, hl]
  have HF := hid hF
  clear hx hF
  go_enter Tryd.func26, Tryd.ntmps26
  go_wp2_with fail
  obtain ⟨W, hW⟩ : ∃ W, (((w.alloc (.cells F 32)).alloc (.cells (rowF 0 [] 0).toArray 31)).alloc (.cells (rowF k [] 0).toArray 31)) = W := ⟨_, rfl⟩
  have g0 := hid (show W.heap[w.heap.size]? = some (.cells F 32 (0, 0)) by
    rw [← hW, heap_alloc_old _ _ (by simp; omega), heap_alloc_old _ _ (by simp), heap_alloc_new])
  have g1 := hid (show W.heap[w.heap.size + 1]? = some (.cells (rowF 0 [] 0).toArray 31 (0, 0)) by
    rw [← hW, heap_alloc_old _ _ (by simp)]
    exact heap_alloc2_new w _ _)
  have g2 := hid (show W.heap[w.heap.size + 2]? = some (.cells (rowF k [] 0).toArray 31 (0, 0)) by
    rw [← hW]
    have := heap_alloc2_new (w.alloc (.cells F 32)) (.cells (rowF 0 [] 0).toArray 31) (.cells (rowF k [] 0).toArray 31)
    simpa using this)
  have hb := hid (show Below w.heap.size w W by
    rw [← hW]
    exact (((Below.refl w.heap.size w).alloc (Nat.le_refl _) _).alloc (by simp) _).alloc (by simp; omega) _)
  have hWd := hid hW
  clear hW
  have h0 : w.heap.size + 2 < W.heap.size := by
    have := (Array.getElem?_eq_some_iff.1 g2.out).1
    omega
  go_loopw [4, 8] (fun _ iv wr => ∃ i : Nat, i ≤ 7 ∧ iv = .int .i64 i ∧ wr = W.setRow (w.heap.size + 2) (rowF k [wordOf l 0, wordOf l 1, wordOf l 2, wordOf l 3, wordOf l 4, wordOf l 5, wordOf l 6] i).toArray) (fun _ iv _ => 7 - (intOf iv).toNat)
  case atStart =>
    refine ⟨0, by omega, rfl, ?_⟩
    have e := (setRow_self W _ _ 31 (0, 0) g2.out).symm
    refine Eq.trans ?_ e
    rw [← hWd.out]
    rfl
  case round =>
    obtain ⟨i, hi, rfl, hwr⟩ := hrel
    have HROW := hid (show wr.heap[w.heap.size + 2]? = some (.cells (rowF k [wordOf l 0, wordOf l 1, wordOf l 2, wordOf l 3, wordOf l 4, wordOf l 5, wordOf l 6] i).toArray 31 (0, 0)) by rw [hwr]; exact setRow_heap W _ _ _ 31 _ g2.out)
    have HA := hid (show wr.heap[w.heap.size]? = some (.cells F 32 (0, 0)) by rw [hwr, setRow_other _ _ _ _ (by omega)]; exact g0.out)
    have HZ := hid (show wr.heap[w.heap.size + 1]? = some (.cells (rowF 0 [] 0).toArray 31 (0, 0)) by rw [hwr, setRow_other _ _ _ _ (by omega)]; exact g1.out)
    have HWR := hid hwr
    have HBl := hid (show Below w.heap.size w wr by rw [hwr]; exact below_setRow hb.out (by omega) _)
    clear hwr F2
    by_cases h7 : i = 7
    · subst h7
      obtain ⟨G, hG⟩ : ∃ G, (rowF k [wordOf l 0, wordOf l 1, wordOf l 2, wordOf l 3, wordOf l 4, wordOf l 5, wordOf l 6] 7).toArray = G := ⟨_, rfl⟩
      have HG := hid hG
      rw [hG] at HROW
      have i31 : (Tryd.prog.info? 31).map (·.size) = some G.size := by rw [← hG]; exact info31
      have G1 : G.all (·.oneCell') = true := by rw [← hG]; exact all_oneCell_toArray (rowF_one _ _ _)
      have G8 : (rowF 0 [] 0).toArray.size = G.size := by rw [← hG]; rfl
      clear hG
      go_wp2_with (first | (refine wpList_load_row (by rfl) 31 (.tmp 3) (by rfl) (w.heap.size + 2) (by rfl) 31 G (0, 0) _ HROW.out Tryd.underlying31 rfl i31 ?_) | (refine wpList_store_row (by rfl) 31 (.tmp 2) (.tmp 21) (by rfl) (w.heap.size + 1) G (by rfl) (by rfl) 31 (rowF 0 [] 0).toArray HZ.out i31 G8 G1 ?_))
      refine bodyPost_ret (v := .agg G) (results_cell_row (fn := Tryd.f26) Tryd.results26 _ _ (w.heap.size + 1) 31 G (0, 0) _ (by rfl) (setRow_heap _ _ _ _ 31 (0, 0) HZ.out) Tryd.underlying31 rfl i31) rfl ⟨by rw [← HG.out]; rfl, below_setRow HBl.out (by omega) _⟩
    · have : i = 0 ∨ i = 1 ∨ i = 2 ∨ i = 3 ∨ i = 4 ∨ i = 5 ∨ i = 6 := by omega
      clear h7 hi
      rcases this with rfl | rfl | rfl | rfl | rfl | rfl | rfl
      · have cf : wr.cell? ⟨w.heap.size + 1 + 1, 1, none⟩ = some (.int .u64 0) := by rw [cell_of_row wr _ _ _ _ _ HROW.out]; rfl
        have ff : wr.frozen? ⟨w.heap.size + 1 + 1, 1, none⟩ = false := frozen_of_row wr _ _ _ _ HROW.out
        have HN := hid (show wr.setCell ⟨w.heap.size + 1 + 1, 1, none⟩ (.int .u64 (num ((l.drop 4).take 8) : Nat)) = W.setRow (w.heap.size + 2) (rowF k [wordOf l 0, wordOf l 1, wordOf l 2, wordOf l 3, wordOf l 4, wordOf l 5, wordOf l 6] 1).toArray by
          rw [setCell_eq_setRow wr _ _ _ _ _ _ HROW.out, HWR.out, setRow_setRow]
          rfl)
        go_wp2_with fail
        refine (lowest_any ((l.drop 4).take 8) w.heap.size 4 60 wr (by simp [hl]) (oct_part l _ _ HX.out) (bs_mid wr _ 32 l 4 8 (by rw [HF.out]; exact HA.out) (by omega))).mono ?_
        rintro e wc ⟨rfl, rfl⟩
        go_wp2
        go_roundw
        case rel => exact ⟨1, by omega, by go_num, HN.out⟩
        case measure => simp [intOf]
      · have cf : wr.cell? ⟨w.heap.size + 1 + 1, 2, none⟩ = some (.int .u64 0) := by rw [cell_of_row wr _ _ _ _ _ HROW.out]; rfl
        have ff : wr.frozen? ⟨w.heap.size + 1 + 1, 2, none⟩ = false := frozen_of_row wr _ _ _ _ HROW.out
        have HN := hid (show wr.setCell ⟨w.heap.size + 1 + 1, 2, none⟩ (.int .u64 (num ((l.drop 12).take 8) : Nat)) = W.setRow (w.heap.size + 2) (rowF k [wordOf l 0, wordOf l 1, wordOf l 2, wordOf l 3, wordOf l 4, wordOf l 5, wordOf l 6] 2).toArray by
          rw [setCell_eq_setRow wr _ _ _ _ _ _ HROW.out, HWR.out, setRow_setRow]
          rfl)
        go_wp2_with fail
        refine (lowest_any ((l.drop 12).take 8) w.heap.size 12 52 wr (by simp [hl]) (oct_part l _ _ HX.out) (bs_mid wr _ 32 l 12 8 (by rw [HF.out]; exact HA.out) (by omega))).mono ?_
        rintro e wc ⟨rfl, rfl⟩
        go_wp2
        go_roundw
        case rel => exact ⟨2, by omega, by go_num, HN.out⟩
        case measure => simp [intOf]
      · have cf : wr.cell? ⟨w.heap.size + 1 + 1, 3, none⟩ = some (.int .u64 0) := by rw [cell_of_row wr _ _ _ _ _ HROW.out]; rfl
        have ff : wr.frozen? ⟨w.heap.size + 1 + 1, 3, none⟩ = false := frozen_of_row wr _ _ _ _ HROW.out
        have HN := hid (show wr.setCell ⟨w.heap.size + 1 + 1, 3, none⟩ (.int .u64 (num ((l.drop 20).take 8) : Nat)) = W.setRow (w.heap.size + 2) (rowF k [wordOf l 0, wordOf l 1, wordOf l 2, wordOf l 3, wordOf l 4, wordOf l 5, wordOf l 6] 3).toArray by
          rw [setCell_eq_setRow wr _ _ _ _ _ _ HROW.out, HWR.out, setRow_setRow]
          rfl)
        go_wp2_with fail
        refine (lowest_any ((l.drop 20).take 8) w.heap.size 20 44 wr (by simp [hl]) (oct_part l _ _ HX.out) (bs_mid wr _ 32 l 20 8 (by rw [HF.out]; exact HA.out) (by omega))).mono ?_
        rintro e wc ⟨rfl, rfl⟩
        go_wp2
        go_roundw
        case rel => exact ⟨3, by omega, by go_num, HN.out⟩
        case measure => simp [intOf]
      · have cf : wr.cell? ⟨w.heap.size + 1 + 1, 4, none⟩ = some (.int .u64 0) := by rw [cell_of_row wr _ _ _ _ _ HROW.out]; rfl
        have ff : wr.frozen? ⟨w.heap.size + 1 + 1, 4, none⟩ = false := frozen_of_row wr _ _ _ _ HROW.out
        have HN := hid (show wr.setCell ⟨w.heap.size + 1 + 1, 4, none⟩ (.int .u64 (num ((l.drop 28).take 8) : Nat)) = W.setRow (w.heap.size + 2) (rowF k [wordOf l 0, wordOf l 1, wordOf l 2, wordOf l 3, wordOf l 4, wordOf l 5, wordOf l 6] 4).toArray by
          rw [setCell_eq_setRow wr _ _ _ _ _ _ HROW.out, HWR.out, setRow_setRow]
          rfl)
        go_wp2_with fail
        refine (lowest_any ((l.drop 28).take 8) w.heap.size 28 36 wr (by simp [hl]) (oct_part l _ _ HX.out) (bs_mid wr _ 32 l 28 8 (by rw [HF.out]; exact HA.out) (by omega))).mono ?_
        rintro e wc ⟨rfl, rfl⟩
        go_wp2
        go_roundw
        case rel => exact ⟨4, by omega, by go_num, HN.out⟩
        case measure => simp [intOf]
      · have cf : wr.cell? ⟨w.heap.size + 1 + 1, 5, none⟩ = some (.int .u64 0) := by rw [cell_of_row wr _ _ _ _ _ HROW.out]; rfl
        have ff : wr.frozen? ⟨w.heap.size + 1 + 1, 5, none⟩ = false := frozen_of_row wr _ _ _ _ HROW.out
        have HN := hid (show wr.setCell ⟨w.heap.size + 1 + 1, 5, none⟩ (.int .u64 (num ((l.drop 36).take 8) : Nat)) = W.setRow (w.heap.size + 2) (rowF k [wordOf l 0, wordOf l 1, wordOf l 2, wordOf l 3, wordOf l 4, wordOf l 5, wordOf l 6] 5).toArray by
          rw [setCell_eq_setRow wr _ _ _ _ _ _ HROW.out, HWR.out, setRow_setRow]
          rfl)
        go_wp2_with fail
        refine (lowest_any ((l.drop 36).take 8) w.heap.size 36 28 wr (by simp [hl]) (oct_part l _ _ HX.out) (bs_mid wr _ 32 l 36 8 (by rw [HF.out]; exact HA.out) (by omega))).mono ?_
        rintro e wc ⟨rfl, rfl⟩
        go_wp2
        go_roundw
        case rel => exact ⟨5, by omega, by go_num, HN.out⟩
        case measure => simp [intOf]
      · have cf : wr.cell? ⟨w.heap.size + 1 + 1, 6, none⟩ = some (.int .u64 0) := by rw [cell_of_row wr _ _ _ _ _ HROW.out]; rfl
        have ff : wr.frozen? ⟨w.heap.size + 1 + 1, 6, none⟩ = false := frozen_of_row wr _ _ _ _ HROW.out
        have HN := hid (show wr.setCell ⟨w.heap.size + 1 + 1, 6, none⟩ (.int .u64 (num ((l.drop 44).take 8) : Nat)) = W.setRow (w.heap.size + 2) (rowF k [wordOf l 0, wordOf l 1, wordOf l 2, wordOf l 3, wordOf l 4, wordOf l 5, wordOf l 6] 6).toArray by
          rw [setCell_eq_setRow wr _ _ _ _ _ _ HROW.out, HWR.out, setRow_setRow]
          rfl)
        go_wp2_with fail
        refine (lowest_any ((l.drop 44).take 8) w.heap.size 44 20 wr (by simp [hl]) (oct_part l _ _ HX.out) (bs_mid wr _ 32 l 44 8 (by rw [HF.out]; exact HA.out) (by omega))).mono ?_
        rintro e wc ⟨rfl, rfl⟩
        go_wp2
        go_roundw
        case rel => exact ⟨6, by omega, by go_num, HN.out⟩
        case measure => simp [intOf]
      · have cf : wr.cell? ⟨w.heap.size + 1 + 1, 7, none⟩ = some (.int .u64 0) := by rw [cell_of_row wr _ _ _ _ _ HROW.out]; rfl
        have ff : wr.frozen? ⟨w.heap.size + 1 + 1, 7, none⟩ = false := frozen_of_row wr _ _ _ _ HROW.out
        have HN := hid (show wr.setCell ⟨w.heap.size + 1 + 1, 7, none⟩ (.int .u64 (num ((l.drop 52).take 8) : Nat)) = W.setRow (w.heap.size + 2) (rowF k [wordOf l 0, wordOf l 1, wordOf l 2, wordOf l 3, wordOf l 4, wordOf l 5, wordOf l 6] 7).toArray by
          rw [setCell_eq_setRow wr _ _ _ _ _ _ HROW.out, HWR.out, setRow_setRow]
          rfl)
        go_wp2_with fail
        refine (lowest_any ((l.drop 52).take 8) w.heap.size 52 12 wr (by simp [hl]) (oct_part l _ _ HX.out) (bs_mid wr _ 32 l 52 8 (by rw [HF.out]; exact HA.out) (by omega))).mono ?_
        rintro e wc ⟨rfl, rfl⟩
        go_wp2
        go_roundw
        case rel => exact ⟨7, by omega, by go_num, HN.out⟩
        case measure => simp [intOf]
end Go.Proofs.YtffgcdhhjboppaaDoor
