/-
  Contract: wire.Unpack.
-/
import Derived.Test.YtocmgfhfancgnaaDoorReadA
import Derived.Test.YtocmgfhfancgnaaDoorEqB
namespace Go.Proofs.YtocmgfhfancgnaaDoor
open Go.RowKit Go.Deep Crc
set_option linter.unusedVariables false

/-- a frame in memory, as cells. -/
def fz : Array Value := (rowF 0 [] 0).toArray
theorem fz_one : fz.all (·.oneCell') = true := all_oneCell_toArray (rowF_one _ _ _)
theorem fz_info : (Tryd.prog.info? 31).map (·.size) = some fz.size := info31
theorem res_row (fn : Func) (p u : Tmp) (h : fn.results = #[.cell p 31, .tmp u]) (tmps : Array Value) (w : World) (g : Nat) (cs : Array Value) (e : Value)
    (hp : tmps.getD p undef = .pointer (some ⟨g, 0, none⟩)) (hu : tmps.getD u undef = e) (hg : w.heap[g]? = some (.cells cs 31 (0, 0))) (hi : (Tryd.prog.info? 31).map (·.size) = some cs.size) :
    (results fn tmps).run Tryd.prog w = .ok (.tuple #[.agg cs, e]) w := by
  rw [results_cell_tmp h, hp, hu]
  simp [asAddr, run_loadVar_row w g 31 31 cs (0, 0) _ hg Tryd.underlying31 rfl hi]

set_option maxHeartbeats 400000 in
theorem unpack_short (p : Option Addr) (n cap : Nat) (w : World) (h : n < 64) :
    Calls Tryd.prog 15 #[.slice p n cap] w fun e w' => e = .returned (.tuple #[.agg fz, .int .i64 20]) ∧ Below w.heap.size w w' := by
  have h' : (n : Int) < 64 := by omega
  have hz : (w.alloc (.cells fz 31)).heap[w.heap.size]? = some (.cells fz 31 (0, 0)) := heap_alloc_new _ _
  go_enter Tryd.func15, Tryd.ntmps15
  go_wp2_with (first | (refine wpList_store_row (by rfl) 31 (.tmp 2) (.tmp 10) (by rfl) w.heap.size fz (by rfl) (by rfl) 31 fz hz fz_info rfl fz_one ?_))
  exact bodyPost_ret (res_row Tryd.f15 2 3 Tryd.results15 _ _ w.heap.size fz _ (by rfl) (by rfl) (setRow_heap _ _ _ _ 31 (0, 0) hz) fz_info) rfl ⟨rfl, below_setRow ((Below.refl w.heap.size w).alloc (Nat.le_refl _) _) (Nat.le_refl _) _⟩
set_option maxHeartbeats 400000 in
theorem unpack_long (p : Option Addr) (n cap : Nat) (w : World) (h : 64 < n) (hn : n < 9223372036854775808) :
    Calls Tryd.prog 15 #[.slice p n cap] w fun e w' => e = .returned (.tuple #[.agg fz, .int .i64 2]) ∧ Below w.heap.size w w' := by
  have h' : (64 : Int) < (n : Int) := by omega
  have hz : (w.alloc (.cells fz 31)).heap[w.heap.size]? = some (.cells fz 31 (0, 0)) := heap_alloc_new _ _
  go_enter Tryd.func15, Tryd.ntmps15
  go_wp2_with (first | (refine wpList_store_row (by rfl) 31 (.tmp 2) (.tmp 14) (by rfl) w.heap.size fz (by rfl) (by rfl) 31 fz hz fz_info rfl fz_one ?_))
  exact bodyPost_ret (res_row Tryd.f15 2 3 Tryd.results15 _ _ w.heap.size fz _ (by rfl) (by rfl) (setRow_heap _ _ _ _ 31 (0, 0) hz) fz_info) rfl ⟨rfl, below_setRow ((Below.refl w.heap.size w).alloc (Nat.le_refl _) _) (Nat.le_refl _) _⟩

theorem eq4 (a b c d a' b' c' d' : Int) (w : World) : (Op.equalIn 10000 66 (.agg #[.int .u8 a, .int .u8 b, .int .u8 c, .int .u8 d]) (.agg #[.int .u8 a', .int .u8 b', .int .u8 c', .int .u8 d'])).run Tryd.prog w = .ok (a == a' && (b == b' && (c == c' && d == d'))) w := by
  have u3 := Tryd.underlying5
  have a3 := Tryd.isAgg5
  have z3 := Tryd.sizeOf5
  rw [show (10000 : Nat) = 9999 + 1 from rfl, Op.equalIn]
  simp only [Sem.run_bind, run_underlying Tryd.underlying66, Result.andThen_ok]
  simp only [Std.Legacy.Range.forIn_eq_forIn_range', Std.Legacy.Range.size, Nat.sub_zero, Nat.add_sub_cancel, Nat.div_one, List.range'_succ, List.range'_zero, List.forIn_cons, List.forIn_nil]
  go_simp
  by_cases h1 : a = a' <;> by_cases h2 : b = b' <;> by_cases h3 : c = c' <;> by_cases h4 : d = d' <;> simp [h1, h2, h3, h4]

/-- the head, in memory: what is copied in lies there. -/
theorem splice_all {α : Type} (L X : List α) (h : X.length = L.length) : splice L 0 X = X := by
  unfold splice
  rw [h]
  simp
theorem info66 : (Tryd.prog.info? 66).map (·.size) = some 4 := by kernel_rfl
/-- do the bytes begin as a frame? -/
def headed (xs : List Nat) : Prop := xs.getD 0 0 = 66 ∧ xs.getD 1 0 = 70 ∧ xs.getD 3 0 = 0
theorem bs_add {w : World} {b o : Nat} {xs : List Nat} (h : Bs w b o xs) (j : Nat) (v : Value) (hj : (bv xs)[j]? = some v) : w.cell? ((⟨b, o, none⟩ : Addr).add j) = some v := by
  rw [Addr.add_mid]
  have hl : j < xs.length := by
    have := (List.getElem?_eq_some_iff.1 hj).1
    rwa [bv_len] at this
  rw [h j hl, ← hj]
  simp [bv, hl]
theorem bs_to {w w' : World} {b o : Nat} {xs : List Nat} (h : Bs w b o xs) (hb : Below w.heap.size w w') : Bs w' b o xs := by
  intro i hi
  have := h i hi
  exact (hb.cell (block_lt_of_cell this)).trans this
theorem bs_take {w : World} {b o : Nat} {xs : List Nat} (h : Bs w b o xs) (n : Nat) : Bs w b o (xs.take n) := by
  intro i hi
  simp at hi
  have := h i (by omega)
  simpa using this

/-- the frame that bytes say, and its bytes. -/
def readV (xs : List Nat) : Value := fv (xs.getD 2 0) (wordOf xs 0) (wordOf xs 1) (wordOf xs 2) (wordOf xs 3) (wordOf xs 4) (wordOf xs 5) (wordOf xs 6)
def again (xs : List Nat) : List Nat := frame (xs.getD 2 0) [wordOf xs 0, wordOf xs 1, wordOf xs 2, wordOf xs 3, wordOf xs 4, wordOf xs 5, wordOf xs 6]
/-- what comes of bytes of a frame's number. -/
def UnpP (xs : List Nat) (e : Ending) : Prop :=
  (¬ headed xs ∧ e = .returned (.tuple #[.agg fz, .int .i64 22])) ∨ (headed xs ∧ ¬ xs = again xs ∧ e = .returned (.tuple #[.agg fz, .int .i64 21])) ∨ (headed xs ∧ xs = again xs ∧ e = .returned (.tuple #[readV xs, .int .i64 0]))
theorem word_lt (xs : List Nat) (h : Oct xs) (i : Nat) : wordOf xs i < 18446744073709551616 := by
  have := num_lt _ (oct_part xs (4 + 8 * i) 8 h)
  have h2 : 256 ^ ((xs.drop (4 + 8 * i)).take 8).length ≤ 256 ^ 8 := Nat.pow_le_pow_right (by decide) (by simp; omega)
  unfold wordOf
  omega
theorem take4 (xs : List Nat) (h : 4 ≤ xs.length) : xs.take 4 = [xs.getD 0 0, xs.getD 1 0, xs.getD 2 0, xs.getD 3 0] := by
  match xs, h with
  | a :: b :: c :: d :: r, _ => rfl
/-- five cells, and what was there. -/
def Five (W w' : World) (h r : Nat) (x0 x1 x2 x3 : Nat) : Prop :=
  (w'.cell? ⟨h, 0, none⟩ = some (.int .u8 (x0 : Nat)) ∧ w'.cell? ⟨h, 1, none⟩ = some (.int .u8 (x1 : Nat)) ∧ w'.cell? ⟨h, 2, none⟩ = some (.int .u8 (x2 : Nat)) ∧ w'.cell? ⟨h, 3, none⟩ = some (.int .u8 (x3 : Nat)) ∧ w'.cell? ⟨r, 2, none⟩ = some (.int .u8 (x2 : Nat))) ∧ Below W.heap.size W w'
theorem Five.to {W w' : World} {h r x0 x1 x2 x3 : Nat} (k : Five W W h r x0 x1 x2 x3) (hb : Below W.heap.size W w') : Five W w' h r x0 x1 x2 x3 := by
  obtain ⟨⟨c0, c1, c2, c3, c4⟩, _⟩ := k
  exact ⟨⟨(hb.cell (block_lt_of_cell c0)).trans c0, (hb.cell (block_lt_of_cell c1)).trans c1, (hb.cell (block_lt_of_cell c2)).trans c2, (hb.cell (block_lt_of_cell c3)).trans c3, (hb.cell (block_lt_of_cell c4)).trans c4⟩, hb⟩
set_option maxHeartbeats 1000000 in
set_option maxRecDepth 100000 in
theorem unpack_whole (xs : List Nat) (b o cap : Nat) (w : World) (hl : xs.length = 64) (hx : Oct xs) (hB : Bs w b o xs) (hL : Laid w) :
    Calls Tryd.prog 15 #[.slice (some ⟨b, o, none⟩) 64 cap] w fun e w' => UnpP xs e ∧ Below w.heap.size w w' := by
  have HX := hid hx
  have HB := hid hB
  have HL := hid hL
  clear hx hB hL
  have hz0 := hid (show ((w.alloc (.cells fz 31)).alloc (.cells (zs 64).toArray 32)).heap[w.heap.size + 1]? = some (.cells (zs 64).toArray 32 (0, 0)) from heap_alloc2_new w _ _)
  have hz1 := hid (show (w.alloc (.cells fz 31)).heap[w.heap.size]? = some (.cells fz 31 (0, 0)) from heap_alloc_new w _)
  have hb0 := hid (show Below w.heap.size w ((w.alloc (.cells fz 31)).alloc (.cells (zs 64).toArray 32)) from ((Below.refl w.heap.size w).alloc (Nat.le_refl _) _).alloc (by simp) _)
  have hb1 := hid (show Below (w.heap.size + 1) (w.alloc (.cells fz 31)) ((w.alloc (.cells fz 31)).alloc (.cells (zs 64).toArray 32)) from (Below.refl _ _).alloc (by simp) _)
  have hB1 := hid (bs_to HB.out hb0.out)
  have hn1 := hid (show (bv xs).length = Nat.min 64 64 by rw [bv_len, hl]; decide)
  have hf1 := hid (show 0 + (bv xs).length ≤ (zs 64).length by rw [bv_len, hl]; simp [zs])
  go_enter Tryd.func15, Tryd.ntmps15
  go_wp2_with (first
    | (refine wpList_copy_splice (by rfl) (.tmp 15) (.tmp 16) 22 22 (by rfl) 5 Tryd.underlying22 info5 (some ⟨w.heap.size + 1, 0, none⟩) (some ⟨b, o, none⟩) 64 64 64 cap (by rfl) (by rfl) (w.heap.size + 1) 0 (zs 64) 32 hz0.out (bv xs) hn1.out (fun _ => ⟨rfl, _, rfl, bs_add hB1.out⟩) hf1.out (bv_one _) (w.heap.size + 1) (w.alloc (.cells fz 31)) hb1.out (Nat.le_refl _) ?_; intro w1 hg1 hbb; rw [splice_all (zs 64) (bv xs) (by simp [bv_len, hl, zs])] at hg1; have hr := hid (show w1.heap[w.heap.size]? = some (.cells fz 31 (0, 0)) by rw [blk_to hbb (by omega)]; exact hz1.out); have hbw := hid (show Below w.heap.size w w1 from ((Below.refl w.heap.size w).alloc (Nat.le_refl _) _).trans (hbb.mono (by omega))); have hB2 := hid (bs_take (bs_to HB.out hbw.out) 4); have hsz : w.heap.size + 1 < w1.heap.size := (Array.getElem?_eq_some_iff.1 hg1.out).1; have HG1 := hid hg1.out; clear hb0 hb1 hB1 hz0 hz1 hbb hg1; have l4 : (bv (xs.take 4)).length = 4 := (by simp [bv_len, hl]); have hz4 := hid (show (w1.alloc (.cells (zs 4).toArray 66)).heap[w1.heap.size]? = some (.cells (zs 4).toArray 66 (0, 0)) from heap_alloc_new w1 _); have hb4 := hid (show Below w1.heap.size w1 (w1.alloc (.cells (zs 4).toArray 66)) from (Below.refl _ _).alloc (Nat.le_refl _) _); have hB4 := hid (bs_to hB2.out hb4.out); have hn4 := hid (show (bv (xs.take 4)).length = Nat.min 64 4 by rw [l4]; decide); have hf4 := hid (show 0 + (bv (xs.take 4)).length ≤ (zs 4).length by rw [l4]; simp [zs]))
    | (refine wpList_copy_splice (by rfl) (.tmp 18) (.tmp 19) 22 22 (by rfl) 5 Tryd.underlying22 info5 (some ⟨w1.heap.size, 0, none⟩) (some ⟨b, o, none⟩) 4 4 64 cap (by rfl) (by rfl) w1.heap.size 0 (zs 4) 66 hz4.out (bv (xs.take 4)) hn4.out (fun _ => ⟨rfl, _, rfl, bs_add hB4.out⟩) hf4.out (bv_one _) w1.heap.size w1 hb4.out (Nat.le_refl _) ?_; intro w2 hg2 hbb))
  rw [splice_all (zs 4) (bv (xs.take 4)) (by rw [l4]; simp [zs]), take4 xs (by omega)] at hg2
  obtain ⟨x0, hx0⟩ : ∃ x, xs.getD 0 0 = x := ⟨_, rfl⟩
  obtain ⟨x1, hx1⟩ : ∃ x, xs.getD 1 0 = x := ⟨_, rfl⟩
  obtain ⟨x2, hx2⟩ : ∃ x, xs.getD 2 0 = x := ⟨_, rfl⟩
  obtain ⟨x3, hx3⟩ : ∃ x, xs.getD 3 0 = x := ⟨_, rfl⟩
  rw [hx0, hx1, hx2, hx3] at hg2
  have HR2 := hid (show w2.heap[w.heap.size]? = some (.cells fz 31 (0, 0)) by rw [blk_to hbb (by omega)]; exact hr.out)
  have HW2 := hid (show w2.heap[w.heap.size + 1]? = some (.cells (bv xs).toArray 32 (0, 0)) by rw [blk_to hbb (by omega)]; exact HG1.out)
  have HBw2 := hid (hbw.out.trans (hbb.mono (by omega)))
  have H5 := hid (show Five w2 w2 w1.heap.size (w.heap.size + 1) x0 x1 x2 x3 from ⟨⟨by rw [cell_of_row w2 _ _ _ _ _ hg2.out]; rfl, by rw [cell_of_row w2 _ _ _ _ _ hg2.out]; rfl, by rw [cell_of_row w2 _ _ _ _ _ hg2.out]; rfl, by rw [cell_of_row w2 _ _ _ _ _ hg2.out]; rfl, by rw [cell_of_row w2 _ _ _ _ _ HW2.out, ← hx2]; simp [bv, hl]⟩, Below.refl _ _⟩)
  have hsz2 : w.heap.size + 1 < w2.heap.size := Nat.lt_of_lt_of_le hsz hbb.size
  have hq := eq4
  have X0 := hid hx0
  have X1 := hid hx1
  have X2 := hid hx2
  have X3 := hid hx3
  clear hg2 hbb hz4 hb4 hB4 hn4 hf4 l4 hB2 hr hbw HG1 hn1 hf1 hx0 hx1 hx2 hx3 hsz
  (try simp only [Act.put, List.setIfInBounds_toArray, List.set_cons_zero, List.set_cons_succ])
  go_region_held3 (fun w' => (w'.cell? ⟨w1.heap.size, 0, none⟩ = some (.int .u8 (x0 : Nat)) ∧ w'.cell? ⟨w1.heap.size, 1, none⟩ = some (.int .u8 (x1 : Nat)) ∧ w'.cell? ⟨w1.heap.size, 2, none⟩ = some (.int .u8 (x2 : Nat)) ∧ w'.cell? ⟨w1.heap.size, 3, none⟩ = some (.int .u8 (x3 : Nat)) ∧ w'.cell? ⟨w.heap.size + 1, 2, none⟩ = some (.int .u8 (x2 : Nat))) ∧ Below w2.heap.size w2 w')
    (first | exact H5.out.to (Below.drew (Below.refl _ _)) | exact H5.out.to HK.out)
    ((go_at_call 26; refine (headOf_any _ _).mono ?_; rintro e w3 ⟨rfl, hbk⟩; have HK := hid (show Below w2.heap.size w2 w3 from (btr (Below.drew (Below.refl _ _)) hbk)); clear hbk))
  have HR3 := hid (show w3.heap[w.heap.size]? = some (.cells fz 31 (0, 0)) by rw [blk_to HK.out (by omega)]; exact HR2.out)
  have HW3 := hid (show w3.heap[w.heap.size + 1]? = some (.cells (bv xs).toArray 32 (0, 0)) by rw [blk_to HK.out (by omega)]; exact HW2.out)
  have HB3 := hid (btr HBw2.out HK.out)
  have hsz3 : w.heap.size + 1 < w3.heap.size := Nat.lt_of_lt_of_le hsz2 HK.out.size
  clear hq H5 HK HR2 HW2 HBw2 hsz2
  by_cases hh : headed xs
  · have hx0 : (x0 : Int) = 66 := by have := hh.1; rw [X0.out] at this; omega
    have hx1 : (x1 : Int) = 70 := by have := hh.2.1; rw [X1.out] at this; omega
    have hx3 : (x3 : Int) = 0 := by have := hh.2.2; rw [X3.out] at this; omega
    have e0 : ((x0 : Int) == 66) = true := by simpa using hx0
    have e1 : ((x1 : Int) == 70) = true := by simpa using hx1
    have e3 : ((x3 : Int) == 0) = true := by simpa using hx3
    have HH := hid hh
    have hv : (!((x0 : Int) == 66) || (!((x1 : Int) == 70) || !((x3 : Int) == 0))) = false := by rw [e0, e1, e3]; rfl
    rw [hv]
    clear hh hx0 hx1 hx3 e0 e1 e3 hv
    obtain ⟨F, hF⟩ : ∃ F, (bv xs).toArray = F := ⟨_, rfl⟩
    have F64 := hid (show F.size = 64 by rw [← hF]; simp [bv_len, hl])
    rw [hF] at HW3
    have HF := hid hF
    have i64 := hid (show (Tryd.prog.info? 32).map (·.size) = some F.size by rw [F64.out]; exact info32)
    clear hF
    obtain ⟨a0, ha0⟩ : ∃ a, wordOf xs 0 = a := ⟨_, rfl⟩
    obtain ⟨a1, ha1⟩ : ∃ a, wordOf xs 1 = a := ⟨_, rfl⟩
    obtain ⟨a2, ha2⟩ : ∃ a, wordOf xs 2 = a := ⟨_, rfl⟩
    obtain ⟨a3, ha3⟩ : ∃ a, wordOf xs 3 = a := ⟨_, rfl⟩
    obtain ⟨a4, ha4⟩ : ∃ a, wordOf xs 4 = a := ⟨_, rfl⟩
    obtain ⟨a5, ha5⟩ : ∃ a, wordOf xs 5 = a := ⟨_, rfl⟩
    obtain ⟨a6, ha6⟩ : ∃ a, wordOf xs 6 = a := ⟨_, rfl⟩
    have HRV := hid (show readV xs = fv x2 a0 a1 a2 a3 a4 a5 a6 by unfold readV; rw [X2.out, ha0, ha1, ha2, ha3, ha4, ha5, ha6])
    have CR := hid (show ∀ w : World, Calls Tryd.prog 29 #[.agg F] w fun e w' => e = .returned (.agg #[.int .u8 (x2 : Nat), .int .u64 (a0 : Nat), .int .u64 (a1 : Nat), .int .u64 (a2 : Nat), .int .u64 (a3 : Nat), .int .u64 (a4 : Nat), .int .u64 (a5 : Nat), .int .u64 (a6 : Nat)]) ∧ Below w.heap.size w w' from fun w => by
      have h := read_any xs F w hl HX.out HF.out
      rw [X2.out, ha0, ha1, ha2, ha3, ha4, ha5, ha6] at h
      exact h)
    have hx2 : x2 < 256 := by
      have h2 : 2 < xs.length := (by omega)
      have e2 : xs.getD 2 0 = xs[2] := (by simp [List.getD, h2])
      rw [← X2.out, e2]
      exact HX.out _ (List.getElem_mem h2)
    have CP := hid (show ∀ w : World, Laid w → Calls Tryd.prog 13 #[.agg #[.int .u8 (x2 : Nat), .int .u64 (a0 : Nat), .int .u64 (a1 : Nat), .int .u64 (a2 : Nat), .int .u64 (a3 : Nat), .int .u64 (a4 : Nat), .int .u64 (a5 : Nat), .int .u64 (a6 : Nat)]] w fun e w' => e = .returned (.agg (bv (again xs)).toArray) ∧ Below w.heap.size w w' from fun w hL => by
      unfold again
      rw [X2.out, ha0, ha1, ha2, ha3, ha4, ha5, ha6]
      exact pack_any x2 a0 a1 a2 a3 a4 a5 a6 w hL hx2 (ha0 ▸ word_lt xs HX.out 0) (ha1 ▸ word_lt xs HX.out 1) (ha2 ▸ word_lt xs HX.out 2) (ha3 ▸ word_lt xs HX.out 3) (ha4 ▸ word_lt xs HX.out 4) (ha5 ▸ word_lt xs HX.out 5) (ha6 ▸ word_lt xs HX.out 6))
    have HEQ := hid (show ∀ w : World, (Op.equalIn 10000 32 (.agg (bv xs).toArray) (.agg (bv (again xs)).toArray)).run Tryd.prog w = .ok (decide (xs = again xs)) w from fun w => eq_bytes 32 64 Tryd.underlying32 xs (again xs) hl (frame_len _ _ rfl) w)
    clear ha0 ha1 ha2 ha3 ha4 ha5 ha6 hx2
    go_wp2_with (first | (refine wpList_load_row (by rfl) 32 (.tmp 4) (by rfl) (w.heap.size + 1) (by rfl) 32 F (0, 0) _ HW3.out Tryd.underlying32 rfl i64.out ?_) | (go_at_call 29; refine (CR.out _).mono ?_; rintro e w4 ⟨rfl, hbk⟩; have HK4 := hid hbk; clear hbk))
    have HR4 := hid (show (w4.alloc (.cells #[.int .u8 (x2 : Nat), .int .u64 (a0 : Nat), .int .u64 (a1 : Nat), .int .u64 (a2 : Nat), .int .u64 (a3 : Nat), .int .u64 (a4 : Nat), .int .u64 (a5 : Nat), .int .u64 (a6 : Nat)] 31)).heap[w.heap.size]? = some (.cells fz 31 (0, 0)) by
      rw [heap_alloc_old _ _ (by have := HK4.out.size; omega), blk_to HK4.out (by omega)]; exact HR3.out)
    have HW4 := hid (show (w4.alloc (.cells #[.int .u8 (x2 : Nat), .int .u64 (a0 : Nat), .int .u64 (a1 : Nat), .int .u64 (a2 : Nat), .int .u64 (a3 : Nat), .int .u64 (a4 : Nat), .int .u64 (a5 : Nat), .int .u64 (a6 : Nat)] 31)).heap[w.heap.size + 1]? = some (.cells (bv xs).toArray 32 (0, 0)) by
      rw [heap_alloc_old _ _ (by have := HK4.out.size; omega), blk_to HK4.out (by omega), HF.out]; exact HW3.out)
    have HG4 := hid (show (w4.alloc (.cells #[.int .u8 (x2 : Nat), .int .u64 (a0 : Nat), .int .u64 (a1 : Nat), .int .u64 (a2 : Nat), .int .u64 (a3 : Nat), .int .u64 (a4 : Nat), .int .u64 (a5 : Nat), .int .u64 (a6 : Nat)] 31)).heap[w4.heap.size]? = some (.cells #[.int .u8 (x2 : Nat), .int .u64 (a0 : Nat), .int .u64 (a1 : Nat), .int .u64 (a2 : Nat), .int .u64 (a3 : Nat), .int .u64 (a4 : Nat), .int .u64 (a5 : Nat), .int .u64 (a6 : Nat)] 31 (0, 0)) from heap_alloc_new _ _)
    have HB4 := hid (bal (btr HB3.out HK4.out) (.cells #[.int .u8 (x2 : Nat), .int .u64 (a0 : Nat), .int .u64 (a1 : Nat), .int .u64 (a2 : Nat), .int .u64 (a3 : Nat), .int .u64 (a4 : Nat), .int .u64 (a5 : Nat), .int .u64 (a6 : Nat)] 31))
    have hz4 : w.heap.size + 1 < w4.heap.size := Nat.lt_of_lt_of_le hsz3 HK4.out.size
    obtain ⟨W5, hW5⟩ : ∃ W, w4.alloc (.cells #[.int .u8 (x2 : Nat), .int .u64 (a0 : Nat), .int .u64 (a1 : Nat), .int .u64 (a2 : Nat), .int .u64 (a3 : Nat), .int .u64 (a4 : Nat), .int .u64 (a5 : Nat), .int .u64 (a6 : Nat)] 31) = W := ⟨_, rfl⟩
    rw [hW5] at HR4 HW4 HG4 HB4 ⊢
    clear hW5 HK4 HR3 HW3 HB3 hsz3
    have HL5 := hid (laid_to HL.out HB4.out)
    have k0 : W5.cell? ⟨w4.heap.size, 0, none⟩ = some (.int .u8 (x2 : Nat)) := by rw [cell_of_row W5 _ _ _ _ _ HG4.out]; rfl
    have k1 : W5.cell? ⟨w4.heap.size, 1, none⟩ = some (.int .u64 (a0 : Nat)) := by rw [cell_of_row W5 _ _ _ _ _ HG4.out]; rfl
    have k2 : W5.cell? ⟨w4.heap.size, 2, none⟩ = some (.int .u64 (a1 : Nat)) := by rw [cell_of_row W5 _ _ _ _ _ HG4.out]; rfl
    have k3 : W5.cell? ⟨w4.heap.size, 3, none⟩ = some (.int .u64 (a2 : Nat)) := by rw [cell_of_row W5 _ _ _ _ _ HG4.out]; rfl
    have k4 : W5.cell? ⟨w4.heap.size, 4, none⟩ = some (.int .u64 (a3 : Nat)) := by rw [cell_of_row W5 _ _ _ _ _ HG4.out]; rfl
    have k5 : W5.cell? ⟨w4.heap.size, 5, none⟩ = some (.int .u64 (a4 : Nat)) := by rw [cell_of_row W5 _ _ _ _ _ HG4.out]; rfl
    have k6 : W5.cell? ⟨w4.heap.size, 6, none⟩ = some (.int .u64 (a5 : Nat)) := by rw [cell_of_row W5 _ _ _ _ _ HG4.out]; rfl
    have k7 : W5.cell? ⟨w4.heap.size, 7, none⟩ = some (.int .u64 (a6 : Nat)) := by rw [cell_of_row W5 _ _ _ _ _ HG4.out]; rfl
    have HS5 := hid (show (W5.rangeAt (w.heap.size + 1) 0 (bv xs) ∧ W5.cell? ⟨w4.heap.size, 0, none⟩ = some (.int .u8 (x2 : Nat)) ∧ W5.cell? ⟨w4.heap.size, 1, none⟩ = some (.int .u64 (a0 : Nat)) ∧ W5.cell? ⟨w4.heap.size, 2, none⟩ = some (.int .u64 (a1 : Nat)) ∧ W5.cell? ⟨w4.heap.size, 3, none⟩ = some (.int .u64 (a2 : Nat)) ∧ W5.cell? ⟨w4.heap.size, 4, none⟩ = some (.int .u64 (a3 : Nat)) ∧ W5.cell? ⟨w4.heap.size, 5, none⟩ = some (.int .u64 (a4 : Nat)) ∧ W5.cell? ⟨w4.heap.size, 6, none⟩ = some (.int .u64 (a5 : Nat)) ∧ W5.cell? ⟨w4.heap.size, 7, none⟩ = some (.int .u64 (a6 : Nat))) from ⟨fun j v hj => by rw [cell_of_row W5 _ _ _ _ _ HW4.out, Nat.zero_add]; simpa using hj, k0, k1, k2, k3, k4, k5, k6, k7⟩)
    clear k0 k1 k2 k3 k4 k5 k6 k7
    have keep : ∀ w' : World, Below W5.heap.size W5 w' → (w'.rangeAt (w.heap.size + 1) 0 (bv xs) ∧ w'.cell? ⟨w4.heap.size, 0, none⟩ = some (.int .u8 (x2 : Nat)) ∧ w'.cell? ⟨w4.heap.size, 1, none⟩ = some (.int .u64 (a0 : Nat)) ∧ w'.cell? ⟨w4.heap.size, 2, none⟩ = some (.int .u64 (a1 : Nat)) ∧ w'.cell? ⟨w4.heap.size, 3, none⟩ = some (.int .u64 (a2 : Nat)) ∧ w'.cell? ⟨w4.heap.size, 4, none⟩ = some (.int .u64 (a3 : Nat)) ∧ w'.cell? ⟨w4.heap.size, 5, none⟩ = some (.int .u64 (a4 : Nat)) ∧ w'.cell? ⟨w4.heap.size, 6, none⟩ = some (.int .u64 (a5 : Nat)) ∧ w'.cell? ⟨w4.heap.size, 7, none⟩ = some (.int .u64 (a6 : Nat))) ∧ Below W5.heap.size W5 w' := by
      intro w' hb
      obtain ⟨r, k0, k1, k2, k3, k4, k5, k6, k7⟩ := HS5.out
      have cc : ∀ {a : Addr} {v : Value}, W5.cell? a = some v → w'.cell? a = some v := fun h => (hb.cell (block_lt_of_cell h)).trans h
      exact ⟨⟨fun j v hj => cc (r j v hj), cc k0, cc k1, cc k2, cc k3, cc k4, cc k5, cc k6, cc k7⟩, hb⟩
    have KEEP := hid keep
    clear keep HS5
    have hu := Tryd.underlying32
    have hi : (Tryd.prog.info? 32).map (·.size) = some (bv xs).length := by rw [bv_len, hl]; exact info32
    have heq := HEQ.out
    (try simp only [Act.put, List.setIfInBounds_toArray, List.set_cons_zero, List.set_cons_succ])
    go_region_held3 (fun w' => (w'.rangeAt (w.heap.size + 1) 0 (bv xs) ∧ w'.cell? ⟨w4.heap.size, 0, none⟩ = some (.int .u8 (x2 : Nat)) ∧ w'.cell? ⟨w4.heap.size, 1, none⟩ = some (.int .u64 (a0 : Nat)) ∧ w'.cell? ⟨w4.heap.size, 2, none⟩ = some (.int .u64 (a1 : Nat)) ∧ w'.cell? ⟨w4.heap.size, 3, none⟩ = some (.int .u64 (a2 : Nat)) ∧ w'.cell? ⟨w4.heap.size, 4, none⟩ = some (.int .u64 (a3 : Nat)) ∧ w'.cell? ⟨w4.heap.size, 5, none⟩ = some (.int .u64 (a4 : Nat)) ∧ w'.cell? ⟨w4.heap.size, 6, none⟩ = some (.int .u64 (a5 : Nat)) ∧ w'.cell? ⟨w4.heap.size, 7, none⟩ = some (.int .u64 (a6 : Nat))) ∧ Below W5.heap.size W5 w')
      (first | exact KEEP.out _ (Below.drew (Below.refl _ _)) | exact KEEP.out _ HK.out)
      ((go_at_call 13; refine (CP.out _ (laid_to HL5.out (Below.drew (Below.refl _ _)))).mono ?_; rintro e w6 ⟨rfl, hbk⟩; have HK := hid (show Below W5.heap.size W5 w6 from (btr (Below.drew (Below.refl _ _)) hbk)); clear hbk))
    have HR6 := hid (show w6.heap[w.heap.size]? = some (.cells fz 31 (0, 0)) by rw [blk_to HK.out (by have := (Array.getElem?_eq_some_iff.1 HR4.out).1; omega)]; exact HR4.out)
    have HG6 := hid (show w6.heap[w4.heap.size]? = some (.cells #[.int .u8 (x2 : Nat), .int .u64 (a0 : Nat), .int .u64 (a1 : Nat), .int .u64 (a2 : Nat), .int .u64 (a3 : Nat), .int .u64 (a4 : Nat), .int .u64 (a5 : Nat), .int .u64 (a6 : Nat)] 31 (0, 0)) by rw [blk_to HK.out (by have := (Array.getElem?_eq_some_iff.1 HG4.out).1; omega)]; exact HG4.out)
    have HB6 := hid (btr HB4.out HK.out)
    clear heq hu hi KEEP HEQ HL5 HG4 HR4 HW4 CR CP HB4
    by_cases hE : xs = again xs
    · have hd : decide (xs = again xs) = true := decide_eq_true hE
      rw [hd]
      have HE := hid hE
      clear hd hE
      obtain ⟨G, hG⟩ : ∃ G : Array Value, #[.int .u8 (x2 : Nat), .int .u64 (a0 : Nat), .int .u64 (a1 : Nat), .int .u64 (a2 : Nat), .int .u64 (a3 : Nat), .int .u64 (a4 : Nat), .int .u64 (a5 : Nat), .int .u64 (a6 : Nat)] = G := ⟨_, rfl⟩
      have HGG := hid hG
      have G31 := hid (show (Tryd.prog.info? 31).map (·.size) = some G.size by rw [← hG]; exact info31)
      have G1 := hid (show G.all (·.oneCell') = true by rw [← hG]; exact all_oneCell_toArray (rowF_one x2 [a0, a1, a2, a3, a4, a5, a6] 7))
      have GZ := hid (show fz.size = G.size by rw [← hG]; rfl)
      rw [hG] at HG6
      clear hG
      go_wp2_with (first | (refine wpList_load_row (by rfl) 31 (.tmp 6) (by rfl) w4.heap.size (by rfl) 31 G (0, 0) _ HG6.out Tryd.underlying31 rfl G31.out ?_) | (refine wpList_store_row (by rfl) 31 (.tmp 2) (.tmp 34) (by rfl) w.heap.size G (by rfl) (by rfl) 31 fz HR6.out G31.out GZ.out G1.out ?_))
      exact bodyPost_ret (res_row Tryd.f15 2 3 Tryd.results15 _ _ w.heap.size G _ (by rfl) (by rfl) (setRow_heap _ _ _ _ 31 (0, 0) HR6.out) G31.out) rfl ⟨Or.inr (Or.inr ⟨HH.out, HE.out, by rw [HRV.out, ← HGG.out]; rfl⟩), below_setRow HB6.out (Nat.le_refl _) _⟩
    · have hd : decide (xs = again xs) = false := decide_eq_false hE
      rw [hd]
      have HE := hid hE
      clear hd hE
      go_wp2_with (first | (refine wpList_store_row (by rfl) 31 (.tmp 2) (.tmp 33) (by rfl) w.heap.size fz (by rfl) (by rfl) 31 fz HR6.out fz_info rfl fz_one ?_))
      exact bodyPost_ret (res_row Tryd.f15 2 3 Tryd.results15 _ _ w.heap.size fz _ (by rfl) (by rfl) (setRow_heap _ _ _ _ 31 (0, 0) HR6.out) fz_info) rfl ⟨Or.inr (Or.inl ⟨HH.out, HE.out, rfl⟩), below_setRow HB6.out (Nat.le_refl _) _⟩
  · have hb : ((x0 : Int) == 66) = false ∨ (((x0 : Int) == 66) = true ∧ ((x1 : Int) == 70) = false) ∨ (((x0 : Int) == 66) = true ∧ ((x1 : Int) == 70) = true ∧ ((x3 : Int) == 0) = false) := by
      unfold headed at hh
      rw [X0.out, X1.out, X3.out] at hh
      by_cases a0 : x0 = 66
      · have e0 : ((x0 : Int) == 66) = true := by simp; omega
        by_cases a1 : x1 = 70
        · have e1 : ((x1 : Int) == 70) = true := by simp; omega
          by_cases a3 : x3 = 0
          · exact absurd ⟨a0, a1, a3⟩ hh
          · exact Or.inr (Or.inr ⟨e0, e1, by simp; omega⟩)
        · exact Or.inr (Or.inl ⟨e0, by simp; omega⟩)
      · exact Or.inl (by simp; omega)
    have HH := hid hh
    clear hh
    have hv : (!((x0 : Int) == 66) || (!((x1 : Int) == 70) || !((x3 : Int) == 0))) = true := by
      rcases hb with e0 | ⟨e0, e1⟩ | ⟨e0, e1, e3⟩
      · rw [e0]; rfl
      · rw [e0, e1]; rfl
      · rw [e0, e1, e3]; rfl
    rw [hv]
    clear hv hb
    go_wp2_with (first | (refine wpList_store_row (by rfl) 31 (.tmp 2) (.tmp 26) (by rfl) w.heap.size fz (by rfl) (by rfl) 31 fz HR3.out fz_info rfl fz_one ?_))
    exact bodyPost_ret (res_row Tryd.f15 2 3 Tryd.results15 _ _ w.heap.size fz _ (by rfl) (by rfl) (setRow_heap _ _ _ _ 31 (0, 0) HR3.out) fz_info) rfl ⟨Or.inl ⟨HH.out, rfl⟩, below_setRow HB3.out (Nat.le_refl _) _⟩
end Go.Proofs.YtocmgfhfancgnaaDoor
