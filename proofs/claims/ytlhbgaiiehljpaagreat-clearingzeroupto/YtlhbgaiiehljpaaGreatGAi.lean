/-
  ShP
-/
import Derived.Test.YtlhbgaiiehljpaaGreatGAg
import Derived.Test.YtlhbgaiiehljpaaGreatGAh
import Derived.Laws.MakeOwn
import Derived.Deep.AppendLies
import Derived.RangeFuncRecord
namespace Go.Proofs.YtlhbgaiiehljpaaGreat.Ss
set_option linter.unusedVariables false
set_option linter.unusedSimpArgs false
theorem gd_get {l : List Int} {i : Nat} (h : i < l.length) : gd l i = l[i] := by
 unfold gd
 rw [List.getD_eq_getElem?_getD, List.getElem?_eq_getElem h]
 rfl
theorem mem_take {l : List Int} {t : Nat} {x : Int} : x ∈ l.take t ↔ ∃ s, s < t ∧ s < l.length ∧ gd l s = x := by
 constructor
 ·intro h
  obtain ⟨s, hs, e⟩ := List.getElem_of_mem h
  rw [List.length_take] at hs
  rw [List.getElem_take] at e
  exact ⟨s, by omega, by omega, by rw [gd_get (by omega)]; exact e⟩
 ·rintro ⟨s, h1, h2, e⟩
  rw [← e, gd_get h2]
  exact List.mem_take_iff_getElem.2 ⟨s, by omega, rfl⟩
theorem sumL_set {l : List Int} {i : Nat} (h : i < l.length) (v : Int) : sumL (l.set i v) = sumL l - gd l i + v := by
 induction l generalizing i with
 | nil => cases h
 | cons x l ih =>
  cases i with
  | zero =>
   show sumL (v :: l) = _
   rw [sumL_cons, sumL_cons]
   show _ = x + sumL l - x + v
   omega
  | succ i =>
   show sumL (x :: l.set i v) = _
   rw [sumL_cons, sumL_cons, ih (by simpa using h)]
   show _ = x + sumL l - gd l i + v
   omega
theorem tot_parts (A S : Int) (ws : List Int) : A * sumL ws = S * sumL (ws.map fun w => A * w / S) + sumL (ws.map fun w => A * w % S) := by
 induction ws with
 | nil => simp [sumL]
 | cons w ws ih =>
  rw [List.map_cons, List.map_cons, sumL_cons, sumL_cons, sumL_cons, Int.mul_add, ih, Int.mul_add]
  have := Int.mul_ediv_add_emod (A * w) S
  omega
theorem sum_rests {rs : List Int} {S : Int} (hS : 0 < S) (h : ∀ q ∈ rs, 0 ≤ q ∧ q < S) : 0 ≤ sumL rs ∧ sumL rs ≤ S * ((rs.filter fun q => decide (0 < q)).length : Int) := by
 induction rs with
 | nil => simp [sumL]
 | cons q rs ih =>
  obtain ⟨i1, i2⟩ := ih (fun x hx => h x (List.mem_cons_of_mem _ hx))
  obtain ⟨h1, h2⟩ := h q List.mem_cons_self
  rw [sumL_cons]
  by_cases c : 0 < q
  ·rw [List.filter_cons_of_pos (by simpa using c), List.length_cons]
   have e : S * (((rs.filter fun q => decide (0 < q)).length + 1 : Nat) : Int) = S * ((rs.filter fun q => decide (0 < q)).length : Int) + S := by rw [Int.natCast_add, Int.mul_add]; simp
   rw [e]
   omega
  ·rw [List.filter_cons_of_neg (by simpa using c)]
   omega
theorem map_gd (rs : List Int) : (List.range rs.length).map (fun i => gd rs i) = rs := by
 apply List.ext_getElem
 ·simp
 ·intro i h1 h2
  simp only [List.getElem_map, List.getElem_range]
  exact gd_get h2
/-- the places, rising. -/
def pls (n : Nat) : List Int := (List.range n).map fun (x : Nat) => (x : Int)
theorem pls_len (n : Nat) : (pls n).length = n := by simp [pls]
theorem gd_pls {n x : Nat} (h : x < n) : gd (pls n) x = x := by
 rw [gd_get (by rw [pls_len]; exact h)]
 simp [pls]
theorem mem_pls {n : Nat} {x : Int} : x ∈ pls n ↔ ∃ i : Nat, i < n ∧ x = i := by
 unfold pls
 rw [List.mem_map]
 constructor
 ·rintro ⟨i, hi, rfl⟩
  exact ⟨i, List.mem_range.1 hi, rfl⟩
 ·rintro ⟨i, hi, rfl⟩
  exact ⟨i, List.mem_range.2 hi, rfl⟩
/-- the rest of a place. -/
def rr (rs : List Int) (x : Int) : Int := gd rs x.toNat
/-- places in their order. -/
structure Ord (rs pl : List Int) : Prop where
 pm : pl.Perm (pls rs.length)
 so : Srt (rr rs) (gd pl) 0 rs.length
theorem Ord.len {rs pl : List Int} (h : Ord rs pl) : pl.length = rs.length := by rw [h.pm.length_eq, pls_len]
theorem Ord.at_ {rs pl : List Int} (h : Ord rs pl) {s : Nat} (hs : s < rs.length) : ∃ i : Nat, i < rs.length ∧ gd pl s = i := mem_pls.1 (h.pm.mem_iff.1 (gd_mem (by rw [h.len]; exact hs)))
theorem Ord.pos {rs pl : List Int} (h : Ord rs pl) (h0 : ∀ q ∈ rs, 0 ≤ q) {s : Nat} (hs : s < (rs.filter fun q => decide (0 < q)).length) : 0 < rr rs (gd pl s) := by
 have hle : (rs.filter fun q => decide (0 < q)).length ≤ rs.length := List.length_filter_le _ _
 have e1 : (pl.filter fun x => decide (0 < rr rs x)).length = (rs.filter fun q => decide (0 < q)).length := by
  rw [(h.pm.filter _).length_eq]
  have e2 : (pls rs.length).map (rr rs) = rs := by
   unfold pls
   rw [List.map_map]
   have : (rr rs) ∘ (fun x : Nat => (x : Int)) = fun i => gd rs i := by funext i; simp [rr]
   rw [this, map_gd]
  have e3 : ((pls rs.length).filter fun x => decide (0 < rr rs x)).length = (((pls rs.length).map (rr rs)).filter fun q => decide (0 < q)).length := by
   rw [List.filter_map, List.length_map]
   rfl
  rw [e3, e2]
 apply Classical.byContradiction
 intro hn
 have hall : ∀ x ∈ pl.drop s, ¬ 0 < rr rs x := fun x hx => by
  obtain ⟨k, hk, e⟩ := List.getElem_of_mem hx
  rw [List.length_drop] at hk
  rw [List.getElem_drop] at e
  rw [← e, ← gd_get (by omega)]
  by_cases c : k = 0
  ·rw [c]; exact hn
  ·have := h.so s (s + k) (Nat.zero_le _) (by omega) (by have := h.len; omega)
   unfold lt at this
   omega
 have e4 : (pl.filter fun x => decide (0 < rr rs x)).length ≤ s := by
  rw [← List.take_append_drop s pl, List.filter_append, List.length_append]
  have e5 : (pl.drop s).filter (fun x => decide (0 < rr rs x)) = [] := List.filter_eq_nil_iff.2 (fun x hx => by simpa using hall x hx)
  rw [e5]
  have := List.length_filter_le (fun x => decide (0 < rr rs x)) (pl.take s)
  rw [List.length_take] at this
  simp
  omega
 omega
/-- what Share leaves to the rests. -/
structure Shr (A S : Int) (ws : List Int) (left : Int) : Prop where
 l0 : 0 ≤ left
 l1 : left ≤ ((ws.map fun w => A * w % S).filter fun q => decide (0 < q)).length
theorem rests_bd {A S : Int} {ws : List Int} (hS : 0 < S) : ∀ q ∈ ws.map (fun w => A * w % S), 0 ≤ q ∧ q < S := fun q hq => by
 obtain ⟨w, _, rfl⟩ := List.mem_map.1 hq
 exact ⟨Int.emod_nonneg _ (by omega), Int.emod_lt_of_pos _ hS⟩
theorem shr_of {A : Int} {ws : List Int} (hS : 0 < sumL ws) : Shr A (sumL ws) ws (A - sumL (ws.map fun w => A * w / sumL ws)) := by
 have h1 := tot_parts A (sumL ws) ws
 obtain ⟨h2, h3⟩ := sum_rests hS (rests_bd (A := A) (ws := ws) hS)
 obtain ⟨S, eS⟩ : ∃ S, sumL ws = S := ⟨_, rfl⟩
 rw [eS] at h1 h2 h3 hS ⊢
 obtain ⟨P, eP⟩ : ∃ P, sumL (ws.map fun w => A * w / S) = P := ⟨_, rfl⟩
 obtain ⟨Q, eQ⟩ : ∃ Q, sumL (ws.map fun w => A * w % S) = Q := ⟨_, rfl⟩
 obtain ⟨K, eK⟩ : ∃ K, (((ws.map fun w => A * w % S).filter fun q => decide (0 < q)).length : Int) = K := ⟨_, rfl⟩
 rw [eQ] at h1 h2 h3
 rw [eK] at h3
 rw [eP] at h1 ⊢
 have e : S * (A - P) = Q := by rw [Int.mul_sub, Int.mul_comm S A]; omega
 refine ⟨?_, ?_⟩
 ·apply Classical.byContradiction
  intro hn
  have : S * (A - P) ≤ S * (-1) := Int.mul_le_mul_of_nonneg_left (by omega) (by omega)
  omega
 ·rw [eK]
  apply Classical.byContradiction
  intro hn
  have : S * (K + 1) ≤ S * (A - P) := Int.mul_le_mul_of_nonneg_left (by omega) (by omega)
  rw [Int.mul_add] at this
  omega
end Go.Proofs.YtlhbgaiiehljpaaGreat.Ss
namespace Go.Proofs.YtlhbgaiiehljpaaGreat.Ss
open Go.RowKit Go.Deep
set_option linter.unusedVariables false
set_option linter.unusedSimpArgs false
set_option maxHeartbeats 8000000
set_option maxRecDepth 100000
attribute [local go_sem ↓] Go.wp_at_zero Go.wp_at_succ
/-- numbers in a block, the first n of them l. -/
structure Uw (w : World) (g n : Nat) (l : List Int) : Prop where
 len : l.length = n
 row : ∃ cur, w.heap[g]? = some (.cells cur 31 (0, 0)) ∧ n ≤ cur.size ∧ ∀ i, i < n → cur[i]? = some (.int .u64 (gd l i))
theorem Uw.cell {w : World} {g n : Nat} {l : List Int} (h : Uw w g n l) {i : Nat} (hi : i < n) : w.cell? ⟨g, i, none⟩ = some (.int .u64 (gd l i)) := by
 obtain ⟨cur, h1, h2, h3⟩ := h.row
 rw [row_cell h1, h3 i hi]
theorem Uw.frz {w : World} {g n : Nat} {l : List Int} (h : Uw w g n l) (i : Nat) : w.frozen? ⟨g, i, none⟩ = false := by
 obtain ⟨cur, h1, h2, h3⟩ := h.row
 exact row_frz h1 i
theorem Uw.same {w w' : World} {g n : Nat} {l : List Int} (h : Uw w g n l) (e : w'.heap[g]? = w.heap[g]?) : Uw w' g n l := by
 obtain ⟨cur, h1, h2, h3⟩ := h.row
 exact ⟨h.len, cur, e.trans h1, h2, h3⟩
theorem Uw.set {w : World} {g n : Nat} {l : List Int} (h : Uw w g n l) {i : Nat} (hi : i < n) (v : Int) : Uw (w.setCell ⟨g, i, none⟩ (.int .u64 v)) g n (l.set i v) := by
 obtain ⟨cur, h1, h2, h3⟩ := h.row
 refine ⟨by rw [List.length_set]; exact h.len, _, heap_setCell_same w g i cur 31 (.int .u64 v) h1, by simpa using h2, fun j hj => ?_⟩
 have hl := h.len
 by_cases e : i = j
 ·subst e
  rw [Array.getElem?_setIfInBounds_self_of_lt (by omega)]
  unfold gd
  rw [List.getD_eq_getElem?_getD, List.getElem?_set_self (by omega)]
  rfl
 ·rw [Array.getElem?_setIfInBounds_ne e, h3 j hj]
  unfold gd
  rw [List.getD_eq_getElem?_getD, List.getD_eq_getElem?_getD, List.getElem?_set_ne e]
theorem Uw.on {w w' : World} {g n : Nat} {l : List Int} (h : Uw w g n l) (hb : Below w.heap.size w w') : Uw w' g n l := by
 obtain ⟨cur, e, _⟩ := h.row
 exact h.same (hb.block g (row_lt e))
theorem Uw.lt {w : World} {g n : Nat} {l : List Int} (h : Uw w g n l) : g < w.heap.size := by
 obtain ⟨cur, e, _⟩ := h.row
 exact row_lt e
theorem Kp.below {B : Nat → Prop} {n : Nat} {a b : World} (h : Kp B a b) (hs : n ≤ a.heap.size) (hB : ∀ j, j < n → B j → False) : Below n a b := ⟨h.os, h.tape, h.output, h.size, fun i hi => h.obj i (Nat.lt_of_lt_of_le hi hs) (fun e => hB i hi e)⟩
theorem infoW : (Tryz.prog.info? 31).map (fun i => (i.zero, i.size, i.bytes)) = some (some (.int .u64 0), 1, 8) := by kernel_rfl
theorem infoI : (Tryz.prog.info? 3).map (fun i => (i.zero, i.size, i.bytes)) = some (some (.int .i64 0), 1, 8) := by kernel_rfl
theorem made_at {v : Value} {n i : Nat} (h : i < n) : (madeCells #[v] n)[i]? = some v := by
 simp [madeCells, h, Nat.mod_one]
theorem make_w (n : Nat) (hn : n ≤ 17592186044416) (u : World) : (Instr.makeSlice 46 (.int .i64 (n : Nat)) (.int .i64 (n : Nat))).run Tryz.prog u = .ok (.slice (some ⟨u.heap.size, 0, none⟩) n n) (u.alloc (.cells (madeCells #[.int .u64 0] n) 31)) := by
 obtain ⟨i0, hi, hz0, hz1, hz2⟩ := info_parts infoW
 have := run_make (P := Tryz.prog) u 46 31 i0 (.int .u64 0) Tryz.underlying46 hi hz0 .i64 .i64 (n : Nat) (n : Nat) (by omega) (by omega) (by rw [hz2]; omega) (by omega)
 rw [hz1] at this
 simpa [Value.cells] using this
theorem make_i (n : Nat) (hn : n ≤ 17592186044416) (u : World) : (Instr.makeSlice 152 (.int .i64 (n : Nat)) (.int .i64 (n : Nat))).run Tryz.prog u = .ok (.slice (some ⟨u.heap.size, 0, none⟩) n n) (u.alloc (.cells (madeCells #[.int .i64 0] n) 3)) := by
 obtain ⟨i0, hi, hz0, hz1, hz2⟩ := info_parts infoI
 have := run_make (P := Tryz.prog) u 152 3 i0 (.int .i64 0) Tryz.underlying152 hi hz0 .i64 .i64 (n : Nat) (n : Nat) (by omega) (by omega) (by rw [hz2]; omega) (by omega)
 rw [hz1] at this
 simpa [Value.cells] using this
theorem gd_zero {n i : Nat} : gd (List.replicate n 0) i = 0 := by
 unfold gd
 rw [List.getD_eq_getElem?_getD, List.getElem?_replicate]
 split <;> rfl
theorem uw_made (u : World) (n : Nat) : Uw (u.alloc (.cells (madeCells #[.int .u64 0] n) 31)) u.heap.size n (List.replicate n 0) :=
 ⟨by simp, _, World.alloc_heap_new _ _, by simp [madeCells], fun i hi => by rw [made_at hi, gd_zero]⟩
theorem uz_made (u : World) (n : Nat) : Uz (u.alloc (.cells (madeCells #[.int .i64 0] n) 3)) u.heap.size n (List.replicate n 0) :=
 ⟨by simp, _, World.alloc_heap_new _ _, by simp [madeCells], fun i hi => by rw [made_at hi, gd_zero]⟩
theorem gd_set {l : List Int} {i : Nat} (hi : i < l.length) (v : Int) (x : Nat) : gd (l.set i v) x = if x = i then v else gd l x := by
 unfold gd
 rw [List.getD_eq_getElem?_getD, List.getD_eq_getElem?_getD]
 by_cases e : x = i
 ·subst e
  rw [List.getElem?_set_self hi, if_pos rfl]
  rfl
 ·rw [List.getElem?_set_ne (fun h => e h.symm), if_neg e]
/-- a list that is filled up to i. -/
def Fil (ws : List Int) (f : Int → Int) (i : Nat) (l : List Int) : Prop := l.length = ws.length ∧ ∀ j, j < ws.length → gd l j = if j < i then f (gd ws j) else 0
theorem Fil.start (ws : List Int) (f : Int → Int) : Fil ws f 0 (List.replicate ws.length 0) := ⟨by simp, fun j hj => by rw [gd_zero, if_neg (by omega)]⟩
theorem Fil.next {ws l : List Int} {f : Int → Int} {i : Nat} (h : Fil ws f i l) (hi : i < ws.length) : Fil ws f (i + 1) (l.set i (f (gd ws i))) :=
 ⟨by rw [List.length_set]; exact h.1, fun j hj => by
  rw [gd_set (by rw [h.1]; exact hi)]
  by_cases e : j = i
  ·rw [if_pos e, if_pos (by omega), e]
  ·rw [if_neg e, h.2 j hj]
   by_cases c : j < i
   ·rw [if_pos c, if_pos (by omega)]
   ·rw [if_neg c, if_neg (by omega)]⟩
theorem Fil.done {ws l : List Int} {f : Int → Int} (h : Fil ws f ws.length l) : l = ws.map f := by
 apply List.ext_getElem
 ·rw [List.length_map]; exact h.1
 ·intro i h1 h2
  rw [List.length_map] at h2
  have := h.2 i h2
  rw [if_pos h2, gd_get h1, gd_get h2] at this
  rw [this]
  simp
/-- words that may be read. -/
def Rw (w : World) (b off : Nat) (ws : List Int) : Prop := b < w.heap.size ∧ ∀ j, j < ws.length → w.cell? ⟨b, off + j, none⟩ = some (.int .u64 (gd ws j))
theorem Rw.on {w w' : World} {b off : Nat} {ws : List Int} (h : Rw w b off ws) (hb : Below w.heap.size w w') : Rw w' b off ws := ⟨Nat.lt_of_lt_of_le h.1 hb.size, fun j hj => by rw [hb.cell (p := ⟨b, off + j, none⟩) h.1]; exact h.2 j hj⟩
theorem Uw.rw {w : World} {g n : Nat} {l : List Int} (h : Uw w g n l) : Rw w g 0 l := ⟨h.lt, fun j hj => by rw [Nat.zero_add]; exact h.cell (by rw [← h.len]; exact hj)⟩
theorem sumL_take_gd {ws : List Int} {i : Nat} (h : i < ws.length) (f : Int → Int) : sumL ((ws.map f).take (i + 1)) = sumL ((ws.map f).take i) + f (gd ws i) := by
 rw [List.take_add_one, List.getElem?_eq_getElem (by rw [List.length_map]; exact h)]
 show sumL ((ws.map f).take i ++ [(ws.map f)[i]'(by rw [List.length_map]; exact h)]) = _
 rw [sumL_snoc, List.getElem_map, gd_get h]
theorem cut_any (A S : Int) (ws : List Int) (b off cap : Nat) (w : World) (hA : Word A) (hws : ∀ x ∈ ws, Word x) (hS : sumL ws = S) (hS0 : 0 < S) (hS1 : S < 18446744073709551616) (hn : ws.length ≤ 17592186044416) (hr : Rw w b off ws) :
  Calls Tryz.prog 81 #[.int .u64 A, .slice (some ⟨b, off, none⟩) ws.length cap, .int .u64 S] w fun e w' => ∃ gp gr, e = .returned (.tuple #[.slice (some ⟨gp, 0, none⟩) ws.length ws.length, .slice (some ⟨gr, 0, none⟩) ws.length ws.length, .int .u64 (A - sumL (ws.map fun x => A * x / S))]) ∧ Uw w' gp ws.length (ws.map fun x => A * x / S) ∧ Uw w' gr ws.length (ws.map fun x => A * x % S) ∧ gp ≠ gr ∧ w.heap.size ≤ gp ∧ w.heap.size ≤ gr ∧ Below w.heap.size w w' := by
 have hsh := shr_of (A := A) (ws := ws) (by rw [hS]; exact hS0)
 rw [hS] at hsh
 have HP := hid (show ∀ i, i ≤ ws.length → 0 ≤ sumL ((ws.map fun x => A * x / S).take i) ∧ sumL ((ws.map fun x => A * x / S).take i) ≤ A from fun i hi => by
  have h1 := sumL_take_le (ws.map fun x => A * x / S) (fun x hx => by
   obtain ⟨y, hy, rfl⟩ := List.mem_map.1 hx
   exact Int.ediv_nonneg (Int.mul_nonneg hA.1 (hws y hy).1) (by omega)) i
  have := hsh.l0
  omega)
 have HW := hid (show ∀ i, i < ws.length → Word (gd ws i) ∧ gd ws i ≤ S from fun i hi => by
  have hm : gd ws i ∈ ws := gd_mem hi
  refine ⟨hws _ hm, ?_⟩
  have h1 := sumL_take_le ws (fun x hx => (hws x hx).1) (i + 1)
  have h2 := sumL_take_le ws (fun x hx => (hws x hx).1) i
  have h3 := sumL_take_gd (ws := ws) hi (fun x => x)
  simp only [List.map_id'] at h3
  omega)
 obtain ⟨n, hnn⟩ : ∃ n, ws.length = n := ⟨_, rfl⟩
 have hmk := make_w n (by omega)
 obtain ⟨W1, hW1⟩ : ∃ W, w.alloc (.cells (madeCells #[.int .u64 0] n) 31) = W := ⟨_, rfl⟩
 obtain ⟨W2, hW2⟩ : ∃ W, W1.alloc (.cells (madeCells #[.int .u64 0] n) 31) = W := ⟨_, rfl⟩
 have m1 := hmk w
 have m2 := hmk W1
 rw [hW1] at m1
 rw [hW2] at m2
 have b1 : Below w.heap.size w W1 := by rw [← hW1]; exact (Below.refl _ w).alloc (Nat.le_refl _) _
 have b2 : Below W1.heap.size W1 W2 := by rw [← hW2]; exact (Below.refl _ W1).alloc (Nat.le_refl _) _
 have s1 : W1.heap.size = w.heap.size + 1 := by rw [← hW1]; simp
 have U1 := hid (show Uw W2 w.heap.size n (List.replicate n 0) from by
  have : Uw W1 w.heap.size n (List.replicate n 0) := by rw [← hW1]; exact uw_made w n
  exact this.on b2)
 have U2 := hid (show Uw W2 W1.heap.size n (List.replicate n 0) from by rw [← hW2]; exact uw_made W1 n)
 have B2 := hid (show Below w.heap.size w W2 from b1.trans (b2.mono b1.size))
 have HR := hid hr
 have HA := hid hA
 obtain ⟨gp, hgp⟩ : ∃ g, w.heap.size = g := ⟨_, rfl⟩
 obtain ⟨gr, hgr⟩ : ∃ g, W1.heap.size = g := ⟨_, rfl⟩
 have HGG := hid (show gp ≠ gr ∧ gp ≤ gr ∧ w.heap.size ≤ gp from ⟨by omega, by omega, by omega⟩)
 rw [hgp] at m1 U1
 rw [hgr] at m2 U2
 have HN := hid hnn
 have HF0 := hid (show Fil ws (fun x => A * x / S) 0 (List.replicate n 0) ∧ Fil ws (fun x => A * x % S) 0 (List.replicate n 0) from by rw [← hnn]; exact ⟨Fil.start _ _, Fil.start _ _⟩)
 have H00 := hid (show sumL ((ws.map fun x => A * x / S).take 0) = 0 from rfl)
 rw [hnn]
 have HSS := hid (And.intro hS0 (And.intro hS1 hS))
 clear hmk hW1 hW2 b1 b2 s1 hr hA hws hsh hgp hgr hnn hS hS0 hS1
 have a0 : A - 0 = A := Int.sub_zero A
 go_enter Tryz.func81, Tryz.ntmps81
 go_upto_region 5 with fail
 go_loopw [8, 22] (fun lv iv wr => ∃ i lp lr, i ≤ n ∧ iv = .int .i64 (i : Nat) ∧ lv = .int .u64 (A - sumL ((ws.map fun x => A * x / S).take i)) ∧ Hid (Uw wr gp n lp) ∧ Hid (Uw wr gr n lr) ∧ Hid (Fil ws (fun x => A * x / S) i lp) ∧ Hid (Fil ws (fun x => A * x % S) i lr) ∧ Hid (Below w.heap.size w wr)) (fun _ iv _ => n - (intOf iv).toNat)
 case atStart => exact ⟨0, _, _, Nat.zero_le _, rfl, by rw [H00.out, a0], U1, U2, HF0.out.1, HF0.out.2, B2⟩
 case round =>
  obtain ⟨i, lp, lr, hin, rfl, rfl, V1, V2, F1, F2, BW⟩ := hrel
  clear U1 U2 B2 HF0 m1 m2
  by_cases hlt : i < n
  ·have hi : i < ws.length := by rw [HN.out]; exact hlt
   have hcell := (HR.out.on BW.out).2 i hi
   obtain ⟨wd, hle⟩ := HW.out i hi
   have hst := sumL_take_gd hi (fun x => A * x / S)
   have p0 := HP.out i (by omega)
   have p1 := HP.out (i + 1) hi
   have N1 := hid (F1.out.next hi)
   have N2 := hid (F2.out.next hi)
   obtain ⟨x, hx⟩ : ∃ x, gd ws i = x := ⟨_, rfl⟩
   rw [hx] at hcell wd hle hst N1 N2
   obtain ⟨hS0, hS1, _⟩ := HSS.out
   have C1 := hid (fun U => mul64_any A x U HA.out wd)
   have hH := mulH_word A x HA.out wd
   have hL := mulL_word A x
   have hlt2 : mulH A x < S := by
    have h1 : A * x ≤ A * S := Int.mul_le_mul_of_nonneg_left hle HA.out.1
    have h2 : A * S ≤ 18446744073709551615 * S := Int.mul_le_mul_of_nonneg_right (by have := HA.out.2; omega) (by omega)
    unfold mulH
    omega
   have C2 := hid (fun U => div64_any (mulH A x) (mulL A x) S U hH.1 hL hlt2 hS1)
   rw [divQ_mul, divR_mul] at C2
   obtain ⟨q, hq⟩ : ∃ q, A * x / S = q := ⟨_, rfl⟩
   obtain ⟨rr9, hrr⟩ : ∃ q, A * x % S = q := ⟨_, rfl⟩
   obtain ⟨mh, hmh⟩ : ∃ q, mulH A x = q := ⟨_, rfl⟩
   obtain ⟨ml, hml⟩ : ∃ q, mulL A x = q := ⟨_, rfl⟩
   simp only [hq] at hst N1
   simp only [hrr] at N2
   rw [hq, hrr, hmh, hml] at C2
   rw [hmh, hml] at C1
   obtain ⟨T, hT⟩ : ∃ T, sumL ((ws.map fun x => A * x / S).take i) = T := ⟨_, rfl⟩
   rw [hT] at hst p0 ⊢
   rw [hst] at p1
   have wl : IntKind.u64.wrap (A - T - q) = A - (T + q) := by rw [IntKind.wrap_u64]; have := HA.out.2; have := HA.out.1; omega
   have HST := hid hst
   have i0 : (0 : Int) ≤ (i : Int) := by omega
   have i1 : (i : Int) < (n : Int) := by omega
   have wi : IntKind.i64.wrap ((i : Int) + 1) = ((i + 1 : Nat) : Int) := by rw [IntKind.wrap_i64]; omega
   have HLT := hid hlt
   clear hx wd hle hst p0 p1 hH hL hlt2 hq hrr hmh hml hT hS0 hS1 hi
   go_upto_region 8 with (go_at_call 84; with_reducible refine (C1.out _).mono ?_; rintro e w1 ⟨rfl, h1⟩; have h1 := h1.symm; subst h1)
   clear C1 hcell
   have hne := HGG.out.1
   have glo := HGG.out
   go_upto_region 9 with (go_at_call 74; (with_reducible refine (C2.out _).mono ?_; rintro e w2 ⟨rfl, k, h2⟩; have D1 := hid (show Uw w2 gp n lp from by rw [h2]; exact V1.out.same rfl); have D2 := hid (show Uw w2 gr n lr from by rw [h2]; exact V2.out.same rfl); have BD := hid (show Below w.heap.size w w2 from by rw [h2]; exact BW.out.trans (Kp.below (Kp.drewN (fun _ => False) wr k) BW.out.size (fun j hj e => False.elim e))); have c1 := D1.out.cell hlt; have f1 := D1.out.frz i; have E1 := hid (D1.out.set hlt q); have E2 := hid (D2.out.same (show (w2.setCell ⟨gp, i, none⟩ (.int .u64 q)).heap[gr]? = w2.heap[gr]? from heap_setCell_other _ _ _ _ (by show gr ≠ gp; exact Ne.symm HGG.out.1))); have c2 := E2.out.cell hlt; have f2 := E2.out.frz i; clear h2))
   have G1 := hid (E1.out.same (show ((w2.setCell ⟨gp, i, none⟩ (.int .u64 q)).setCell ⟨gr, i, none⟩ (.int .u64 rr9)).heap[gp]? = (w2.setCell ⟨gp, i, none⟩ (.int .u64 q)).heap[gp]? from heap_setCell_other _ _ _ _ (by show gp ≠ gr; exact HGG.out.1)))
   have G2 := hid (E2.out.set hlt rr9)
   have B3 := hid (show Below w.heap.size w ((w2.setCell ⟨gp, i, none⟩ (.int .u64 q)).setCell ⟨gr, i, none⟩ (.int .u64 rr9)) from (BD.out.trans (Kp.below (Kp.set w2 gp i (.int .u64 q)) BD.out.size (fun j hj e => by have := HGG.out; omega))).trans (Kp.below (Kp.set _ gr i (.int .u64 rr9)) (BD.out.trans (Kp.below (Kp.set w2 gp i (.int .u64 q)) BD.out.size (fun j hj e => by have := HGG.out; omega))).size (fun j hj e => by have := HGG.out; omega)))
   obtain ⟨X, hX⟩ : ∃ X, (w2.setCell ⟨gp, i, none⟩ (.int .u64 q)).setCell ⟨gr, i, none⟩ (.int .u64 rr9) = X := ⟨_, rfl⟩
   rw [hX] at G1 G2 B3 ⊢
   have g1 := G1.out.cell hlt
   rw [gd_set (by rw [D1.out.len]; exact hlt), if_pos rfl] at g1
   clear hX c1 f1 c2 f2 E1 E2 D1 D2 BD V1 V2 F1 F2 C2 hne glo
   go_wp2
   go_roundw
   case rel => exact ⟨i + 1, _, _, HLT.out, by go_num, by rw [HST.out], G1, G2, N1, N2, B3⟩
   case measure => simp [intOf]; omega
  ·obtain rfl : i = n := by omega
   have e1 := (show Fil ws (fun x => A * x / S) ws.length lp from by rw [HN.out]; exact F1.out).done
   have e2 := (show Fil ws (fun x => A * x % S) ws.length lr from by rw [HN.out]; exact F2.out).done
   rw [e1] at V1
   rw [e2] at V2
   have e3 : (ws.map fun x => A * x / S).take i = ws.map fun x => A * x / S := List.take_of_length_le (by rw [List.length_map, HN.out]; exact Nat.le_refl _)
   rw [e3]
   clear e1 e2 e3 F1 F2
   go_wp2
   go_ret3
   exact ⟨gp, gr, rfl, V1.out, V2.out, HGG.out.1, HGG.out.2.2, by have := HGG.out; omega, BW.out⟩
end Go.Proofs.YtlhbgaiiehljpaaGreat.Ss
