/-
  Those of the most, of the least; the side of all surpluses.
-/
import Derived.Test.YtnmkfdndfhefiaaGreatAuK
namespace Go.Proofs.YtnmkfdndfhefiaaGreat
open Go.RowKit Go.Deep Go.Sort
set_option linter.unusedVariables false
set_option linter.unusedSimpArgs false
set_option maxHeartbeats 4000000
set_option maxRecDepth 100000
theorem cm3_neg (x y : Int) : cm3 y x = cm3 (-x) (-y) := by unfold cm3; by_cases h1 : y < x <;> by_cases h2 : x < y <;> simp [h1, h2] <;> omega
theorem most_any (base : Nat) (p : Option Addr) (c : Nat) (l : List Qt) (w : World) (h : Qs base w p c l) (h0 : 0 < l.length) (hl : l.length ≤ 8193) :
    Calls Tryz.prog 35 #[.slice p l.length c, .func (.func 37) #[] #[]] w fun e w' => ∃ p' c', e = .returned (.slice p' (bst (fun z => -z.vo) l).length c') ∧ Qs w.heap.size w' p' c' (bst (fun z => -z.vo) l) ∧ Below w.heap.size w w' := by
  obtain ⟨R, hR⟩ : ∃ R, w.heap.size = R := ⟨_, rfl⟩
  obtain ⟨W, hW⟩ : ∃ W, w.alloc (.cells #[.func (.func 37) #[] #[]] 84) = W := ⟨_, rfl⟩
  have HBW := hid (show Below w.heap.size w W from by rw [← hW]; exact ball _ _)
  have hK : W.heap[R]? = some (.cells #[.func (.func 37) #[] #[]] 84 (0, 0)) := by rw [← hW, ← hR]; exact World.alloc_heap_new _ _
  have hC : Cmp 58 R (fun z => -z.vo) l W.heap.size W := fun a ha b hb U hU => by
    have k := row_cell (row_on hK hU) 0
    simp only [List.getElem?_toArray, List.getElem?_cons_zero] at k
    have := most1_any R a b U k (row_lt (row_on hK hU))
    rw [cm3_neg] at this
    exact this
  have CB := hid (best_most1 R (fun z => -z.vo) base p c l W (h.on HBW.out) h0 hl hC)
  have HW := hid hW
  have HRR := hid hR
  clear h h0 hl hC hW hR hK
  go_enter Tryz.func35, Tryz.ntmps35
  go_upto_region 1 with fail
  rw [HW.out, HRR.out]
  go_wp2_with (go_at_call 57; with_reducible refine (CB.out).mono ?_; rintro e v1 ⟨q, d, rfl, hq, hb⟩; have HQ1 := hid hq; have V1 := hid hb; clear hq hb)
  go_ret
  exact ⟨q, d, rfl, own_base HQ1.out HBW.out.size, btr HBW.out V1.out⟩
theorem leastU_any (base : Nat) (p : Option Addr) (c : Nat) (l : List Qt) (w : World) (h : Qs base w p c l) (h0 : 0 < l.length) (hl : l.length ≤ 8193) :
    Calls Tryz.prog 64 #[.slice p l.length c, .func (.func 65) #[] #[]] w fun e w' => ∃ p' c', e = .returned (.slice p' (bst (fun z => z.su) l).length c') ∧ Qs w.heap.size w' p' c' (bst (fun z => z.su) l) ∧ Below w.heap.size w w' := by
  obtain ⟨R, hR⟩ : ∃ R, w.heap.size = R := ⟨_, rfl⟩
  obtain ⟨W, hW⟩ : ∃ W, w.alloc (.cells #[.func (.func 65) #[] #[]] 84) = W := ⟨_, rfl⟩
  have HBW := hid (show Below w.heap.size w W from by rw [← hW]; exact ball _ _)
  have hK : W.heap[R]? = some (.cells #[.func (.func 65) #[] #[]] 84 (0, 0)) := by rw [← hW, ← hR]; exact World.alloc_heap_new _ _
  have hC : Cmp 82 R (fun z => z.su) l W.heap.size W := fun a ha b hb U hU => by
    have k := row_cell (row_on hK hU) 0
    simp only [List.getElem?_toArray, List.getElem?_cons_zero] at k
    exact leastU1_any R a b U k (row_lt (row_on hK hU))
  have CB := hid (best_leastU1 R (fun z => z.su) base p c l W (h.on HBW.out) h0 hl hC)
  have HW := hid hW
  have HRR := hid hR
  clear h h0 hl hC hW hR hK
  go_enter Tryz.func64, Tryz.ntmps64
  go_upto_region 1 with fail
  rw [HW.out, HRR.out]
  go_wp2_with (go_at_call 57; with_reducible refine (CB.out).mono ?_; rintro e v1 ⟨q, d, rfl, hq, hb⟩; have HQ1 := hid hq; have V1 := hid hb; clear hq hb)
  go_ret
  exact ⟨q, d, rfl, own_base HQ1.out HBW.out.size, btr HBW.out V1.out⟩
theorem leastI_any (Z : Nat) (r : Int) (base : Nat) (p : Option Addr) (c : Nat) (l : List Qt) (w : World) (h : Qs base w p c l) (h0 : 0 < l.length) (hl : l.length ≤ 8193) (hZ : w.cell? ⟨Z, 0, none⟩ = some (.int .i64 r)) (hz : Z < w.heap.size) (r0 : 0 ≤ r) (r1 : r < 262144) (hg : ∀ a ∈ l, 0 ≤ a.pr ∧ a.pr < 262144) :
    Calls Tryz.prog 67 #[.slice p l.length c, .func (.func 68) #[] #[.pointer (some ⟨Z, 0, none⟩)]] w fun e w' => ∃ p' c', e = .returned (.slice p' (bst (fun z => max (z.pr - r) (r - z.pr)) l).length c') ∧ Qs w.heap.size w' p' c' (bst (fun z => max (z.pr - r) (r - z.pr)) l) ∧ Below w.heap.size w w' := by
  obtain ⟨R, hR⟩ : ∃ R, w.heap.size = R := ⟨_, rfl⟩
  obtain ⟨W, hW⟩ : ∃ W, w.alloc (.cells #[.func (.func 68) #[] #[.pointer (some ⟨Z, 0, none⟩)]] 110) = W := ⟨_, rfl⟩
  have HBW := hid (show Below w.heap.size w W from by rw [← hW]; exact ball _ _)
  have hK : W.heap[R]? = some (.cells #[.func (.func 68) #[] #[.pointer (some ⟨Z, 0, none⟩)]] 110 (0, 0)) := by rw [← hW, ← hR]; exact World.alloc_heap_new _ _
  have hC : Cmp 85 R (fun z => max (z.pr - r) (r - z.pr)) l W.heap.size W := fun a ha b hb U hU => by
    have k := row_cell (row_on hK hU) 0
    simp only [List.getElem?_toArray, List.getElem?_cons_zero] at k
    exact leastI1_any R Z r a b U k (row_lt (row_on hK hU)) (((btr HBW.out hU).cell (p := ⟨Z, 0, none⟩) hz).trans hZ) (Nat.lt_of_lt_of_le hz (btr HBW.out hU).size) r0 r1 (hg a ha).1 (hg a ha).2 (hg b hb).1 (hg b hb).2
  have CB := hid (best_leastI1 R (fun z => max (z.pr - r) (r - z.pr)) base p c l W (h.on HBW.out) h0 hl hC)
  have HW := hid hW
  have HRR := hid hR
  clear h h0 hl hC hW hR hK
  go_enter Tryz.func67, Tryz.ntmps67
  go_upto_region 1 with fail
  rw [HW.out, HRR.out]
  go_wp2_with (go_at_call 57; with_reducible refine (CB.out).mono ?_; rintro e v1 ⟨q, d, rfl, hq, hb⟩; have HQ1 := hid hq; have V1 := hid hb; clear hq hb)
  go_ret
  exact ⟨q, d, rfl, own_base HQ1.out HBW.out.size, btr HBW.out V1.out⟩
theorem by_any (k : Int) (z : Qt) (w : World) : Calls Tryz.prog 63 #[.int .i64 k, .agg #[.int .i64 z.pr, .int .u64 z.vo, .int .u64 z.su, .int .i64 z.sd, .int .i64 z.ru]] w fun e w' => e = .returned (.agg #[.int .i64 z.pr, .int .u64 z.vo, .int .u64 z.su, .int .i64 z.sd, .int .i64 k]) ∧ Below w.heap.size w w' := by
  go_enter Tryz.func63, Tryz.ntmps63
  go_wp2
  refine bodyPost_ret (results_cell_row (fn := Tryz.f63) Tryz.results63 _ _ (w.heap.size + 1) 57 #[.int .i64 z.pr, .int .u64 z.vo, .int .u64 z.su, .int .i64 z.sd, .int .i64 k] (0, 0) _ (by rfl) ?_ Tryz.underlying57 rfl infoQ) rfl ⟨rfl, ?_⟩
  · have := World.alloc_heap_new (w.alloc (.cells #[.int .i64 z.pr, .int .u64 z.vo, .int .u64 z.su, .int .i64 z.sd, .int .i64 k] 57)) (.cells #[.int .i64 z.pr, .int .u64 z.vo, .int .u64 z.su, .int .i64 z.sd, .int .i64 k] 57)
    simpa using this
  · exact btr (ball _ _) (ball _ _)
/-- the side on which the surplus of all stands. -/
def prs (l : List Qt) : Int := if l.all (fun x => x.sd == (l.headD ⟨0, 0, 0, 0, 0⟩).sd) then (l.headD ⟨0, 0, 0, 0, 0⟩).sd else 0
theorem pressure1_any (S : Nat) (s : Int) (l : List Qt) (n0 : Nat) (w : World) (hS : w.cell? ⟨S, 0, none⟩ = some (.int .i64 s)) (hs : S < n0) (hn0 : n0 ≤ w.heap.size) :
    Prd 84 [.pointer (some ⟨S, 0, none⟩)] (fun x => x.sd != s) l n0 w := by
  intro a ha U hU
  have k : U.cell? ⟨S, 0, none⟩ = some (.int .i64 s) := (hU.cell (p := ⟨S, 0, none⟩) hs).trans hS
  have sS : S < U.heap.size := Nat.lt_of_lt_of_le hs (Nat.le_trans hn0 hU.size)
  have nS : S ≠ U.heap.size := by omega
  clear hS hU
  go_enter Tryz.func84, Tryz.ntmps84
  go_wp2
  go_ret
  exact ⟨rfl, ball _ _⟩
theorem contains_any (S : Nat) (s : Int) (base : Nat) (p : Option Addr) (c : Nat) (l : List Qt) (w : World) (h : Qs base w p c l) (hl : l.length ≤ 8193) (hS : w.cell? ⟨S, 0, none⟩ = some (.int .i64 s)) (hs : S < w.heap.size) :
    Calls Tryz.prog 83 #[.slice p l.length c, .func (.func 84) #[] #[.pointer (some ⟨S, 0, none⟩)]] w fun e w' => e = .returned (.bool (!l.all (fun x => x.sd == s))) ∧ Below w.heap.size w w' := by
  have CI := hid (indexQ_pressure1 S (fun x => x.sd != s) base p c l w h hl w.heap.size (pressure1_any S s l w.heap.size w hS hs (Nat.le_refl _)) (Nat.le_refl _))
  clear h hS
  rcases ixq_cases (fun x => x.sd != s) l with ⟨e1, e2⟩ | ⟨i, hi, e1, e2, e3⟩
  · rw [e1] at CI
    have HE := hid (show l.all (fun x => x.sd == s) = true from List.all_eq_true.2 (fun x hx => by have := e2 x hx; simpa using this))
    clear e1 e2
    go_enter Tryz.func83, Tryz.ntmps83
    go_wp2_with (go_at_call 88; with_reducible refine (CI.out).mono ?_; rintro e v1 ⟨rfl, hb⟩; have V1 := hid hb; clear hb)
    go_ret
    exact ⟨by rw [HE.out]; rfl, V1.out⟩
  · rw [e1] at CI
    have HE := hid (show l.all (fun x => x.sd == s) = false by
      rw [List.all_eq_false]
      exact ⟨l[i], List.getElem_mem hi, by simpa using e2⟩)
    have i0 : (0 : Int) ≤ (i : Int) := by omega
    clear e1 e2 e3
    go_enter Tryz.func83, Tryz.ntmps83
    go_wp2_with (go_at_call 88; with_reducible refine (CI.out).mono ?_; rintro e v1 ⟨rfl, hb⟩; have V1 := hid hb; clear hb)
    go_ret
    exact ⟨by rw [HE.out]; rfl, V1.out⟩
theorem headD_at {l : List Qt} (h : 0 < l.length) : l[0] = l.headD ⟨0, 0, 0, 0, 0⟩ := by
  cases l with
  | nil => simp at h
  | cons x t => rfl
theorem pressure_any (base : Nat) (p : Option Addr) (c : Nat) (l : List Qt) (w : World) (h : Qs base w p c l) (h0 : 0 < l.length) (hl : l.length ≤ 8193) :
    Calls Tryz.prog 66 #[.slice p l.length c] w fun e w' => e = .returned (.int .i64 (prs l)) ∧ Below w.heap.size w w' := by
  obtain ⟨g, rfl, sg, a0, a1, a2, a3, a4⟩ := h.cells h0
  rw [headD_at h0] at a0 a1 a2 a3 a4
  simp only [Nat.zero_mul, Nat.zero_add] at a0 a1 a2 a3 a4
  obtain ⟨R, hR⟩ : ∃ R, w.heap.size = R := ⟨_, rfl⟩
  obtain ⟨s, hs⟩ : ∃ s, (l.headD ⟨0, 0, 0, 0, 0⟩).sd = s := ⟨_, rfl⟩
  rw [hs] at a3
  obtain ⟨W, hW⟩ : ∃ W, w.alloc (.cells #[.int .i64 s] 3) = W := ⟨_, rfl⟩
  have HBW := hid (show Below w.heap.size w W from by rw [← hW]; exact ball _ _)
  have hK : W.heap[R]? = some (.cells #[.int .i64 s] 3 (0, 0)) := by rw [← hW, ← hR]; exact World.alloc_heap_new _ _
  have k := row_cell hK 0
  simp only [List.getElem?_toArray, List.getElem?_cons_zero] at k
  have CC := hid (contains_any R s base (some ⟨g, 0, none⟩) c l W (h.on HBW.out) hl k (row_lt hK))
  have HE := hid (show prs l = if l.all (fun x => x.sd == s) then s else 0 by unfold prs; rw [hs])
  have HK := hid hK
  have HW := hid hW
  have HRR := hid hR
  obtain ⟨n, hn⟩ : ∃ n, l.length = n := ⟨_, rfl⟩
  rw [hn] at CC h0 ⊢
  have n0 : (0 : Int) < (n : Int) := by omega
  clear h hK hW hR hs k hn
  cases hb : l.all (fun x => x.sd == s) with
  | true =>
    rw [hb] at CC HE
    simp only [Bool.not_true] at CC
    have HE2 := hid (show prs l = s by rw [HE.out]; simp)
    clear hb HE
    go_enter Tryz.func66, Tryz.ntmps66
    go_upto_region 2 with fail
    rw [HW.out, HRR.out]
    go_upto_region 4 with (go_at_call 83; with_reducible refine (CC.out).mono ?_; rintro e v1 ⟨rfl, hb⟩; have V1 := hid hb; clear hb)
    have k := row_cell (row_on HK.out V1.out) 0
    simp only [List.getElem?_toArray, List.getElem?_cons_zero] at k
    go_wp2
    go_ret
    exact ⟨by rw [HE2.out]; rfl, btr HBW.out V1.out⟩
  | false =>
    rw [hb] at CC HE
    simp only [Bool.not_false] at CC
    have HE2 := hid (show prs l = 0 by rw [HE.out]; simp)
    clear hb HE
    go_enter Tryz.func66, Tryz.ntmps66
    go_upto_region 2 with fail
    rw [HW.out, HRR.out]
    go_wp2_with (go_at_call 83; with_reducible refine (CC.out).mono ?_; rintro e v1 ⟨rfl, hb⟩; have V1 := hid hb; clear hb)
    go_ret
    exact ⟨by rw [HE2.out]; rfl, btr HBW.out V1.out⟩
end Go.Proofs.YtnmkfdndfhefiaaGreat
