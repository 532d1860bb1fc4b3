/-
  The quote that the rules choose; the quote of a call.
-/
import Derived.Test.YtnmkfdndfhefiaaGreatAuL
namespace Go.Proofs.YtnmkfdndfhefiaaGreat
open Go.RowKit Go.Deep Go.Sort
set_option linter.unusedVariables false
set_option linter.unusedSimpArgs false
set_option maxHeartbeats 4000000
set_option maxRecDepth 100000
abbrev q0 : Qt := ⟨0, 0, 0, 0, 0⟩
theorem bst_mem {f : Qt → Int} {l : List Qt} {x : Qt} (h : x ∈ bst f l) : x ∈ l := (List.mem_filter.1 h).1
theorem bst_pos {f : Qt → Int} {l : List Qt} (h : 0 < l.length) : 0 < (bst f l).length := by
  have : mn f l l.length ∈ bst f l := List.mem_filter.2 ⟨mn_mem h _ (Nat.le_refl _), by simp⟩
  exact List.length_pos_of_mem this
theorem bst_le (f : Qt → Int) (l : List Qt) : (bst f l).length ≤ l.length := List.length_filter_le _ _
/-- what is far from a reference. -/
def dst (r : Int) (z : Qt) : Int := max (z.pr - r) (r - z.pr)
/-- the one that the rules choose. -/
def dcd (r : Int) (l : List Qt) : Qt :=
  if l.length = 1 then { l.headD q0 with ru := 1 }
  else if (bst (fun z => z.su) l).length = 1 then { (bst (fun z => z.su) l).headD q0 with ru := 2 }
  else if prs (bst (fun z => z.su) l) = 1 then { (bst (fun z => z.su) l).getLastD q0 with ru := 3 }
  else if prs (bst (fun z => z.su) l) = 2 then { (bst (fun z => z.su) l).headD q0 with ru := 3 }
  else { (bst (fun z => max (z.pr - r) (r - z.pr)) (bst (fun z => z.su) l)).headD q0 with ru := 4 }
theorem lastD_at {l : List Qt} (h : 0 < l.length) : l[l.length - 1] = l.getLastD q0 := by
  rw [List.getLastD_eq_getLast?, List.getLast?_eq_getElem?, List.getElem?_eq_getElem (by omega)]
  rfl
theorem decided_any (r : Int) (base : Nat) (p : Option Addr) (c : Nat) (l : List Qt) (w : World) (h : Qs base w p c l) (h0 : 0 < l.length) (hl : l.length ≤ 8193) (r0 : 0 ≤ r) (r1 : r < 262144) (hg : ∀ a ∈ l, 0 ≤ a.pr ∧ a.pr < 262144) :
    Calls Tryz.prog 38 #[.slice p l.length c, .int .i64 r] w fun e w' => e = .returned (.agg (qrow (dcd r l))) ∧ Below w.heap.size w w' := by
  obtain ⟨R, hR⟩ : ∃ R, w.heap.size = R := ⟨_, rfl⟩
  have HRR := hid hR
  obtain ⟨W, hW⟩ : ∃ W, (w.alloc (.cells #[.int .i64 r] 3)).alloc (.cells #[.int .i64 0, .int .u64 0, .int .u64 0, .int .i64 0, .int .i64 0] 57) = W := ⟨_, rfl⟩
  have HBW := hid (show Below w.heap.size w W from by rw [← hW]; exact btr (ball _ _) (ball _ _))
  have HK := hid (show W.heap[R]? = some (.cells #[.int .i64 r] 3 (0, 0)) from by rw [← hW, ← hR]; exact row_on (World.alloc_heap_new _ _) (ball _ _))
  have HZ := hid (show W.heap[R + 1]? = some (.cells #[.int .i64 0, .int .u64 0, .int .u64 0, .int .i64 0, .int .i64 0] 57 (0, 0)) from by
    rw [← hW, ← hR]
    have := World.alloc_heap_new (w.alloc (.cells #[.int .i64 r] 3)) (.cells #[.int .i64 0, .int .u64 0, .int .u64 0, .int .i64 0, .int .i64 0] 57)
    simpa using this)
  have HW := hid hW
  have HQ := hid h
  have H0 := hid h0
  have HLL := hid hl
  have HG := hid hg
  clear h hg hW hR
  by_cases c1 : l.length = 1
  · have HBP := hid (Below.refl W.heap.size W)
    obtain ⟨g, rfl, sg, a0, a1, a2, a3, a4⟩ := (HQ.out.on HBW.out).cells h0
    rw [headD_at h0] at a0 a1 a2 a3 a4
    simp only [Nat.zero_mul, Nat.zero_add] at a0 a1 a2 a3 a4
    obtain ⟨z, hz⟩ : ∃ z, l.headD q0 = z := ⟨_, rfl⟩
    rw [hz] at a0 a1 a2 a3 a4
    have HE := hid (show dcd r l = { z with ru := 1 } by unfold dcd; rw [if_pos c1, hz])
    have CBY := hid (by_any 1 z W)
    rw [c1]
    clear hz c1 h0 hl
    have AI := hid (show (Tryz.prog.info? 57).map (·.size) = some (#[.int .i64 z.pr, .int .u64 z.vo, .int .u64 z.su, .int .i64 z.sd, .int .i64 1] : Array Value).size from infoQ)
    have AS := hid (show (#[.int .i64 0, .int .u64 0, .int .u64 0, .int .i64 0, .int .i64 0] : Array Value).size = (#[.int .i64 z.pr, .int .u64 z.vo, .int .u64 z.su, .int .i64 z.sd, .int .i64 1] : Array Value).size from rfl)
    have AA := hid (show (#[.int .i64 z.pr, .int .u64 z.vo, .int .u64 z.su, .int .i64 z.sd, .int .i64 1] : Array Value).all (·.oneCell') = true from by simp [Value.oneCell'])
    go_enter Tryz.func38, Tryz.ntmps38
    go_upto_region 1 with fail
    rw [HW.out, HRR.out]
    go_wp2_with (first | (go_at_call 63; with_reducible refine (CBY.out).mono ?_; rintro e vv ⟨rfl, hb⟩; have VV := hid hb; have HZV := hid (row_on (row_on HZ.out HBP.out) hb); have HBV := hid (btr (btr HBW.out HBP.out) hb); clear hb) | (refine wpList_store_row (by rfl) 57 (.tmp 4) (.tmp 12) (by rfl) (R + 1) #[.int .i64 z.pr, .int .u64 z.vo, .int .u64 z.su, .int .i64 z.sd, .int .i64 1] (by rfl) (by rfl) 57 _ HZV.out AI.out AS.out AA.out ?_))
    refine bodyPost_ret (results_cell_row (fn := Tryz.f38) Tryz.results38 _ _ (R + 1) 57 #[.int .i64 z.pr, .int .u64 z.vo, .int .u64 z.su, .int .i64 z.sd, .int .i64 1] (0, 0) _ (by rfl) (setRow_heap _ _ _ _ 57 (0, 0) HZV.out) Tryz.underlying57 rfl infoQ) rfl ⟨?_, ?_⟩
    · rw [HE.out]; rfl
    · exact setRow_below HBV.out (by have := HRR.out; omega)
  · have HC1 := hid c1
    have CL := hid (leastU_any base p c l W (HQ.out.on HBW.out) h0 hl)
    obtain ⟨n, hn⟩ : ∃ n, l.length = n := ⟨_, rfl⟩
    rw [hn] at CL c1 ⊢
    obtain ⟨L, hL⟩ : ∃ L, bst (fun z => z.su) l = L := ⟨_, rfl⟩
    have HL := hid hL
    rw [hL] at CL
    have hL0 : 0 < L.length := by rw [← hL]; exact bst_pos h0
    have hLl : L.length ≤ 8193 := by rw [← hL]; exact Nat.le_trans (bst_le _ _) HLL.out
    have HLG := hid (show ∀ a ∈ L, 0 ≤ a.pr ∧ a.pr < 262144 from fun a ha => HG.out a (bst_mem (by rw [hL]; exact ha)))
    have z1 : ((n : Int) == 1) = false := by
      have : ¬ (n : Int) = 1 := by omega
      simpa using this
    have z2 : ¬ (n : Int) = 1 := by omega
    clear hn hL h0 hl c1
    by_cases c2 : L.length = 1
    · have HE0 := hid (show dcd r l = { L.headD q0 with ru := 2 } by unfold dcd; rw [if_neg HC1.out, HL.out, if_pos c2])
      rw [c2] at CL
      have HC2 := hid c2
      clear c2
      go_enter Tryz.func38, Tryz.ntmps38
      go_upto_region 1 with fail
      rw [HW.out, HRR.out]
      go_upto_region 4 with (go_at_call 64; with_reducible refine (CL.out).mono ?_; rintro e v1 ⟨q, d, rfl, hq, hb⟩; have HQ1 := hid hq; have HBP := hid hb; clear hq hb)
      obtain ⟨g, e, sg, a0, a1, a2, a3, a4⟩ := HQ1.out.cells hL0
      subst e
      rw [headD_at hL0] at a0 a1 a2 a3 a4
      simp only [Nat.zero_mul, Nat.zero_add] at a0 a1 a2 a3 a4
      obtain ⟨z, hz⟩ : ∃ z, L.headD q0 = z := ⟨_, rfl⟩
      rw [hz] at a0 a1 a2 a3 a4
      have HE := hid (show dcd r l = { z with ru := 2 } by rw [HE0.out, hz])
      have CBY := hid (by_any 2 z v1)
      clear hz hL0 hLl
      have AI := hid (show (Tryz.prog.info? 57).map (·.size) = some (#[.int .i64 z.pr, .int .u64 z.vo, .int .u64 z.su, .int .i64 z.sd, .int .i64 2] : Array Value).size from infoQ)
      have AS := hid (show (#[.int .i64 0, .int .u64 0, .int .u64 0, .int .i64 0, .int .i64 0] : Array Value).size = (#[.int .i64 z.pr, .int .u64 z.vo, .int .u64 z.su, .int .i64 z.sd, .int .i64 2] : Array Value).size from rfl)
      have AA := hid (show (#[.int .i64 z.pr, .int .u64 z.vo, .int .u64 z.su, .int .i64 z.sd, .int .i64 2] : Array Value).all (·.oneCell') = true from by simp [Value.oneCell'])
      go_wp2_with (first | (go_at_call 63; with_reducible refine (CBY.out).mono ?_; rintro e vv ⟨rfl, hb⟩; have VV := hid hb; have HZV := hid (row_on (row_on HZ.out HBP.out) hb); have HBV := hid (btr (btr HBW.out HBP.out) hb); clear hb) | (refine wpList_store_row (by rfl) 57 (.tmp 4) (.tmp 21) (by rfl) (R + 1) #[.int .i64 z.pr, .int .u64 z.vo, .int .u64 z.su, .int .i64 z.sd, .int .i64 2] (by rfl) (by rfl) 57 _ HZV.out AI.out AS.out AA.out ?_))
      refine bodyPost_ret (results_cell_row (fn := Tryz.f38) Tryz.results38 _ _ (R + 1) 57 #[.int .i64 z.pr, .int .u64 z.vo, .int .u64 z.su, .int .i64 z.sd, .int .i64 2] (0, 0) _ (by rfl) (setRow_heap _ _ _ _ 57 (0, 0) HZV.out) Tryz.underlying57 rfl infoQ) rfl ⟨?_, ?_⟩
      · rw [HE.out]; rfl
      · exact setRow_below HBV.out (by have := HRR.out; omega)
    · obtain ⟨k, hk⟩ : ∃ k, L.length = k := ⟨_, rfl⟩
      have HKK := hid hk
      have HC2 := hid c2
      rw [hk] at CL c2
      have y1 : ((k : Int) == 1) = false := by
        have : ¬ (k : Int) = 1 := by omega
        simpa using this
      have y2 : ¬ (k : Int) = 1 := by omega
      have hk0 : 0 < k := by omega
      have HE0 := hid (show dcd r l = if prs L = 1 then { L.getLastD q0 with ru := 3 } else if prs L = 2 then { L.headD q0 with ru := 3 } else { (bst (fun z => max (z.pr - r) (r - z.pr)) L).headD q0 with ru := 4 } by unfold dcd; rw [if_neg HC1.out, HL.out, if_neg HC2.out])
      have CP := hid (fun (q : Option Addr) (d : Nat) (U : World) (hq : Qs W.heap.size U q d L) => pressure_any W.heap.size q d L U hq hL0 hLl)
      rw [hk] at CP
      have HL0 := hid hL0
      have HLl := hid hLl
      clear hk c2 hL0 hLl
      obtain ⟨x, hx⟩ : ∃ x, prs L = x := ⟨_, rfl⟩
      rw [hx] at CP HE0
      clear hx
      by_cases c3 : x = 1
      · subst c3
        have HE1 := hid (show dcd r l = { L.getLastD q0 with ru := 3 } by rw [HE0.out, if_pos rfl])
        clear HE0
        go_enter Tryz.func38, Tryz.ntmps38
        go_upto_region 1 with fail
        rw [HW.out, HRR.out]
        go_upto_region 8 with (first | (go_at_call 64; with_reducible refine (CL.out).mono ?_; rintro e v1 ⟨q, d, rfl, hq, hb⟩; have HQ1 := hid hq; have V1 := hid hb; clear hq hb) | (go_at_call 66; with_reducible refine (CP.out _ _ _ HQ1.out).mono ?_; rintro e v2 ⟨rfl, hb⟩; have HQ2 := hid (HQ1.out.on hb); have HBP := hid (btr V1.out hb); clear hb))
        obtain ⟨g, e, sg, a0, a1, a2, a3, a4⟩ := HQ2.out.cells (i := L.length - 1) (by have := HL0.out; omega)
        subst e
        rw [lastD_at HL0.out] at a0 a1 a2 a3 a4
        rw [HKK.out] at a0 a1 a2 a3 a4
        obtain ⟨z, hz⟩ : ∃ z, L.getLastD q0 = z := ⟨_, rfl⟩
        rw [hz] at a0 a1 a2 a3 a4
        have HE := hid (show dcd r l = { z with ru := 3 } by rw [HE1.out, hz])
        have CBY := hid (by_any 3 z v2)
        have u1 : (0 : Int) ≤ (k : Int) - 1 := by omega
        have u2 : (k : Int) - 1 < (k : Int) := by omega
        have u3 : ((k : Int) - 1).toNat = k - 1 := by omega
        have u4 : IntKind.i64.wrap ((k : Int) - 1) = (k : Int) - 1 := by rw [IntKind.wrap_i64]; have := HLl.out; have := HKK.out; omega
        clear hz
        have AI := hid (show (Tryz.prog.info? 57).map (·.size) = some (#[.int .i64 z.pr, .int .u64 z.vo, .int .u64 z.su, .int .i64 z.sd, .int .i64 3] : Array Value).size from infoQ)
        have AS := hid (show (#[.int .i64 0, .int .u64 0, .int .u64 0, .int .i64 0, .int .i64 0] : Array Value).size = (#[.int .i64 z.pr, .int .u64 z.vo, .int .u64 z.su, .int .i64 z.sd, .int .i64 3] : Array Value).size from rfl)
        have AA := hid (show (#[.int .i64 z.pr, .int .u64 z.vo, .int .u64 z.su, .int .i64 z.sd, .int .i64 3] : Array Value).all (·.oneCell') = true from by simp [Value.oneCell'])
        go_wp2_with (first | (go_at_call 63; with_reducible refine (CBY.out).mono ?_; rintro e vv ⟨rfl, hb⟩; have VV := hid hb; have HZV := hid (row_on (row_on HZ.out HBP.out) hb); have HBV := hid (btr (btr HBW.out HBP.out) hb); clear hb) | (refine wpList_store_row (by rfl) 57 (.tmp 4) (.tmp 32) (by rfl) (R + 1) #[.int .i64 z.pr, .int .u64 z.vo, .int .u64 z.su, .int .i64 z.sd, .int .i64 3] (by rfl) (by rfl) 57 _ HZV.out AI.out AS.out AA.out ?_))
        refine bodyPost_ret (results_cell_row (fn := Tryz.f38) Tryz.results38 _ _ (R + 1) 57 #[.int .i64 z.pr, .int .u64 z.vo, .int .u64 z.su, .int .i64 z.sd, .int .i64 3] (0, 0) _ (by rfl) (setRow_heap _ _ _ _ 57 (0, 0) HZV.out) Tryz.underlying57 rfl infoQ) rfl ⟨?_, ?_⟩
        · rw [HE.out]; rfl
        · exact setRow_below HBV.out (by have := HRR.out; omega)
      · have w1 : (x == 1) = false := by simpa using c3
        by_cases c4 : x = 2
        · subst c4
          have HE1 := hid (show dcd r l = { L.headD q0 with ru := 3 } by rw [HE0.out, if_neg (by omega), if_pos rfl])
          clear HE0 c3
          go_enter Tryz.func38, Tryz.ntmps38
          go_upto_region 1 with fail
          rw [HW.out, HRR.out]
          go_upto_region 10 with (first | (go_at_call 64; with_reducible refine (CL.out).mono ?_; rintro e v1 ⟨q, d, rfl, hq, hb⟩; have HQ1 := hid hq; have V1 := hid hb; clear hq hb) | (go_at_call 66; with_reducible refine (CP.out _ _ _ HQ1.out).mono ?_; rintro e v2 ⟨rfl, hb⟩; have HQ2 := hid (HQ1.out.on hb); have HBP := hid (btr V1.out hb); clear hb))
          obtain ⟨g, e, sg, a0, a1, a2, a3, a4⟩ := HQ2.out.cells HL0.out
          subst e
          rw [headD_at HL0.out] at a0 a1 a2 a3 a4
          simp only [Nat.zero_mul, Nat.zero_add] at a0 a1 a2 a3 a4
          obtain ⟨z, hz⟩ : ∃ z, L.headD q0 = z := ⟨_, rfl⟩
          rw [hz] at a0 a1 a2 a3 a4
          have HE := hid (show dcd r l = { z with ru := 3 } by rw [HE1.out, hz])
          have CBY := hid (by_any 3 z v2)
          have u1 : (0 : Int) < (k : Int) := by omega
          clear hz
          have AI := hid (show (Tryz.prog.info? 57).map (·.size) = some (#[.int .i64 z.pr, .int .u64 z.vo, .int .u64 z.su, .int .i64 z.sd, .int .i64 3] : Array Value).size from infoQ)
          have AS := hid (show (#[.int .i64 0, .int .u64 0, .int .u64 0, .int .i64 0, .int .i64 0] : Array Value).size = (#[.int .i64 z.pr, .int .u64 z.vo, .int .u64 z.su, .int .i64 z.sd, .int .i64 3] : Array Value).size from rfl)
          have AA := hid (show (#[.int .i64 z.pr, .int .u64 z.vo, .int .u64 z.su, .int .i64 z.sd, .int .i64 3] : Array Value).all (·.oneCell') = true from by simp [Value.oneCell'])
          go_wp2_with (first | (go_at_call 63; with_reducible refine (CBY.out).mono ?_; rintro e vv ⟨rfl, hb⟩; have VV := hid hb; have HZV := hid (row_on (row_on HZ.out HBP.out) hb); have HBV := hid (btr (btr HBW.out HBP.out) hb); clear hb) | (refine wpList_store_row (by rfl) 57 (.tmp 4) (.tmp 38) (by rfl) (R + 1) #[.int .i64 z.pr, .int .u64 z.vo, .int .u64 z.su, .int .i64 z.sd, .int .i64 3] (by rfl) (by rfl) 57 _ HZV.out AI.out AS.out AA.out ?_))
          refine bodyPost_ret (results_cell_row (fn := Tryz.f38) Tryz.results38 _ _ (R + 1) 57 #[.int .i64 z.pr, .int .u64 z.vo, .int .u64 z.su, .int .i64 z.sd, .int .i64 3] (0, 0) _ (by rfl) (setRow_heap _ _ _ _ 57 (0, 0) HZV.out) Tryz.underlying57 rfl infoQ) rfl ⟨?_, ?_⟩
          · rw [HE.out]; rfl
          · exact setRow_below HBV.out (by have := HRR.out; omega)
        · have w2 : (x == 2) = false := by simpa using c4
          have HE1 := hid (show dcd r l = { (bst (fun z => max (z.pr - r) (r - z.pr)) L).headD q0 with ru := 4 } by rw [HE0.out, if_neg c3, if_neg c4])
          have CI := hid (fun (q : Option Addr) (d : Nat) (U : World) (hU : Below W.heap.size W U) (hq : Qs W.heap.size U q d L) => leastI_any R r W.heap.size q d L U hq HL0.out HLl.out (by rw [row_cell (row_on HK.out hU)]; rfl) (row_lt (row_on HK.out hU)) r0 r1 HLG.out)
          rw [HKK.out] at CI
          obtain ⟨V, hV⟩ : ∃ V, bst (fun z => max (z.pr - r) (r - z.pr)) L = V := ⟨_, rfl⟩
          rw [hV] at CI HE1
          have hV0 : 0 < V.length := by rw [← hV]; exact bst_pos HL0.out
          obtain ⟨kv, hkv⟩ : ∃ k, V.length = k := ⟨_, rfl⟩
          have HKV := hid hkv
          rw [hkv] at CI
          have u1 : (0 : Int) < (kv : Int) := by omega
          have HV0 := hid hV0
          clear HE0 c3 c4 hV hkv hV0
          go_enter Tryz.func38, Tryz.ntmps38
          go_upto_region 1 with fail
          rw [HW.out, HRR.out]
          go_upto_region 12 with (first | (go_at_call 64; with_reducible refine (CL.out).mono ?_; rintro e v1 ⟨q, d, rfl, hq, hb⟩; have HQ1 := hid hq; have V1 := hid hb; clear hq hb) | (go_at_call 66; with_reducible refine (CP.out _ _ _ HQ1.out).mono ?_; rintro e v2 ⟨rfl, hb⟩; have HQ2 := hid (HQ1.out.on hb); have V2 := hid (btr V1.out hb); clear hb) | (go_at_call 67; with_reducible refine (CI.out _ _ _ V2.out HQ2.out).mono ?_; rintro e v3 ⟨q3, d3, rfl, hq, hb⟩; have HQ3 := hid hq; have HBP := hid (btr V2.out hb); clear hq hb))
          obtain ⟨g, e, sg, a0, a1, a2, a3, a4⟩ := HQ3.out.cells HV0.out
          subst e
          rw [headD_at HV0.out] at a0 a1 a2 a3 a4
          simp only [Nat.zero_mul, Nat.zero_add] at a0 a1 a2 a3 a4
          obtain ⟨z, hz⟩ : ∃ z, V.headD q0 = z := ⟨_, rfl⟩
          rw [hz] at a0 a1 a2 a3 a4
          have HE := hid (show dcd r l = { z with ru := 4 } by rw [HE1.out, hz])
          have CBY := hid (by_any 4 z v3)
          clear hz
          have AI := hid (show (Tryz.prog.info? 57).map (·.size) = some (#[.int .i64 z.pr, .int .u64 z.vo, .int .u64 z.su, .int .i64 z.sd, .int .i64 4] : Array Value).size from infoQ)
          have AS := hid (show (#[.int .i64 0, .int .u64 0, .int .u64 0, .int .i64 0, .int .i64 0] : Array Value).size = (#[.int .i64 z.pr, .int .u64 z.vo, .int .u64 z.su, .int .i64 z.sd, .int .i64 4] : Array Value).size from rfl)
          have AA := hid (show (#[.int .i64 z.pr, .int .u64 z.vo, .int .u64 z.su, .int .i64 z.sd, .int .i64 4] : Array Value).all (·.oneCell') = true from by simp [Value.oneCell'])
          go_wp2_with (first | (go_at_call 63; with_reducible refine (CBY.out).mono ?_; rintro e vv ⟨rfl, hb⟩; have VV := hid hb; have HZV := hid (row_on (row_on HZ.out HBP.out) hb); have HBV := hid (btr (btr HBW.out HBP.out) hb); clear hb) | (refine wpList_store_row (by rfl) 57 (.tmp 4) (.tmp 45) (by rfl) (R + 1) #[.int .i64 z.pr, .int .u64 z.vo, .int .u64 z.su, .int .i64 z.sd, .int .i64 4] (by rfl) (by rfl) 57 _ HZV.out AI.out AS.out AA.out ?_))
          refine bodyPost_ret (results_cell_row (fn := Tryz.f38) Tryz.results38 _ _ (R + 1) 57 #[.int .i64 z.pr, .int .u64 z.vo, .int .u64 z.su, .int .i64 z.sd, .int .i64 4] (0, 0) _ (by rfl) (setRow_heap _ _ _ _ 57 (0, 0) HZV.out) Tryz.underlying57 rfl infoQ) rfl ⟨?_, ?_⟩
          · rw [HE.out]; rfl
          · exact setRow_below HBV.out (by have := HRR.out; omega)
end Go.Proofs.YtnmkfdndfhefiaaGreat
