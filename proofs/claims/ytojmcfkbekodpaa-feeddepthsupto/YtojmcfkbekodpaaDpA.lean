/-
  A list that may be read from some place on; behind of it.
-/
import Derived.Test.YtojmcfkbekodpaaRuB
import Derived.Deep.LoopGhost
import Derived.Deep.RegionLaw
import Derived.Deep.Cut
import Derived.Deep.CutBlock
import Derived.Deep.DrawnRows
import Derived.Deep.RegionWith
import Derived.Laws.Rows
import Derived.Laws.OwnMore
namespace Go.Proofs.Ytojmcfkbekodpaa
open Go.RowKit Go.Deep
set_option linter.unusedVariables false
set_option linter.unusedSimpArgs false
set_option maxHeartbeats 4000000
set_option maxRecDepth 100000
/-- a list that may be read. -/
structure Lr (w : World) (p : Option Addr) (c : Nat) (l : LO) : Prop where
  cap : l.length ≤ c ∧ c ≤ maxLen
  cell : ∀ i (hi : i < l.length), ∃ g o, p = some ⟨g, o, none⟩ ∧ g < w.heap.size ∧ w.cell? ⟨g, o + i, none⟩ = some (pv (l[i]).1) ∧ w.heap[(l[i]).1]? = some (.cells (orow (l[i]).2) 86 (0, 0))
theorem Lr.on {w w' : World} {p : Option Addr} {c : Nat} {l : LO} (h : Lr w p c l) (hb : Below w.heap.size w w') : Lr w' p c l :=
  ⟨h.cap, fun i hi => by
    obtain ⟨g, o, e, hg, h1, h2⟩ := h.cell i hi
    exact ⟨g, o, e, Nat.lt_of_lt_of_le hg hb.size, (hb.cell (p := ⟨g, o + i, none⟩) hg).trans h1, row_on h2 hb⟩⟩
theorem Li.lr {w : World} {p : Option Addr} {c : Nat} {l : LO} (h : Li w p c l) (hc : l.length ≤ c ∧ c ≤ maxLen) : Lr w p c l :=
  ⟨hc, fun i hi => by
    obtain ⟨g, cur, rfl, r, _, _, _, hcc⟩ := h.some (by omega)
    exact ⟨g, 0, rfl, row_lt r, by rw [Nat.zero_add, row_cell r]; exact hcc i hi, h.at' _ (List.getElem_mem hi)⟩⟩
theorem Lr.take {w : World} {p : Option Addr} {c : Nat} {l : LO} (h : Lr w p c l) (n : Nat) (hn : n ≤ l.length) : Lr w p c (l.take n) :=
  ⟨by rw [List.length_take]; have := h.cap; omega, fun i hi => by
    rw [List.length_take] at hi
    obtain ⟨g, o, e, hg, h1, h2⟩ := h.cell i (by omega)
    rw [List.getElem_take]
    exact ⟨g, o, e, hg, h1, h2⟩⟩
theorem Lr.drop {w : World} {g o c : Nat} {l : LO} (h : Lr w (some ⟨g, o, none⟩) c l) (n : Nat) (hn : n ≤ l.length) : Lr w (some ⟨g, o + n, none⟩) (c - n) (l.drop n) :=
  ⟨by rw [List.length_drop]; have := h.cap; omega, fun i hi => by
    rw [List.length_drop] at hi
    obtain ⟨g', o', e, hg, h1, h2⟩ := h.cell (n + i) (by omega)
    injection e with e
    injection e with e1 e2
    subst e1 e2
    rw [List.getElem_drop]
    exact ⟨g, o + n, rfl, hg, by rw [Nat.add_assoc]; exact h1, h2⟩⟩
theorem Lr.none {w : World} {p : Option Addr} {c : Nat} (hc : c ≤ maxLen) : Lr w p c [] := ⟨⟨Nat.zero_le _, hc⟩, fun i hi => by simp at hi⟩
theorem behind1_r (S P L : Nat) (s p : Int) (q : Option Addr) (c : Nat) (l : LO) (i : Nat) (hi : i < l.length) (w : World) (h : Lr w q c l) (hS : w.cell? ⟨S, 0, none⟩ = some (.int .i64 s)) (hP : w.cell? ⟨P, 0, none⟩ = some (.int .i64 p)) (hL : w.cell? ⟨L, 0, none⟩ = some (.slice q l.length c)) :
    Calls Try.prog 62 #[.int .i64 i, .pointer (some ⟨S, 0, none⟩), .pointer (some ⟨P, 0, none⟩), .pointer (some ⟨L, 0, none⟩)] w fun e w' => e = .returned (.bool (btt s p (l[i]).2.pr)) ∧ ∃ n, w' = w.drewN n := by
  obtain ⟨g, o, rfl, _, hc, hr⟩ := h.cell i hi
  have c3 := row_cell hr 3
  simp only [orow, List.getElem?_toArray, List.getElem?_cons_succ, List.getElem?_cons_zero] at c3
  obtain ⟨z, hz⟩ : ∃ z, (l[i]).2 = z := ⟨_, rfl⟩
  obtain ⟨bl, hbl⟩ : ∃ z, (l[i]).1 = z := ⟨_, rfl⟩
  rw [hbl] at hc c3
  rw [hz] at c3 ⊢
  unfold pv at hc
  have i0 : (0 : Int) ≤ (i : Int) := by omega
  have i1 : (i : Int) < (l.length : Int) := by omega
  clear h hr hz hbl
  go_enter Try.func62, Try.ntmps62
  go_wp2
  go_quiet ((go_at_call 63; exact Calls.quiet_of_same (better_any _ _ _ _)))
  go_wp2
  go_ret
  exact ⟨rfl, _, rfl⟩
theorem search_r (S P L : Nat) (s p : Int) (q : Option Addr) (c : Nat) (l : LO) (w : World) (h : Lr w q c l) (hsS : S < w.heap.size) (hsP : P < w.heap.size) (hsL : L < w.heap.size) (hS : w.cell? ⟨S, 0, none⟩ = some (.int .i64 s)) (hP : w.cell? ⟨P, 0, none⟩ = some (.int .i64 p)) (hL : w.cell? ⟨L, 0, none⟩ = some (.slice q l.length c)) (hn : l.length ≤ 1048576) (ho : Srt s l) :
    Calls Try.prog 61 #[.int .i64 l.length, .func (.func 62) #[] #[.pointer (some ⟨S, 0, none⟩), .pointer (some ⟨P, 0, none⟩), .pointer (some ⟨L, 0, none⟩)]] w fun e w' => e = .returned (.int .i64 (bhd s p l)) ∧ Below w.heap.size w w' := by
  have HL := hid h
  have HC := hid (And.intro hS (And.intro hP hL))
  have HO := hid ho
  clear h hS hP hL ho
  go_enter Try.func61, Try.ntmps61
  go_wp2
  go_loopw [5, 6] (fun iv jv wr => ∃ i j : Nat, i ≤ j ∧ j ≤ l.length ∧ iv = .int .i64 i ∧ jv = .int .i64 j ∧ Hid (∀ k (hk : k < l.length), k < i → btt s p (l[k]).2.pr = false) ∧ Hid (∀ k (hk : k < l.length), j ≤ k → btt s p (l[k]).2.pr = true) ∧ Hid (Below w.heap.size w wr)) (fun iv jv _ => (intOf jv).toNat - (intOf iv).toNat)
  case atStart => exact ⟨0, l.length, by omega, by omega, rfl, rfl, fun k _ hk => by omega, fun k _ hk => by omega, Below.refl _ _⟩
  case round =>
    obtain ⟨i, j, hij, hj, rfl, rfl, H1, H2, HB⟩ := hrel
    by_cases hlt : i < j
    · obtain ⟨m, hm⟩ : ∃ m, (i + j) / 2 = m := ⟨_, rfl⟩
      have hm1 : i ≤ m := by omega
      have hm2 : m < j := by omega
      have hml : m < l.length := by omega
      have C1 := hid (behind1_r S P L s p q c l m hml wr (HL.out.on HB.out) ((HB.out.cell hsS).trans HC.out.1) ((HB.out.cell hsP).trans HC.out.2.1) ((HB.out.cell hsL).trans HC.out.2.2))
      have a1 : IntKind.u64.wrap ((i : Int) + (j : Int)) = (i : Int) + (j : Int) := by rw [IntKind.wrap_u64]; omega
      have a2 : ((i : Int) + (j : Int)) / 2 = (m : Int) := by omega
      have a3 : IntKind.i64.wrap (m : Int) = (m : Int) := by rw [IntKind.wrap_i64]; omega
      have HM := hid hm
      clear hm
      obtain ⟨bv, hbv⟩ : ∃ b, btt s p (l[m]).2.pr = b := ⟨_, rfl⟩
      rw [hbv] at C1
      have HBV := hid hbv
      clear hbv
      cases bv with
      | true =>
        go_wp2_with (go_at_call 62; with_reducible refine (C1.out).mono ?_; rintro e w1 ⟨rfl, n, rfl⟩)
        go_roundw
        case rel => exact ⟨i, m, hm1, by omega, rfl, rfl, H1.out, fun k hk hmk => HO.out.up p hml hk hmk HBV.out, HB.out.trans ((bdrew _ _).mono HB.out.size)⟩
        case measure => simp [intOf]; omega
      | false =>
        go_wp2_with (go_at_call 62; with_reducible refine (C1.out).mono ?_; rintro e w1 ⟨rfl, n, rfl⟩)
        go_roundw
        case rel =>
          refine ⟨m + 1, j, by omega, by omega, by go_num, rfl, fun k hk hkm => ?_, H2.out, HB.out.trans ((bdrew _ _).mono HB.out.size)⟩
          cases hx : btt s p (l[k]).2.pr with
          | false => rfl
          | true =>
            have := HO.out.up p hk hml (by omega) hx
            rw [HBV.out] at this; cases this
        case measure => simp [intOf]; omega
    · have hi5 : i = j := by omega
      subst hi5
      go_wp2
      go_ret
      exact ⟨by rw [bhd_eq hj (fun k hk hki => H1.out k hk hki) (fun hk => H2.out i hk (Nat.le_refl _))]; rfl, HB.out⟩
theorem behind_r (s p : Int) (q : Option Addr) (c : Nat) (l : LO) (w : World) (h : Lr w q c l) (hn : l.length ≤ 1048576) (ho : Srt s l) :
    Calls Try.prog 36 #[.slice q l.length c, .int .i64 s, .int .i64 p] w fun e w' => e = .returned (.int .i64 (bhd s p l)) ∧ Below w.heap.size w w' := by
  obtain ⟨W, hW⟩ : ∃ W, ((w.alloc (.cells #[.slice q l.length c] 96)).alloc (.cells #[.int .i64 s] 3)).alloc (.cells #[.int .i64 p] 3) = W := ⟨_, rfl⟩
  have hB : Below w.heap.size w W := by rw [← hW]; exact (((Below.refl _ w).alloc (Nat.le_refl _) _).alloc (by simp) _).alloc (by simp; try omega) _
  have r1 : W.heap[w.heap.size]? = some (.cells #[.slice q l.length c] 96 (0, 0)) := by
    rw [← hW, Below.heap_alloc _ _ _ (by simp; try omega), Below.heap_alloc _ _ _ (by simp)]; exact World.alloc_heap_new _ _
  have r2 : W.heap[w.heap.size + 1]? = some (.cells #[.int .i64 s] 3 (0, 0)) := by
    rw [← hW, Below.heap_alloc _ _ _ (by simp; try omega)]
    have := World.alloc_heap_new (w.alloc (.cells #[.slice q l.length c] 96)) (.cells #[.int .i64 s] 3)
    simpa using this
  have r3 : W.heap[w.heap.size + 1 + 1]? = some (.cells #[.int .i64 p] 3 (0, 0)) := by
    rw [← hW]
    have := World.alloc_heap_new ((w.alloc (.cells #[.slice q l.length c] 96)).alloc (.cells #[.int .i64 s] 3)) (.cells #[.int .i64 p] 3)
    simpa using this
  have C := hid (search_r (w.heap.size + 1) (w.heap.size + 1 + 1) w.heap.size s p q c l W (h.on hB) (row_lt r2) (row_lt r3) (row_lt r1) (by rw [row_cell r2]; rfl) (by rw [row_cell r3]; rfl) (by rw [row_cell r1]; rfl) hn ho)
  have HB := hid hB
  have HW := hid hW
  clear h ho hB r1 r2 r3 hW
  go_enter Try.func36, Try.ntmps36
  go_wp2_with (go_at_call 61; rw [HW.out]; with_reducible refine (C.out).mono ?_; rintro e w1 ⟨rfl, hb⟩)
  go_ret
  exact ⟨rfl, HB.out.trans (hb.mono HB.out.size)⟩
/-- what is shown of a list. -/
def vsum (l : LO) : Int := (l.map fun x => x.2.vi).sum
theorem vsum_snoc (l : LO) (x : Nat × Or) : vsum (l ++ [x]) = vsum l + x.2.vi := by simp [vsum]
theorem vsum_take {l : LO} {i : Nat} (hi : i < l.length) : vsum (l.take (i + 1)) = vsum (l.take i) + (l[i]).2.vi := by
  rw [List.take_add_one, List.getElem?_eq_getElem hi]
  exact vsum_snoc _ _
theorem vsum_le {l : LO} (h : ∀ x ∈ l, 0 ≤ x.2.vi ∧ x.2.vi ≤ 4294967295) : 0 ≤ vsum l ∧ vsum l ≤ 4294967295 * l.length := by
  induction l with
  | nil => simp [vsum]
  | cons x l ih =>
    have a := ih (fun y hy => h y (by simp [hy]))
    have b := h x (by simp)
    simp only [vsum, List.map_cons, List.sum_cons, List.length_cons] at a ⊢
    omega
theorem setRow_kpD (w : World) (g : Nat) (cs : Array Value) : Kp (fun b => b = g) w (w.setRow g cs) := ⟨rfl, rfl, rfl, by simp [World.setRow], fun b hb hne => setRow_other w g b cs hne⟩
theorem infoLv : (Try.prog.info? 71).map (·.size) = some 3 := by kernel_rfl
theorem level_any (p : Option Addr) (c : Nat) (l : LO) (w : World) (h : Lr w p c l) (h0 : 0 < l.length) (hn : l.length ≤ 1048576) (hv : ∀ x ∈ l, 0 ≤ x.2.vi ∧ x.2.vi ≤ 4294967295) :
    Calls Try.prog 37 #[.slice p l.length c] w fun e w' => e = .returned (.agg #[.int .i64 (l[0]).2.pr, .int .u64 (vsum l), .int .i64 l.length]) ∧ Below w.heap.size w w' := by
  obtain ⟨pr, hpr⟩ : ∃ x, (l[0]).2.pr = x := ⟨_, rfl⟩
  rw [hpr]
  obtain ⟨R, hR⟩ : ∃ R, w.heap.size = R := ⟨_, rfl⟩
  obtain ⟨n, hl⟩ : ∃ n, l.length = n := ⟨_, rfl⟩
  have hcap := h.cap
  unfold maxLen at hcap
  rw [hl] at hcap hn
  have HN := hid hl
  have HL := hid h
  have HV := hid hv
  have HPR := hid hpr
  have HRR := hid hR
  have hc2 := hcap.1
  have hc3 := hcap.2
  obtain ⟨W, hW⟩ : ∃ W, (w.alloc (.cells #[.int .i64 0, .int .u64 0, .int .i64 0] 71)) = W := ⟨_, rfl⟩
  have HBW := hid (show Below w.heap.size w W from by rw [← hW]; exact ball _ _)
  have HZ := hid (show W.heap[R]? = some (.cells #[.int .i64 0, .int .u64 0, .int .i64 0] 71 (0, 0)) from by rw [← hW, ← hR]; exact World.alloc_heap_new _ _)
  have HW := hid hW
  obtain ⟨g, o, rfl, hg, hc, hr⟩ := (h.on HBW.out).cell 0 h0
  obtain ⟨bl, hbl⟩ : ∃ z, (l[0]).1 = z := ⟨_, rfl⟩
  have c3 := row_cell hr 3
  simp only [orow, List.getElem?_toArray, List.getElem?_cons_succ, List.getElem?_cons_zero] at c3
  rw [hbl, hpr] at c3
  rw [hbl] at hc
  unfold pv at hc
  have n0 : (0 : Int) < (n : Int) := by omega
  rw [hl]
  clear h hv hl hpr hR hW hr hbl hcap
  simp only [Nat.add_zero] at hc
  go_enter Try.func37, Try.ntmps37
  go_upto_region 1 with fail
  rw [HW.out, HRR.out]
  go_upto_region 2 with fail
  obtain ⟨V, hV⟩ : ∃ V, W.alloc (.cells #[.int .i64 pr, .int .u64 0, .int .i64 n] 71) = V := ⟨_, rfl⟩
  obtain ⟨Q, hQ⟩ : ∃ Q, W.heap.size = Q := ⟨_, rfl⟩
  have HBV := hid (show Below W.heap.size W V from by rw [← hV]; exact ball _ _)
  have HQ := hid (show V.heap[Q]? = some (.cells #[.int .i64 pr, .int .u64 0, .int .i64 n] 71 (0, 0)) from by rw [← hV, ← hQ]; exact World.alloc_heap_new _ _)
  have HQS := hid (show w.heap.size ≤ Q ∧ R ≠ Q from by have := HBW.out.size; have := row_lt HZ.out; omega)
  rw [hV, hQ]
  clear hV hQ hc c3
  go_wp2
  go_loopw [17] (fun iv wr => ∃ i : Nat, i ≤ n ∧ iv = .int .i64 i ∧ Hid (wr.heap[Q]? = some (.cells #[.int .i64 pr, .int .u64 (vsum (l.take i)), .int .i64 n] 71 (0, 0))) ∧ Hid (Kp (fun b => b = Q) V wr)) (fun iv _ => n - (intOf iv).toNat)
  case atStart => exact ⟨0, by omega, rfl, by simpa [Hid, vsum] using HQ.out, Kp.refl _ _⟩
  case round =>
    obtain ⟨i, hi, rfl, HQI, HK⟩ := hrel
    have BWR := hid (show Below w.heap.size w wr from (btr HBW.out HBV.out).trans (HK.out.below (btr HBW.out HBV.out).size (fun g hg e => by have := HQS.out.1; omega)))
    by_cases hlt : i < n
    · have hil : i < l.length := by have := HN.out; omega
      obtain ⟨g', o', e, hg', hc, hr⟩ := (HL.out.on BWR.out).cell i hil
      injection e with e
      injection e with e1 e2
      subst e1 e2
      obtain ⟨bl, hbl⟩ : ∃ z, (l[i]).1 = z := ⟨_, rfl⟩
      obtain ⟨vi, hvi⟩ : ∃ z, (l[i]).2.vi = z := ⟨_, rfl⟩
      have c4 := row_cell hr 4
      simp only [orow, List.getElem?_toArray, List.getElem?_cons_succ, List.getElem?_cons_zero] at c4
      have hne : bl ≠ Q := by rw [← hbl]; exact row_ne hr HQI.out (by decide)
      rw [hbl, hvi] at c4
      rw [hbl] at hc
      unfold pv at hc
      obtain ⟨s0, hs0⟩ : ∃ x, vsum (l.take i) = x := ⟨_, rfl⟩
      obtain ⟨s1, hs1⟩ : ∃ x, vsum (l.take (i + 1)) = x := ⟨_, rfl⟩
      have hst : s0 + vi = s1 := by rw [← hs0, ← hs1, ← hvi, vsum_take hil]
      have hbd := vsum_le (l := l.take (i + 1)) (fun x hx => HV.out x (List.mem_of_mem_take hx))
      rw [hs1, List.length_take] at hbd
      have w1 : IntKind.u64.wrap (s0 + vi) = s1 := by rw [hst, IntKind.wrap_u64]; omega
      have HQ0 := hid (show wr.heap[Q]? = some (.cells #[.int .i64 pr, .int .u64 s0, .int .i64 n] 71 (0, 0)) from by rw [← hs0]; exact HQI.out)
      have HS1 := hid hs1
      have q1 := row_cell HQ0.out 1
      have f1 := row_frz HQ0.out 1
      have i0 : (0 : Int) ≤ (i : Int) := by omega
      have i1 : (i : Int) < (n : Int) := by omega
      clear hr hs0 hs1 hst hbd hbl hvi
      go_upto_region 5 with fail
      go_region_law fail
      all_goals
        go_wp2
        go_roundw
        case rel =>
          refine ⟨i + 1, by omega, by go_num, ?_, ?_⟩
          · rw [HS1.out]; exact heap_setCell_same _ Q 1 _ 71 _ HQ0.out
          · exact (HK.out.trans (Kp.of (fun _ => False) (bdrew1 wr)) (fun _ _ h => h.elim)).trans (Kp.set wr.drew Q 1 (.int .u64 s1)) (fun _ _ h => h)
        case measure => simp [intOf]; omega
    · have hin : i = n := by omega
      subst hin
      have HT := hid (show l.take i = l from List.take_of_length_le (by have := HN.out; omega))
      have HQ0 := hid (show wr.heap[Q]? = some (.cells #[.int .i64 pr, .int .u64 (vsum l), .int .i64 i] 71 (0, 0)) from by have := HQI.out; rw [HT.out] at this; exact this)
      obtain ⟨s0, hs0⟩ : ∃ x, vsum l = x := ⟨_, rfl⟩
      rw [hs0] at HQ0
      have HS0 := hid hs0
      have q0 := row_cell HQ0.out 0
      have q1 := row_cell HQ0.out 1
      have q2 := row_cell HQ0.out 2
      have HZ1 := hid (HK.out.row (row_on HZ.out HBV.out) (fun e => HQS.out.2 e))
      have AS := hid (show (#[.int .i64 0, .int .u64 0, .int .i64 0] : Array Value).size = (#[.int .i64 pr, .int .u64 s0, .int .i64 i] : Array Value).size from rfl)
      have AA := hid (show (#[.int .i64 pr, .int .u64 s0, .int .i64 i] : Array Value).all (·.oneCell') = true from by simp [Value.oneCell'])
      clear hs0
      go_wp2_with (refine wpList_store_row (by rfl) 71 (.tmp 2) (.tmp 30) (by rfl) R #[.int .i64 pr, .int .u64 s0, .int .i64 i] (by rfl) (by rfl) 71 _ HZ1.out infoLv AS.out AA.out ?_)
      refine bodyPost_ret (results_cell_row (fn := Try.f37) Try.results37 _ _ R 71 #[.int .i64 pr, .int .u64 s0, .int .i64 i] (0, 0) _ (by rfl) (setRow_heap _ _ _ _ 71 (0, 0) HZ1.out) Try.underlying71 rfl infoLv) rfl ⟨by rw [HS0.out], ?_⟩
      exact BWR.out.trans ((setRow_kpD wr R _).below BWR.out.size (fun g hg e => by have := HRR.out; omega))
end Go.Proofs.Ytojmcfkbekodpaa
