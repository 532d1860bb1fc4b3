/-
  Quotes that a closure names are taken out; those that none comes ahead of.
-/
import Derived.Test.YtnmkfdndfhefiaaGreatAuJ
namespace Go.Proofs.YtnmkfdndfhefiaaGreat
open Go.RowKit Go.Deep Go.Sort
set_option linter.unusedVariables false
set_option linter.unusedSimpArgs false
set_option maxHeartbeats 4000000
set_option maxRecDepth 100000
theorem ixq_cases (P : Qt → Bool) (l : List Qt) : (ixq P l = -1 ∧ ∀ x ∈ l, P x = false) ∨ ∃ i, ∃ hi : i < l.length, ixq P l = i ∧ P l[i] = true ∧ ∀ j (hj : j < l.length), j < i → P l[j] = false := by
  induction l with
  | nil => exact .inl ⟨rfl, by simp⟩
  | cons x l ih =>
    by_cases hx : P x = true
    · exact .inr ⟨0, by simp, by simp [ixq, hx], by simpa using hx, fun j hj h => by omega⟩
    · have hx' : P x = false := by simpa using hx
      rcases ih with ⟨h1, h2⟩ | ⟨i, hi, h1, h2, h3⟩
      · exact .inl ⟨by unfold ixq; rw [if_neg hx, if_pos h1], fun y hy => by rcases List.mem_cons.1 hy with rfl | hy; exact hx'; exact h2 y hy⟩
      · refine .inr ⟨i + 1, by simpa using hi, by unfold ixq; rw [if_neg hx, h1, if_neg (by omega)]; omega, by simpa using h2, fun j hj h => ?_⟩
        cases j with
        | zero => simpa using hx'
        | succ j => simpa using h3 j (by simpa using hj) (by omega)
theorem clearQ {base : Nat} {w : World} {g c : Nat} {L : List Qt} (h : Qs base w (some ⟨g, 0, none⟩) c L) (h0 : 0 < L.length) (i cc : Nat) (hi : i < L.length) (ty : TypeId) : ∃ vs, (Builtin.clear_ #[81] ty #[.slice (some ⟨g, i * 5, none⟩) (L.length - i) cc]).run Tryz.prog w = .ok (.tuple #[]) (w.setCells g (i * 5) vs) := by
  obtain ⟨g', cur, e, hb, hr, hs, hlc, hcm, ht⟩ := h.some h0
  injection e with e
  injection e with e
  subst e
  have hzl : (Builtin.zeroCells (Value.agg #[.int .i64 0, .int .u64 0, .int .u64 0, .int .i64 0, .int .i64 0]).cells (L.length - i)).toList.length = (L.length - i) * 5 := by simp [Builtin.zeroCells, Value.cells]
  have hz1 : ∀ v ∈ (Builtin.zeroCells (Value.agg #[.int .i64 0, .int .u64 0, .int .u64 0, .int .i64 0, .int .i64 0]).cells (L.length - i)).toList, v.oneCell' = true := by
    intro v hv
    simp only [Builtin.zeroCells, Value.cells] at hv
    rw [Array.mem_toList_iff, Array.mem_map] at hv
    obtain ⟨k, _, rfl⟩ := hv
    have hk : k % 5 < 5 := Nat.mod_lt _ (by omega)
    obtain ⟨q, hq⟩ : ∃ q, k % 5 = q := ⟨_, rfl⟩
    simp only [List.size_toArray, List.length_cons, List.length_nil, Nat.zero_add] 
    rw [show k % (0 + 1 + 1 + 1 + 1 + 1) = q from hq]
    rw [hq] at hk
    rcases q with _ | _ | _ | _ | _ | q
    · rfl
    · rfl
    · rfl
    · rfl
    · rfl
    · omega
  refine ⟨(Builtin.zeroCells (Value.agg #[.int .i64 0, .int .u64 0, .int .u64 0, .int .i64 0, .int .i64 0]).cells (L.length - i)).toList, ?_⟩
  obtain ⟨k, hk⟩ : ∃ k, L.length - i = k + 1 := ⟨L.length - i - 1, by omega⟩
  have hst := run_storeCells_cells (P := Tryz.prog) g (i * 5) (Builtin.zeroCells (Value.agg #[.int .i64 0, .int .u64 0, .int .u64 0, .int .i64 0, .int .i64 0]).cells (L.length - i)).toList 0 w (fun j hj => by
    rw [hzl] at hj
    rw [row_cell hr, Nat.add_zero, Array.getElem?_eq_getElem (by rw [hs]; omega)]
    rfl) (fun j hj => row_frz hr _) hz1
  simp only [Nat.add_zero] at hst
  rw [hk] at hst ⊢
  have hv := Tryz.zeroValue57
  simp [Builtin.clear_, run_underlying Tryz.underlying81, hv, hst]
theorem delf_any (K F : Nat) (P : Qt → Bool) (base : Nat) (p : Option Addr) (c : Nat) (l : List Qt) (w : World) (h : Qs base w p c l) (h0 : 0 < l.length) (hl : l.length ≤ 8193) (n0 : Nat) (hP : Prd 78 [.pointer (some ⟨K, 0, none⟩), .pointer (some ⟨F, 0, none⟩)] P l n0 w) (hn0 : n0 ≤ base) :
    Calls Tryz.prog 76 #[.slice p l.length c, .func (.func 78) #[] #[.pointer (some ⟨K, 0, none⟩), .pointer (some ⟨F, 0, none⟩)]] w fun e w' => e = .returned (.slice p (l.filter fun x => !P x).length c) ∧ Qs base w' p c (l.filter fun x => !P x) ∧ Below base w w' := by
  obtain ⟨g, cur, rfl, hbg, hrow, _, hlc, hcm, _⟩ := h.some h0
  have hgs := row_lt hrow
  have hbw : base ≤ w.heap.size := by omega
  have CI := hid (indexQ_best1 K F P base (some ⟨g, 0, none⟩) c l w h hl n0 hP (Nat.le_trans hn0 hbw))
  have HQ := hid h
  have HP := hid hP
  obtain ⟨n, hn⟩ : ∃ n, l.length = n := ⟨_, rfl⟩
  have HN := hid hn
  rw [hn] at CI hl h0 hlc ⊢
  unfold maxLen at hcm
  rcases ixq_cases P l with ⟨e1, e2⟩ | ⟨i0, hi0, e1, e2, e3⟩
  · rw [e1] at CI
    have e4 : l.filter (fun x => !P x) = l := List.filter_eq_self.2 (fun x hx => by rw [e2 x hx]; rfl)
    rw [e4, hn]
    clear e1 e2 e4 h hP hn hrow
    go_enter Tryz.func76, Tryz.ntmps76
    go_wp2_with (go_at_call 88; with_reducible refine (CI.out).mono ?_; rintro e w1 ⟨rfl, hb⟩; have HB := hid hb; clear hb)
    go_ret
    exact ⟨rfl, HQ.out.on HB.out, HB.out.mono hbw⟩
  · rw [e1] at CI
    have HE2 := hid e2
    have HE3 := hid e3
    have hi0n : i0 < n := by omega
    have z1 : ((i0 : Int) == -1) = false := by simp
    have z2 : ¬ (i0 : Int) = -1 := by omega
    clear e1 e2 e3 h hP hn hrow
    go_enter Tryz.func76, Tryz.ntmps76
    go_wp2_with (go_at_call 88; with_reducible refine (CI.out).mono ?_; rintro e w1 ⟨rfl, hb⟩; have HB1 := hid hb; clear hb)
    go_loopw [5, 6] (fun iv jv wr => ∃ (i j : Nat) (L : List Qt), i < j ∧ j ≤ n ∧ iv = .int .i64 i ∧ jv = .int .i64 j ∧ Hid (L.length = n) ∧ Hid (Qs base wr (some ⟨g, 0, none⟩) c L) ∧ Hid (L.take i = (l.take j).filter fun x => !P x) ∧ Hid (L.drop j = l.drop j) ∧ Hid (Below base w wr)) (fun _ jv _ => n - (intOf jv).toNat)
    case atStart =>
      refine ⟨i0, i0 + 1, l, by omega, by omega, rfl, by go_num, HN, hid (HQ.out.on HB1.out), hid ?_, hid rfl, hid (HB1.out.mono hbw)⟩
      rw [List.take_succ_eq_append_getElem hi0, List.filter_append]
      have e5 : (l.take i0).filter (fun x => !P x) = l.take i0 := List.filter_eq_self.2 (fun x hx => by
        obtain ⟨k, hk, rfl⟩ := List.getElem_of_mem hx
        rw [List.length_take] at hk
        rw [List.getElem_take, HE3.out k (by omega) (by omega)]
        rfl)
      rw [e5]
      simp [HE2.out]
    case round =>
      obtain ⟨i, j, L, hij, hjn, rfl, rfl, HL, HV, HT, HD, HB⟩ := hrel
      by_cases hlt : j < n
      · have hjL : j < L.length := by rw [HL.out]; exact hlt
        have hjl : j < l.length := by rw [HN.out]; exact hlt
        have hiL : i < L.length := by omega
        obtain ⟨g', e, sg, b0, b1, b2, b3, b4⟩ := HV.out.cells hjL
        injection e with e
        injection e with e
        subst e
        have eLj : L[j] = l[j] := by
          have := congrArg (fun z => z[0]?) HD.out
          simp only [List.getElem?_drop, Nat.add_zero] at this
          rw [List.getElem?_eq_getElem hjL, List.getElem?_eq_getElem hjl] at this
          injection this
        rw [eLj] at b0 b1 b2 b3 b4
        have hym := List.getElem_mem hjl
        have HTK := hid (show (l.take (j + 1)).filter (fun x => !P x) = (l.take j).filter (fun x => !P x) ++ (if P l[j] then [] else [l[j]]) by
          rw [List.take_succ_eq_append_getElem hjl, List.filter_append]
          cases hp : P l[j] <;> simp [hp, List.filter_cons])
        have HDD := hid (show L.drop (j + 1) = l.drop (j + 1) by
          have := congrArg (fun z => z.drop 1) HD.out
          simpa [List.drop_drop] using this)
        obtain ⟨y, hy⟩ : ∃ y, l[j] = y := ⟨_, rfl⟩
        rw [hy] at b0 b1 b2 b3 b4 hym HTK
        have C1 := hid (HP.out y hym (wr.alloc (.cells #[.int .i64 y.pr, .int .u64 y.vo, .int .u64 y.su, .int .i64 y.sd, .int .i64 y.ru] 57)) ((HB.out.mono hn0).trans ((ball wr _).mono (Nat.le_trans (Nat.le_trans hn0 hbw) HB.out.size))))
        have HX := hid (World.alloc_heap_new wr (.cells #[.int .i64 y.pr, .int .u64 y.vo, .int .u64 y.su, .int .i64 y.sd, .int .i64 y.ru] 57))
        have BX := hid (ball wr (.cells #[.int .i64 y.pr, .int .u64 y.vo, .int .u64 y.su, .int .i64 y.sd, .int .i64 y.ru] 57))
        have j0 : (0 : Int) ≤ (j : Int) := by omega
        have j1 : (j : Int) < (n : Int) := by omega
        have l0 : (0 : Int) ≤ (i : Int) := by omega
        have l1 : (i : Int) < (n : Int) := by omega
        clear hy hym eLj
        cases hp : P y with
        | true =>
          have HTT := hid (show (l.take (j + 1)).filter (fun x => !P x) = (l.take j).filter (fun x => !P x) by rw [HTK.out, hp]; simp)
          rw [hp] at C1
          clear hp HTK
          go_wp2_with (go_at_call 78; with_reducible refine (C1.out).mono ?_; rintro e v1 ⟨rfl, hb⟩; have V1 := hid hb; clear hb)
          go_roundw
          case rel => exact ⟨i, j + 1, L, by omega, by omega, rfl, by go_num, HL, hid (HV.out.on (btr BX.out V1.out)), hid (by rw [HTT.out]; exact HT.out), HDD, hid (HB.out.trans ((btr BX.out V1.out).mono (Nat.le_trans hbw HB.out.size)))⟩
          case measure => simp [intOf]; omega
        | false =>
          have HTT := hid (show (l.take (j + 1)).filter (fun x => !P x) = (l.take j).filter (fun x => !P x) ++ [y] by rw [HTK.out, hp]; simp)
          rw [hp] at C1
          clear hp HTK
          go_upto_region 9 with (go_at_call 78; with_reducible refine (C1.out).mono ?_; rintro e v1 ⟨rfl, hb⟩; have V1 := hid hb; clear hb)
          clear b0 b1 b2 b3 b4
          have HV1 := hid (HV.out.on (btr BX.out V1.out))
          obtain ⟨r0, r1, r2, r3, r4⟩ := row5 (row_on HX.out V1.out)
          obtain ⟨g'', e, sg1, b0, b1, b2, b3, b4⟩ := HV1.out.cells hiL
          injection e with e
          injection e with e
          subst e
          obtain ⟨g3, cu3, e, hbg3, hr3, _⟩ := HV1.out.some (by omega)
          injection e with e
          injection e with e
          subst e
          have f0 := row_frz hr3 (i * 5)
          have f1 := row_frz hr3 (i * 5 + 1)
          have f2 := row_frz hr3 (i * 5 + 2)
          have f3 := row_frz hr3 (i * 5 + 3)
          have f4 := row_frz hr3 (i * 5 + 4)
          clear hr3
          go_wp2
          go_roundw
          case rel =>
            refine ⟨i + 1, j + 1, L.set i y, by omega, by omega, by go_num, by go_num, hid (by rw [List.length_set]; exact HL.out), hid (HV1.out.put hiL y), hid ?_, hid ?_, hid ?_⟩
            · rw [HTT.out, ← HT.out, List.take_succ_eq_append_getElem (by rw [List.length_set]; exact hiL), List.getElem_set_self, List.take_set_of_le (Nat.le_refl i)]
            · rw [← HDD.out, List.drop_set_of_lt (by omega)]
            · exact (HB.out.trans ((btr BX.out V1.out).mono (Nat.le_trans hbw HB.out.size))).trans ((setCells_kp g (qrow y).toList (i * 5) v1).below (Nat.le_trans hbw (Nat.le_trans HB.out.size (btr BX.out V1.out).size)) (fun b hb e => by omega))
          case measure => simp [intOf]; omega
      · obtain rfl : j = n := by omega
        obtain ⟨vs, hcl⟩ := clearQ HV.out (by rw [HL.out]; omega) i (c - i) (by rw [HL.out]; omega) 0
        rw [HL.out] at hcl
        have b1 : ¬ c = i := by omega
        have b2 : (i : Int) ≤ (j : Int) := by omega
        have b3 : (i : Int) ≤ (c : Int) := by omega
        have b4 : (0 : Int) ≤ (i : Int) := by omega
        go_wp2
        go_ret
        have e6 := HT.out
        rw [show l.take j = l from List.take_of_length_le (by rw [HN.out]; exact Nat.le_refl _)] at e6
        have e7 := HV.out.cut (k := i) (by rw [HL.out]; omega) (by rw [HL.out]; omega) vs
        rw [e6] at e7
        have e8 : (l.filter fun x => !P x).length = i := by rw [← e6, List.length_take, HL.out]; omega
        exact ⟨by rw [e8]; rfl, e7, HB.out.trans ((setCells_kp g vs (i * 5) wr).below (Nat.le_trans hbw HB.out.size) (fun b hb e => by omega))⟩
/-- those of the least mark, as they stand. -/
def bst (f : Qt → Int) (l : List Qt) : List Qt := l.filter fun x => decide (f x = f (mn f l l.length))
theorem best1_most1 (K F M : Nat) (f : Qt → Int) (l : List Qt) (n0 : Nat) (m : Qt) (w : World) (hK : w.heap[K]? = some (.cells #[.func (.func 58) #[] #[.pointer (some ⟨M, 0, none⟩)]] 101 (0, 0))) (hF : w.heap[F]? = some (.cells #[.int .i64 m.pr, .int .u64 m.vo, .int .u64 m.su, .int .i64 m.sd, .int .i64 m.ru] 57 (0, 0))) (hKn : K < n0) (hFn : F < n0) (hn0 : n0 ≤ w.heap.size) (hC : Cmp 58 M f l n0 w) (hm : m ∈ l) :
    Prd 78 [.pointer (some ⟨K, 0, none⟩), .pointer (some ⟨F, 0, none⟩)] (fun x => decide (f x ≠ f m)) l n0 w := by
  intro a ha U hU
  have hK' : U.heap[K]? = some (.cells #[.func (.func 58) #[] #[.pointer (some ⟨M, 0, none⟩)]] 101 (0, 0)) := (hU.block K hKn).trans hK
  have hF' : U.heap[F]? = some (.cells #[.int .i64 m.pr, .int .u64 m.vo, .int .u64 m.su, .int .i64 m.sd, .int .i64 m.ru] 57 (0, 0)) := (hU.block F hFn).trans hF
  have hCU := hC.on hU
  have sz := Nat.le_trans hn0 hU.size
  have sK := row_lt hK'
  have sF := row_lt hF'
  have kK := row_cell hK' 0
  simp only [List.getElem?_toArray, List.getElem?_cons_zero] at kK
  obtain ⟨k0, k1, k2, k3, k4⟩ := row5 hF'
  have nK : K ≠ U.heap.size := by omega
  have nF : F ≠ U.heap.size := by omega
  have C1 := hid (hCU a ha m hm (U.alloc (.cells #[.int .i64 a.pr, .int .u64 a.vo, .int .u64 a.su, .int .i64 a.sd, .int .i64 a.ru] 57)) ((ball U _).mono sz))
  clear hC hCU hK hF hK' hF' hU
  by_cases he : f a = f m
  · rw [cm3_zero.2 he] at C1
    have HE := hid (show decide (f a ≠ f m) = false by simpa using he)
    clear he
    go_enter Tryz.func78, Tryz.ntmps78
    go_wp2_with (go_at_call 58; with_reducible refine (C1.out).mono ?_; rintro e v1 ⟨rfl, hb⟩; have V1 := hid hb; clear hb)
    go_ret
    exact ⟨by rw [HE.out]; rfl, btr (ball _ _) V1.out⟩
  · have hne : cm3 (f a) (f m) ≠ 0 := fun e => he (cm3_zero.1 e)
    obtain ⟨v, hv⟩ : ∃ v, cm3 (f a) (f m) = v := ⟨_, rfl⟩
    rw [hv] at C1 hne
    have z1 : (v != 0) = true := by simpa using hne
    have HE := hid (show decide (f a ≠ f m) = true by simpa using he)
    clear he hv hne
    go_enter Tryz.func78, Tryz.ntmps78
    go_wp2_with (go_at_call 58; with_reducible refine (C1.out).mono ?_; rintro e v1 ⟨rfl, hb⟩; have V1 := hid hb; clear hb)
    go_ret
    exact ⟨by rw [HE.out]; rfl, btr (ball _ _) V1.out⟩
/-- those of the least mark. -/
theorem best_most1 (M : Nat) (f : Qt → Int) (base : Nat) (p : Option Addr) (c : Nat) (l : List Qt) (w : World) (h : Qs base w p c l) (h0 : 0 < l.length) (hl : l.length ≤ 8193) (hC : Cmp 58 M f l w.heap.size w) :
    Calls Tryz.prog 57 #[.slice p l.length c, .func (.func 58) #[] #[.pointer (some ⟨M, 0, none⟩)]] w fun e w' => ∃ p' c', e = .returned (.slice p' (bst f l).length c') ∧ Qs w.heap.size w' p' c' (bst f l) ∧ Below w.heap.size w w' := by
  obtain ⟨R, hR⟩ : ∃ R, w.heap.size = R := ⟨_, rfl⟩
  have HRR := hid hR
  obtain ⟨W, hW⟩ : ∃ W, w.alloc (.cells #[.func (.func 58) #[] #[.pointer (some ⟨M, 0, none⟩)]] 101) = W := ⟨_, rfl⟩
  have HBW := hid (show Below w.heap.size w W from by rw [← hW]; exact ball _ _)
  have HWs := hid (show W.heap.size = R + 1 from by rw [← hW, ← hR]; simp)
  have HK := hid (show W.heap[R]? = some (.cells #[.func (.func 58) #[] #[.pointer (some ⟨M, 0, none⟩)]] 101 (0, 0)) from by rw [← hW, ← hR]; exact World.alloc_heap_new _ _)
  have HW := hid hW
  have HQ := hid h
  have HC := hid hC
  have CM := hid (minf_most1 M f base p c l W (h.on HBW.out) h0 hl w.heap.size (hC.on HBW.out) HBW.out.size)
  have HMM := hid (mn_mem (f := f) h0 l.length (Nat.le_refl _))
  obtain ⟨m, hm⟩ : ∃ m, mn f l l.length = m := ⟨_, rfl⟩
  have HM := hid hm
  rw [hm] at CM HMM
  unfold qrow at CM
  have kR := row_cell HK.out 0
  simp only [List.getElem?_toArray, List.getElem?_cons_zero] at kR
  have H0 := hid h0
  have HLL := hid hl
  obtain ⟨n, hn⟩ : ∃ n, l.length = n := ⟨_, rfl⟩
  have HN := hid hn
  rw [hn] at CM ⊢
  clear h hC hW hR hm hn h0 hl
  go_enter Tryz.func57, Tryz.ntmps57
  go_upto_region 1 with fail
  rw [HW.out, HRR.out]
  go_upto_region 2 with (go_at_call 75; with_reducible refine (CM.out).mono ?_; rintro e v1 ⟨rfl, hb⟩; have V1 := hid hb; clear hb)
  obtain ⟨X, hX⟩ : ∃ X, v1.alloc (.cells #[.int .i64 m.pr, .int .u64 m.vo, .int .u64 m.su, .int .i64 m.sd, .int .i64 m.ru] 57) = X := ⟨_, rfl⟩
  obtain ⟨F, hF⟩ : ∃ F, v1.heap.size = F := ⟨_, rfl⟩
  have BX := hid (show Below v1.heap.size v1 X from by rw [← hX]; exact ball _ _)
  have HF := hid (show X.heap[F]? = some (.cells #[.int .i64 m.pr, .int .u64 m.vo, .int .u64 m.su, .int .i64 m.sd, .int .i64 m.ru] 57 (0, 0)) from by rw [← hX, ← hF]; exact World.alloc_heap_new _ _)
  have HBX := hid (show Below w.heap.size w X from btr (btr HBW.out V1.out) BX.out)
  have HKX := hid (row_on (row_on HK.out V1.out) BX.out)
  rw [hX, hF]
  have CL := hid (cloneQ_any base p c l X (HQ.out.on HBX.out) H0.out HLL.out)
  rw [HN.out] at CL
  clear hX hF
  have HPX := hid (best1_most1 R F M f l X.heap.size m X HKX.out HF.out (row_lt HKX.out) (row_lt HF.out) (Nat.le_refl _) (fun a ha b hb U hU => HC.out a ha b hb U (HBX.out.trans (hU.mono HBX.out.size))) HMM.out)
  have CD := hid (fun (q : Option Addr) (d : Nat) (U : World) (hU : Below X.heap.size X U) (hq : Qs X.heap.size U q d l) => delf_any R F (fun x => decide (f x ≠ f m)) X.heap.size q d l U hq H0.out HLL.out X.heap.size (fun a ha V hV => HPX.out a ha V (hU.trans hV)) (Nat.le_refl _))
  rw [HN.out] at CD
  go_wp2_with (first | (go_at_call 77; with_reducible refine (CL.out).mono ?_; rintro e v2 ⟨q, d, rfl, hq, hb⟩; have HQ2 := hid hq; have V2 := hid hb; clear hq hb) | (go_at_call 76; with_reducible refine (CD.out _ _ _ V2.out HQ2.out).mono ?_; rintro e v3 ⟨rfl, hq, hb⟩; have HQ3 := hid hq; have V3 := hid hb; clear hq hb))
  go_ret
  have e1 : l.filter (fun x => !decide (f x ≠ f m)) = bst f l := by
    unfold bst
    rw [HM.out]
    congr 1
    funext x
    simp
  have hQ := HQ3.out
  rw [e1] at hQ
  have e0 : l.filter (fun x => decide (f x = f m)) = bst f l := by
    unfold bst
    rw [HM.out]
  exact ⟨q, d, by rw [← e0]; rfl, own_base hQ HBX.out.size, HBX.out.trans ((V2.out.trans V3.out).mono HBX.out.size)⟩
theorem best1_leastU1 (K F M : Nat) (f : Qt → Int) (l : List Qt) (n0 : Nat) (m : Qt) (w : World) (hK : w.heap[K]? = some (.cells #[.func (.func 82) #[] #[.pointer (some ⟨M, 0, none⟩)]] 101 (0, 0))) (hF : w.heap[F]? = some (.cells #[.int .i64 m.pr, .int .u64 m.vo, .int .u64 m.su, .int .i64 m.sd, .int .i64 m.ru] 57 (0, 0))) (hKn : K < n0) (hFn : F < n0) (hn0 : n0 ≤ w.heap.size) (hC : Cmp 82 M f l n0 w) (hm : m ∈ l) :
    Prd 78 [.pointer (some ⟨K, 0, none⟩), .pointer (some ⟨F, 0, none⟩)] (fun x => decide (f x ≠ f m)) l n0 w := by
  intro a ha U hU
  have hK' : U.heap[K]? = some (.cells #[.func (.func 82) #[] #[.pointer (some ⟨M, 0, none⟩)]] 101 (0, 0)) := (hU.block K hKn).trans hK
  have hF' : U.heap[F]? = some (.cells #[.int .i64 m.pr, .int .u64 m.vo, .int .u64 m.su, .int .i64 m.sd, .int .i64 m.ru] 57 (0, 0)) := (hU.block F hFn).trans hF
  have hCU := hC.on hU
  have sz := Nat.le_trans hn0 hU.size
  have sK := row_lt hK'
  have sF := row_lt hF'
  have kK := row_cell hK' 0
  simp only [List.getElem?_toArray, List.getElem?_cons_zero] at kK
  obtain ⟨k0, k1, k2, k3, k4⟩ := row5 hF'
  have nK : K ≠ U.heap.size := by omega
  have nF : F ≠ U.heap.size := by omega
  have C1 := hid (hCU a ha m hm (U.alloc (.cells #[.int .i64 a.pr, .int .u64 a.vo, .int .u64 a.su, .int .i64 a.sd, .int .i64 a.ru] 57)) ((ball U _).mono sz))
  clear hC hCU hK hF hK' hF' hU
  by_cases he : f a = f m
  · rw [cm3_zero.2 he] at C1
    have HE := hid (show decide (f a ≠ f m) = false by simpa using he)
    clear he
    go_enter Tryz.func78, Tryz.ntmps78
    go_wp2_with (go_at_call 82; with_reducible refine (C1.out).mono ?_; rintro e v1 ⟨rfl, hb⟩; have V1 := hid hb; clear hb)
    go_ret
    exact ⟨by rw [HE.out]; rfl, btr (ball _ _) V1.out⟩
  · have hne : cm3 (f a) (f m) ≠ 0 := fun e => he (cm3_zero.1 e)
    obtain ⟨v, hv⟩ : ∃ v, cm3 (f a) (f m) = v := ⟨_, rfl⟩
    rw [hv] at C1 hne
    have z1 : (v != 0) = true := by simpa using hne
    have HE := hid (show decide (f a ≠ f m) = true by simpa using he)
    clear he hv hne
    go_enter Tryz.func78, Tryz.ntmps78
    go_wp2_with (go_at_call 82; with_reducible refine (C1.out).mono ?_; rintro e v1 ⟨rfl, hb⟩; have V1 := hid hb; clear hb)
    go_ret
    exact ⟨by rw [HE.out]; rfl, btr (ball _ _) V1.out⟩
/-- those of the least mark. -/
theorem best_leastU1 (M : Nat) (f : Qt → Int) (base : Nat) (p : Option Addr) (c : Nat) (l : List Qt) (w : World) (h : Qs base w p c l) (h0 : 0 < l.length) (hl : l.length ≤ 8193) (hC : Cmp 82 M f l w.heap.size w) :
    Calls Tryz.prog 57 #[.slice p l.length c, .func (.func 82) #[] #[.pointer (some ⟨M, 0, none⟩)]] w fun e w' => ∃ p' c', e = .returned (.slice p' (bst f l).length c') ∧ Qs w.heap.size w' p' c' (bst f l) ∧ Below w.heap.size w w' := by
  obtain ⟨R, hR⟩ : ∃ R, w.heap.size = R := ⟨_, rfl⟩
  have HRR := hid hR
  obtain ⟨W, hW⟩ : ∃ W, w.alloc (.cells #[.func (.func 82) #[] #[.pointer (some ⟨M, 0, none⟩)]] 101) = W := ⟨_, rfl⟩
  have HBW := hid (show Below w.heap.size w W from by rw [← hW]; exact ball _ _)
  have HWs := hid (show W.heap.size = R + 1 from by rw [← hW, ← hR]; simp)
  have HK := hid (show W.heap[R]? = some (.cells #[.func (.func 82) #[] #[.pointer (some ⟨M, 0, none⟩)]] 101 (0, 0)) from by rw [← hW, ← hR]; exact World.alloc_heap_new _ _)
  have HW := hid hW
  have HQ := hid h
  have HC := hid hC
  have CM := hid (minf_leastU1 M f base p c l W (h.on HBW.out) h0 hl w.heap.size (hC.on HBW.out) HBW.out.size)
  have HMM := hid (mn_mem (f := f) h0 l.length (Nat.le_refl _))
  obtain ⟨m, hm⟩ : ∃ m, mn f l l.length = m := ⟨_, rfl⟩
  have HM := hid hm
  rw [hm] at CM HMM
  unfold qrow at CM
  have kR := row_cell HK.out 0
  simp only [List.getElem?_toArray, List.getElem?_cons_zero] at kR
  have H0 := hid h0
  have HLL := hid hl
  obtain ⟨n, hn⟩ : ∃ n, l.length = n := ⟨_, rfl⟩
  have HN := hid hn
  rw [hn] at CM ⊢
  clear h hC hW hR hm hn h0 hl
  go_enter Tryz.func57, Tryz.ntmps57
  go_upto_region 1 with fail
  rw [HW.out, HRR.out]
  go_upto_region 2 with (go_at_call 75; with_reducible refine (CM.out).mono ?_; rintro e v1 ⟨rfl, hb⟩; have V1 := hid hb; clear hb)
  obtain ⟨X, hX⟩ : ∃ X, v1.alloc (.cells #[.int .i64 m.pr, .int .u64 m.vo, .int .u64 m.su, .int .i64 m.sd, .int .i64 m.ru] 57) = X := ⟨_, rfl⟩
  obtain ⟨F, hF⟩ : ∃ F, v1.heap.size = F := ⟨_, rfl⟩
  have BX := hid (show Below v1.heap.size v1 X from by rw [← hX]; exact ball _ _)
  have HF := hid (show X.heap[F]? = some (.cells #[.int .i64 m.pr, .int .u64 m.vo, .int .u64 m.su, .int .i64 m.sd, .int .i64 m.ru] 57 (0, 0)) from by rw [← hX, ← hF]; exact World.alloc_heap_new _ _)
  have HBX := hid (show Below w.heap.size w X from btr (btr HBW.out V1.out) BX.out)
  have HKX := hid (row_on (row_on HK.out V1.out) BX.out)
  rw [hX, hF]
  have CL := hid (cloneQ_any base p c l X (HQ.out.on HBX.out) H0.out HLL.out)
  rw [HN.out] at CL
  clear hX hF
  have HPX := hid (best1_leastU1 R F M f l X.heap.size m X HKX.out HF.out (row_lt HKX.out) (row_lt HF.out) (Nat.le_refl _) (fun a ha b hb U hU => HC.out a ha b hb U (HBX.out.trans (hU.mono HBX.out.size))) HMM.out)
  have CD := hid (fun (q : Option Addr) (d : Nat) (U : World) (hU : Below X.heap.size X U) (hq : Qs X.heap.size U q d l) => delf_any R F (fun x => decide (f x ≠ f m)) X.heap.size q d l U hq H0.out HLL.out X.heap.size (fun a ha V hV => HPX.out a ha V (hU.trans hV)) (Nat.le_refl _))
  rw [HN.out] at CD
  go_wp2_with (first | (go_at_call 77; with_reducible refine (CL.out).mono ?_; rintro e v2 ⟨q, d, rfl, hq, hb⟩; have HQ2 := hid hq; have V2 := hid hb; clear hq hb) | (go_at_call 76; with_reducible refine (CD.out _ _ _ V2.out HQ2.out).mono ?_; rintro e v3 ⟨rfl, hq, hb⟩; have HQ3 := hid hq; have V3 := hid hb; clear hq hb))
  go_ret
  have e1 : l.filter (fun x => !decide (f x ≠ f m)) = bst f l := by
    unfold bst
    rw [HM.out]
    congr 1
    funext x
    simp
  have hQ := HQ3.out
  rw [e1] at hQ
  have e0 : l.filter (fun x => decide (f x = f m)) = bst f l := by
    unfold bst
    rw [HM.out]
  exact ⟨q, d, by rw [← e0]; rfl, own_base hQ HBX.out.size, HBX.out.trans ((V2.out.trans V3.out).mono HBX.out.size)⟩
theorem best1_leastI1 (K F M : Nat) (f : Qt → Int) (l : List Qt) (n0 : Nat) (m : Qt) (w : World) (hK : w.heap[K]? = some (.cells #[.func (.func 85) #[] #[.pointer (some ⟨M, 0, none⟩)]] 101 (0, 0))) (hF : w.heap[F]? = some (.cells #[.int .i64 m.pr, .int .u64 m.vo, .int .u64 m.su, .int .i64 m.sd, .int .i64 m.ru] 57 (0, 0))) (hKn : K < n0) (hFn : F < n0) (hn0 : n0 ≤ w.heap.size) (hC : Cmp 85 M f l n0 w) (hm : m ∈ l) :
    Prd 78 [.pointer (some ⟨K, 0, none⟩), .pointer (some ⟨F, 0, none⟩)] (fun x => decide (f x ≠ f m)) l n0 w := by
  intro a ha U hU
  have hK' : U.heap[K]? = some (.cells #[.func (.func 85) #[] #[.pointer (some ⟨M, 0, none⟩)]] 101 (0, 0)) := (hU.block K hKn).trans hK
  have hF' : U.heap[F]? = some (.cells #[.int .i64 m.pr, .int .u64 m.vo, .int .u64 m.su, .int .i64 m.sd, .int .i64 m.ru] 57 (0, 0)) := (hU.block F hFn).trans hF
  have hCU := hC.on hU
  have sz := Nat.le_trans hn0 hU.size
  have sK := row_lt hK'
  have sF := row_lt hF'
  have kK := row_cell hK' 0
  simp only [List.getElem?_toArray, List.getElem?_cons_zero] at kK
  obtain ⟨k0, k1, k2, k3, k4⟩ := row5 hF'
  have nK : K ≠ U.heap.size := by omega
  have nF : F ≠ U.heap.size := by omega
  have C1 := hid (hCU a ha m hm (U.alloc (.cells #[.int .i64 a.pr, .int .u64 a.vo, .int .u64 a.su, .int .i64 a.sd, .int .i64 a.ru] 57)) ((ball U _).mono sz))
  clear hC hCU hK hF hK' hF' hU
  by_cases he : f a = f m
  · rw [cm3_zero.2 he] at C1
    have HE := hid (show decide (f a ≠ f m) = false by simpa using he)
    clear he
    go_enter Tryz.func78, Tryz.ntmps78
    go_wp2_with (go_at_call 85; with_reducible refine (C1.out).mono ?_; rintro e v1 ⟨rfl, hb⟩; have V1 := hid hb; clear hb)
    go_ret
    exact ⟨by rw [HE.out]; rfl, btr (ball _ _) V1.out⟩
  · have hne : cm3 (f a) (f m) ≠ 0 := fun e => he (cm3_zero.1 e)
    obtain ⟨v, hv⟩ : ∃ v, cm3 (f a) (f m) = v := ⟨_, rfl⟩
    rw [hv] at C1 hne
    have z1 : (v != 0) = true := by simpa using hne
    have HE := hid (show decide (f a ≠ f m) = true by simpa using he)
    clear he hv hne
    go_enter Tryz.func78, Tryz.ntmps78
    go_wp2_with (go_at_call 85; with_reducible refine (C1.out).mono ?_; rintro e v1 ⟨rfl, hb⟩; have V1 := hid hb; clear hb)
    go_ret
    exact ⟨by rw [HE.out]; rfl, btr (ball _ _) V1.out⟩
/-- those of the least mark. -/
theorem best_leastI1 (M : Nat) (f : Qt → Int) (base : Nat) (p : Option Addr) (c : Nat) (l : List Qt) (w : World) (h : Qs base w p c l) (h0 : 0 < l.length) (hl : l.length ≤ 8193) (hC : Cmp 85 M f l w.heap.size w) :
    Calls Tryz.prog 57 #[.slice p l.length c, .func (.func 85) #[] #[.pointer (some ⟨M, 0, none⟩)]] w fun e w' => ∃ p' c', e = .returned (.slice p' (bst f l).length c') ∧ Qs w.heap.size w' p' c' (bst f l) ∧ Below w.heap.size w w' := by
  obtain ⟨R, hR⟩ : ∃ R, w.heap.size = R := ⟨_, rfl⟩
  have HRR := hid hR
  obtain ⟨W, hW⟩ : ∃ W, w.alloc (.cells #[.func (.func 85) #[] #[.pointer (some ⟨M, 0, none⟩)]] 101) = W := ⟨_, rfl⟩
  have HBW := hid (show Below w.heap.size w W from by rw [← hW]; exact ball _ _)
  have HWs := hid (show W.heap.size = R + 1 from by rw [← hW, ← hR]; simp)
  have HK := hid (show W.heap[R]? = some (.cells #[.func (.func 85) #[] #[.pointer (some ⟨M, 0, none⟩)]] 101 (0, 0)) from by rw [← hW, ← hR]; exact World.alloc_heap_new _ _)
  have HW := hid hW
  have HQ := hid h
  have HC := hid hC
  have CM := hid (minf_leastI1 M f base p c l W (h.on HBW.out) h0 hl w.heap.size (hC.on HBW.out) HBW.out.size)
  have HMM := hid (mn_mem (f := f) h0 l.length (Nat.le_refl _))
  obtain ⟨m, hm⟩ : ∃ m, mn f l l.length = m := ⟨_, rfl⟩
  have HM := hid hm
  rw [hm] at CM HMM
  unfold qrow at CM
  have kR := row_cell HK.out 0
  simp only [List.getElem?_toArray, List.getElem?_cons_zero] at kR
  have H0 := hid h0
  have HLL := hid hl
  obtain ⟨n, hn⟩ : ∃ n, l.length = n := ⟨_, rfl⟩
  have HN := hid hn
  rw [hn] at CM ⊢
  clear h hC hW hR hm hn h0 hl
  go_enter Tryz.func57, Tryz.ntmps57
  go_upto_region 1 with fail
  rw [HW.out, HRR.out]
  go_upto_region 2 with (go_at_call 75; with_reducible refine (CM.out).mono ?_; rintro e v1 ⟨rfl, hb⟩; have V1 := hid hb; clear hb)
  obtain ⟨X, hX⟩ : ∃ X, v1.alloc (.cells #[.int .i64 m.pr, .int .u64 m.vo, .int .u64 m.su, .int .i64 m.sd, .int .i64 m.ru] 57) = X := ⟨_, rfl⟩
  obtain ⟨F, hF⟩ : ∃ F, v1.heap.size = F := ⟨_, rfl⟩
  have BX := hid (show Below v1.heap.size v1 X from by rw [← hX]; exact ball _ _)
  have HF := hid (show X.heap[F]? = some (.cells #[.int .i64 m.pr, .int .u64 m.vo, .int .u64 m.su, .int .i64 m.sd, .int .i64 m.ru] 57 (0, 0)) from by rw [← hX, ← hF]; exact World.alloc_heap_new _ _)
  have HBX := hid (show Below w.heap.size w X from btr (btr HBW.out V1.out) BX.out)
  have HKX := hid (row_on (row_on HK.out V1.out) BX.out)
  rw [hX, hF]
  have CL := hid (cloneQ_any base p c l X (HQ.out.on HBX.out) H0.out HLL.out)
  rw [HN.out] at CL
  clear hX hF
  have HPX := hid (best1_leastI1 R F M f l X.heap.size m X HKX.out HF.out (row_lt HKX.out) (row_lt HF.out) (Nat.le_refl _) (fun a ha b hb U hU => HC.out a ha b hb U (HBX.out.trans (hU.mono HBX.out.size))) HMM.out)
  have CD := hid (fun (q : Option Addr) (d : Nat) (U : World) (hU : Below X.heap.size X U) (hq : Qs X.heap.size U q d l) => delf_any R F (fun x => decide (f x ≠ f m)) X.heap.size q d l U hq H0.out HLL.out X.heap.size (fun a ha V hV => HPX.out a ha V (hU.trans hV)) (Nat.le_refl _))
  rw [HN.out] at CD
  go_wp2_with (first | (go_at_call 77; with_reducible refine (CL.out).mono ?_; rintro e v2 ⟨q, d, rfl, hq, hb⟩; have HQ2 := hid hq; have V2 := hid hb; clear hq hb) | (go_at_call 76; with_reducible refine (CD.out _ _ _ V2.out HQ2.out).mono ?_; rintro e v3 ⟨rfl, hq, hb⟩; have HQ3 := hid hq; have V3 := hid hb; clear hq hb))
  go_ret
  have e1 : l.filter (fun x => !decide (f x ≠ f m)) = bst f l := by
    unfold bst
    rw [HM.out]
    congr 1
    funext x
    simp
  have hQ := HQ3.out
  rw [e1] at hQ
  have e0 : l.filter (fun x => decide (f x = f m)) = bst f l := by
    unfold bst
    rw [HM.out]
  exact ⟨q, d, by rw [← e0]; rfl, own_base hQ HBX.out.size, HBX.out.trans ((V2.out.trans V3.out).mono HBX.out.size)⟩
end Go.Proofs.YtnmkfdndfhefiaaGreat
