/-
  The first one of the least quotes; a copy of quotes.
-/
import Derived.Test.YtnmkfdndfhefiaaGreatAuH
namespace Go.Proofs.YtnmkfdndfhefiaaGreat
open Go.RowKit Go.Deep Go.Sort
set_option linter.unusedVariables false
set_option linter.unusedSimpArgs false
set_option maxHeartbeats 4000000
set_option maxRecDepth 100000
/-- a closure that compares quotes by a mark. -/
def Cmp (N M : Nat) (f : Qt → Int) (l : List Qt) (n : Nat) (w : World) : Prop := ∀ a ∈ l, ∀ b ∈ l, ∀ U, Below n w U → Calls Tryz.prog N #[.agg #[.int .i64 a.pr, .int .u64 a.vo, .int .u64 a.su, .int .i64 a.sd, .int .i64 a.ru], .agg #[.int .i64 b.pr, .int .u64 b.vo, .int .u64 b.su, .int .i64 b.sd, .int .i64 b.ru], .pointer (some ⟨M, 0, none⟩)] U fun e w' => e = .returned (.int .i64 (cm3 (f a) (f b))) ∧ Below U.heap.size U w'
theorem Cmp.on {N M n : Nat} {f : Qt → Int} {l : List Qt} {w w' : World} (h : Cmp N M f l n w) (hb : Below n w w') : Cmp N M f l n w' := fun a ha b hb' U hU => h a ha b hb' U (hb.trans hU)
theorem Cmp.sub {N M n : Nat} {f : Qt → Int} {l l' : List Qt} {w : World} (h : Cmp N M f l n w) (hs : ∀ x ∈ l', x ∈ l) : Cmp N M f l' n w := fun a ha b hb U hU => h a (hs a ha) b (hs b hb) U hU
theorem Qs.some {base : Nat} {w : World} {p : Option Addr} {c : Nat} {l : List Qt} (h : Qs base w p c l) (hl : 0 < l.length) : ∃ g cur, p = Option.some ⟨g, 0, none⟩ ∧ base ≤ g ∧ w.heap[g]? = Option.some (.cells cur 57 (0, 0)) ∧ cur.size = c * 5 ∧ l.length ≤ c ∧ c ≤ maxLen ∧ cur.toList.take (l.length * 5) = qs l := by
  obtain ⟨h1, ⟨e, e2⟩ | ⟨g, c', cur, e, r1, r2, r3, r4, r5, r6⟩⟩ := h
  · omega
  · obtain ⟨rfl, _, rfl⟩ := Value.slice.inj e
    exact ⟨g, cur, rfl, r1, r2, r5, r3, r4, r6⟩
theorem Qs.cells {base : Nat} {w : World} {p : Option Addr} {c : Nat} {l : List Qt} (h : Qs base w p c l) {i : Nat} (hi : i < l.length) : ∃ g, p = Option.some ⟨g, 0, none⟩ ∧ g < w.heap.size ∧ w.cell? ⟨g, i * 5, none⟩ = Option.some (.int .i64 l[i].pr) ∧ w.cell? ⟨g, i * 5 + 1, none⟩ = Option.some (.int .u64 l[i].vo) ∧ w.cell? ⟨g, i * 5 + 2, none⟩ = Option.some (.int .u64 l[i].su) ∧ w.cell? ⟨g, i * 5 + 3, none⟩ = Option.some (.int .i64 l[i].sd) ∧ w.cell? ⟨g, i * 5 + 4, none⟩ = Option.some (.int .i64 l[i].ru) := by
  obtain ⟨g, cur, rfl, _, r, _, _, _, hc⟩ := h.some (by omega)
  have go : ∀ j, j < 5 → w.cell? ⟨g, i * 5 + j, none⟩ = (qrow l[i]).toList[j]? := fun j hj => by
    have := congrArg (fun z => z[i * 5 + j]?) hc
    have hlt : i * 5 + j < l.length * 5 := by omega
    simp only [List.getElem?_take, hlt, if_true, Array.getElem?_toList] at this
    rw [row_cell r, this, qs_get hi hj]
  exact ⟨g, rfl, row_lt r, go 0 (by omega), go 1 (by omega), go 2 (by omega), go 3 (by omega), go 4 (by omega)⟩
/-- the first of the least ones of the first i. -/
def mn (f : Qt → Int) (l : List Qt) : Nat → Qt
  | 0 => l.headD ⟨0, 0, 0, 0, 0⟩
  | i + 1 => if f (l.getD i ⟨0, 0, 0, 0, 0⟩) < f (mn f l i) then l.getD i ⟨0, 0, 0, 0, 0⟩ else mn f l i
theorem mn_one (f : Qt → Int) (l : List Qt) : mn f l 1 = l.headD ⟨0, 0, 0, 0, 0⟩ := by
  unfold mn mn
  cases l <;> simp
theorem mn_succ {f : Qt → Int} {l : List Qt} {i : Nat} (hi : i < l.length) : mn f l (i + 1) = if f l[i] < f (mn f l i) then l[i] else mn f l i := by
  show (if f (l.getD i _) < f (mn f l i) then l.getD i _ else mn f l i) = _
  rw [List.getD_eq_getElem?_getD, List.getElem?_eq_getElem hi, Option.getD_some]
theorem mn_mem {f : Qt → Int} {l : List Qt} (h : 0 < l.length) : ∀ i, i ≤ l.length → mn f l i ∈ l
  | 0, _ => by
    cases l with
    | nil => simp at h
    | cons x t => simp [mn]
  | i + 1, hi => by
    rw [mn_succ (by omega)]
    split
    · exact List.getElem_mem _
    · exact mn_mem h i (by omega)
theorem mn_le {f : Qt → Int} {l : List Qt} : ∀ i, i ≤ l.length → ∀ k (hk : k < l.length), k < i → f (mn f l i) ≤ f l[k]
  | 0, _, k, _, h => by omega
  | i + 1, hi, k, hk, h => by
    rw [mn_succ (by omega)]
    by_cases e : k = i
    · subst e
      split <;> omega
    · have := mn_le (f := f) (l := l) i (by omega) k hk (by omega)
      split <;> omega
theorem cm3_lt {x y : Int} (h : x < y) : cm3 x y = -1 := by simp [cm3, h]
theorem cm3_ge {x y : Int} (h : ¬ x < y) : 0 ≤ cm3 x y := by unfold cm3; rw [if_neg h]; split <;> omega
theorem cm3_zero {x y : Int} : cm3 x y = 0 ↔ x = y := by unfold cm3; split; omega; split <;> omega
theorem setRow_kp (w : World) (g : Nat) (cs : Array Value) : Kp (fun b => b = g) w (w.setRow g cs) :=
  ⟨rfl, rfl, rfl, by simp [World.setRow], fun b _ hb => setRow_other w g b cs (fun e => hb e)⟩
theorem setRow_below {w W : World} {g : Nat} {cs : Array Value} (h : Below w.heap.size w W) (hg : w.heap.size ≤ g) : Below w.heap.size w (W.setRow g cs) := h.trans ((setRow_kp W g cs).below h.size (fun b hb e => by omega))
theorem nilQ (U : World) (a : Option Addr) (n c : Nat) : (binOp .eql 81 (.slice a n c) (.slice none 0 0)).run Tryz.prog U = .ok (.bool a.isNone) U := Lib.run_eql_slice_nil U 81 57 a n c 0 0 Tryz.underlying81
theorem cloneQ_any (base : Nat) (q : Option Addr) (c : Nat) (l : List Qt) (w : World) (h : Qs base w q c l) (h0 : 0 < l.length) (hl : l.length ≤ 8193) :
    Calls Tryz.prog 77 #[.slice q l.length c] w fun e w' => ∃ p' c', e = .returned (.slice p' l.length c') ∧ Qs w.heap.size w' p' c' l ∧ Below w.heap.size w w' := by
  obtain ⟨g, cur, rfl, _⟩ := h.some h0
  obtain ⟨n, hn⟩ : ∃ n, l.length = n := ⟨_, rfl⟩
  have HM := hid (made0 w 57 5 (Nat.le_refl w.heap.size))
  have HL := hid (show (w.alloc (.cells #[] 57)).ownsRow base 57 5 (.slice (Option.some ⟨g, 0, none⟩) n c) n (qs l) from by rw [← hn]; exact h.on (ball _ _))
  have HN := hid hn
  rw [hn] at hl ⊢
  have nq := nilQ
  clear h hn h0
  go_enter Tryz.func77, Tryz.ntmps77
  go_wp2_with (at_builtin; refine wpList_app_mine (by rfl) (.tmp 5) (.tmp 6) 81 57 _ 5 40 (by rfl) Tryz.underlying81 infoQt rfl (by decide) w.heap.size base _ 0 [] (by rfl) HM.out (Option.some ⟨g, 0, none⟩) c n (qs l) (by rfl) HL.out (qs_one l) (by unfold maxLen; omega) (by omega) (by simp) ?_; intro v' w' hown hgrow; obtain ⟨p1, q1, rfl⟩ := own_form hown; have HO1 := hid hown; have HG1 := hid hgrow; clear hown hgrow)
  go_ret
  have hO2 : w'.ownsRow w.heap.size 57 5 (.slice p1 (0 + n) q1) (0 + n) (qs l) := HO1.out
  simp only [Nat.zero_add] at hO2
  refine ⟨p1, q1, by simp, ?_, (ball _ _).grown HG1.out (by simp) (fun j hj => by cases hj; exact Nat.le_refl _)⟩
  unfold Qs; rw [HN.out]; exact hO2
theorem minf_most1 (M : Nat) (f : Qt → Int) (base : Nat) (p : Option Addr) (c : Nat) (l : List Qt) (w : World) (h : Qs base w p c l) (h0 : 0 < l.length) (hl : l.length ≤ 8193) (n0 : Nat) (hC : Cmp 58 M f l n0 w) (hn0 : n0 ≤ w.heap.size) :
    Calls Tryz.prog 75 #[.slice p l.length c, .func (.func 58) #[] #[.pointer (some ⟨M, 0, none⟩)]] w fun e w' => e = .returned (.agg (qrow (mn f l l.length))) ∧ Below w.heap.size w w' := by
  have HQ := hid h
  have HC := hid hC
  obtain ⟨n, hn⟩ : ∃ n, l.length = n := ⟨_, rfl⟩
  have HN := hid hn
  obtain ⟨R, hR⟩ : ∃ R, w.heap.size = R := ⟨_, rfl⟩
  have HRR := hid hR
  obtain ⟨g, rfl, sg, a0, a1, a2, a3, a4⟩ := h.cells h0
  obtain ⟨x, hx⟩ : ∃ x, l[0] = x := ⟨_, rfl⟩
  rw [hx] at a0 a1 a2 a3 a4
  simp only [Nat.zero_mul, Nat.zero_add] at a0 a1 a2 a3 a4
  have HM1 := hid (show mn f l 1 = x by rw [mn_one, ← hx]; cases l with | nil => simp at h0 | cons a t => rfl)
  rw [hn] at h0 hl ⊢
  have n1 : ¬ (n : Int) < 1 := by omega
  have n2 : (0 : Int) < (n : Int) := by omega
  have hgR : g ≠ w.heap.size := by omega
  have hWr := hid (show ((w.alloc (.cells #[.int .i64 0, .int .u64 0, .int .u64 0, .int .i64 0, .int .i64 0] 57)).alloc (.cells #[.int .i64 x.pr, .int .u64 x.vo, .int .u64 x.su, .int .i64 x.sd, .int .i64 x.ru] 57)).heap[R + 1]? = some (.cells #[.int .i64 x.pr, .int .u64 x.vo, .int .u64 x.su, .int .i64 x.sd, .int .i64 x.ru] 57 (0, 0)) from by
    have := World.alloc_heap_new (w.alloc (.cells #[.int .i64 0, .int .u64 0, .int .u64 0, .int .i64 0, .int .i64 0] 57)) (.cells #[.int .i64 x.pr, .int .u64 x.vo, .int .u64 x.su, .int .i64 x.sd, .int .i64 x.ru] 57)
    rw [← hR]; simpa using this)
  have hWz := hid (show ((w.alloc (.cells #[.int .i64 0, .int .u64 0, .int .u64 0, .int .i64 0, .int .i64 0] 57)).alloc (.cells #[.int .i64 x.pr, .int .u64 x.vo, .int .u64 x.su, .int .i64 x.sd, .int .i64 x.ru] 57)).heap[R]? = some (.cells #[.int .i64 0, .int .u64 0, .int .u64 0, .int .i64 0, .int .i64 0] 57 (0, 0)) from by rw [← hR]; exact row_on (World.alloc_heap_new _ _) (ball _ _))
  clear h hC hn hx hR
  go_enter Tryz.func75, Tryz.ntmps75
  go_wp2
  rw [HRR.out]
  clear a0 a1 a2 a3 a4
  go_loopw [6] (fun iv wr => ∃ i : Nat, 1 ≤ i ∧ i ≤ n ∧ iv = .int .i64 i ∧ Hid (wr.heap[R + 1]? = some (.cells (qrow (mn f l i)) 57 (0, 0))) ∧ Hid (wr.heap[R]? = some (.cells #[.int .i64 0, .int .u64 0, .int .u64 0, .int .i64 0, .int .i64 0] 57 (0, 0))) ∧ Hid (Below w.heap.size w wr)) (fun iv _ => n - (intOf iv).toNat)
  case atStart => exact ⟨1, Nat.le_refl _, by omega, rfl, hid (by rw [HM1.out]; exact hWr.out), hWz, hid (btr (ball _ _) (ball _ _))⟩
  case round =>
    obtain ⟨i, hi1, hin, rfl, HR1, HR0, HB⟩ := hrel
    by_cases hlt : i < n
    · have hi : i < l.length := by rw [HN.out]; exact hlt
      obtain ⟨g', e, sg', b0, b1, b2, b3, b4⟩ := (HQ.out.on HB.out).cells hi
      injection e with e
      injection e with e
      subst e
      have hmm := mn_mem (f := f) (show 0 < l.length by omega) i (by omega)
      have HMS := hid (mn_succ (f := f) hi)
      have hy := List.getElem_mem hi
      obtain ⟨y, hyy⟩ : ∃ y, l[i] = y := ⟨_, rfl⟩
      rw [hyy] at b0 b1 b2 b3 b4 hy HMS
      obtain ⟨m, hm⟩ : ∃ m, mn f l i = m := ⟨_, rfl⟩
      rw [hm] at hmm HMS
      have r1 := HR1.out
      rw [hm] at r1
      have HS := hid (show ∀ U, Below wr.heap.size wr U → U.cell? ⟨g, i * 5, none⟩ = some (.int .i64 y.pr) ∧ U.cell? ⟨g, i * 5 + 1, none⟩ = some (.int .u64 y.vo) ∧ U.cell? ⟨g, i * 5 + 2, none⟩ = some (.int .u64 y.su) ∧ U.cell? ⟨g, i * 5 + 3, none⟩ = some (.int .i64 y.sd) ∧ U.cell? ⟨g, i * 5 + 4, none⟩ = some (.int .i64 y.ru) ∧ U.cell? ⟨(R + 1), 0, none⟩ = some (.int .i64 m.pr) ∧ U.cell? ⟨(R + 1), 1, none⟩ = some (.int .u64 m.vo) ∧ U.cell? ⟨(R + 1), 2, none⟩ = some (.int .u64 m.su) ∧ U.cell? ⟨(R + 1), 3, none⟩ = some (.int .i64 m.sd) ∧ U.cell? ⟨(R + 1), 4, none⟩ = some (.int .i64 m.ru) from fun U hU => by
        obtain ⟨q0, q1, q2, q3, q4⟩ := row5 (row_on r1 hU)
        exact ⟨(hU.cell (p := ⟨g, i * 5, none⟩) sg').trans b0, (hU.cell (p := ⟨g, i * 5 + 1, none⟩) sg').trans b1, (hU.cell (p := ⟨g, i * 5 + 2, none⟩) sg').trans b2, (hU.cell (p := ⟨g, i * 5 + 3, none⟩) sg').trans b3, (hU.cell (p := ⟨g, i * 5 + 4, none⟩) sg').trans b4, q0, q1, q2, q3, q4⟩)
      have HR1' := hid r1
      have CC := hid (fun U (hU : Below wr.heap.size wr U) => on_b (HC.out y hy m hmm U ((btr HB.out hU).mono hn0)) hU)
      have i0 : (0 : Int) ≤ (i : Int) := by omega
      have i1 : (i : Int) < (n : Int) := by omega
      clear hyy hm hmm hy r1 b0 b1 b2 b3 b4
      by_cases hf : f y < f m
      · rw [cm3_lt hf] at CC
        have HF := hid hf
        clear hf
        go_upto_region 7 with fail
        obtain ⟨k0, k1, k2, k3, k4, k5, k6, k7, k8, k9⟩ := HS.out wr (Below.refl _ _)
        go_region_held3 (fun U => U.cell? ⟨g, i * 5, none⟩ = some (.int .i64 y.pr) ∧ U.cell? ⟨g, i * 5 + 1, none⟩ = some (.int .u64 y.vo) ∧ U.cell? ⟨g, i * 5 + 2, none⟩ = some (.int .u64 y.su) ∧ U.cell? ⟨g, i * 5 + 3, none⟩ = some (.int .i64 y.sd) ∧ U.cell? ⟨g, i * 5 + 4, none⟩ = some (.int .i64 y.ru) ∧ U.cell? ⟨(R + 1), 0, none⟩ = some (.int .i64 m.pr) ∧ U.cell? ⟨(R + 1), 1, none⟩ = some (.int .u64 m.vo) ∧ U.cell? ⟨(R + 1), 2, none⟩ = some (.int .u64 m.su) ∧ U.cell? ⟨(R + 1), 3, none⟩ = some (.int .i64 m.sd) ∧ U.cell? ⟨(R + 1), 4, none⟩ = some (.int .i64 m.ru)) (go_keep) (first | (go_at_call 58; with_reducible refine (CC.out _ (bdrew1 wr)).mono ?_; rintro e v1 ⟨rfl, V1⟩; obtain ⟨k0, k1, k2, k3, k4, k5, k6, k7, k8, k9⟩ := HS.out v1 V1.out))
        have HX1 := hid (row_on HR1'.out V1.out)
        have AI := hid (show (Tryz.prog.info? 57).map (·.size) = some (#[.int .i64 y.pr, .int .u64 y.vo, .int .u64 y.su, .int .i64 y.sd, .int .i64 y.ru] : Array Value).size from infoQ)
        have AS := hid (show (#[.int .i64 m.pr, .int .u64 m.vo, .int .u64 m.su, .int .i64 m.sd, .int .i64 m.ru] : Array Value).size = (#[.int .i64 y.pr, .int .u64 y.vo, .int .u64 y.su, .int .i64 y.sd, .int .i64 y.ru] : Array Value).size from rfl)
        have AA := hid (show (#[.int .i64 y.pr, .int .u64 y.vo, .int .u64 y.su, .int .i64 y.sd, .int .i64 y.ru] : Array Value).all (·.oneCell') = true from by simp [Value.oneCell'])
        unfold qrow at HX1
        go_wp2_with (refine wpList_store_row (by rfl) 57 (.tmp 5) (.tmp 31) (by rfl) (R + 1) #[.int .i64 y.pr, .int .u64 y.vo, .int .u64 y.su, .int .i64 y.sd, .int .i64 y.ru] (by rfl) (by rfl) 57 _ HX1.out AI.out AS.out AA.out ?_)
        go_roundw
        case rel =>
          refine ⟨i + 1, by omega, by omega, by go_num, hid ?_, hid ?_, hid (setRow_below (btr HB.out V1.out) (by have := HRR.out; omega))⟩
          · rw [HMS.out, if_pos HF.out]
            exact setRow_heap v1 (R + 1) _ _ 57 (0, 0) HX1.out
          · rw [setRow_other v1 (R + 1) R _ (by omega)]
            exact row_on HR0.out V1.out
        case measure => simp [intOf]; omega
      · have hge := cm3_ge hf
        obtain ⟨v, hv⟩ : ∃ v, cm3 (f y) (f m) = v := ⟨_, rfl⟩
        rw [hv] at CC hge
        have HF := hid hf
        have dv : decide (v < 0) = false := by simpa using hge
        have dv2 : ¬ v < 0 := by omega
        clear hf hv
        go_upto_region 7 with fail
        obtain ⟨k0, k1, k2, k3, k4, k5, k6, k7, k8, k9⟩ := HS.out wr (Below.refl _ _)
        go_region_held3 (fun U => U.cell? ⟨g, i * 5, none⟩ = some (.int .i64 y.pr) ∧ U.cell? ⟨g, i * 5 + 1, none⟩ = some (.int .u64 y.vo) ∧ U.cell? ⟨g, i * 5 + 2, none⟩ = some (.int .u64 y.su) ∧ U.cell? ⟨g, i * 5 + 3, none⟩ = some (.int .i64 y.sd) ∧ U.cell? ⟨g, i * 5 + 4, none⟩ = some (.int .i64 y.ru) ∧ U.cell? ⟨(R + 1), 0, none⟩ = some (.int .i64 m.pr) ∧ U.cell? ⟨(R + 1), 1, none⟩ = some (.int .u64 m.vo) ∧ U.cell? ⟨(R + 1), 2, none⟩ = some (.int .u64 m.su) ∧ U.cell? ⟨(R + 1), 3, none⟩ = some (.int .i64 m.sd) ∧ U.cell? ⟨(R + 1), 4, none⟩ = some (.int .i64 m.ru)) (go_keep) (first | (go_at_call 58; with_reducible refine (CC.out _ (bdrew1 wr)).mono ?_; rintro e v1 ⟨rfl, V1⟩; obtain ⟨k0, k1, k2, k3, k4, k5, k6, k7, k8, k9⟩ := HS.out v1 V1.out))
        go_wp2
        go_roundw
        case rel => exact ⟨i + 1, by omega, by omega, by go_num, hid (by rw [HMS.out, if_neg (show ¬ f y < f m by have := HF.out; omega)]; exact row_on HR1'.out V1.out), hid (row_on HR0.out V1.out), hid (btr HB.out V1.out)⟩
        case measure => simp [intOf]; omega
    · obtain rfl : i = n := by omega
      have r1 := HR1.out
      obtain ⟨m, hm⟩ : ∃ m, mn f l i = m := ⟨_, rfl⟩
      rw [hm] at r1
      have HMM := hid hm
      have HX1 := hid r1
      obtain ⟨q0, q1, q2, q3, q4⟩ := row5 r1
      have AI := hid (show (Tryz.prog.info? 57).map (·.size) = some (#[.int .i64 m.pr, .int .u64 m.vo, .int .u64 m.su, .int .i64 m.sd, .int .i64 m.ru] : Array Value).size from infoQ)
      have AS := hid (show (#[.int .i64 0, .int .u64 0, .int .u64 0, .int .i64 0, .int .i64 0] : Array Value).size = (#[.int .i64 m.pr, .int .u64 m.vo, .int .u64 m.su, .int .i64 m.sd, .int .i64 m.ru] : Array Value).size from rfl)
      have AA := hid (show (#[.int .i64 m.pr, .int .u64 m.vo, .int .u64 m.su, .int .i64 m.sd, .int .i64 m.ru] : Array Value).all (·.oneCell') = true from by simp [Value.oneCell'])
      clear r1 hm
      go_wp2_with (refine wpList_store_row (by rfl) 57 (.tmp 4) (.tmp 32) (by rfl) R #[.int .i64 m.pr, .int .u64 m.vo, .int .u64 m.su, .int .i64 m.sd, .int .i64 m.ru] (by rfl) (by rfl) 57 _ HR0.out AI.out AS.out AA.out ?_)
      refine bodyPost_ret (results_cell_row (fn := Tryz.f75) Tryz.results75 _ _ R 57 #[.int .i64 m.pr, .int .u64 m.vo, .int .u64 m.su, .int .i64 m.sd, .int .i64 m.ru] (0, 0) _ (by rfl) (setRow_heap _ _ _ _ 57 (0, 0) HR0.out) Tryz.underlying57 rfl infoQ) rfl ⟨by rw [HMM.out]; rfl, ?_⟩
      exact setRow_below HB.out (by have := HRR.out; omega)
theorem minf_leastU1 (M : Nat) (f : Qt → Int) (base : Nat) (p : Option Addr) (c : Nat) (l : List Qt) (w : World) (h : Qs base w p c l) (h0 : 0 < l.length) (hl : l.length ≤ 8193) (n0 : Nat) (hC : Cmp 82 M f l n0 w) (hn0 : n0 ≤ w.heap.size) :
    Calls Tryz.prog 75 #[.slice p l.length c, .func (.func 82) #[] #[.pointer (some ⟨M, 0, none⟩)]] w fun e w' => e = .returned (.agg (qrow (mn f l l.length))) ∧ Below w.heap.size w w' := by
  have HQ := hid h
  have HC := hid hC
  obtain ⟨n, hn⟩ : ∃ n, l.length = n := ⟨_, rfl⟩
  have HN := hid hn
  obtain ⟨R, hR⟩ : ∃ R, w.heap.size = R := ⟨_, rfl⟩
  have HRR := hid hR
  obtain ⟨g, rfl, sg, a0, a1, a2, a3, a4⟩ := h.cells h0
  obtain ⟨x, hx⟩ : ∃ x, l[0] = x := ⟨_, rfl⟩
  rw [hx] at a0 a1 a2 a3 a4
  simp only [Nat.zero_mul, Nat.zero_add] at a0 a1 a2 a3 a4
  have HM1 := hid (show mn f l 1 = x by rw [mn_one, ← hx]; cases l with | nil => simp at h0 | cons a t => rfl)
  rw [hn] at h0 hl ⊢
  have n1 : ¬ (n : Int) < 1 := by omega
  have n2 : (0 : Int) < (n : Int) := by omega
  have hgR : g ≠ w.heap.size := by omega
  have hWr := hid (show ((w.alloc (.cells #[.int .i64 0, .int .u64 0, .int .u64 0, .int .i64 0, .int .i64 0] 57)).alloc (.cells #[.int .i64 x.pr, .int .u64 x.vo, .int .u64 x.su, .int .i64 x.sd, .int .i64 x.ru] 57)).heap[R + 1]? = some (.cells #[.int .i64 x.pr, .int .u64 x.vo, .int .u64 x.su, .int .i64 x.sd, .int .i64 x.ru] 57 (0, 0)) from by
    have := World.alloc_heap_new (w.alloc (.cells #[.int .i64 0, .int .u64 0, .int .u64 0, .int .i64 0, .int .i64 0] 57)) (.cells #[.int .i64 x.pr, .int .u64 x.vo, .int .u64 x.su, .int .i64 x.sd, .int .i64 x.ru] 57)
    rw [← hR]; simpa using this)
  have hWz := hid (show ((w.alloc (.cells #[.int .i64 0, .int .u64 0, .int .u64 0, .int .i64 0, .int .i64 0] 57)).alloc (.cells #[.int .i64 x.pr, .int .u64 x.vo, .int .u64 x.su, .int .i64 x.sd, .int .i64 x.ru] 57)).heap[R]? = some (.cells #[.int .i64 0, .int .u64 0, .int .u64 0, .int .i64 0, .int .i64 0] 57 (0, 0)) from by rw [← hR]; exact row_on (World.alloc_heap_new _ _) (ball _ _))
  clear h hC hn hx hR
  go_enter Tryz.func75, Tryz.ntmps75
  go_wp2
  rw [HRR.out]
  clear a0 a1 a2 a3 a4
  go_loopw [6] (fun iv wr => ∃ i : Nat, 1 ≤ i ∧ i ≤ n ∧ iv = .int .i64 i ∧ Hid (wr.heap[R + 1]? = some (.cells (qrow (mn f l i)) 57 (0, 0))) ∧ Hid (wr.heap[R]? = some (.cells #[.int .i64 0, .int .u64 0, .int .u64 0, .int .i64 0, .int .i64 0] 57 (0, 0))) ∧ Hid (Below w.heap.size w wr)) (fun iv _ => n - (intOf iv).toNat)
  case atStart => exact ⟨1, Nat.le_refl _, by omega, rfl, hid (by rw [HM1.out]; exact hWr.out), hWz, hid (btr (ball _ _) (ball _ _))⟩
  case round =>
    obtain ⟨i, hi1, hin, rfl, HR1, HR0, HB⟩ := hrel
    by_cases hlt : i < n
    · have hi : i < l.length := by rw [HN.out]; exact hlt
      obtain ⟨g', e, sg', b0, b1, b2, b3, b4⟩ := (HQ.out.on HB.out).cells hi
      injection e with e
      injection e with e
      subst e
      have hmm := mn_mem (f := f) (show 0 < l.length by omega) i (by omega)
      have HMS := hid (mn_succ (f := f) hi)
      have hy := List.getElem_mem hi
      obtain ⟨y, hyy⟩ : ∃ y, l[i] = y := ⟨_, rfl⟩
      rw [hyy] at b0 b1 b2 b3 b4 hy HMS
      obtain ⟨m, hm⟩ : ∃ m, mn f l i = m := ⟨_, rfl⟩
      rw [hm] at hmm HMS
      have r1 := HR1.out
      rw [hm] at r1
      have HS := hid (show ∀ U, Below wr.heap.size wr U → U.cell? ⟨g, i * 5, none⟩ = some (.int .i64 y.pr) ∧ U.cell? ⟨g, i * 5 + 1, none⟩ = some (.int .u64 y.vo) ∧ U.cell? ⟨g, i * 5 + 2, none⟩ = some (.int .u64 y.su) ∧ U.cell? ⟨g, i * 5 + 3, none⟩ = some (.int .i64 y.sd) ∧ U.cell? ⟨g, i * 5 + 4, none⟩ = some (.int .i64 y.ru) ∧ U.cell? ⟨(R + 1), 0, none⟩ = some (.int .i64 m.pr) ∧ U.cell? ⟨(R + 1), 1, none⟩ = some (.int .u64 m.vo) ∧ U.cell? ⟨(R + 1), 2, none⟩ = some (.int .u64 m.su) ∧ U.cell? ⟨(R + 1), 3, none⟩ = some (.int .i64 m.sd) ∧ U.cell? ⟨(R + 1), 4, none⟩ = some (.int .i64 m.ru) from fun U hU => by
        obtain ⟨q0, q1, q2, q3, q4⟩ := row5 (row_on r1 hU)
        exact ⟨(hU.cell (p := ⟨g, i * 5, none⟩) sg').trans b0, (hU.cell (p := ⟨g, i * 5 + 1, none⟩) sg').trans b1, (hU.cell (p := ⟨g, i * 5 + 2, none⟩) sg').trans b2, (hU.cell (p := ⟨g, i * 5 + 3, none⟩) sg').trans b3, (hU.cell (p := ⟨g, i * 5 + 4, none⟩) sg').trans b4, q0, q1, q2, q3, q4⟩)
      have HR1' := hid r1
      have CC := hid (fun U (hU : Below wr.heap.size wr U) => on_b (HC.out y hy m hmm U ((btr HB.out hU).mono hn0)) hU)
      have i0 : (0 : Int) ≤ (i : Int) := by omega
      have i1 : (i : Int) < (n : Int) := by omega
      clear hyy hm hmm hy r1 b0 b1 b2 b3 b4
      by_cases hf : f y < f m
      · rw [cm3_lt hf] at CC
        have HF := hid hf
        clear hf
        go_upto_region 7 with fail
        obtain ⟨k0, k1, k2, k3, k4, k5, k6, k7, k8, k9⟩ := HS.out wr (Below.refl _ _)
        go_region_held3 (fun U => U.cell? ⟨g, i * 5, none⟩ = some (.int .i64 y.pr) ∧ U.cell? ⟨g, i * 5 + 1, none⟩ = some (.int .u64 y.vo) ∧ U.cell? ⟨g, i * 5 + 2, none⟩ = some (.int .u64 y.su) ∧ U.cell? ⟨g, i * 5 + 3, none⟩ = some (.int .i64 y.sd) ∧ U.cell? ⟨g, i * 5 + 4, none⟩ = some (.int .i64 y.ru) ∧ U.cell? ⟨(R + 1), 0, none⟩ = some (.int .i64 m.pr) ∧ U.cell? ⟨(R + 1), 1, none⟩ = some (.int .u64 m.vo) ∧ U.cell? ⟨(R + 1), 2, none⟩ = some (.int .u64 m.su) ∧ U.cell? ⟨(R + 1), 3, none⟩ = some (.int .i64 m.sd) ∧ U.cell? ⟨(R + 1), 4, none⟩ = some (.int .i64 m.ru)) (go_keep) (first | (go_at_call 82; with_reducible refine (CC.out _ (bdrew1 wr)).mono ?_; rintro e v1 ⟨rfl, V1⟩; obtain ⟨k0, k1, k2, k3, k4, k5, k6, k7, k8, k9⟩ := HS.out v1 V1.out))
        have HX1 := hid (row_on HR1'.out V1.out)
        have AI := hid (show (Tryz.prog.info? 57).map (·.size) = some (#[.int .i64 y.pr, .int .u64 y.vo, .int .u64 y.su, .int .i64 y.sd, .int .i64 y.ru] : Array Value).size from infoQ)
        have AS := hid (show (#[.int .i64 m.pr, .int .u64 m.vo, .int .u64 m.su, .int .i64 m.sd, .int .i64 m.ru] : Array Value).size = (#[.int .i64 y.pr, .int .u64 y.vo, .int .u64 y.su, .int .i64 y.sd, .int .i64 y.ru] : Array Value).size from rfl)
        have AA := hid (show (#[.int .i64 y.pr, .int .u64 y.vo, .int .u64 y.su, .int .i64 y.sd, .int .i64 y.ru] : Array Value).all (·.oneCell') = true from by simp [Value.oneCell'])
        unfold qrow at HX1
        go_wp2_with (refine wpList_store_row (by rfl) 57 (.tmp 5) (.tmp 31) (by rfl) (R + 1) #[.int .i64 y.pr, .int .u64 y.vo, .int .u64 y.su, .int .i64 y.sd, .int .i64 y.ru] (by rfl) (by rfl) 57 _ HX1.out AI.out AS.out AA.out ?_)
        go_roundw
        case rel =>
          refine ⟨i + 1, by omega, by omega, by go_num, hid ?_, hid ?_, hid (setRow_below (btr HB.out V1.out) (by have := HRR.out; omega))⟩
          · rw [HMS.out, if_pos HF.out]
            exact setRow_heap v1 (R + 1) _ _ 57 (0, 0) HX1.out
          · rw [setRow_other v1 (R + 1) R _ (by omega)]
            exact row_on HR0.out V1.out
        case measure => simp [intOf]; omega
      · have hge := cm3_ge hf
        obtain ⟨v, hv⟩ : ∃ v, cm3 (f y) (f m) = v := ⟨_, rfl⟩
        rw [hv] at CC hge
        have HF := hid hf
        have dv : decide (v < 0) = false := by simpa using hge
        have dv2 : ¬ v < 0 := by omega
        clear hf hv
        go_upto_region 7 with fail
        obtain ⟨k0, k1, k2, k3, k4, k5, k6, k7, k8, k9⟩ := HS.out wr (Below.refl _ _)
        go_region_held3 (fun U => U.cell? ⟨g, i * 5, none⟩ = some (.int .i64 y.pr) ∧ U.cell? ⟨g, i * 5 + 1, none⟩ = some (.int .u64 y.vo) ∧ U.cell? ⟨g, i * 5 + 2, none⟩ = some (.int .u64 y.su) ∧ U.cell? ⟨g, i * 5 + 3, none⟩ = some (.int .i64 y.sd) ∧ U.cell? ⟨g, i * 5 + 4, none⟩ = some (.int .i64 y.ru) ∧ U.cell? ⟨(R + 1), 0, none⟩ = some (.int .i64 m.pr) ∧ U.cell? ⟨(R + 1), 1, none⟩ = some (.int .u64 m.vo) ∧ U.cell? ⟨(R + 1), 2, none⟩ = some (.int .u64 m.su) ∧ U.cell? ⟨(R + 1), 3, none⟩ = some (.int .i64 m.sd) ∧ U.cell? ⟨(R + 1), 4, none⟩ = some (.int .i64 m.ru)) (go_keep) (first | (go_at_call 82; with_reducible refine (CC.out _ (bdrew1 wr)).mono ?_; rintro e v1 ⟨rfl, V1⟩; obtain ⟨k0, k1, k2, k3, k4, k5, k6, k7, k8, k9⟩ := HS.out v1 V1.out))
        go_wp2
        go_roundw
        case rel => exact ⟨i + 1, by omega, by omega, by go_num, hid (by rw [HMS.out, if_neg (show ¬ f y < f m by have := HF.out; omega)]; exact row_on HR1'.out V1.out), hid (row_on HR0.out V1.out), hid (btr HB.out V1.out)⟩
        case measure => simp [intOf]; omega
    · obtain rfl : i = n := by omega
      have r1 := HR1.out
      obtain ⟨m, hm⟩ : ∃ m, mn f l i = m := ⟨_, rfl⟩
      rw [hm] at r1
      have HMM := hid hm
      have HX1 := hid r1
      obtain ⟨q0, q1, q2, q3, q4⟩ := row5 r1
      have AI := hid (show (Tryz.prog.info? 57).map (·.size) = some (#[.int .i64 m.pr, .int .u64 m.vo, .int .u64 m.su, .int .i64 m.sd, .int .i64 m.ru] : Array Value).size from infoQ)
      have AS := hid (show (#[.int .i64 0, .int .u64 0, .int .u64 0, .int .i64 0, .int .i64 0] : Array Value).size = (#[.int .i64 m.pr, .int .u64 m.vo, .int .u64 m.su, .int .i64 m.sd, .int .i64 m.ru] : Array Value).size from rfl)
      have AA := hid (show (#[.int .i64 m.pr, .int .u64 m.vo, .int .u64 m.su, .int .i64 m.sd, .int .i64 m.ru] : Array Value).all (·.oneCell') = true from by simp [Value.oneCell'])
      clear r1 hm
      go_wp2_with (refine wpList_store_row (by rfl) 57 (.tmp 4) (.tmp 32) (by rfl) R #[.int .i64 m.pr, .int .u64 m.vo, .int .u64 m.su, .int .i64 m.sd, .int .i64 m.ru] (by rfl) (by rfl) 57 _ HR0.out AI.out AS.out AA.out ?_)
      refine bodyPost_ret (results_cell_row (fn := Tryz.f75) Tryz.results75 _ _ R 57 #[.int .i64 m.pr, .int .u64 m.vo, .int .u64 m.su, .int .i64 m.sd, .int .i64 m.ru] (0, 0) _ (by rfl) (setRow_heap _ _ _ _ 57 (0, 0) HR0.out) Tryz.underlying57 rfl infoQ) rfl ⟨by rw [HMM.out]; rfl, ?_⟩
      exact setRow_below HB.out (by have := HRR.out; omega)
theorem minf_leastI1 (M : Nat) (f : Qt → Int) (base : Nat) (p : Option Addr) (c : Nat) (l : List Qt) (w : World) (h : Qs base w p c l) (h0 : 0 < l.length) (hl : l.length ≤ 8193) (n0 : Nat) (hC : Cmp 85 M f l n0 w) (hn0 : n0 ≤ w.heap.size) :
    Calls Tryz.prog 75 #[.slice p l.length c, .func (.func 85) #[] #[.pointer (some ⟨M, 0, none⟩)]] w fun e w' => e = .returned (.agg (qrow (mn f l l.length))) ∧ Below w.heap.size w w' := by
  have HQ := hid h
  have HC := hid hC
  obtain ⟨n, hn⟩ : ∃ n, l.length = n := ⟨_, rfl⟩
  have HN := hid hn
  obtain ⟨R, hR⟩ : ∃ R, w.heap.size = R := ⟨_, rfl⟩
  have HRR := hid hR
  obtain ⟨g, rfl, sg, a0, a1, a2, a3, a4⟩ := h.cells h0
  obtain ⟨x, hx⟩ : ∃ x, l[0] = x := ⟨_, rfl⟩
  rw [hx] at a0 a1 a2 a3 a4
  simp only [Nat.zero_mul, Nat.zero_add] at a0 a1 a2 a3 a4
  have HM1 := hid (show mn f l 1 = x by rw [mn_one, ← hx]; cases l with | nil => simp at h0 | cons a t => rfl)
  rw [hn] at h0 hl ⊢
  have n1 : ¬ (n : Int) < 1 := by omega
  have n2 : (0 : Int) < (n : Int) := by omega
  have hgR : g ≠ w.heap.size := by omega
  have hWr := hid (show ((w.alloc (.cells #[.int .i64 0, .int .u64 0, .int .u64 0, .int .i64 0, .int .i64 0] 57)).alloc (.cells #[.int .i64 x.pr, .int .u64 x.vo, .int .u64 x.su, .int .i64 x.sd, .int .i64 x.ru] 57)).heap[R + 1]? = some (.cells #[.int .i64 x.pr, .int .u64 x.vo, .int .u64 x.su, .int .i64 x.sd, .int .i64 x.ru] 57 (0, 0)) from by
    have := World.alloc_heap_new (w.alloc (.cells #[.int .i64 0, .int .u64 0, .int .u64 0, .int .i64 0, .int .i64 0] 57)) (.cells #[.int .i64 x.pr, .int .u64 x.vo, .int .u64 x.su, .int .i64 x.sd, .int .i64 x.ru] 57)
    rw [← hR]; simpa using this)
  have hWz := hid (show ((w.alloc (.cells #[.int .i64 0, .int .u64 0, .int .u64 0, .int .i64 0, .int .i64 0] 57)).alloc (.cells #[.int .i64 x.pr, .int .u64 x.vo, .int .u64 x.su, .int .i64 x.sd, .int .i64 x.ru] 57)).heap[R]? = some (.cells #[.int .i64 0, .int .u64 0, .int .u64 0, .int .i64 0, .int .i64 0] 57 (0, 0)) from by rw [← hR]; exact row_on (World.alloc_heap_new _ _) (ball _ _))
  clear h hC hn hx hR
  go_enter Tryz.func75, Tryz.ntmps75
  go_wp2
  rw [HRR.out]
  clear a0 a1 a2 a3 a4
  go_loopw [6] (fun iv wr => ∃ i : Nat, 1 ≤ i ∧ i ≤ n ∧ iv = .int .i64 i ∧ Hid (wr.heap[R + 1]? = some (.cells (qrow (mn f l i)) 57 (0, 0))) ∧ Hid (wr.heap[R]? = some (.cells #[.int .i64 0, .int .u64 0, .int .u64 0, .int .i64 0, .int .i64 0] 57 (0, 0))) ∧ Hid (Below w.heap.size w wr)) (fun iv _ => n - (intOf iv).toNat)
  case atStart => exact ⟨1, Nat.le_refl _, by omega, rfl, hid (by rw [HM1.out]; exact hWr.out), hWz, hid (btr (ball _ _) (ball _ _))⟩
  case round =>
    obtain ⟨i, hi1, hin, rfl, HR1, HR0, HB⟩ := hrel
    by_cases hlt : i < n
    · have hi : i < l.length := by rw [HN.out]; exact hlt
      obtain ⟨g', e, sg', b0, b1, b2, b3, b4⟩ := (HQ.out.on HB.out).cells hi
      injection e with e
      injection e with e
      subst e
      have hmm := mn_mem (f := f) (show 0 < l.length by omega) i (by omega)
      have HMS := hid (mn_succ (f := f) hi)
      have hy := List.getElem_mem hi
      obtain ⟨y, hyy⟩ : ∃ y, l[i] = y := ⟨_, rfl⟩
      rw [hyy] at b0 b1 b2 b3 b4 hy HMS
      obtain ⟨m, hm⟩ : ∃ m, mn f l i = m := ⟨_, rfl⟩
      rw [hm] at hmm HMS
      have r1 := HR1.out
      rw [hm] at r1
      have HS := hid (show ∀ U, Below wr.heap.size wr U → U.cell? ⟨g, i * 5, none⟩ = some (.int .i64 y.pr) ∧ U.cell? ⟨g, i * 5 + 1, none⟩ = some (.int .u64 y.vo) ∧ U.cell? ⟨g, i * 5 + 2, none⟩ = some (.int .u64 y.su) ∧ U.cell? ⟨g, i * 5 + 3, none⟩ = some (.int .i64 y.sd) ∧ U.cell? ⟨g, i * 5 + 4, none⟩ = some (.int .i64 y.ru) ∧ U.cell? ⟨(R + 1), 0, none⟩ = some (.int .i64 m.pr) ∧ U.cell? ⟨(R + 1), 1, none⟩ = some (.int .u64 m.vo) ∧ U.cell? ⟨(R + 1), 2, none⟩ = some (.int .u64 m.su) ∧ U.cell? ⟨(R + 1), 3, none⟩ = some (.int .i64 m.sd) ∧ U.cell? ⟨(R + 1), 4, none⟩ = some (.int .i64 m.ru) from fun U hU => by
        obtain ⟨q0, q1, q2, q3, q4⟩ := row5 (row_on r1 hU)
        exact ⟨(hU.cell (p := ⟨g, i * 5, none⟩) sg').trans b0, (hU.cell (p := ⟨g, i * 5 + 1, none⟩) sg').trans b1, (hU.cell (p := ⟨g, i * 5 + 2, none⟩) sg').trans b2, (hU.cell (p := ⟨g, i * 5 + 3, none⟩) sg').trans b3, (hU.cell (p := ⟨g, i * 5 + 4, none⟩) sg').trans b4, q0, q1, q2, q3, q4⟩)
      have HR1' := hid r1
      have CC := hid (fun U (hU : Below wr.heap.size wr U) => on_b (HC.out y hy m hmm U ((btr HB.out hU).mono hn0)) hU)
      have i0 : (0 : Int) ≤ (i : Int) := by omega
      have i1 : (i : Int) < (n : Int) := by omega
      clear hyy hm hmm hy r1 b0 b1 b2 b3 b4
      by_cases hf : f y < f m
      · rw [cm3_lt hf] at CC
        have HF := hid hf
        clear hf
        go_upto_region 7 with fail
        obtain ⟨k0, k1, k2, k3, k4, k5, k6, k7, k8, k9⟩ := HS.out wr (Below.refl _ _)
        go_region_held3 (fun U => U.cell? ⟨g, i * 5, none⟩ = some (.int .i64 y.pr) ∧ U.cell? ⟨g, i * 5 + 1, none⟩ = some (.int .u64 y.vo) ∧ U.cell? ⟨g, i * 5 + 2, none⟩ = some (.int .u64 y.su) ∧ U.cell? ⟨g, i * 5 + 3, none⟩ = some (.int .i64 y.sd) ∧ U.cell? ⟨g, i * 5 + 4, none⟩ = some (.int .i64 y.ru) ∧ U.cell? ⟨(R + 1), 0, none⟩ = some (.int .i64 m.pr) ∧ U.cell? ⟨(R + 1), 1, none⟩ = some (.int .u64 m.vo) ∧ U.cell? ⟨(R + 1), 2, none⟩ = some (.int .u64 m.su) ∧ U.cell? ⟨(R + 1), 3, none⟩ = some (.int .i64 m.sd) ∧ U.cell? ⟨(R + 1), 4, none⟩ = some (.int .i64 m.ru)) (go_keep) (first | (go_at_call 85; with_reducible refine (CC.out _ (bdrew1 wr)).mono ?_; rintro e v1 ⟨rfl, V1⟩; obtain ⟨k0, k1, k2, k3, k4, k5, k6, k7, k8, k9⟩ := HS.out v1 V1.out))
        have HX1 := hid (row_on HR1'.out V1.out)
        have AI := hid (show (Tryz.prog.info? 57).map (·.size) = some (#[.int .i64 y.pr, .int .u64 y.vo, .int .u64 y.su, .int .i64 y.sd, .int .i64 y.ru] : Array Value).size from infoQ)
        have AS := hid (show (#[.int .i64 m.pr, .int .u64 m.vo, .int .u64 m.su, .int .i64 m.sd, .int .i64 m.ru] : Array Value).size = (#[.int .i64 y.pr, .int .u64 y.vo, .int .u64 y.su, .int .i64 y.sd, .int .i64 y.ru] : Array Value).size from rfl)
        have AA := hid (show (#[.int .i64 y.pr, .int .u64 y.vo, .int .u64 y.su, .int .i64 y.sd, .int .i64 y.ru] : Array Value).all (·.oneCell') = true from by simp [Value.oneCell'])
        unfold qrow at HX1
        go_wp2_with (refine wpList_store_row (by rfl) 57 (.tmp 5) (.tmp 31) (by rfl) (R + 1) #[.int .i64 y.pr, .int .u64 y.vo, .int .u64 y.su, .int .i64 y.sd, .int .i64 y.ru] (by rfl) (by rfl) 57 _ HX1.out AI.out AS.out AA.out ?_)
        go_roundw
        case rel =>
          refine ⟨i + 1, by omega, by omega, by go_num, hid ?_, hid ?_, hid (setRow_below (btr HB.out V1.out) (by have := HRR.out; omega))⟩
          · rw [HMS.out, if_pos HF.out]
            exact setRow_heap v1 (R + 1) _ _ 57 (0, 0) HX1.out
          · rw [setRow_other v1 (R + 1) R _ (by omega)]
            exact row_on HR0.out V1.out
        case measure => simp [intOf]; omega
      · have hge := cm3_ge hf
        obtain ⟨v, hv⟩ : ∃ v, cm3 (f y) (f m) = v := ⟨_, rfl⟩
        rw [hv] at CC hge
        have HF := hid hf
        have dv : decide (v < 0) = false := by simpa using hge
        have dv2 : ¬ v < 0 := by omega
        clear hf hv
        go_upto_region 7 with fail
        obtain ⟨k0, k1, k2, k3, k4, k5, k6, k7, k8, k9⟩ := HS.out wr (Below.refl _ _)
        go_region_held3 (fun U => U.cell? ⟨g, i * 5, none⟩ = some (.int .i64 y.pr) ∧ U.cell? ⟨g, i * 5 + 1, none⟩ = some (.int .u64 y.vo) ∧ U.cell? ⟨g, i * 5 + 2, none⟩ = some (.int .u64 y.su) ∧ U.cell? ⟨g, i * 5 + 3, none⟩ = some (.int .i64 y.sd) ∧ U.cell? ⟨g, i * 5 + 4, none⟩ = some (.int .i64 y.ru) ∧ U.cell? ⟨(R + 1), 0, none⟩ = some (.int .i64 m.pr) ∧ U.cell? ⟨(R + 1), 1, none⟩ = some (.int .u64 m.vo) ∧ U.cell? ⟨(R + 1), 2, none⟩ = some (.int .u64 m.su) ∧ U.cell? ⟨(R + 1), 3, none⟩ = some (.int .i64 m.sd) ∧ U.cell? ⟨(R + 1), 4, none⟩ = some (.int .i64 m.ru)) (go_keep) (first | (go_at_call 85; with_reducible refine (CC.out _ (bdrew1 wr)).mono ?_; rintro e v1 ⟨rfl, V1⟩; obtain ⟨k0, k1, k2, k3, k4, k5, k6, k7, k8, k9⟩ := HS.out v1 V1.out))
        go_wp2
        go_roundw
        case rel => exact ⟨i + 1, by omega, by omega, by go_num, hid (by rw [HMS.out, if_neg (show ¬ f y < f m by have := HF.out; omega)]; exact row_on HR1'.out V1.out), hid (row_on HR0.out V1.out), hid (btr HB.out V1.out)⟩
        case measure => simp [intOf]; omega
    · obtain rfl : i = n := by omega
      have r1 := HR1.out
      obtain ⟨m, hm⟩ : ∃ m, mn f l i = m := ⟨_, rfl⟩
      rw [hm] at r1
      have HMM := hid hm
      have HX1 := hid r1
      obtain ⟨q0, q1, q2, q3, q4⟩ := row5 r1
      have AI := hid (show (Tryz.prog.info? 57).map (·.size) = some (#[.int .i64 m.pr, .int .u64 m.vo, .int .u64 m.su, .int .i64 m.sd, .int .i64 m.ru] : Array Value).size from infoQ)
      have AS := hid (show (#[.int .i64 0, .int .u64 0, .int .u64 0, .int .i64 0, .int .i64 0] : Array Value).size = (#[.int .i64 m.pr, .int .u64 m.vo, .int .u64 m.su, .int .i64 m.sd, .int .i64 m.ru] : Array Value).size from rfl)
      have AA := hid (show (#[.int .i64 m.pr, .int .u64 m.vo, .int .u64 m.su, .int .i64 m.sd, .int .i64 m.ru] : Array Value).all (·.oneCell') = true from by simp [Value.oneCell'])
      clear r1 hm
      go_wp2_with (refine wpList_store_row (by rfl) 57 (.tmp 4) (.tmp 32) (by rfl) R #[.int .i64 m.pr, .int .u64 m.vo, .int .u64 m.su, .int .i64 m.sd, .int .i64 m.ru] (by rfl) (by rfl) 57 _ HR0.out AI.out AS.out AA.out ?_)
      refine bodyPost_ret (results_cell_row (fn := Tryz.f75) Tryz.results75 _ _ R 57 #[.int .i64 m.pr, .int .u64 m.vo, .int .u64 m.su, .int .i64 m.sd, .int .i64 m.ru] (0, 0) _ (by rfl) (setRow_heap _ _ _ _ 57 (0, 0) HR0.out) Tryz.underlying57 rfl infoQ) rfl ⟨by rw [HMM.out]; rfl, ?_⟩
      exact setRow_below HB.out (by have := HRR.out; omega)
end Go.Proofs.YtnmkfdndfhefiaaGreat
