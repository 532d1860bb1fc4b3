/-
  The document's bad, head.
-/
import Derived.Test.YtolabllgnfpfaaaDoorTyP
import Derived.Laws.CopyOwn
namespace Go.Proofs.YtolabllgnfpfaaaDoor
open Go.RowKit Go.Deep Go.Lib Go.Shelf Go.Sort
set_option linter.unusedVariables false

theorem info67 : (Tryd.prog.info? 61).map (·.size) = some 6 := by kernel_rfl
theorem row_cell {w : World} {g : Nat} {t : TypeId} {cs : Array Value} (h : w.heap[g]? = some (.cells cs t (0, 0))) (j : Nat) : w.cell? ⟨g, j, none⟩ = cs[j]? := cell_of_row w g j cs t (0, 0) h
theorem row_lt {w : World} {g : Nat} {o : Obj} (h : w.heap[g]? = some o) : g < w.heap.size := by
  rcases Nat.lt_or_ge g w.heap.size with h' | h'
  · exact h'
  · simp [Array.getElem?_eq_none h'] at h
theorem row_on {w w' : World} {g : Nat} {o : Obj} (h : w.heap[g]? = some o) (hb : Below w.heap.size w w') : w'.heap[g]? = some o := by
  rw [hb.block g (row_lt h)]
  exact h
/-- a whole row is written, and nothing else. -/
structure St (w : World) (g : Nat) (t : TypeId) (cs : Array Value) (w' : World) : Prop where
  row : w'.heap[g]? = some (.cells cs t (0, 0))
  oth : ∀ k, k ≠ g → w'.heap[k]? = w.heap[k]?
  siz : w'.heap.size = w.heap.size
  bel : ∀ B W0, Below B W0 w → B ≤ g → Below B W0 w'
theorem wpList_st {ops : Array Oper} {rest : List Oper} {o : Oper} {a : Act} {w : World} {Q : Exit → Act → World → Prop} (hgd : o.guard = none) (ty : TypeId) (x y : Operand) (ho : o.op = .store ty x y)
    (g : Nat) (cells : Array Value) (hx : a.eval x = .pointer (some ⟨g, 0, none⟩)) (hy : a.eval y = .agg cells)
    (t : TypeId) (old : Array Value) (hg : w.heap[g]? = some (.cells old t (0, 0))) (hi : (Tryd.prog.info? ty).map (·.size) = some cells.size)
    (hold : old.size = cells.size) (h1 : cells.all (·.oneCell') = true)
    (h : ∀ w', St w g t cells w' → wpList Tryd.prog ops Q rest (a.put o.dst undef) w') : wpList Tryd.prog ops Q (o :: rest) a w :=
  wpList_store_row hgd ty x y ho g cells hx hy t old hg hi hold h1 (h _ ⟨setRow_heap _ _ _ _ t (0, 0) hg, fun k hk => setRow_other _ _ _ _ hk, by simp, fun B W0 hb hB => below_setRow hb hB _⟩)
theorem St.cell {w w' : World} {g : Nat} {t : TypeId} {cs : Array Value} (h : St w g t cs w') {b j : Nat} {v : Value} (hb : b ≠ g) (hc : w.cell? ⟨b, j, none⟩ = some v) : w'.cell? ⟨b, j, none⟩ = some v := by
  unfold World.cell? at hc ⊢
  simp only [h.oth b hb]
  exact hc
/-- an answer, as cells. -/
def ansV (kind : List UInt8) (tv : Value) (at_ why : Int) (wh : Bool) (sz : Int) : Array Value := #[.string ⟨kind.toArray⟩, tv, .int .i64 at_, .int .i64 why, .bool wh, .int .i64 sz]
def ansB (at_ why : Int) : Array Value := #[.string ⟨#[]⟩, .slice none 0 0, .int .i64 at_, .int .i64 why, .bool false, .int .i64 0]
def ansZ : Array Value := #[.string ⟨#[]⟩, .slice none 0 0, .int .i64 0, .int .i64 0, .bool false, .int .i64 0]
theorem bad_any (a y : Int) (w : World) : Calls Tryd.prog 35 #[.int .i64 a, .int .i64 y] w fun e w' => e = .returned (.agg (ansB a y)) ∧ Below w.heap.size w w' := by
  go_enter Tryd.func35, Tryd.ntmps35
  go_wp2
  exact bodyPost_ret (results_cell_row (fn := Tryd.f35) Tryd.results35 _ _ w.heap.size 61 (ansB a y) (0, 0) _ (by rfl) (heap_alloc_new _ _) Tryd.underlying61 rfl info67) rfl ⟨rfl, ball _ _⟩
theorem res_h (fn : Func) (u v p : Tmp) (h : fn.results = #[.tmp u, .tmp v, .cell p 61]) (tmps : Array Value) (w : World) (g : Nat) (cs : Array Value) (eu ev : Value)
    (hu : tmps.getD u undef = eu) (hv : tmps.getD v undef = ev) (hp : tmps.getD p undef = .pointer (some ⟨g, 0, none⟩)) (hg : w.heap[g]? = some (.cells cs 61 (0, 0))) (hi : (Tryd.prog.info? 61).map (·.size) = some cs.size) :
    (results fn tmps).run Tryd.prog w = .ok (.tuple #[eu, ev, .agg cs]) w := by
  have hp' : tmps[p]?.getD undef = .pointer (some ⟨g, 0, none⟩) := by simpa using hp
  have hu' : tmps[u]?.getD undef = eu := by simpa using hu
  have hv' : tmps[v]?.getD undef = ev := by simpa using hv
  simp [results, h, hp', hu', hv', asAddr, run_loadVar_row w g 61 61 cs (0, 0) _ hg Tryd.underlying61 rfl hi]
/-- where the body begins, how long it is said to be; or the place and the error. -/
def headR (l : List UInt8) : (Nat × Nat) × Nat × Int :=
  if (begE l 0 10).2 ≠ 0 then ((0, 0), (begE l 0 10).1, (begE l 0 10).2)
  else if 10 + digN (l.drop 10) 0 5 = l.length then ((0, 0), l.length, 20)
  else match num ((l.drop 10).take (digN (l.drop 10) 0 5)) with
    | none => ((0, 0), 10, 3)
    | some s => if digN (l.drop 10) 0 5 = 5 ∨ l[10 + digN (l.drop 10) 0 5]? ≠ some 1 then ((0, 0), 10, 3)
      else ((10 + digN (l.drop 10) 0 5 + 1, s), 0, 0)
def headV (x : (Nat × Nat) × Nat × Int) : Value := .tuple #[.int .i64 x.1.1, .int .i64 x.1.2, .agg (ansB x.2.1 x.2.2)]
theorem begE_short {b : List UInt8} : ∀ (k i : Nat), i ≤ b.length → (begE b i k).2 = 20 → (begE b i k).1 = b.length := by
  intro k
  induction k with
  | zero => intro i _ h; simp [begE] at h
  | succ k ih =>
    intro i hi h
    unfold begE at h ⊢
    cases hb : b[i]? with
    | none =>
      simp only [hb] at h ⊢
      have := List.getElem?_eq_none_iff.1 hb
      omega
    | some c =>
      simp only [hb] at h ⊢
      have hlt := (List.getElem?_eq_some_iff.1 hb).1
      split
      · rename_i hc
        rw [if_pos hc] at h
        exact ih (i + 1) (by omega) h
      · rename_i hc
        rw [if_neg hc] at h
        simp at h
set_option maxHeartbeats 4000000 in
set_option maxRecDepth 100000 in
theorem head_any (l : List UInt8) (q : Option Addr) (cap : Nat) (w : World) (hl : l.length < 4611686018427387904) (hcap : l.length ≤ cap) (hcm : cap < 9223372036854775808) (hS : Sb w q l) :
    Calls Tryd.prog 34 #[.slice q l.length cap] w fun e w' => e = .returned (headV (headR l)) ∧ Below w.heap.size w w' := by
  have HS := hid hS
  have BA := hid bad_any
  have HZ0 := hid (show (w.alloc (.cells ansZ 61)).heap[w.heap.size]? = some (.cells ansZ 61 (0, 0)) from heap_alloc_new _ _)
  clear hS
  go_enter Tryd.func34, Tryd.ntmps34
  go_wp2_with fail
  go_loopw [5] (fun iv wr => ∃ k : Nat, k ≤ 10 ∧ k ≤ l.length ∧ iv = .int .i64 k ∧ Hid (Below w.heap.size w wr) ∧ Hid (wr.heap[w.heap.size]? = some (.cells ansZ 61 (0, 0))) ∧ Hid (begE l 0 10 = begE l k (10 - k))) (fun iv _ => 10 - (RowKit.intOf iv).toNat)
  case atStart => exact ⟨0, by omega, Nat.zero_le _, rfl, hid (ball _ _), HZ0, hid rfl⟩
  case round =>
    obtain ⟨k, hk, hkl, rfl, HB, HZ, HE⟩ := hrel
    clear HZ0
    by_cases hlt : k < 10
    · have i3 : (k : Int) < 10 := by omega
      by_cases hend : k = l.length
      · have HE2 := hid (HE.out.trans (begE_none hlt (by omega)))
        have f1 : ((k : Int) == (l.length : Int)) = true := by simp; omega
        have HRS := hid (show headR l = ((0, 0), l.length, 20) by unfold headR; rw [HE2.out, ← hend]; rfl)
        clear HE hend HE2
        go_wp2_with (first | (go_at_call 35; refine (BA.out _ _ _).mono ?_; rintro e w1 ⟨rfl, hb⟩; have HB1 := hid hb; clear hb; refine Hid.out ?_))
        have HZ1 := hid (row_on HZ.out HB1.out)
        have HW1 := hid (btr' HB.out HB1.out)
        clear HB1 HZ HB
        refine Lib.hid ?_
        go_wp2_with (first | (refine wpList_st (by rfl) 61 (.tmp 4) (.tmp 20) (by rfl) w.heap.size (ansB l.length 20) (by rfl) (by rfl) 61 ansZ HZ1.out info67 rfl (by simp [ansB, Value.oneCell']) ?_; intro w5 hst; have HST := hid hst; clear hst; refine Hid.out ?_))
        refine Lib.hid ?_
        go_wp2
        exact bodyPost_ret (res_h Tryd.f34 2 3 4 Tryd.results34 _ _ w.heap.size (ansB l.length 20) _ _ (by rfl) (by rfl) (by rfl) HST.out.row info67) rfl ⟨by rw [HRS.out]; rfl, HST.out.bel _ _ HW1.out (Nat.le_refl _)⟩
      · obtain ⟨b, o, rfl, h0⟩ := (HS.out.on HB.out) k (by omega)
        obtain ⟨c, hc⟩ : ∃ c, l[k]'(by omega) = c := ⟨_, rfl⟩
        rw [hc] at h0
        have he := HE.out.trans (begE_some hlt (by omega) (by rw [beg_len]; omega))
        rw [hc] at he
        have f1 : ((k : Int) == (l.length : Int)) = false := by simp; omega
        have i0 : (0 : Int) ≤ (k : Int) := by omega
        have i1 : (k : Int) < (l.length : Int) := by omega
        obtain ⟨d, hd⟩ : ∃ d, beg[k]'(by rw [beg_len]; omega) = d := ⟨_, rfl⟩
        have hx : ∀ h : k < (⟨#[56, 61, 66, 82, 83, 46, 49, 1, 57, 61]⟩ : ByteArray).size, (⟨#[56, 61, 66, 82, 83, 46, 49, 1, 57, 61]⟩ : ByteArray)[k] = d := fun h => (ba_at beg k (by rw [beg_len]; omega) h).trans hd
        rw [hd] at he
        have hsz : (⟨#[56, 61, 66, 82, 83, 46, 49, 1, 57, 61]⟩ : ByteArray).size = 10 := rfl
        by_cases hcd : c = d
        · subst hcd
          rw [if_pos rfl] at he
          have HE2 := hid he
          clear he HE hc hd
          go_wp2
          go_quiet (fail)
          go_wp2
          go_roundw
          case rel => exact ⟨k + 1, by omega, by omega, by go_num, hid (HB.out.trans ⟨rfl, rfl, rfl, Nat.le_refl _, fun _ _ => rfl⟩), HZ, HE2⟩
          case measure => simp [RowKit.intOf]; omega
        · rw [if_neg hcd] at he
          have HRS := hid (show headR l = ((0, 0), k, 3) by unfold headR; rw [he]; rfl)
          have hne : ((c.toNat : Int) != (d.toNat : Int)) = true := by
            simp
            intro e
            exact hcd (UInt8.toNat_inj.1 (by omega))
          clear he HE hc hd
          go_wp2
          go_quiet (fail)
          replace HB := hid (show Below w.heap.size w (wr.drewN nq) from HB.out.trans ⟨rfl, rfl, rfl, Nat.le_refl _, fun _ _ => rfl⟩)
          replace HZ := hid (show (wr.drewN nq).heap[w.heap.size]? = some (.cells ansZ 61 (0, 0)) from HZ.out)
          go_wp2_with (first | (go_at_call 35; refine (BA.out _ _ _).mono ?_; rintro e w1 ⟨rfl, hb⟩; have HB1 := hid hb; clear hb; refine Hid.out ?_))
          have HZ1 := hid (row_on HZ.out HB1.out)
          have HW1 := hid (btr' HB.out HB1.out)
          clear HB1 HZ HB
          refine Lib.hid ?_
          go_wp2_with (first | (refine wpList_st (by rfl) 61 (.tmp 4) (.tmp 29) (by rfl) w.heap.size (ansB k 3) (by rfl) (by rfl) 61 ansZ HZ1.out info67 rfl (by simp [ansB, Value.oneCell']) ?_; intro w5 hst; have HST := hid hst; clear hst; refine Hid.out ?_))
          refine Lib.hid ?_
          go_wp2
          exact bodyPost_ret (res_h Tryd.f34 2 3 4 Tryd.results34 _ _ w.heap.size (ansB k 3) _ _ (by rfl) (by rfl) (by rfl) HST.out.row info67) rfl ⟨by rw [HRS.out]; rfl, HST.out.bel _ _ HW1.out (Nat.le_refl _)⟩
    · obtain rfl : k = 10 := by omega
      have HE2 := hid (show begE l 0 10 = (0, 0) from HE.out.trans rfl)
      clear HE
      obtain ⟨b, o, rfl, _⟩ := HS.out 0 (by omega)
      have HSW := hid (HS.out.on HB.out)
      have hdl : (l.drop 10).length = l.length - 10 := by simp
      go_wp2
      go_loopw [7] (fun iv wr2 => ∃ n : Nat, n ≤ 5 ∧ 10 + n ≤ l.length ∧ iv = .int .i64 n ∧ wr2 = wr ∧ Hid (digN (l.drop 10) 0 5 = digN (l.drop 10) n (5 - n))) (fun iv _ => 5 - (RowKit.intOf iv).toNat)
      case atStart => exact ⟨0, by omega, by omega, rfl, rfl, hid rfl⟩
      case round =>
        obtain ⟨n, hn5, hnl, rfl, rfl, HD⟩ := hrel
        have HNA := hid (fun w => natural_any ((l.drop 10).take n) w (by simp; omega))
        rw [nat_num] at HNA
        have CV := hid (conv_sb ((HSW.out.drop 10).take n) (cap - 10))
        have hln : ((l.drop 10).take n).length = n := by simp; omega
        rw [hln] at CV
        obtain ⟨DT, hDT⟩ : ∃ x, (l.drop 10).take n = x := ⟨_, rfl⟩
        rw [hDT] at HNA CV hln
        by_cases h5 : n = 5
        · subst h5
          have HD5 := hid (show digN (l.drop 10) 0 5 = 5 from HD.out)
          by_cases hend : 15 = l.length
          · have HRS := hid (show headR l = ((0, 0), l.length, 20) by unfold headR; rw [HE2.out, HD5.out]; simp [hend])
            have f1 : ((15 : Int) == (l.length : Int)) = true := by simp; omega
            clear HD HD5 HNA CV hDT
            go_wp2_with (first | (go_at_call 35; refine (BA.out _ _ _).mono ?_; rintro e w1 ⟨rfl, hb⟩; have HB1 := hid hb; clear hb; refine Hid.out ?_))
            have HZ1 := hid (row_on HZ.out HB1.out)
            have HW1 := hid (btr' HB.out HB1.out)
            clear HB1 HZ HB
            refine Lib.hid ?_
            go_wp2_with (first | (refine wpList_st (by rfl) 61 (.tmp 4) (.tmp 68) (by rfl) w.heap.size (ansB l.length 20) (by rfl) (by rfl) 61 ansZ HZ1.out info67 rfl (by simp [ansB, Value.oneCell']) ?_; intro w5 hst; have HST := hid hst; clear hst; refine Hid.out ?_))
            refine Lib.hid ?_
            go_wp2
            exact bodyPost_ret (res_h Tryd.f34 2 3 4 Tryd.results34 _ _ w.heap.size (ansB l.length 20) _ _ (by rfl) (by rfl) (by rfl) HST.out.row info67) rfl ⟨by rw [HRS.out]; rfl, HST.out.bel _ _ HW1.out (Nat.le_refl _)⟩
          · have HRS := hid (show headR l = ((0, 0), 10, 3) by unfold headR; rw [HE2.out, HD5.out]; simp only [ne_eq, not_true_eq_false, if_false]; rw [if_neg hend]; cases num ((l.drop 10).take 5) <;> simp)
            have f1 : ((15 : Int) == (l.length : Int)) = false := by simp; omega
            have g1 : (15 : Int) ≤ (cap : Int) := by omega
            have g2 : (10 : Int) ≤ (cap : Int) := by omega
            have cv := CV.out
            clear HD HD5 CV hDT
            go_wp2_with (first | (go_at_call 47; refine (HNA.out _).mono ?_; rintro e w2 ⟨rfl, rfl⟩; refine Hid.out ?_))
            refine Lib.hid ?_
            go_wp2_with (first | (go_at_call 35; refine (BA.out _ _ _).mono ?_; rintro e w1 ⟨rfl, hb⟩; have HB1 := hid hb; clear hb; refine Hid.out ?_))
            have HZ1 := hid (row_on HZ.out HB1.out)
            have HW1 := hid (btr' HB.out HB1.out)
            clear HB1 HZ HB
            refine Lib.hid ?_
            go_wp2_with (first | (refine wpList_st (by rfl) 61 (.tmp 4) (.tmp 96) (by rfl) w.heap.size (ansB 10 3) (by rfl) (by rfl) 61 ansZ HZ1.out info67 rfl (by simp [ansB, Value.oneCell']) ?_; intro w5 hst; have HST := hid hst; clear hst; refine Hid.out ?_))
            refine Lib.hid ?_
            go_wp2
            exact bodyPost_ret (res_h Tryd.f34 2 3 4 Tryd.results34 _ _ w.heap.size (ansB 10 3) _ _ (by rfl) (by rfl) (by rfl) HST.out.row info67) rfl ⟨by rw [HRS.out]; rfl, HST.out.bel _ _ HW1.out (Nat.le_refl _)⟩
        · have n5 : (n : Int) < 5 := by omega
          by_cases hend : 10 + n = l.length
          · have HD5 := hid (show digN (l.drop 10) 0 5 = n from HD.out.trans (digN_none (by omega) (by omega)))
            have HRS := hid (show headR l = ((0, 0), l.length, 20) by unfold headR; rw [HE2.out, HD5.out]; simp [hend])
            have f0 : ¬ (10 + (n : Int) < (l.length : Int)) := by omega
            have f1 : (10 + (n : Int) == (l.length : Int)) = true := by simp; omega
            clear HD HD5 HNA CV hDT
            go_wp2_with (first | (go_at_call 35; refine (BA.out _ _ _).mono ?_; rintro e w1 ⟨rfl, hb⟩; have HB1 := hid hb; clear hb; refine Hid.out ?_))
            have HZ1 := hid (row_on HZ.out HB1.out)
            have HW1 := hid (btr' HB.out HB1.out)
            clear HB1 HZ HB
            refine Lib.hid ?_
            go_wp2_with (first | (refine wpList_st (by rfl) 61 (.tmp 4) (.tmp 68) (by rfl) w.heap.size (ansB l.length 20) (by rfl) (by rfl) 61 ansZ HZ1.out info67 rfl (by simp [ansB, Value.oneCell']) ?_; intro w5 hst; have HST := hid hst; clear hst; refine Hid.out ?_))
            refine Lib.hid ?_
            go_wp2
            exact bodyPost_ret (res_h Tryd.f34 2 3 4 Tryd.results34 _ _ w.heap.size (ansB l.length 20) _ _ (by rfl) (by rfl) (by rfl) HST.out.row info67) rfl ⟨by rw [HRS.out]; rfl, HST.out.bel _ _ HW1.out (Nat.le_refl _)⟩
          · have hlt2 : 10 + n < l.length := by omega
            have h0 := HSW.out.at (10 + n) hlt2
            obtain ⟨c, hc⟩ : ∃ c, l[10 + n]'hlt2 = c := ⟨_, rfl⟩
            rw [hc] at h0
            have hdc : (l.drop 10)[n]'(by omega) = c := by rw [List.getElem_drop]; exact hc
            have hd := HD.out.trans (digN_some (b := l.drop 10) (i := n) (k := 5) (by omega) (by omega))
            rw [hdc] at hd
            have hq : l[10 + n]? = some c := by rw [List.getElem?_eq_getElem hlt2, hc]
            have f0 : 10 + (n : Int) < (l.length : Int) := by omega
            have i0 : (0 : Int) ≤ 10 + (n : Int) := by omega
            by_cases hdig : Dig c
            · rw [if_pos hdig] at hd
              have HD2 := hid hd
              obtain ⟨g1, g2⟩ : (48 : Int) ≤ (c.toNat : Int) ∧ (c.toNat : Int) ≤ 57 := by unfold Dig at hdig; omega
              clear hd HD hdc hc hdig hq HNA CV hDT
              go_wp2
              go_roundw
              case rel => exact ⟨n + 1, by omega, by omega, by go_num, trivial, HD2⟩
              case measure => simp [RowKit.intOf]; omega
            · rw [if_neg hdig] at hd
              have HRS0 := hid (show headR l = (match num DT with | none => ((0, 0), 10, 3) | some s => if n = 5 ∨ l[10 + n]? ≠ some 1 then ((0, 0), 10, 3) else ((10 + n + 1, s), 0, 0)) by
                unfold headR
                rw [HE2.out, hd, hDT]
                simp only [ne_eq, not_true_eq_false, if_false]
                rw [if_neg hend])
              have f1 : (10 + (n : Int) == (l.length : Int)) = false := by simp; omega
              have f5 : ((n : Int) == 5) = false := by simp; omega
              have k1 : 10 + (n : Int) ≤ (cap : Int) := by omega
              have k2 : (10 : Int) ≤ 10 + (n : Int) := by omega
              have cv := CV.out
              have hgd : (c.toNat : Int) < 48 ∨ ((48 : Int) ≤ (c.toNat : Int) ∧ (57 : Int) < (c.toNat : Int)) := by unfold Dig at hdig; omega
              clear HD hd hdc hc CV hDT hdig
              cases hnum : num DT with
              | none =>
                rw [hnum] at HRS0 HNA
                simp only [Option.getD_none, Option.isSome_none] at HNA
                have HRS := hid (show headR l = ((0, 0), 10, 3) from HRS0.out)
                clear hnum HRS0 hq
                rcases hgd with hg | ⟨hg1, hg2⟩
                · have hg3 : ¬ (48 : Int) ≤ (c.toNat : Int) := by omega
                  go_wp2_with (first | (go_at_call 47; refine (HNA.out _).mono ?_; rintro e w2 ⟨rfl, rfl⟩; refine Hid.out ?_))
                  refine Lib.hid ?_
                  go_wp2_with (first | (go_at_call 35; refine (BA.out _ _ _).mono ?_; rintro e w1 ⟨rfl, hb⟩; have HB1 := hid hb; clear hb; refine Hid.out ?_))
                  have HZ1 := hid (row_on HZ.out HB1.out)
                  have HW1 := hid (btr' HB.out HB1.out)
                  clear HB1 HZ HB
                  refine Lib.hid ?_
                  go_wp2_with (first | (refine wpList_st (by rfl) 61 (.tmp 4) (.tmp 96) (by rfl) w.heap.size (ansB 10 3) (by rfl) (by rfl) 61 ansZ HZ1.out info67 rfl (by simp [ansB, Value.oneCell']) ?_; intro w5 hst; have HST := hid hst; clear hst; refine Hid.out ?_))
                  refine Lib.hid ?_
                  go_wp2
                  exact bodyPost_ret (res_h Tryd.f34 2 3 4 Tryd.results34 _ _ w.heap.size (ansB 10 3) _ _ (by rfl) (by rfl) (by rfl) HST.out.row info67) rfl ⟨by rw [HRS.out]; rfl, HST.out.bel _ _ HW1.out (Nat.le_refl _)⟩
                · have hg3 : ¬ (c.toNat : Int) ≤ 57 := by omega
                  go_wp2_with (first | (go_at_call 47; refine (HNA.out _).mono ?_; rintro e w2 ⟨rfl, rfl⟩; refine Hid.out ?_))
                  refine Lib.hid ?_
                  go_wp2_with (first | (go_at_call 35; refine (BA.out _ _ _).mono ?_; rintro e w1 ⟨rfl, hb⟩; have HB1 := hid hb; clear hb; refine Hid.out ?_))
                  have HZ1 := hid (row_on HZ.out HB1.out)
                  have HW1 := hid (btr' HB.out HB1.out)
                  clear HB1 HZ HB
                  refine Lib.hid ?_
                  go_wp2_with (first | (refine wpList_st (by rfl) 61 (.tmp 4) (.tmp 96) (by rfl) w.heap.size (ansB 10 3) (by rfl) (by rfl) 61 ansZ HZ1.out info67 rfl (by simp [ansB, Value.oneCell']) ?_; intro w5 hst; have HST := hid hst; clear hst; refine Hid.out ?_))
                  refine Lib.hid ?_
                  go_wp2
                  exact bodyPost_ret (res_h Tryd.f34 2 3 4 Tryd.results34 _ _ w.heap.size (ansB 10 3) _ _ (by rfl) (by rfl) (by rfl) HST.out.row info67) rfl ⟨by rw [HRS.out]; rfl, HST.out.bel _ _ HW1.out (Nat.le_refl _)⟩
              | some s =>
                rw [hnum] at HRS0 HNA
                simp only [Option.getD_some, Option.isSome_some] at HNA
                have hs5 := num_lt5 DT s hnum (by omega)
                have hws : IntKind.i64.wrap (s : Int) = (s : Int) := by rw [IntKind.wrap_i64]; omega
                clear hnum
                by_cases hc1 : c = 1
                · subst hc1
                  have HRS := hid (show headR l = ((10 + n + 1, s), 0, 0) by rw [HRS0.out]; simp only; rw [if_neg (by rw [hq]; simp; omega)])
                  clear HRS0 hq hgd
                  have hg3 : ¬ (48 : Int) ≤ ((1 : UInt8).toNat : Int) := by decide
                  have hg4 : (((1 : UInt8).toNat : Int) != 1) = false := by decide
                  go_wp2_with (first | (go_at_call 47; refine (HNA.out _).mono ?_; rintro e w2 ⟨rfl, rfl⟩; refine Hid.out ?_))
                  refine Lib.hid ?_
                  go_wp2_with (first | (refine wpList_st (by rfl) 61 (.tmp 4) (.tmp 103) (by rfl) w.heap.size ansZ (by rfl) (by rfl) 61 ansZ HZ.out info67 rfl (by simp [ansZ, Value.oneCell']) ?_; intro w5 hst; have HST := hid hst; clear hst; refine Hid.out ?_))
                  refine Lib.hid ?_
                  go_wp2
                  refine bodyPost_ret (res_h Tryd.f34 2 3 4 Tryd.results34 _ _ w.heap.size ansZ _ _ (by rfl) (by rfl) (by rfl) HST.out.row info67) rfl ⟨?_, HST.out.bel _ _ HB.out (Nat.le_refl _)⟩
                  rw [HRS.out]
                  have e1 : (((10 + n + 1 : Nat)) : Int) = 10 + (n : Int) + 1 := by omega
                  unfold headV
                  simp only [e1]
                  rfl
                · have HRS := hid (show headR l = ((0, 0), 10, 3) by rw [HRS0.out]; simp only; rw [if_pos (Or.inr (by rw [hq]; simpa using hc1))])
                  have hg4 : ((c.toNat : Int) != 1) = true := by
                    simp
                    intro e
                    have e2 : c.toNat = 1 := by omega
                    exact hc1 (UInt8.toNat_inj.1 (by simpa using e2))
                  clear HRS0 hq hc1
                  rcases hgd with hg | ⟨hg1, hg2⟩
                  · have hg3 : ¬ (48 : Int) ≤ (c.toNat : Int) := by omega
                    go_wp2_with (first | (go_at_call 47; refine (HNA.out _).mono ?_; rintro e w2 ⟨rfl, rfl⟩; refine Hid.out ?_))
                    refine Lib.hid ?_
                    go_wp2_with (first | (go_at_call 35; refine (BA.out _ _ _).mono ?_; rintro e w1 ⟨rfl, hb⟩; have HB1 := hid hb; clear hb; refine Hid.out ?_))
                    have HZ1 := hid (row_on HZ.out HB1.out)
                    have HW1 := hid (btr' HB.out HB1.out)
                    clear HB1 HZ HB
                    refine Lib.hid ?_
                    go_wp2_with (first | (refine wpList_st (by rfl) 61 (.tmp 4) (.tmp 96) (by rfl) w.heap.size (ansB 10 3) (by rfl) (by rfl) 61 ansZ HZ1.out info67 rfl (by simp [ansB, Value.oneCell']) ?_; intro w5 hst; have HST := hid hst; clear hst; refine Hid.out ?_))
                    refine Lib.hid ?_
                    go_wp2
                    exact bodyPost_ret (res_h Tryd.f34 2 3 4 Tryd.results34 _ _ w.heap.size (ansB 10 3) _ _ (by rfl) (by rfl) (by rfl) HST.out.row info67) rfl ⟨by rw [HRS.out]; rfl, HST.out.bel _ _ HW1.out (Nat.le_refl _)⟩
                  · have hg3 : ¬ (c.toNat : Int) ≤ 57 := by omega
                    go_wp2_with (first | (go_at_call 47; refine (HNA.out _).mono ?_; rintro e w2 ⟨rfl, rfl⟩; refine Hid.out ?_))
                    refine Lib.hid ?_
                    go_wp2_with (first | (go_at_call 35; refine (BA.out _ _ _).mono ?_; rintro e w1 ⟨rfl, hb⟩; have HB1 := hid hb; clear hb; refine Hid.out ?_))
                    have HZ1 := hid (row_on HZ.out HB1.out)
                    have HW1 := hid (btr' HB.out HB1.out)
                    clear HB1 HZ HB
                    refine Lib.hid ?_
                    go_wp2_with (first | (refine wpList_st (by rfl) 61 (.tmp 4) (.tmp 96) (by rfl) w.heap.size (ansB 10 3) (by rfl) (by rfl) 61 ansZ HZ1.out info67 rfl (by simp [ansB, Value.oneCell']) ?_; intro w5 hst; have HST := hid hst; clear hst; refine Hid.out ?_))
                    refine Lib.hid ?_
                    go_wp2
                    exact bodyPost_ret (res_h Tryd.f34 2 3 4 Tryd.results34 _ _ w.heap.size (ansB 10 3) _ _ (by rfl) (by rfl) (by rfl) HST.out.row info67) rfl ⟨by rw [HRS.out]; rfl, HST.out.bel _ _ HW1.out (Nat.le_refl _)⟩
end Go.Proofs.YtolabllgnfpfaaaDoor
