/-
  A side with an order put behind all that stand at its price or a better one: the law's own.
-/
import Derived.Test.YtalgndgoedlpoaaRuKa
namespace Go.Proofs.Ytalgndgoedlpoaa
open Go.RowKit Go.Deep Go.Shelf
set_option linter.unusedVariables false
set_option linter.unusedSimpArgs false
set_option maxHeartbeats 8000000
set_option maxRecDepth 100000
/-- orders in memory, from some place on. -/
def Osz (w : World) (q : Option Addr) (os : List Or) : Prop := ∀ i (h : i < os.length), ∃ b off, q = some ⟨b, off, none⟩ ∧ b < w.heap.size ∧ ∀ j, j < 7 → w.cell? ⟨b, off + i * 7 + j, none⟩ = (orow os[i]).toList[j]?
theorem osz_cells {W U : World} {q : Option Addr} {os : List Or} (h : Osz W q os) (hU : Below W.heap.size W U) {i : Nat} (hi : i < os.length) : ∃ b off, q = some ⟨b, off, none⟩ ∧ U.cell? ⟨b, off + i * 7, none⟩ = some (.int .u64 os[i].id) ∧ U.cell? ⟨b, off + i * 7 + 1, none⟩ = some (.int .u32 os[i].mb) ∧ U.cell? ⟨b, off + i * 7 + 2, none⟩ = some (.int .i64 os[i].ty) ∧ U.cell? ⟨b, off + i * 7 + 3, none⟩ = some (.int .i64 os[i].pr) ∧ U.cell? ⟨b, off + i * 7 + 4, none⟩ = some (.int .u64 os[i].vi) ∧ U.cell? ⟨b, off + i * 7 + 5, none⟩ = some (.int .u64 os[i].hi) ∧ U.cell? ⟨b, off + i * 7 + 6, none⟩ = some (.int .u64 os[i].pk) := by
  obtain ⟨b, off, hq, hb, hc⟩ := h i hi
  have go : ∀ j, j < 7 → U.cell? ⟨b, off + i * 7 + j, none⟩ = (orow os[i]).toList[j]? := fun j hj => (hU.cell (p := ⟨b, off + i * 7 + j, none⟩) hb).trans (hc j hj)
  exact ⟨b, off, hq, go 0 (by omega), go 1 (by omega), go 2 (by omega), go 3 (by omega), go 4 (by omega), go 5 (by omega), go 6 (by omega)⟩
def bhO (s p : Int) (os : List Or) : Nat := (os.takeWhile fun y => !btt s p y.pr).length
def inO (k : Nat) (o : Or) (os : List Or) : List Or := os.take k ++ o :: os.drop k
/-- what stands behind so many. -/
def stO (k : Nat) (o : Or) (os : List Or) (i : Nat) : List Or := if i ≤ k then os.take i else os.take k ++ o :: (os.drop k).take (i - k)
theorem bhO_le (s p : Int) (os : List Or) : bhO s p os ≤ os.length := (List.takeWhile_prefix _).length_le
theorem bhO_lt {s p : Int} {os : List Or} {i : Nat} (hi : i < bhO s p os) : btt s p (os[i]'(Nat.lt_of_lt_of_le hi (bhO_le s p os))).pr = false := by
  have h : (os.takeWhile fun y => !btt s p y.pr)[i]'hi ∈ os.takeWhile fun y => !btt s p y.pr := List.getElem_mem hi
  have e : (os.takeWhile fun y => !btt s p y.pr)[i]'hi = os[i]'(Nat.lt_of_lt_of_le hi (bhO_le s p os)) := (List.takeWhile_prefix _).getElem hi
  have := List.all_takeWhile (l := os) (p := fun y => !btt s p y.pr)
  rw [List.all_eq_true] at this
  have k := this _ h
  rw [e] at k
  simpa using k
theorem bhO_at {s p : Int} : ∀ {os : List Or} (h : bhO s p os < os.length), btt s p (os[bhO s p os]).pr = true
  | [], h => by simp at h
  | x :: r, h => by
    cases hx : btt s p x.pr with
    | true =>
      have e : bhO s p (x :: r) = 0 := by simp [bhO, List.takeWhile_cons, hx]
      simp [e, hx]
    | false =>
      have e : bhO s p (x :: r) = bhO s p r + 1 := by simp [bhO, List.takeWhile_cons, hx]
      have h' : bhO s p r < r.length := by rw [e] at h; simpa using h
      have := bhO_at (s := s) (p := p) (os := r) h'
      simp only [e, List.getElem_cons_succ]
      exact this
theorem stO_lt {k i : Nat} {o : Or} {os : List Or} (hi : i < os.length) (h : i < k) : stO k o os (i + 1) = stO k o os i ++ [os[i]] := by
  unfold stO
  rw [if_pos (by omega), if_pos (by omega), List.take_succ_eq_append_getElem hi]
theorem stO_gt {k i : Nat} {o : Or} {os : List Or} (hi : i < os.length) (h : k < i) : stO k o os (i + 1) = stO k o os i ++ [os[i]] := by
  unfold stO
  rw [if_neg (by omega), if_neg (by omega), show i + 1 - k = (i - k) + 1 by omega, List.take_succ_eq_append_getElem (by simp; omega)]
  simp only [List.getElem_drop, List.append_assoc, List.cons_append]
  congr 5
  omega
theorem stO_eq {i : Nat} {o : Or} {os : List Or} (hi : i < os.length) : stO i o os (i + 1) = stO i o os i ++ [o] ++ [os[i]] := by
  unfold stO
  have e : List.take 1 (List.drop i os) = [os[i]] := by rw [List.drop_eq_getElem_cons hi]; rfl
  rw [if_neg (by omega), if_pos (by omega), show i + 1 - i = 1 by omega, e]
  simp
theorem stO_len {k i : Nat} {o : Or} {os : List Or} (hi : i ≤ os.length) : (stO k o os i).length = if i ≤ k then i else i + 1 := by
  unfold stO
  split
  · simp; omega
  · simp; omega
theorem stO_end {k : Nat} {o : Or} {os : List Or} (h : k < os.length) : stO k o os os.length = inO k o os := by
  unfold stO inO
  rw [if_neg (by omega), show (os.drop k).take (os.length - k) = os.drop k from List.take_of_length_le (by simp)]
theorem stO_end' {o : Or} {os : List Or} : stO os.length o os os.length ++ [o] = inO os.length o os := by
  unfold stO inO
  simp
theorem behindL_any (p : Option Addr) (c : Nat) (os : List Or) (o : Or) (buy : Bool) (s : Int) (w : World) (hs : s = if buy = true then 1 else 2) (h : Osz w p os) (hn : os.length ≤ 1048576) :
    Calls Try.prog 19 #[.slice p os.length c, .agg (orow o), .bool buy] w fun e w' => ∃ q d, e = .returned (.slice q (os.length + 1) d) ∧ w'.ownsRow w.heap.size 50 7 (.slice q (os.length + 1) d) (os.length + 1) (ors (inO (bhO s o.pr os) o os)) ∧ Below w.heap.size w w' := by
  obtain ⟨i0, hi, hz0, hz1, hz2⟩ := info_parts info50all
  obtain ⟨n, hnn⟩ : ∃ n, os.length = n := ⟨_, rfl⟩
  obtain ⟨k, hk⟩ : ∃ k, bhO s o.pr os = k := ⟨_, rfl⟩
  have hkn : k ≤ n := by rw [← hk, ← hnn]; exact bhO_le _ _ _
  have HK := hid hk
  have HN := hid hnn
  have HO := hid h
  have HI := hid hi
  have HZ0 := hid hz0
  have HZ1 := hid hz1
  have HZ2 := hid hz2
  have HS := hid hs
  rw [hnn, hk]
  rw [hnn] at hn
  clear hk hnn h hi hz0 hz1 hz2 hs
  obtain ⟨R, hR⟩ : ∃ R, w.heap.size = R := ⟨_, rfl⟩
  have HR := hid hR
  obtain ⟨W, hW⟩ : ∃ W, w.alloc (.cells (orow o) 50) = W := ⟨_, rfl⟩
  have HW := hid hW
  have HX := hid (show W.heap[R]? = some (.cells (orow o) 50 (0, 0)) from by rw [← hW, ← hR]; exact World.alloc_heap_new _ _)
  have HB := hid (show Below w.heap.size w W from by rw [← hW]; exact ball _ _)
  clear hR hW
  unfold orow
  go_enter Try.func19, Try.ntmps19
  go_upto_region 1 with fail
  have e1 := HR.out
  rw [e1]
  have e0 := HW.out
  unfold orow at e0
  rw [e0]
  clear e0 e1
  go_wp2_with fail
  have HS0 := hid (show (W.alloc (.cells #[] 50)).ownsRow W.heap.size 50 7 (.slice (some ⟨W.heap.size, 0, none⟩) 0 0) 0 (ors (stO k o os 0)) from by
    have e : stO k o os 0 = [] := by unfold stO; simp
    rw [e]
    exact World.ownsRow_made W #[] 0 (Nat.le_refl _) (by unfold maxLen; omega) rfl)
  have HFX := hid (fun (U : World) (hU : Below W.heap.size W U) => (show U.cell? ⟨R, 0, none⟩ = some (.int .u64 o.id) ∧ U.cell? ⟨R, 1, none⟩ = some (.int .u32 o.mb) ∧ U.cell? ⟨R, 2, none⟩ = some (.int .i64 o.ty) ∧ U.cell? ⟨R, 3, none⟩ = some (.int .i64 o.pr) ∧ U.cell? ⟨R, 4, none⟩ = some (.int .u64 o.vi) ∧ U.cell? ⟨R, 5, none⟩ = some (.int .u64 o.hi) ∧ U.cell? ⟨R, 6, none⟩ = some (.int .u64 o.pk) from by
    have hr := row_on HX.out hU
    have a0 := row_cell hr 0
    have a1 := row_cell hr 1
    have a2 := row_cell hr 2
    have a3 := row_cell hr 3
    have a4 := row_cell hr 4
    have a5 := row_cell hr 5
    have a6 := row_cell hr 6
    simp only [orow, List.getElem?_toArray, List.getElem?_cons_succ, List.getElem?_cons_zero] at a0 a1 a2 a3 a4 a5 a6
    exact ⟨a0, a1, a2, a3, a4, a5, a6⟩))
  have HSRC := hid (fun (U : World) (z : Or) (cs : Array Value) (hcs : cs = orow z) => (show ∀ j u, (orow z).toList[j]? = some u → (U.alloc (.cells cs 50)).cell? ((⟨U.heap.size, 0, none⟩ : Addr).add j) = some u from fun j u hj => by
    rw [Addr.add_lit, Nat.zero_add, row_cell (World.alloc_heap_new U (.cells cs 50)), hcs]
    simpa using hj))
  go_loopw [7, 8, 9] (fun rv dv iv wr => ∃ (i m : Nat) (q : Option Addr) (d : Nat), i ≤ n ∧ iv = .int .i64 i ∧ dv = .bool (decide (k < i)) ∧ rv = .slice q m d ∧ m = (if i ≤ k then i else i + 1) ∧ Hid (wr.ownsRow W.heap.size 50 7 (.slice q m d) m (ors (stO k o os i))) ∧ Hid (Below W.heap.size W wr)) (fun _ _ iv _ => n - (intOf iv).toNat)
  case atStart => exact ⟨0, 0, _, _, Nat.zero_le _, rfl, by simp, rfl, by simp, HS0, hid (ball _ _)⟩
  case round =>
    obtain ⟨i, m, q, d, hin, rfl, rfl, rfl, hm, HOW, HBW⟩ := hrel
    by_cases hlt : i < n
    · have hil : i < os.length := by rw [HN.out]; exact hlt
      obtain ⟨z, hz⟩ : ∃ z, os[i] = z := ⟨_, rfl⟩
      have HZ := hid hz
      have HCE := hid (fun (U : World) (hU : Below W.heap.size W U) => osz_cells HO.out (btr HB.out hU) hil)
      obtain ⟨pb, po, hp, hrest⟩ := HCE.out wr HBW.out
      clear hrest
      subst hp
      have HCX := hid (fun (U : World) (hU : Below W.heap.size W U) => (show U.cell? ⟨pb, po + i * 7, none⟩ = some (.int .u64 z.id) ∧ U.cell? ⟨pb, po + i * 7 + 1, none⟩ = some (.int .u32 z.mb) ∧ U.cell? ⟨pb, po + i * 7 + 2, none⟩ = some (.int .i64 z.ty) ∧ U.cell? ⟨pb, po + i * 7 + 3, none⟩ = some (.int .i64 z.pr) ∧ U.cell? ⟨pb, po + i * 7 + 4, none⟩ = some (.int .u64 z.vi) ∧ U.cell? ⟨pb, po + i * 7 + 5, none⟩ = some (.int .u64 z.hi) ∧ U.cell? ⟨pb, po + i * 7 + 6, none⟩ = some (.int .u64 z.pk) from by
        obtain ⟨b1, o1, hq, r⟩ := HCE.out U hU
        injection hq with hq
        injection hq with e1 e2 _
        subst e1
        subst e2
        rw [hz] at r
        exact r))
      clear HCE hz
      have i0' : (0 : Int) ≤ (i : Int) := by omega
      have i1 : (i : Int) < (n : Int) := by omega
      obtain ⟨a0, a1, a2, a3, a4, a5, a6⟩ := HCX.out wr HBW.out
      obtain ⟨f0, f1, f2, f3, f4, f5, f6⟩ := HFX.out wr HBW.out
      go_upto_region 6 with fail
      go_region
      cases buy with
      | false =>
        go_upto_region 9 with fail
        obtain ⟨U, hU⟩ : ∃ U, wr.drew = U := ⟨_, rfl⟩
        have HBU := hid (show Below wr.heap.size wr U from by rw [← hU]; exact bdrew1 _)
        rw [hU]
        clear hU a0 a1 a2 a3 a4 a5 a6 f0 f1 f2 f3 f4 f5 f6
        have HOU := hid (own_on HOW.out HBU.out)
        obtain ⟨a0, a1, a2, a3, a4, a5, a6⟩ := HCX.out U (btr HBW.out HBU.out)
        obtain ⟨f0, f1, f2, f3, f4, f5, f6⟩ := HFX.out U (btr HBW.out HBU.out)
        have hsv : s = 2 := by have := HS.out; simpa using this
        have hbt : btt s o.pr z.pr = decide (o.pr < z.pr) := by rw [hsv]; simp [btt]
        have HBT := hid hbt
        clear hbt hsv
        have hszU : W.heap.size ≤ U.heap.size := (btr HBW.out HBU.out).size
        have hWB : ∀ j, W.heap.size ≤ j → w.heap.size ≤ j := fun j hj => Nat.le_trans HB.out.size hj
        rcases Nat.lt_trichotomy i k with hik | hik | hik
        · have hP : ¬ o.pr < z.pr := by
            have h1 := bhO_lt (s := s) (p := o.pr) (os := os) (i := i) (by rw [HK.out]; exact hik)
            rw [HZ.out, HBT.out] at h1
            simpa using h1
          have hdk : ¬ k < i := by omega
          have hPb : decide (o.pr < z.pr) = false := by simpa using hP
          have hdb : decide (k < i) = false := by simpa using hdk
          have HMM := hid (show m = i from by rw [hm, if_pos (by omega)])
          have hmb : m ≤ 1048577 := by have := HMM.out; omega
          clear hm
          rw [hdb]
          go_upto_region 12 with fail
          go_wp2_with (at_builtin; refine wpList_append_own _ (by rfl) (.tmp 44) (.tmp 49) 29 (by rfl) W.heap.size 50 i0 _ 7 56 Try.underlying29 HI.out HZ0.out HZ1.out HZ2.out rfl (by decide) _ m _ (by rfl) (HOU.out.alloc _) ⟨U.heap.size, 0, none⟩ 1 1 (orow z).toList (by rfl) (by simp [orow]) (HSRC.out U z _ rfl) (orow_one z) (by unfold maxLen; omega) (by omega) (by simp; omega) ?_; intro v1 w1 hown hgrow _; obtain ⟨p1, c1, hrv⟩ := own_form hown; subst hrv; have O1 := hid hown; have G1 := hid hgrow; clear hown hgrow)
          go_roundw
          case rel =>
            refine ⟨i + 1, _, p1, c1, by omega, by go_num, by simp; omega, rfl, ?_, hid ?_, hid ?_⟩
            · have := HMM.out
              split <;> omega
            · have := O1.out
              rw [stO_lt hil hik, ors_snoc, HZ.out]
              exact this
            · exact (btr (btr HBW.out HBU.out) (ball U _)).grown G1.out (Nat.le_trans (btr (btr HBW.out HBU.out) (ball U _)).size (Nat.le_refl _)) (fun j hj => (HOU.out.lt j hj).1)
          case measure => simp [intOf]; omega
        · have hP : o.pr < z.pr := by
            have h0 : bhO s o.pr os < os.length := by rw [HK.out, ← hik]; exact hil
            have h1 := bhO_at (s := s) (p := o.pr) h0
            have e : os[bhO s o.pr os]'h0 = z := by
              have : bhO s o.pr os = i := by rw [HK.out, hik]
              simp only [this]
              exact HZ.out
            rw [e, HBT.out] at h1
            simpa using h1
          have hdk : ¬ k < i := by omega
          have hPb : decide (o.pr < z.pr) = true := by simpa using hP
          have hdb : decide (k < i) = false := by simpa using hdk
          have HMM := hid (show m = i from by rw [hm, if_pos (by omega)])
          have hmb : m ≤ 1048577 := by have := HMM.out; omega
          have HIK := hid hik
          clear hm hik
          rw [hdb]
          go_upto_region 12 with (at_builtin; refine wpList_append_own _ (by rfl) (.tmp 40) (.tmp 42) 29 (by rfl) W.heap.size 50 i0 _ 7 56 Try.underlying29 HI.out HZ0.out HZ1.out HZ2.out rfl (by decide) _ m _ (by rfl) (HOU.out.alloc _) ⟨U.heap.size, 0, none⟩ 1 1 (orow o).toList (by rfl) (by simp [orow]) (HSRC.out U o _ rfl) (orow_one o) (by unfold maxLen; omega) (by omega) (by simp; omega) ?_; intro v1 w1 hown hgrow _; obtain ⟨p1, c1, hrv⟩ := own_form hown; subst hrv; have O1 := hid hown; have G1 := hid hgrow; clear hown hgrow)
          have HB1 := hid ((btr (btr HBW.out HBU.out) (ball U _)).grown G1.out (Nat.le_trans (btr (btr HBW.out HBU.out) (ball U _)).size (Nat.le_refl _)) (fun j hj => (HOU.out.lt j hj).1))
          clear a0 a1 a2 a3 a4 a5 a6 f0 f1 f2 f3 f4 f5 f6
          obtain ⟨a0, a1, a2, a3, a4, a5, a6⟩ := HCX.out w1 HB1.out
          have hsz1 : W.heap.size ≤ w1.heap.size := HB1.out.size
          go_wp2_with (at_builtin; refine wpList_append_own _ (by rfl) (.tmp 44) (.tmp 49) 29 (by rfl) W.heap.size 50 i0 _ 7 56 Try.underlying29 HI.out HZ0.out HZ1.out HZ2.out rfl (by decide) _ (m + 1) _ (by rfl) (O1.out.alloc _) ⟨w1.heap.size, 0, none⟩ 1 1 (orow z).toList (by rfl) (by simp [orow]) (HSRC.out w1 z _ rfl) (orow_one z) (by unfold maxLen; omega) (by omega) (by simp; omega) ?_; intro v1 w2 hown hgrow _; obtain ⟨p2, c2, hrv⟩ := own_form hown; subst hrv; have O2 := hid hown; have G2 := hid hgrow; clear hown hgrow)
          go_roundw
          case rel =>
            refine ⟨i + 1, _, p2, c2, by omega, by go_num, by have := HIK.out; simp; omega, rfl, ?_, hid ?_, hid ?_⟩
            · have := HMM.out
              have := HIK.out
              split <;> omega
            · have := O2.out
              have e := stO_eq (o := o) hil
              have hik := HIK.out
              rw [← hik, e, ors_snoc, ors_snoc, HZ.out]
              rw [← hik] at this
              exact this
            · exact (btr HB1.out (ball w1 _)).grown G2.out (Nat.le_trans (btr HB1.out (ball w1 _)).size (Nat.le_refl _)) (fun j hj => (O1.out.lt j hj).1)
          case measure => simp [intOf]; omega
        · have hdk : k < i := hik
          have HMM := hid (show m = i + 1 from by rw [hm, if_neg (by omega)])
          have hmb : m ≤ 1048577 := by have := HMM.out; omega
          have hdb : decide (k < i) = true := by simpa using hdk
          clear hm
          rw [hdb]
          by_cases hP : o.pr < z.pr
          · have hPb : decide (o.pr < z.pr) = true := by simpa using hP
            go_upto_region 12 with fail
            go_wp2_with (at_builtin; refine wpList_append_own _ (by rfl) (.tmp 44) (.tmp 49) 29 (by rfl) W.heap.size 50 i0 _ 7 56 Try.underlying29 HI.out HZ0.out HZ1.out HZ2.out rfl (by decide) _ m _ (by rfl) (HOU.out.alloc _) ⟨U.heap.size, 0, none⟩ 1 1 (orow z).toList (by rfl) (by simp [orow]) (HSRC.out U z _ rfl) (orow_one z) (by unfold maxLen; omega) (by omega) (by simp; omega) ?_; intro v1 w1 hown hgrow _; obtain ⟨p1, c1, hrv⟩ := own_form hown; subst hrv; have O1 := hid hown; have G1 := hid hgrow; clear hown hgrow)
            go_roundw
            case rel =>
              refine ⟨i + 1, _, p1, c1, by omega, by go_num, by simp; omega, rfl, ?_, hid ?_, hid ?_⟩
              · have := HMM.out
                split <;> omega
              · have := O1.out
                rw [stO_gt hil hik, ors_snoc, HZ.out]
                exact this
              · exact (btr (btr HBW.out HBU.out) (ball U _)).grown G1.out (Nat.le_trans (btr (btr HBW.out HBU.out) (ball U _)).size (Nat.le_refl _)) (fun j hj => (HOU.out.lt j hj).1)
            case measure => simp [intOf]; omega
          · have hPb : decide (o.pr < z.pr) = false := by simpa using hP
            go_upto_region 12 with fail
            go_wp2_with (at_builtin; refine wpList_append_own _ (by rfl) (.tmp 44) (.tmp 49) 29 (by rfl) W.heap.size 50 i0 _ 7 56 Try.underlying29 HI.out HZ0.out HZ1.out HZ2.out rfl (by decide) _ m _ (by rfl) (HOU.out.alloc _) ⟨U.heap.size, 0, none⟩ 1 1 (orow z).toList (by rfl) (by simp [orow]) (HSRC.out U z _ rfl) (orow_one z) (by unfold maxLen; omega) (by omega) (by simp; omega) ?_; intro v1 w1 hown hgrow _; obtain ⟨p1, c1, hrv⟩ := own_form hown; subst hrv; have O1 := hid hown; have G1 := hid hgrow; clear hown hgrow)
            go_roundw
            case rel =>
              refine ⟨i + 1, _, p1, c1, by omega, by go_num, by simp; omega, rfl, ?_, hid ?_, hid ?_⟩
              · have := HMM.out
                split <;> omega
              · have := O1.out
                rw [stO_gt hil hik, ors_snoc, HZ.out]
                exact this
              · exact (btr (btr HBW.out HBU.out) (ball U _)).grown G1.out (Nat.le_trans (btr (btr HBW.out HBU.out) (ball U _)).size (Nat.le_refl _)) (fun j hj => (HOU.out.lt j hj).1)
            case measure => simp [intOf]; omega
      | true =>
        go_upto_region 8 with fail
        go_region
        go_upto_region 9 with fail
        obtain ⟨U, hU⟩ : ∃ U, wr.drew.drew = U := ⟨_, rfl⟩
        have HBU := hid (show Below wr.heap.size wr U from by rw [← hU]; exact btr (bdrew1 _) (bdrew1 _))
        rw [hU]
        clear hU a0 a1 a2 a3 a4 a5 a6 f0 f1 f2 f3 f4 f5 f6
        have HOU := hid (own_on HOW.out HBU.out)
        obtain ⟨a0, a1, a2, a3, a4, a5, a6⟩ := HCX.out U (btr HBW.out HBU.out)
        obtain ⟨f0, f1, f2, f3, f4, f5, f6⟩ := HFX.out U (btr HBW.out HBU.out)
        have hsv : s = 1 := by have := HS.out; simpa using this
        have hbt : btt s o.pr z.pr = decide (z.pr < o.pr) := by rw [hsv]; simp [btt]
        have HBT := hid hbt
        clear hbt hsv
        have hszU : W.heap.size ≤ U.heap.size := (btr HBW.out HBU.out).size
        have hWB : ∀ j, W.heap.size ≤ j → w.heap.size ≤ j := fun j hj => Nat.le_trans HB.out.size hj
        rcases Nat.lt_trichotomy i k with hik | hik | hik
        · have hP : ¬ z.pr < o.pr := by
            have h1 := bhO_lt (s := s) (p := o.pr) (os := os) (i := i) (by rw [HK.out]; exact hik)
            rw [HZ.out, HBT.out] at h1
            simpa using h1
          have hdk : ¬ k < i := by omega
          have hPb : decide (z.pr < o.pr) = false := by simpa using hP
          have hdb : decide (k < i) = false := by simpa using hdk
          have HMM := hid (show m = i from by rw [hm, if_pos (by omega)])
          have hmb : m ≤ 1048577 := by have := HMM.out; omega
          clear hm
          rw [hdb]
          go_upto_region 12 with fail
          go_wp2_with (at_builtin; refine wpList_append_own _ (by rfl) (.tmp 44) (.tmp 49) 29 (by rfl) W.heap.size 50 i0 _ 7 56 Try.underlying29 HI.out HZ0.out HZ1.out HZ2.out rfl (by decide) _ m _ (by rfl) (HOU.out.alloc _) ⟨U.heap.size, 0, none⟩ 1 1 (orow z).toList (by rfl) (by simp [orow]) (HSRC.out U z _ rfl) (orow_one z) (by unfold maxLen; omega) (by omega) (by simp; omega) ?_; intro v1 w1 hown hgrow _; obtain ⟨p1, c1, hrv⟩ := own_form hown; subst hrv; have O1 := hid hown; have G1 := hid hgrow; clear hown hgrow)
          go_roundw
          case rel =>
            refine ⟨i + 1, _, p1, c1, by omega, by go_num, by simp; omega, rfl, ?_, hid ?_, hid ?_⟩
            · have := HMM.out
              split <;> omega
            · have := O1.out
              rw [stO_lt hil hik, ors_snoc, HZ.out]
              exact this
            · exact (btr (btr HBW.out HBU.out) (ball U _)).grown G1.out (Nat.le_trans (btr (btr HBW.out HBU.out) (ball U _)).size (Nat.le_refl _)) (fun j hj => (HOU.out.lt j hj).1)
          case measure => simp [intOf]; omega
        · have hP : z.pr < o.pr := by
            have h0 : bhO s o.pr os < os.length := by rw [HK.out, ← hik]; exact hil
            have h1 := bhO_at (s := s) (p := o.pr) h0
            have e : os[bhO s o.pr os]'h0 = z := by
              have : bhO s o.pr os = i := by rw [HK.out, hik]
              simp only [this]
              exact HZ.out
            rw [e, HBT.out] at h1
            simpa using h1
          have hdk : ¬ k < i := by omega
          have hPb : decide (z.pr < o.pr) = true := by simpa using hP
          have hdb : decide (k < i) = false := by simpa using hdk
          have HMM := hid (show m = i from by rw [hm, if_pos (by omega)])
          have hmb : m ≤ 1048577 := by have := HMM.out; omega
          have HIK := hid hik
          clear hm hik
          rw [hdb]
          go_upto_region 12 with (at_builtin; refine wpList_append_own _ (by rfl) (.tmp 40) (.tmp 42) 29 (by rfl) W.heap.size 50 i0 _ 7 56 Try.underlying29 HI.out HZ0.out HZ1.out HZ2.out rfl (by decide) _ m _ (by rfl) (HOU.out.alloc _) ⟨U.heap.size, 0, none⟩ 1 1 (orow o).toList (by rfl) (by simp [orow]) (HSRC.out U o _ rfl) (orow_one o) (by unfold maxLen; omega) (by omega) (by simp; omega) ?_; intro v1 w1 hown hgrow _; obtain ⟨p1, c1, hrv⟩ := own_form hown; subst hrv; have O1 := hid hown; have G1 := hid hgrow; clear hown hgrow)
          have HB1 := hid ((btr (btr HBW.out HBU.out) (ball U _)).grown G1.out (Nat.le_trans (btr (btr HBW.out HBU.out) (ball U _)).size (Nat.le_refl _)) (fun j hj => (HOU.out.lt j hj).1))
          clear a0 a1 a2 a3 a4 a5 a6 f0 f1 f2 f3 f4 f5 f6
          obtain ⟨a0, a1, a2, a3, a4, a5, a6⟩ := HCX.out w1 HB1.out
          have hsz1 : W.heap.size ≤ w1.heap.size := HB1.out.size
          go_wp2_with (at_builtin; refine wpList_append_own _ (by rfl) (.tmp 44) (.tmp 49) 29 (by rfl) W.heap.size 50 i0 _ 7 56 Try.underlying29 HI.out HZ0.out HZ1.out HZ2.out rfl (by decide) _ (m + 1) _ (by rfl) (O1.out.alloc _) ⟨w1.heap.size, 0, none⟩ 1 1 (orow z).toList (by rfl) (by simp [orow]) (HSRC.out w1 z _ rfl) (orow_one z) (by unfold maxLen; omega) (by omega) (by simp; omega) ?_; intro v1 w2 hown hgrow _; obtain ⟨p2, c2, hrv⟩ := own_form hown; subst hrv; have O2 := hid hown; have G2 := hid hgrow; clear hown hgrow)
          go_roundw
          case rel =>
            refine ⟨i + 1, _, p2, c2, by omega, by go_num, by have := HIK.out; simp; omega, rfl, ?_, hid ?_, hid ?_⟩
            · have := HMM.out
              have := HIK.out
              split <;> omega
            · have := O2.out
              have e := stO_eq (o := o) hil
              have hik := HIK.out
              rw [← hik, e, ors_snoc, ors_snoc, HZ.out]
              rw [← hik] at this
              exact this
            · exact (btr HB1.out (ball w1 _)).grown G2.out (Nat.le_trans (btr HB1.out (ball w1 _)).size (Nat.le_refl _)) (fun j hj => (O1.out.lt j hj).1)
          case measure => simp [intOf]; omega
        · have hdk : k < i := hik
          have HMM := hid (show m = i + 1 from by rw [hm, if_neg (by omega)])
          have hmb : m ≤ 1048577 := by have := HMM.out; omega
          have hdb : decide (k < i) = true := by simpa using hdk
          clear hm
          rw [hdb]
          by_cases hP : z.pr < o.pr
          · have hPb : decide (z.pr < o.pr) = true := by simpa using hP
            go_upto_region 12 with fail
            go_wp2_with (at_builtin; refine wpList_append_own _ (by rfl) (.tmp 44) (.tmp 49) 29 (by rfl) W.heap.size 50 i0 _ 7 56 Try.underlying29 HI.out HZ0.out HZ1.out HZ2.out rfl (by decide) _ m _ (by rfl) (HOU.out.alloc _) ⟨U.heap.size, 0, none⟩ 1 1 (orow z).toList (by rfl) (by simp [orow]) (HSRC.out U z _ rfl) (orow_one z) (by unfold maxLen; omega) (by omega) (by simp; omega) ?_; intro v1 w1 hown hgrow _; obtain ⟨p1, c1, hrv⟩ := own_form hown; subst hrv; have O1 := hid hown; have G1 := hid hgrow; clear hown hgrow)
            go_roundw
            case rel =>
              refine ⟨i + 1, _, p1, c1, by omega, by go_num, by simp; omega, rfl, ?_, hid ?_, hid ?_⟩
              · have := HMM.out
                split <;> omega
              · have := O1.out
                rw [stO_gt hil hik, ors_snoc, HZ.out]
                exact this
              · exact (btr (btr HBW.out HBU.out) (ball U _)).grown G1.out (Nat.le_trans (btr (btr HBW.out HBU.out) (ball U _)).size (Nat.le_refl _)) (fun j hj => (HOU.out.lt j hj).1)
            case measure => simp [intOf]; omega
          · have hPb : decide (z.pr < o.pr) = false := by simpa using hP
            go_upto_region 12 with fail
            go_wp2_with (at_builtin; refine wpList_append_own _ (by rfl) (.tmp 44) (.tmp 49) 29 (by rfl) W.heap.size 50 i0 _ 7 56 Try.underlying29 HI.out HZ0.out HZ1.out HZ2.out rfl (by decide) _ m _ (by rfl) (HOU.out.alloc _) ⟨U.heap.size, 0, none⟩ 1 1 (orow z).toList (by rfl) (by simp [orow]) (HSRC.out U z _ rfl) (orow_one z) (by unfold maxLen; omega) (by omega) (by simp; omega) ?_; intro v1 w1 hown hgrow _; obtain ⟨p1, c1, hrv⟩ := own_form hown; subst hrv; have O1 := hid hown; have G1 := hid hgrow; clear hown hgrow)
            go_roundw
            case rel =>
              refine ⟨i + 1, _, p1, c1, by omega, by go_num, by simp; omega, rfl, ?_, hid ?_, hid ?_⟩
              · have := HMM.out
                split <;> omega
              · have := O1.out
                rw [stO_gt hil hik, ors_snoc, HZ.out]
                exact this
              · exact (btr (btr HBW.out HBU.out) (ball U _)).grown G1.out (Nat.le_trans (btr (btr HBW.out HBU.out) (ball U _)).size (Nat.le_refl _)) (fun j hj => (HOU.out.lt j hj).1)
            case measure => simp [intOf]; omega
    · obtain rfl : i = n := by omega
      obtain ⟨f0, f1, f2, f3, f4, f5, f6⟩ := HFX.out wr HBW.out
      by_cases hkn' : k < i
      · have HMM := hid (show m = i + 1 from by rw [hm, if_neg (by omega)])
        have hdb : decide (k < i) = true := by simpa using hkn'
        clear hm
        rw [hdb]
        go_wp2
        go_ret
        have e := HMM.out
        subst e
        refine ⟨q, d, rfl, own_base ?_ HB.out.size, btr HB.out HBW.out⟩
        have := HOW.out
        rw [← HN.out, stO_end (by rw [HN.out]; exact hkn')] at this
        rw [← HN.out]
        exact this
      · have HMM := hid (show m = i from by rw [hm, if_pos (by omega)])
        have hmb : m ≤ 1048577 := by have := HMM.out; omega
        have hdb : decide (k < i) = false := by simpa using hkn'
        have hszU : W.heap.size ≤ wr.heap.size := HBW.out.size
        clear hm
        rw [hdb]
        go_wp2_with (at_builtin; refine wpList_append_own _ (by rfl) (.tmp 53) (.tmp 55) 29 (by rfl) W.heap.size 50 i0 _ 7 56 Try.underlying29 HI.out HZ0.out HZ1.out HZ2.out rfl (by decide) _ m _ (by rfl) (HOW.out.alloc _) ⟨wr.heap.size, 0, none⟩ 1 1 (orow o).toList (by rfl) (by simp [orow]) (HSRC.out wr o _ rfl) (orow_one o) (by unfold maxLen; omega) (by omega) (by simp; omega) ?_; intro v1 w1 hown hgrow _; obtain ⟨p1, c1, hrv⟩ := own_form hown; subst hrv; have O1 := hid hown; have G1 := hid hgrow; clear hown hgrow)
        go_ret
        have e := HMM.out
        subst e
        refine ⟨p1, c1, rfl, own_base ?_ HB.out.size, btr HB.out ((btr HBW.out (ball wr _)).grown G1.out (Nat.le_trans HBW.out.size (by simp)) (fun j hj => (HOW.out.lt j hj).1))⟩
        have := O1.out
        have hk' : k = os.length := by rw [HN.out]; omega
        have e2 : stO k o os m ++ [o] = inO k o os := by
          have hm2 : m = os.length := by rw [HN.out]
          rw [hk', hm2]
          exact stO_end'
        rw [← ors_snoc, e2] at this
        exact this
end Go.Proofs.Ytalgndgoedlpoaa
