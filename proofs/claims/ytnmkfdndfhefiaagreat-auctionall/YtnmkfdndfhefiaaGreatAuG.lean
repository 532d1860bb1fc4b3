/-
  What each price that may be chosen comes to.
-/
import Derived.Test.YtnmkfdndfhefiaaGreatAuF
namespace Go.Proofs.YtnmkfdndfhefiaaGreat
open Go.RowKit Go.Deep Go.Sort
set_option linter.unusedVariables false
set_option linter.unusedSimpArgs false
set_option maxHeartbeats 4000000
set_option maxRecDepth 100000
def qs (l : List Qt) : List Value := l.flatMap fun x => (qrow x).toList
theorem qs_len (l : List Qt) : (qs l).length = l.length * 5 := by
  induction l with
  | nil => rfl
  | cons x l ih => simp only [qs, List.flatMap_cons, List.length_append, List.length_cons] at ih ⊢; rw [ih]; simp [qrow]; omega
theorem qs_get {l : List Qt} {i j : Nat} (hi : i < l.length) (hj : j < 5) : (qs l)[i * 5 + j]? = (qrow l[i]).toList[j]? := by
  induction l generalizing i with
  | nil => simp at hi
  | cons x l ih =>
    have hx : (qrow x).toList.length = 5 := rfl
    cases i with
    | zero =>
      simp only [qs, List.flatMap_cons, Nat.zero_mul, Nat.zero_add, List.getElem_cons_zero]
      rw [List.getElem?_append_left (by rw [hx]; omega)]
    | succ i =>
      have := ih (i := i) (by simpa using hi)
      simp only [qs, List.flatMap_cons, List.getElem_cons_succ] at this ⊢
      rw [List.getElem?_append_right (by rw [hx]; omega), hx, show (i + 1) * 5 + j - 5 = i * 5 + j by omega]
      exact this
theorem qrow_one (x : Qt) : ∀ u ∈ (qrow x).toList, u.oneCell' = true := by
  intro v hv
  simp only [qrow, List.mem_cons, List.not_mem_nil, or_false] at hv
  rcases hv with rfl | rfl | rfl | rfl | rfl <;> rfl
theorem qs_one (l : List Qt) : ∀ u ∈ qs l, u.oneCell' = true := by
  intro u hu
  simp only [qs, List.mem_flatMap] at hu
  obtain ⟨x, _, hx⟩ := hu
  exact qrow_one x u hx
theorem qs_app (a b : List Qt) : qs (a ++ b) = qs a ++ qs b := by simp [qs]
theorem qs_one1 (x : Qt) : qs [x] = (qrow x).toList := by simp [qs]
/-- quotes in a slice of one's own. -/
def Qs (base : Nat) (w : World) (p : Option Addr) (c : Nat) (l : List Qt) : Prop := w.ownsRow base 57 5 (.slice p l.length c) l.length (qs l)
theorem Qs.on {base : Nat} {w w' : World} {p : Option Addr} {c : Nat} {l : List Qt} (h : Qs base w p c l) (hb : Below w.heap.size w w') : Qs base w' p c l := own_on h hb
theorem infoQt : (Tryz.prog.info? 57).map (fun i => (i.zero, i.size, i.bytes)) = some (some (.agg #[.int .i64 0, .int .u64 0, .int .u64 0, .int .i64 0, .int .i64 0]), 5, 40) := by kernel_rfl
/-- what may be chosen. -/
def cds (r : Int) (b s : List It) : List Qt := (pcs r b s).map fun p => qAt p (wd p b) (wd p s)
theorem pcs_len {r : Int} {b s : List It} (h1 : Sd 1 b) (h2 : Sd 2 s) : (pcs r b s).length ≤ 8193 := by
  have a := cpt_le (srt (r :: lp b ++ lp s))
  rw [srt_len] at a
  have a1 := lp_le b
  have a2 := lp_le s
  have a3 := h1.ln
  have a4 := h2.ln
  unfold pcs
  simp only [List.length_append, List.length_cons] at a
  omega
theorem made5 (U : World) (z : Qt) : (U.alloc (.cells #[.int .i64 z.pr, .int .u64 z.vo, .int .u64 z.su, .int .i64 z.sd, .int .i64 z.ru] 57)).ownsRow 0 57 5 (.slice (some ⟨U.heap.size, 0, none⟩) 1 1) 1 (qrow z).toList :=
  ⟨rfl, .inr ⟨U.heap.size, 1, #[.int .i64 z.pr, .int .u64 z.vo, .int .u64 z.su, .int .i64 z.sd, .int .i64 z.ru], rfl, Nat.zero_le _, World.alloc_heap_new _ _, Nat.le_refl _, by unfold maxLen; omega, rfl, rfl⟩⟩
theorem Sd.wd {s p : Int} {l : List It} (h : Sd s l) : 0 ≤ Go.Proofs.YtnmkfdndfhefiaaGreat.wd p l ∧ Go.Proofs.YtnmkfdndfhefiaaGreat.wd p l ≤ 17592186044416 := h.tot _
theorem own_ge {base : Nat} {w : World} {e : TypeId} {size n : Nat} {v : Value} {xs : List Value} (h : w.ownsRow base e size v n xs) {k : Nat} (hk : v.ownBlock = some k) : base ≤ k := by
  obtain ⟨_, ⟨e5, _⟩ | ⟨g', c', cur, e5, r1, _⟩⟩ := h
  · rw [e5] at hk; cases hk
  · rw [e5] at hk; cases hk; exact r1
theorem candidates_any (B : Nat) (r m : Int) (p1 : Option Addr) (c1 : Nat) (b : List It) (p2 : Option Addr) (c2 : Nat) (s : List It) (w : World) (h : Cl w B r m p1 c1 b p2 c2 s) :
    Calls Tryz.prog 36 #[.pointer (some ⟨B, 0, none⟩)] w fun e w' => ∃ p c, e = .returned (.slice p (cds r b s).length c) ∧ Qs w.heap.size w' p c (cds r b s) ∧ Below w.heap.size w w' := by
  have hP := pcs_len (r := r) h.s1 h.s2
  have HC := hid h
  have sB := row_lt h.row
  have hb := h.s1.ln
  have hs := h.s2.ln
  obtain ⟨k0, k1, k2, k3⟩ := h.cells
  have O1 := hid (fun U => (of1 B U).mono (R' := fun e w' => e = .returned (.pointer (some ⟨B, 2, none⟩)) ∧ U = w') (fun e w' h => ⟨h.1, h.2.symm⟩))
  have O2 := hid (fun U => (of2 B U).mono (R' := fun e w' => e = .returned (.pointer (some ⟨B, 3, none⟩)) ∧ U = w') (fun e w' h => ⟨h.1, h.2.symm⟩))
  have CS1 := hid (fun U (hU : Below w.heap.size w U) => (sums_any 1 p1 c1 b U (h.l1.on hU) h.s1).mono (R' := fun e w' => ∃ p d, e = .returned (.slice p (b.length + 1) d) ∧ Hid (w'.ownsRow w.heap.size 32 1 (.slice p (b.length + 1) d) (b.length + 1) (sms b b.length)) ∧ Hid (Below w.heap.size w w') ∧ Hid (Below U.heap.size U w')) (fun e w' h => by obtain ⟨p, d, h1, h2, h3⟩ := h; exact ⟨p, d, h1, hid (own_base h2 hU.size), hid (btr hU h3), hid h3⟩))
  have CS2 := hid (fun U (hU : Below w.heap.size w U) => (sums_any 2 p2 c2 s U (h.l2.on hU) h.s2).mono (R' := fun e w' => ∃ p d, e = .returned (.slice p (s.length + 1) d) ∧ Hid (w'.ownsRow w.heap.size 32 1 (.slice p (s.length + 1) d) (s.length + 1) (sms s s.length)) ∧ Hid (Below w.heap.size w w') ∧ Hid (Below U.heap.size U w')) (fun e w' h => by obtain ⟨p, d, h1, h2, h3⟩ := h; exact ⟨p, d, h1, hid (own_base h2 hU.size), hid (btr hU h3), hid h3⟩))
  obtain ⟨n1, hn1⟩ : ∃ n, b.length = n := ⟨_, rfl⟩
  obtain ⟨n2, hn2⟩ : ∃ n, s.length = n := ⟨_, rfl⟩
  have HN1 := hid hn1
  have HN2 := hid hn2
  rw [hn1] at k2 hb CS1
  rw [hn2] at k3 hs CS2
  have HS := hid (show ∀ U, Below w.heap.size w U → U.cell? ⟨B, 2, none⟩ = some (.slice p1 n1 c1) ∧ U.cell? ⟨B, 3, none⟩ = some (.slice p2 n2 c2) from fun U hU => ⟨(hU.cell (p := ⟨B, 2, none⟩) sB).trans k2, (hU.cell (p := ⟨B, 3, none⟩) sB).trans k3⟩)
  clear h hn1 hn2 k0 k1
  go_enter Tryz.func36, Tryz.ntmps36
  go_upto_region 2 with (first | (go_at_call 30; with_reducible refine (O1.out _).mono ?_; rintro e w1 ⟨rfl, rfl⟩) | (go_at_call 30; with_reducible refine (O2.out _).mono ?_; rintro e w1 ⟨rfl, rfl⟩))
  go_region_held3 (fun U => U.cell? ⟨B, 2, none⟩ = some (.slice p1 n1 c1) ∧ U.cell? ⟨B, 3, none⟩ = some (.slice p2 n2 c2)) (go_keep) (first | (go_at_call 60; with_reducible refine (CS1.out _ (by first | exact bdrew1 w | exact HB6.out)).mono ?_; rintro e w5 ⟨p5, d5, rfl, HO5, HB5, HU5⟩; obtain ⟨k2, k3⟩ := HS.out w5 HB5.out) | (go_at_call 60; with_reducible refine (CS2.out _ (by first | exact bdrew1 w | exact HB5.out)).mono ?_; rintro e w6 ⟨p6, d6, rfl, HO6, HB6, HU6⟩; obtain ⟨k2, k3⟩ := HS.out w6 HB6.out))
  have HO5' := hid (own_on HO5.out HU6.out)
  have CP := hid (prices_any B r m p1 c1 b p2 c2 s w6 (HC.out.on HB6.out))
  obtain ⟨np, hnp⟩ : ∃ n, (pcs r b s).length = n := ⟨_, rfl⟩
  have HNP := hid hnp
  rw [hnp] at CP hP
  clear hnp k2 k3
  go_wp2_with (go_at_call 61; with_reducible refine (CP.out).mono ?_; rintro e X ⟨pp, cp, rfl, hop, hbx⟩; have HOP := hid hop; have HBX := hid hbx; clear hop hbx)
  have HK := hid (show ∀ U, Below X.heap.size X U → Below w.heap.size w U ∧ Below w6.heap.size w6 U from fun U hU => ⟨btr (btr HB6.out HBX.out) hU, btr HBX.out hU⟩)
  have hXw : w.heap.size ≤ X.heap.size := Nat.le_trans HB6.out.size HBX.out.size
  go_loopw [25, 7] (fun iv lv wr => ∃ (i : Nat) (p : Option Addr) (d : Nat), i ≤ np ∧ iv = .int .i64 i ∧ lv = .slice p i d ∧ Hid (wr.ownsRow X.heap.size 57 5 (.slice p i d) i (qs ((cds r b s).take i))) ∧ Hid (Below X.heap.size X wr)) (fun iv _ _ => np - (intOf iv).toNat)
  case atStart => exact ⟨0, none, 0, Nat.zero_le _, rfl, rfl, hid ⟨rfl, .inl ⟨rfl, rfl⟩⟩, hid (Below.refl _ _)⟩
  case round =>
    obtain ⟨i, p, d, hin, rfl, rfl, HQ, HB⟩ := hrel
    by_cases hlt : i < np
    · have hi : i < (pcs r b s).length := by rw [HNP.out]; exact hlt
      have hi2 : i < (cds r b s).length := by unfold cds; rw [List.length_map]; exact hi
      have hop := HOP.out.on HB.out
      unfold OwI at hop
      obtain ⟨gp, hpp, hgp1, hgp2, hcp⟩ := own_at hop (k := i) (v := .int .i64 (pcs r b s)[i]) (by simp [hi])
      subst hpp
      have HTK := hid (show (cds r b s).take (i + 1) = (cds r b s).take i ++ [qAt (pcs r b s)[i] (wd (pcs r b s)[i] b) (wd (pcs r b s)[i] s)] by rw [List.take_succ_eq_append_getElem hi2]; simp [cds])
      obtain ⟨y, hy⟩ : ∃ y, (pcs r b s)[i] = y := ⟨_, rfl⟩
      rw [hy] at hcp HTK
      have hw1 : wl y b ≤ b.length := tw_le _ _
      have hw2 : wl y s ≤ s.length := tw_le _ _
      rw [HN1.out] at hw1
      rw [HN2.out] at hw2
      have hx1 := HC.out.s1.wd (p := y)
      have hx2 := HC.out.s2.wd (p := y)
      obtain ⟨g5, h5, hg5, hl5, hc5⟩ := own_at (own_on HO5'.out (HK.out wr HB.out).2) (sms_get hw1)
      obtain ⟨g6, h6, hg6, hl6, hc6⟩ := own_at (own_on HO6.out (HK.out wr HB.out).2) (sms_get hw2)
      subst h5
      subst h6
      have hl5X : g5 < X.heap.size := by obtain ⟨_, e, _, h, _⟩ := own_at (own_on HO5'.out HBX.out) (sms_get hw1); injection e with e; injection e with e; rw [e]; exact h
      have hl6X : g6 < X.heap.size := by obtain ⟨_, e, _, h, _⟩ := own_at (own_on HO6.out HBX.out) (sms_get hw2); injection e with e; injection e with e; rw [e]; exact h
      have sBX : B < X.heap.size := Nat.lt_of_lt_of_le sB hXw
      have CW1 := hid (fun U (hU : Below wr.heap.size wr U) => on_b (willing_any 1 y p1 c1 b U (HC.out.l1.on (btr (HK.out wr HB.out).1 hU)) HC.out.s1) hU)
      have CW2 := hid (fun U (hU : Below wr.heap.size wr U) => on_b (willing_any 2 y p2 c2 s U (HC.out.l2.on (btr (HK.out wr HB.out).1 hU)) HC.out.s2) hU)
      rw [show tot (b.take (wl y b)) = wd y b from rfl] at hc5
      rw [show tot (s.take (wl y s)) = wd y s from rfl] at hc6
      have CQ := hid (fun U (hU : Below wr.heap.size wr U) => on_b (quoteAt_any y (wd y b) (wd y s) U hx1.1 hx2.1 hx1.2 hx2.2) hU)
      obtain ⟨z, hz⟩ : ∃ z, qAt y (wd y b) (wd y s) = z := ⟨_, rfl⟩
      rw [hz] at CQ HTK
      obtain ⟨x1, hx1'⟩ : ∃ x, wd y b = x := ⟨_, rfl⟩
      obtain ⟨x2, hx2'⟩ : ∃ x, wd y s = x := ⟨_, rfl⟩
      obtain ⟨m1, hm1⟩ : ∃ x, wl y b = x := ⟨_, rfl⟩
      obtain ⟨m2, hm2⟩ : ∃ x, wl y s = x := ⟨_, rfl⟩
      rw [hx1'] at CQ hc5
      rw [hx2'] at CQ hc6
      rw [hm1] at CW1 hc5 hw1
      rw [hm2] at CW2 hc6 hw2
      rw [HN1.out] at CW1
      rw [HN2.out] at CW2
      unfold qrow at CQ
      have HSX := hid (show ∀ U, Below X.heap.size X U → U.cell? ⟨B, 2, none⟩ = some (.slice p1 n1 c1) ∧ U.cell? ⟨B, 3, none⟩ = some (.slice p2 n2 c2) ∧ U.cell? ⟨g5, m1, none⟩ = some (.int .u64 x1) ∧ U.cell? ⟨g6, m2, none⟩ = some (.int .u64 x2) from fun U hU => by
        obtain ⟨e1, e2⟩ := HS.out U (HK.out U hU).1
        have f5 : X.cell? ⟨g5, m1, none⟩ = some (.int .u64 x1) := (HB.out.cell (p := ⟨g5, m1, none⟩) hl5X).symm.trans hc5
        have f6 : X.cell? ⟨g6, m2, none⟩ = some (.int .u64 x2) := (HB.out.cell (p := ⟨g6, m2, none⟩) hl6X).symm.trans hc6
        exact ⟨e1, e2, (hU.cell (p := ⟨g5, m1, none⟩) hl5X).trans f5, (hU.cell (p := ⟨g6, m2, none⟩) hl6X).trans f6⟩)
      have i0 : (0 : Int) ≤ (i : Int) := by omega
      have i1 : (i : Int) < (np : Int) := by omega
      have j0 : (0 : Int) ≤ (m1 : Int) := by omega
      have j1 : (m1 : Int) < (n1 : Int) + 1 := by omega
      have l0 : (0 : Int) ≤ (m2 : Int) := by omega
      have l1 : (m2 : Int) < (n2 : Int) + 1 := by omega
      have HOWN := hid (fun U (hU : Below wr.heap.size wr U) => own_on HQ.out hU)
      have hwrX := HB.out.size
      clear hz hx1' hx2' hm1 hm2 hy hx1 hx2 hop hc5 hc6 hi2 hi
      go_upto_region 7 with fail
      obtain ⟨k2, k3, k4, k5⟩ := HSX.out wr HB.out
      go_region_held3 (fun U => U.cell? ⟨B, 2, none⟩ = some (.slice p1 n1 c1) ∧ U.cell? ⟨B, 3, none⟩ = some (.slice p2 n2 c2) ∧ U.cell? ⟨g5, m1, none⟩ = some (.int .u64 x1) ∧ U.cell? ⟨g6, m2, none⟩ = some (.int .u64 x2)) (go_keep) (first | (go_at_call 56; with_reducible refine (CW1.out _ (bdrew1 wr)).mono ?_; rintro e v1 ⟨rfl, V1⟩; obtain ⟨k2, k3, k4, k5⟩ := HSX.out v1 (btr HB.out V1.out)) | (go_at_call 56; with_reducible refine (CW2.out _ V1.out).mono ?_; rintro e v2 ⟨rfl, V2⟩; obtain ⟨k2, k3, k4, k5⟩ := HSX.out v2 (btr HB.out V2.out)) | (go_at_call 62; with_reducible refine (CQ.out _ V2.out).mono ?_; rintro e v3 ⟨rfl, V3⟩; obtain ⟨k2, k3, k4, k5⟩ := HSX.out v3 (btr HB.out V3.out); have b3 : B < v3.heap.size := Nat.lt_of_lt_of_le sBX (Nat.le_trans hwrX V3.out.size); have b5 : g5 < v3.heap.size := Nat.lt_of_lt_of_le hl5X (Nat.le_trans hwrX V3.out.size); have b6 : g6 < v3.heap.size := Nat.lt_of_lt_of_le hl6X (Nat.le_trans hwrX V3.out.size); have bs : X.heap.size ≤ v3.heap.size := Nat.le_trans hwrX V3.out.size) | (refine step_app_mine (by rfl) (.tmp 29) (.tmp 48) 81 57 _ 5 40 (by rfl) Tryz.underlying81 infoQt rfl (by decide) X.heap.size 0 _ i _ (by rfl) (HOWN.out _ (btr V3.out (ball _ _))) ⟨v3.heap.size, 0, none⟩ 1 1 _ (by rfl) (made5 v3 z) (qrow_one z) (by unfold maxLen; omega) (by omega) (by simp; omega) ?_; intro v' w' hown hgrow; obtain ⟨p9, q9, rfl⟩ := own_form hown; have HO1 := hid hown; have HG1 := hid (show Below X.heap.size X w' from ((btr HB.out (btr V3.out (ball _ _))).grown hgrow (by simp; omega) (fun k hk => own_ge HQ.out hk))); obtain ⟨k2, k3, k4, k5⟩ := HSX.out w' HG1.out; clear hown hgrow))
      go_wp2
      go_roundw
      case rel =>
        have hO := HO1.out
        rw [← qs_one1, ← qs_app, ← HTK.out] at hO
        exact ⟨i + 1, p9, q9, by omega, by go_num, rfl, hid hO, HG1⟩
      case measure => simp [intOf]; omega
    · obtain rfl : i = np := by omega
      go_wp2
      go_ret
      have e1 : (cds r b s).length = i := by unfold cds; rw [List.length_map]; exact HNP.out
      have hQ := HQ.out
      rw [List.take_of_length_le (by rw [e1]; exact Nat.le_refl _)] at hQ
      exact ⟨p, d, by rw [e1]; rfl, by unfold Qs; rw [e1]; exact own_base hQ hXw, (HK.out wr HB.out).1⟩
end Go.Proofs.YtnmkfdndfhefiaaGreat
