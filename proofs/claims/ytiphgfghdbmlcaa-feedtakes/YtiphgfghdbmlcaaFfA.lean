/-
  The law's copies, comparisons.
-/
import Derived.Test.YtiphgfghdbmlcaaFeU
namespace Go.Proofs.Ytiphgfghdbmlcaa
open Go.RowKit Go.Deep
set_option linter.unusedVariables false
set_option linter.unusedSimpArgs false
set_option maxHeartbeats 4000000
set_option maxRecDepth 100000
theorem copiedL_any (sq : Int) (p1 p2 : Option Addr) (c1 c2 : Nat) (l1 l2 : List Lv) (w : World) (h1 : Rl w p1 c1 l1) (h2 : Rl w p2 c2 l2) (b1 : l1.length * 24 ≤ 140737488355328) (b2 : l2.length * 24 ≤ 140737488355328) :
    Calls Try.prog 9 #[.agg #[.int .u64 sq, .slice p1 l1.length c1, .slice p2 l2.length c2]] w fun e w' => ∃ q1 d1 q2 d2, e = .returned (.agg #[.int .u64 sq, .slice q1 l1.length d1, .slice q2 l2.length d2]) ∧ Lo w.heap.size w' q1 d1 l1 ∧ Lo w.heap.size w' q2 d2 l2 ∧ (∀ g, OfP q1 g → ¬ OfP q2 g) ∧ Below w.heap.size w w' := by
  obtain ⟨R, hR⟩ : ∃ R, w.heap.size = R := ⟨_, rfl⟩
  obtain ⟨n1, hn1⟩ : ∃ n, l1.length = n := ⟨_, rfl⟩
  obtain ⟨n2, hn2⟩ : ∃ n, l2.length = n := ⟨_, rfl⟩
  obtain ⟨W, hW⟩ : ∃ W, (w.alloc (.cells #[.int .u64 sq, .slice p1 n1 c1, .slice p2 n2 c2] 30)).alloc (.cells #[.int .u64 0, .slice none 0 0, .slice none 0 0] 30) = W := ⟨_, rfl⟩
  obtain ⟨hb0, x0, x1, hsz⟩ := alloc2 hR hW
  have HB := hid hb0
  have HP := hid (x0 _ _ rfl)
  have HZ := hid (x1 _ _ rfl)
  have HS := hid hsz
  have HW := hid hW
  have HR := hid hR
  have HL1 := hid (fun (U : World) (hU : Below w.heap.size w U) => h1.on hU)
  have HL2 := hid (fun (U : World) (hU : Below w.heap.size w U) => h2.on hU)
  have HX1 := hid (lvc_len l1)
  have HX2 := hid (lvc_len l2)
  have HQ1 := hid (show p1 = none → n1 = 0 ∧ c1 = 0 from fun e => by have := h1.nil e; rw [← hn1, this.1]; exact ⟨rfl, this.2⟩)
  have HQ2 := hid (show p2 = none → n2 = 0 ∧ c2 = 0 from fun e => by have := h2.nil e; rw [← hn2, this.1]; exact ⟨rfl, this.2⟩)
  have m1 : n1 ≤ maxLen := by rw [← hn1]; exact Nat.le_trans h1.cap h1.max
  have m2 : n2 ≤ maxLen := by rw [← hn2]; exact Nat.le_trans h2.cap h2.max
  have HM1 := hid (made0 (w := W) W 89 3 (Nat.le_refl _))
  rw [hn1] at b1 HX1
  rw [hn2] at b2 HX2
  rw [hn1, hn2]
  have HN1 := hid hn1
  have HN2 := hid hn2
  have EB := hid (ball W (.cells #[] 89))
  have EB0 := hid (btr HB.out EB.out)
  clear h1 h2 hb0 x0 x1 hsz hW hR hn1 hn2
  go_enter Try.func9, Try.ntmps9
  go_upto_region 1 with fail
  rw [HW.out, HR.out]
  obtain ⟨k0, k1, k2⟩ := row3 (row_on HP.out EB.out)
  go_upto_region 2 with (at_builtin; refine wpList_app_rd (by rfl) (.tmp 3) (.tmp 5) 28 89 _ 3 24 (by rfl) Try.underlying28 infoL3 rfl (by decide) W.heap.size _ 0 [] (by rfl) HM1.out p1 c1 n1 (lvc l1) (by rfl) HQ1.out HX1.out (HL1.out _ EB0.out).get (lvc_one _) (by omega) (by omega) EB.out.size ?_; intro v' w1 hown hgrow; obtain ⟨q1, d1, rfl⟩ := own_form hown; have HO1 := hid hown; have HG1 := hid (below_grown (base := 0) EB.out HM1.out hgrow); obtain ⟨k0, k1, k2⟩ := row3 (row_on HP.out HG1.out); have f1 := row_frz (row_on HP.out HG1.out) 1; clear hown hgrow)
  have HL1' := hid (show Lo W.heap.size w1 q1 d1 l1 from by unfold Lo; rw [HN1.out]; have := HO1.out; simp only [Nat.zero_add, List.nil_append] at this; exact this)
  obtain ⟨W2, hW2⟩ : ∃ W2, w1.setCell ⟨R, 1, none⟩ (.slice q1 n1 d1) = W2 := ⟨_, rfl⟩
  have hsz2 : W2.heap.size = w1.heap.size := by rw [← hW2]; simp [World.setCell]
  have HB2 := hid (show Below w.heap.size w W2 from by rw [← hW2]; exact set_below (btr HB.out HG1.out) (by have := HR.out; omega))
  have HP2 := hid (show W2.heap[R]? = some (.cells #[.int .u64 sq, .slice q1 n1 d1, .slice p2 n2 c2] 30 (0, 0)) from by rw [← hW2]; exact set_row _ (row_on HP.out HG1.out))
  have HZ2 := hid (show W2.heap[R + 1]? = some (.cells #[.int .u64 0, .slice none 0 0, .slice none 0 0] 30 (0, 0)) from by rw [← hW2]; exact set_oth _ (row_on HZ.out HG1.out) (by omega))
  have HLa := hid (show Lo W.heap.size W2 q1 d1 l1 from by rw [← hW2]; exact HL1'.out.set (by have := HS.out; omega))
  rw [hW2]
  have HSZ := hid hsz2
  have HSW := hid HG1.out.size
  clear k0 k1 k2 f1 hW2 hsz2 HO1 HL1' HG1 HM1 EB EB0
  have EB := hid (ball W2 (.cells #[] 89))
  have EB0 := hid (btr HB2.out EB.out)
  have HM2 := hid (made0 (w := W2) W2 89 3 (Nat.le_refl _))
  obtain ⟨k0, k1, k2⟩ := row3 (row_on HP2.out EB.out)
  go_upto_region 3 with (at_builtin; refine wpList_app_rd (by rfl) (.tmp 8) (.tmp 10) 28 89 _ 3 24 (by rfl) Try.underlying28 infoL3 rfl (by decide) W2.heap.size _ 0 [] (by rfl) HM2.out p2 c2 n2 (lvc l2) (by rfl) HQ2.out HX2.out (HL2.out _ EB0.out).get (lvc_one _) (by omega) (by omega) EB.out.size ?_; intro v' w3 hown hgrow; obtain ⟨q2, d2, rfl⟩ := own_form hown; have HO2 := hid hown; have HG2 := hid (below_grown (base := 0) EB.out HM2.out hgrow); obtain ⟨k0, k1, k2⟩ := row3 (row_on HP2.out HG2.out); have f2 := row_frz (row_on HP2.out HG2.out) 2; clear hown hgrow)
  have HL2' := hid (show Lo W2.heap.size w3 q2 d2 l2 from by unfold Lo; rw [HN2.out]; have := HO2.out; simp only [Nat.zero_add, List.nil_append] at this; exact this)
  obtain ⟨W4, hW4⟩ : ∃ W4, w3.setCell ⟨R, 2, none⟩ (.slice q2 n2 d2) = W4 := ⟨_, rfl⟩
  have HB4 := hid (show Below w.heap.size w W4 from by rw [← hW4]; exact set_below (btr HB2.out HG2.out) (by have := HR.out; omega))
  have HP4 := hid (show W4.heap[R]? = some (.cells #[.int .u64 sq, .slice q1 n1 d1, .slice q2 n2 d2] 30 (0, 0)) from by rw [← hW4]; exact set_row _ (row_on HP2.out HG2.out))
  have HZ4 := hid (show W4.heap[R + 1]? = some (.cells #[.int .u64 0, .slice none 0 0, .slice none 0 0] 30 (0, 0)) from by rw [← hW4]; exact set_oth _ (row_on HZ2.out HG2.out) (by omega))
  have HL4 := hid (show Lo W.heap.size W4 q1 d1 l1 from by rw [← hW4]; exact (HLa.out.on HG2.out).set (by have := HS.out; omega))
  have HL5 := hid (show Lo W2.heap.size W4 q2 d2 l2 from by rw [← hW4]; exact HL2'.out.set (by have := HS.out; have := HSZ.out; have := HSW.out; omega))
  rw [hW4]
  clear k0 k1 k2 f2 hW4
  obtain ⟨k0, k1, k2⟩ := row3 HP4.out
  have AI := hid (show (Try.prog.info? 30).map (·.size) = some (#[.int .u64 sq, .slice q1 n1 d1, .slice q2 n2 d2] : Array Value).size from infoP)
  have AS := hid (show (#[.int .u64 0, .slice none 0 0, .slice none 0 0] : Array Value).size = (#[.int .u64 sq, .slice q1 n1 d1, .slice q2 n2 d2] : Array Value).size from rfl)
  have AA := hid (show (#[.int .u64 sq, .slice q1 n1 d1, .slice q2 n2 d2] : Array Value).all (·.oneCell') = true from by simp [Value.oneCell'])
  go_wp2_with (refine wpList_store_row (by rfl) 30 (.tmp 2) (.tmp 13) (by rfl) (R + 1) #[.int .u64 sq, .slice q1 n1 d1, .slice q2 n2 d2] (by rfl) (by rfl) 30 _ HZ4.out AI.out AS.out AA.out ?_)
  refine bodyPost_ret (results_cell_row (fn := Try.f9) Try.results9 _ _ (R + 1) 30 #[.int .u64 sq, .slice q1 n1 d1, .slice q2 n2 d2] (0, 0) _ (by rfl) (setRow_heap _ _ _ _ 30 (0, 0) HZ4.out) Try.underlying30 rfl infoP) rfl ⟨q1, d1, q2, d2, rfl, ?_, ?_, ?_, ?_⟩
  · exact (HL4.out.setRow (by have := HS.out; omega)).base (by have := HS.out; have := HR.out; omega)
  · exact (HL5.out.setRow (by have := HS.out; have := HSZ.out; have := HSW.out; omega)).base HB2.out.size
  · intro g g1 g2
    have a := (HLa.out.ge g1).2
    have b := (HL5.out.ge g2).1
    omega
  · exact setRow_below HB4.out (by have := HR.out; omega)
theorem sameLevels_same (p q : Option Addr) (c d : Nat) (l : List Lv) (w : World) (h1 : Rl w p c l) (h2 : Rl w q d l) :
    Calls Try.prog 13 #[.slice p l.length c, .slice q l.length d] w fun e w' => e = .returned (.bool true) ∧ ∃ n, w' = w.drewN n := by
  have hmax := h1.max
  have hcap := h1.cap
  unfold maxLen at hmax
  have HL1 := hid h1
  have HL2 := hid h2
  obtain ⟨n, hn⟩ : ∃ n, l.length = n := ⟨_, rfl⟩
  have HN := hid hn
  rw [hn] at hcap ⊢
  have q0 : ((n : Int) != (n : Int)) = false := by simp
  clear h1 h2 hn
  go_enter Try.func13, Try.ntmps13
  go_wp2
  go_loopw [5] (fun iv wr => ∃ i m : Nat, i ≤ n ∧ iv = .int .i64 i ∧ wr = w.drewN m) (fun iv _ => n - (intOf iv).toNat)
  case atStart => exact ⟨0, 0, by omega, rfl, rfl⟩
  case round =>
    obtain ⟨i, m, hi, rfl, rfl⟩ := hrel
    by_cases hlt : i < n
    · have hil : i < l.length := by have := HN.out; omega
      obtain ⟨g1, o1, rfl, _, a0, a1, a2⟩ := HL1.out.cells hil
      obtain ⟨g2, o2, rfl, _, b0, b1, b2⟩ := HL2.out.cells hil
      obtain ⟨z, hz⟩ : ∃ z, l[i] = z := ⟨_, rfl⟩
      rw [hz] at a0 a1 a2 b0 b1 b2
      have i0 : (0 : Int) ≤ (i : Int) := by omega
      have i1 : (i : Int) < (n : Int) := by omega
      have q1 : ∀ U, (Op.equalIn 10000 89 (.agg #[.int .i64 z.pr, .int .u64 z.qt, .int .i64 z.ct]) (.agg #[.int .i64 z.pr, .int .u64 z.qt, .int .i64 z.ct])).run Try.prog U = .ok true U := fun U => by rw [eqL_at]; simp
      clear hz
      go_upto_region 6 with fail
      go_quiet (fail)
      go_wp2
      go_roundw
      case rel => exact ⟨i + 1, _, by omega, by go_num, rfl⟩
      case measure => simp [intOf]; omega
    · go_wp2
      go_ret
      exact ⟨rfl, _, rfl⟩
theorem samePicture_same (sq : Int) (p1 p2 q1 q2 : Option Addr) (c1 c2 d1 d2 : Nat) (l1 l2 : List Lv) (w : World) (h1 : Rl w p1 c1 l1) (h2 : Rl w p2 c2 l2) (h3 : Rl w q1 d1 l1) (h4 : Rl w q2 d2 l2) :
    Calls Try.prog 16 #[.agg #[.int .u64 sq, .slice p1 l1.length c1, .slice p2 l2.length c2], .agg #[.int .u64 sq, .slice q1 l1.length d1, .slice q2 l2.length d2]] w fun e w' => e = .returned (.bool true) ∧ Below w.heap.size w w' := by
  obtain ⟨R, hR⟩ : ∃ R, w.heap.size = R := ⟨_, rfl⟩
  obtain ⟨n1, hn1⟩ : ∃ n, l1.length = n := ⟨_, rfl⟩
  obtain ⟨n2, hn2⟩ : ∃ n, l2.length = n := ⟨_, rfl⟩
  obtain ⟨W, hW⟩ : ∃ W, (w.alloc (.cells #[.int .u64 sq, .slice p1 n1 c1, .slice p2 n2 c2] 30)).alloc (.cells #[.int .u64 sq, .slice q1 n1 d1, .slice q2 n2 d2] 30) = W := ⟨_, rfl⟩
  obtain ⟨hb0, x0, x1, hsz⟩ := alloc2 hR hW
  have HB := hid hb0
  have HP := hid (x0 _ _ rfl)
  have HQ := hid (x1 _ _ rfl)
  have HW := hid hW
  have HR := hid hR
  have C1 := hid (sameLevels_same p1 q1 c1 d1 l1 W (h1.on hb0) (h3.on hb0))
  have C2 := hid (fun m => sameLevels_same p2 q2 c2 d2 l2 (W.drewN m) ((h2.on hb0).on (bdrew _ _)) ((h4.on hb0).on (bdrew _ _)))
  rw [hn1] at C1
  rw [hn2] at C2
  rw [hn1, hn2]
  have q0 : (sq == sq) = true := by simp
  obtain ⟨k0, k1, k2⟩ := row3 HP.out
  obtain ⟨j0, j1, j2⟩ := row3 HQ.out
  clear h1 h2 h3 h4 hb0 x0 x1 hsz hW hR hn1 hn2
  go_enter Try.func16, Try.ntmps16
  go_upto_region 1 with fail
  rw [HW.out, HR.out]
  go_wp2_with (first | (go_at_call 13; with_reducible refine (C1.out).mono ?_; rintro e w1 ⟨rfl, m, rfl⟩; clear C1) | (go_at_call 13; with_reducible refine (C2.out _).mono ?_; rintro e w1 ⟨rfl, m2, rfl⟩))
  go_ret
  exact ⟨by simp, btr HB.out (bdrew _ _)⟩
theorem Dw.cells {b : Nat} {w : World} {p : Option Addr} {c : Nat} {l : List Dm} (h : Dw b w p c l) {i : Nat} (hi : i < l.length) : ∃ g, p = some ⟨g, 0, none⟩ ∧ g < w.heap.size ∧ w.cell? ⟨g, i * 6, none⟩ = some (.int .u64 l[i].sq) ∧ w.cell? ⟨g, i * 6 + 1, none⟩ = some (.int .i64 l[i].kd) ∧ w.cell? ⟨g, i * 6 + 2, none⟩ = some (.int .i64 l[i].sd) ∧ w.cell? ⟨g, i * 6 + 3, none⟩ = some (.int .i64 l[i].pr) ∧ w.cell? ⟨g, i * 6 + 4, none⟩ = some (.int .u64 l[i].qt) ∧ w.cell? ⟨g, i * 6 + 5, none⟩ = some (.int .i64 l[i].ct) := by
  obtain ⟨g, cur, rfl, hg, hr, _⟩ := own_at h (by omega)
  have hc := (own_cells h).2
  have go : ∀ j, j < 6 → ∀ u, (#[.int .u64 l[i].sq, .int .i64 l[i].kd, .int .i64 l[i].sd, .int .i64 l[i].pr, .int .u64 l[i].qt, .int .i64 l[i].ct] : Array Value).toList[j]? = some u → w.cell? ⟨g, i * 6 + j, none⟩ = some u := fun j hj u hu => by
    have := hc (i * 6 + j) u (by rw [dvc_get hi j hj]; exact hu)
    rw [Addr.add_lit, Nat.zero_add] at this
    exact this
  exact ⟨g, rfl, row_lt hr, go 0 (by omega) _ rfl, go 1 (by omega) _ rfl, go 2 (by omega) _ rfl, go 3 (by omega) _ rfl, go 4 (by omega) _ rfl, go 5 (by omega) _ rfl⟩
theorem sameData_same (b b' : Nat) (p q : Option Addr) (c d : Nat) (l : List Dm) (w : World) (h1 : Dw b w p c l) (h2 : Dw b' w q d l) :
    Calls Try.prog 12 #[.slice p l.length c, .slice q l.length d] w fun e w' => e = .returned (.bool true) ∧ ∃ n, w' = w.drewN n := by
  have hmax := (own_cap h1).2.1
  have hcap := (own_cap h1).1
  unfold maxLen at hmax
  have HL1 := hid h1
  have HL2 := hid h2
  obtain ⟨n, hn⟩ : ∃ n, l.length = n := ⟨_, rfl⟩
  have HN := hid hn
  rw [hn] at hcap ⊢
  have q0 : ((n : Int) != (n : Int)) = false := by simp
  clear h1 h2 hn
  go_enter Try.func12, Try.ntmps12
  go_wp2
  go_loopw [5] (fun iv wr => ∃ i m : Nat, i ≤ n ∧ iv = .int .i64 i ∧ wr = w.drewN m) (fun iv _ => n - (intOf iv).toNat)
  case atStart => exact ⟨0, 0, by omega, rfl, rfl⟩
  case round =>
    obtain ⟨i, m, hi, rfl, rfl⟩ := hrel
    by_cases hlt : i < n
    · have hil : i < l.length := by have := HN.out; omega
      obtain ⟨g1, rfl, _, a0, a1, a2, a3, a4, a5⟩ := HL1.out.cells hil
      obtain ⟨g2, rfl, _, b0, b1, b2, b3, b4, b5⟩ := HL2.out.cells hil
      obtain ⟨z, hz⟩ : ∃ z, l[i] = z := ⟨_, rfl⟩
      rw [hz] at a0 a1 a2 a3 a4 a5 b0 b1 b2 b3 b4 b5
      have i0 : (0 : Int) ≤ (i : Int) := by omega
      have i1 : (i : Int) < (n : Int) := by omega
      have q1 := fun U => eqD_same z U
      clear hz
      go_upto_region 6 with fail
      go_quiet (fail)
      go_wp2
      go_roundw
      case rel => exact ⟨i + 1, _, by omega, by go_num, rfl⟩
      case measure => simp [intOf]; omega
    · go_wp2
      go_ret
      exact ⟨rfl, _, rfl⟩
end Go.Proofs.Ytiphgfghdbmlcaa
