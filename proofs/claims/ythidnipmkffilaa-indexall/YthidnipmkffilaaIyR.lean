/-
  IndexAll, whatever comes in.
-/
import Derived.Test.YthidnipmkffilaaIyQ
namespace Go.Proofs.Ythidnipmkffilaa
open Go.RowKit Go.Deep
set_option linter.unusedVariables false
set_option linter.unusedSimpArgs false
set_option maxRecDepth 100000
set_option maxHeartbeats 8000000
theorem all_gg {a b : Nat} (a1 : 1 ≤ a) (a2 : a ≤ 65536) (b1 : 1 ≤ b) (b2 : b ≤ 65536) {w : World} (q : Option Addr) (cap : Nat) (l : List OpI) (hV : Opz w q l) (hb : ∀ x ∈ l, 0 ≤ x.ky ∧ x.ky ≤ 18446744073709551615) (hm : l.length ≤ maxLen) :
    Calls Try.prog 5 #[.int .i64 a, .int .i64 b, .slice q l.length cap] w fun e w' => e = .returned (.bool true) ∧ Below w.heap.size w w' := by
  have HM := hid (made_any a1 a2 w)
  have HN := hid (made_any b1 b2)
  have HAB := hid (And.intro (And.intro a1 a2) (And.intro b1 b2))
  have HV := hid hV
  have HBD := hid hb
  unfold maxLen at hm
  clear hV hb a1 a2 b1 b2
  go_enter Try.func5, Try.ntmps5
  go_upto_region 2 with (go_at_call 9; (with_reducible refine (HM.out).mono ?_); rintro e w1 ⟨X, P, R, Q, rfl, h9⟩; have HB := hid h9; clear h9)
  clear HM
  go_upto_region 3 with (go_at_call 9; (with_reducible refine (HN.out _).mono ?_); rintro e w2 ⟨X', P', R', Q', rfl, h9⟩; have HC := hid h9; clear h9)
  clear HN
  have HT := hid (show B2 w w1.heap.size X P R (pn a) a w2.heap.size X' P' R' (pn b) b (w2.alloc (.cells #[.pointer (some ⟨X', 0, none⟩), .pointer (some ⟨R', 0, none⟩)] 25)) from by
    obtain ⟨c1, c2, c3, c4, c5, c6, c7⟩ := HB.out
    obtain ⟨d1, d2, d3, d4, d5, d6, d7⟩ := HC.out
    exact B2.made HAB.out.1.1 HAB.out.1.2 HAB.out.2.1 HAB.out.2.2 c1 c2 c3 c4 c5 c6 c7 rfl d1 d2 d3 d4 d5 d6 d7 rfl)
  clear HAB HB HC
  generalize (w2.alloc (.cells #[.pointer (some ⟨X', 0, none⟩), .pointer (some ⟨R', 0, none⟩)] 25)) = w3 at *
  generalize w1.heap.size = A at *
  generalize w2.heap.size = A' at *
  generalize pn a = n at *
  generalize pn b = n' at *
  obtain ⟨x0, x1⟩ := HT.out.cells
  obtain ⟨y0, y1⟩ := HT.out.sym.cells
  clear w1 w2
  go_wp2_with fail
  go_loopw [11] (fun iv wr => ∃ i : Nat, i ≤ l.length ∧ iv = .int .i64 i ∧ Hid (B2 w A X P R n a A' X' P' R' n' b wr)) (fun iv _ => l.length - (intOf iv).toNat)
  case atStart => exact ⟨0, Nat.zero_le _, rfl, HT⟩
  case round =>
    obtain ⟨i, hi, rfl, HI⟩ := hrel
    clear HT x0 x1 y0 y1
    by_cases hin : i < l.length
    · obtain ⟨bk, off, rfl, hbl, c0, c1, c2, c3, c4⟩ := (HV.out.on HI.out.bel).cells hin
      obtain ⟨k0, k1⟩ := HBD.out _ (List.getElem_mem hin)
      obtain ⟨o, ho⟩ : ∃ o, l[i] = o := ⟨_, rfl⟩
      have HCL := hid (show ∀ u, B2 w A X P R n a A' X' P' R' n' b u → u.cell? ⟨bk, off + i * 5, none⟩ = some (.int .i64 o.kd) ∧ u.cell? ⟨bk, off + i * 5 + 1, none⟩ = some (.bool o.ot) ∧ u.cell? ⟨bk, off + i * 5 + 2, none⟩ = some (.int .u64 o.ky) ∧ u.cell? ⟨bk, off + i * 5 + 3, none⟩ = some (.int .i64 o.v) ∧ u.cell? ⟨bk, off + i * 5 + 4, none⟩ = some (.int .i64 o.nn) from fun u hu => by
        obtain ⟨b', off', e', _, y⟩ := (HV.out.on hu.bel).cells hin
        cases e'
        rw [ho] at y
        exact y)
      rw [ho] at k0 k1
      have HS1 := hid (show ∀ u, B2 w A X P R n a A' X' P' R' n' b u → _ from fun u hu => hu.step o k0 k1)
      have HS2 := hid (show ∀ u, B2 w A X P R n a A' X' P' R' n' b u → _ from fun u hu => hu.sym.step o k0 k1)
      obtain ⟨kd, ot, ky, v, nn⟩ := o
      unfold oprow at HS1 HS2
      simp only at HCL HS1 HS2
      have f1 : (i : Int) < (l.length : Int) := by omega
      have f2 : (0 : Int) ≤ (i : Int) := by omega
      have ct1 : ((i : Int)).toNat = i := by omega
      have wj : IntKind.i64.wrap ((i : Int) + 1) = ((i + 1 : Nat) : Int) := by simp [IntKind.wrap, IntKind.bits, IntKind.signed]; omega
      have HJM := hid (show i + 1 ≤ l.length ∧ l.length - (i + 1) < l.length - i by omega)
      obtain ⟨j1, hj1⟩ : ∃ j1, i + 1 = j1 := ⟨_, rfl⟩
      rw [hj1] at wj HJM
      clear ho hin hi hj1 c0 c1 c2 c3 c4 k0 k1 hbl
      obtain ⟨x0, x1⟩ := HI.out.cells
      obtain ⟨U, hU⟩ : ∃ U, wr.alloc (.cells #[.pointer (some ⟨X, 0, none⟩), .pointer (some ⟨R, 0, none⟩)] 25) = U := ⟨_, rfl⟩
      have bU : Below wr.heap.size wr U := by rw [← hU]; exact ball _ _
      have rU : U.heap[wr.heap.size]? = some (.cells #[.pointer (some ⟨X, 0, none⟩), .pointer (some ⟨R, 0, none⟩)] 25 (0, 0)) := by rw [← hU]; exact World.alloc_heap_new _ _
      have HU := hid (HI.out.on bU)
      have HE := hid hU
      have BU := hid bU
      clear bU hU
      go_upto_region 9 with fail
      rw [HE.out]
      obtain ⟨c0, c1, c2, c3, c4⟩ := HCL.out _ HU.out
      have z0 := row_cell rU 0
      have z1 := row_cell rU 1
      simp only [List.getElem?_toArray, List.getElem?_cons_succ, List.getElem?_cons_zero] at z0 z1
      clear x0 x1
      cases ot with
      | false =>
        have HD := hid (HU.out.on (bdr1 U))
        have HR := hid (row_on rU (bdr1 U))
        clear rU
        go_upto_region 11 with fail
        go_region_held3 (fun U9 => U9.cell? ⟨wr.heap.size, 0, none⟩ = some (.pointer (some ⟨X, 0, none⟩)) ∧ U9.cell? ⟨wr.heap.size, 1, none⟩ = some (.pointer (some ⟨R, 0, none⟩)) ∧ U9.cell? ⟨bk, off + i * 5, none⟩ = some (.int .i64 kd) ∧ U9.cell? ⟨bk, off + i * 5 + 1, none⟩ = some (.bool false) ∧ U9.cell? ⟨bk, off + i * 5 + 2, none⟩ = some (.int .u64 ky) ∧ U9.cell? ⟨bk, off + i * 5 + 3, none⟩ = some (.int .i64 v) ∧ U9.cell? ⟨bk, off + i * 5 + 4, none⟩ = some (.int .i64 nn)) (go_keep) (first | (go_at_call 15; (with_reducible refine (HS1.out _ HD.out).mono ?_); rintro e w5 ⟨rfl, h9, h8⟩; have H5 := hid h9; have zz := h8 _ _ HR.out; clear h9 h8; have y9 := HCL.out _ H5.out; obtain ⟨c0, c1, c2, c3, c4⟩ := y9; have z0 := row_cell zz 0; have z1 := row_cell zz 1; simp only [List.getElem?_toArray, List.getElem?_cons_succ, List.getElem?_cons_zero] at z0 z1; clear zz))
        go_wp2_with fail
        go_roundw
        case rel => exact ⟨j1, HJM.out.1, rfl, H5⟩
        case measure => simpa [intOf] using HJM.out.2
      | true =>
        obtain ⟨y0, y1⟩ := HU.out.sym.cells
        have g0 := frozen_of_row U wr.heap.size 0 _ _ rU
        have g1 := frozen_of_row U wr.heap.size 1 _ _ rU
        go_upto_region 11 with fail
        have rY : ((U.setCell ⟨wr.heap.size, 0, none⟩ (.pointer (some ⟨X', 0, none⟩))).setCell ⟨wr.heap.size, 1, none⟩ (.pointer (some ⟨R', 0, none⟩))).heap[wr.heap.size]? = some (.cells #[.pointer (some ⟨X', 0, none⟩), .pointer (some ⟨R', 0, none⟩)] 25 (0, 0)) := by
          rw [heap_setCell_same _ _ _ _ _ _ (heap_setCell_same _ _ _ _ _ _ rU)]; simp
        have hKP : Kp (fun b => b = wr.heap.size) U ((U.setCell ⟨wr.heap.size, 0, none⟩ (.pointer (some ⟨X', 0, none⟩))).setCell ⟨wr.heap.size, 1, none⟩ (.pointer (some ⟨R', 0, none⟩))) := (Kp.setCell (B := fun b => b = wr.heap.size) rfl _ _).trans (Kp.setCell (B := fun b => b = wr.heap.size) rfl _ _)
        have bY := BU.out.trans (hKP.below BU.out.size (fun g hg => by omega))
        generalize ((U.setCell ⟨wr.heap.size, 0, none⟩ (.pointer (some ⟨X', 0, none⟩))).setCell ⟨wr.heap.size, 1, none⟩ (.pointer (some ⟨R', 0, none⟩))) = Y at *
        have HY := hid (HI.out.on bY)
        have HD := hid (HY.out.on (bdr1 Y))
        have HR := hid (row_on rY (bdr1 Y))
        clear c0 c1 c2 c3 c4 z0 z1 y0 y1 g0 g1
        obtain ⟨c0, c1, c2, c3, c4⟩ := HCL.out _ HY.out
        have z0 := row_cell rY 0
        have z1 := row_cell rY 1
        simp only [List.getElem?_toArray, List.getElem?_cons_succ, List.getElem?_cons_zero] at z0 z1
        clear rY rU hKP bY HU HE BU
        go_region_held3 (fun U9 => U9.cell? ⟨wr.heap.size, 0, none⟩ = some (.pointer (some ⟨X', 0, none⟩)) ∧ U9.cell? ⟨wr.heap.size, 1, none⟩ = some (.pointer (some ⟨R', 0, none⟩)) ∧ U9.cell? ⟨bk, off + i * 5, none⟩ = some (.int .i64 kd) ∧ U9.cell? ⟨bk, off + i * 5 + 1, none⟩ = some (.bool true) ∧ U9.cell? ⟨bk, off + i * 5 + 2, none⟩ = some (.int .u64 ky) ∧ U9.cell? ⟨bk, off + i * 5 + 3, none⟩ = some (.int .i64 v) ∧ U9.cell? ⟨bk, off + i * 5 + 4, none⟩ = some (.int .i64 nn)) (go_keep) (first | (go_at_call 15; (with_reducible refine (HS2.out _ HD.out).mono ?_); rintro e w5 ⟨rfl, h9, h8⟩; have H5 := hid h9.sym; have zz := h8 _ _ HR.out; clear h9 h8; have y9 := HCL.out _ H5.out; obtain ⟨c0, c1, c2, c3, c4⟩ := y9; have z0 := row_cell zz 0; have z1 := row_cell zz 1; simp only [List.getElem?_toArray, List.getElem?_cons_succ, List.getElem?_cons_zero] at z0 z1; clear zz))
        go_wp2_with fail
        go_roundw
        case rel => exact ⟨j1, HJM.out.1, rfl, H5⟩
        case measure => simpa [intOf] using HJM.out.2
    · have hn : i = l.length := by omega
      subst hn
      have f1 : ¬ (l.length : Int) < (l.length : Int) := by omega
      obtain ⟨x0, x1⟩ := HI.out.cells
      have HP := hid (HI.out.placed)
      clear hi hin
      go_wp2_with (go_at_call 16; (with_reducible refine (HP.out).mono ?_); rintro e w3 ⟨rfl, h9⟩; have H3 := hid h9; clear h9; refine Hid.out ?_)
      refine hid ?_
      have HP2 := hid (H3.out.sym.placed)
      obtain ⟨y0, y1⟩ := H3.out.sym.cells
      clear HP HI x0 x1
      go_wp2_with (go_at_call 16; (with_reducible refine (HP2.out).mono ?_); rintro e w4 ⟨rfl, h9⟩; have H4 := hid h9.sym; clear h9; refine Hid.out ?_)
      refine hid ?_
      have HS := hid (H4.out.step ⟨3, false, 0, 0, 0⟩ (by decide) (by decide))
      obtain ⟨x0, x1⟩ := H4.out.cells
      unfold oprow at HS
      clear HP2 H3 y0 y1
      go_wp2_with (go_at_call 15; (with_reducible refine (HS.out).mono ?_); rintro e w5 ⟨rfl, h9, -⟩; have H5 := hid h9; clear h9; refine Hid.out ?_)
      refine hid ?_
      have HS2 := hid (H5.out.sym.step ⟨3, false, 0, 0, 0⟩ (by decide) (by decide))
      obtain ⟨y0, y1⟩ := H5.out.sym.cells
      unfold oprow at HS2
      clear HS H4 x0 x1
      go_wp2_with (go_at_call 15; (with_reducible refine (HS2.out).mono ?_); rintro e w6 ⟨rfl, h9, -⟩; have H6 := hid h9.bel; clear h9; refine Hid.out ?_)
      refine hid ?_
      go_wp2_with fail
      go_ret
      exact ⟨rfl, H6.out⟩
theorem indexAll_walk (a : Int) (ha : -9223372036854775808 ≤ a ∧ a < 9223372036854775808) (b : Int) (hb' : -9223372036854775808 ≤ b ∧ b < 9223372036854775808) {w : World} (q : Option Addr) (cap : Nat) (l : List OpI) (hV : Opz w q l) (hb : ∀ x ∈ l, 0 ≤ x.ky ∧ x.ky ≤ 18446744073709551615) (hm : l.length ≤ maxLen) :
    Calls Try.prog 5 #[.int .i64 a, .int .i64 b, .slice q l.length cap] w fun e w' => e = .returned (.bool true) ∧ Below w.heap.size w w' := by
  by_cases h : a < 1 ∨ 65536 < a <;> by_cases k : b < 1 ∨ 65536 < b
  · exact all_bb h k q l.length cap w
  · obtain ⟨r, rfl⟩ := Int.eq_ofNat_of_zero_le (show 0 ≤ b by omega)
    exact all_bg h (by omega) (by omega) q l.length cap w
  · obtain ⟨r, rfl⟩ := Int.eq_ofNat_of_zero_le (show 0 ≤ a by omega)
    exact all_gb (by omega) (by omega) k q l.length cap w
  · obtain ⟨r, rfl⟩ := Int.eq_ofNat_of_zero_le (show 0 ≤ a by omega)
    obtain ⟨r', rfl⟩ := Int.eq_ofNat_of_zero_le (show 0 ≤ b by omega)
    exact all_gg (by omega) (by omega) (by omega) (by omega) q cap l hV hb hm
end Go.Proofs.Ythidnipmkffilaa
