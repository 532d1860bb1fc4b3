/-
  put.
-/
import Derived.Test.YtjpkodllemoniaaDoorWiD
namespace Go.Proofs.YtjpkodllemoniaaDoor.Wi
open Go.RowKit Go.Deep Go.Proofs.YtjpkodllemoniaaDoor.Crc
open Go.Proofs.YtjpkodllemoniaaDoor.Cp (btr ball row_on row_cell row_lt row_ne Kp setRow_kp own_same set_row)
set_option linter.unusedVariables false
set_option linter.unusedSimpArgs false
set_option maxHeartbeats 8000000
set_option maxRecDepth 100000
attribute [local go_sem ↓] Go.wp_at_zero Go.wp_at_succ
theorem own_row5 {base : Nat} {w : World} {g cap n : Nat} {xs : List Value} (h : w.ownsRow base 5 1 (.slice (some ⟨g, 0, none⟩) n cap) n xs) : base ≤ g ∧ n ≤ cap ∧ cap ≤ maxLen ∧ ∃ cur, w.heap[g]? = some (.cells cur 5 (0, 0)) := by
  rcases h.2 with ⟨h, _⟩ | ⟨g', cap', cur, h', hbg, hg, hnc, hcm, _⟩
  · simp at h
  · simp only [Value.slice.injEq, Option.some.injEq, Addr.mk.injEq, and_true, true_and] at h'
    obtain ⟨rfl, rfl⟩ := h'
    exact ⟨hbg, hnc, hcm, cur, hg⟩
theorem wput_any {base B k : Nat} {x : Int} {xs : List Nat} (w : World) (hW : Wr base w B xs) (hk0 : 0 < k) (hk : k ≤ 8) (hx0 : 0 ≤ x) (hx1 : x < 18446744073709551616) (hl : xs.length + k ≤ 1000000000) (hb : base ≤ w.heap.size) :
    Calls Tryd.prog 17 #[.pointer (some ⟨B, 0, none⟩), .int .i64 k, .int .u64 x] w fun e w' => e = .returned (.tuple #[]) ∧ Wo base w' B (xs ++ le k x.toNat) ∧ Kt base w w' := by
  obtain ⟨v, rfl⟩ : ∃ v : Nat, x = (v : Int) := ⟨x.toNat, by omega⟩
  rw [Int.toNat_natCast]
  obtain ⟨hB, g, cap, hrow, hown⟩ := hW
  obtain ⟨n, hn⟩ : ∃ n, xs.length = n := ⟨_, rfl⟩
  rw [hn] at hrow hown hl
  obtain ⟨hbg, cur, fz, hcur⟩ := hown.row
  have ngB : g ≠ B := row_ne' hcur hrow (by decide)
  obtain ⟨g', cap', w1, hr, ho1, hg1⟩ := run_oc_zeros w 41 41 Tryd.underlying41 hown hk0 (by omega) hb
  obtain ⟨hbg', hnc', hcm', cur', hcur'⟩ := own_row5 ho1
  have rB1 : w1.heap[B]? = some (.cells #[.slice (some ⟨g, 0, none⟩) n cap] 41 (0, 0)) := (hg1.block B (row_lt hrow) (fun e => ngB (Option.some.inj e).symm)).trans hrow
  have ng'B : g' ≠ B := row_ne hcur' rB1 (by decide)
  obtain ⟨w2, hw2⟩ : ∃ W, w1.setCell ⟨B, 0, none⟩ (.slice (some ⟨g', 0, none⟩) (n + k) cap') = W := ⟨_, rfl⟩
  have rB2 : w2.heap[B]? = some (.cells #[.slice (some ⟨g', 0, none⟩) (n + k) cap'] 41 (0, 0)) := by
    rw [← hw2]
    exact set_row _ rB1
  have kp2 : Kp (fun b => b = B) w1 w2 := by rw [← hw2]; exact Kp.set w1 B 0 _
  have ho2 : w2.ownsRow base 5 1 (.slice (some ⟨g', 0, none⟩) (n + k) cap') (n + k) (bv (xs ++ List.replicate k 0)) := own_same ho1 (fun q hq => by
    cases hq
    exact kp2.obj g' (row_lt hcur') ng'B)
  obtain ⟨L, hL, hL1, hL2, ho3⟩ := own_splice (ys := le k v) ho2 hn (by simp) (le_len k v)
  obtain ⟨w3, hw3⟩ : ∃ W, w2.setRow g' (splice L n (bv (le k v))).toArray = W := ⟨_, rfl⟩
  rw [hw3] at ho3
  have hput := putLowest_any L 5 g' n k (cap' - n) v w2 hL hL1 hk (by omega)
  rw [hw3] at hput
  have kp3 : Kp (fun b => b = g') w2 w3 := by rw [← hw3]; exact setRow_kp _ _ _
  have rB3 := kp3.row rB2 (fun e => ng'B e.symm)
  have FIN := hid (show Wo base w3 B (xs ++ le k v) ∧ Kt base w w3 from by
    refine ⟨⟨hB, g', cap', by rw [List.length_append, hn, le_len]; exact rB3, by rw [List.length_append, hn, le_len]; exact ho3⟩, ?_, ?_⟩
    · have b1 : Below base w w1 := ((Below.refl w.heap.size w).mono hb).grown hg1 hb (fun j hj => by cases hj; exact hbg)
      have b2 : Below base w1 w2 := kp2.below (Nat.le_trans hb hg1.size) (fun q hq e => by omega)
      have b3 : Below base w2 w3 := kp3.below (Nat.le_trans (Nat.le_trans hb hg1.size) kp2.size) (fun q hq e => by omega)
      exact b1.trans (b2.trans b3)
    · intro q cs e h1 h2 h3
      have n1 : q ≠ g := row_ne' h1 hcur h2
      have n2 : q ≠ B := row_ne h1 hrow h3
      have r1 : w1.heap[q]? = some (.cells cs e (0, 0)) := (hg1.block q (row_lt h1) (fun e => n1 (Option.some.inj e))).trans h1
      have n3 : q ≠ g' := row_ne r1 hcur' h2
      exact kp3.row (kp2.row r1 n2) n3)
  have R1 := hid hr
  have c0 : w.cell? ⟨B, 0, none⟩ = some (.slice (some ⟨g, 0, none⟩) n cap) := row_cell hrow 0
  have c1 : w1.cell? ⟨B, 0, none⟩ = some (.slice (some ⟨g, 0, none⟩) n cap) := row_cell rB1 0
  have f1 : w1.frozen? ⟨B, 0, none⟩ = false := Cp.row_frz rB1 0
  have c2 : w2.cell? ⟨B, 0, none⟩ = some (.slice (some ⟨g', 0, none⟩) (n + k) cap') := row_cell rB2 0
  have HP := hid hput
  have n0 : (0 : Int) ≤ (n : Int) := by omega
  have n1 : (n : Int) ≤ ((n + k : Nat) : Int) := by omega
  have n2 : (n : Int) ≤ (cap' : Int) := by omega
  have n3 : n ≤ n + k := by omega
  have n4 : n ≤ cap' := by omega
  have n5 : n + k - n = k := by omega
  clear hrow hown hn hl hcur hr ho1 hg1 hcur' rB1 rB2 kp2 ho2 hL hL1 hL2 ho3 hput kp3 rB3 hw3
  go_enter Tryd.func17, Tryd.ntmps17
  go_upto_region 1 with fail
  go_wp2_with (first | (at_builtin; refine Go.Lib.wpList_append_run _ rfl _ _ _ _ rfl _ _ rfl rfl _ _ R1.out ?_) | (go_at_call 35; with_reducible refine HP.out.mono ?_; rintro e w9 ⟨rfl, rfl⟩))
  go_end0
  exact ⟨rfl, FIN.out⟩
end Go.Proofs.YtjpkodllemoniaaDoor.Wi
