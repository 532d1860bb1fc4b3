/-
  A publisher or a book that can not be.
-/
import Derived.Test.YtojmcfkbekodpaaKt
import Derived.Test.YtojmcfkbekodpaaFgH
namespace Go.Proofs.Ytojmcfkbekodpaa
open Go.RowKit Go.Deep Go.Shelf
set_option linter.unusedVariables false
set_option linter.unusedSimpArgs false
set_option maxHeartbeats 8000000
set_option maxRecDepth 100000
attribute [local go_sem ↓] Go.wp_at_zero Go.wp_at_succ
theorem shown_no (d cap meet : Int) (q : Option Addr) (n c0 : Nat) (W : World) (h : ¬ (1 ≤ d ∧ d ≤ 64) ∨ cfg cap meet = false) :
    Calls Try.prog 15 #[.int .i64 d, .agg #[.int .i64 cap, .int .i64 meet], .slice q n c0] W fun e w' => e = .returned (.tuple #[.pointer none, .bool true]) ∧ Below W.heap.size W w' := by
  have HW := hid (World.alloc_heap_new W (.cells #[.int .i64 cap, .int .i64 meet] 23))
  have HB0 := hid (ball W (.cells #[.int .i64 cap, .int .i64 meet] 23))
  obtain ⟨W1, hW⟩ : ∃ W1, W.alloc (.cells #[.int .i64 cap, .int .i64 meet] 23) = W1 := ⟨_, rfl⟩
  rw [hW] at HW HB0
  have CP := hid (show ∀ U, Calls Try.prog 8 #[.int .i64 d] U fun e w' => ∃ p k, e = .returned (.tuple #[.pointer p, .int .i64 k]) ∧ (k = 1 ∨ (k = 0 ∧ ¬ p = none ∧ (1 ≤ d ∧ d ≤ 64))) ∧ Below U.heap.size U w' from fun U => by
    by_cases hd : 1 ≤ d ∧ d ≤ 64
    · obtain ⟨k, rfl⟩ : ∃ k : Nat, d = (k : Int) := ⟨d.toNat, by omega⟩
      refine (Fd.newP_ok k (by omega) (by omega) U).mono ?_
      rintro e w' ⟨B, rfl, _, _, h4⟩
      exact ⟨_, _, rfl, .inr ⟨rfl, by simp, hd⟩, h4⟩
    · refine (Fd.newP_no d hd U).mono ?_
      rintro e w' ⟨rfl, h4⟩
      exact ⟨_, _, rfl, .inl rfl, h4⟩)
  have CN := hid (show ∀ U, Calls Try.prog 9 #[.agg #[.int .i64 cap, .int .i64 meet]] U fun e w' => ∃ p k, e = .returned (.tuple #[.pointer p, .int .i64 k]) ∧ (k = 1 ∨ (k = 0 ∧ cfg cap meet = true)) ∧ Below U.heap.size U w' from fun U => by
    refine (pl_new cap meet U).mono ?_
    rintro e w' (⟨h1, rfl, h3⟩ | ⟨h1, B, b, rfl, h2, _⟩)
    · exact ⟨_, _, rfl, .inl rfl, h3⟩
    · exact ⟨_, _, rfl, .inr ⟨rfl, h1⟩, h2.be⟩)
  have HH := hid h
  have HE := hid hW
  clear h hW
  go_enter Try.func15, Try.ntmps15
  go_upto_region 1 with fail
  rw [HE.out]
  go_upto_region 2 with (go_at_call 8; with_reducible refine (CP.out _).mono ?_; rintro e w2 ⟨p, k, rfl, hk, hb⟩; have HK := hid hk; have HB2 := hid hb; clear hb hk)
  have c0 := row_cell (row_on HW.out HB2.out) 0
  have c1 := row_cell (row_on HW.out HB2.out) 1
  simp only [List.getElem?_toArray, List.getElem?_cons_succ, List.getElem?_cons_zero] at c0 c1
  go_upto_region 3 with (go_at_call 9; with_reducible refine (CN.out _).mono ?_; rintro e w3 ⟨p', k', rfl, hk, hb⟩; have HK' := hid hk; have HB3 := hid hb; clear hk hb)
  clear c0 c1
  rcases HK.out with rfl | ⟨rfl, hp, hd⟩
  · go_wp2
    go_ret2
    exact ⟨rfl, btr (btr HB0.out HB2.out) HB3.out⟩
  · have hk' : k' = 1 := by
      rcases HK'.out with h | ⟨_, h⟩
      · exact h
      · rcases HH.out with h' | h'
        · exact absurd hd h'
        · rw [h] at h'; cases h'
    subst hk'
    go_wp2
    go_ret2
    exact ⟨rfl, btr (btr HB0.out HB2.out) HB3.out⟩
end Go.Proofs.Ytojmcfkbekodpaa
namespace Go.Proofs.Ytojmcfkbekodpaa
open Go.RowKit Go.Deep Go.Shelf
set_option linter.unusedVariables false
set_option linter.unusedSimpArgs false
set_option maxHeartbeats 8000000
set_option maxRecDepth 100000
attribute [local go_sem ↓] Go.wp_at_zero Go.wp_at_succ
theorem depths_o (d more cap meet : Int) (q : Option Addr) (n c0 : Nat) (W : World) (h : ¬ (1 ≤ d ∧ d ≤ 64) ∨ cfg cap meet = false) :
    Calls Try.prog 6 #[.int .i64 d, .int .i64 more, .agg #[.int .i64 cap, .int .i64 meet], .slice q n c0] W fun e w' => e = .returned (.bool true) ∧ Below W.heap.size W w' := by
  have HW := hid (World.alloc_heap_new W (.cells #[.int .i64 cap, .int .i64 meet] 23))
  have HB0 := hid (ball W (.cells #[.int .i64 cap, .int .i64 meet] 23))
  obtain ⟨W1, hW⟩ : ∃ W1, W.alloc (.cells #[.int .i64 cap, .int .i64 meet] 23) = W1 := ⟨_, rfl⟩
  rw [hW] at HW HB0
  have CL := hid (Fd.lives_ok W1)
  have CS := hid (fun U => shown_no d cap meet q n c0 U h)
  have HE := hid hW
  clear h hW
  have hc : (decide (more < 0) = true) ∨ (decide (more < 0) = false ∧ decide (64 < more) = true) ∨ (decide (more < 0) = false ∧ decide (64 < more) = false) := by
    by_cases a : more < 0
    · exact .inl (by simpa using a)
    · by_cases b : 64 < more
      · exact .inr (.inl ⟨by simpa using a, by simpa using b⟩)
      · exact .inr (.inr ⟨by simpa using a, by simpa using b⟩)
  rcases hc with f1 | ⟨f1, f2⟩ | ⟨f1, f2⟩
  all_goals
    go_enter Try.func6, Try.ntmps6
    go_upto_region 1 with fail
    rw [HE.out]
    go_upto_region 5 with (go_at_call 7; with_reducible refine (CL.out).mono ?_; rintro e w1 ⟨rfl, hb⟩; have HB1 := hid hb; clear hb)
    have k0 := row_cell (row_on HW.out HB1.out) 0
    have k1 := row_cell (row_on HW.out HB1.out) 1
    simp only [List.getElem?_toArray, List.getElem?_cons_succ, List.getElem?_cons_zero] at k0 k1
    go_wp2_with (go_at_call 15; with_reducible refine (CS.out _).mono ?_; rintro e w2 ⟨rfl, hb⟩; have HB2 := hid hb; clear hb)
    go_ret
    exact ⟨rfl, btr (btr HB0.out HB1.out) HB2.out⟩
end Go.Proofs.Ytojmcfkbekodpaa
