/-
  A new book.
-/
import Derived.Test.YthdikkchblmebaaRuOp
namespace Go.Proofs.Ythdikkchblmebaa
open Go.RowKit Go.Deep Go.Shelf
set_option linter.unusedVariables false
set_option linter.unusedSimpArgs false
set_option maxHeartbeats 4000000
set_option maxRecDepth 100000
def cfg (cap meet : Int) : Bool := decide (1 ≤ cap ∧ cap ≤ 4096 ∧ 0 ≤ meet ∧ meet ≤ 3)
theorem can_any (cap meet : Int) (w : World) :
    Calls Try.prog 14 #[.agg #[.int .i64 cap, .int .i64 meet]] w fun e w' => e = .returned (.bool (cfg cap meet)) ∧ Below w.heap.size w w' := by
  by_cases h1 : 1 ≤ cap
  · by_cases h2 : cap ≤ 4096
    · by_cases h3 : 0 ≤ meet
      · by_cases h4 : meet ≤ 3
        · rw [show cfg cap meet = true from decide_eq_true ⟨h1, h2, h3, h4⟩]
          go_enter Try.func14, Try.ntmps14
          go_wp2
          go_ret
          exact ⟨rfl, ball _ _⟩
        · rw [show cfg cap meet = false from by simp only [cfg, decide_eq_false_iff_not]; omega]
          go_enter Try.func14, Try.ntmps14
          go_wp2
          go_ret
          exact ⟨rfl, ball _ _⟩
      · rw [show cfg cap meet = false from by simp only [cfg, decide_eq_false_iff_not]; omega]
        go_enter Try.func14, Try.ntmps14
        go_wp2
        go_ret
        exact ⟨rfl, ball _ _⟩
    · rw [show cfg cap meet = false from by simp only [cfg, decide_eq_false_iff_not]; omega]
      go_enter Try.func14, Try.ntmps14
      go_wp2
      go_ret
      exact ⟨rfl, ball _ _⟩
  · rw [show cfg cap meet = false from by simp only [cfg, decide_eq_false_iff_not]; omega]
    go_enter Try.func14, Try.ntmps14
    go_wp2
    go_ret
    exact ⟨rfl, ball _ _⟩
theorem new_any (cap meet : Int) (w : World) :
    Calls Try.prog 5 #[.agg #[.int .i64 cap, .int .i64 meet]] w fun e w' => (cfg cap meet = false ∧ e = .returned (.tuple #[.pointer none, .int .i64 1]) ∧ Below w.heap.size w w') ∨ (cfg cap meet = true ∧ ∃ B b, e = .returned (.tuple #[.pointer (some ⟨B, 0, none⟩), .int .i64 0]) ∧ Opd w w' B b cap meet [] [] 0 0) := by
  have CC := hid (fun U => can_any cap meet U)
  obtain ⟨v, hv⟩ : ∃ v, cfg cap meet = v := ⟨_, rfl⟩
  rw [hv] at CC ⊢
  clear hv
  have CO := hid (fun (U : World) => opened_any cap meet none 0 [] none 0 [] 0 0 U ⟨rfl, .inl ⟨rfl, rfl⟩⟩ ⟨rfl, .inl ⟨rfl, rfl⟩⟩ (by simp))
  simp only [List.length_nil] at CO
  have HB := hid (ball w (.cells #[.int .i64 cap, .int .i64 meet] 27))
  have sR : w.heap.size < (w.alloc (.cells #[.int .i64 cap, .int .i64 meet] 27)).heap.size := by simp
  have hr := World.alloc_heap_new w (.cells #[.int .i64 cap, .int .i64 meet] 27)
  obtain ⟨W, hW⟩ : ∃ W, w.alloc (.cells #[.int .i64 cap, .int .i64 meet] 27) = W := ⟨_, rfl⟩
  rw [hW] at HB hr
  have HR := hid hr
  have HW := hid hW
  clear hr hW sR
  go_enter Try.func5, Try.ntmps5
  go_upto_region 1 with fail
  have e0 := HW.out
  rw [e0]
  clear e0
  have c0 := row_cell HR.out 0
  have c1 := row_cell HR.out 1
  simp only [List.getElem?_toArray, List.getElem?_cons_succ, List.getElem?_cons_zero] at c0 c1
  cases v with
  | false =>
    go_wp2_with (go_at_call 14; with_reducible refine (CC.out _).mono ?_; rintro e w1 ⟨rfl, hb1⟩; have HB1 := hid (btr HB.out hb1); clear hb1)
    go_ret2
    exact ⟨rfl, HB1.out⟩
  | true =>
    go_wp2_with (first | (go_at_call 14; with_reducible refine (CC.out _).mono ?_; rintro e w1 ⟨rfl, hb1⟩; have HB1 := hid (btr HB.out hb1); have d0 := (hb1.cell (row_lt HR.out)).trans c0; have d1 := (hb1.cell (row_lt HR.out)).trans c1; clear hb1) | (go_at_call 15; with_reducible refine (CO.out _).mono ?_; rintro e w2 ⟨B, b, rfl, h2⟩; have H2 := hid h2; clear h2))
    go_ret2
    exact ⟨B, rfl, b, H2.out.bm, H2.out.num, H2.out.o1, H2.out.o2, fun j hj => Nat.le_trans HB1.out.size (H2.out.nw j hj), btr HB1.out H2.out.be⟩
end Go.Proofs.Ythdikkchblmebaa
