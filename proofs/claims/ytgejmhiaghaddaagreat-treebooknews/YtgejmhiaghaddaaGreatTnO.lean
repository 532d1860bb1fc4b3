/-
  TreebookNews is walked.
-/
import Derived.Test.YtgejmhiaghaddaaGreatTnN
namespace Go.Proofs.YtgejmhiaghaddaaGreat
open Go.RowKit Go.Deep
set_option linter.unusedVariables false
set_option linter.unusedSimpArgs false
set_option maxHeartbeats 4000000
set_option maxRecDepth 100000
attribute [local go_sem ↓] Go.wp_at_zero Go.wp_at_succ
theorem news_walk (cap meet : Int) (w : World) : Calls Tryz.prog 3 #[.agg #[.int .i64 cap, .int .i64 meet]] w fun e w' => e = .returned (.bool true) ∧ Below w.heap.size w w' := by
  have CM := hid (fun U => (made_any cap meet U).mono (R' := fun e w' => ∃ X : Nat, e = .returned (.tuple #[.pointer (some ⟨X, 0, none⟩), .bool true]) ∧ Hid (Below U.heap.size U w') ∧ Hid ((w'.heap[X]? = some (.cells #[.pointer none, .int .i64 0, .int .i64 0, .slice none 0 0, .slice none 0 0, .int .u64 0, .int .u64 0] 33 (0, 0))) ∨ (∃ B : Nat, w'.heap[X]? = some (.cells #[.pointer (some ⟨B, 0, none⟩), .int .i64 cap, .int .i64 meet, .slice none 0 0, .slice none 0 0, .int .u64 0, .int .u64 0] 33 (0, 0)) ∧ Bk w' B cap meet))) (by
    rintro e w' (⟨X, h1, h2, h3⟩ | ⟨X, B, h1, h2, h3, h4, h5⟩)
    · exact ⟨X, h1, h3, hid (.inl h2.out)⟩
    · exact ⟨X, h1, h5, hid (.inr ⟨B, h2.out, h4.out⟩)⟩))
  obtain ⟨R, hR⟩ : ∃ R, w.heap.size = R := ⟨_, rfl⟩
  obtain ⟨W, hW⟩ : ∃ U, w.alloc (.cells #[.int .i64 cap, .int .i64 meet] 23) = U := ⟨_, rfl⟩
  have b0 : Below w.heap.size w W := by rw [← hW]; exact ball _ _
  have HBW := hid b0
  have HR0 := hid (show W.heap[R]? = some (.cells #[.int .i64 cap, .int .i64 meet] 23 (0, 0)) from (by rw [← hW, ← hR]; exact World.alloc_heap_new _ _))
  have HW := hid hW
  have HRR := hid hR
  clear hR hW  b0
  have c0 := row_cell HR0.out 0
  have c1 := row_cell HR0.out 1
  simp only [List.getElem?_toArray, List.getElem?_cons_succ, List.getElem?_cons_zero] at c0 c1
  go_enter Tryz.func3, Tryz.ntmps3
  go_upto_region 1 with fail
  rw [HW.out, HRR.out]
  go_upto_region 2 with (go_at_call 4; with_reducible refine (CM.out _).mono ?_; rintro e w1 ⟨X, rfl, HB1, HC⟩)
  clear c0 c1
  rcases HC.out with h1 | ⟨B, h1, h2⟩
  · have p0 := row_cell h1 0
    simp only [List.getElem?_toArray, List.getElem?_cons_succ, List.getElem?_cons_zero] at p0
    clear h1 HC
    go_wp2
    go_ret
    exact ⟨rfl, btr HBW.out HB1.out⟩
  · have p0 := row_cell h1 0
    simp only [List.getElem?_toArray, List.getElem?_cons_succ, List.getElem?_cons_zero] at p0
    have HX := hid (fun (U : World) (hU : Below w1.heap.size w1 U) => row_on h1 hU)
    have HK := hid (fun (U : World) (hU : Below w1.heap.size w1 U) => h2.on hU)
    clear h1 h2 HC
    have HZ := hid (Below.refl w1.heap.size w1)
    go_upto_region 4 with fail
    clear p0
    go_wp2_with (first | (go_at_call 5; with_reducible refine (told_none cap meet X B _ (HX.out _ HZ.out) (HK.out _ HZ.out)).mono ?_; rintro e w2 ⟨rfl, hb2⟩; have HZ := hid (btr HZ.out hb2); clear hb2) | (go_at_call 6; with_reducible refine (step7 cap meet X B _ (HX.out _ HZ.out) (HK.out _ HZ.out)).mono ?_; rintro e w2 ⟨rfl, hb2⟩; have HZ := hid (btr HZ.out hb2); clear hb2) | (go_at_call 6; with_reducible refine (step8 cap meet X B _ (HX.out _ HZ.out) (HK.out _ HZ.out)).mono ?_; rintro e w2 ⟨rfl, hb2⟩; have HZ := hid (btr HZ.out hb2); clear hb2) | (go_at_call 6; with_reducible refine (step4 cap meet X B _ (HX.out _ HZ.out) (HK.out _ HZ.out)).mono ?_; rintro e w2 ⟨rfl, hb2⟩; have HZ := hid (btr HZ.out hb2); clear hb2))
    go_ret
    exact ⟨rfl, btr HBW.out (btr HB1.out HZ.out)⟩
end Go.Proofs.YtgejmhiaghaddaaGreat
