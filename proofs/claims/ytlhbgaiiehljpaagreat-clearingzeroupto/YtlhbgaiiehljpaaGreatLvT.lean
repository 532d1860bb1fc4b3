/-
  LvT
-/
import Derived.Test.YtlhbgaiiehljpaaGreatLvS
import Derived.Test.YtlhbgaiiehljpaaGreatGAl
namespace Go.Proofs.YtlhbgaiiehljpaaGreat.Ac
open Go.RowKit Go.Deep Go.Maps MonM Go.Proofs.YtlhbgaiiehljpaaGreat
set_option linter.unusedVariables false
set_option linter.unusedSimpArgs false
set_option maxHeartbeats 8000000
set_option maxRecDepth 100000
attribute [local go_sem ↓] Go.wp_at_zero Go.wp_at_succ
theorem owed_any (m : Int) (w : World) (h : Amt m) (h0 : m < 0) (h1 : -18446744073709551616 < m) :
  Calls Tryz.prog 88 #[mv m] w fun e w' => e = .returned (.int .u64 (-m)) ∧ Below w.heap.size w w' := by
 have CN := hid (fun U => neg_any m U)
 have e1 : hiW (-m) = 0 := by unfold hiW; omega
 have e2 : loW (-m) = -m := by unfold loW; omega
 have CW := hid (fun U => words_any (hiW (-m)) (loW (-m)) U)
 unfold mv at CN ⊢
 rw [e1, e2] at CN CW
 obtain ⟨W, hW⟩ : ∃ W, w.alloc (.cells #[.int .u64 (hiW m), .int .u64 (loW m)] 33) = W := ⟨_, rfl⟩
 obtain ⟨g, hg⟩ : ∃ g, w.heap.size = g := ⟨_, rfl⟩
 have BW := hid (show Below w.heap.size w W from by rw [← hW]; exact ball _ _)
 have RW := hid (show W.heap[g]? = some (.cells #[.int .u64 (hiW m), .int .u64 (loW m)] 33 (0, 0)) from by rw [← hW, ← hg]; exact World.alloc_heap_new _ _)
 obtain ⟨x, hx⟩ : ∃ x, -m = x := ⟨_, rfl⟩
 rw [hx] at CN CW ⊢
 clear h h0 h1 e1 e2 hx
 have a0 := row_cell RW.out 0
 have a1 := row_cell RW.out 1
 simp only [List.getElem?_toArray, List.getElem?_cons_succ, List.getElem?_cons_zero] at a0 a1
 go_enter Tryz.func88, Tryz.ntmps88
 go_upto_region 1 with fail
 clear hW hg
 go_upto_region 2 with (first
  | (go_at_call 37; with_reducible refine (CN.out _).mono ?_; rintro e X ⟨rfl, hX⟩; have BX := hid hX; clear hX)
  | (go_at_call 113; with_reducible refine (CW.out _).mono ?_; rintro e Y ⟨rfl, hY⟩; have BY := hid hY; clear hY))
 obtain ⟨V, hV⟩ : ∃ V, Y.alloc (.cells #[.int .u64 0, .int .u64 x] 185) = V := ⟨_, rfl⟩
 have GV := hid (show V.heap[Y.heap.size]? = some (.cells #[.int .u64 0, .int .u64 x] 185 (0, 0)) from by rw [← hV]; exact World.alloc_heap_new _ _)
 have BV := hid (show Below Y.heap.size Y V from by rw [← hV]; exact ball _ _)
 rw [hV]
 obtain ⟨y, hy⟩ : ∃ y, Y.heap.size = y := ⟨_, rfl⟩
 rw [hy] at GV ⊢
 clear hV hy a0 a1
 have v0 := row_cell GV.out 0
 have v1 := row_cell GV.out 1
 simp only [List.getElem?_toArray, List.getElem?_cons_succ, List.getElem?_cons_zero] at v0 v1
 go_wp2
 go_ret
 exact ⟨rfl, btr (btr (btr BW.out BX.out) BY.out) BV.out⟩
end Go.Proofs.YtlhbgaiiehljpaaGreat.Ac
