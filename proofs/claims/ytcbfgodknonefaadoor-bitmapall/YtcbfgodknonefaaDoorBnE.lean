/-
  The document's With, where it puts in.
-/
import Derived.Test.YtcbfgodknonefaaDoorBnD
namespace Go.Proofs.YtcbfgodknonefaaDoor
open Go.RowKit Go.Deep Bt
set_option linter.unusedVariables false
set_option maxRecDepth 100000
set_option maxHeartbeats 4000000

theorem lr_dropc {w : World} {g0 cap L : Nat} {l : List Int} (h : Lr w (some ⟨g0, 0, none⟩) l) (A : Nat) (hA : A ≤ l.length) (hc : l.length ≤ cap) (hL : l.length = L) : Ir w (.slice (if cap = A then some ⟨g0, 0, none⟩ else some ⟨g0, A, none⟩) (L - A) (cap - A)) (l.drop A) := by
  subst hL
  by_cases e : cap = A
  · rw [if_pos e]
    have e2 : l.length - A = 0 := by omega
    exact Or.inr (Or.inl ⟨List.drop_eq_nil_of_le (by omega), ⟨g0, 0, none⟩, cap - A, by rw [e2]⟩)
  · rw [if_neg e]
    refine Or.inr (Or.inr ⟨g0, A, cap - A, by rw [List.length_drop], fun i hi => ?_⟩)
    have hi' : A + i < l.length := by rw [List.length_drop] at hi; omega
    obtain ⟨g2, e2, hc2⟩ := h (A + i) hi'
    obtain rfl : g2 = g0 := by simpa using e2.symm
    rw [hc2, List.getElem_drop]

theorem with_some (g0 cap : Nat) (S : Nat → Bool) (l : List Int) (hS : Tl S l) (k : Nat) (w : World) (hc : Lr w (some ⟨g0, 0, none⟩) l) (hcap : l.length ≤ cap) (hk : k < 262144) (hk2 : S k = false) :
    Calls Tryd.prog 10 #[.slice (some ⟨g0, 0, none⟩) l.length cap, .int .i64 k] w fun e w' => ∃ g' c', e = .returned (.tuple #[.slice (some ⟨g', 0, none⟩) (l.length + 1) c', .bool true]) ∧ (w.heap.size ≤ g' ∧ g' < w'.heap.size ∧ l.length + 1 ≤ c') ∧ Cs w' g' (l.take (ahd S (k : Int)) ++ (k : Int) :: l.drop (ahd S (k : Int))) ∧ Below w.heap.size w w' := by
  have C := place_any (some ⟨g0, 0, none⟩) cap S l hS (k : Int) w hc
  rw [hasI_nat S k hk, hk2] at C
  have la := ahd_len S (k : Int)
  have ll := len_le S
  have el := hS.len
  obtain ⟨A, hA⟩ : ∃ A, ahd S (k : Int) = A := ⟨_, rfl⟩
  rw [hA] at C la ⊢
  have lA : A ≤ l.length := by omega
  have lL : l.length ≤ 262144 := by omega
  have lt : (l.take A).length = A := by rw [List.length_take]; omega
  have ld : (l.drop A).length = l.length - A := by rw [List.length_drop]
  obtain ⟨n, hn⟩ : ∃ n : Int, (k : Int) = n := ⟨_, rfl⟩
  have n0 : 0 ≤ n := by omega
  have n1 : n < 262144 := by omega
  rw [hn] at C ⊢
  have HCC := hid C
  have HLR := hid (fun (w' : World) (b : Below w.heap.size w w') => (show Lr w' (some ⟨g0, 0, none⟩) l from fun i hi => by
    obtain ⟨g, e, h⟩ := hc i hi
    exact ⟨g, e, by rw [b.cell (p := ⟨g, i, none⟩) (block_lt_of_cell h)]; exact h⟩))
  clear C hS hc hA hk hk2 hn el ll la
  obtain ⟨L, hLL⟩ : ∃ L, l.length = L := ⟨_, rfl⟩
  rw [hLL] at HCC lA lL ld hcap ⊢
  have a0 : (0 : Int) ≤ (A : Int) := by omega
  have a1 : (A : Int) ≤ (L : Int) := by omega
  have a2 : (A : Int) ≤ (cap : Int) := by omega
  have a3 : (L : Int) ≤ (cap : Int) := by omega
  have HT := hid (fun (w' : World) (b : Below w.heap.size w w') => (show Ir w' (.slice (some ⟨g0, 0, none⟩) A cap) (l.take A) from lr_take (cap := cap) (HLR.out _ b) (fun e => by cases e) A (by rw [hLL]; exact lA)))
  have HD := hid (fun (w' : World) (b : Below w.heap.size w w') => (show Ir w' (.slice (if cap = A then some ⟨g0, 0, none⟩ else some ⟨g0, A, none⟩) (L - A) (cap - A)) (l.drop A) from lr_dropc (HLR.out _ b) A (by rw [hLL]; exact lA) (by rw [hLL]; exact hcap) hLL))
  go_enter Tryd.func10, Tryd.ntmps10
  go_wp2_with (first | (go_at_call 29; refine (HCC.out).mono ?_; clear HCC; rintro e w1 ⟨rfl, hb⟩; have HB1 := hid hb; clear hb))
  obtain ⟨H, hH⟩ : ∃ H, w1.heap.size = H := ⟨_, rfl⟩
  have bw : w.heap.size ≤ H := by rw [← hH]; exact HB1.out.size
  have Bce := hid (show Below w1.heap.size w1 (w1.alloc (.cells #[] 3)).drew from ((Below.refl _ w1).alloc (Nat.le_refl _) _).drew)
  have Bcn := hid (show Below w1.heap.size w1 (w1.alloc (.cells #[.int .i64 n] 3)).drew from ((Below.refl _ w1).alloc (Nat.le_refl _) _).drew)
  have Bec := hid (show Below w1.heap.size w1 ((w1.alloc (.cells #[] 3)).alloc (.cells #[.int .i64 n] 3)).drew from (((Below.refl _ w1).alloc (Nat.le_refl _) _).alloc (by simp) _).drew)
  have Bne := hid (show Below w1.heap.size w1 ((w1.alloc (.cells #[.int .i64 n] 3)).alloc (.cells #[] 3)).drew from (((Below.refl _ w1).alloc (Nat.le_refl _) _).alloc (by simp) _).drew)
  have OWN3 := hid (show (w1.alloc (.cells #[] 3)).drew.ownsRow w1.heap.size 3 1 (.slice (some ⟨w1.heap.size, 0, none⟩) 0 0) 0 (iv []) from owns_new' w1 _ (Nat.le_refl _))
  have OWN2 := hid (show ((w1.alloc (.cells #[] 3)).alloc (.cells #[.int .i64 n] 3)).drew.ownsRow w1.heap.size 3 1 (.slice (some ⟨w1.heap.size, 0, none⟩) 0 0) 0 (iv []) from owns_same (w' := ((w1.alloc (.cells #[] 3)).alloc (.cells #[.int .i64 n] 3)).drew) (owns_new' w1 _ (Nat.le_refl _)) (Below.heap_alloc _ _ _ (by simp)))
  have s1 : (w1.alloc (.cells #[.int .i64 n] 3)).heap.size = w1.heap.size + 1 := by simp
  have OWN1 := hid (show ((w1.alloc (.cells #[.int .i64 n] 3)).alloc (.cells #[] 3)).drew.ownsRow w1.heap.size 3 1 (.slice (some ⟨w1.heap.size + 1, 0, none⟩) 0 0) 0 (iv []) from by have := owns_new' (w1.alloc (.cells #[.int .i64 n] 3)) w1.heap.size (by simp); rw [s1] at this; exact this)
  have X1 : ((w1.alloc (.cells #[.int .i64 n] 3)).alloc (.cells #[] 3)).drew.heap[w1.heap.size]? = some (.cells #[.int .i64 n] 3 (0, 0)) := (Below.heap_alloc _ _ _ (by simp)).trans (World.alloc_heap_new _ _)
  have s2 : (w1.alloc (.cells #[] 3)).heap.size = w1.heap.size + 1 := by simp
  have X2 : ((w1.alloc (.cells #[] 3)).alloc (.cells #[.int .i64 n] 3)).drew.heap[w1.heap.size + 1]? = some (.cells #[.int .i64 n] 3 (0, 0)) := by rw [← s2]; exact World.alloc_heap_new _ _
  have HX1 := hid X1
  have HX2 := hid X2
  clear X1 X2 s1 s2 hH
  go_region_law
    (first
    | (refine step_append_st (by rfl) (.tmp 24) (.tmp 27) (by rfl) w1.heap.size (w1.heap.size + 1) 0 0 [] (by rfl) OWN1.out _ (l.take A) (by rfl) (HT.out _ (HB1.out.trans (Bne.out.mono HB1.out.size))) (by first | (rw [lt]; omega) | simp) (by simp; omega) A (l.take A) (by first | (rw [lt]; simp) | simp) (by simp) ?_; intro g5 c5 w5 hown5 hk5; have HO5 := hid hown5; have HB5 := hid (show Below w1.heap.size w1 w5 from Bne.out.trans hk5.2.2); have SRC := hid (ir_one ((hk5.2.1 w1.heap.size (by simp; omega) (by omega)).trans HX1.out)); clear hown5 hk5)
    | (refine step_append_st (by rfl) (.tmp 24) (.tmp 27) (by rfl) w1.heap.size w1.heap.size 0 0 [] (by rfl) OWN2.out _ (l.take A) (by rfl) (HT.out _ (HB1.out.trans (Bec.out.mono HB1.out.size))) (by first | (rw [lt]; omega) | simp) (by simp; omega) A (l.take A) (by first | (rw [lt]; simp) | simp) (by simp) ?_; intro g5 c5 w5 hown5 hk5; have HO5 := hid hown5; have HB5 := hid (show Below w1.heap.size w1 w5 from Bec.out.trans hk5.2.2); have SRC := hid (ir_one ((hk5.2.1 (w1.heap.size + 1) (by simp) (by omega)).trans HX2.out)); clear hown5 hk5)
    | (refine step_append_st (by rfl) (.tmp 24) (.tmp 27) (by rfl) w1.heap.size w1.heap.size 0 0 [] (by rfl) OWN3.out _ (l.take A) (by rfl) (HT.out _ (HB1.out.trans (Bce.out.mono HB1.out.size))) (by first | (rw [lt]; omega) | simp) (by simp) A (l.take A) (by first | (rw [lt]; simp) | simp) (by simp) ?_; intro g5 c5 w5 hown5 hk5; have HB5 := hid (show Below w1.heap.size w1 w5 from Bce.out.trans hk5.2.2); have r5 := owns_room hown5; have HO5 := hid (show (w5.alloc (.cells #[.int .i64 n] 3)).ownsRow w1.heap.size 3 1 (.slice (some ⟨g5, 0, none⟩) A c5) A (iv (l.take A)) from owns_same hown5 (Below.heap_alloc _ _ _ r5.2.1)); have SRC := hid (ir_one (w := w5.alloc (.cells #[.int .i64 n] 3)) (World.alloc_heap_new _ _)); have HB5b := hid (show Below w1.heap.size w1 (w5.alloc (.cells #[.int .i64 n] 3)) from HB5.out.alloc HB5.out.size _); clear hown5 hk5 r5)
    | (refine step_append_st (by rfl) (.tmp 28) (.tmp 30) (by rfl) w1.heap.size g5 A c5 (l.take A) (by rfl) HO5.out _ [n] (by rfl) SRC.out (by first | (simp; done) | (simp; omega)) (by first | exact HB5b.out.size | exact HB5.out.size) (A + 1) (l.take A ++ [n]) (by simp) rfl ?_; intro g6 c6 w6 hown6 hk6; have HO6 := hid hown6; have HB6 := hid (show Below w1.heap.size w1 w6 from by first | exact HB5b.out.trans hk6.2.2 | exact HB5.out.trans hk6.2.2); clear hown6 hk6)
    | (refine step_append_st (by rfl) (.tmp 31) (.tmp 34) (by rfl) w1.heap.size g6 (A + 1) c6 (l.take A ++ [n]) (by rfl) HO6.out _ (l.drop A) (by rfl) (HD.out _ (HB1.out.trans (HB6.out.mono HB1.out.size))) (by first | (rw [ld]; omega) | simp) HB6.out.size (L + 1) (l.take A ++ n :: l.drop A) (by first | (rw [ld]; omega) | simp) (by simp) ?_; intro g7 c7 w7 hown7 hk7; have HO7 := hid hown7; have HB7 := hid (show Below w1.heap.size w1 w7 from HB6.out.trans hk7.2.2); clear hown7 hk7))
  all_goals go_wp2_with fail
  all_goals
    go_ret2
    obtain ⟨q1, q2, q3⟩ := owns_room HO7.out
    refine ⟨g7, c7, rfl, ⟨by have := HB1.out.size; omega, q2, q3⟩, fun j hj => ir_owns HO7.out (by first | (rw [List.length_append, List.length_cons, lt, ld]; omega) | simp) j hj, HB1.out.trans (HB7.out.mono HB1.out.size)⟩
end Go.Proofs.YtcbfgodknonefaaDoor
