/-
  At.
-/
import Derived.Test.YtcbfgodknonefaaDoorBmS
namespace Go.Proofs.YtcbfgodknonefaaDoor
open Go.RowKit Go.Deep Bt
set_option linter.unusedVariables false
set_option maxRecDepth 100000
set_option maxHeartbeats 2000000
attribute [local go_sem] Oper.semAt_some

/-- in a word with more bits than that there is one of just that rank. -/
theorem rank_ex (x r : Nat) : ∀ n, r < popn x n → ∃ k, k < n ∧ x.testBit k = true ∧ popn x k = r := by
  intro n
  induction n with
  | zero => intro h; simp [popn] at h
  | succ n ih =>
    intro h
    by_cases c : r < popn x n
    · obtain ⟨k, h1, h2⟩ := ih c
      exact ⟨k, by omega, h2⟩
    · cases hb : x.testBit n with
      | false => rw [popn, hb] at h; simp at h; omega
      | true => rw [popn, hb] at h; simp at h; exact ⟨n, by omega, hb, by omega⟩
theorem at_some (b : Nat) (S : Nat → Bool) (R : Nat) (w : World) (hB : Bm w b S) (hL : Laid w) (hR : R < 9223372036854775808) :
    Calls Tryd.prog 28 #[.pointer (some ⟨b, 0, none⟩), .int .i64 R] w fun e w' => ∃ r : Option Nat, e = .returned (.tuple #[.int .i64 ((r.getD 0 : Nat) : Int), .bool r.isSome]) ∧ Ats S (R : Int) r ∧ Below w.heap.size w w' := by
  have HB := hid hB
  have HL := hid hL
  clear hB hL
  refine (callsIn_wide (n := 5)).1 ?_
  refine callsIn_of_wp_marks Tryd.func28 rfl trivial ?_ rfl
  simp only [Tryd.ntmps28, List.size_toArray, List.length_cons, List.length_nil, Nat.reduceAdd, Nat.reduceSub, Array.replicate_succ, Array.replicate_zero, List.push_toArray, List.append_toArray, List.nil_append, List.cons_append]
  have n1 : (1 : Nat) ≤ 5 := by omega
  have R0 : (0 : Int) ≤ (R : Int) := by omega
  gi_wp2
  have A0 : (w.alloc (.cells #[.pointer (some ⟨b, 0, none⟩)] 23)).heap.size = w.heap.size + 1 := by simp
  have A1 : ((w.alloc (.cells #[.pointer (some ⟨b, 0, none⟩)] 23)).alloc (.cells #[.int .i64 R] 3)).heap.size = w.heap.size + 1 + 1 := by simp
  have A2 : (((w.alloc (.cells #[.pointer (some ⟨b, 0, none⟩)] 23)).alloc (.cells #[.int .i64 R] 3)).alloc (.cells #[.int .i64 0] 3)).heap.size = w.heap.size + 1 + 1 + 1 := by simp
  obtain ⟨W0, hW0⟩ : ∃ W0, ((((w.alloc (.cells #[.pointer (some ⟨b, 0, none⟩)] 23)).alloc (.cells #[.int .i64 R] 3)).alloc (.cells #[.int .i64 0] 3)).alloc (.cells #[.bool false] 4)) = W0 := ⟨_, rfl⟩
  have A3 : W0.heap.size = w.heap.size + 4 := by rw [← hW0]; simp
  have B0 : Below w.heap.size w W0 := by rw [← hW0]; exact ((((Below.refl _ w).alloc (Nat.le_refl _) _).alloc (by simp) _).alloc (by simp; omega) _).alloc (by simp; omega) _
  have Q0 : W0.heap[w.heap.size]? = some (.cells #[.pointer (some ⟨b, 0, none⟩)] 23 (0, 0)) := by
    rw [← hW0, Below.heap_alloc _ _ _ (by rw [A2]; omega), Below.heap_alloc _ _ _ (by rw [A1]; omega), Below.heap_alloc _ _ _ (by rw [A0]; omega)]; exact World.alloc_heap_new _ _
  have Q1 : W0.heap[w.heap.size + 1]? = some (.cells #[.int .i64 R] 3 (0, 0)) := by
    rw [← hW0, Below.heap_alloc _ _ _ (by rw [A2]; omega), Below.heap_alloc _ _ _ (by rw [A1]; omega), ← A0]; exact World.alloc_heap_new _ _
  have Q2 : W0.heap[w.heap.size + 1 + 1]? = some (.cells #[.int .i64 0] 3 (0, 0)) := by
    rw [← hW0, Below.heap_alloc _ _ _ (by rw [A2]; omega), ← A1]; exact World.alloc_heap_new _ _
  have Q3 : W0.heap[w.heap.size + 1 + 1 + 1]? = some (.cells #[.bool false] 4 (0, 0)) := by
    rw [← hW0, ← A2]; exact World.alloc_heap_new _ _
  rw [hW0]
  clear hW0 A0 A1 A2
  refine range_words (by omega) (b := b) (S := S) rfl rfl
    (fun i W => (cw S i ≤ R) ∧ Below w.heap.size w W ∧ W.heap[w.heap.size]? = some (.cells #[.pointer (some ⟨b, 0, none⟩)] 23 (0, 0)) ∧ W.heap[w.heap.size + 1]? = some (.cells #[.int .i64 ((R - cw S i : Nat) : Int)] 3 (0, 0)) ∧ W.heap[w.heap.size + 1 + 1]? = some (.cells #[.int .i64 0] 3 (0, 0)) ∧ W.heap[w.heap.size + 1 + 1 + 1]? = some (.cells #[.bool false] 4 (0, 0)))
    (fun c W => ∃ u : Nat, (c = .ret ∧ Ats S (R : Int) (some u)) ∧ Below w.heap.size w W ∧ W.heap[w.heap.size + 1 + 1]? = some (.cells #[.int .i64 u] 3 (0, 0)) ∧ W.heap[w.heap.size + 1 + 1 + 1]? = some (.cells #[.bool true] 4 (0, 0)))
    ?hB ?hs ?hI ?hIx ?hal ?h0
    (fun i => { tmps := #[Value.pointer (some ⟨b, 0, none⟩), Value.int IntKind.i64 R, Value.pointer (some ⟨w.heap.size, 0, none⟩), Value.pointer (some ⟨w.heap.size + 1, 0, none⟩), Value.pointer (some ⟨w.heap.size + 1 + 1, 0, none⟩), Value.pointer (some ⟨w.heap.size + 1 + 1 + 1, 0, none⟩), Value.int IntKind.i64 i, undef, undef, Value.int IntKind.i64 R, Value.bool (decide ((R : Int) < 0)), Value.pointer (some ⟨b, 0, none⟩), Value.func (Fn.func 46) #[Value.pointer (some ⟨b, 0, none⟩)] #[], Value.int IntKind.i64 i, undef, undef, undef, undef, undef, undef, undef, undef, undef, undef, undef, undef, undef, undef, undef, undef, undef, undef, undef, undef], defers := [] })
    ?assign ?body ?done ?stop
  case hB =>
    rintro i W ⟨_, hb, _⟩
    exact ⟨HB.out.on hb, HL.out.on hb (by have := HB.out.lt; omega)⟩
  case hs =>
    rintro i W hi hz ⟨hc, hb, c0, c1, c2, c3⟩
    have e : cw S (i + 1) = cw S i := by rw [cw, hz, pop_zero]; rfl
    exact ⟨by rw [e]; exact hc, hb, c0, by rw [e]; exact c1, c2, c3⟩
  case hI =>
    intro i
    exact (blind_pure _).and ((blind_below (Nat.le_refl _) (by omega)).and ((blind_row (by omega)).and ((blind_row (by omega)).and ((blind_row (by omega)).and (blind_row (by omega))))))
  case hIx =>
    intro c W W' row hs hg hr
    obtain ⟨u, h⟩ := hs
    exact ⟨u, ((blind_pure _).and ((blind_below (Nat.le_refl _) (by omega)).and ((blind_row (by omega)).and (blind_row (by omega))))) W W' row h hg hr⟩
  case hal =>
    rintro W o ⟨hc, hb, c0, c1, c2, c3⟩
    have l0 := (Array.getElem?_eq_some_iff.1 c0).1
    have l1 := (Array.getElem?_eq_some_iff.1 c1).1
    have l2 := (Array.getElem?_eq_some_iff.1 c2).1
    have l3 := (Array.getElem?_eq_some_iff.1 c3).1
    exact ⟨hc, hb.alloc (by omega) _, (Below.heap_alloc _ _ _ l0).trans c0, (Below.heap_alloc _ _ _ l1).trans c1, (Below.heap_alloc _ _ _ l2).trans c2, (Below.heap_alloc _ _ _ l3).trans c3⟩
  case h0 => exact ⟨Nat.zero_le _, B0, Q0, Q1, Q2, Q3⟩
  case assign =>
    intro l i W K hK
    gi_wp2
    exact hK
  case body =>
    rintro l i W hi hlo ⟨hc, hb, c0, c1, c2, c3⟩
    have HBW := hid (HB.out.on hb)
    have HLW := hid (HL.out.on hb (by have := HB.out.lt; omega))
    have m0 := row_cell c0 0
    have m1 := row_cell c1 0
    have m2 := row_cell c2 0
    have m3 := row_cell c3 0
    have f1 := frozen_of_row W (w.heap.size + 1) 0 _ _ c1
    have f2 := frozen_of_row W (w.heap.size + 1 + 1) 0 _ _ c2
    have f3 := frozen_of_row W (w.heap.size + 1 + 1 + 1) 0 _ _ c3
    simp only [List.getElem?_toArray, List.getElem?_cons_zero] at m0 m1 m2 m3
    have lw := HBW.out.low i hi
    obtain ⟨v, hv⟩ : ∃ v, lo S i = v := ⟨_, rfl⟩
    obtain ⟨u, hu⟩ : ∃ u, pop v = u := ⟨_, rfl⟩
    obtain ⟨c, hcc⟩ : ∃ c, cw S i = c := ⟨_, rfl⟩
    obtain ⟨d, hd⟩ : ∃ d, R - c = d := ⟨_, rfl⟩
    have hc2 : cw S (i + 1) = c + u := by rw [cw, hv, hu, hcc]
    have ub : u ≤ 64 := by rw [← hu]; exact popn_le _ _
    have v1 : v < 18446744073709551616 := by rw [← hv]; exact lo_lt _ _
    have C2 := hid (fun w => ones_any v w v1)
    rw [hv] at lw
    rw [hcc, hd] at m1 c1
    rw [hcc] at hc
    rw [hu] at C2
    have i0 : (0 : Int) ≤ (i : Int) := by omega
    have i2 : (i : Int) < 4096 := by omega
    have i3 : ((i : Int)).toNat = i := by omega
    have d1 : d < 9223372036854775808 := by omega
    have n3 : (1 : Nat) ≤ 5 - 1 - 1 := by omega
    by_cases hlt : d < u
    · obtain ⟨k, k64, hk1, hk2⟩ := rank_ex v d 64 (by rw [show popn v 64 = pop v from rfl, hu]; exact hlt)
      have C3 := hid (ranked_any v d k W v1 hk1 hk2 k64 HLW.out)
      have l1 : (d : Int) < (u : Int) := by omega
      obtain ⟨U, hU⟩ : ∃ U, 64 * i + k = U := ⟨_, rfl⟩
      have eU : (i : Int) * 64 + (k : Int) = (U : Int) := by omega
      have U1 : U < 262144 := by omega
      have hAt : Ats S (R : Int) (some U) := by
        refine ⟨U1, ?_, ?_⟩
        · have := lo_bit S i k k64
          rw [hv, hk1, hU] at this
          exact this.symm
        · have := cn_word S i k (by omega)
          rw [hU, ← cw_cn, hcc, hv, hk2] at this
          rw [this]
          omega
      have W1 : ((W.setCell ⟨w.heap.size + 1 + 1, 0, none⟩ (.int .i64 U)).setCell ⟨w.heap.size + 1 + 1 + 1, 0, none⟩ (.bool true)).heap[w.heap.size + 1 + 1]? = some (.cells #[.int .i64 U] 3 (0, 0)) := by
        rw [heap_setCell_other _ _ _ _ (by show w.heap.size + 1 + 1 ≠ w.heap.size + 1 + 1 + 1; omega), Go.heap_setCell_same _ _ _ _ _ _ c2]; rfl
      have W2 : ((W.setCell ⟨w.heap.size + 1 + 1, 0, none⟩ (.int .i64 U)).setCell ⟨w.heap.size + 1 + 1 + 1, 0, none⟩ (.bool true)).heap[w.heap.size + 1 + 1 + 1]? = some (.cells #[.bool true] 4 (0, 0)) := by
        have c3' : (W.setCell ⟨w.heap.size + 1 + 1, 0, none⟩ (.int .i64 U)).heap[w.heap.size + 1 + 1 + 1]? = some (.cells #[.bool false] 4 (0, 0)) := by
          rw [heap_setCell_other _ _ _ _ (by show w.heap.size + 1 + 1 + 1 ≠ w.heap.size + 1 + 1; omega)]; exact c3
        rw [Go.heap_setCell_same _ _ _ _ _ _ c3']; rfl
      have FIN := hid (And.intro ((KeepsOthers.setCell W ⟨w.heap.size + 1 + 1, 0, none⟩ (.int .i64 U)).trans (KeepsOthers.setCell _ ⟨w.heap.size + 1 + 1 + 1, 0, none⟩ (.bool true)))
        (show ∃ u : Nat, (Code.ret = Code.ret ∧ Ats S (R : Int) (some u)) ∧ Below w.heap.size w ((W.setCell ⟨w.heap.size + 1 + 1, 0, none⟩ (.int .i64 U)).setCell ⟨w.heap.size + 1 + 1 + 1, 0, none⟩ (.bool true)) ∧ ((W.setCell ⟨w.heap.size + 1 + 1, 0, none⟩ (.int .i64 U)).setCell ⟨w.heap.size + 1 + 1 + 1, 0, none⟩ (.bool true)).heap[w.heap.size + 1 + 1]? = some (.cells #[.int .i64 u] 3 (0, 0)) ∧ ((W.setCell ⟨w.heap.size + 1 + 1, 0, none⟩ (.int .i64 U)).setCell ⟨w.heap.size + 1 + 1 + 1, 0, none⟩ (.bool true)).heap[w.heap.size + 1 + 1 + 1]? = some (.cells #[.bool true] 4 (0, 0)) from
          ⟨U, ⟨rfl, hAt⟩, (hb.setCell (p := ⟨w.heap.size + 1 + 1, 0, none⟩) (by show w.heap.size ≤ w.heap.size + 1 + 1; omega) _).setCell (p := ⟨w.heap.size + 1 + 1 + 1, 0, none⟩) (by show w.heap.size ≤ w.heap.size + 1 + 1 + 1; omega) _, W1, W2⟩))
      have f3' : (W.setCell ⟨w.heap.size + 1 + 1, 0, none⟩ (.int .i64 U)).frozen? ⟨w.heap.size + 1 + 1 + 1, 0, none⟩ = false := by rw [World.frozen?_setCell]; exact f3
      clear hb c0 c1 c2 c3 hc hcc hd hc2 hu hv hlo hU hAt W1 W2 hk1 hk2
      gi_wp2_with (first | (refine ⟨trivial, ?_⟩; gi_at_call 47; refine (CallsIn.inRound l (callsIn_wide.2 (C2.out _))).mono ?_; rintro e w' ⟨rfl, rfl⟩) | (refine ⟨trivial, ?_⟩; gi_at_call 48; refine (CallsIn.inRound l (callsIn_wide.2 (C3.out))).mono ?_; rintro e w' ⟨rfl, rfl⟩))
      obtain ⟨a1, u', ⟨_, a2⟩, a3⟩ := FIN.out
      exact ⟨a1, u', ⟨rfl, a2⟩, a3⟩
    · obtain ⟨g, hg⟩ : ∃ g, d - u = g := ⟨_, rfl⟩
      have eg : (d : Int) - (u : Int) = (g : Int) := by omega
      have l1 : ¬ ((d : Int) < (u : Int)) := by omega
      have Q4 : (W.setCell ⟨w.heap.size + 1, 0, none⟩ (.int .i64 g)).heap[w.heap.size + 1]? = some (.cells #[.int .i64 ((R - cw S (i + 1) : Nat) : Int)] 3 (0, 0)) := by
        rw [Go.heap_setCell_same _ _ _ _ _ _ c1, hc2, show R - (c + u) = g by omega]; rfl
      have FIN := hid (show KeepsOthers W (W.setCell ⟨w.heap.size + 1, 0, none⟩ (.int .i64 g)) ∧ (cw S (i + 1) ≤ R) ∧ Below w.heap.size w (W.setCell ⟨w.heap.size + 1, 0, none⟩ (.int .i64 g)) ∧ (W.setCell ⟨w.heap.size + 1, 0, none⟩ (.int .i64 g)).heap[w.heap.size]? = some (.cells #[.pointer (some ⟨b, 0, none⟩)] 23 (0, 0)) ∧ (W.setCell ⟨w.heap.size + 1, 0, none⟩ (.int .i64 g)).heap[w.heap.size + 1]? = some (.cells #[.int .i64 ((R - cw S (i + 1) : Nat) : Int)] 3 (0, 0)) ∧ (W.setCell ⟨w.heap.size + 1, 0, none⟩ (.int .i64 g)).heap[w.heap.size + 1 + 1]? = some (.cells #[.int .i64 0] 3 (0, 0)) ∧ (W.setCell ⟨w.heap.size + 1, 0, none⟩ (.int .i64 g)).heap[w.heap.size + 1 + 1 + 1]? = some (.cells #[.bool false] 4 (0, 0)) from
        ⟨KeepsOthers.setCell _ _ _, by omega, hb.setCell (p := ⟨w.heap.size + 1, 0, none⟩) (by show w.heap.size ≤ w.heap.size + 1; omega) _, (heap_setCell_other _ _ _ _ (by show w.heap.size ≠ w.heap.size + 1; omega)).trans c0, Q4, (heap_setCell_other _ _ _ _ (by show w.heap.size + 1 + 1 ≠ w.heap.size + 1; omega)).trans c2, (heap_setCell_other _ _ _ _ (by show w.heap.size + 1 + 1 + 1 ≠ w.heap.size + 1; omega)).trans c3⟩)
      clear hb c0 c1 c2 c3 hc hcc hd hc2 hu hv hlo Q4 hg
      gi_wp2_with (first | (refine ⟨trivial, ?_⟩; gi_at_call 47; refine (CallsIn.inRound l (callsIn_wide.2 (C2.out _))).mono ?_; rintro e w' ⟨rfl, rfl⟩))
      exact FIN.out
  case done =>
    rintro D W hD ⟨hc, hb, c0, c1, c2, c3⟩ hK
    have HE := hid (show Ats S (R : Int) none from Or.inr (by unfold len; rw [cw_cn, show 64 * 4096 = 262144 from rfl] at hc; omega))
    have HBB := hid hb
    have m2 := row_cell c2 0
    have m3 := row_cell c3 0
    simp only [List.getElem?_toArray, List.getElem?_cons_zero] at m2 m3
    have f2 := frozen_of_row W (w.heap.size + 1 + 1) 0 _ _ c2
    have f3 := frozen_of_row W (w.heap.size + 1 + 1 + 1) 0 _ _ c3
    have f3' : (W.setCell ⟨w.heap.size + 1 + 1, 0, none⟩ (.int .i64 0)).frozen? ⟨w.heap.size + 1 + 1 + 1, 0, none⟩ = false := by rw [World.frozen?_setCell]; exact f3
    have W1 : ((W.setCell ⟨w.heap.size + 1 + 1, 0, none⟩ (.int .i64 0)).setCell ⟨w.heap.size + 1 + 1 + 1, 0, none⟩ (.bool false)).heap[w.heap.size + 1 + 1]? = some (.cells #[.int .i64 0] 3 (0, 0)) := by
      rw [heap_setCell_other _ _ _ _ (by show w.heap.size + 1 + 1 ≠ w.heap.size + 1 + 1 + 1; omega), Go.heap_setCell_same _ _ _ _ _ _ c2]; rfl
    have W2 : ((W.setCell ⟨w.heap.size + 1 + 1, 0, none⟩ (.int .i64 0)).setCell ⟨w.heap.size + 1 + 1 + 1, 0, none⟩ (.bool false)).heap[w.heap.size + 1 + 1 + 1]? = some (.cells #[.bool false] 4 (0, 0)) := by
      have c3' : (W.setCell ⟨w.heap.size + 1 + 1, 0, none⟩ (.int .i64 0)).heap[w.heap.size + 1 + 1 + 1]? = some (.cells #[.bool false] 4 (0, 0)) := by
        rw [heap_setCell_other _ _ _ _ (by show w.heap.size + 1 + 1 + 1 ≠ w.heap.size + 1 + 1; omega)]; exact c3
      rw [Go.heap_setCell_same _ _ _ _ _ _ c3']; rfl
    have hK' := ((KeepsOthers.setCell W ⟨w.heap.size + 1 + 1, 0, none⟩ (.int .i64 0)).trans (KeepsOthers.setCell _ ⟨w.heap.size + 1 + 1 + 1, 0, none⟩ (.bool false))).same D _ hK rfl
    have bb : Below w.heap.size w ((W.setCell ⟨w.heap.size + 1 + 1, 0, none⟩ (.int .i64 0)).setCell ⟨w.heap.size + 1 + 1 + 1, 0, none⟩ (.bool false)) := (hb.setCell (p := ⟨w.heap.size + 1 + 1, 0, none⟩) (by show w.heap.size ≤ w.heap.size + 1 + 1; omega) _).setCell (p := ⟨w.heap.size + 1 + 1 + 1, 0, none⟩) (by show w.heap.size ≤ w.heap.size + 1 + 1 + 1; omega) _
    have M2 := row_cell W1 0
    have M3 := row_cell W2 0
    simp only [List.getElem?_toArray, List.getElem?_cons_zero] at M2 M3
    have h2 := cell_kept M2 (grownBy_putObj' _ D (.deferred none)) (fun r e => by cases e; exact ⟨_, hK', rfl⟩)
    have h3 := cell_kept M3 (grownBy_putObj' _ D (.deferred none)) (fun r e => by cases e; exact ⟨_, hK', rfl⟩)
    have H2 := hid h2
    have H3 := hid h3
    have HBB2 := hid bb
    have HK := hid hK'
    clear W1 W2 hK' bb M2 M3 h2 h3 hb
    gi_wp2
    refine ⟨by simp, .inl ⟨_, _, rfl, run_takeDeferred HK.out, ?_⟩⟩
    have h2 := H2.out
    have h3 := H3.out
    refine ⟨.tuple #[.int .i64 0, .bool false], ?_, none, rfl, HE.out, HBB2.out.trans (belowK_b (w := w) (Nat.le_refl _) _ D _ _ (by omega) HK.out rfl rfl)⟩
    simp [results, Tryd.f28, go_sem, h2, h3]
  case stop =>
    rintro D c W hD ⟨u, ⟨rfl, hA⟩, hb, c2, c3⟩ hK
    have HE := hid hA
    have HBB := hid hb
    have m2 := row_cell c2 0
    have m3 := row_cell c3 0
    simp only [List.getElem?_toArray, List.getElem?_cons_zero] at m2 m3
    gi_wp2
    refine ⟨by simp, .inl ⟨_, _, rfl, run_takeDeferred hK, ?_⟩⟩
    have h2 := cell_kept m2 (grownBy_putObj' _ D (.deferred none)) (fun r e => by cases e; exact ⟨_, hK, rfl⟩)
    have h3 := cell_kept m3 (grownBy_putObj' _ D (.deferred none)) (fun r e => by cases e; exact ⟨_, hK, rfl⟩)
    refine ⟨.tuple #[.int .i64 u, .bool true], ?_, some u, rfl, HE.out, HBB.out.trans (belowK_b (w := w) (Nat.le_refl _) W D _ _ (by omega) hK rfl rfl)⟩
    simp [results, Tryd.f28, go_sem, h2, h3]
/-- At of any rank. -/
theorem at_at (b : Nat) (S : Nat → Bool) (R : Int) (r : Option Nat) (hr : Ats S R r) (w : World) (hB : Bm w b S) (hL : Laid w) (hR : R < 9223372036854775808) :
    Calls Tryd.prog 28 #[.pointer (some ⟨b, 0, none⟩), .int .i64 R] w fun e w' => e = .returned (.tuple #[.int .i64 ((r.getD 0 : Nat) : Int), .bool r.isSome]) ∧ Below w.heap.size w w' := by
  by_cases h : R < 0
  · have e : r = none := hr.one (show Ats S R none from Or.inl h)
    subst e
    clear hB hL hr
    go_enter Tryd.func28, Tryd.ntmps28
    go_wp2_with fail
    have A0 : (w.alloc (.cells #[.pointer (some ⟨b, 0, none⟩)] 23)).heap.size = w.heap.size + 1 := by simp
    have A1 : ((w.alloc (.cells #[.pointer (some ⟨b, 0, none⟩)] 23)).alloc (.cells #[.int .i64 R] 3)).heap.size = w.heap.size + 1 + 1 := by simp
    have A2 : (((w.alloc (.cells #[.pointer (some ⟨b, 0, none⟩)] 23)).alloc (.cells #[.int .i64 R] 3)).alloc (.cells #[.int .i64 0] 3)).heap.size = w.heap.size + 1 + 1 + 1 := by simp
    obtain ⟨W0, hW0⟩ : ∃ W0, ((((w.alloc (.cells #[.pointer (some ⟨b, 0, none⟩)] 23)).alloc (.cells #[.int .i64 R] 3)).alloc (.cells #[.int .i64 0] 3)).alloc (.cells #[.bool false] 4)) = W0 := ⟨_, rfl⟩
    have B0 : Below w.heap.size w W0 := by rw [← hW0]; exact ((((Below.refl _ w).alloc (Nat.le_refl _) _).alloc (by simp) _).alloc (by simp; omega) _).alloc (by simp; omega) _
    have Q2 : W0.heap[w.heap.size + 1 + 1]? = some (.cells #[.int .i64 0] 3 (0, 0)) := by
      rw [← hW0, Below.heap_alloc _ _ _ (by rw [A2]; omega), ← A1]; exact World.alloc_heap_new _ _
    have Q3 : W0.heap[w.heap.size + 1 + 1 + 1]? = some (.cells #[.bool false] 4 (0, 0)) := by
      rw [← hW0, ← A2]; exact World.alloc_heap_new _ _
    rw [hW0]
    have h2 := row_cell Q2 0
    have h3 := row_cell Q3 0
    simp only [List.getElem?_toArray, List.getElem?_cons_zero] at h2 h3
    refine bodyPost_ret (v := .tuple #[.int .i64 0, .bool false]) ?_ rfl ⟨rfl, B0⟩
    simp [results, Tryd.f28, go_sem, h2, h3]
  · obtain ⟨k, rfl⟩ : ∃ k : Nat, R = k := ⟨R.toNat, by omega⟩
    exact (at_some b S k w hB hL (by omega)).mono (fun e w' ⟨r', h1, h2, h3⟩ => by rw [hr.one h2]; exact ⟨h1, h3⟩)
end Go.Proofs.YtcbfgodknonefaaDoor
