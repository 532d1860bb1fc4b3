/-
  The document's Pack.
-/
import Derived.Test.YtnhipamajelalaaMgJ
namespace Go.Proofs.Ytnhipamajelalaa
open Go.RowKit Go.Maps Go.Deep Go.Lib
set_option linter.unusedVariables false
set_option linter.unusedSimpArgs false

theorem st8 (w : World) (A : Nat) (k a0 a1 a2 a3 a4 a5 a6 : Int) (h : w.heap[A]? = some (.cells z30 30 (0, 0))) : ∃ W, ((((((((w.setCell ⟨A, 0, none⟩ (.int .u8 k)).setCell ⟨A, 1, none⟩ (.int .u64 a0)).setCell ⟨A, 2, none⟩ (.int .u64 a1)).setCell ⟨A, 3, none⟩ (.int .u64 a2)).setCell ⟨A, 4, none⟩ (.int .u64 a3)).setCell ⟨A, 5, none⟩ (.int .u64 a4)).setCell ⟨A, 6, none⟩ (.int .u64 a5)).setCell ⟨A, 7, none⟩ (.int .u64 a6)) = W ∧ St w A 30 (frV k [a0, a1, a2, a3, a4, a5, a6]) W := by
  have h1 := heap_setCell_same w A 0 _ 30 (.int .u8 k) h
  have h2 := heap_setCell_same (w.setCell ⟨A, 0, none⟩ (.int .u8 k)) A 1 _ 30 (.int .u64 a0) h1
  have h3 := heap_setCell_same ((w.setCell ⟨A, 0, none⟩ (.int .u8 k)).setCell ⟨A, 1, none⟩ (.int .u64 a0)) A 2 _ 30 (.int .u64 a1) h2
  have h4 := heap_setCell_same (((w.setCell ⟨A, 0, none⟩ (.int .u8 k)).setCell ⟨A, 1, none⟩ (.int .u64 a0)).setCell ⟨A, 2, none⟩ (.int .u64 a1)) A 3 _ 30 (.int .u64 a2) h3
  have h5 := heap_setCell_same ((((w.setCell ⟨A, 0, none⟩ (.int .u8 k)).setCell ⟨A, 1, none⟩ (.int .u64 a0)).setCell ⟨A, 2, none⟩ (.int .u64 a1)).setCell ⟨A, 3, none⟩ (.int .u64 a2)) A 4 _ 30 (.int .u64 a3) h4
  have h6 := heap_setCell_same (((((w.setCell ⟨A, 0, none⟩ (.int .u8 k)).setCell ⟨A, 1, none⟩ (.int .u64 a0)).setCell ⟨A, 2, none⟩ (.int .u64 a1)).setCell ⟨A, 3, none⟩ (.int .u64 a2)).setCell ⟨A, 4, none⟩ (.int .u64 a3)) A 5 _ 30 (.int .u64 a4) h5
  have h7 := heap_setCell_same ((((((w.setCell ⟨A, 0, none⟩ (.int .u8 k)).setCell ⟨A, 1, none⟩ (.int .u64 a0)).setCell ⟨A, 2, none⟩ (.int .u64 a1)).setCell ⟨A, 3, none⟩ (.int .u64 a2)).setCell ⟨A, 4, none⟩ (.int .u64 a3)).setCell ⟨A, 5, none⟩ (.int .u64 a4)) A 6 _ 30 (.int .u64 a5) h6
  have h8 := heap_setCell_same (((((((w.setCell ⟨A, 0, none⟩ (.int .u8 k)).setCell ⟨A, 1, none⟩ (.int .u64 a0)).setCell ⟨A, 2, none⟩ (.int .u64 a1)).setCell ⟨A, 3, none⟩ (.int .u64 a2)).setCell ⟨A, 4, none⟩ (.int .u64 a3)).setCell ⟨A, 5, none⟩ (.int .u64 a4)).setCell ⟨A, 6, none⟩ (.int .u64 a5)) A 7 _ 30 (.int .u64 a6) h7
  refine ⟨_, rfl, ⟨?_, fun b hb => ?_, by simp, fun B W0 hb hB => ?_⟩⟩
  · rw [h8]
    simp [frV, uv, z30]
  · rw [heap_setCell_other _ _ _ _ (by exact hb), heap_setCell_other _ _ _ _ (by exact hb), heap_setCell_other _ _ _ _ (by exact hb), heap_setCell_other _ _ _ _ (by exact hb), heap_setCell_other _ _ _ _ (by exact hb), heap_setCell_other _ _ _ _ (by exact hb), heap_setCell_other _ _ _ _ (by exact hb), heap_setCell_other _ _ _ _ (by exact hb)]
  · exact ((((((((hb.setCell (by exact hB) _).setCell (by exact hB) _).setCell (by exact hB) _).setCell (by exact hB) _).setCell (by exact hB) _).setCell (by exact hB) _).setCell (by exact hB) _).setCell (by exact hB) _)

theorem cells_Z {w : World} {g : Nat} (h : w.heap[g]? = some (.cells z30 30 (0, 0))) : w.cell? ⟨g, 0, none⟩ = some (.int .u8 0) ∧ w.frozen? ⟨g, 0, none⟩ = false ∧ w.cell? ⟨g, 1, none⟩ = some (.int .u64 0) ∧ w.frozen? ⟨g, 1, none⟩ = false ∧ w.cell? ⟨g, 2, none⟩ = some (.int .u64 0) ∧ w.frozen? ⟨g, 2, none⟩ = false ∧ w.cell? ⟨g, 3, none⟩ = some (.int .u64 0) ∧ w.frozen? ⟨g, 3, none⟩ = false ∧ w.cell? ⟨g, 4, none⟩ = some (.int .u64 0) ∧ w.frozen? ⟨g, 4, none⟩ = false ∧ w.cell? ⟨g, 5, none⟩ = some (.int .u64 0) ∧ w.frozen? ⟨g, 5, none⟩ = false ∧ w.cell? ⟨g, 6, none⟩ = some (.int .u64 0) ∧ w.frozen? ⟨g, 6, none⟩ = false ∧ w.cell? ⟨g, 7, none⟩ = some (.int .u64 0) ∧ w.frozen? ⟨g, 7, none⟩ = false :=
  ⟨row_cell h 0, frozen_of_row w g 0 _ 30 h, row_cell h 1, frozen_of_row w g 1 _ 30 h, row_cell h 2, frozen_of_row w g 2 _ 30 h, row_cell h 3, frozen_of_row w g 3 _ 30 h, row_cell h 4, frozen_of_row w g 4 _ 30 h, row_cell h 5, frozen_of_row w g 5 _ 30 h, row_cell h 6, frozen_of_row w g 6 _ 30 h, row_cell h 7, frozen_of_row w g 7 _ 30 h⟩

theorem values_zero (x : Inp) (w : World) (h : x.k = 0) : Calls Try.prog 16 #[.agg x.v] w fun e w' => e = .returned (.tuple #[.slice none 0 0, .int .i64 41]) ∧ Below w.heap.size w w' := by
  have NA := hid (fun w => name_any x w)
  rw [h] at NA
  clear h
  unfold Inp.v iV at *
  go_enter Try.func16, Try.ntmps16
  go_wp2_with (first | (go_at_call 18; refine (NA.out _).mono ?_; rintro e w2 ⟨rfl, hb⟩; have HB2 := hid hb; clear hb; refine Hid.out ?_))
  refine hid ?_
  go_wp2
  go_ret2
  exact ⟨rfl, btr (ball _ _) HB2.out⟩
theorem values_bad (x : Inp) (hx : x.Ok) (hr : x.Rg) (w : World) (h : ¬ x.e = 0) : Calls Try.prog 16 #[.agg x.v] w fun e w' => e = .returned (.tuple #[.slice none 0 0, .int .i64 x.e]) ∧ Below w.heap.size w w' := by
  by_cases h0 : x.k = 0
  · have : x.e = 41 := by unfold Inp.e; rw [if_pos h0]
    rw [this]
    exact values_zero x w h0
  · obtain ⟨h1, h4⟩ := k_range x h0
    have ht : x.told = false := by
      cases ht : x.told
      · rfl
      · exfalso; apply h; unfold Inp.e; rw [if_neg h0, ht]; rfl
    have he : x.e = 40 := by unfold Inp.e; rw [if_neg h0, ht]; rfl
    rw [he]
    refine (values_any x hx w h1 h4).mono ?_
    rintro e w' ⟨hb, ⟨_, rfl⟩ | ⟨hy, _⟩⟩
    · exact ⟨rfl, hb⟩
    · rw [told_iff x hx hr h1 h4, ht] at hy; cases hy
theorem values_ok (x : Inp) (hx : x.Ok) (hr : x.Rg) (w : World) (h : x.e = 0) : Calls Try.prog 16 #[.agg x.v] w fun e w' => ∃ p cp, e = .returned (.tuple #[.slice p (tagsL x.k).length cp, .int .i64 0]) ∧ Su w' p ((tagsL x.k).map x.f) ∧ Below w.heap.size w w' := by
  obtain ⟨h0, ht⟩ := e_zero x h
  obtain ⟨h1, h4⟩ := k_range x h0
  refine (values_any x hx w h1 h4).mono ?_
  rintro e w' ⟨hb, ⟨hn, _⟩ | ⟨_, p, cp, rfl, hs⟩⟩
  · exact absurd ((told_iff x hx hr h1 h4).2 ht) hn
  · exact ⟨p, cp, rfl, hs, hb⟩
set_option maxHeartbeats 4000000 in
set_option maxRecDepth 100000 in
theorem rpack_any (x : Inp) (hx : x.Ok) (hr : x.Rg) (w : World) :
    Calls Try.prog 7 #[.agg x.v] w fun e w' => e = .returned (.tuple #[.agg (frV x.pk x.pw), .int .i64 x.e]) ∧ Below w.heap.size w w' := by
  by_cases h : x.e = 0
  · obtain ⟨h0, ht⟩ := e_zero x h
    obtain ⟨h1, h4⟩ := k_range x h0
    have VA := hid (fun w => values_ok x hx hr w h)
    have NA := hid (fun w => name_any x w)
    have FA := hid (fun w => fields_any x.k h1 h4 w)
    have LA := hid (fun q p cq cp w => laid_any x.k h1 (by omega) x.f q p cq cp w)
    have ek : x.pk = x.k := by unfold Inp.pk; rw [if_pos h]
    have ew : x.pw = laW x.k x.f (tagsL x.k) := by unfold Inp.pw; rw [if_pos h]; exact pack_words x hx h
    rw [ek, ew, h]
    obtain ⟨a0, a1, a2, a3, a4, a5, a6, hl⟩ := list7 (laW_len x.k x.f (tagsL x.k))
    rw [hl] at LA
    rw [hl]
    obtain ⟨k, hk⟩ : ∃ k, x.k = k := ⟨_, rfl⟩
    unfold FldP at FA
    rw [hk] at VA NA FA LA
    rw [hk]
    have hfv : frV k [a0, a1, a2, a3, a4, a5, a6] = #[.int .u8 k, .int .u64 a0, .int .u64 a1, .int .u64 a2, .int .u64 a3, .int .u64 a4, .int .u64 a5, .int .u64 a6] := rfl
    rw [hfv] at LA
    have hlen := tags_len k
    have HI := hid (show ((w.alloc (.cells x.v 27)).alloc (.cells z30 30)).heap[w.heap.size]? = some (.cells x.v 27 (0, 0)) from row_on (heap_alloc_new _ _) (ball _ _))
    clear h0 ht h1 h4 ek ew hl hk h hx hr hfv
    obtain ⟨L, hL⟩ : ∃ l, tagsL k = l := ⟨_, rfl⟩
    rw [hL] at VA FA LA hlen
    clear hL
    unfold Inp.v iV at VA NA
    unfold Inp.v iV
    go_enter Try.func7, Try.ntmps7
    go_wp2_with (first | (go_at_call 16; refine (VA.out _).mono ?_; rintro e w2 ⟨p, cp, rfl, hs, hb⟩; have HB2 := hid hb; have HS2 := hid hs; clear hb hs; refine Hid.out ?_))
    have HI2 := hid (row_on HI.out HB2.out)
    have HZ2 := hid (row_on (heap2 w (.cells x.v 27) (.cells z30 30)) HB2.out)
    have HBW2 := hid (btr (btr (ball _ _) (ball _ _)) HB2.out)
    clear HI HB2 VA
    obtain ⟨c0, c1, c2, c3, c4, c5, c6, c7, c8, c9, c10⟩ := cells_I HI2.out
    refine hid ?_
    go_wp2
    go_region_with (first
      | (go_at_call 18; refine (NA.out w2.drew).mono ?_; rintro e wa ⟨rfl, hb⟩; have HIa := hid (show wa.heap[w.heap.size]? = some (.cells (iV x.ki x.co x.id x.tg x.me x.si x.ty x.pr x.qt x.pe x.en) 27 (0, 0)) from row_on (w := w2.drew) HI2.out hb); obtain ⟨d0, d1, d2, d3, d4, d5, d6, d7, d8, d9, d10⟩ := cells_I HIa.out; have HBa := hid hb; clear hb)
      | (go_at_call 18; refine (NA.out wa).mono ?_; rintro e wb ⟨rfl, hb⟩; have HBb := hid hb; clear hb)
      | (go_at_call 19; refine (FA.out wb).mono ?_; rintro e wc ⟨q, cap, rfl, hS, hb⟩; have HBc := hid hb; have HSc := hid hS; clear hb hS)
      | (go_at_call 17; refine (LA.out q p cap cp wc HSc.out (((Su.on (w := w2.drew) HS2.out HBa.out).on HBb.out).on HBc.out)).mono ?_; rintro e wd ⟨rfl, hb⟩; have HBd := hid hb; clear hb; have HBX := hid (btr (btr (btr HBa.out HBb.out) HBc.out) HBd.out); have HZd := hid (row_on (w := w2.drew) HZ2.out HBX.out); obtain ⟨e0, z0, e1, z1, e2, z2, e3, z3, e4, z4, e5, z5, e6, z6, e7, z7⟩ := cells_Z HZd.out))
    all_goals
      obtain ⟨W3, hW3, hST⟩ := st8 wd (w.heap.size + 1) k a0 a1 a2 a3 a4 a5 a6 HZd.out
      have HST := hid hST
      have HBW := hid (show Below w.heap.size w wd from btr (show Below w.heap.size w w2.drew from HBW2.out.drew) HBX.out)
      clear hST e0 e1 e2 e3 e4 e5 e6 e7 z0 z1 z2 z3 z4 z5 z6 z7
      rw [hW3]
      clear hW3
      go_wp2
      exact bodyPost_ret (res30 Try.f7 2 3 Try.results7 _ _ (w.heap.size + 1) (frV k [a0, a1, a2, a3, a4, a5, a6]) _ (by rfl) (by rfl) HST.out.row info30) rfl ⟨rfl, HST.out.bel _ _ HBW.out (by omega)⟩
  · have VA := hid (fun w => values_bad x hx hr w h)
    have ek : x.pk = 0 := by unfold Inp.pk; rw [if_neg h]
    have ew : x.pw = zeros := by unfold Inp.pw; rw [if_neg h]
    rw [ek, ew, frV_zero]
    obtain ⟨E, hE⟩ : ∃ E, x.e = E := ⟨_, rfl⟩
    rw [hE] at VA h ⊢
    have hne : (E != 0) = true := by simpa using h
    clear h ek ew hx hE hr
    have HZ := hid (heap2 w (.cells x.v 27) (.cells z30 30))
    unfold Inp.v iV at *
    go_enter Try.func7, Try.ntmps7
    go_wp2_with (first | (go_at_call 16; refine (VA.out _).mono ?_; rintro e w2 ⟨rfl, hb⟩; have HB := hid hb; clear hb; refine Hid.out ?_))
    have HZ2 := hid (row_on HZ.out HB.out)
    have HB2 := hid (btr (btr (ball _ _) (ball _ _)) HB.out)
    clear HB VA HZ
    refine hid ?_
    go_wp2_with (first | (refine wpList_st (by rfl) 30 (.tmp 2) (.tmp 13) (by rfl) (w.heap.size + 1) z30 (by rfl) (by rfl) 30 z30 HZ2.out info30 rfl (by simp [z30, Value.oneCell']) ?_; intro w5 hst; have HS5 := hid hst; clear hst; refine Hid.out ?_))
    refine hid ?_
    go_wp2
    exact bodyPost_ret (res30 Try.f7 2 3 Try.results7 _ _ (w.heap.size + 1) z30 _ (by rfl) (by rfl) HS5.out.row info30) rfl ⟨rfl, HS5.out.bel _ _ HB2.out (by omega)⟩
end Go.Proofs.Ytnhipamajelalaa
