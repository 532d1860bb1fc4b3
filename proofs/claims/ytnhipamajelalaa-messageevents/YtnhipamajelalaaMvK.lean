/-
  The document's PackEvent.
-/
import Derived.Test.YtnhipamajelalaaMvJ
namespace Go.Proofs.Ytnhipamajelalaa
open Go.RowKit Go.Maps Go.Deep Go.Lib
set_option linter.unusedVariables false
set_option linter.unusedSimpArgs false

set_option maxHeartbeats 4000000 in
set_option maxRecDepth 100000 in
theorem rpackE_any (x : Evt) (hx : x.Ok) (hr : x.Rg) (w : World) :
    Calls Try.prog 11 #[.agg x.v] w fun e w' => e = .returned (.tuple #[.agg (frV x.pk x.pw), .int .i64 x.e]) ∧ Below w.heap.size w w' := by
  by_cases h : x.e = 0
  · obtain ⟨h0, ht⟩ := eE_zero x h
    obtain ⟨h1, h5, hk⟩ := kE_cases x h0
    have VA := hid (fun w => valuesE_ok x hx hr w h)
    have FA := hid (fun w => told_any x.kd h1 h5 w)
    have LA := hid (fun q p cq cp w => laid_any x.k (by omega) (by omega) x.f q p cq cp w)
    have ek : x.pk = x.k := by unfold Evt.pk; rw [if_pos h]
    have ew : x.pw = laW x.k x.f (tagsL x.k) := by unfold Evt.pw; rw [if_pos h]; exact packE_words x hx h
    rw [ek, ew, h]
    obtain ⟨a0, a1, a2, a3, a4, a5, a6, hl⟩ := list7 (laW_len x.k x.f (tagsL x.k))
    rw [hl] at LA
    rw [hl]
    have hwr : wrap64 (64 + x.kd) = 64 + x.kd := by unfold wrap64; omega
    have hwr2 : IntKind.i64.wrap (64 + x.kd) = 64 + x.kd := by rw [IntKind.wrap_i64]; omega
    unfold FldP at FA
    rw [hk] at VA LA
    rw [hk]
    have hfv : frV (64 + x.kd) [a0, a1, a2, a3, a4, a5, a6] = #[.int .u8 (64 + x.kd), .int .u64 a0, .int .u64 a1, .int .u64 a2, .int .u64 a3, .int .u64 a4, .int .u64 a5, .int .u64 a6] := rfl
    rw [hfv] at LA
    have hlen := tags_len (64 + x.kd)
    have HI := hid (show ((w.alloc (.cells x.v 39)).alloc (.cells z30 30)).heap[w.heap.size]? = some (.cells x.v 39 (0, 0)) from row_on (heap_alloc_new _ _) (ball _ _))
    clear h0 ht h1 h5 ek ew hl hk h hx hr hfv
    obtain ⟨L, hL⟩ : ∃ l, tagsL (64 + x.kd) = l := ⟨_, rfl⟩
    rw [hL] at VA FA LA hlen
    clear hL
    unfold Evt.v eV at VA
    unfold Evt.v eV
    go_enter Try.func11, Try.ntmps11
    go_wp2_with (first | (go_at_call 27; refine (VA.out _).mono ?_; rintro e w2 ⟨p, cp, rfl, hs, hb⟩; have HB2 := hid hb; have HS2 := hid hs; clear hb hs; refine Hid.out ?_))
    have HI2 := hid (row_on HI.out HB2.out)
    have HZ2 := hid (row_on (heap2 w (.cells x.v 39) (.cells z30 30)) HB2.out)
    have HBW2 := hid (btr (btr (ball _ _) (ball _ _)) HB2.out)
    clear HI HB2 VA
    have c1 : w2.cell? ⟨w.heap.size, 1, none⟩ = some (.int .i64 x.kd) := row_cell HI2.out 1
    refine hid ?_
    go_wp2
    go_region_with (first
      | (go_at_call 28; refine (FA.out w2.drew).mono ?_; rintro e wc ⟨q, cap, rfl, hS, hb⟩; have d1 : wc.cell? ⟨w.heap.size, 1, none⟩ = some (.int .i64 x.kd) := row_cell (row_on (w := w2.drew) HI2.out hb) 1; have HBc := hid hb; have HSc := hid hS; clear hb hS)
      | (go_at_call 17; refine (LA.out q p cap cp wc HSc.out (Su.on (w := w2.drew) HS2.out HBc.out)).mono ?_; rintro e wd ⟨rfl, hb⟩; have HBd := hid hb; clear hb; have HBX := hid (btr HBc.out HBd.out); have HZd := hid (row_on (w := w2.drew) HZ2.out HBX.out); obtain ⟨e0, z0, e1, z1, e2, z2, e3, z3, e4, z4, e5, z5, e6, z6, e7, z7⟩ := cells_Z HZd.out))
    all_goals
      obtain ⟨W3, hW3, hST⟩ := st8 wd (w.heap.size + 1) (64 + x.kd) a0 a1 a2 a3 a4 a5 a6 HZd.out
      have HST := hid hST
      have HBW := hid (show Below w.heap.size w wd from btr (show Below w.heap.size w w2.drew from HBW2.out.drew) HBX.out)
      clear hST e0 e1 e2 e3 e4 e5 e6 e7 z0 z1 z2 z3 z4 z5 z6 z7
      rw [hW3]
      clear hW3
      go_wp2
      exact bodyPost_ret (res30 Try.f11 2 3 Try.results11 _ _ (w.heap.size + 1) (frV (64 + x.kd) [a0, a1, a2, a3, a4, a5, a6]) _ (by rfl) (by rfl) HST.out.row info30) rfl ⟨rfl, HST.out.bel _ _ HBW.out (by omega)⟩
  · have VA := hid (fun w => valuesE_bad x hx hr w h)
    have ek : x.pk = 0 := by unfold Evt.pk; rw [if_neg h]
    have ew : x.pw = zeros := by unfold Evt.pw; rw [if_neg h]
    rw [ek, ew, frV_zero]
    obtain ⟨E, hE⟩ : ∃ E, x.e = E := ⟨_, rfl⟩
    rw [hE] at VA h ⊢
    have hne : (E != 0) = true := by simpa using h
    clear h ek ew hx hE hr
    have HZ := hid (heap2 w (.cells x.v 39) (.cells z30 30))
    unfold Evt.v eV at *
    go_enter Try.func11, Try.ntmps11
    go_wp2_with (first | (go_at_call 27; refine (VA.out _).mono ?_; rintro e w2 ⟨rfl, hb⟩; have HB := hid hb; clear hb; refine Hid.out ?_))
    have HZ2 := hid (row_on HZ.out HB.out)
    have HB2 := hid (btr (btr (ball _ _) (ball _ _)) HB.out)
    clear HB VA HZ
    refine hid ?_
    go_wp2_with (first | (refine wpList_st (by rfl) 30 (.tmp 2) (.tmp 13) (by rfl) (w.heap.size + 1) z30 (by rfl) (by rfl) 30 z30 HZ2.out info30 rfl (by simp [z30, Value.oneCell']) ?_; intro w5 hst; have HS5 := hid hst; clear hst; refine Hid.out ?_))
    refine hid ?_
    go_wp2
    exact bodyPost_ret (res30 Try.f11 2 3 Try.results11 _ _ (w.heap.size + 1) z30 _ (by rfl) (by rfl) HS5.out.row info30) rfl ⟨rfl, HS5.out.bel _ _ HB2.out (by omega)⟩
end Go.Proofs.Ytnhipamajelalaa
