/-
  Next of a reader of lines.
-/
import Derived.Test.YtolabllgnfpfaaaDoorTrC
import Derived.Test.YtolabllgnfpfaaaDoorTzA
namespace Go.Proofs.YtolabllgnfpfaaaDoor
open Go.RowKit Go.Deep Go.Lib Go.Shelf Go.Sort
set_option linter.unusedVariables false
set_option linter.unusedSimpArgs false

theorem outE_nil : (outE []).2.2 = 20 := by
  unfold outE
  have h : (begE [] 0 10).2 = 20 := by simp [begE]
  rw [if_pos (by rw [h]; simp)]
  exact h
theorem Held.sb {w : World} {base : Nat} {hv : Value} {l : List UInt8} (h : Held w base hv l) : ∃ q c, hv = .slice q l.length c ∧ Sb w q l ∧ l.length ≤ c ∧ c < 9223372036854775808 := by
  rcases h with ⟨rfl, rfl⟩ | ⟨g, o, cap, cur, e, hbg, hg, r1, r2, r3, hB⟩
  · exact ⟨none, 0, rfl, fun i hi => by simp at hi, Nat.le_refl _, by decide⟩
  · exact ⟨_, _, e, bs_sb hB, r2, by unfold maxLen at r3; omega⟩
/-- what Next leaves: its answer, the reader, all else. -/
def NextP (base : Nat) (w : World) (R : Nat) (l : List UInt8) (hv : Value) (e : Ending) (w' : World) : Prop :=
  (∃ q c, e = .returned (.tuple #[.string ⟨(nxR l).2.1.toArray⟩, .slice q (nxR l).2.2.1.length c, .bool (nxR l).2.2.2.1, .int .i64 (nxR l).2.2.2.2]) ∧ Ts w' q (nxR l).2.2.1) ∧ (∃ hv', RdG base w' R (nxR l).1 hv' ∧ (hv'.ownBlock = hv.ownBlock ∨ hv'.ownBlock = none)) ∧ Below base w w' ∧ w.heap.size ≤ w'.heap.size ∧ ∀ b, b < w.heap.size → ¬ b = R → w'.heap[b]? = w.heap[b]?
theorem ts_nil (w : World) : Ts w none [] := fun i hi => by simp at hi

set_option maxHeartbeats 4000000 in
set_option maxRecDepth 100000 in
theorem rnext_any (base : Nat) (w : World) (R : Nat) (l : List UInt8) (hv : Value) (h : RdG base w R l hv) (hbase : base ≤ w.heap.size) (hl : l.length ≤ 65536) (hM : LayM w) :
    Calls Tryd.prog 12 #[.pointer (some ⟨R, 0, none⟩)] w fun e w' => NextP base w R l hv e w' := by
  have HRD := hid h
  have hRl : R < w.heap.size := (Array.getElem?_eq_some_iff.1 h.2.2.1).1
  have hRb : base ≤ R := h.1
  obtain ⟨q, c, hvq, hS, hlc, hcm⟩ := h.2.2.2.sb
  have hc : w.cell? ⟨R, 0, none⟩ = some (.slice q l.length c) := by rw [cell_of_row w R 0 _ _ _ h.2.2.1, ← hvq]; rfl
  have HS := hid hS
  have HM := hid hM
  have OL := hid (outline_any l q c w (by omega) hlc hcm hS hM.laye)
  obtain ⟨NR, hNR⟩ : ∃ R, nxR l = R := ⟨_, rfl⟩
  unfold NextP
  rw [hNR]
  unfold nxR at hNR
  obtain ⟨f, t, p, er, ho⟩ : ∃ f t p e, outE l = ((f, t), p, e) := ⟨_, _, _, _, rfl⟩
  rw [ho] at OL hNR
  simp only [lenV] at OL
  simp only at hNR
  clear h
  by_cases h20 : er = 20
  · subst h20
    rw [if_pos rfl] at hNR
    subst hNR
    clear hS hM ho
    go_enter Tryd.func12, Tryd.ntmps12
    go_wp2_with (first | (go_at_call 17; refine OL.out.mono ?_; rintro e w1 ⟨rfl, hb⟩; have HB1 := hid (show Below w.heap.size w (w1.alloc (.cells #[.int .i64 f, .int .i64 t] 53)) from btr' hb (ball _ _)); clear hb; refine Hid.out ?_))
    refine hid ?_
    go_wp2
    refine bodyPost_ret (res4 Tryd.f12 2 3 4 5 Tryd.results12 _ _ _ _ _ _ (by rfl) (by rfl) (by rfl) (by rfl)) rfl ?_
    exact ⟨⟨none, 0, rfl, ts_nil _⟩, ⟨hv, HRD.out.to HB1.out, Or.inl rfl⟩, HB1.out.mono hbase, HB1.out.size, fun b hb _ => HB1.out.block b hb⟩
  · rw [if_neg h20] at hNR
    have h20f : (er == 20) = false := by simpa using h20
    by_cases he : er = 0
    · subst he
      rw [if_neg (by simp)] at hNR
      obtain ⟨rfl, k1, k2, k3, k4⟩ := outE_ok ho
      obtain ⟨d1, d2, d3, _⟩ := decR_whole ho
      rw [d1, d2, d3] at hNR
      obtain ⟨b, o, rfl, _⟩ := hS 0 (by omega)
      have hBl : ((l.drop f).take (t - f)).length = t - f := by simp; omega
      have RB := hid (fun w' hS hM => readbody_any ((l.drop f).take (t - f)) (some ⟨b, o + f, none⟩) (c - f) w' (by omega) (by omega) (by omega) hS hM)
      have HSB := hid ((hS.drop f).take (t - f))
      rw [hBl] at RB
      obtain ⟨BD, hBD⟩ : ∃ x, (l.drop f).take (t - f) = x := ⟨_, rfl⟩
      rw [hBD] at RB HSB hNR
      obtain ⟨kd, tg, pl, e2, hB⟩ : ∃ a b c d, bodyR BD BD 0 0 [] [] = (a, b, c, d) := ⟨_, _, _, _, rfl⟩
      rw [hB] at RB hNR
      simp only at RB hNR
      subst hNR
      have EN := hid (fun w' => end_any f t w' (by omega))
      have i0 : (0 : Int) ≤ (f : Int) := by omega
      have i1 : (f : Int) ≤ (t : Int) := by omega
      have i2 : (t : Int) ≤ (c : Int) := by omega
      have i3 : ¬ c = f := by omega
      clear ho hBD hB hBl hM hS d1 d2 d3
      go_enter Tryd.func12, Tryd.ntmps12
      go_wp2_with (first | (go_at_call 17; refine OL.out.mono ?_; rintro e w1 ⟨rfl, hb⟩; have HB1 := hid (show Below w.heap.size w (w1.alloc (.cells #[.int .i64 f, .int .i64 t] 53)) from btr' hb (ball _ _)); have HL1 := hid hb.size; clear hb; refine Hid.out ?_))
      have HN1 := hid (heap_alloc_new w1 (.cells #[.int .i64 f, .int .i64 t] 53))
      obtain ⟨W1, hW1⟩ : ∃ W, w1.alloc (.cells #[.int .i64 f, .int .i64 t] 53) = W := ⟨_, rfl⟩
      rw [hW1] at HB1 HN1
      have HR1 := hid (HRD.out.to HB1.out)
      have hc1 : W1.cell? ⟨R, 0, none⟩ = some (.slice (some ⟨b, o, none⟩) l.length c) := (HB1.out.cell (cell_lt hc)).trans hc
      have s0 : W1.cell? ⟨w1.heap.size, 0, none⟩ = some (.int .i64 f) := row_cell HN1.out 0
      have s1 : W1.cell? ⟨w1.heap.size, 1, none⟩ = some (.int .i64 t) := row_cell HN1.out 1
      clear hc
      refine hid ?_
      go_wp2
      (try rw [hW1])
      go_region_with (first | (go_at_call 20; refine (RB.out W1.drew (fun i hi => (HSB.out.on HB1.out) i hi) (HM.out.on HB1.out.drew)).mono ?_; rintro e w2 ⟨v2, rfl, ho2⟩; have HO2 := hid ho2; clear ho2))
      all_goals
        have HB2 := hid (show Below W1.heap.size W1 w2 from btr' (show Below W1.heap.size W1 W1.drew from Below.drew (Below.refl _ _)) HO2.out.2.1)
        have HR2 := hid (HR1.out.to HB2.out)
        obtain ⟨qt, ct, rfl, hTt, _, _⟩ := HO2.out.form
        have HT2 := hid hTt
        have HN2 := hid (row_on HN1.out HB2.out)
        have s2 : w2.cell? ⟨w1.heap.size, 0, none⟩ = some (.int .i64 f) := row_cell HN2.out 0
        have s3 : w2.cell? ⟨w1.heap.size, 1, none⟩ = some (.int .i64 t) := row_cell HN2.out 1
        have DR := hid (fun w h => rdropG base w R l (t + 7) hv h (by omega) (by omega) (by omega))
        rw [show (((t + 7 : Nat) : Nat) : Int) = (t : Int) + 7 by omega] at DR
        clear hTt HO2 HR1 HN1 s0 s1 hc1 RB HSB OL
        refine hid ?_
        go_wp2_with (first | (go_at_call 21; refine (EN.out _).mono ?_; rintro e w3 ⟨rfl, hb⟩; have HB3 := hid hb; clear hb; refine Hid.out ?_))
        have HR3 := hid (HR2.out.to HB3.out)
        have HT3 := hid (HT2.out.on HB3.out)
        clear HR2 HT2 s2 s3 EN
        refine hid ?_
        go_wp2_with (first | (go_at_call 18; refine (DR.out _ HR3.out).mono ?_; rintro e w4 ⟨rfl, hrd, hb4, hs4, hoth4⟩; have HD4 := hid hrd; have HB4 := hid hb4; have HS4 := hid hs4; have HO4 := hid hoth4; clear hrd hb4 hs4 hoth4; refine Hid.out ?_))
        have HBw := hid (show Below w.heap.size w w3 from btr' (btr' HB1.out HB2.out) HB3.out)
        have HT4 := hid (show Ts w4 qt tg from fun i hi => by
          obtain ⟨b', o', e, c0, c1⟩ := HT3.out i hi
          have hne : ¬ b' = R := by
            intro e2
            subst e2
            have h1 := HR3.out.2.2.1
            rw [cell_of_row _ b' _ _ _ _ h1] at c0
            have : o' + i * 2 = 0 := by
              rcases Nat.eq_zero_or_pos (o' + i * 2) with h | h
              · exact h
              · rw [Array.getElem?_eq_none (by simp; omega)] at c0; cases c0
            rw [this] at c0
            obtain ⟨p, c', e3⟩ := HR3.out.2.2.2.form
            rw [e3] at c0
            simp at c0
          have hg := HO4.out b' hne
          exact ⟨b', o', e, by unfold World.cell? at c0 ⊢; rw [show (⟨b', o' + i * 2, none⟩ : Addr).block = b' from rfl] at c0 ⊢; rw [hg]; exact c0, by unfold World.cell? at c1 ⊢; rw [show (⟨b', o' + i * 2 + 1, none⟩ : Addr).block = b' from rfl] at c1 ⊢; rw [hg]; exact c1⟩)
        refine hid ?_
        go_wp2
        refine bodyPost_ret (res4 Tryd.f12 2 3 4 5 Tryd.results12 _ _ _ _ _ _ (by rfl) (by rfl) (by rfl) (by rfl)) rfl ?_
        exact ⟨⟨qt, ct, by simp; rfl, HT4.out⟩, HD4.out, (HBw.out.mono hbase).trans HB4.out, Nat.le_trans HBw.out.size HS4.out, fun b hb hbR => (HO4.out b hbR).trans (HBw.out.block b hb)⟩
    · rw [if_pos he] at hNR
      subst hNR
      have he0 : (er == 0) = false := by simpa using he
      have hpos : 0 < l.length := by
        rcases Nat.eq_zero_or_pos l.length with h0 | h0
        · have : l = [] := List.length_eq_zero_iff.1 h0
          subst this
          have := outE_nil
          rw [ho] at this
          exact absurd this h20
        · exact h0
      have FT := hid (fun w hS => feet_any l q c w (by omega) hS)
      have hfl := ftN_le l
      have DR := hid (fun w h => rdropG base w R l (ftN l) hv h hfl hpos (by omega))
      obtain ⟨F, hF⟩ : ∃ x, ftN l = x := ⟨_, rfl⟩
      rw [hF] at FT DR hfl
      rw [hF]
      clear hF hS hM ho he h20
      go_enter Tryd.func12, Tryd.ntmps12
      go_wp2_with (first | (go_at_call 17; refine OL.out.mono ?_; rintro e w1 ⟨rfl, hb⟩; have HB1 := hid (show Below w.heap.size w (w1.alloc (.cells #[.int .i64 f, .int .i64 t] 53)) from btr' hb (ball _ _)); clear hb; refine Hid.out ?_))
      obtain ⟨W1, hW1⟩ : ∃ W, w1.alloc (.cells #[.int .i64 f, .int .i64 t] 53) = W := ⟨_, rfl⟩
      rw [hW1] at HB1
      have HR1 := hid (HRD.out.to HB1.out)
      have HS1 := hid (HS.out.on HB1.out)
      have hc1 : W1.cell? ⟨R, 0, none⟩ = some (.slice q l.length c) := (HB1.out.cell (cell_lt hc)).trans hc
      clear hc
      refine hid ?_
      go_wp2_with (first | ((try rw [hW1]); go_at_call 19; refine (FT.out _ HS1.out).mono ?_; rintro e w2 ⟨rfl, rfl⟩; refine Hid.out ?_))
      refine hid ?_
      go_wp2_with (first | (go_at_call 18; refine (DR.out _ HR1.out).mono ?_; rintro e w4 ⟨rfl, hrd, hb4, hs4, hoth4⟩; have HD4 := hid hrd; have HB4 := hid hb4; have HS4 := hid hs4; have HO4 := hid hoth4; clear hrd hb4 hs4 hoth4; refine Hid.out ?_))
      refine hid ?_
      go_wp2
      refine bodyPost_ret (res4 Tryd.f12 2 3 4 5 Tryd.results12 _ _ _ _ _ _ (by rfl) (by rfl) (by rfl) (by rfl)) rfl ?_
      exact ⟨⟨none, 0, by simp, ts_nil _⟩, HD4.out, (HB1.out.mono hbase).trans HB4.out, Nat.le_trans HB1.out.size HS4.out, fun b hb hbR => (HO4.out b hbR).trans (HB1.out.block b hb)⟩
end Go.Proofs.YtolabllgnfpfaaaDoor
