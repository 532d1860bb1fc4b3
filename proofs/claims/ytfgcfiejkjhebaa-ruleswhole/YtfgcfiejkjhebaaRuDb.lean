/-
  A book does what it is told: the walk.
-/
import Derived.Test.YtfgcfiejkjhebaaGe
namespace Go.Proofs.Ytfgcfiejkjhebaa
open Go.RowKit Go.Deep Go.Shelf
set_option linter.unusedVariables false
set_option linter.unusedSimpArgs false
set_option maxHeartbeats 8000000
set_option maxRecDepth 100000
theorem cmr_cells {U : World} {R : Nat} {c : Cm} (hR : U.heap[R]? = some (.cells (cmr c) 33 (0, 0))) : U.cell? ⟨R, 0, none⟩ = some (.int .i64 c.kd) ∧ U.cell? ⟨R, 1, none⟩ = some (.int .u64 c.id) ∧ U.cell? ⟨R, 2, none⟩ = some (.int .u64 c.tg) ∧ U.cell? ⟨R, 3, none⟩ = some (.int .u32 c.mb) ∧ U.cell? ⟨R, 4, none⟩ = some (.int .i64 c.sd) ∧ U.cell? ⟨R, 5, none⟩ = some (.int .i64 c.ty) ∧ U.cell? ⟨R, 6, none⟩ = some (.int .i64 c.pr) ∧ U.cell? ⟨R, 7, none⟩ = some (.int .u64 c.qt) ∧ U.cell? ⟨R, 8, none⟩ = some (.int .u64 c.pk) := by
  have a0 := row_cell hR 0
  have a1 := row_cell hR 1
  have a2 := row_cell hR 2
  have a3 := row_cell hR 3
  have a4 := row_cell hR 4
  have a5 := row_cell hR 5
  have a6 := row_cell hR 6
  have a7 := row_cell hR 7
  have a8 := row_cell hR 8
  simp only [cmr, List.getElem?_toArray, List.getElem?_cons_succ, List.getElem?_cons_zero] at a0 a1 a2 a3 a4 a5 a6 a7 a8
  exact ⟨a0, a1, a2, a3, a4, a5, a6, a7, a8⟩
theorem crow_cells {U : World} {R : Nat} {o : Or} {s q : Int} (hR : U.heap[R]? = some (.cells (crow o s q) 61 (0, 0))) : U.cell? ⟨R, 0, none⟩ = some (.int .u64 o.id) ∧ U.cell? ⟨R, 1, none⟩ = some (.int .u32 o.mb) ∧ U.cell? ⟨R, 2, none⟩ = some (.int .i64 o.ty) ∧ U.cell? ⟨R, 3, none⟩ = some (.int .i64 o.pr) ∧ U.cell? ⟨R, 4, none⟩ = some (.int .u64 o.vi) ∧ U.cell? ⟨R, 5, none⟩ = some (.int .u64 o.hi) ∧ U.cell? ⟨R, 6, none⟩ = some (.int .u64 o.pk) ∧ U.cell? ⟨R, 7, none⟩ = some (.int .i64 s) ∧ U.cell? ⟨R, 8, none⟩ = some (.int .u64 q) := by
  have a0 := row_cell hR 0
  have a1 := row_cell hR 1
  have a2 := row_cell hR 2
  have a3 := row_cell hR 3
  have a4 := row_cell hR 4
  have a5 := row_cell hR 5
  have a6 := row_cell hR 6
  have a7 := row_cell hR 7
  have a8 := row_cell hR 8
  simp only [crow, List.getElem?_toArray, List.getElem?_cons_succ, List.getElem?_cons_zero] at a0 a1 a2 a3 a4 a5 a6 a7 a8
  exact ⟨a0, a1, a2, a3, a4, a5, a6, a7, a8⟩
theorem crow_cellsU {U : World} {R : Nat} {o : Or} {s q : Int} (hR : U.heap[R]? = some (.cells #[.int .u64 o.id, .int .u32 o.mb, .int .i64 o.ty, .int .i64 o.pr, .int .u64 o.vi, .int .u64 o.hi, .int .u64 o.pk, .int .i64 s, .int .u64 q] 61 (0, 0))) : U.cell? ⟨R, 0, none⟩ = some (.int .u64 o.id) ∧ U.cell? ⟨R, 1, none⟩ = some (.int .u32 o.mb) ∧ U.cell? ⟨R, 2, none⟩ = some (.int .i64 o.ty) ∧ U.cell? ⟨R, 3, none⟩ = some (.int .i64 o.pr) ∧ U.cell? ⟨R, 4, none⟩ = some (.int .u64 o.vi) ∧ U.cell? ⟨R, 5, none⟩ = some (.int .u64 o.hi) ∧ U.cell? ⟨R, 6, none⟩ = some (.int .u64 o.pk) ∧ U.cell? ⟨R, 7, none⟩ = some (.int .i64 s) ∧ U.cell? ⟨R, 8, none⟩ = some (.int .u64 q) := crow_cells hR
theorem Td.evs {w0 : World} {G : Nat → Prop} {T B : Nat} {b : Bs} {ve : Value} {es : List Ev} {U : World} (h : Td w0 G T B b ve es U) : ∃ p c, ve = .slice p es.length c ∧ U.cell? ⟨T, 1, none⟩ = some (.slice p es.length c) := by
  obtain ⟨p, c, rfl⟩ := own_form h.tn.ev
  have t := row_cell h.tn.row 1
  simp only [List.getElem?_toArray, List.getElem?_cons_succ, List.getElem?_cons_zero] at t
  exact ⟨p, c, rfl, t⟩
theorem do_any (B : Nat) (b : Bs) (c : Cm) (w : World) (h : Bm w B b) (hv : Vb b) (hc : CmOk c) :
    Calls Try.prog 7 #[.pointer (some ⟨B, 0, none⟩), .agg (cmr c)] w fun e w' => ∃ T b' ve' es', e = .returned ve' ∧ Td w (b.fp B) T B b' ve' es' w' ∧ Did b c b' es' := by
  obtain ⟨R, hR⟩ : ∃ R, w.heap.size = R := ⟨_, rfl⟩
  obtain ⟨W, hW⟩ : ∃ W, w.alloc (.cells (cmr c) 33) = W := ⟨_, rfl⟩
  obtain ⟨T, hT⟩ : ∃ T, W.heap.size = T := ⟨_, rfl⟩
  obtain ⟨W2, hW2⟩ : ∃ W2, W.alloc (.cells #[.pointer (some ⟨B, 0, none⟩), .slice none 0 0] 55) = W2 := ⟨_, rfl⟩
  have hb : Below w.heap.size w W := by rw [← hW]; exact ball _ _
  have hb2 : Below W.heap.size W W2 := by rw [← hW2]; exact ball _ _
  have hx : W2.heap[R]? = some (.cells (cmr c) 33 (0, 0)) := row_on (by rw [← hW, ← hR]; exact World.alloc_heap_new _ _) hb2
  have hbw : Below w.heap.size w W2 := btr hb hb2
  have hwT : w.heap.size ≤ T := by rw [← hT]; exact hb.size
  have htd : Td w (b.fp B) T B b (.slice none 0 0) [] W2 := by
    refine ⟨⟨h.on hbw, by rw [← hW2, ← hT]; exact World.alloc_heap_new _ _, ⟨rfl, .inl ⟨rfl, rfl⟩⟩⟩, Kp.of _ hbw, ?_⟩
    rintro j ((e | e | e) | e)
    · exact .inr (by omega)
    · exact .inl (.inl e)
    · cases e
    · exact .inl e
  have CRF := hid (refusal_any B b c W2 htd.tn.bm hc hv.len)
  have CRJ := hid (fun (U : World) (y : Int) (hU : Below W2.heap.size W2 U) => (reject_any T B b (.slice none 0 0) [] c y U (htd.on hU).tn (by simp)).mono (R' := fun e w' => e = .returned (.tuple #[]) ∧ ∃ ve', Td w (b.fp B) T B b.told ve' [(evR c y).num (nx b.seq)] w') (fun e w' hh => ⟨hh.1, (htd.on hU).told hh.2⟩))
  have HCE := hid (fun (U : World) (hU : Below W2.heap.size W2 U) => cmr_cells (row_on hx hU))
  have COD := hid (fun (U : World) (hU : Below W2.heap.size W2 U) => order_any B b c U (htd.on hU).tn.bm hv.len)
  have HX := hid hx
  have HTD := hid htd
  have HW := hid hW
  have HW2 := hid hW2
  have HRR := hid hR
  have HTT := hid (show R + 1 = T from by rw [← hT, ← hW, ← hR]; simp)
  have HV := hid hv
  have HC := hid hc
  obtain ⟨y, hy⟩ : ∃ y, rfs b c = y := ⟨_, rfl⟩
  have HY := hid hy
  rw [hy] at CRF
  have CAN := hid (fun (U : World) (r : Int) (o : Or) (s : Int) (k i : Nat) (hf : Fd b c.tg o s k i) (hU : Below W2.heap.size W2 U) => (show Calls Try.prog 19 #[.pointer (some ⟨T, 0, none⟩), .int .u64 c.tg, .int .i64 r] U fun e w' => e = .returned (.tuple #[]) ∧ ∃ ve', Td w (b.fp B) T B (b.del s i).told ve' [(evC c.tg (o.vi + o.hi) r).num (nx b.seq)] w' ∧ Kp (gfp b T B (.slice none 0 0)) U w' from by
    obtain ⟨j, hj⟩ := hf.mem
    have ho := hv.ok s (j, o) hj
    obtain ⟨o1, o2, o3, o4⟩ := ho
    simp only at o1 o2 o3 o4
    exact (cancel_any T B b (.slice none 0 0) [] c.tg r o s k i U (htd.on hU).tn (by simp) hv.len hf.fs hf.fk hf.ff hf.fi (by rw [IntKind.wrap_u64]; omega)).mono (fun e w' hh => ⟨hh.1, (htd.on hU).fewer hf.side hh.2⟩)))
  have CTK := hid (fun (U : World) (b1 : Bs) (ve1 : Value) (es1 : List Ev) (o : Or) (s q : Int) (hU : Td w (b.fp B) T B b1 ve1 es1 U) (h1 : Vb b1) (hs : s = 1 ∨ s = 2) (q0 : 1 ≤ q) (q1 : q ≤ 4294967295) (he : es1.length ≤ 1) (hp : 0 ≤ o.pk) => (show Calls Try.prog 20 #[.pointer (some ⟨T, 0, none⟩), .agg (crow o s q)] U fun e w' => e = .returned (.tuple #[]) ∧ ∃ b' ve' es', Td w (b.fp B) T B b' ve' es' w' ∧ Took b1 es1 o s q b' es' from by
    have l1 := h1.len
    have l2 := b1.sl_le (oth s)
    exact (take_any T B b1 ve1 es1 o s q U hU.tn h1 hs (by omega) (by omega) (by unfold mes; omega) hp).mono (fun e w' hh => by
      obtain ⟨rfl, b', ve', es', h3, h4⟩ := hh
      exact ⟨rfl, b', ve', es', hU.trans h3, h4⟩)))
  have HPK := hid (show 0 ≤ (ord (cmN b c)).pk from by
    have : (cmN b c).pk = c.pk := by unfold cmN; split <;> rfl
    show 0 ≤ (cmN b c).pk
    rw [this]; exact hc.pk0)
  clear hW hW2 hT hR hb hb2 hx hbw hwT htd hy h hv hc
  unfold cmr
  go_enter Try.func7, Try.ntmps7
  go_upto_region 2 with fail
  have e0 := HRR.out
  have e1 := HW.out
  unfold cmr at e1
  have e2 := HTT.out
  have e3 := HW2.out
  rw [e0, e1, e2, e3]
  clear e0 e1 e2 e3
  unfold cmr at CRF CRJ COD
  obtain ⟨a0, a1, a2, a3, a4, a5, a6, a7, a8⟩ := HCE.out W2 (Below.refl _ _)
  by_cases y0 : y = 0
  · subst y0
    rcases rfs_zero HY.out with ⟨k2, o, s, k, i, hf⟩ | ⟨k1, hsd, hq1, hq2⟩ | ⟨k3, ⟨o, s, k, i, hf⟩, hq1, hq2⟩
    · have HF := hid hf
      clear hf
      rw [k2] at a0
      rw [k2] at HCE CRF
      have CAN1 := hid (fun U hU => CAN.out U 1 o s k i HF.out hU)
      go_wp2_with (first | (go_at_call 17; with_reducible refine (CRF.out).mono ?_; rintro e w1 ⟨rfl, hb1⟩; have HB1 := hid hb1; obtain ⟨c0, c1, c2, c3, c4, c5, c6, c7, c8⟩ := HCE.out w1 hb1; clear hb1) | (go_at_call 19; with_reducible refine (CAN1.out w1 HB1.out).mono ?_; rintro e w2 ⟨rfl, ve2, h2, hk2⟩; obtain ⟨p2, q2, rfl, t1⟩ := h2.evs; have H2 := hid h2; clear h2 hk2))
      go_ret
      exact ⟨T, _, _, _, rfl, H2.out, .inr (.inl ⟨HY.out, k2, o, s, k, i, HF.out, rfl, rfl⟩)⟩
    · have k1' : (c.kd == 2) = false := by simp [k1]
      have HSD := hid (show (cmN b c).sd = 1 ∨ (cmN b c).sd = 2 from by
        have : cmN b c = c := by unfold cmN; rw [if_neg (by omega)]
        rw [this]; exact hsd)
      rw [k1] at a0
      rw [k1] at HCE COD CRF
      have CTK1 := hid (fun U hU => CTK.out U b (.slice none 0 0) [] (ord (cmN b c)) (cmN b c).sd c.qt hU HV.out HSD.out hq1 hq2 (by simp) HPK.out)
      clear hsd
      go_wp2_with (first | (go_at_call 17; with_reducible refine (CRF.out).mono ?_; rintro e w1 ⟨rfl, hb1⟩; have HB1 := hid hb1; obtain ⟨c0, c1, c2, c3, c4, c5, c6, c7, c8⟩ := HCE.out w1 hb1; clear hb1) | (go_at_call 21; with_reducible refine (COD.out w1 HB1.out).mono ?_; rintro e w3 ⟨rfl, hb3⟩; have H3 := hid ((HTD.out.on HB1.out).on hb3); clear hb3) | (go_at_call 20; with_reducible refine (CTK1.out w3 H3.out).mono ?_; rintro e w2 ⟨rfl, b2, ve2, es2, h2, ht2⟩; obtain ⟨p2, q2, rfl, t1⟩ := h2.evs; have H2 := hid h2; have HT2 := hid ht2; clear h2 ht2))
      go_ret
      exact ⟨T, _, _, _, rfl, H2.out, .inr (.inr (.inl ⟨HY.out, k1, HT2.out⟩))⟩
    · have HF := hid hf
      have HSD := hid (show (cmN b c).sd = 1 ∨ (cmN b c).sd = 2 from by
        have : (cmN b c).sd = s := by unfold cmN; rw [if_pos k3, hf.ff]
        rw [this]; exact hf.side)
      clear hf
      rw [k3] at a0
      rw [k3] at HCE COD CRF
      obtain ⟨ob, hob⟩ : ∃ ob, ord (cmN b c) = ob := ⟨_, rfl⟩
      obtain ⟨sb, hsb⟩ : ∃ sb, (cmN b c).sd = sb := ⟨_, rfl⟩
      rw [hob, hsb] at COD
      rw [hob] at HPK
      rw [hsb] at HSD
      have HOB := hid hob
      have HSB := hid hsb
      clear hob hsb
      have KEY := hid (fun (w3 : World) (hb3 : Below W2.heap.size W2 w3) => (show Calls Try.prog 19 #[.pointer (some ⟨T, 0, none⟩), .int .u64 c.tg, .int .i64 2] (w3.alloc (.cells (crow ob sb c.qt) 61)) fun e w' => e = .returned (.tuple #[]) ∧ ∃ ve', Td w (b.fp B) T B (b.del s i).told ve' [(evC c.tg (o.vi + o.hi) 2).num (nx b.seq)] w' ∧ w'.heap[w3.heap.size]? = some (.cells (crow ob sb c.qt) 61 (0, 0)) from by
        have h5 := btr hb3 (ball w3 (.cells (crow ob sb c.qt) 61))
        refine (CAN.out _ 2 o s k i HF.out h5).mono ?_
        rintro e w' ⟨rfl, ve', h1, h2⟩
        have hr := World.alloc_heap_new w3 (.cells (crow ob sb c.qt) 61)
        exact ⟨rfl, ve', h1, h2.row hr ((HTD.out.on h5).neR hr (by decide))⟩))
      have CTK1 := hid (fun U ve hU => CTK.out U (b.del s i).told ve [(evC c.tg (o.vi + o.hi) 2).num (nx b.seq)] ob sb c.qt hU (HV.out.del HF.out.side i).told HSD.out hq1 hq2 (Nat.le_refl 1) HPK.out)
      unfold crow at KEY COD CTK1
      go_wp2_with (first | (go_at_call 17; with_reducible refine (CRF.out).mono ?_; rintro e w1 ⟨rfl, hb1⟩; have HB1 := hid hb1; obtain ⟨c0, c1, c2, c3, c4, c5, c6, c7, c8⟩ := HCE.out w1 hb1; clear hb1) | (go_at_call 21; with_reducible refine (COD.out w1 HB1.out).mono ?_; rintro e w3 ⟨rfl, hb3⟩; have HB3 := hid (btr HB1.out hb3); obtain ⟨d0, d1, d2, d3, d4, d5, d6, d7, d8⟩ := HCE.out w3 (btr HB1.out hb3); have n3 := row_lt (row_on HX.out (btr HB1.out hb3)); have m3 : R ≠ w3.heap.size := (by omega); clear hb3) | (go_at_call 19; with_reducible refine (KEY.out w3 HB3.out).mono ?_; rintro e w4 ⟨rfl, ve4, h4, hx4⟩; obtain ⟨f0, f1, f2, f3, f4, f5, f6, f7, f8⟩ := crow_cellsU hx4; have H4 := hid h4; clear h4 hx4) | (go_at_call 20; with_reducible refine (CTK1.out w4 ve4 H4.out).mono ?_; rintro e w2 ⟨rfl, b2, ve2, es2, h2, ht2⟩; obtain ⟨p2, q2, rfl, t1⟩ := h2.evs; have H2 := hid h2; have HT2 := hid ht2; clear h2 ht2))
      go_ret
      exact ⟨T, _, _, _, rfl, H2.out, .inr (.inr (.inr ⟨HY.out, k3, o, s, k, i, HF.out, by rw [HOB.out, HSB.out]; exact HT2.out⟩))⟩
  · have y0' : (y != 0) = true := by simpa using y0
    go_wp2_with (first | (go_at_call 17; with_reducible refine (CRF.out).mono ?_; rintro e w1 ⟨rfl, hb1⟩; have HB1 := hid hb1; obtain ⟨c0, c1, c2, c3, c4, c5, c6, c7, c8⟩ := HCE.out w1 hb1; clear hb1) | (go_at_call 18; with_reducible refine (CRJ.out w1 _ HB1.out).mono ?_; rintro e w2 ⟨rfl, ve2, h2⟩; obtain ⟨p2, q2, rfl, t1⟩ := h2.evs; have H2 := hid h2; clear h2))
    go_ret
    exact ⟨T, _, _, _, rfl, H2.out, .inl ⟨by rw [HY.out]; exact y0, rfl, by rw [HY.out]⟩⟩
end Go.Proofs.Ytfgcfiejkjhebaa
