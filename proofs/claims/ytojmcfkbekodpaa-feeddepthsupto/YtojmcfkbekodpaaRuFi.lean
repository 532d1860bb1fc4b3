/-
  An order is tried on a book of its own.
-/
import Derived.Test.YtojmcfkbekodpaaKg
import Derived.Test.YtojmcfkbekodpaaRuBk
import Derived.Test.YtojmcfkbekodpaaRuOp
namespace Go.Proofs.Ytojmcfkbekodpaa
open Go.RowKit Go.Deep Go.Shelf
set_option linter.unusedVariables false
set_option linter.unusedSimpArgs false
set_option maxHeartbeats 8000000
set_option maxRecDepth 100000
/-- the same book at other blocks. -/
structure Sm (b b2 : Bs) : Prop where
  num : b2.cap = b.cap ∧ b2.meet = b.meet ∧ b2.high = b.high ∧ b2.seq = b.seq
  o1 : b2.l1.map (·.2) = b.l1.map (·.2)
  o2 : b2.l2.map (·.2) = b.l2.map (·.2)
theorem Sm.sl {b b2 : Bs} (h : Sm b b2) (s : Int) : (b2.sl s).map (·.2) = (b.sl s).map (·.2) := by
  unfold Bs.sl
  split
  · exact h.o1
  · exact h.o2
theorem Sm.len {b b2 : Bs} (h : Sm b b2) (s : Int) : (b2.sl s).length = (b.sl s).length := by
  have := congrArg List.length (h.sl s)
  simpa using this
theorem srt_map {s : Int} {l l2 : LO} (h : l2.map (·.2) = l.map (·.2)) (k : Srt s l) : Srt s l2 := by
  rw [srt_pw] at k ⊢
  have e : ∀ l : LO, l.Pairwise (fun a b => btt s b.2.pr a.2.pr = false) ↔ (l.map (·.2)).Pairwise (fun a b => btt s b.pr a.pr = false) := fun l => by rw [List.pairwise_map]
  rw [e] at k ⊢
  rw [h]
  exact k
theorem Sm.vb {b b2 : Bs} (h : Sm b b2) (v : Vb b) : Vb b2 := by
  refine ⟨fun s y hy => ?_, fun s hs => srt_map (h.sl s) (v.srt s hs), ?_, ?_⟩
  · have : y.2 ∈ (b2.sl s).map (·.2) := List.mem_map.2 ⟨y, hy, rfl⟩
    rw [h.sl s] at this
    obtain ⟨z, hz, e⟩ := List.mem_map.1 this
    rw [← e]
    exact v.ok s z hz
  · have := v.ids
    unfold Ids at this ⊢
    have e : ∀ l : LO, l.map (·.2.id) = (l.map (·.2)).map (·.id) := fun l => by simp
    rw [e, List.map_append] at this ⊢
    rw [h.o1, h.o2]
    exact this
  · have a := congrArg List.length h.o1
    have c := congrArg List.length h.o2
    have := v.len
    simp at a c
    omega
/-- what is left of a quantity behind the trades told. -/
def fld (q : Int) : List Ev → Int
  | [] => q
  | e :: es => fld (if e.kd = 3 then IntKind.u64.wrap (q - e.qt) else q) es
theorem fld_snoc (q : Int) (es : List Ev) (e : Ev) : fld q (es ++ [e]) = if e.kd = 3 then IntKind.u64.wrap (fld q es - e.qt) else fld q es := by
  induction es generalizing q with
  | nil => rfl
  | cons x l ih => exact ih _
theorem evs_get {es : List Ev} {i : Nat} (hi : i < es.length) {j : Nat} (hj : j < 13) : (evs es)[i * 13 + j]? = (ecs es[i])[j]? := by
  induction es generalizing i with
  | nil => simp at hi
  | cons x l ih =>
    cases i with
    | zero =>
      simp only [evs, List.flatMap_cons, Nat.zero_mul, Nat.zero_add, List.getElem_cons_zero]
      rw [List.getElem?_append_left (by rw [ecs_len]; omega)]
    | succ i =>
      have := ih (i := i) (by simpa using hi)
      simp only [evs, List.flatMap_cons, List.getElem_cons_succ] at this ⊢
      rw [List.getElem?_append_right (by rw [ecs_len]; omega), ecs_len, show (i + 1) * 13 + j - 13 = i * 13 + j by omega]
      exact this
/-- an event's cells in memory. -/
theorem ev_cells {base : Nat} {w : World} {ve : Value} {es : List Ev} (h : w.ownsRow base 45 13 ve es.length (evs es)) {i : Nat} (hi : i < es.length) : ∃ g c, ve = .slice (some ⟨g, 0, none⟩) es.length c ∧ es.length ≤ maxLen ∧ (∃ cur, w.heap[g]? = some (.cells cur 45 (0, 0))) ∧ ∀ j, j < 13 → w.cell? ⟨g, i * 13 + j, none⟩ = (ecs es[i])[j]? := by
  obtain ⟨h1, ⟨e, e2⟩ | ⟨g, c', cur, e, r1, r2, r3, r4, r5, r6⟩⟩ := h
  · omega
  · refine ⟨g, c', e, Nat.le_trans r3 r4, ⟨cur, r2⟩, fun j hj => ?_⟩
    have := congrArg (fun z => z[i * 13 + j]?) r6
    have hlt : i * 13 + j < es.length * 13 := by omega
    simp only [List.getElem?_take, hlt, if_true, Array.getElem?_toList] at this
    rw [row_cell r2, this, evs_get hi hj]
def Or.ioc (o : Or) : Or := { o with ty := 3 }
theorem fills_any (B : Nat) (b : Bs) (o : Or) (s q : Int) (w : World) (h : Bm w B b) (hv : Vb b) (hs : s = 1 ∨ s = 2) (hq0 : 0 ≤ q) (hq1 : q < 4294967296) (hpk : 0 ≤ o.pk) :
    Calls Try.prog 55 #[.pointer (some ⟨B, 0, none⟩), .agg (crow o s q)] w fun e w' => (∃ b2 n b' es', Sm b b2 ∧ Came o.ioc s (cms o.ioc s (mes b s q + 1) (b2, [], q)) n b' es' ∧ e = .returned (.bool (fld q es' == 0))) ∧ Below w.heap.size w w' := by
  obtain ⟨R, hR⟩ : ∃ R, w.heap.size = R := ⟨_, rfl⟩
  obtain ⟨W, hW⟩ : ∃ W, w.alloc (.cells (crow o s q) 88) = W := ⟨_, rfl⟩
  have hb : Below w.heap.size w W := by rw [← hW]; exact ball _ _
  have hx : W.heap[R]? = some (.cells (crow o s q) 88 (0, 0)) := by rw [← hW, ← hR]; exact World.alloc_heap_new _ _
  have HW := hid hW
  have HBW := hid hb
  have HX := hid hx
  have CB := hid (book_any B b W (h.on hb) hv.len)
  have HV := hid hv
  have HS := hid hs
  have HRR := hid hR
  have HPK := hid hpk
  have CO := hid (fun (U : World) (v1 v2 : Value) (hU : Below W.heap.size W U) (h1 : U.ownsRow W.heap.size 86 7 v1 b.l1.length (ors (osl b.l1))) (h2 : U.ownsRow W.heap.size 86 7 v2 b.l2.length (ors (osl b.l2))) => (show Calls Try.prog 24 #[.agg (bkv b v1 v2)] U fun e w' => ∃ B2 b2, e = .returned (.pointer (some ⟨B2, 0, none⟩)) ∧ Opd W w' B2 b2 b.cap b.meet (osl b.l1) (osl b.l2) b.high b.seq from by
    obtain ⟨x1, y1, rfl⟩ := own_form h1
    obtain ⟨x2, y2, rfl⟩ := own_form h2
    have l1 : (osl b.l1).length = b.l1.length := by simp [osl]
    have l2 : (osl b.l2).length = b.l2.length := by simp [osl]
    have := hv.len
    have H := opened_any b.cap b.meet x1 y1 (osl b.l1) x2 y2 (osl b.l2) b.high b.seq U (by rw [l1]; exact own_base h1 (Nat.zero_le _)) (by rw [l2]; exact own_base h2 (Nat.zero_le _)) (by omega)
    rw [l1, l2] at H
    refine H.mono ?_
    rintro e w' ⟨B2, b2, rfl, hO⟩
    exact ⟨B2, b2, rfl, hO.bm, hO.num, hO.o1, hO.o2, fun j hj => Nat.le_trans hU.size (hO.nw j hj), btr hU hO.be⟩))
  clear hW hb hx h hv hs hR hpk
  unfold crow
  go_enter Try.func55, Try.ntmps55
  go_upto_region 1 with fail
  have e1 := HRR.out
  rw [e1]
  clear e1
  have e0 := HW.out
  unfold crow at e0
  rw [e0]
  clear e0
  go_upto_region 2 with (first | (go_at_call 74; with_reducible refine (CB.out).mono ?_; rintro e w1 ⟨v1, v2, rfl, ho1, ho2, hb1⟩; obtain ⟨x1, y1, rfl⟩ := own_form ho1; obtain ⟨x2, y2, rfl⟩ := own_form ho2; have HCO := hid (CO.out w1 _ _ hb1 ho1 ho2); clear ho1 ho2 hb1) | (go_at_call 24; with_reducible refine (HCO.out).mono ?_; rintro e w2 ⟨B2, b2, rfl, h2⟩; have H2 := hid h2; clear h2))
  have HSM := hid (show Sm b b2 from ⟨H2.out.num, H2.out.o1, H2.out.o2⟩)
  obtain ⟨W4, hW4⟩ : ∃ W4, (w2.alloc (.cells #[.pointer (some ⟨B2, 0, none⟩), .slice none 0 0] 80)).setCell ⟨R, 2, none⟩ (.int .i64 3) = W4 := ⟨_, rfl⟩
  obtain ⟨T, hT⟩ : ∃ T, w2.heap.size = T := ⟨_, rfl⟩
  have hx3 : (w2.alloc (.cells #[.pointer (some ⟨B2, 0, none⟩), .slice none 0 0] 80)).heap[R]? = some (.cells (crow o s q) 88 (0, 0)) := row_on (row_on HX.out H2.out.be) (ball _ _)
  have hk4 : Kp (fun j => j = R) (w2.alloc (.cells #[.pointer (some ⟨B2, 0, none⟩), .slice none 0 0] 80)) W4 := by rw [← hW4]; exact Kp.set _ R 2 _
  have hx4 : W4.heap[R]? = some (.cells (crow o.ioc s q) 88 (0, 0)) := by rw [← hW4, set_row _ hx3]; rfl
  have ht3 : Tn (w2.alloc (.cells #[.pointer (some ⟨B2, 0, none⟩), .slice none 0 0] 80)) T B2 b2 (.slice none 0 0) [] := ⟨H2.out.bm.on (ball _ _), by rw [← hT]; exact World.alloc_heap_new _ _, ⟨rfl, .inl ⟨rfl, rfl⟩⟩⟩
  have ht4 : Tn W4 T B2 b2 (.slice none 0 0) [] := ⟨ht3.bm.kept hk4 (fun j hj => ht3.bm.ne hx3 (by decide) (by decide) (by decide) hj), hk4.row ht3.row (row_ne ht3.row hx3 (by decide)), ⟨rfl, .inl ⟨rfl, rfl⟩⟩⟩
  have hbR : Below R W W4 := ((H2.out.be.mono (by have := HBW.out.size; have := HRR.out; omega)).trans ((ball w2 _).mono (by have := H2.out.be.size; have := HBW.out.size; have := HRR.out; omega))).trans (hk4.below (by have := H2.out.be.size; have := HBW.out.size; have := HRR.out; simp; omega) (fun g hg e => by omega))
  have sW : R < W.heap.size := row_lt HX.out
  have hTW : W.heap.size ≤ T := by rw [← hT]; exact H2.out.be.size
  have HCC := hid (show Calls Try.prog 56 #[.pointer (some ⟨T, 0, none⟩), .agg (crow o.ioc s q)] W4 fun e w' => e = .returned (.tuple #[]) ∧ ∃ b' ve' es', Tn w' T B2 b' ve' es' ∧ w'.heap[R]? = some (.cells (crow o.ioc s q) 88 (0, 0)) ∧ Below R W w' ∧ Came o.ioc s (cms o.ioc s (mes b s q + 1) (b2, [], q)) W4.heap.size b' es' from by
    have hl2 := HSM.out.len (oth s)
    have hm : mes b2 s q = mes b s q := by unfold mes; rw [hl2]
    have hsl := HV.out.len
    have hle := b.sl_le (oth s)
    refine (come_any T B2 b2 (.slice none 0 0) [] o.ioc s q W4 ht4 (HSM.out.vb HV.out) HS.out hq0 hq1 (by rw [hm]; unfold mes; simp; omega) HPK.out).mono ?_
    rintro e w' ⟨rfl, b', ve', es', htd, hc⟩
    rw [hm] at hc
    have hG : ∀ j, gfp b2 T B2 (.slice none 0 0) j → W.heap.size ≤ j := by
      rintro j ((e | e | e) | e)
      · omega
      · exact H2.out.nw j (.inl e)
      · cases e
      · exact H2.out.nw j e
    refine ⟨rfl, b', ve', es', htd.tn, htd.kp.row hx4 (fun hg => by have := hG R hg; omega), ?_, hc⟩
    exact hbR.trans (htd.kp.below (by have := row_lt hx4; omega) (fun j hj hg => by have := hG j hg; omega)))
  have f2 := row_frz hx3 2
  have c2 := row_cell hx3 2
  simp only [crow, List.getElem?_toArray, List.getElem?_cons_succ, List.getElem?_cons_zero] at c2
  have HX4 := hid hx4
  have HW4 := hid hW4
  rw [hT]
  clear hx3 hk4 hx4 ht3 ht4 hbR hT hW4
  go_upto_region 3 with fail
  have e0 := HW4.out
  rw [e0]
  clear e0 f2 c2
  have a0 := row_cell HX4.out 0
  have a1 := row_cell HX4.out 1
  have a2 := row_cell HX4.out 2
  have a3 := row_cell HX4.out 3
  have a4 := row_cell HX4.out 4
  have a5 := row_cell HX4.out 5
  have a6 := row_cell HX4.out 6
  have a7 := row_cell HX4.out 7
  have a8 := row_cell HX4.out 8
  simp only [crow, Or.ioc, List.getElem?_toArray, List.getElem?_cons_succ, List.getElem?_cons_zero] at a0 a1 a2 a3 a4 a5 a6 a7 a8
  unfold crow at HCC
  simp only [Or.ioc] at HCC
  go_upto_region 4 with (go_at_call 56; with_reducible refine (HCC.out).mono ?_; rintro e w5 ⟨rfl, b', ve', es', h5, hx5, hb5, hc5⟩; have H5 := hid h5; have HX5 := hid hx5; have HB5 := hid hb5; have HC5 := hid hc5; clear h5 hx5 hb5 hc5)
  clear a0 a1 a2 a3 a4 a5 a6 a7 a8
  obtain ⟨pe, ce, hve⟩ := own_form H5.out.ev
  subst hve
  obtain ⟨n, hn⟩ : ∃ n, es'.length = n := ⟨_, rfl⟩
  have t1 := row_cell H5.out.row 1
  simp only [List.getElem?_toArray, List.getElem?_cons_succ, List.getElem?_cons_zero] at t1
  rw [hn] at t1
  have HN := hid hn
  clear hn
  go_wp2_with fail
  go_loopw [19] (fun iv wr => ∃ i : Nat, i ≤ n ∧ iv = .int .i64 i ∧ Hid (Kp (fun j => j = R) w5 wr) ∧ Hid (wr.heap[R]? = some (.cells (crow o.ioc s (fld q (es'.take i))) 88 (0, 0)))) (fun iv _ => n - (intOf iv).toNat)
  case atStart => exact ⟨0, Nat.zero_le _, rfl, hid (Kp.refl _ _), HX5⟩
  case round =>
    obtain ⟨i, hin, rfl, HK, HXR⟩ := hrel
    have d8 := row_cell HXR.out 8
    have z8 := row_frz HXR.out 8
    simp only [crow, List.getElem?_toArray, List.getElem?_cons_succ, List.getElem?_cons_zero] at d8
    obtain ⟨Q, hQ⟩ : ∃ Q, fld q (es'.take i) = Q := ⟨_, rfl⟩
    rw [hQ] at d8
    by_cases hlt : i < n
    · have hil : i < es'.length := by rw [HN.out]; exact hlt
      obtain ⟨g, c, hp, hmx, ⟨cur, hcu⟩, hcc⟩ := ev_cells H5.out.ev hil
      have hp' := (Value.slice.inj hp).1
      subst hp'
      have hgR : g ≠ R := row_ne hcu HX5.out (by decide)
      have hcur := HK.out.row hcu hgR
      rw [HN.out] at hmx
      obtain ⟨e, he⟩ : ∃ e, es'[i] = e := ⟨_, rfl⟩
      have rr : ∀ j, j < 13 → wr.cell? ⟨g, i * 13 + j, none⟩ = (ecs e)[j]? := fun j hj => by
        rw [← he, ← hcc j hj, row_cell hcur, row_cell hcu]
      have r0 := rr 0 (by omega)
      have r1 := rr 1 (by omega)
      have r2 := rr 2 (by omega)
      have r3 := rr 3 (by omega)
      have r4 := rr 4 (by omega)
      have r5 := rr 5 (by omega)
      have r6 := rr 6 (by omega)
      have r7 := rr 7 (by omega)
      have r8 := rr 8 (by omega)
      have r9 := rr 9 (by omega)
      have r10 := rr 10 (by omega)
      have r11 := rr 11 (by omega)
      have r12 := rr 12 (by omega)
      simp only [ecs, List.getElem?_cons_succ, List.getElem?_cons_zero, Nat.add_zero] at r0 r1 r2 r3 r4 r5 r6 r7 r8 r9 r10 r11 r12
      have HT := hid (show fld q (es'.take (i + 1)) = if e.kd = 3 then IntKind.u64.wrap (Q - e.qt) else Q from by
        rw [List.take_succ_eq_append_getElem hil, he, fld_snoc, hQ])
      have HQ := hid hQ
      have sR := row_lt HXR.out
      have nR : R ≠ wr.heap.size := by omega
      have i0' : (0 : Int) ≤ (i : Int) := by omega
      have i1 : (i : Int) < (n : Int) := by omega
      have hmx' : n < 9223372036854775808 := by unfold maxLen at hmx; omega
      have HAL := hid (fun ob => (show (wr.alloc ob).heap[R]? = some (.cells (crow o.ioc s Q) 88 (0, 0)) from by have := row_on HXR.out (ball wr ob); rw [HQ.out] at this; exact this))
      clear hcur hcu hcc rr he hQ hp hmx
      by_cases k3 : e.kd = 3
      · rw [k3] at r1
        go_wp2
        go_roundw
        case rel =>
          refine ⟨i + 1, by omega, by go_num, hid ?_, hid ?_⟩
          · exact (HK.out.trans (Kp.set wr R 8 _) (fun _ _ h => h)).trans (Kp.of (fun j => j = R) (ball _ _)) (fun _ _ h => h)
          · rw [HT.out, if_pos k3]
            refine row_on ?_ (ball _ _)
            rw [set_row _ HXR.out]
            rfl
        case measure => simp [intOf]; omega
      · have k3' : (e.kd == 3) = false := by simpa using k3
        go_wp2
        go_roundw
        case rel =>
          refine ⟨i + 1, by omega, by go_num, hid ?_, hid ?_⟩
          · exact HK.out.trans (Kp.of (fun j => j = R) (ball wr _)) (fun _ _ h => h)
          · rw [HT.out, if_neg k3]
            exact HAL.out _
        case measure => simp [intOf]; omega
    · obtain rfl : i = n := by omega
      have HQ := hid (show fld q es' = Q from by rw [← hQ, List.take_of_length_le (by rw [HN.out]; exact Nat.le_refl _)])
      clear hQ
      go_wp2
      go_ret
      refine ⟨⟨b2, _, b', es', HSM.out, HC5.out, by rw [HQ.out]; rfl⟩, ?_⟩
      have h1 := HB5.out
      have h2 := HRR.out
      have h3 := HBW.out
      rw [h2] at h3 ⊢
      exact (h3.trans h1).trans (HK.out.below (by have := row_lt HX5.out; omega) (fun j hj e => by omega))
end Go.Proofs.Ytojmcfkbekodpaa
