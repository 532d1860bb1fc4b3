/-
  An order is tried on a book of its own.
-/
import Derived.Test.YtojmcfkbekodpaaPg
import Derived.Test.YtojmcfkbekodpaaQg
namespace Go.Proofs.Ytojmcfkbekodpaa
open Go.RowKit Go.Deep Go.Shelf
set_option linter.unusedVariables false
set_option linter.unusedSimpArgs false
set_option maxHeartbeats 8000000
set_option maxRecDepth 100000
/-- the same book at other blocks. -/
structure Sm (b b2 : Bs) : Prop where
  num : b2.cap = b.cap ∧ b2.meet = b.meet ∧ b2.high = b.high ∧ b2.seq = b.seq
  o1 : b2.l1.map (·.2) = b.l1.map (·.2)
  o2 : b2.l2.map (·.2) = b.l2.map (·.2)
theorem Sm.sl {b b2 : Bs} (h : Sm b b2) (s : Int) : (b2.sl s).map (·.2) = (b.sl s).map (·.2) := by
  unfold Bs.sl
  split
  · exact h.o1
  · exact h.o2
theorem Sm.len {b b2 : Bs} (h : Sm b b2) (s : Int) : (b2.sl s).length = (b.sl s).length := by
  have := congrArg List.length (h.sl s)
  simpa using this
theorem srt_map {s : Int} {l l2 : LO} (h : l2.map (·.2) = l.map (·.2)) (k : Srt s l) : Srt s l2 := by
  rw [srt_pw] at k ⊢
  have e : ∀ l : LO, l.Pairwise (fun a b => btt s b.2.pr a.2.pr = false) ↔ (l.map (·.2)).Pairwise (fun a b => btt s b.pr a.pr = false) := fun l => by rw [List.pairwise_map]
  rw [e] at k ⊢
  rw [h]
  exact k
theorem Sm.vb {b b2 : Bs} (h : Sm b b2) (v : Vb b) : Vb b2 := by
  refine ⟨fun s y hy => ?_, fun s hs => srt_map (h.sl s) (v.srt s hs), ?_, ?_⟩
  · have : y.2 ∈ (b2.sl s).map (·.2) := List.mem_map.2 ⟨y, hy, rfl⟩
    rw [h.sl s] at this
    obtain ⟨z, hz, e⟩ := List.mem_map.1 this
    rw [← e]
    exact v.ok s z hz
  · have := v.ids
    unfold Ids at this ⊢
    have e : ∀ l : LO, l.map (·.2.id) = (l.map (·.2)).map (·.id) := fun l => by simp
    rw [e, List.map_append] at this ⊢
    rw [h.o1, h.o2]
    exact this
  · have a := congrArg List.length h.o1
    have c := congrArg List.length h.o2
    have := v.len
    simp at a c
    omega
/-- what is left of a quantity behind the trades told. -/
def fld (q : Int) : List Ev → Int
  | [] => q
  | e :: es => fld (if e.kd = 3 then IntKind.u64.wrap (q - e.qt) else q) es
theorem fld_snoc (q : Int) (es : List Ev) (e : Ev) : fld q (es ++ [e]) = if e.kd = 3 then IntKind.u64.wrap (fld q es - e.qt) else fld q es := by
  induction es generalizing q with
  | nil => rfl
  | cons x l ih => exact ih _
theorem evs_get {es : List Ev} {i : Nat} (hi : i < es.length) {j : Nat} (hj : j < 13) : (evs es)[i * 13 + j]? = (ecs es[i])[j]? := by
  induction es generalizing i with
  | nil => simp at hi
  | cons x l ih =>
    cases i with
    | zero =>
      simp only [evs, List.flatMap_cons, Nat.zero_mul, Nat.zero_add, List.getElem_cons_zero]
      rw [List.getElem?_append_left (by rw [ecs_len]; omega)]
    | succ i =>
      have := ih (i := i) (by simpa using hi)
      simp only [evs, List.flatMap_cons, List.getElem_cons_succ] at this ⊢
      rw [List.getElem?_append_right (by rw [ecs_len]; omega), ecs_len, show (i + 1) * 13 + j - 13 = i * 13 + j by omega]
      exact this
/-- an event's cells in memory. -/
theorem ev_cells {base : Nat} {w : World} {ve : Value} {es : List Ev} (h : w.ownsRow base 45 13 ve es.length (evs es)) {i : Nat} (hi : i < es.length) : ∃ g c, ve = .slice (some ⟨g, 0, none⟩) es.length c ∧ es.length ≤ maxLen ∧ (∃ cur, w.heap[g]? = some (.cells cur 45 (0, 0))) ∧ ∀ j, j < 13 → w.cell? ⟨g, i * 13 + j, none⟩ = (ecs es[i])[j]? := by
  obtain ⟨h1, ⟨e, e2⟩ | ⟨g, c', cur, e, r1, r2, r3, r4, r5, r6⟩⟩ := h
  · omega
  · refine ⟨g, c', e, Nat.le_trans r3 r4, ⟨cur, r2⟩, fun j hj => ?_⟩
    have := congrArg (fun z => z[i * 13 + j]?) r6
    have hlt : i * 13 + j < es.length * 13 := by omega
    simp only [List.getElem?_take, hlt, if_true, Array.getElem?_toList] at this
    rw [row_cell r2, this, evs_get hi hj]
def Or.ioc (o : Or) : Or := { o with ty := 3 }
theorem fills_any (B : Nat) (b : Bs) (o : Or) (s q : Int) (w : World) (h : Bm w B b) (hv : Vb b) (hs : s = 1 ∨ s = 2) (hq0 : 0 ≤ q) (hq1 : q < 4294967296) (hpk : 0 ≤ o.pk) :
    Calls Try.prog 55 #[.pointer (some ⟨B, 0, none⟩), .agg (crow o s q)] w fun e w' => (∃ b2 n b' es', Sm b b2 ∧ Came o.ioc s (cms o.ioc s (mes b s q + 1) (b2, [], q)) n b' es' ∧ e = .returned (.bool (fld q es' == 0))) ∧ Below w.heap.size w w' := by
  obtain ⟨R, hR⟩ : ∃ R, w.heap.size = R := ⟨_, rfl⟩
  obtain ⟨W, hW⟩ : ∃ W, w.alloc (.cells (crow o s q) 88) = W := ⟨_, rfl⟩
  have hb : Below w.heap.size w W := by rw [← hW]; exact ball _ _
  have hx : W.heap[R]? = some (.cells (crow o s q) 88 (0, 0)) := by rw [← hW, ← hR]; exact World.alloc_heap_new _ _
  have HW := hid hW
  have HBW := hid hb
  have HX := hid hx
  have CB := hid (book_any B b W (h.on hb) hv.len)
  have HV := hid hv
  have HS := hid hs
  have HRR := hid hR
  have HPK := hid hpk
  have CO := hid (fun (U : World) (v1 v2 : Value) (hU : Below W.heap.size W U) (h1 : U.ownsRow W.heap.size 86 7 v1 b.l1.length (ors (osl b.l1))) (h2 : U.ownsRow W.heap.size 86 7 v2 b.l2.length (ors (osl b.l2))) => (show Calls Try.prog 24 #[.agg (bkv b v1 v2)] U fun e w' => ∃ B2 b2, e = .returned (.pointer (some ⟨B2, 0, none⟩)) ∧ Opd W w' B2 b2 b.cap b.meet (osl b.l1) (osl b.l2) b.high b.seq from by
    obtain ⟨x1, y1, rfl⟩ := own_form h1
    obtain ⟨x2, y2, rfl⟩ := own_form h2
    have l1 : (osl b.l1).length = b.l1.length := by simp [osl]
    have l2 : (osl b.l2).length = b.l2.length := by simp [osl]
    have := hv.len
    have H := opened_any b.cap b.meet x1 y1 (osl b.l1) x2 y2 (osl b.l2) b.high b.seq U (by rw [l1]; exact own_base h1 (Nat.zero_le _)) (by rw [l2]; exact own_base h2 (Nat.zero_le _)) (by omega)
    rw [l1, l2] at H
    refine H.mono ?_
    rintro e w' ⟨B2, b2, rfl, hO⟩
    exact ⟨B2, b2, rfl, hO.bm, hO.num, hO.o1, hO.o2, fun j hj => Nat.le_trans hU.size (hO.nw j hj), btr hU hO.be⟩))
  clear hW hb hx h hv hs hR hpk
  unfold crow
  go_enter Try.func55, Try.ntmps55
  go_upto_region 1 with fail
  have e1 := HRR.out
  rw [e1]
  clear e1
  have e0 := HW.out
  unfold crow at e0
  rw [e0]
  clear e0
  go_upto_region 2 with (first | (go_at_call 74; with_reducible refine (CB.out).mono ?_; rintro e w1 ⟨v1, v2, rfl, ho1, ho2, hb1⟩; obtain ⟨x1, y1, rfl⟩ := own_form ho1; obtain ⟨x2, y2, rfl⟩ := own_form ho2; have HCO := hid (CO.out w1 _ _ hb1 ho1 ho2); clear ho1 ho2 hb1) | (go_at_call 24; with_reducible refine (HCO.out).mono ?_; rintro e w2 ⟨B2, b2, rfl, h2⟩; have H2 := hid h2; clear h2))
  have HSM := hid (show Sm b b2 from ⟨H2.out.num, H2.out.o1, H2.out.o2⟩)
  obtain ⟨W4, hW4⟩ : ∃ W4, (w2.alloc (.cells #[.pointer (some ⟨B2, 0, none⟩), .slice none 0 0] 80)).setCell ⟨R, 2, none⟩ (.int .i64 3) = W4 := ⟨_, rfl⟩
  obtain ⟨T, hT⟩ : ∃ T, w2.heap.size = T := ⟨_, rfl⟩
  have hx3 : (w2.alloc (.cells #[.pointer (some ⟨B2, 0, none⟩), .slice none 0 0] 80)).heap[R]? = some (.cells (crow o s q) 88 (0, 0)) := row_on (row_on HX.out H2.out.be) (ball _ _)
  have hk4 : Kp (fun j => j = R) (w2.alloc (.cells #[.pointer (some ⟨B2, 0, none⟩), .slice none 0 0] 80)) W4 := by rw [← hW4]; exact Kp.set _ R 2 _
  have hx4 : W4.heap[R]? = some (.cells (crow o.ioc s q) 88 (0, 0)) := by rw [← hW4, set_row _ hx3]; rfl
  have ht3 : Tn (w2.alloc (.cells #[.pointer (some ⟨B2, 0, none⟩), .slice none 0 0] 80)) T B2 b2 (.slice none 0 0) [] := ⟨H2.out.bm.on (ball _ _), by rw [← hT]; exact World.alloc_heap_new _ _, ⟨rfl, .inl ⟨rfl, rfl⟩⟩⟩
  have ht4 : Tn W4 T B2 b2 (.slice none 0 0) [] := ⟨ht3.bm.kept hk4 (fun j hj => ht3.bm.ne hx3 (by decide) (by decide) (by decide) hj), hk4.row ht3.row (row_ne ht3.row hx3 (by decide)), ⟨rfl, .inl ⟨rfl, rfl⟩⟩⟩
  have hbR : Below R W W4 := ((H2.out.be.mono (by have := HBW.out.size; have := HRR.out; omega)).trans ((ball w2 _).mono (by have := H2.out.be.size; have := HBW.out.size; have := HRR.out; omega))).trans (hk4.below (by have := H2.out.be.size; have := HBW.out.size; have := HRR.out; simp; omega) (fun g hg e => by omega))
  have sW : R < W.heap.size := row_lt HX.out
  have hTW : W.heap.size ≤ T := by rw [← hT]; exact H2.out.be.size
  have HCC := hid (show Calls Try.prog 56 #[.pointer (some ⟨T, 0, none⟩), .agg (crow o.ioc s q)] W4 fun e w' => e = .returned (.tuple #[]) ∧ ∃ b' ve' es', Tn w' T B2 b' ve' es' ∧ w'.heap[R]? = some (.cells (crow o.ioc s q) 88 (0, 0)) ∧ Below R W w' ∧ Came o.ioc s (cms o.ioc s (mes b s q + 1) (b2, [], q)) W4.heap.size b' es' from by
    have hl2 := HSM.out.len (oth s)
    have hm : mes b2 s q = mes b s q := by unfold mes; rw [hl2]
    have hsl := HV.out.len
    have hle := b.sl_le (oth s)
    refine (come_any T B2 b2 (.slice none 0 0) [] o.ioc s q W4 ht4 (HSM.out.vb HV.out) HS.out hq0 hq1 (by rw [hm]; unfold mes; simp; omega) HPK.out).mono ?_
    rintro e w' ⟨rfl, b', ve', es', htd, hc⟩
    rw [hm] at hc
    have hG : ∀ j, gfp b2 T B2 (.slice none 0 0) j → W.heap.size ≤ j := by
      rintro j ((e | e | e) | e)
      · omega
      · exact H2.out.nw j (.inl e)
      · cases e
      · exact H2.out.nw j e
    refine ⟨rfl, b', ve', es', htd.tn, htd.kp.row hx4 (fun hg => by have := hG R hg; omega), ?_, hc⟩
    exact hbR.trans (htd.kp.below (by have := row_lt hx4; omega) (fun j hj hg => by have := hG j hg; omega)))
  have f2 := row_frz hx3 2
  have c2 := row_cell hx3 2
  simp only [crow, List.getElem?_toArray, List.getElem?_cons_succ, List.getElem?_cons_zero] at c2
  have HX4 := hid hx4
  have HW4 := hid hW4
  rw [hT]
  clear hx3 hk4 hx4 ht3 ht4 hbR hT hW4
  go_upto_region 3 with fail
  have e0 := HW4.out
  rw [e0]
  clear e0 f2 c2
  have a0 := row_cell HX4.out 0
  have a1 := row_cell HX4.out 1
  have a2 := row_cell HX4.out 2
  have a3 := row_cell HX4.out 3
  have a4 := row_cell HX4.out 4
  have a5 := row_cell HX4.out 5
  have a6 := row_cell HX4.out 6
  have a7 := row_cell HX4.out 7
  have a8 := row_cell HX4.out 8
  simp only [crow, Or.ioc, List.getElem?_toArray, List.getElem?_cons_succ, List.getElem?_cons_zero] at a0 a1 a2 a3 a4 a5 a6 a7 a8
  unfold crow at HCC
  simp only [Or.ioc] at HCC
  go_upto_region 4 with (go_at_call 56; with_reducible refine (HCC.out).mono ?_; rintro e w5 ⟨rfl, b', ve', es', h5, hx5, hb5, hc5⟩; have H5 := hid h5; have HX5 := hid hx5; have HB5 := hid hb5; have HC5 := hid hc5; clear h5 hx5 hb5 hc5)
  clear a0 a1 a2 a3 a4 a5 a6 a7 a8
  obtain ⟨pe, ce, hve⟩ := own_form H5.out.ev
  subst hve
  obtain ⟨n, hn⟩ : ∃ n, es'.length = n := ⟨_, rfl⟩
  have t1 := row_cell H5.out.row 1
  simp only [List.getElem?_toArray, List.getElem?_cons_succ, List.getElem?_cons_zero] at t1
  rw [hn] at t1
  have HN := hid hn
  clear hn
  go_wp2_with fail
  go_loopw [19] (fun iv wr => ∃ i : Nat, i ≤ n ∧ iv = .int .i64 i ∧ Hid (Kp (fun j => j = R) w5 wr) ∧ Hid (wr.heap[R]? = some (.cells (crow o.ioc s (fld q (es'.take i))) 88 (0, 0)))) (fun iv _ => n - (intOf iv).toNat)
  case atStart => exact ⟨0, Nat.zero_le _, rfl, hid (Kp.refl _ _), HX5⟩
  case round =>
    obtain ⟨i, hin, rfl, HK, HXR⟩ := hrel
    have d8 := row_cell HXR.out 8
    have z8 := row_frz HXR.out 8
    simp only [crow, List.getElem?_toArray, List.getElem?_cons_succ, List.getElem?_cons_zero] at d8
    obtain ⟨Q, hQ⟩ : ∃ Q, fld q (es'.take i) = Q := ⟨_, rfl⟩
    rw [hQ] at d8
    by_cases hlt : i < n
    · have hil : i < es'.length := by rw [HN.out]; exact hlt
      obtain ⟨g, c, hp, hmx, ⟨cur, hcu⟩, hcc⟩ := ev_cells H5.out.ev hil
      have hp' := (Value.slice.inj hp).1
      subst hp'
      have hgR : g ≠ R := row_ne hcu HX5.out (by decide)
      have hcur := HK.out.row hcu hgR
      rw [HN.out] at hmx
      obtain ⟨e, he⟩ : ∃ e, es'[i] = e := ⟨_, rfl⟩
      have rr : ∀ j, j < 13 → wr.cell? ⟨g, i * 13 + j, none⟩ = (ecs e)[j]? := fun j hj => by
        rw [← he, ← hcc j hj, row_cell hcur, row_cell hcu]
      have r0 := rr 0 (by omega)
      have r1 := rr 1 (by omega)
      have r2 := rr 2 (by omega)
      have r3 := rr 3 (by omega)
      have r4 := rr 4 (by omega)
      have r5 := rr 5 (by omega)
      have r6 := rr 6 (by omega)
      have r7 := rr 7 (by omega)
      have r8 := rr 8 (by omega)
      have r9 := rr 9 (by omega)
      have r10 := rr 10 (by omega)
      have r11 := rr 11 (by omega)
      have r12 := rr 12 (by omega)
      simp only [ecs, List.getElem?_cons_succ, List.getElem?_cons_zero, Nat.add_zero] at r0 r1 r2 r3 r4 r5 r6 r7 r8 r9 r10 r11 r12
      have HT := hid (show fld q (es'.take (i + 1)) = if e.kd = 3 then IntKind.u64.wrap (Q - e.qt) else Q from by
        rw [List.take_succ_eq_append_getElem hil, he, fld_snoc, hQ])
      have HQ := hid hQ
      have sR := row_lt HXR.out
      have nR : R ≠ wr.heap.size := by omega
      have i0' : (0 : Int) ≤ (i : Int) := by omega
      have i1 : (i : Int) < (n : Int) := by omega
      have hmx' : n < 9223372036854775808 := by unfold maxLen at hmx; omega
      have HAL := hid (fun ob => (show (wr.alloc ob).heap[R]? = some (.cells (crow o.ioc s Q) 88 (0, 0)) from by have := row_on HXR.out (ball wr ob); rw [HQ.out] at this; exact this))
      clear hcur hcu hcc rr he hQ hp hmx
      by_cases k3 : e.kd = 3
      · rw [k3] at r1
        go_wp2
        go_roundw
        case rel =>
          refine ⟨i + 1, by omega, by go_num, hid ?_, hid ?_⟩
          · exact (HK.out.trans (Kp.set wr R 8 _) (fun _ _ h => h)).trans (Kp.of (fun j => j = R) (ball _ _)) (fun _ _ h => h)
          · rw [HT.out, if_pos k3]
            refine row_on ?_ (ball _ _)
            rw [set_row _ HXR.out]
            rfl
        case measure => simp [intOf]; omega
      · have k3' : (e.kd == 3) = false := by simpa using k3
        go_wp2
        go_roundw
        case rel =>
          refine ⟨i + 1, by omega, by go_num, hid ?_, hid ?_⟩
          · exact HK.out.trans (Kp.of (fun j => j = R) (ball wr _)) (fun _ _ h => h)
          · rw [HT.out, if_neg k3]
            exact HAL.out _
        case measure => simp [intOf]; omega
    · obtain rfl : i = n := by omega
      have HQ := hid (show fld q es' = Q from by rw [← hQ, List.take_of_length_le (by rw [HN.out]; exact Nat.le_refl _)])
      clear hQ
      go_wp2
      go_ret
      refine ⟨⟨b2, _, b', es', HSM.out, HC5.out, by rw [HQ.out]; rfl⟩, ?_⟩
      have h1 := HB5.out
      have h2 := HRR.out
      have h3 := HBW.out
      rw [h2] at h3 ⊢
      exact (h3.trans h1).trans (HK.out.below (by have := row_lt HX5.out; omega) (fun j hj e => by omega))
end Go.Proofs.Ytojmcfkbekodpaa
namespace Go.Proofs.Ytojmcfkbekodpaa
open Go.RowKit Go.Deep Go.Shelf
set_option linter.unusedVariables false
set_option linter.unusedSimpArgs false
set_option maxHeartbeats 8000000
set_option maxRecDepth 100000
attribute [local go_sem ↓] Go.wp_at_zero Go.wp_at_succ
def Bs.hgh (b : Bs) (h : Int) : Bs := { b with high := h }
def evA (o : Or) (s q : Int) : Ev := ⟨0, 1, o.id, 0, 0, o.mb, s, o.ty, o.pr, q, o.pk, 0, 0⟩
theorem Vb.hgh {b : Bs} (h : Vb b) (i : Int) : Vb (b.hgh i) := ⟨h.ok, h.srt, h.ids, h.len⟩
theorem Td.hgh {w0 : World} {G : Nat → Prop} {T B : Nat} {b : Bs} {ve : Value} {es : List Ev} {w : World} (h : Td w0 G T B b ve es w) (i : Int) : Td w0 G T B (b.hgh i) ve es (w.setCell ⟨B, 4, none⟩ (.int .u64 i)) := by
  have hk := Kp.set w B 4 (.int .u64 i)
  refine ⟨⟨h.tn.bm.put (k := 4) rfl rfl rfl rfl rfl rfl rfl, hk.row h.tn.row (row_ne h.tn.row h.tn.bm.row (by decide)), own_same h.tn.ev (fun j hj => ?_)⟩, h.keep hk (fun j hj => .inl (.inr (.inl hj))), h.fr⟩
  obtain ⟨c, e⟩ := own_ty h.tn.ev hj
  exact hk.obj j (row_lt e) (row_ne e h.tn.bm.row (by decide))
theorem Td.trans {w0 w1 : World} {G : Nat → Prop} {T B : Nat} {b b' : Bs} {ve ve' : Value} {es es' : List Ev} {w : World} (h : Td w0 G T B b ve es w1) (k : Td w1 (gfp b T B ve) T B b' ve' es' w) : Td w0 G T B b' ve' es' w := by
  refine ⟨k.tn, h.keep k.kp (fun j hj => hj), fun j hj => ?_⟩
  rcases k.fr j hj with e | e
  · exact h.fr j e
  · have := h.kp.size
    exact .inr (by omega)
theorem Td.told' {w0 : World} {G : Nat → Prop} {T B R : Nat} {b : Bs} {ve : Value} {es es' : List Ev} {w w' : World} {c : Array Value} (h : Td w0 G T B b ve es w) (hR : w.heap[R]? = some (.cells c 88 (0, 0))) (ht : Told w T B b.told ve es' (tfp T B ve) w') : ∃ ve', Td w0 G T B b.told ve' es' w' ∧ w'.heap[R]? = some (.cells c 88 (0, 0)) := by
  obtain ⟨ve', h1⟩ := h.told ht
  obtain ⟨_, _, _, h4⟩ := ht
  exact ⟨ve', h1, h4.row hR (h.tn.neO hR)⟩
/-- the trial of an order that fills or kills. -/
def Trd (b : Bs) (o : Or) (s q : Int) (v : Bool) : Prop := ∃ b2 n b3 es3, Sm b b2 ∧ Came o.ioc s (cms o.ioc s (mes b s q + 1) (b2, [], q)) n b3 es3 ∧ (fld q es3 == 0) = v
/-- what became of a book when an order is taken. -/
def Took (b : Bs) (es : List Ev) (o : Or) (s q : Int) (b' : Bs) (es' : List Ev) : Prop :=
  (o.ty = 4 ∧ Trd (b.hgh o.id).told o s q false ∧ b' = (b.hgh o.id).told.told ∧ es' = es ++ [(evA o s q).num (nx b.seq)] ++ [(evC o.id q 4).num (nx (nx b.seq))]) ∨
  ((o.ty = 4 → Trd (b.hgh o.id).told o s q true) ∧ ∃ n, Came o s (cms o s (mes b s q + 1) ((b.hgh o.id).told, es ++ [(evA o s q).num (nx b.seq)], q)) n b' es')
theorem tk_cells {w0 : World} {G : Nat → Prop} {T B R : Nat} {b : Bs} {ve : Value} {es : List Ev} {U : World} {o : Or} {s q : Int} (h : Td w0 G T B b ve es U) (hR : U.heap[R]? = some (.cells (crow o s q) 88 (0, 0))) : ((fun U => U.cell? ⟨R, 0, none⟩ = some (.int .u64 o.id) ∧ U.cell? ⟨R, 1, none⟩ = some (.int .u32 o.mb) ∧ U.cell? ⟨R, 2, none⟩ = some (.int .i64 o.ty) ∧ U.cell? ⟨R, 3, none⟩ = some (.int .i64 o.pr) ∧ U.cell? ⟨R, 4, none⟩ = some (.int .u64 o.vi) ∧ U.cell? ⟨R, 5, none⟩ = some (.int .u64 o.hi) ∧ U.cell? ⟨R, 6, none⟩ = some (.int .u64 o.pk) ∧ U.cell? ⟨R, 7, none⟩ = some (.int .i64 s) ∧ U.cell? ⟨R, 8, none⟩ = some (.int .u64 q) ∧ U.cell? ⟨T, 0, none⟩ = some (.pointer (some ⟨B, 0, none⟩)))) U := by
  have a0 := row_cell hR 0
  have a1 := row_cell hR 1
  have a2 := row_cell hR 2
  have a3 := row_cell hR 3
  have a4 := row_cell hR 4
  have a5 := row_cell hR 5
  have a6 := row_cell hR 6
  have a7 := row_cell hR 7
  have a8 := row_cell hR 8
  have t := row_cell h.tn.row 0
  simp only [crow, List.getElem?_toArray, List.getElem?_cons_succ, List.getElem?_cons_zero] at a0 a1 a2 a3 a4 a5 a6 a7 a8 t
  exact ⟨a0, a1, a2, a3, a4, a5, a6, a7, a8, t⟩
theorem take_any (T B : Nat) (b : Bs) (ve : Value) (es : List Ev) (o : Or) (s q : Int) (w : World) (htn : Tn w T B b ve es) (hv : Vb b) (hs : s = 1 ∨ s = 2) (hq0 : 0 ≤ q) (hq1 : q < 4294967296) (hle : es.length + 2 + 2 * mes b s q ≤ 17179869180) (hpk : 0 ≤ o.pk) :
    Calls Try.prog 28 #[.pointer (some ⟨T, 0, none⟩), .agg (crow o s q)] w fun e w' => e = .returned (.tuple #[]) ∧ ∃ b' ve' es', Td w (gfp b T B ve) T B b' ve' es' w' ∧ Took b es o s q b' es' := by
  obtain ⟨R, hR⟩ : ∃ R, w.heap.size = R := ⟨_, rfl⟩
  obtain ⟨W, hW⟩ : ∃ W, w.alloc (.cells (crow o s q) 88) = W := ⟨_, rfl⟩
  obtain ⟨G, hG⟩ : ∃ G, gfp b T B ve = G := ⟨_, rfl⟩
  have hb : Below w.heap.size w W := by rw [← hW]; exact ball _ _
  have hx : W.heap[R]? = some (.cells (crow o s q) 88 (0, 0)) := by rw [← hW, ← hR]; exact World.alloc_heap_new _ _
  have HX := hid hx
  have HTD := hid (show Td w G T B b ve es W from ⟨htn.on hb, Kp.of _ hb, fun j hj => .inl (by rw [← hG]; exact hj)⟩)
  rw [hG]
  have HW := hid hW
  have HRR := hid hR
  have HV := hid hv
  have HS := hid hs
  have HPK := hid hpk
  have HLE := hid hle
  have HCE := hid (fun (U : World) => tk_cells (w0 := w) (G := G) (T := T) (B := B) (R := R) (b := b) (ve := ve) (es := es) (U := U) (o := o) (s := s) (q := q))
  clear hR hW hG hb hx htn hv hs hpk hle HCE
  unfold crow
  go_enter Try.func28, Try.ntmps28
  go_upto_region 1 with fail
  have e1 := HRR.out
  rw [e1]
  clear e1
  have e0 := HW.out
  unfold crow at e0
  rw [e0]
  clear e0
  obtain ⟨a0, a1, a2, a3, a4, a5, a6, a7, a8, t0⟩ := tk_cells HTD.out HX.out
  have f4 := row_frz HTD.out.tn.bm.row 4
  have b4 := row_cell HTD.out.tn.bm.row 4
  simp only [Bs.row, List.getElem?_toArray, List.getElem?_cons_succ, List.getElem?_cons_zero] at b4
  go_region
  obtain ⟨W1, hW1⟩ : ∃ W1, (W.setCell ⟨B, 4, none⟩ (.int .u64 o.id)).drew = W1 := ⟨_, rfl⟩
  have HT1 := hid (show Td w G T B (b.hgh o.id) ve es W1 from by rw [← hW1]; exact (HTD.out.hgh o.id).on (bdrew1 _))
  have HX1 := hid (show W1.heap[R]? = some (.cells (crow o s q) 88 (0, 0)) from by rw [← hW1]; exact row_on ((Kp.set W B 4 (.int .u64 o.id)).row HX.out (row_ne HX.out HTD.out.tn.bm.row (by decide))) (bdrew1 _))
  rw [hW1]
  clear hW1 a0 a1 a2 a3 a4 a5 a6 a7 a8 t0 f4 b4
  have HTE := hid (show Calls Try.prog 50 #[.pointer (some ⟨T, 0, none⟩), .agg (ecs (evA o s q)).toArray] W1 fun e w' => e = .returned (.tuple #[]) ∧ ∃ ve1, Td w G T B (b.hgh o.id).told ve1 (es ++ [(evA o s q).num (nx b.seq)]) w' ∧ w'.heap[R]? = some (.cells (crow o s q) 88 (0, 0)) from
    (tell_any T B (b.hgh o.id) ve es (evA o s q) W1 HT1.out.tn (by have := HLE.out; omega)).mono (fun e w' hh => ⟨hh.1, HT1.out.told' HX1.out hh.2⟩))
  simp only [ecs, evA] at HTE
  obtain ⟨a0, a1, a2, a3, a4, a5, a6, a7, a8, t0⟩ := tk_cells HT1.out HX1.out
  go_upto_region 3 with (go_at_call 50; with_reducible refine (HTE.out).mono ?_; rintro e w2 ⟨rfl, ve1, h2, hx2⟩; have H2 := hid h2; have HX2 := hid hx2; clear h2 hx2)
  clear a0 a1 a2 a3 a4 a5 a6 a7 a8 t0
  obtain ⟨b1, hb1⟩ : ∃ b1, (b.hgh o.id).told = b1 := ⟨_, rfl⟩
  obtain ⟨es1, hes1⟩ : ∃ es1, es ++ [(evA o s q).num (nx b.seq)] = es1 := ⟨_, rfl⟩
  have h2' : Td w G T B b1 ve1 es1 w2 := by rw [← hb1, ← hes1]; exact H2.out
  have hv1 : Vb b1 := by rw [← hb1]; exact (HV.out.hgh _).told
  have hsq : b1.seq = nx b.seq := by rw [← hb1]; rfl
  have hme : mes b1 s q = mes b s q := by rw [← hb1]; rfl
  have hel : es1.length = es.length + 1 := by rw [← hes1]; simp
  have HSS := hid (fun (U : World) (hU : Below w2.heap.size w2 U) => tk_cells (h2'.on hU) (row_on HX2.out hU))
  have CF := hid (fun (U : World) (hU : Below w2.heap.size w2 U) => fills_any B b1 o s q U (h2'.on hU).tn.bm hv1 HS.out hq0 hq1 HPK.out)
  have CE := hid (fun (U : World) (hU : Below w2.heap.size w2 U) => (show Calls Try.prog 54 #[.pointer (some ⟨T, 0, none⟩), .int .u64 o.id, .int .u64 q, .int .i64 4] U fun e w' => e = .returned (.tuple #[]) ∧ ∃ ve2, Td w G T B b1.told ve2 (es1 ++ [(evC o.id q 4).num (nx b1.seq)]) w' from
    (end_any T B b1 ve1 es1 o.id q 4 U (h2'.on hU).tn (by have := HLE.out; omega)).mono (fun e w' hh => ⟨hh.1, (h2'.on hU).told hh.2⟩)))
  have CC := hid (fun (U : World) (hU : Below w2.heap.size w2 U) => (show Calls Try.prog 56 #[.pointer (some ⟨T, 0, none⟩), .agg (crow o s q)] U fun e w' => e = .returned (.tuple #[]) ∧ ∃ b' ve' es' n, Td w G T B b' ve' es' w' ∧ Came o s (cms o s (mes b s q + 1) (b1, es1, q)) n b' es' from
    (come_any T B b1 ve1 es1 o s q U (h2'.on hU).tn hv1 HS.out hq0 hq1 (by have := HLE.out; rw [hme]; omega) HPK.out).mono (fun e w' hh => by
      obtain ⟨rfl, b', ve', es', h1, h2⟩ := hh
      rw [hme] at h2
      exact ⟨rfl, b', ve', es', _, (h2'.on hU).trans h1, h2⟩)))
  have HTK1 := hid (fun (b' : Bs) (es' : List Ev) (h4 : o.ty = 4) (ht : Trd b1 o s q false) (e1 : b' = b1.told) (e2 : es' = es1 ++ [(evC o.id q 4).num (nx b1.seq)]) => (show Took b es o s q b' es' from by
    refine .inl ⟨h4, by rw [hb1]; exact ht, by rw [hb1]; exact e1, ?_⟩
    rw [hes1, ← hsq]
    exact e2))
  have HTK2 := hid (fun (b' : Bs) (es' : List Ev) (n : Nat) (ht : o.ty = 4 → Trd b1 o s q true) (hc : Came o s (cms o s (mes b s q + 1) (b1, es1, q)) n b' es') => (show Took b es o s q b' es' from by
    refine .inr ⟨by rw [hb1]; exact ht, n, ?_⟩
    rw [hb1, hes1]
    exact hc))
  clear h2' hv1 hsq hme hel hb1 hes1 H2 HTE HT1 HX1 HX HTD
  unfold crow at CC CF
  by_cases k4 : o.ty = 4
  · have k4' : (o.ty == 4) = true := by simpa using k4
    rw [k4] at CF CC
    refine wp_region_held_drew (S := (fun U => U.cell? ⟨R, 0, none⟩ = some (.int .u64 o.id) ∧ U.cell? ⟨R, 1, none⟩ = some (.int .u32 o.mb) ∧ U.cell? ⟨R, 2, none⟩ = some (.int .i64 o.ty) ∧ U.cell? ⟨R, 3, none⟩ = some (.int .i64 o.pr) ∧ U.cell? ⟨R, 4, none⟩ = some (.int .u64 o.vi) ∧ U.cell? ⟨R, 5, none⟩ = some (.int .u64 o.hi) ∧ U.cell? ⟨R, 6, none⟩ = some (.int .u64 o.pk) ∧ U.cell? ⟨R, 7, none⟩ = some (.int .i64 s) ∧ U.cell? ⟨R, 8, none⟩ = some (.int .u64 q) ∧ U.cell? ⟨T, 0, none⟩ = some (.pointer (some ⟨B, 0, none⟩)))) (by kernel_rfl) ?_ (fun hHeld => ?_)
    · (try dsimp only); (exact HSS.out _ (bdrew1 _))
    refine' wpAnyH_take (i := 0) (oi := _) (v := _) rfl (by kernel_rfl) (by kernel_rfl) (by kernel_rfl) (fun _ _ _ h => h) (Or.inl ⟨by kernel_rfl, ?hyq1⟩) (by assumption) ?restq1
    case hyq1 => (intro w hSw; (try dsimp only at hSw); go_simp; try (with_reducible rfl))
    try simp only [List.getElem_toArray, List.getElem_cons_succ, List.getElem_cons_zero, Act.put, List.setIfInBounds_toArray, List.set_cons_zero, List.set_cons_succ]
    refine' wpAnyH_take (i := 1) (oi := _) (v := _) rfl (by kernel_rfl) (by kernel_rfl) (by kernel_rfl) (fun _ _ _ h => h) (Or.inl ⟨by kernel_rfl, ?hyq2⟩) (by assumption) ?restq2
    case hyq2 => (intro w hSw; (try dsimp only at hSw); go_simp; try (with_reducible rfl))
    try simp only [List.getElem_toArray, List.getElem_cons_succ, List.getElem_cons_zero, Act.put, List.setIfInBounds_toArray, List.set_cons_zero, List.set_cons_succ]
    refine' wpAnyH_take (i := 2) (oi := _) (v := _) rfl (by kernel_rfl) (by kernel_rfl) (by kernel_rfl) (fun _ _ _ h => h) (Or.inl ⟨by kernel_rfl, ?hyq3⟩) (by assumption) ?restq3
    case hyq3 => (intro w hSw; (try dsimp only at hSw); go_simp; try (with_reducible rfl))
    try simp only [List.getElem_toArray, List.getElem_cons_succ, List.getElem_cons_zero, Act.put, List.setIfInBounds_toArray, List.set_cons_zero, List.set_cons_succ]
    refine' wpAnyH_take (i := 3) (oi := _) (v := .bool true) rfl (by kernel_rfl) (by kernel_rfl) (by kernel_rfl) (fun _ _ _ h => h) (Or.inl ⟨by kernel_rfl, ?hyq4⟩) (by assumption) ?restq4
    case hyq4 => (intro w hSw; (try dsimp only at hSw); go_simp; try (with_reducible rfl))
    try simp only [List.getElem_toArray, List.getElem_cons_succ, List.getElem_cons_zero, Act.put, List.setIfInBounds_toArray, List.set_cons_zero, List.set_cons_succ]
    refine' wpAnyH_take (i := 4) (oi := _) (v := _) rfl (by kernel_rfl) (by kernel_rfl) (by kernel_rfl) (fun _ _ _ h => h) (Or.inl ⟨by kernel_rfl, ?hyq5⟩) (by assumption) ?restq5
    case hyq5 => (intro w hSw; (try dsimp only at hSw); go_simp; try (with_reducible rfl))
    try simp only [List.getElem_toArray, List.getElem_cons_succ, List.getElem_cons_zero, Act.put, List.setIfInBounds_toArray, List.set_cons_zero, List.set_cons_succ]
    refine' wpAnyH_take (i := 5) (oi := _) (v := _) rfl (by kernel_rfl) (by kernel_rfl) (by kernel_rfl) (fun _ _ _ h => h) (Or.inl ⟨by kernel_rfl, ?hyq6⟩) (by assumption) ?restq6
    case hyq6 => (intro w hSw; (try dsimp only at hSw); go_simp; try (with_reducible rfl))
    try simp only [List.getElem_toArray, List.getElem_cons_succ, List.getElem_cons_zero, Act.put, List.setIfInBounds_toArray, List.set_cons_zero, List.set_cons_succ]
    refine' wpAnyH_take (i := 6) (oi := _) (v := _) rfl (by kernel_rfl) (by kernel_rfl) (by kernel_rfl) (fun _ _ _ h => h) (Or.inl ⟨by kernel_rfl, ?hyq7⟩) (by assumption) ?restq7
    case hyq7 => (intro w hSw; (try dsimp only at hSw); go_simp; try (with_reducible rfl))
    try simp only [List.getElem_toArray, List.getElem_cons_succ, List.getElem_cons_zero, Act.put, List.setIfInBounds_toArray, List.set_cons_zero, List.set_cons_succ]
    refine' wpAnyH_take (i := 7) (oi := _) (v := _) rfl (by kernel_rfl) (by kernel_rfl) (by kernel_rfl) (fun _ _ _ h => h) (Or.inl ⟨by kernel_rfl, ?hyq8⟩) (by assumption) ?restq8
    case hyq8 => (intro w hSw; (try dsimp only at hSw); go_simp; try (with_reducible rfl))
    try simp only [List.getElem_toArray, List.getElem_cons_succ, List.getElem_cons_zero, Act.put, List.setIfInBounds_toArray, List.set_cons_zero, List.set_cons_succ]
    refine' wpAnyH_take (i := 8) (oi := _) (v := _) rfl (by kernel_rfl) (by kernel_rfl) (by kernel_rfl) (fun _ _ _ h => h) (Or.inl ⟨by kernel_rfl, ?hyq9⟩) (by assumption) ?restq9
    case hyq9 => (intro w hSw; (try dsimp only at hSw); go_simp; try (with_reducible rfl))
    try simp only [List.getElem_toArray, List.getElem_cons_succ, List.getElem_cons_zero, Act.put, List.setIfInBounds_toArray, List.set_cons_zero, List.set_cons_succ]
    refine' wpAnyH_take (i := 9) (oi := _) (v := _) rfl (by kernel_rfl) (by kernel_rfl) (by kernel_rfl) (fun _ _ _ h => h) (Or.inl ⟨by kernel_rfl, ?hyq10⟩) (by assumption) ?restq10
    case hyq10 => (intro w hSw; (try dsimp only at hSw); go_simp; try (with_reducible rfl))
    try simp only [List.getElem_toArray, List.getElem_cons_succ, List.getElem_cons_zero, Act.put, List.setIfInBounds_toArray, List.set_cons_zero, List.set_cons_succ]
    refine wpAnyH_ready (rs := [10]) (by kernel_rfl) (by simp) ?_
    refine AllReadyH.cons (o := _) rfl (fun K hK => ?_) AllReadyH.nil
    go_simp
    go_at_call 55; with_reducible refine (CF.out _ (by exact bdrew1 _)).mono ?_; rintro e w3 ⟨⟨b2, n2, b3, es3, hsm, hcm, rfl⟩, hb3⟩; have HSM := hid hsm; have HCM := hid hcm; have HB3 := hid (show Below w2.heap.size w2 w3 from btr (bdrew1 _) hb3); clear hsm hcm hb3; obtain ⟨fv, hfv⟩ : ∃ v, (fld q es3 == 0) = v := ⟨_, rfl⟩; rw [hfv]; have HFV := hid hfv; clear hfv
    (try go_wp2_with fail)
    refine hK.out _ _ ?_ (fun hHeld => ?_)
    · (try dsimp only); (exact HSS.out _ HB3.out)
    clear hK K
    try simp only [List.getElem_toArray, List.getElem_cons_succ, List.getElem_cons_zero, Act.put, List.setIfInBounds_toArray, List.set_cons_zero, List.set_cons_succ]
    refine' wpAnyH_take (i := 11) (oi := _) (v := _) rfl (by kernel_rfl) (by kernel_rfl) (by kernel_rfl) (fun _ _ _ h => h) (Or.inl ⟨by kernel_rfl, ?hyq11⟩) (by assumption) ?restq11
    case hyq11 => (intro w hSw; (try dsimp only at hSw); go_simp; try (with_reducible rfl))
    try simp only [List.getElem_toArray, List.getElem_cons_succ, List.getElem_cons_zero, Act.put, List.setIfInBounds_toArray, List.set_cons_zero, List.set_cons_succ]
    refine' wpAnyH_take (i := 12) (oi := _) (v := _) rfl (by kernel_rfl) (by kernel_rfl) (by kernel_rfl) (fun _ _ _ h => h) (Or.inl ⟨by kernel_rfl, ?hyq12⟩) (by assumption) ?restq12
    case hyq12 => (intro w hSw; (try dsimp only at hSw); go_simp; try (with_reducible rfl))
    try simp only [List.getElem_toArray, List.getElem_cons_succ, List.getElem_cons_zero, Act.put, List.setIfInBounds_toArray, List.set_cons_zero, List.set_cons_succ]
    refine wpAnyH_done (by kernel_rfl) ?_ _
    have HTR := hid (show Trd b1 o s q fv from ⟨b2, n2, b3, es3, HSM.out, HCM.out, HFV.out⟩)
    obtain ⟨a0, a1, a2, a3, a4, a5, a6, a7, a8, t0⟩ := HSS.out w3 HB3.out
    clear hHeld
    cases fv with
    | true =>
      have HC3 := hid (CC.out w3 HB3.out)
      go_wp2_with (go_at_call 56; with_reducible refine (HC3.out).mono ?_; rintro e w4 ⟨rfl, b', ve', es', n, h4, h5⟩; have H4 := hid h4; have H5 := hid h5; clear h4 h5)
      go_end0
      exact ⟨rfl, b', ve', es', H4.out, HTK2.out b' es' n (fun _ => HTR.out) H5.out⟩
    | false =>
      have HC3 := hid (CE.out w3 HB3.out)
      go_wp2_with (go_at_call 54; with_reducible refine (HC3.out).mono ?_; rintro e w4 ⟨rfl, ve', h4⟩; have H4 := hid h4; clear h4)
      exact bodyPost_ret (results_none rfl _ _ _) rfl ⟨rfl, _, ve', _, H4.out, HTK1.out _ _ k4 HTR.out rfl rfl⟩
  · have k4' : (o.ty == 4) = false := by simpa using k4
    refine wp_region_held_drew (S := (fun U => U.cell? ⟨R, 0, none⟩ = some (.int .u64 o.id) ∧ U.cell? ⟨R, 1, none⟩ = some (.int .u32 o.mb) ∧ U.cell? ⟨R, 2, none⟩ = some (.int .i64 o.ty) ∧ U.cell? ⟨R, 3, none⟩ = some (.int .i64 o.pr) ∧ U.cell? ⟨R, 4, none⟩ = some (.int .u64 o.vi) ∧ U.cell? ⟨R, 5, none⟩ = some (.int .u64 o.hi) ∧ U.cell? ⟨R, 6, none⟩ = some (.int .u64 o.pk) ∧ U.cell? ⟨R, 7, none⟩ = some (.int .i64 s) ∧ U.cell? ⟨R, 8, none⟩ = some (.int .u64 q) ∧ U.cell? ⟨T, 0, none⟩ = some (.pointer (some ⟨B, 0, none⟩)))) (by kernel_rfl) ?_ (fun hHeld => ?_)
    · (try dsimp only); (exact HSS.out _ (bdrew1 _))
    refine' wpAnyH_take (i := 0) (oi := _) (v := _) rfl (by kernel_rfl) (by kernel_rfl) (by kernel_rfl) (fun _ _ _ h => h) (Or.inl ⟨by kernel_rfl, ?hyq13⟩) (by assumption) ?restq13
    case hyq13 => (intro w hSw; (try dsimp only at hSw); go_simp; try (with_reducible rfl))
    try simp only [List.getElem_toArray, List.getElem_cons_succ, List.getElem_cons_zero, Act.put, List.setIfInBounds_toArray, List.set_cons_zero, List.set_cons_succ]
    refine' wpAnyH_take (i := 1) (oi := _) (v := _) rfl (by kernel_rfl) (by kernel_rfl) (by kernel_rfl) (fun _ _ _ h => h) (Or.inl ⟨by kernel_rfl, ?hyq14⟩) (by assumption) ?restq14
    case hyq14 => (intro w hSw; (try dsimp only at hSw); go_simp; try (with_reducible rfl))
    try simp only [List.getElem_toArray, List.getElem_cons_succ, List.getElem_cons_zero, Act.put, List.setIfInBounds_toArray, List.set_cons_zero, List.set_cons_succ]
    refine' wpAnyH_take (i := 2) (oi := _) (v := _) rfl (by kernel_rfl) (by kernel_rfl) (by kernel_rfl) (fun _ _ _ h => h) (Or.inl ⟨by kernel_rfl, ?hyq15⟩) (by assumption) ?restq15
    case hyq15 => (intro w hSw; (try dsimp only at hSw); go_simp; try (with_reducible rfl))
    try simp only [List.getElem_toArray, List.getElem_cons_succ, List.getElem_cons_zero, Act.put, List.setIfInBounds_toArray, List.set_cons_zero, List.set_cons_succ]
    refine' wpAnyH_take (i := 3) (oi := _) (v := .bool false) rfl (by kernel_rfl) (by kernel_rfl) (by kernel_rfl) (fun _ _ _ h => h) (Or.inl ⟨by kernel_rfl, ?hyq16⟩) (by assumption) ?restq16
    case hyq16 => (intro w hSw; (try dsimp only at hSw); go_simp; try (with_reducible rfl))
    try simp only [List.getElem_toArray, List.getElem_cons_succ, List.getElem_cons_zero, Act.put, List.setIfInBounds_toArray, List.set_cons_zero, List.set_cons_succ]
    refine' wpAnyH_take (i := 4) (oi := _) (v := _) rfl (by kernel_rfl) (by kernel_rfl) (by kernel_rfl) (fun _ _ _ h => h) (Or.inl ⟨by kernel_rfl, ?hyq17⟩) (by assumption) ?restq17
    case hyq17 => (intro w hSw; (try dsimp only at hSw); go_simp; try (with_reducible rfl))
    try simp only [List.getElem_toArray, List.getElem_cons_succ, List.getElem_cons_zero, Act.put, List.setIfInBounds_toArray, List.set_cons_zero, List.set_cons_succ]
    refine' wpAnyH_take (i := 5) (oi := _) (v := undef) rfl (by kernel_rfl) (by kernel_rfl) (by kernel_rfl) (fun _ _ _ h => h) (Or.inr ⟨by kernel_rfl, rfl⟩) (by assumption) ?restq18
    try simp only [List.getElem_toArray, List.getElem_cons_succ, List.getElem_cons_zero, Act.put, List.setIfInBounds_toArray, List.set_cons_zero, List.set_cons_succ]
    refine' wpAnyH_take (i := 6) (oi := _) (v := undef) rfl (by kernel_rfl) (by kernel_rfl) (by kernel_rfl) (fun _ _ _ h => h) (Or.inr ⟨by kernel_rfl, rfl⟩) (by assumption) ?restq19
    try simp only [List.getElem_toArray, List.getElem_cons_succ, List.getElem_cons_zero, Act.put, List.setIfInBounds_toArray, List.set_cons_zero, List.set_cons_succ]
    refine' wpAnyH_take (i := 7) (oi := _) (v := undef) rfl (by kernel_rfl) (by kernel_rfl) (by kernel_rfl) (fun _ _ _ h => h) (Or.inr ⟨by kernel_rfl, rfl⟩) (by assumption) ?restq20
    try simp only [List.getElem_toArray, List.getElem_cons_succ, List.getElem_cons_zero, Act.put, List.setIfInBounds_toArray, List.set_cons_zero, List.set_cons_succ]
    refine' wpAnyH_take (i := 8) (oi := _) (v := undef) rfl (by kernel_rfl) (by kernel_rfl) (by kernel_rfl) (fun _ _ _ h => h) (Or.inr ⟨by kernel_rfl, rfl⟩) (by assumption) ?restq21
    try simp only [List.getElem_toArray, List.getElem_cons_succ, List.getElem_cons_zero, Act.put, List.setIfInBounds_toArray, List.set_cons_zero, List.set_cons_succ]
    refine' wpAnyH_take (i := 9) (oi := _) (v := undef) rfl (by kernel_rfl) (by kernel_rfl) (by kernel_rfl) (fun _ _ _ h => h) (Or.inr ⟨by kernel_rfl, rfl⟩) (by assumption) ?restq22
    try simp only [List.getElem_toArray, List.getElem_cons_succ, List.getElem_cons_zero, Act.put, List.setIfInBounds_toArray, List.set_cons_zero, List.set_cons_succ]
    refine' wpAnyH_take (i := 10) (oi := _) (v := undef) rfl (by kernel_rfl) (by kernel_rfl) (by kernel_rfl) (fun _ _ _ h => h) (Or.inr ⟨by kernel_rfl, rfl⟩) (by assumption) ?restq23
    try simp only [List.getElem_toArray, List.getElem_cons_succ, List.getElem_cons_zero, Act.put, List.setIfInBounds_toArray, List.set_cons_zero, List.set_cons_succ]
    refine' wpAnyH_take (i := 11) (oi := _) (v := undef) rfl (by kernel_rfl) (by kernel_rfl) (by kernel_rfl) (fun _ _ _ h => h) (Or.inr ⟨by kernel_rfl, rfl⟩) (by assumption) ?restq24
    try simp only [List.getElem_toArray, List.getElem_cons_succ, List.getElem_cons_zero, Act.put, List.setIfInBounds_toArray, List.set_cons_zero, List.set_cons_succ]
    refine' wpAnyH_take (i := 12) (oi := _) (v := _) rfl (by kernel_rfl) (by kernel_rfl) (by kernel_rfl) (fun _ _ _ h => h) (Or.inl ⟨by kernel_rfl, ?hyq25⟩) (by assumption) ?restq25
    case hyq25 => (intro w hSw; (try dsimp only at hSw); go_simp; try (with_reducible rfl))
    try simp only [List.getElem_toArray, List.getElem_cons_succ, List.getElem_cons_zero, Act.put, List.setIfInBounds_toArray, List.set_cons_zero, List.set_cons_succ]
    refine wpAnyH_done (by kernel_rfl) ?_ _
    obtain ⟨a0, a1, a2, a3, a4, a5, a6, a7, a8, t0⟩ := HSS.out _ (bdrew1 w2)
    clear hHeld
    have HC3 := hid (CC.out _ (bdrew1 w2))
    go_wp2_with (go_at_call 56; with_reducible refine (HC3.out).mono ?_; rintro e w4 ⟨rfl, b', ve', es', n, h4, h5⟩; have H4 := hid h4; have H5 := hid h5; clear h4 h5)
    go_end0
    exact ⟨rfl, b', ve', es', H4.out, HTK2.out b' es' n (fun h => absurd h k4) H5.out⟩
end Go.Proofs.Ytojmcfkbekodpaa
