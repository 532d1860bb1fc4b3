/-
  An order is taken. Written by mkt.py.
-/
import Derived.Test.YtojmcfkbekodpaaRuFi
namespace Go.Proofs.Ytojmcfkbekodpaa
open Go.RowKit Go.Deep Go.Shelf
set_option linter.unusedVariables false
set_option linter.unusedSimpArgs false
set_option maxHeartbeats 8000000
set_option maxRecDepth 100000
attribute [local go_sem ↓] Go.wp_at_zero Go.wp_at_succ
def Bs.hgh (b : Bs) (h : Int) : Bs := { b with high := h }
def evA (o : Or) (s q : Int) : Ev := ⟨0, 1, o.id, 0, 0, o.mb, s, o.ty, o.pr, q, o.pk, 0, 0⟩
theorem Vb.hgh {b : Bs} (h : Vb b) (i : Int) : Vb (b.hgh i) := ⟨h.ok, h.srt, h.ids, h.len⟩
theorem Td.hgh {w0 : World} {G : Nat → Prop} {T B : Nat} {b : Bs} {ve : Value} {es : List Ev} {w : World} (h : Td w0 G T B b ve es w) (i : Int) : Td w0 G T B (b.hgh i) ve es (w.setCell ⟨B, 4, none⟩ (.int .u64 i)) := by
  have hk := Kp.set w B 4 (.int .u64 i)
  refine ⟨⟨h.tn.bm.put (k := 4) rfl rfl rfl rfl rfl rfl rfl, hk.row h.tn.row (row_ne h.tn.row h.tn.bm.row (by decide)), own_same h.tn.ev (fun j hj => ?_)⟩, h.keep hk (fun j hj => .inl (.inr (.inl hj))), h.fr⟩
  obtain ⟨c, e⟩ := own_ty h.tn.ev hj
  exact hk.obj j (row_lt e) (row_ne e h.tn.bm.row (by decide))
theorem Td.trans {w0 w1 : World} {G : Nat → Prop} {T B : Nat} {b b' : Bs} {ve ve' : Value} {es es' : List Ev} {w : World} (h : Td w0 G T B b ve es w1) (k : Td w1 (gfp b T B ve) T B b' ve' es' w) : Td w0 G T B b' ve' es' w := by
  refine ⟨k.tn, h.keep k.kp (fun j hj => hj), fun j hj => ?_⟩
  rcases k.fr j hj with e | e
  · exact h.fr j e
  · have := h.kp.size
    exact .inr (by omega)
theorem Td.told' {w0 : World} {G : Nat → Prop} {T B R : Nat} {b : Bs} {ve : Value} {es es' : List Ev} {w w' : World} {c : Array Value} (h : Td w0 G T B b ve es w) (hR : w.heap[R]? = some (.cells c 88 (0, 0))) (ht : Told w T B b.told ve es' (tfp T B ve) w') : ∃ ve', Td w0 G T B b.told ve' es' w' ∧ w'.heap[R]? = some (.cells c 88 (0, 0)) := by
  obtain ⟨ve', h1⟩ := h.told ht
  obtain ⟨_, _, _, h4⟩ := ht
  exact ⟨ve', h1, h4.row hR (h.tn.neO hR)⟩
/-- the trial of an order that fills or kills. -/
def Trd (b : Bs) (o : Or) (s q : Int) (v : Bool) : Prop := ∃ b2 n b3 es3, Sm b b2 ∧ Came o.ioc s (cms o.ioc s (mes b s q + 1) (b2, [], q)) n b3 es3 ∧ (fld q es3 == 0) = v
/-- what became of a book when an order is taken. -/
def Took (b : Bs) (es : List Ev) (o : Or) (s q : Int) (b' : Bs) (es' : List Ev) : Prop :=
  (o.ty = 4 ∧ Trd (b.hgh o.id).told o s q false ∧ b' = (b.hgh o.id).told.told ∧ es' = es ++ [(evA o s q).num (nx b.seq)] ++ [(evC o.id q 4).num (nx (nx b.seq))]) ∨
  ((o.ty = 4 → Trd (b.hgh o.id).told o s q true) ∧ ∃ n, Came o s (cms o s (mes b s q + 1) ((b.hgh o.id).told, es ++ [(evA o s q).num (nx b.seq)], q)) n b' es')
theorem tk_cells {w0 : World} {G : Nat → Prop} {T B R : Nat} {b : Bs} {ve : Value} {es : List Ev} {U : World} {o : Or} {s q : Int} (h : Td w0 G T B b ve es U) (hR : U.heap[R]? = some (.cells (crow o s q) 88 (0, 0))) : ((fun U => U.cell? ⟨R, 0, none⟩ = some (.int .u64 o.id) ∧ U.cell? ⟨R, 1, none⟩ = some (.int .u32 o.mb) ∧ U.cell? ⟨R, 2, none⟩ = some (.int .i64 o.ty) ∧ U.cell? ⟨R, 3, none⟩ = some (.int .i64 o.pr) ∧ U.cell? ⟨R, 4, none⟩ = some (.int .u64 o.vi) ∧ U.cell? ⟨R, 5, none⟩ = some (.int .u64 o.hi) ∧ U.cell? ⟨R, 6, none⟩ = some (.int .u64 o.pk) ∧ U.cell? ⟨R, 7, none⟩ = some (.int .i64 s) ∧ U.cell? ⟨R, 8, none⟩ = some (.int .u64 q) ∧ U.cell? ⟨T, 0, none⟩ = some (.pointer (some ⟨B, 0, none⟩)))) U := by
  have a0 := row_cell hR 0
  have a1 := row_cell hR 1
  have a2 := row_cell hR 2
  have a3 := row_cell hR 3
  have a4 := row_cell hR 4
  have a5 := row_cell hR 5
  have a6 := row_cell hR 6
  have a7 := row_cell hR 7
  have a8 := row_cell hR 8
  have t := row_cell h.tn.row 0
  simp only [crow, List.getElem?_toArray, List.getElem?_cons_succ, List.getElem?_cons_zero] at a0 a1 a2 a3 a4 a5 a6 a7 a8 t
  exact ⟨a0, a1, a2, a3, a4, a5, a6, a7, a8, t⟩
theorem take_any (T B : Nat) (b : Bs) (ve : Value) (es : List Ev) (o : Or) (s q : Int) (w : World) (htn : Tn w T B b ve es) (hv : Vb b) (hs : s = 1 ∨ s = 2) (hq0 : 0 ≤ q) (hq1 : q < 4294967296) (hle : es.length + 2 + 2 * mes b s q ≤ 17179869180) (hpk : 0 ≤ o.pk) :
    Calls Try.prog 28 #[.pointer (some ⟨T, 0, none⟩), .agg (crow o s q)] w fun e w' => e = .returned (.tuple #[]) ∧ ∃ b' ve' es', Td w (gfp b T B ve) T B b' ve' es' w' ∧ Took b es o s q b' es' := by
  obtain ⟨R, hR⟩ : ∃ R, w.heap.size = R := ⟨_, rfl⟩
  obtain ⟨W, hW⟩ : ∃ W, w.alloc (.cells (crow o s q) 88) = W := ⟨_, rfl⟩
  obtain ⟨G, hG⟩ : ∃ G, gfp b T B ve = G := ⟨_, rfl⟩
  have hb : Below w.heap.size w W := by rw [← hW]; exact ball _ _
  have hx : W.heap[R]? = some (.cells (crow o s q) 88 (0, 0)) := by rw [← hW, ← hR]; exact World.alloc_heap_new _ _
  have HX := hid hx
  have HTD := hid (show Td w G T B b ve es W from ⟨htn.on hb, Kp.of _ hb, fun j hj => .inl (by rw [← hG]; exact hj)⟩)
  rw [hG]
  have HW := hid hW
  have HRR := hid hR
  have HV := hid hv
  have HS := hid hs
  have HPK := hid hpk
  have HLE := hid hle
  have HCE := hid (fun (U : World) => tk_cells (w0 := w) (G := G) (T := T) (B := B) (R := R) (b := b) (ve := ve) (es := es) (U := U) (o := o) (s := s) (q := q))
  clear hR hW hG hb hx htn hv hs hpk hle HCE
  unfold crow
  go_enter Try.func28, Try.ntmps28
  go_upto_region 1 with fail
  have e1 := HRR.out
  rw [e1]
  clear e1
  have e0 := HW.out
  unfold crow at e0
  rw [e0]
  clear e0
  obtain ⟨a0, a1, a2, a3, a4, a5, a6, a7, a8, t0⟩ := tk_cells HTD.out HX.out
  have f4 := row_frz HTD.out.tn.bm.row 4
  have b4 := row_cell HTD.out.tn.bm.row 4
  simp only [Bs.row, List.getElem?_toArray, List.getElem?_cons_succ, List.getElem?_cons_zero] at b4
  go_region
  obtain ⟨W1, hW1⟩ : ∃ W1, (W.setCell ⟨B, 4, none⟩ (.int .u64 o.id)).drew = W1 := ⟨_, rfl⟩
  have HT1 := hid (show Td w G T B (b.hgh o.id) ve es W1 from by rw [← hW1]; exact (HTD.out.hgh o.id).on (bdrew1 _))
  have HX1 := hid (show W1.heap[R]? = some (.cells (crow o s q) 88 (0, 0)) from by rw [← hW1]; exact row_on ((Kp.set W B 4 (.int .u64 o.id)).row HX.out (row_ne HX.out HTD.out.tn.bm.row (by decide))) (bdrew1 _))
  rw [hW1]
  clear hW1 a0 a1 a2 a3 a4 a5 a6 a7 a8 t0 f4 b4
  have HTE := hid (show Calls Try.prog 50 #[.pointer (some ⟨T, 0, none⟩), .agg (ecs (evA o s q)).toArray] W1 fun e w' => e = .returned (.tuple #[]) ∧ ∃ ve1, Td w G T B (b.hgh o.id).told ve1 (es ++ [(evA o s q).num (nx b.seq)]) w' ∧ w'.heap[R]? = some (.cells (crow o s q) 88 (0, 0)) from
    (tell_any T B (b.hgh o.id) ve es (evA o s q) W1 HT1.out.tn (by have := HLE.out; omega)).mono (fun e w' hh => ⟨hh.1, HT1.out.told' HX1.out hh.2⟩))
  simp only [ecs, evA] at HTE
  obtain ⟨a0, a1, a2, a3, a4, a5, a6, a7, a8, t0⟩ := tk_cells HT1.out HX1.out
  go_upto_region 3 with (go_at_call 50; with_reducible refine (HTE.out).mono ?_; rintro e w2 ⟨rfl, ve1, h2, hx2⟩; have H2 := hid h2; have HX2 := hid hx2; clear h2 hx2)
  clear a0 a1 a2 a3 a4 a5 a6 a7 a8 t0
  obtain ⟨b1, hb1⟩ : ∃ b1, (b.hgh o.id).told = b1 := ⟨_, rfl⟩
  obtain ⟨es1, hes1⟩ : ∃ es1, es ++ [(evA o s q).num (nx b.seq)] = es1 := ⟨_, rfl⟩
  have h2' : Td w G T B b1 ve1 es1 w2 := by rw [← hb1, ← hes1]; exact H2.out
  have hv1 : Vb b1 := by rw [← hb1]; exact (HV.out.hgh _).told
  have hsq : b1.seq = nx b.seq := by rw [← hb1]; rfl
  have hme : mes b1 s q = mes b s q := by rw [← hb1]; rfl
  have hel : es1.length = es.length + 1 := by rw [← hes1]; simp
  have HSS := hid (fun (U : World) (hU : Below w2.heap.size w2 U) => tk_cells (h2'.on hU) (row_on HX2.out hU))
  have CF := hid (fun (U : World) (hU : Below w2.heap.size w2 U) => fills_any B b1 o s q U (h2'.on hU).tn.bm hv1 HS.out hq0 hq1 HPK.out)
  have CE := hid (fun (U : World) (hU : Below w2.heap.size w2 U) => (show Calls Try.prog 54 #[.pointer (some ⟨T, 0, none⟩), .int .u64 o.id, .int .u64 q, .int .i64 4] U fun e w' => e = .returned (.tuple #[]) ∧ ∃ ve2, Td w G T B b1.told ve2 (es1 ++ [(evC o.id q 4).num (nx b1.seq)]) w' from
    (end_any T B b1 ve1 es1 o.id q 4 U (h2'.on hU).tn (by have := HLE.out; omega)).mono (fun e w' hh => ⟨hh.1, (h2'.on hU).told hh.2⟩)))
  have CC := hid (fun (U : World) (hU : Below w2.heap.size w2 U) => (show Calls Try.prog 56 #[.pointer (some ⟨T, 0, none⟩), .agg (crow o s q)] U fun e w' => e = .returned (.tuple #[]) ∧ ∃ b' ve' es' n, Td w G T B b' ve' es' w' ∧ Came o s (cms o s (mes b s q + 1) (b1, es1, q)) n b' es' from
    (come_any T B b1 ve1 es1 o s q U (h2'.on hU).tn hv1 HS.out hq0 hq1 (by have := HLE.out; rw [hme]; omega) HPK.out).mono (fun e w' hh => by
      obtain ⟨rfl, b', ve', es', h1, h2⟩ := hh
      rw [hme] at h2
      exact ⟨rfl, b', ve', es', _, (h2'.on hU).trans h1, h2⟩)))
  have HTK1 := hid (fun (b' : Bs) (es' : List Ev) (h4 : o.ty = 4) (ht : Trd b1 o s q false) (e1 : b' = b1.told) (e2 : es' = es1 ++ [(evC o.id q 4).num (nx b1.seq)]) => (show Took b es o s q b' es' from by
    refine .inl ⟨h4, by rw [hb1]; exact ht, by rw [hb1]; exact e1, ?_⟩
    rw [hes1, ← hsq]
    exact e2))
  have HTK2 := hid (fun (b' : Bs) (es' : List Ev) (n : Nat) (ht : o.ty = 4 → Trd b1 o s q true) (hc : Came o s (cms o s (mes b s q + 1) (b1, es1, q)) n b' es') => (show Took b es o s q b' es' from by
    refine .inr ⟨by rw [hb1]; exact ht, n, ?_⟩
    rw [hb1, hes1]
    exact hc))
  clear h2' hv1 hsq hme hel hb1 hes1 H2 HTE HT1 HX1 HX HTD
  unfold crow at CC CF
  by_cases k4 : o.ty = 4
  · have k4' : (o.ty == 4) = true := by simpa using k4
    rw [k4] at CF CC
    refine wp_region_held_drew (S := (fun U => U.cell? ⟨R, 0, none⟩ = some (.int .u64 o.id) ∧ U.cell? ⟨R, 1, none⟩ = some (.int .u32 o.mb) ∧ U.cell? ⟨R, 2, none⟩ = some (.int .i64 o.ty) ∧ U.cell? ⟨R, 3, none⟩ = some (.int .i64 o.pr) ∧ U.cell? ⟨R, 4, none⟩ = some (.int .u64 o.vi) ∧ U.cell? ⟨R, 5, none⟩ = some (.int .u64 o.hi) ∧ U.cell? ⟨R, 6, none⟩ = some (.int .u64 o.pk) ∧ U.cell? ⟨R, 7, none⟩ = some (.int .i64 s) ∧ U.cell? ⟨R, 8, none⟩ = some (.int .u64 q) ∧ U.cell? ⟨T, 0, none⟩ = some (.pointer (some ⟨B, 0, none⟩)))) (by kernel_rfl) ?_ (fun hHeld => ?_)
    · (try dsimp only); (exact HSS.out _ (bdrew1 _))
    refine' wpAnyH_take (i := 0) (oi := _) (v := _) rfl (by kernel_rfl) (by kernel_rfl) (by kernel_rfl) (fun _ _ _ h => h) (Or.inl ⟨by kernel_rfl, ?hyq1⟩) (by assumption) ?restq1
    case hyq1 => (intro w hSw; (try dsimp only at hSw); go_simp; try (with_reducible rfl))
    try simp only [List.getElem_toArray, List.getElem_cons_succ, List.getElem_cons_zero, Act.put, List.setIfInBounds_toArray, List.set_cons_zero, List.set_cons_succ]
    refine' wpAnyH_take (i := 1) (oi := _) (v := _) rfl (by kernel_rfl) (by kernel_rfl) (by kernel_rfl) (fun _ _ _ h => h) (Or.inl ⟨by kernel_rfl, ?hyq2⟩) (by assumption) ?restq2
    case hyq2 => (intro w hSw; (try dsimp only at hSw); go_simp; try (with_reducible rfl))
    try simp only [List.getElem_toArray, List.getElem_cons_succ, List.getElem_cons_zero, Act.put, List.setIfInBounds_toArray, List.set_cons_zero, List.set_cons_succ]
    refine' wpAnyH_take (i := 2) (oi := _) (v := _) rfl (by kernel_rfl) (by kernel_rfl) (by kernel_rfl) (fun _ _ _ h => h) (Or.inl ⟨by kernel_rfl, ?hyq3⟩) (by assumption) ?restq3
    case hyq3 => (intro w hSw; (try dsimp only at hSw); go_simp; try (with_reducible rfl))
    try simp only [List.getElem_toArray, List.getElem_cons_succ, List.getElem_cons_zero, Act.put, List.setIfInBounds_toArray, List.set_cons_zero, List.set_cons_succ]
    refine' wpAnyH_take (i := 3) (oi := _) (v := .bool true) rfl (by kernel_rfl) (by kernel_rfl) (by kernel_rfl) (fun _ _ _ h => h) (Or.inl ⟨by kernel_rfl, ?hyq4⟩) (by assumption) ?restq4
    case hyq4 => (intro w hSw; (try dsimp only at hSw); go_simp; try (with_reducible rfl))
    try simp only [List.getElem_toArray, List.getElem_cons_succ, List.getElem_cons_zero, Act.put, List.setIfInBounds_toArray, List.set_cons_zero, List.set_cons_succ]
    refine' wpAnyH_take (i := 4) (oi := _) (v := _) rfl (by kernel_rfl) (by kernel_rfl) (by kernel_rfl) (fun _ _ _ h => h) (Or.inl ⟨by kernel_rfl, ?hyq5⟩) (by assumption) ?restq5
    case hyq5 => (intro w hSw; (try dsimp only at hSw); go_simp; try (with_reducible rfl))
    try simp only [List.getElem_toArray, List.getElem_cons_succ, List.getElem_cons_zero, Act.put, List.setIfInBounds_toArray, List.set_cons_zero, List.set_cons_succ]
    refine' wpAnyH_take (i := 5) (oi := _) (v := _) rfl (by kernel_rfl) (by kernel_rfl) (by kernel_rfl) (fun _ _ _ h => h) (Or.inl ⟨by kernel_rfl, ?hyq6⟩) (by assumption) ?restq6
    case hyq6 => (intro w hSw; (try dsimp only at hSw); go_simp; try (with_reducible rfl))
    try simp only [List.getElem_toArray, List.getElem_cons_succ, List.getElem_cons_zero, Act.put, List.setIfInBounds_toArray, List.set_cons_zero, List.set_cons_succ]
    refine' wpAnyH_take (i := 6) (oi := _) (v := _) rfl (by kernel_rfl) (by kernel_rfl) (by kernel_rfl) (fun _ _ _ h => h) (Or.inl ⟨by kernel_rfl, ?hyq7⟩) (by assumption) ?restq7
    case hyq7 => (intro w hSw; (try dsimp only at hSw); go_simp; try (with_reducible rfl))
    try simp only [List.getElem_toArray, List.getElem_cons_succ, List.getElem_cons_zero, Act.put, List.setIfInBounds_toArray, List.set_cons_zero, List.set_cons_succ]
    refine' wpAnyH_take (i := 7) (oi := _) (v := _) rfl (by kernel_rfl) (by kernel_rfl) (by kernel_rfl) (fun _ _ _ h => h) (Or.inl ⟨by kernel_rfl, ?hyq8⟩) (by assumption) ?restq8
    case hyq8 => (intro w hSw; (try dsimp only at hSw); go_simp; try (with_reducible rfl))
    try simp only [List.getElem_toArray, List.getElem_cons_succ, List.getElem_cons_zero, Act.put, List.setIfInBounds_toArray, List.set_cons_zero, List.set_cons_succ]
    refine' wpAnyH_take (i := 8) (oi := _) (v := _) rfl (by kernel_rfl) (by kernel_rfl) (by kernel_rfl) (fun _ _ _ h => h) (Or.inl ⟨by kernel_rfl, ?hyq9⟩) (by assumption) ?restq9
    case hyq9 => (intro w hSw; (try dsimp only at hSw); go_simp; try (with_reducible rfl))
    try simp only [List.getElem_toArray, List.getElem_cons_succ, List.getElem_cons_zero, Act.put, List.setIfInBounds_toArray, List.set_cons_zero, List.set_cons_succ]
    refine' wpAnyH_take (i := 9) (oi := _) (v := _) rfl (by kernel_rfl) (by kernel_rfl) (by kernel_rfl) (fun _ _ _ h => h) (Or.inl ⟨by kernel_rfl, ?hyq10⟩) (by assumption) ?restq10
    case hyq10 => (intro w hSw; (try dsimp only at hSw); go_simp; try (with_reducible rfl))
    try simp only [List.getElem_toArray, List.getElem_cons_succ, List.getElem_cons_zero, Act.put, List.setIfInBounds_toArray, List.set_cons_zero, List.set_cons_succ]
    refine wpAnyH_ready (rs := [10]) (by kernel_rfl) (by simp) ?_
    refine AllReadyH.cons (o := _) rfl (fun K hK => ?_) AllReadyH.nil
    go_simp
    go_at_call 55; with_reducible refine (CF.out _ (by exact bdrew1 _)).mono ?_; rintro e w3 ⟨⟨b2, n2, b3, es3, hsm, hcm, rfl⟩, hb3⟩; have HSM := hid hsm; have HCM := hid hcm; have HB3 := hid (show Below w2.heap.size w2 w3 from btr (bdrew1 _) hb3); clear hsm hcm hb3; obtain ⟨fv, hfv⟩ : ∃ v, (fld q es3 == 0) = v := ⟨_, rfl⟩; rw [hfv]; have HFV := hid hfv; clear hfv
    (try go_wp2_with fail)
    refine hK.out _ _ ?_ (fun hHeld => ?_)
    · (try dsimp only); (exact HSS.out _ HB3.out)
    clear hK K
    try simp only [List.getElem_toArray, List.getElem_cons_succ, List.getElem_cons_zero, Act.put, List.setIfInBounds_toArray, List.set_cons_zero, List.set_cons_succ]
    refine' wpAnyH_take (i := 11) (oi := _) (v := _) rfl (by kernel_rfl) (by kernel_rfl) (by kernel_rfl) (fun _ _ _ h => h) (Or.inl ⟨by kernel_rfl, ?hyq11⟩) (by assumption) ?restq11
    case hyq11 => (intro w hSw; (try dsimp only at hSw); go_simp; try (with_reducible rfl))
    try simp only [List.getElem_toArray, List.getElem_cons_succ, List.getElem_cons_zero, Act.put, List.setIfInBounds_toArray, List.set_cons_zero, List.set_cons_succ]
    refine' wpAnyH_take (i := 12) (oi := _) (v := _) rfl (by kernel_rfl) (by kernel_rfl) (by kernel_rfl) (fun _ _ _ h => h) (Or.inl ⟨by kernel_rfl, ?hyq12⟩) (by assumption) ?restq12
    case hyq12 => (intro w hSw; (try dsimp only at hSw); go_simp; try (with_reducible rfl))
    try simp only [List.getElem_toArray, List.getElem_cons_succ, List.getElem_cons_zero, Act.put, List.setIfInBounds_toArray, List.set_cons_zero, List.set_cons_succ]
    refine wpAnyH_done (by kernel_rfl) ?_ _
    have HTR := hid (show Trd b1 o s q fv from ⟨b2, n2, b3, es3, HSM.out, HCM.out, HFV.out⟩)
    obtain ⟨a0, a1, a2, a3, a4, a5, a6, a7, a8, t0⟩ := HSS.out w3 HB3.out
    clear hHeld
    cases fv with
    | true =>
      have HC3 := hid (CC.out w3 HB3.out)
      go_wp2_with (go_at_call 56; with_reducible refine (HC3.out).mono ?_; rintro e w4 ⟨rfl, b', ve', es', n, h4, h5⟩; have H4 := hid h4; have H5 := hid h5; clear h4 h5)
      go_end0
      exact ⟨rfl, b', ve', es', H4.out, HTK2.out b' es' n (fun _ => HTR.out) H5.out⟩
    | false =>
      have HC3 := hid (CE.out w3 HB3.out)
      go_wp2_with (go_at_call 54; with_reducible refine (HC3.out).mono ?_; rintro e w4 ⟨rfl, ve', h4⟩; have H4 := hid h4; clear h4)
      exact bodyPost_ret (results_none rfl _ _ _) rfl ⟨rfl, _, ve', _, H4.out, HTK1.out _ _ k4 HTR.out rfl rfl⟩
  · have k4' : (o.ty == 4) = false := by simpa using k4
    refine wp_region_held_drew (S := (fun U => U.cell? ⟨R, 0, none⟩ = some (.int .u64 o.id) ∧ U.cell? ⟨R, 1, none⟩ = some (.int .u32 o.mb) ∧ U.cell? ⟨R, 2, none⟩ = some (.int .i64 o.ty) ∧ U.cell? ⟨R, 3, none⟩ = some (.int .i64 o.pr) ∧ U.cell? ⟨R, 4, none⟩ = some (.int .u64 o.vi) ∧ U.cell? ⟨R, 5, none⟩ = some (.int .u64 o.hi) ∧ U.cell? ⟨R, 6, none⟩ = some (.int .u64 o.pk) ∧ U.cell? ⟨R, 7, none⟩ = some (.int .i64 s) ∧ U.cell? ⟨R, 8, none⟩ = some (.int .u64 q) ∧ U.cell? ⟨T, 0, none⟩ = some (.pointer (some ⟨B, 0, none⟩)))) (by kernel_rfl) ?_ (fun hHeld => ?_)
    · (try dsimp only); (exact HSS.out _ (bdrew1 _))
    refine' wpAnyH_take (i := 0) (oi := _) (v := _) rfl (by kernel_rfl) (by kernel_rfl) (by kernel_rfl) (fun _ _ _ h => h) (Or.inl ⟨by kernel_rfl, ?hyq13⟩) (by assumption) ?restq13
    case hyq13 => (intro w hSw; (try dsimp only at hSw); go_simp; try (with_reducible rfl))
    try simp only [List.getElem_toArray, List.getElem_cons_succ, List.getElem_cons_zero, Act.put, List.setIfInBounds_toArray, List.set_cons_zero, List.set_cons_succ]
    refine' wpAnyH_take (i := 1) (oi := _) (v := _) rfl (by kernel_rfl) (by kernel_rfl) (by kernel_rfl) (fun _ _ _ h => h) (Or.inl ⟨by kernel_rfl, ?hyq14⟩) (by assumption) ?restq14
    case hyq14 => (intro w hSw; (try dsimp only at hSw); go_simp; try (with_reducible rfl))
    try simp only [List.getElem_toArray, List.getElem_cons_succ, List.getElem_cons_zero, Act.put, List.setIfInBounds_toArray, List.set_cons_zero, List.set_cons_succ]
    refine' wpAnyH_take (i := 2) (oi := _) (v := _) rfl (by kernel_rfl) (by kernel_rfl) (by kernel_rfl) (fun _ _ _ h => h) (Or.inl ⟨by kernel_rfl, ?hyq15⟩) (by assumption) ?restq15
    case hyq15 => (intro w hSw; (try dsimp only at hSw); go_simp; try (with_reducible rfl))
    try simp only [List.getElem_toArray, List.getElem_cons_succ, List.getElem_cons_zero, Act.put, List.setIfInBounds_toArray, List.set_cons_zero, List.set_cons_succ]
    refine' wpAnyH_take (i := 3) (oi := _) (v := .bool false) rfl (by kernel_rfl) (by kernel_rfl) (by kernel_rfl) (fun _ _ _ h => h) (Or.inl ⟨by kernel_rfl, ?hyq16⟩) (by assumption) ?restq16
    case hyq16 => (intro w hSw; (try dsimp only at hSw); go_simp; try (with_reducible rfl))
    try simp only [List.getElem_toArray, List.getElem_cons_succ, List.getElem_cons_zero, Act.put, List.setIfInBounds_toArray, List.set_cons_zero, List.set_cons_succ]
    refine' wpAnyH_take (i := 4) (oi := _) (v := _) rfl (by kernel_rfl) (by kernel_rfl) (by kernel_rfl) (fun _ _ _ h => h) (Or.inl ⟨by kernel_rfl, ?hyq17⟩) (by assumption) ?restq17
    case hyq17 => (intro w hSw; (try dsimp only at hSw); go_simp; try (with_reducible rfl))
    try simp only [List.getElem_toArray, List.getElem_cons_succ, List.getElem_cons_zero, Act.put, List.setIfInBounds_toArray, List.set_cons_zero, List.set_cons_succ]
    refine' wpAnyH_take (i := 5) (oi := _) (v := undef) rfl (by kernel_rfl) (by kernel_rfl) (by kernel_rfl) (fun _ _ _ h => h) (Or.inr ⟨by kernel_rfl, rfl⟩) (by assumption) ?restq18
    try simp only [List.getElem_toArray, List.getElem_cons_succ, List.getElem_cons_zero, Act.put, List.setIfInBounds_toArray, List.set_cons_zero, List.set_cons_succ]
    refine' wpAnyH_take (i := 6) (oi := _) (v := undef) rfl (by kernel_rfl) (by kernel_rfl) (by kernel_rfl) (fun _ _ _ h => h) (Or.inr ⟨by kernel_rfl, rfl⟩) (by assumption) ?restq19
    try simp only [List.getElem_toArray, List.getElem_cons_succ, List.getElem_cons_zero, Act.put, List.setIfInBounds_toArray, List.set_cons_zero, List.set_cons_succ]
    refine' wpAnyH_take (i := 7) (oi := _) (v := undef) rfl (by kernel_rfl) (by kernel_rfl) (by kernel_rfl) (fun _ _ _ h => h) (Or.inr ⟨by kernel_rfl, rfl⟩) (by assumption) ?restq20
    try simp only [List.getElem_toArray, List.getElem_cons_succ, List.getElem_cons_zero, Act.put, List.setIfInBounds_toArray, List.set_cons_zero, List.set_cons_succ]
    refine' wpAnyH_take (i := 8) (oi := _) (v := undef) rfl (by kernel_rfl) (by kernel_rfl) (by kernel_rfl) (fun _ _ _ h => h) (Or.inr ⟨by kernel_rfl, rfl⟩) (by assumption) ?restq21
    try simp only [List.getElem_toArray, List.getElem_cons_succ, List.getElem_cons_zero, Act.put, List.setIfInBounds_toArray, List.set_cons_zero, List.set_cons_succ]
    refine' wpAnyH_take (i := 9) (oi := _) (v := undef) rfl (by kernel_rfl) (by kernel_rfl) (by kernel_rfl) (fun _ _ _ h => h) (Or.inr ⟨by kernel_rfl, rfl⟩) (by assumption) ?restq22
    try simp only [List.getElem_toArray, List.getElem_cons_succ, List.getElem_cons_zero, Act.put, List.setIfInBounds_toArray, List.set_cons_zero, List.set_cons_succ]
    refine' wpAnyH_take (i := 10) (oi := _) (v := undef) rfl (by kernel_rfl) (by kernel_rfl) (by kernel_rfl) (fun _ _ _ h => h) (Or.inr ⟨by kernel_rfl, rfl⟩) (by assumption) ?restq23
    try simp only [List.getElem_toArray, List.getElem_cons_succ, List.getElem_cons_zero, Act.put, List.setIfInBounds_toArray, List.set_cons_zero, List.set_cons_succ]
    refine' wpAnyH_take (i := 11) (oi := _) (v := undef) rfl (by kernel_rfl) (by kernel_rfl) (by kernel_rfl) (fun _ _ _ h => h) (Or.inr ⟨by kernel_rfl, rfl⟩) (by assumption) ?restq24
    try simp only [List.getElem_toArray, List.getElem_cons_succ, List.getElem_cons_zero, Act.put, List.setIfInBounds_toArray, List.set_cons_zero, List.set_cons_succ]
    refine' wpAnyH_take (i := 12) (oi := _) (v := _) rfl (by kernel_rfl) (by kernel_rfl) (by kernel_rfl) (fun _ _ _ h => h) (Or.inl ⟨by kernel_rfl, ?hyq25⟩) (by assumption) ?restq25
    case hyq25 => (intro w hSw; (try dsimp only at hSw); go_simp; try (with_reducible rfl))
    try simp only [List.getElem_toArray, List.getElem_cons_succ, List.getElem_cons_zero, Act.put, List.setIfInBounds_toArray, List.set_cons_zero, List.set_cons_succ]
    refine wpAnyH_done (by kernel_rfl) ?_ _
    obtain ⟨a0, a1, a2, a3, a4, a5, a6, a7, a8, t0⟩ := HSS.out _ (bdrew1 w2)
    clear hHeld
    have HC3 := hid (CC.out _ (bdrew1 w2))
    go_wp2_with (go_at_call 56; with_reducible refine (HC3.out).mono ?_; rintro e w4 ⟨rfl, b', ve', es', n, h4, h5⟩; have H4 := hid h4; have H5 := hid h5; clear h4 h5)
    go_end0
    exact ⟨rfl, b', ve', es', H4.out, HTK2.out b' es' n (fun h => absurd h k4) H5.out⟩
end Go.Proofs.Ytojmcfkbekodpaa
