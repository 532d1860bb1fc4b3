/-
  The law of the FOK is walked. Written by mkww.py.
-/
import Derived.Test.YtfgcfiejkjhebaaRuPw2
import Derived.Test.YtfgcfiejkjhebaaRuWh
namespace Go.Proofs.Ytfgcfiejkjhebaa
open Go.RowKit Go.Deep Go.Shelf
set_option linter.unusedVariables false
set_option linter.unusedSimpArgs false
set_option maxHeartbeats 16000000
set_option maxRecDepth 100000
attribute [local go_sem ↓] Go.wp_at_zero Go.wp_at_succ
theorem CmOk.as {c : Cm} (h : CmOk c) (t : Int) : CmOk (c.as t) := ⟨h.id0, h.id1, h.mb0, h.mb1, h.qt0, h.qt1, h.pk0, h.pk1⟩
theorem o_set {U : World} {O : Nat} {c : Cm} (h : U.heap[O]? = some (.cells (cmr c) 33 (0, 0))) (t : Int) : ((U.setCell ⟨O, 0, none⟩ (.int .i64 1)).setCell ⟨O, 5, none⟩ (.int .i64 t)).heap[O]? = some (.cells (cmr (c.as t)) 33 (0, 0)) := by
  rw [set_row _ (set_row _ h)]; rfl
theorem o_set1 {U : World} {O : Nat} {c : Cm} {s : Int} (h : U.heap[O]? = some (.cells (cmr (c.as s)) 33 (0, 0))) (t : Int) : (U.setCell ⟨O, 5, none⟩ (.int .i64 t)).heap[O]? = some (.cells (cmr (c.as t)) 33 (0, 0)) := by
  rw [set_row _ h]; rfl
theorem Pw.aside {w : World} {B Q O : Nat} {b c : Bs} {U V : World} {x : Array Value} (h : Pw w B b Q c U) (hO : U.heap[O]? = some (.cells x 33 (0, 0))) (hw : w.heap.size ≤ O) (hk : Kp (fun j => j = O) U V) : Pw w B b Q c V := by
  have hb : Below w.heap.size w V := h.p.be.trans (hk.below h.p.be.size (fun j hj e => by omega))
  exact ⟨⟨hb, h.p.bm.kept hk (fun j hj => h.p.bm.ne hO (by decide) (by decide) (by decide) hj), h.p.gb, h.p.nw⟩, ⟨hb, h.q.bm.kept hk (fun j hj => h.q.bm.ne hO (by decide) (by decide) (by decide) hj), h.q.gb, h.q.nw⟩, h.ap⟩
theorem o_kept {B O : Nat} {b : Bs} {U V : World} {x : Array Value} (hO : U.heap[O]? = some (.cells x 33 (0, 0))) (hb : Bm U B b) (hk : Kp (b.fp B) U V) : V.heap[O]? = some (.cells x 33 (0, 0)) :=
  hk.row hO (fun hf => hb.ne hO (by decide) (by decide) (by decide) hf rfl)
theorem ev_aside {O : Nat} {U V : World} {x : Array Value} {base n : Nat} {v : Value} {xs : List Value} (h : U.ownsRow base 50 13 v n xs) (hO : U.heap[O]? = some (.cells x 33 (0, 0))) (hk : Kp (fun j => j = O) U V) : V.ownsRow base 50 13 v n xs :=
  own_same h (fun g hg => by
    obtain ⟨cur, e⟩ := own_ty h hg
    exact hk.obj g (row_lt e) (row_ne e hO (by decide)))
theorem pw_load2 {w : World} {B Q O : Nat} {b c : Bs} {U : World} {x : Array Value} {base : Nat} {p1 p2 : Option Addr} {c1 c2 : Nat} (h : Pw w B b Q c U) (k : Snd b) (hO : U.heap[O]? = some (.cells x 33 (0, 0))) (h1 : U.ownsRow base 42 7 (.slice p1 b.l1.length c1) b.l1.length (ors (osl b.l1))) (h2 : U.ownsRow base 42 7 (.slice p2 b.l2.length c2) b.l2.length (ors (osl b.l2))) :
    Calls Try.prog 12 #[.pointer (some ⟨Q, 0, none⟩), .agg (bkv b (.slice p1 b.l1.length c1) (.slice p2 b.l2.length c2))] U fun e w' => e = .returned (.int .i64 0) ∧ ∃ c', Pw w B b Q c' w' ∧ Sm b c' ∧ w'.heap[O]? = some (.cells x 33 (0, 0)) := by
  refine (load_told h.p.gb k Q c U h.q.bm.row h1 h2).mono ?_
  rintro e w' ⟨rfl, c', hm, hs, hf, hk⟩
  have hQw := h.q.nw Q (.inl rfl)
  have hbe : Below w.heap.size w w' := h.p.be.trans (hk.below h.p.be.size (fun j hj e => by omega))
  refine ⟨rfl, c', ⟨⟨hbe, h.p.bm.kept hk (fun j hj e => h.ap j hj (e ▸ .inl rfl)), h.p.gb, h.p.nw⟩, ⟨hbe, hm, hs.gb h.p.gb, fun j hj => ?_⟩, fun j hj hc => ?_⟩, hs, hk.row hO (fun e => row_ne hO h.q.bm.row (by decide) e)⟩
  · rcases hf j hj with rfl | e
    · exact hQw
    · exact Nat.le_trans h.p.be.size e
  · rcases hf j hc with rfl | e
    · exact h.ap _ hj (.inl rfl)
    · have := h.p.bm.lt hj; omega
theorem slice_tail (g k c : Nat) (hc : k + 1 ≤ c) : ∃ px, (∀ U, (Instr.slice 28 (.slice (some ⟨g, 0, none⟩) (k + 1) c) (some (.int .i64 1)) none none).run Try.prog U = .ok (.slice px k (c - 1)) U) ∧ (0 < k → px = some ⟨g, 13, none⟩) := by
  refine ⟨if c = 1 then some ⟨g, 0, none⟩ else some ⟨g, 13, none⟩, fun U => ?_, fun h => by rw [if_neg (by omega)]⟩
  have hu : Try.prog.underlying 28 = some (.slice 50) := Try.underlying28
  have he : Try.prog.elem 28 = 50 := by unfold Program.elem; rw [hu]
  have hs : ∀ w, (sizeOf 50).run Try.prog w = .ok 13 w := fun w => by kernel_rfl
  rw [run_slice_l (P := Try.prog) (t := 28) (a := some ⟨g, 0, none⟩) (len := k + 1) (cap := c) (ht := by rw [he]; exact hu) (kl := .i64) (l := 1) (h0 := by decide) (h1 := by omega), he, hs]
  simp only [Result.andThen, sliced]
  by_cases h : c = 1
  · subst h
    simp
  · simp [h, Addr.add]
/-- the rest of a list of events lies behind its first. -/
theorem evz_tail {w : World} {g : Nat} {e : Ev} {r : List Ev} {px : Option Addr} (h : Evz w (some ⟨g, 0, none⟩) (e :: r)) (hp : 0 < r.length → px = some ⟨g, 13, none⟩) : Evz w px r := by
  intro i hi
  obtain ⟨b, off, hq, hb, hc⟩ := h (i + 1) (by simpa using hi)
  injection hq with hq
  injection hq with h1 h2
  subst h1 h2
  refine ⟨g, 13, hp (by omega), hb, fun j hj => ?_⟩
  have := hc j hj
  simp only [List.getElem_cons_succ] at this
  rw [← this, show 13 + i * 13 + j = 0 + (i + 1) * 13 + j by omega]
theorem trd_take {es : List Ev} {j : Nat} (hj : j < es.length) : trd (es.take (j + 1)) = trd (es.take j) + (if es[j].kd = 3 then es[j].qt else 0) := by
  rw [List.take_succ_eq_append_getElem hj, trd_append]
  simp [trd]
theorem trd_take_le {es : List Ev} (h : Pos es) (j : Nat) : 0 ≤ trd (es.take j) ∧ trd (es.take j) ≤ trd es := by
  have h1 : Pos (es.take j) := fun e he => h e (List.mem_of_mem_take he)
  have h2 : Pos (es.drop j) := fun e he => h e (List.mem_of_mem_drop he)
  have a := trd_pos h1
  have c := trd_pos h2
  have e : trd es = trd (es.take j) + trd (es.drop j) := by rw [← trd_append, List.take_append_drop]
  omega
theorem whole_walk (cap meet : Int) (q : Option Addr) (lc : Nat) (l : List Cm) (o : Cm) (W : World) (hl : Cmz W q l) (hok : ∀ c ∈ l, CmOk c) (hn : l.length ≤ maxLen) (hoo : CmOk o) :
    Calls Try.prog 5 #[.agg #[.int .i64 cap, .int .i64 meet], .slice q l.length lc, .agg (cmr o)] W fun e w' => e = .returned (.bool true) ∧ Below W.heap.size W w' := by
  have CB := hid (fun U => begun_any cap meet U)
  have CN := hid (fun U => pl_new cap meet U)
  have HCF := hid (show ∀ b, Fr b cap meet → cfg cap meet = true → Snd b from fun b h k => h.snd k)
  obtain ⟨v, hv⟩ : ∃ v, cfg cap meet = v := ⟨_, rfl⟩
  rw [hv] at CB HCF CN
  clear hv
  obtain ⟨n, hnn⟩ : ∃ n, l.length = n := ⟨_, rfl⟩
  have HN := hid hnn
  rw [hnn] at hn ⊢
  clear hnn
  have hn' : n < 9223372036854775808 := by unfold maxLen at hn; omega
  have HL := hid hl
  have HOK := hid hok
  have HOO := hid hoo
  obtain ⟨W1, hW1⟩ : ∃ W1, W.alloc (.cells #[.int .i64 cap, .int .i64 meet] 23) = W1 := ⟨_, rfl⟩
  obtain ⟨O, hO⟩ : ∃ O, W1.heap.size = O := ⟨_, rfl⟩
  obtain ⟨W2, hW2⟩ : ∃ W2, W1.alloc (.cells (cmr o) 33) = W2 := ⟨_, rfl⟩
  have HB := hid (show Below W.heap.size W W1 from by rw [← hW1]; exact ball _ _)
  have HB2 := hid (show Below W1.heap.size W1 W2 from by rw [← hW2]; exact ball _ _)
  have hr : W1.heap[W.heap.size]? = some (.cells #[.int .i64 cap, .int .i64 meet] 23 (0, 0)) := by rw [← hW1]; exact World.alloc_heap_new _ _
  have HRO := hid (show W2.heap[O]? = some (.cells (cmr o) 33 (0, 0)) from by rw [← hW2, ← hO]; exact World.alloc_heap_new _ _)
  have HLE := hid (show W1.heap.size ≤ O from by omega)
  have HP0 := hid (show ∀ U, Below W1.heap.size W1 U → U.cell? ⟨W.heap.size, 0, none⟩ = some (.int .i64 cap) ∧ U.cell? ⟨W.heap.size, 1, none⟩ = some (.int .i64 meet) from fun U hU => by
    have c0 := row_cell (row_on hr hU) 0
    have c1 := row_cell (row_on hr hU) 1
    simp only [List.getElem?_toArray, List.getElem?_cons_succ, List.getElem?_cons_zero] at c0 c1
    exact ⟨c0, c1⟩)
  have HSZ : W.heap.size + 1 = O := by rw [← hO, ← hW1]; simp
  have HSZ' := hid HSZ
  have HW2 := hid (show (W.alloc (.cells #[.int .i64 cap, .int .i64 meet] 23)).alloc (.cells (cmr o) 33) = W2 from by rw [hW1]; exact hW2)
  clear hr hW1 hW2 hO hl hok hoo HSZ
  obtain ⟨c0, c1⟩ := HP0.out W2 HB2.out
  unfold cmr at HW2 ⊢
  cases v with
  | false =>
    have CB2 := hid ((CB.out W2).mono (R' := fun e w' => e = .returned (.tuple #[.pointer none, .bool true]) ∧ Below W2.heap.size W2 w') (by
      rintro e w' (⟨_, h1, h2⟩ | ⟨h, _⟩)
      · exact ⟨h1, h2⟩
      · cases h))
    go_enter Try.func5, Try.ntmps5
    go_upto_region 1 with fail
    have e0 := HW2.out
    rw [e0]
    clear e0
    go_wp2_with (go_at_call 6; with_reducible refine (CB2.out).mono ?_; rintro e w1 ⟨rfl, hb1⟩; have HB1 := hid hb1; clear hb1)
    go_ret
    exact ⟨rfl, btr (btr HB.out HB2.out) HB1.out⟩
  | true =>
    have CB2 := hid ((CB.out W2).mono (R' := fun e w' => ∃ B b, e = .returned (.tuple #[.pointer (some ⟨B, 0, none⟩), .bool true]) ∧ Pl W1 B b w' ∧ Snd b ∧ w'.heap[O]? = some (.cells (cmr o) 33 (0, 0))) (by
      rintro e w' (⟨h, _⟩ | ⟨_, B, b, h1, h2, h3⟩)
      · cases h
      · exact ⟨B, b, h1, h2.back HB2.out, HCF.out b h3 rfl, row_on HRO.out h2.be⟩))
    have CN2 := hid (fun U => (CN.out U).mono (R' := fun e w' => ∃ Q c, e = .returned (.tuple #[.pointer (some ⟨Q, 0, none⟩), .int .i64 0]) ∧ Pl U Q c w') (by
      rintro e w' (⟨h, _⟩ | ⟨_, Q, c, h1, h2, h3⟩)
      · cases h
      · exact ⟨Q, c, h1, h2⟩))
    go_enter Try.func5, Try.ntmps5
    go_upto_region 1 with fail
    have e0 := HW2.out
    have e1 := HSZ'.out
    simp only [World.size_alloc, e1] at *
    rw [e0]
    clear e0 e1
    go_wp2_with (go_at_call 6; with_reducible refine (CB2.out).mono ?_; rintro e w1 ⟨B, b0, rfl, h1, hs0, ho0⟩; have H1 := hid h1; have HS0 := hid hs0; have HO0 := hid ho0; clear h1 hs0 ho0)
    clear c0 c1
    go_loopw [9] (fun iv wr => ∃ (i : Nat) (b : Bs), i ≤ n ∧ iv = .int .i64 i ∧ Hid (Pl W1 B b wr) ∧ Hid (Snd b) ∧ Hid (wr.heap[O]? = some (.cells (cmr o) 33 (0, 0)))) (fun iv _ => n - (intOf iv).toNat)
    case atStart => exact ⟨0, b0, Nat.zero_le _, rfl, H1, HS0, HO0⟩
    case round =>
      obtain ⟨i, b, hin, rfl, HP, HSN, HRO2⟩ := hrel
      by_cases hlt : i < n
      · have hil : i < l.length := by rw [HN.out]; exact hlt
        have hck := HOK.out l[i] (List.getElem_mem hil)
        obtain ⟨qb, qo, hq, a0, a1, a2, a3, a4, a5, a6, a7, a8⟩ := cmz_cells HL.out (btr HB.out HP.out.be) hil
        obtain ⟨c, hc⟩ : ∃ c, l[i] = c := ⟨_, rfl⟩
        rw [hc] at hck a0 a1 a2 a3 a4 a5 a6 a7 a8
        clear hc
        subst hq
        have CD := hid (show Calls Try.prog 7 #[.pointer (some ⟨B, 0, none⟩), .agg (cmr c)] wr fun e w' => ∃ b' p q m, e = .returned (.slice p m q) ∧ Pl W1 B b' w' ∧ Snd b' ∧ w'.heap[O]? = some (.cells (cmr o) 33 (0, 0)) from by
          refine (pl_do2 c HP.out hck).mono ?_
          rintro e w' ⟨b', p, q, es', h1, h2, h3, h4, h5⟩
          exact ⟨b', p, q, es'.length, h1, h2, h4.snd HP.out.gb HSN.out hck, o_kept HRO2.out HP.out.bm h5⟩)
        unfold cmr at CD
        clear hck
        have i0' : (0 : Int) ≤ (i : Int) := by omega
        have i1 : (i : Int) < (n : Int) := by omega
        go_wp2_with (go_at_call 7; with_reducible refine (CD.out).mono ?_; rintro e w2 ⟨b', p2, q2, m, rfl, h2, hs2, ho2⟩; have H2 := hid h2; have HS2 := hid hs2; have HO2 := hid ho2; clear h2 hs2 ho2)
        go_roundw
        case rel => exact ⟨i + 1, b', by omega, by go_num, H2, HS2, HO2⟩
        case measure => first | (simp [intOf]; done) | (simp [intOf]; omega)
      · obtain rfl : i = n := by omega
        obtain ⟨c0, c1⟩ := HP0.out _ HP.out.be
        have CK := hid (fun (Q : Nat) (c : Bs) (U : World) (h : Pl wr Q c U) => (book_any B b U (HP.out.on h.be).bm HP.out.gb.vb.len).mono (R' := fun e w' => ∃ x1 y1 x2 y2, e = .returned (.agg (bkv b (.slice x1 b.l1.length y1) (.slice x2 b.l2.length y2))) ∧ Pw W1 B b Q c w' ∧ w'.heap[O]? = some (.cells (cmr o) 33 (0, 0)) ∧ w'.ownsRow U.heap.size 42 7 (.slice x1 b.l1.length y1) b.l1.length (ors (osl b.l1)) ∧ w'.ownsRow U.heap.size 42 7 (.slice x2 b.l2.length y2) b.l2.length (ors (osl b.l2))) (by
          rintro e w' ⟨v1, v2, rfl, ho1, ho2, hb3⟩
          obtain ⟨x1, y1, rfl⟩ := own_form ho1
          obtain ⟨x2, y2, rfl⟩ := own_form ho2
          exact ⟨x1, y1, x2, y2, rfl, (pw_new HP.out h).on hb3, row_on HRO2.out (btr h.be hb3), ho1, ho2⟩))
        have CLD := hid (fun (Q : Nat) (c : Bs) (x1 x2 : Option Addr) (y1 y2 base : Nat) (U : World) (h : Pw W1 B b Q c U) (hO : U.heap[O]? = some (.cells (cmr o) 33 (0, 0))) (h1 : U.ownsRow base 42 7 (.slice x1 b.l1.length y1) b.l1.length (ors (osl b.l1))) (h2 : U.ownsRow base 42 7 (.slice x2 b.l2.length y2) b.l2.length (ors (osl b.l2))) => pw_load2 h HSN.out hO h1 h2)
        unfold bkv at CK CLD
        go_upto_region 9 with (go_at_call 11; with_reducible refine (CN2.out _).mono ?_; rintro e w3 ⟨Q, c, rfl, h3⟩; have HCK := hid (CK.out Q c w3 h3); clear h3)
        clear c0 c1
        go_upto_region 11 with (first
          | (go_at_call 8; with_reducible refine (HCK.out).mono ?_; rintro e w4 ⟨x1, y1, x2, y2, rfl, h4, ho4, k1, k2⟩; have HLD := hid (CLD.out Q c x1 x2 y1 y2 _ w4 h4 ho4 k1 k2); clear h4 ho4 k1 k2)
          | (go_at_call 12; with_reducible refine (HLD.out).mono ?_; rintro e w5 ⟨rfl, c', h5, hs5, ho5⟩; have H5 := hid h5; have HS5 := hid hs5; have HO5 := hid ho5; clear h5 hs5 ho5))
        have z0 := row_frz HO5.out 0
        have z5 := row_frz HO5.out 5
        obtain ⟨u0, -, -, -, -, u5, -⟩ := cmr_cells HO5.out
        obtain ⟨V, hV⟩ : ∃ V, (w5.setCell ⟨O, 0, none⟩ (.int .i64 1)).setCell ⟨O, 5, none⟩ (.int .i64 4) = V := ⟨_, rfl⟩
        have HKV := hid (show Kp (fun j => j = O) w5 V from by rw [← hV]; exact (Kp.set _ _ _ _).trans (Kp.set _ _ _ _) (fun j _ e => e))
        have HOV := hid (show V.heap[O]? = some (.cells (cmr (o.as 4)) 33 (0, 0)) from by rw [← hV]; exact o_set HO5.out 4)
        have HPV := hid (H5.out.aside HO5.out HLE.out HKV.out)
        have HV := hid hV
        clear hV
        go_upto_region 12 with fail
        have e0 := HV.out
        rw [e0]
        clear e0 z0 z5 u0 u5
        obtain ⟨a0, a1, a2, a3, a4, a5, a6, a7, a8⟩ := cmr_cells HOV.out
        have CD := hid ((pw_do (o.as 4) HPV.out (HOO.out.as 4)).mono (R' := fun e w' => ∃ b' p q es, e = .returned (.slice p es.length q) ∧ Pw W1 B b' Q c' w' ∧ w'.ownsRow 0 50 13 (.slice p es.length q) es.length (evs es) ∧ Did b (o.as 4) b' es ∧ w'.heap[O]? = some (.cells (cmr (o.as 4)) 33 (0, 0))) (by
          rintro e w' ⟨b', p, q, es, h1, h2, h3, h4, h6⟩
          exact ⟨b', p, q, es, h1, h2, h3, h4, o_kept HOV.out HPV.out.p.bm h6⟩))
        unfold cmr at CD
        go_upto_region 13 with (go_at_call 7; with_reducible refine (CD.out).mono ?_; rintro e w6 ⟨b', p6, q6, x, rfl, h6, ho6, hd6, hr6⟩; have H6 := hid h6; have HE6 := hid ho6; have HD6 := hid hd6; have HR6 := hid hr6; clear h6 ho6 hd6 hr6)
        have HO6 := hid (show w6.heap[O]? = some (.cells (cmr (o.as 4)) 33 (0, 0)) from HR6.out)
        clear HR6
        clear a0 a1 a2 a3 a4 a5 a6 a7 a8 CD
        have z5 := row_frz HO6.out 5
        obtain ⟨-, -, -, -, -, u5, -⟩ := cmr_cells HO6.out
        obtain ⟨V2, hV2⟩ : ∃ V2, w6.setCell ⟨O, 5, none⟩ (.int .i64 3) = V2 := ⟨_, rfl⟩
        have HKV2 := hid (show Kp (fun j => j = O) w6 V2 from by rw [← hV2]; exact Kp.set _ _ _ _)
        have HOV2 := hid (show V2.heap[O]? = some (.cells (cmr (o.as 3)) 33 (0, 0)) from by rw [← hV2]; exact o_set1 HO6.out 3)
        have HPV2 := hid (H6.out.aside HO6.out HLE.out HKV2.out)
        have HEV2 := hid (ev_aside HE6.out HO6.out HKV2.out)
        have HV2 := hid hV2
        clear hV2
        go_upto_region 14 with fail
        have e0 := HV2.out
        rw [e0]
        clear e0 z5 u5
        obtain ⟨a0, a1, a2, a3, a4, a5, a6, a7, a8⟩ := cmr_cells HOV2.out
        have CD := hid ((pw_do (o.as 3) HPV2.out.symm (HOO.out.as 3)).mono (R' := fun e w' => ∃ p q y, e = .returned (.slice p y.length q) ∧ Below W1.heap.size W1 w' ∧ w'.ownsRow 0 50 13 (.slice p y.length q) y.length (evs y) ∧ w'.ownsRow 0 50 13 (.slice p6 x.length q6) x.length (evs x) ∧ Wh o.qt x y ∧ w'.heap[O]? = some (.cells (cmr (o.as 3)) 33 (0, 0))) (by
          rintro e w' ⟨c2, p, q, y, h1, h2, h3, h4, h6⟩
          exact ⟨p, q, y, h1, h2.p.be, h3, ev_kept HEV2.out HPV2.out.q.bm h6, did_whole HS5.out HP.out.gb HD6.out h4, o_kept HOV2.out HPV2.out.q.bm h6⟩))
        unfold cmr at CD
        go_upto_region 15 with (go_at_call 7; with_reducible refine (CD.out).mono ?_; rintro e w8 ⟨p8, q8, y, rfl, hb8, hy8, hx8, hw8, hr8⟩; have HB8 := hid hb8; have HY8 := hid hy8; have HX8 := hid hx8; have HW8 := hid hw8; have HR8 := hid hr8; clear hb8 hy8 hx8 hw8 hr8)
        have HO8 := hid (show w8.heap[O]? = some (.cells (cmr (o.as 3)) 33 (0, 0)) from HR8.out)
        clear HR8
        clear a0 a1 a2 a3 a4 a5 a6 a7 a8 CD H6 HE6 HD6 HO6 HKV2 HOV2 HPV2 HEV2 HV2 HKV HOV HPV HV H5 HS5 HO5
        obtain ⟨e, r, e2, r2, rfl, rfl, hkd, hcd, hwh⟩ := HW8.out
        have HWH := hid hwh
        obtain ⟨g, cx, hgx, hmx, -, hx0⟩ := ev_cells HX8.out (i := 0) (by simp)
        obtain ⟨g2, cy, hgy, hmy, -, hy0⟩ := ev_cells HY8.out (i := 0) (by simp)
        have hcx : r.length + 1 ≤ q6 := by
          obtain ⟨_, ⟨e1, e2⟩ | ⟨g', c', cur, e1, r1, r2, r3, r4, r5, r6⟩⟩ := HX8.out
          · simp at e2
          · have := (Value.slice.inj e1).2.2; subst this; simpa using r3
        have hcy : r2.length + 1 ≤ q8 := by
          obtain ⟨_, ⟨e1, e2⟩ | ⟨g', c', cur, e1, r1, r2, r3, r4, r5, r6⟩⟩ := HY8.out
          · simp at e2
          · have := (Value.slice.inj e1).2.2; subst this; simpa using r3
        obtain rfl := (Value.slice.inj hgx).1
        obtain rfl := (Value.slice.inj hgy).1
        have HZX := hid (evz_of HX8.out)
        have HZY := hid (evz_of HY8.out)
        have HEX := hid (fun (U : World) (hU : Below w8.heap.size w8 U) => show U.cell? ⟨g, 1, none⟩ = some (.int .i64 e.kd) ∧ U.cell? ⟨g, 12, none⟩ = some (.int .i64 e.cd) ∧ U.cell? ⟨g2, 1, none⟩ = some (.int .i64 e.kd) ∧ U.cell? ⟨g2, 12, none⟩ = some (.int .i64 e.cd) ∧ U.cell? ⟨O, 7, none⟩ = some (.int .u64 o.qt) from by
          obtain ⟨b1, o1, q1, k0, k1, k2, k3, k4, k5, k6, k7, k8, k9, k10, k11, k12⟩ := evz_cells HZX.out hU (i := 0) (by simp)
          obtain ⟨b2, o2, q2, l0, l1, l2, l3, l4, l5, l6, l7, l8, l9, l10, l11, l12⟩ := evz_cells HZY.out hU (i := 0) (by simp)
          injection q1 with q1; injection q1 with q1 q1'; subst q1 q1'
          injection q2 with q2; injection q2 with q2 q2'; subst q2 q2'
          obtain ⟨_, _, _, _, _, _, _, m7, _⟩ := cmr_cells (row_on HO8.out hU)
          simp only [List.getElem_cons_zero, Nat.zero_mul, Nat.zero_add, ← hkd, ← hcd] at k1 k12 l1 l12
          exact ⟨k1, k12, l1, l12, m7⟩)
        have HLX : (e :: r).length = r.length + 1 := rfl
        have HLY : (e2 :: r2).length = r2.length + 1 := rfl
        rw [HLX, HLY]
        rw [HLX] at hmx
        rw [HLY] at hmy
        obtain ⟨m, hm⟩ : ∃ m, r.length = m := ⟨_, rfl⟩
        obtain ⟨k, hk⟩ : ∃ k, r2.length = k := ⟨_, rfl⟩
        have HM := hid hm
        have HK := hid hk
        rw [hm] at hmx hcx ⊢
        rw [hk] at hmy hcy ⊢
        obtain ⟨kd, hkk⟩ : ∃ kd, e.kd = kd := ⟨_, rfl⟩
        obtain ⟨cd, hcc⟩ : ∃ cd, e.cd = cd := ⟨_, rfl⟩
        obtain ⟨qt, hqq⟩ : ∃ qt, o.qt = qt := ⟨_, rfl⟩
        have HKK := hid hkk
        have HQQ := hid hqq
        rw [hkk, hcc, hqq] at HEX
        rw [hqq] at HWH
        clear hm hk hkk hcc hqq HLX HLY hkd hcd hwh hgx hgy hx0 hy0 HW8
        obtain ⟨f1, f2, f3, f4, f5⟩ := HEX.out w8 (Below.refl _ _)
        unfold maxLen at hmx hmy
        have m0 : (0 : Int) < ((m + 1 : Nat) : Int) := by omega
        have k0 : (0 : Int) < ((k + 1 : Nat) : Int) := by omega
        have dm : decide (0 < m + 1) = true := by simp
        have dk : decide (0 < k + 1) = true := by simp
        obtain ⟨m', hm'⟩ : ∃ m', m + 1 = m' := ⟨_, rfl⟩
        obtain ⟨k', hk'⟩ : ∃ k', k + 1 = k' := ⟨_, rfl⟩
        have HM' := hid hm'
        have HK' := hid hk'
        rw [hm'] at m0 dm hmx hcx ⊢
        rw [hk'] at k0 dk hmy hcy ⊢
        have em : ((m' : Int) == 0) = false := by simp; omega
        have ek : ((k' : Int) == 0) = false := by simp; omega
        clear hm' hk'
        refine Sr.reg_any2 [63, 64, 65, 66, 67, 68, 69, 70, 71, 72, 73, 74, 75, 76, 77, 78, 79, 80, 81, 82, 83, 84, 85, 86, 87, 88, 89, 90, 91, 92] (fun t U => t 92 = .bool false ∧ Hid (Below w8.heap.size w8 U)) ?_ ?_
        · go_big_quiet (fail)
          first | exact ⟨by kernel_rfl, by rfl, hid (bdrew _ _)⟩ | exact ⟨by kernel_rfl, by simp, hid (bdrew _ _)⟩
        rintro t U0 ⟨et, HU0⟩
        simp only [Sr.puts, List.foldl_cons, List.foldl_nil, Act.put, List.setIfInBounds_toArray, List.set_cons_zero, List.set_cons_succ]
        rw [et]
        clear et f1 f2 f3 f4 f5
        obtain ⟨f1, f2, f3, f4, f5⟩ := HEX.out U0 HU0.out
        by_cases hk2 : kd = 2
        · subst hk2
          go_wp2
          go_ret
          exact ⟨rfl, btr HB.out (btr HB8.out HU0.out)⟩
        · have hk2' : (kd == 2) = false := by simpa using hk2
          obtain ⟨hpos, hle, hq32, hne, heq⟩ := HWH.out (by rw [HKK.out]; exact hk2)
          have HPOS := hid hpos
          have HNE := hid hne
          have HEQ := hid heq
          clear hk2 hpos hne heq
          go_wp2_with fail
          go_loopw [14, 15] (fun sv jv wr => ∃ (j : Nat), j ≤ k' ∧ jv = .int .i64 j ∧ sv = .int .u64 (trd ((e2 :: r2).take j)) ∧ Hid (Below w8.heap.size w8 wr)) (fun _ jv _ => k' - (intOf jv).toNat)
          case atStart => exact ⟨0, Nat.zero_le _, rfl, rfl, HU0⟩
          case round =>
            clear f1 f2 f3 f4 f5
            obtain ⟨j, hj1, rfl, rfl, HJ⟩ := hrel
            by_cases hj : j < k'
            · have hjl : j < (e2 :: r2).length := by have := HK.out; have := HK'.out; simp; omega
              obtain ⟨b2, o2, q2, l0, l1, l2, l3, l4, l5, l6, l7, l8, l9, l10, l11, l12⟩ := evz_cells HZY.out HJ.out hjl
              injection q2 with q2; injection q2 with q2 q2'; subst q2 q2'
              have tk := trd_take hjl
              have t1 := trd_take_le HPOS.out j
              have t2 := trd_take_le HPOS.out (j + 1)
              obtain ⟨z, hz⟩ : ∃ z, (e2 :: r2)[j] = z := ⟨_, rfl⟩
              rw [hz] at l1 l9 tk
              clear hz l0 l2 l3 l4 l5 l6 l7 l8 l10 l11 l12
              simp only [Nat.zero_add] at l1 l9
              have j0' : (0 : Int) ≤ (j : Int) := by omega
              have j1 : (j : Int) < (k' : Int) := by omega
              obtain ⟨a, ha⟩ : ∃ a, trd ((e2 :: r2).take j) = a := ⟨_, rfl⟩
              rw [ha] at tk t1 ⊢
              by_cases h3 : z.kd = 3
              · rw [if_pos h3] at tk
                rw [h3] at l1
                have wz : IntKind.u64.wrap (a + z.qt) = a + z.qt := by rw [IntKind.wrap_u64]; omega
                have HTK := hid tk
                clear tk h3 t1 t2 ha
                go_wp2
                go_roundw
                case rel => exact ⟨j + 1, by omega, by go_num, by rw [HTK.out], HJ⟩
                case measure => first | (simp [intOf]; done) | (simp [intOf]; omega)
              · rw [if_neg h3] at tk
                have h3' : (z.kd == 3) = false := by simpa using h3
                have HTK := hid tk
                clear tk h3 t1 t2 ha
                go_wp2
                go_roundw
                case rel => exact ⟨j + 1, by omega, by go_num, by rw [HTK.out]; simp, HJ⟩
                case measure => first | (simp [intOf]; done) | (simp [intOf]; omega)
            · obtain rfl : j = k' := by omega
              have ht : (e2 :: r2).take j = e2 :: r2 := List.take_of_length_le (by have := HK.out; have := HK'.out; simp; omega)
              rw [ht]
              obtain ⟨a, ha⟩ : ∃ a, trd (e2 :: r2) = a := ⟨_, rfl⟩
              rw [ha] at HNE HEQ ⊢
              obtain ⟨f1, f2, f3, f4, f5⟩ := HEX.out _ HJ.out
              clear ht ha hle HPOS
              by_cases haq : a = qt
              · have HR := hid (HEQ.out haq)
                subst haq
                have ne' : ∀ x : Int, (x != x) = false := fun x => by simp
                have en := HR.out
                obtain ⟨s1, hs1, hp1⟩ := slice_tail g m q6 (by have := HM'.out; omega)
                obtain ⟨s2, hs2, hp2⟩ := slice_tail g2 k q8 (by have := HK'.out; omega)
                rw [HM'.out] at hs1
                rw [HK'.out] at hs2
                have hmk : m = k := by rw [← HM.out, ← HK.out, en]
                have CE := hid (fun (U : World) (hU : Below wr.heap.size wr U) => show Calls Try.prog 13 #[.slice s1 m (q6 - 1), .slice s2 k (q8 - 1)] U fun e w' => e = .returned (.bool true) ∧ Below U.heap.size U w' from by
                  have z1 : Evz wr s1 r := evz_tail (e := e) (fun i hi => by
                    obtain ⟨b, off, h1, h2, h3⟩ := HZX.out i hi
                    exact ⟨b, off, h1, Nat.lt_of_lt_of_le h2 HJ.out.size, fun jj hjj => (HJ.out.cell (p := ⟨b, off + i * 13 + jj, none⟩) h2).trans (h3 jj hjj)⟩) (fun h => hp1 (by rw [← HM.out]; exact h))
                  have z2 : Evz wr s2 r2 := evz_tail (e := e2) (fun i hi => by
                    obtain ⟨b, off, h1, h2, h3⟩ := HZY.out i hi
                    exact ⟨b, off, h1, Nat.lt_of_lt_of_le h2 HJ.out.size, fun jj hjj => (HJ.out.cell (p := ⟨b, off + i * 13 + jj, none⟩) h2).trans (h3 jj hjj)⟩) (fun h => hp2 (by rw [← HK.out]; exact h))
                  rw [← en] at z2
                  have on : ∀ {q : Option Addr}, Evz wr q r → Evz U q r := fun h i hi => by
                    obtain ⟨b, off, h1, h2, h3⟩ := h i hi
                    exact ⟨b, off, h1, Nat.lt_of_lt_of_le h2 hU.size, fun jj hjj => (hU.cell (p := ⟨b, off + i * 13 + jj, none⟩) h2).trans (h3 jj hjj)⟩
                  have := events_any s1 s2 (q6 - 1) (q8 - 1) r U (on z1) (on z2) (by rw [HM.out]; unfold maxLen; have := HM'.out; omega)
                  rw [HM.out] at this
                  rw [← hmk]
                  exact this)
                have HSL1 := hid hs1
                have HSL2 := hid hs2
                clear en hmk hp1 hp2
                have HBD := hid (bdrew1 wr)
                go_upto_region 27 with fail
                refine wp_region_held_drew (S := (fun U => True)) (by kernel_rfl) ?_ (fun hHeld => ?_)
                · (try dsimp only); (first | done | trivial)
                refine' wpAnyH_take (i := 0) (oi := _) (v := _) rfl (by kernel_rfl) (by kernel_rfl) (by kernel_rfl) (fun _ _ _ h => h) (Or.inl ⟨by kernel_rfl, ?hyq1⟩) (by assumption) ?restq1
                case hyq1 => (intro w hSw; (try dsimp only at hSw); go_simp; try (with_reducible rfl))
                try simp only [List.getElem_toArray, List.getElem_cons_succ, List.getElem_cons_zero, Act.put, List.setIfInBounds_toArray, List.set_cons_zero, List.set_cons_succ]
                refine' wpAnyH_take (i := 1) (oi := _) (v := _) rfl (by kernel_rfl) (by kernel_rfl) (by kernel_rfl) (fun _ _ _ h => h) (Or.inl ⟨by kernel_rfl, ?hyq2⟩) (by assumption) ?restq2
                case hyq2 => (intro w hSw; (try dsimp only at hSw); go_simp; try (with_reducible rfl))
                try simp only [List.getElem_toArray, List.getElem_cons_succ, List.getElem_cons_zero, Act.put, List.setIfInBounds_toArray, List.set_cons_zero, List.set_cons_succ]
                refine' wpAnyH_take (i := 2) (oi := _) (v := _) rfl (by kernel_rfl) (by kernel_rfl) (by kernel_rfl) (fun _ _ _ h => h) (Or.inl ⟨by kernel_rfl, ?hyq3⟩) (by assumption) ?restq3
                case hyq3 => (intro w hSw; (try dsimp only at hSw); go_simp; try (with_reducible rfl))
                try simp only [List.getElem_toArray, List.getElem_cons_succ, List.getElem_cons_zero, Act.put, List.setIfInBounds_toArray, List.set_cons_zero, List.set_cons_succ]
                refine' wpAnyH_take (i := 3) (oi := _) (v := _) rfl (by kernel_rfl) (by kernel_rfl) (by kernel_rfl) (fun _ _ _ h => h) (Or.inl ⟨by kernel_rfl, ?hyq4⟩) (by assumption) ?restq4
                case hyq4 => (intro w hSw; (try dsimp only at hSw); go_simp; try (with_reducible rfl))
                try simp only [List.getElem_toArray, List.getElem_cons_succ, List.getElem_cons_zero, Act.put, List.setIfInBounds_toArray, List.set_cons_zero, List.set_cons_succ]
                refine wpAnyH_ready (rs := [4]) (by kernel_rfl) (by simp) ?_
                refine AllReadyH.cons (o := _) rfl (fun K hK => ?_) AllReadyH.nil
                go_simp
                (go_at_call 13; with_reducible refine (CE.out _ HBD.out).mono ?_; rintro e w9 ⟨rfl, H9⟩; have HA1 := hid (btr HBD.out H9); clear H9)
                (try go_wp2_with fail)
                refine hK.out _ _ ?_ (fun hHeld => ?_)
                · (try dsimp only); (first | done | trivial)
                clear hK K
                try simp only [List.getElem_toArray, List.getElem_cons_succ, List.getElem_cons_zero, Act.put, List.setIfInBounds_toArray, List.set_cons_zero, List.set_cons_succ]
                refine' wpAnyH_take (i := 5) (oi := _) (v := _) rfl (by kernel_rfl) (by kernel_rfl) (by kernel_rfl) (fun _ _ _ h => h) (Or.inl ⟨by kernel_rfl, ?hyq5⟩) (by assumption) ?restq5
                case hyq5 => (intro w hSw; (try dsimp only at hSw); go_simp; try (with_reducible rfl))
                try simp only [List.getElem_toArray, List.getElem_cons_succ, List.getElem_cons_zero, Act.put, List.setIfInBounds_toArray, List.set_cons_zero, List.set_cons_succ]
                refine wpAnyH_done (by kernel_rfl) ?_ _
                go_wp2
                go_ret
                exact ⟨rfl, btr HB.out (btr HB8.out (btr HJ.out HA1.out))⟩
              · obtain ⟨d, hd, d1, d2, d3⟩ := HNE.out haq
                have haq' : (a != qt) = true := by simpa using haq
                have hm1 : m = 1 := by rw [← HM.out, hd]; rfl
                have hm2 : m' = 2 := by have := HM'.out; omega
                subst hm2
                have HD := hid (show wr.cell? ⟨g, 14, none⟩ = some (.int .i64 4) ∧ wr.cell? ⟨g, 22, none⟩ = some (.int .u64 qt) ∧ wr.cell? ⟨g, 24, none⟩ = some (.int .i64 4) from by
                  obtain ⟨b1, o1, q1, l0, l1, l2, l3, l4, l5, l6, l7, l8, l9, l10, l11, l12⟩ := evz_cells HZX.out HJ.out (i := 1) (by rw [hd]; simp)
                  injection q1 with q1; injection q1 with q1 q1'; subst q1 q1'
                  simp only [hd, List.getElem_cons_succ, List.getElem_cons_zero, d1, d2, d3, Nat.zero_add, Nat.one_mul] at l1 l9 l11
                  exact ⟨l1, l9, l11⟩)
                obtain ⟨h14, h22, h24⟩ := HD.out
                clear hd d1 d2 d3 haq hm1
                go_upto_region 26 with fail
                go_big_quiet (fail)
                go_wp2
                go_ret
                exact ⟨by first | rfl | simp, btr HB.out (btr HB8.out (btr HJ.out (bdrew _ _)))⟩
end Go.Proofs.Ytfgcfiejkjhebaa
