/-
  The law of the kinds is walked.
-/
import Derived.Test.YtalgndgoedlpoaaRuKa
import Derived.Test.YtalgndgoedlpoaaRuKq
namespace Go.Proofs.Ytalgndgoedlpoaa
open Go.RowKit Go.Deep Go.Shelf
set_option linter.unusedVariables false
set_option linter.unusedSimpArgs false
set_option maxHeartbeats 8000000
set_option maxRecDepth 100000
theorem pl_do2 {w : World} {B : Nat} {b : Bs} {U : World} (c : Cm) (h : Pl w B b U) (hc : CmOk c) :
    Calls Try.prog 10 #[.pointer (some ⟨B, 0, none⟩), .agg (cmr c)] U fun e w' => ∃ b' p q es', e = .returned (.slice p es'.length q) ∧ Pl w B b' w' ∧ w'.ownsRow 0 58 13 (.slice p es'.length q) es'.length (evs es') ∧ Did b c b' es' ∧ Kp (b.fp B) U w' := by
  refine (do_any B b c U h.bm h.gb.vb hc).mono ?_
  rintro e w' ⟨T, b', ve', es', rfl, htd, hd⟩
  obtain ⟨p, q, rfl⟩ := own_form htd.tn.ev
  refine ⟨b', p, q, es', rfl, ⟨h.be.trans (htd.kp.below h.be.size (fun j hj hf => by have := h.nw j hf; omega)), htd.tn.bm, (hd.good h.gb hc).1, fun j hj => ?_⟩, htd.tn.ev, hd, htd.kp⟩
  rcases htd.fr j (.inr hj) with e | e
  · exact h.nw j e
  · exact Nat.le_trans h.be.size e
theorem bk_cells {U : World} {R : Nat} {b : Bs} {v1 v2 : Value} (hR : U.heap[R]? = some (.cells (bkv b v1 v2) 32 (0, 0))) : U.cell? ⟨R, 0, none⟩ = some (.int .i64 b.cap) ∧ U.cell? ⟨R, 1, none⟩ = some (.int .i64 b.meet) ∧ U.cell? ⟨R, 2, none⟩ = some v1 ∧ U.cell? ⟨R, 3, none⟩ = some v2 ∧ U.cell? ⟨R, 4, none⟩ = some (.int .u64 b.high) ∧ U.cell? ⟨R, 5, none⟩ = some (.int .u64 b.seq) := by
  have a0 := row_cell hR 0
  have a1 := row_cell hR 1
  have a2 := row_cell hR 2
  have a3 := row_cell hR 3
  have a4 := row_cell hR 4
  have a5 := row_cell hR 5
  simp only [bkv, List.getElem?_toArray, List.getElem?_cons_succ, List.getElem?_cons_zero] at a0 a1 a2 a3 a4 a5
  exact ⟨a0, a1, a2, a3, a4, a5⟩
/-- a told book lies beside the play. -/
structure Ly (W : World) (X : Nat) (b : Bs) (v1 v2 : Value) (U : World) : Prop where
  row : U.heap[X]? = some (.cells (bkv b v1 v2) 32 (0, 0))
  o1 : U.ownsRow W.heap.size 50 7 v1 b.l1.length (ors (osl b.l1))
  o2 : U.ownsRow W.heap.size 50 7 v2 b.l2.length (ors (osl b.l2))
  wx : W.heap.size ≤ X
theorem Ly.on {W : World} {X : Nat} {b : Bs} {v1 v2 : Value} {U V : World} (h : Ly W X b v1 v2 U) (hb : Below U.heap.size U V) : Ly W X b v1 v2 V := ⟨row_on h.row hb, own_on h.o1 hb, own_on h.o2 hb, h.wx⟩
theorem Ly.kept {W wr : World} {X B : Nat} {b b0 : Bs} {v1 v2 : Value} {U V : World} (h : Ly wr X b v1 v2 U) (hm0 : Bm wr B b0) (hm : Bm U B b0) (hk : Kp (b0.fp B) U V) : Ly wr X b v1 v2 V := by
  have hlt : ∀ g, b0.fp B g → g < wr.heap.size := fun g hg => by
    obtain ⟨c, t, e, _⟩ := hm0.ty hg
    exact row_lt e
  refine ⟨hk.row h.row (fun hf => hm.ne h.row (by decide) (by decide) (by decide) hf rfl), own_same h.o1 (fun g hg => ?_), own_same h.o2 (fun g hg => ?_), h.wx⟩
  · obtain ⟨c, e⟩ := own_ty h.o1 hg
    exact hk.obj g (row_lt e) (fun hf => by have := hlt g hf; have := (h.o1.lt g hg).1; omega)
  · obtain ⟨c, e⟩ := own_ty h.o2 hg
    exact hk.obj g (row_lt e) (fun hf => by have := hlt g hf; have := (h.o2.lt g hg).1; omega)
theorem Ly.told {W : World} {X : Nat} {b : Bs} {v1 v2 : Value} {U : World} (h : Ly W X b v1 v2 U) : Ly W X b.told v1 v2 (U.setCell ⟨X, 5, none⟩ (.int .u64 (nx b.seq))) := by
  have hk := Kp.set U X 5 (.int .u64 (nx b.seq))
  refine ⟨by rw [set_row _ h.row]; rfl, own_same h.o1 (fun g hg => ?_), own_same h.o2 (fun g hg => ?_), h.wx⟩
  · obtain ⟨c, e⟩ := own_ty h.o1 hg; exact hk.obj g (row_lt e) (row_ne e h.row (by decide))
  · obtain ⟨c, e⟩ := own_ty h.o2 hg; exact hk.obj g (row_lt e) (row_ne e h.row (by decide))
theorem Pl.set {w : World} {B : Nat} {b : Bs} {U : World} {X k : Nat} {v : Value} {c : Array Value} (h : Pl w B b U) (hX : U.heap[X]? = some (.cells c 32 (0, 0))) (hw : w.heap.size ≤ X) : Pl w B b (U.setCell ⟨X, k, none⟩ v) := by
  have hk := Kp.set U X k v
  exact ⟨h.be.trans (hk.below h.be.size (fun j hj e => by omega)), h.bm.kept hk (fun j hj => h.bm.ne hX (by decide) (by decide) (by decide) hj), h.gb, h.nw⟩
theorem trd_take {es : List Ev} {j : Nat} (hj : j < es.length) : trd (es.take (j + 1)) = trd (es.take j) + (if es[j].kd = 3 then es[j].qt else 0) := by
  rw [List.take_succ_eq_append_getElem hj, trd_append]
  simp [trd]
theorem trd_take_le {es : List Ev} (h : Pos es) (j : Nat) : 0 ≤ trd (es.take j) ∧ trd (es.take j) ≤ trd es := by
  have h1 : Pos (es.take j) := fun e he => h e (List.mem_of_mem_take he)
  have h2 : Pos (es.drop j) := fun e he => h e (List.mem_of_mem_drop he)
  have a := trd_pos h1
  have c := trd_pos h2
  have e : trd es = trd (es.take j) + trd (es.drop j) := by rw [← trd_append, List.take_append_drop]
  omega
theorem kinds_walk (cap meet : Int) (q : Option Addr) (lc : Nat) (l : List Cm) (W : World) (hl : Cmz W q l) (hok : ∀ c ∈ l, CmOk c) (hn : l.length ≤ maxLen) :
    Calls Try.prog 5 #[.agg #[.int .i64 cap, .int .i64 meet], .slice q l.length lc] W fun e w' => e = .returned (.bool true) ∧ Below W.heap.size W w' := by
  have CB := hid (fun U => begun_any cap meet U)
  obtain ⟨v, hv⟩ : ∃ v, cfg cap meet = v := ⟨_, rfl⟩
  rw [hv] at CB
  clear hv
  obtain ⟨n, hnn⟩ : ∃ n, l.length = n := ⟨_, rfl⟩
  have HN := hid hnn
  rw [hnn] at hn ⊢
  clear hnn
  have hn' : n < 9223372036854775808 := by unfold maxLen at hn; omega
  have HL := hid hl
  have HOK := hid hok
  have HB := hid (ball W (.cells #[.int .i64 cap, .int .i64 meet] 23))
  have hr := World.alloc_heap_new W (.cells #[.int .i64 cap, .int .i64 meet] 23)
  obtain ⟨W1, hW⟩ : ∃ W1, W.alloc (.cells #[.int .i64 cap, .int .i64 meet] 23) = W1 := ⟨_, rfl⟩
  rw [hW] at HB hr
  have HW := hid hW
  have c0 := row_cell hr 0
  have c1 := row_cell hr 1
  simp only [List.getElem?_toArray, List.getElem?_cons_succ, List.getElem?_cons_zero] at c0 c1
  clear hr hW hl hok
  cases v with
  | false =>
    have CB2 := hid ((CB.out W1).mono (R' := fun e w' => e = .returned (.tuple #[.pointer none, .bool true]) ∧ Below W1.heap.size W1 w') (by
      rintro e w' (⟨_, h1, h2⟩ | ⟨h, _⟩)
      · exact ⟨h1, h2⟩
      · cases h))
    go_enter Try.func5, Try.ntmps5
    go_upto_region 1 with fail
    have e0 := HW.out
    rw [e0]
    clear e0
    go_wp2_with (go_at_call 13; with_reducible refine (CB2.out).mono ?_; rintro e w1 ⟨rfl, hb1⟩; have HB1 := hid hb1; clear hb1)
    go_ret
    exact ⟨rfl, btr HB.out HB1.out⟩
  | true =>
    have CB2 := hid ((CB.out W1).mono (R' := fun e w' => ∃ B b, e = .returned (.tuple #[.pointer (some ⟨B, 0, none⟩), .bool true]) ∧ Pl W B b w') (by
      rintro e w' (⟨h, _⟩ | ⟨_, B, b, h1, h2, h3⟩)
      · cases h
      · exact ⟨B, b, h1, h2.back HB.out⟩))
    go_enter Try.func5, Try.ntmps5
    go_upto_region 1 with fail
    have e0 := HW.out
    rw [e0]
    clear e0
    go_wp2_with (go_at_call 13; with_reducible refine (CB2.out).mono ?_; rintro e w1 ⟨B, b0, rfl, h1⟩; have H1 := hid h1; clear h1)
    clear c0 c1
    go_loopw [7] (fun iv wr => ∃ (i : Nat) (b : Bs), i ≤ n ∧ iv = .int .i64 i ∧ Hid (Pl W B b wr)) (fun iv _ => n - (intOf iv).toNat)
    case atStart => exact ⟨0, b0, Nat.zero_le _, rfl, H1⟩
    case round =>
      obtain ⟨i, b, hin, rfl, HP⟩ := hrel
      by_cases hlt : i < n
      · have hil : i < l.length := by rw [HN.out]; exact hlt
        have hck := HOK.out l[i] (List.getElem_mem hil)
        have HCL := hid (fun (U : World) (hU : Below W.heap.size W U) => cmz_cells HL.out hU hil)
        obtain ⟨c, hc⟩ : ∃ c, l[i] = c := ⟨_, rfl⟩
        rw [hc] at hck HCL
        clear hc
        have HCK := hid hck
        clear hck
        obtain ⟨qb, qo, hq, _⟩ := HCL.out wr HP.out.be
        subst hq
        have i0' : (0 : Int) ≤ (i : Int) := by omega
        have i1 : (i : Int) < (n : Int) := by omega
        have CK := hid (book_any B b wr HP.out.bm HP.out.gb.vb.len)
        unfold bkv at CK
        go_upto_region 8 with (go_at_call 17; with_reducible refine (CK.out).mono ?_; rintro e w2 ⟨v1, v2, rfl, ho1, ho2, hb2⟩; obtain ⟨x1, y1, rfl⟩ := own_form ho1; obtain ⟨x2, y2, rfl⟩ := own_form ho2; have HO1 := hid ho1; have HO2 := hid ho2; have HB2 := hid hb2; clear ho1 ho2 hb2)
        obtain ⟨X, hX⟩ : ∃ X, w2.heap.size = X := ⟨_, rfl⟩
        obtain ⟨W2, hW2⟩ : ∃ W2, w2.alloc (.cells #[.int .i64 b.cap, .int .i64 b.meet, .slice x1 b.l1.length y1, .slice x2 b.l2.length y2, .int .u64 b.high, .int .u64 b.seq] 32) = W2 := ⟨_, rfl⟩
        have hbW : Below w2.heap.size w2 W2 := by rw [← hW2]; exact ball _ _
        have HP2 := hid ((HP.out.on HB2.out).on hbW)
        have HLY := hid (show Ly wr X b (.slice x1 b.l1.length y1) (.slice x2 b.l2.length y2) W2 from ⟨by rw [← hW2, ← hX]; exact World.alloc_heap_new _ _, own_on HO1.out hbW, own_on HO2.out hbW, by rw [← hX]; exact HB2.out.size⟩)
        rw [hX, hW2]
        clear hX hW2 hbW HO1 HO2 HB2
        have CD := hid (show Calls Try.prog 10 #[.pointer (some ⟨B, 0, none⟩), .agg (cmr c)] W2 fun e w' => ∃ b' p q es', e = .returned (.slice p es'.length q) ∧ Pl W B b' w' ∧ w'.ownsRow 0 58 13 (.slice p es'.length q) es'.length (evs es') ∧ Kd b c b' es' ∧ Ly wr X b (.slice x1 b.l1.length y1) (.slice x2 b.l2.length y2) w' from by
          refine (pl_do2 c HP2.out HCK.out).mono ?_
          rintro e w' ⟨b', p, q, es', h1, h2, h3, h4, h5⟩
          exact ⟨b', p, q, es', h1, h2, h3, did_kinds h4 HP.out.gb, HLY.out.kept (W := W) HP.out.bm HP2.out.bm h5⟩)
        unfold cmr at CD
        have HCX := hid (fun (U : World) (hU : Below W.heap.size W U) => (show U.cell? ⟨qb, qo + i * 9, none⟩ = some (.int .i64 c.kd) ∧ U.cell? ⟨qb, qo + i * 9 + 1, none⟩ = some (.int .u64 c.id) ∧ U.cell? ⟨qb, qo + i * 9 + 2, none⟩ = some (.int .u64 c.tg) ∧ U.cell? ⟨qb, qo + i * 9 + 3, none⟩ = some (.int .u32 c.mb) ∧ U.cell? ⟨qb, qo + i * 9 + 4, none⟩ = some (.int .i64 c.sd) ∧ U.cell? ⟨qb, qo + i * 9 + 5, none⟩ = some (.int .i64 c.ty) ∧ U.cell? ⟨qb, qo + i * 9 + 6, none⟩ = some (.int .i64 c.pr) ∧ U.cell? ⟨qb, qo + i * 9 + 7, none⟩ = some (.int .u64 c.qt) ∧ U.cell? ⟨qb, qo + i * 9 + 8, none⟩ = some (.int .u64 c.pk) from by
          obtain ⟨b1, o1, hq, a0, a1, a2, a3, a4, a5, a6, a7, a8⟩ := HCL.out U hU
          injection hq with hq
          injection hq with e1 e2 _
          subst e1
          subst e2
          exact ⟨a0, a1, a2, a3, a4, a5, a6, a7, a8⟩))
        obtain ⟨a0, a1, a2, a3, a4, a5, a6, a7, a8⟩ := HCX.out W2 HP2.out.be
        go_upto_region 9 with (go_at_call 10; with_reducible refine (CD.out).mono ?_; rintro e w3 ⟨b', p3, q3, es', rfl, h3, ho3, hk3, hy3⟩; have H3 := hid h3; have HO3 := hid ho3; have HK3 := hid hk3; have HY3 := hid hy3; clear h3 ho3 hk3 hy3)
        clear a0 a1 a2 a3 a4 a5 a6 a7 a8
        have hwX : W.heap.size ≤ X := Nat.le_trans HP.out.be.size HLY.out.wx
        rcases HK3.out with ⟨e, he, ekd, ecd, hb'⟩ | ⟨e, r, he, ekd, hk⟩
        · subst he
          subst hb'
          obtain ⟨g, cc, hp, _, _, hcc⟩ := ev_cells HO3.out (i := 0) (by simp)
          have hp' := (Value.slice.inj hp).1
          subst hp'
          have HEV := hid (fun (U : World) (hU : Below w3.heap.size w3 U ∨ ∃ V k v, Below w3.heap.size w3 V ∧ U = V.setCell ⟨X, k, none⟩ v) => (show U.cell? ⟨g, 1, none⟩ = some (.int .i64 2) ∧ U.cell? ⟨g, 12, none⟩ = some (.int .i64 e.cd) from by
            obtain ⟨_, _, hpp, _, ⟨cur, hcur⟩, _⟩ := ev_cells HO3.out (i := 0) (by simp)
            have hg := (Value.slice.inj hpp).1
            injection hg with hg
            injection hg with hg
            subst hg
            have hgX : g ≠ X := row_ne hcur HY3.out.row (by decide)
            have hrow : U.heap[g]? = w3.heap[g]? := by
              rcases hU with hU | ⟨V, k, v, hV, rfl⟩
              · exact hU.block g (row_lt hcur)
              · rw [(Kp.set V X k v).obj g (Nat.lt_of_lt_of_le (row_lt hcur) hV.size) hgX]
                exact hV.block g (row_lt hcur)
            have k1 := hcc 1 (by omega)
            have k2 := hcc 12 (by omega)
            simp [ecs] at k1 k2
            rw [ekd] at k1
            rw [row_cell hcur] at k1 k2
            rw [hcur] at hrow
            exact ⟨(row_cell hrow 1).trans k1, (row_cell hrow 12).trans k2⟩))
          have ecd' : (e.cd == 0) = false := by simpa using ecd
          clear hcc hp ecd ekd
          obtain ⟨m1, m2⟩ := HEV.out w3 (.inl (Below.refl _ _))
          have CK3 := hid (book_any B b.told w3 H3.out.bm H3.out.gb.vb.len)
          unfold bkv at CK3
          go_upto_region 13 with (go_at_call 17; with_reducible refine (CK3.out).mono ?_; rintro e w4 ⟨v3, v4, rfl, ho1, ho2, hb4⟩; obtain ⟨x3, y3, rfl⟩ := own_form ho1; obtain ⟨x4, y4, rfl⟩ := own_form ho2; have HO1 := hid ho1; have HO2 := hid ho2; have HB4 := hid hb4; clear ho1 ho2 hb4)
          obtain ⟨Y, hY⟩ : ∃ Y, w4.heap.size = Y := ⟨_, rfl⟩
          obtain ⟨W4, hW4⟩ : ∃ W4, w4.alloc (.cells #[.int .i64 b.told.cap, .int .i64 b.told.meet, .slice x3 b.told.l1.length y3, .slice x4 b.told.l2.length y4, .int .u64 b.told.high, .int .u64 b.told.seq] 32) = W4 := ⟨_, rfl⟩
          have hb4 : Below w4.heap.size w4 W4 := by rw [← hW4]; exact ball _ _
          have HB34 := hid (btr HB4.out hb4)
          have HP4 := hid (H3.out.on HB34.out)
          have HY4 := hid (HY3.out.on HB34.out)
          have HZ4 := hid (show Ly w3 Y b.told (.slice x3 b.told.l1.length y3) (.slice x4 b.told.l2.length y4) W4 from ⟨by rw [← hW4, ← hY]; exact World.alloc_heap_new _ _, own_on HO1.out hb4, own_on HO2.out hb4, by rw [← hY]; exact HB4.out.size⟩)
          rw [hY, hW4]
          clear hY hW4 hb4 HO1 HO2 HB4 CK3 m1 m2
          obtain ⟨s0, s1, s2, s3, s4, s5⟩ := bk_cells HY4.out.row
          have f5 := row_frz HY4.out.row 5
          go_upto_region 14 with fail
          obtain ⟨W5, hW5⟩ : ∃ W5, W4.setCell ⟨X, 5, none⟩ (.int .u64 (IntKind.u64.wrap (b.seq + 1))) = W5 := ⟨_, rfl⟩
          have hXY : X ≠ Y := by
            have a := row_lt HY3.out.row
            have := HZ4.out.wx
            omega
          have HP5 := hid (show Pl W B b.told W5 from by rw [← hW5]; exact HP4.out.set HY4.out.row hwX)
          have HY5 := hid (show Ly wr X b.told (.slice x1 b.l1.length y1) (.slice x2 b.l2.length y2) W5 from by rw [← hW5]; exact HY4.out.told)
          have hk5 : Kp (fun j => j = X) W4 W5 := by rw [← hW5]; exact Kp.set _ _ _ _
          have HZ5 := hid (show Ly w3 Y b.told (.slice x3 b.told.l1.length y3) (.slice x4 b.told.l2.length y4) W5 from by
            refine ⟨hk5.row HZ4.out.row (Ne.symm hXY), own_same HZ4.out.o1 (fun g hg => ?_), own_same HZ4.out.o2 (fun g hg => ?_), HZ4.out.wx⟩
            · obtain ⟨c, e⟩ := own_ty HZ4.out.o1 hg; exact hk5.obj g (row_lt e) (row_ne e HY4.out.row (by decide))
            · obtain ⟨c, e⟩ := own_ty HZ4.out.o2 hg; exact hk5.obj g (row_lt e) (row_ne e HY4.out.row (by decide)))
          obtain ⟨m1, m2⟩ := HEV.out W5 (.inr ⟨W4, 5, _, HB34.out, hW5.symm⟩)
          rw [hW5]
          clear hW5 hk5 s0 s1 s2 s3 s4 s5 f5
          have l1 : (osl b.told.l1).length = b.told.l1.length := by simp [osl]
          have l2 : (osl b.told.l2).length = b.told.l2.length := by simp [osl]
          have CE := hid (show Calls Try.prog 18 #[.agg (bkv b.told (.slice x1 b.l1.length y1) (.slice x2 b.l2.length y2)), .agg (bkv b.told (.slice x3 b.told.l1.length y3) (.slice x4 b.told.l2.length y4))] W5 fun e w' => e = .returned (.bool true) ∧ Below W5.heap.size W5 w' from
            books_same b.told (osl b.told.l1) (osl b.told.l2) _ _ _ _ W5 (by rw [l1]; exact own_base HY5.out.o1 (Nat.zero_le _)) (by rw [l2]; exact own_base HY5.out.o2 (Nat.zero_le _)) (by rw [l1]; exact own_base HZ5.out.o1 (Nat.zero_le _)) (by rw [l2]; exact own_base HZ5.out.o2 (Nat.zero_le _)))
          unfold bkv at CE
          clear l1 l2
          obtain ⟨s0, s1, s2, s3, s4, s5⟩ := bk_cells HY5.out.row
          obtain ⟨t0, t1, t2, t3, t4, t5⟩ := bk_cells HZ5.out.row
          go_wp2_with (go_at_call 18; with_reducible refine (CE.out).mono ?_; rintro e w6 ⟨rfl, hb6⟩; have HB6 := hid hb6; clear hb6)
          go_roundw
          case rel => exact ⟨i + 1, b.told, by omega, by go_num, hid (HP5.out.on HB6.out)⟩
          case measure => simp [intOf]; omega
        · obtain ⟨m, hm⟩ : ∃ m, es'.length = m := ⟨_, rfl⟩
          have hm0 : 0 < m := by rw [← hm, he]; simp
          obtain ⟨g, cc, hp, hmx, _, hcc⟩ := ev_cells HO3.out (i := 0) (by omega)
          have hp' := (Value.slice.inj hp).1
          subst hp'
          rw [hm] at hmx
          have hmx' : m < 9223372036854775808 := by unfold maxLen at hmx; omega
          have k1 := hcc 1 (by omega)
          have he0 : es'[0]'(by omega) = e := by simp [he]
          rw [he0] at k1
          simp [ecs] at k1
          have ekd' : (e.kd == 2) = false := by simpa using ekd
          have HM := hid hm
          have HKK := hid hk
          have hm1 : ((m : Int) == 0) = false := by
            have : (m : Int) ≠ 0 := by omega
            simpa using this
          rw [hm]
          clear hcc hp hmx he he0 ekd hk hm
          obtain ⟨a0, a1, a2, a3, a4, a5, a6, a7, a8⟩ := HCX.out w3 H3.out.be
          by_cases kd1 : c.kd = 1
          · obtain ⟨hpos, htr, hqt, hA, hB', hC⟩ := HKK.out kd1
            have CF := hid (findB_any B b' c.id w3 H3.out.bm H3.out.gb.vb.len)
            obtain ⟨fv, hfv⟩ : ∃ v, (fo b' c.id).2.2 = v := ⟨_, rfl⟩
            obtain ⟨fs, hfs⟩ : ∃ v, (fo b' c.id).2.1 = v := ⟨_, rfl⟩
            obtain ⟨fo', hfo⟩ : ∃ v, (fo b' c.id).1 = v := ⟨_, rfl⟩
            rw [hfv, hfs, hfo] at CF
            rw [hfv] at hA hB' hC
            unfold orow at CF
            rw [kd1] at a0
            have HPOS := hid hpos
            have HTR := hid htr
            have HA := hid hA
            have HBB := hid hB'
            have HCC := hid hC
            clear hfv hfs hfo hpos htr hA hB' hC
            go_upto_region 18 with (go_at_call 15; with_reducible refine (CF.out).mono ?_; rintro e w4 ⟨rfl, hb4⟩; have HB4 := hid hb4; clear hb4)
            obtain ⟨W5, hW5⟩ : ∃ W5, w4.alloc (.cells #[.int .u64 fo'.id, .int .u32 fo'.mb, .int .i64 fo'.ty, .int .i64 fo'.pr, .int .u64 fo'.vi, .int .u64 fo'.hi, .int .u64 fo'.pk] 50) = W5 := ⟨_, rfl⟩
            have HB5 := hid (show Below w3.heap.size w3 W5 from by rw [← hW5]; exact btr HB4.out (ball _ _))
            rw [hW5]
            clear hW5 HB4 a0 a1 a2 a3 a4 a5 a6 a7 a8 k1 ekd'
            have HP5 := hid (H3.out.on HB5.out)
            have HO5 := hid (own_on HO3.out HB5.out)
            obtain ⟨a0, a1, a2, a3, a4, a5, a6, a7, a8⟩ := HCX.out W5 HP5.out.be
            go_wp2_with fail
            go_loopw [14, 15] (fun dv jv wr' => ∃ (j : Nat) (d : Int), j ≤ m ∧ jv = .int .i64 j ∧ dv = .int .u64 d ∧ wr' = W5 ∧ Hid (trd (es'.take j) = d)) (fun _ jv _ => m - (intOf jv).toNat)
            case atStart => exact ⟨0, 0, Nat.zero_le _, rfl, rfl, rfl, hid rfl⟩
            case round =>
              obtain ⟨j, d, hjm, rfl, rfl, rfl, HD⟩ := hrel
              by_cases hjl : j < m
              · have hje : j < es'.length := by rw [HM.out]; exact hjl
                obtain ⟨g', cc', hp, _, _, hcc⟩ := ev_cells HO5.out hje
                have hp' := (Value.slice.inj hp).1
                injection hp' with hp'
                injection hp' with hp' _ _
                subst hp'
                obtain ⟨e', he'⟩ : ∃ e, es'[j] = e := ⟨_, rfl⟩
                rw [he'] at hcc
                have r1 := hcc 1 (by omega)
                have r9 := hcc 9 (by omega)
                simp only [ecs, List.getElem?_cons_succ, List.getElem?_cons_zero] at r1 r9
                have ht := trd_take hje
                rw [he', HD.out] at ht
                have hb1 := trd_take_le HPOS.out j
                have hb2 := trd_take_le HPOS.out (j + 1)
                rw [HD.out] at hb1
                have htr := HTR.out
                have j0' : (0 : Int) ≤ (j : Int) := by omega
                have j1 : (j : Int) < (m : Int) := by omega
                have HT := hid ht
                clear hcc hp he' cc' cc
                by_cases k3 : e'.kd = 3
                · rw [k3] at r1
                  have hw : IntKind.u64.wrap (d + e'.qt) = d + e'.qt := by
                    rw [if_pos k3] at ht
                    rw [IntKind.wrap_u64]
                    omega
                  have HWR := hid hw
                  clear ht hb1 hb2 htr hw
                  go_wp2
                  go_roundw
                  case rel =>
                    refine ⟨j + 1, _, by omega, by go_num, rfl, trivial, hid ?_⟩
                    rw [HT.out, if_pos k3, HWR.out]
                  case measure => simp [intOf]; omega
                · have k3' : (e'.kd == 3) = false := by simpa using k3
                  clear ht hb1 hb2 htr
                  go_wp2
                  go_roundw
                  case rel =>
                    refine ⟨j + 1, _, by omega, by go_num, rfl, trivial, hid ?_⟩
                    rw [HT.out, if_neg k3]
                    omega
                  case measure => simp [intOf]; omega
              · obtain rfl : j = m := by omega
                have hd := HD.out
                rw [List.take_of_length_le (by rw [HM.out]; exact Nat.le_refl _)] at hd
                have HDD := hid hd
                clear hd
                by_cases t2 : c.ty = 2
                · have := HA.out (.inl t2)
                  subst this
                  rw [t2] at a5
                  go_wp2
                  go_roundw
                  case rel => exact ⟨i + 1, b', by omega, by go_num, HP5⟩
                  case measure => simp [intOf]; omega
                · have t2' : (c.ty == 2) = false := by simpa using t2
                  by_cases t3 : c.ty = 3
                  · have := HA.out (.inr t3)
                    subst this
                    rw [t3] at a5
                    go_wp2
                    go_roundw
                    case rel => exact ⟨i + 1, b', by omega, by go_num, HP5⟩
                    case measure => simp [intOf]; omega
                  · have t3' : (c.ty == 3) = false := by simpa using t3
                    by_cases t4 : c.ty = 4
                    · obtain ⟨f1, f2⟩ := HBB.out t4
                      subst f1
                      rw [t4] at a5
                      rw [HDD.out] at f2
                      by_cases d0 : d = 0
                      · subst d0
                        clear f2
                        go_wp2
                        go_roundw
                        case rel => exact ⟨i + 1, b', by omega, by go_num, HP5⟩
                        case measure => simp [intOf]; omega
                      · have d0' : (d != 0) = true := by simpa using d0
                        have d1 : c.qt = d := by omega
                        rw [d1] at a7
                        clear f2
                        go_wp2
                        go_roundw
                        case rel => exact ⟨i + 1, b', by omega, by go_num, HP5⟩
                        case measure => simp [intOf]; omega
                    · have t4' : (c.ty == 4) = false := by simpa using t4
                      by_cases t5 : c.ty = 5
                      · obtain ⟨f1, f2⟩ := HCC.out t5
                        subst f1
                        rw [t5] at a5
                        rw [HDD.out] at f2
                        subst f2
                        go_wp2
                        go_roundw
                        case rel => exact ⟨i + 1, b', by omega, by go_num, HP5⟩
                        case measure => simp [intOf]; omega
                      · have t5' : (c.ty == 5) = false := by simpa using t5
                        go_wp2
                        go_roundw
                        case rel => exact ⟨i + 1, b', by omega, by go_num, HP5⟩
                        case measure => simp [intOf]; omega
          · have kd1' : (c.kd != 1) = true := by simpa using kd1
            go_wp2
            go_roundw
            case rel => exact ⟨i + 1, b', by omega, by go_num, H3⟩
            case measure => simp [intOf]; omega
      · obtain rfl : i = n := by omega
        go_wp2
        go_ret
        exact ⟨rfl, HP.out.be⟩
end Go.Proofs.Ytalgndgoedlpoaa
